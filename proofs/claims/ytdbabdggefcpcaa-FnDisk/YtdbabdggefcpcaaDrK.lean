/- A drawn disk (the model's l06Disk): what the call does. -/
import Derived.Test.YtdbabdggefcpcaaDkW
import Derived.Test.YtdbabdggefcpcaaBytes
import Derived.Test.YtdbabdggefcpcaaSrc2
namespace Go.Proofs.Ytdbabdggefcpcaa
open Go.RowKit


/-- While a disk is drawn: the source, the disk's block Q, its texts' row; the result's block. -/
structure DS (w0 : World) (a : Option Addr) (len cap : Nat) (zs : List Int) (w W : World) (S Q : Nat) (s : ByteArray) (v : Value) (n : Nat) (I : Nat → Tx) : Prop where
  src : Src w0 a len cap zs W S
  gro : w.grownBy W (some S)
  box : Bx W Q s v
  bfz : ∀ j, W.frozen? ⟨Q, j, none⟩ = false
  own : W.ownsRow (Q + 1) 9 1 v n (textsC I n)
  sml : ∀ i, i < n → (I i).small
  ss : s.size ≤ 1048576
  r0 : W.cell? ⟨w.heap.size, 0, none⟩ = some (.string ⟨#[]⟩)
  r1 : W.cell? ⟨w.heap.size, 1, none⟩ = some (.slice none 0 0)
  rf : ∀ j, W.frozen? ⟨w.heap.size, j, none⟩ = false
  lq : w.heap.size < Q
  ls : S < w.heap.size
  lo : w0.heap.size ≤ w.heap.size
theorem DS.grow {w0 : World} {a : Option Addr} {len cap : Nat} {zs : List Int} {w W W' : World} {S Q n : Nat} {s : ByteArray} {v : Value} {I : Nat → Tx} {row : Option Nat} (h : DS w0 a len cap zs w W S Q s v n I) (hs : Src w0 a len cap zs W' S) (hg : W.grownBy W' row) (h0 : some w.heap.size ≠ row) (h1 : some Q ≠ row) (h2 : ∀ k, row = some k → k = S ∨ w.heap.size ≤ k) (h3 : v.ownBlock = none ∨ v.ownBlock ≠ row) : DS w0 a len cap zs w W' S Q s v n I := by
  have hb := hg.block w.heap.size (by have := h.box.lt; have := h.lq; omega) h0
  have hq := hg.block Q h.box.lt h1
  refine ⟨hs, ⟨hg.os.trans h.gro.os, hg.tape.trans h.gro.tape, hg.output.trans h.gro.output, Nat.le_trans h.gro.size hg.size, fun k hk hne => ?_⟩, h.box.grown hg h1, fun j => (World.frozen?_of_block (a := ⟨Q, j, none⟩) hq).trans (h.bfz j), h.own.kept hg h3, h.sml, h.ss,
    (World.cell?_of_block (a := ⟨w.heap.size, 0, none⟩) hb).trans h.r0, (World.cell?_of_block (a := ⟨w.heap.size, 1, none⟩) hb).trans h.r1, fun j => (World.frozen?_of_block (a := ⟨w.heap.size, j, none⟩) hb).trans (h.rf j), h.lq, h.ls, h.lo⟩
  refine (hg.block k (Nat.lt_of_lt_of_le hk h.gro.size) (fun e => ?_)).trans (h.gro.block k hk hne)
  rcases h2 k e.symm with rfl | h2
  · exact hne rfl
  · omega
theorem DS.call {w0 : World} {a : Option Addr} {len cap : Nat} {zs : List Int} {w W W' : World} {S Q n : Nat} {s : ByteArray} {v : Value} {I : Nat → Tx} (h : DS w0 a len cap zs w W S Q s v n I) (hs : Src w0 a len cap zs W' S) (hg : W.grownBy W' (some S)) : DS w0 a len cap zs w W' S Q s v n I := by
  have := h.ls
  have := h.lq
  exact h.grow hs hg (by simp; omega) (by simp; omega) (fun k e => Or.inl (by simpa using e.symm)) (Or.inr (fun e => by have := (h.own.lt S e).1; omega))
theorem own_or (v : Value) : v.ownBlock = none ∨ v.ownBlock ≠ none := by
  cases v.ownBlock with
  | none => exact Or.inl rfl
  | some k => exact Or.inr (by simp)
theorem DS.quiet {w0 : World} {a : Option Addr} {len cap : Nat} {zs : List Int} {w W W' : World} {S Q n : Nat} {s : ByteArray} {v : Value} {I : Nat → Tx} (h : DS w0 a len cap zs w W S Q s v n I) (hg : W.grownBy W' none) : DS w0 a len cap zs w W' S Q s v n I :=
  h.grow (h.src.kept hg (fun k e => by cases e) (by simp)) hg (by simp) (by simp) (fun k e => by cases e) (own_or v)
theorem DS.alloc {w0 : World} {a : Option Addr} {len cap : Nat} {zs : List Int} {w W : World} {S Q n : Nat} {s : ByteArray} {v : Value} {I : Nat → Tx} (h : DS w0 a len cap zs w W S Q s v n I) (o : Obj) : DS w0 a len cap zs w (W.alloc o) S Q s v n I := h.quiet (World.grownBy_alloc W o none)
theorem DS.drew {w0 : World} {a : Option Addr} {len cap : Nat} {zs : List Int} {w W : World} {S Q n : Nat} {s : ByteArray} {v : Value} {I : Nat → Tx} (h : DS w0 a len cap zs w W S Q s v n I) : DS w0 a len cap zs w W.drew S Q s v n I := h.quiet (grown_drew (World.grownBy.refl W none))
/-- A store into the disk's block. -/
theorem DS.cells {w0 : World} {a : Option Addr} {len cap : Nat} {zs : List Int} {w W : World} {S Q n : Nat} {s : ByteArray} {v : Value} {I : Nat → Tx} (h : DS w0 a len cap zs w W S Q s v n I) (j : Nat) (u : Value) : Src w0 a len cap zs (W.setCell ⟨Q, j, none⟩ u) S ∧ w.grownBy (W.setCell ⟨Q, j, none⟩ u) (some S) ∧ (W.setCell ⟨Q, j, none⟩ u).cell? ⟨w.heap.size, 0, none⟩ = some (.string ⟨#[]⟩) ∧ (W.setCell ⟨Q, j, none⟩ u).cell? ⟨w.heap.size, 1, none⟩ = some (.slice none 0 0) ∧ (W.setCell ⟨Q, j, none⟩ u).ownsRow (Q + 1) 9 1 v n (textsC I n) := by
  have hg : W.grownBy (W.setCell ⟨Q, j, none⟩ u) (some Q) := setGrown (World.grownBy.refl _ _)
  have := h.ls
  have := h.lq
  have := h.lo
  refine ⟨h.src.kept hg (fun k e => by simp at e; omega) (by simp; omega), ⟨h.gro.os, h.gro.tape, h.gro.output, by simpa using h.gro.size, fun k hk hne => (hg.block k (Nat.lt_of_lt_of_le hk h.gro.size) (by simp; omega)).trans (h.gro.block k hk hne)⟩, ?_, ?_, own_cell h.own (by omega)⟩
  · rw [World.cell?_setCell_other _ _ _ _ (by first | (simp; done) | (simp; omega))]; exact h.r0
  · rw [World.cell?_setCell_other _ _ _ _ (by first | (simp; done) | (simp; omega))]; exact h.r1
/-- The row is another one, and is stored. -/
theorem DS.put {w0 : World} {a : Option Addr} {len cap : Nat} {zs : List Int} {w W W' : World} {S Q n n' : Nat} {s : ByteArray} {v v' : Value} {I J : Nat → Tx} {row : Option Nat} (h : DS w0 a len cap zs w W S Q s v n I) (hg : W.grownBy W' row) (hrow : ∀ k, row = some k → Q + 1 ≤ k) (hown : W'.ownsRow (Q + 1) 9 1 v' n' (textsC J n')) (hsm : ∀ i, i < n' → (J i).small) : DS w0 a len cap zs w (W'.setCell ⟨Q, 1, none⟩ v') S Q s v' n' J := by
  have hls := h.ls
  have hlq := h.lq
  have hlo := h.lo
  have hb := hg.block w.heap.size (by have := h.box.lt; omega) (fun e => by have := hrow _ e.symm; omega)
  have hq := hg.block Q h.box.lt (fun e => by have := hrow _ e.symm; omega)
  have hs' : Src w0 a len cap zs W' S := h.src.kept hg (fun k e => by have := hrow k e; omega) (fun e => by have := hrow _ e.symm; omega)
  have hg2 : W'.grownBy (W'.setCell ⟨Q, 1, none⟩ v') (some Q) := setGrown (World.grownBy.refl _ _)
  have hbx : Bx W' Q s v := h.box.grown hg (fun e => by have := hrow _ e.symm; omega)
  refine ⟨hs'.kept hg2 (fun k e => by simp at e; omega) (by simp; omega), ⟨hg.os.trans h.gro.os, hg.tape.trans h.gro.tape, hg.output.trans h.gro.output, Nat.le_trans h.gro.size (by simpa using hg.size), fun k hk hne => ?_⟩, hbx.set v', fun j => ?_, own_cell hown (by omega), hsm, h.ss, ?_, ?_, fun j => ?_, h.lq, h.ls, h.lo⟩
  · rw [hg2.block k (Nat.lt_of_lt_of_le hk (Nat.le_trans h.gro.size hg.size)) (by simp; omega), hg.block k (Nat.lt_of_lt_of_le hk h.gro.size) (fun e => by have := hrow k e.symm; omega)]
    exact h.gro.block k hk hne
  · simp only [World.frozen?_setCell]
    exact (World.frozen?_of_block (a := ⟨Q, j, none⟩) hq).trans (h.bfz j)
  · rw [World.cell?_setCell_other _ _ _ _ (by first | (simp; done) | (simp; omega))]
    exact (World.cell?_of_block (a := ⟨w.heap.size, 0, none⟩) hb).trans h.r0
  · rw [World.cell?_setCell_other _ _ _ _ (by first | (simp; done) | (simp; omega))]
    exact (World.cell?_of_block (a := ⟨w.heap.size, 1, none⟩) hb).trans h.r1
  · simp only [World.frozen?_setCell]
    exact (World.frozen?_of_block (a := ⟨w.heap.size, j, none⟩) hb).trans (h.rf j)
/-- The safe text is another one. -/
theorem DS.safe {w0 : World} {a : Option Addr} {len cap : Nat} {zs : List Int} {w W : World} {S Q n : Nat} {s s' : ByteArray} {v : Value} {I : Nat → Tx} (h : DS w0 a len cap zs w W S Q s v n I) (hs : s'.size ≤ 1048576) : DS w0 a len cap zs w (W.setCell ⟨Q, 0, none⟩ (.string s')) S Q s' v n I := by
  obtain ⟨h1, h2, h3, h4, h5⟩ := h.cells 0 (.string s')
  have a0 := h.box.c0
  refine ⟨h1, h2, ⟨by simp [go_sem, a0], ?_, by simpa using h.box.lt⟩, fun j => by simp only [World.frozen?_setCell]; exact h.bfz j, h5, h.sml, hs, h3, h4, fun j => by simp only [World.frozen?_setCell]; exact h.rf j, h.lq, h.ls, h.lo⟩
  rw [World.cell?_setCell_other _ _ _ _ (by simp)]; exact h.box.c1
theorem ds_row {w0 : World} {a : Option Addr} {len cap : Nat} {zs : List Int} {w W W' : World} {S Q n : Nat} {s : ByteArray} {v : Value} {I : Nat → Tx} {row : Option Nat} (h : DS w0 a len cap zs w W S Q s v n I) (hg : W.grownBy W' row) (hrow : ∀ k, row = some k → Q < k) (hv : ∀ k, v.ownBlock = some k → ∀ k', row = some k' → k ≠ k') : DS w0 a len cap zs w W' S Q s v n I := by
  have hls := h.ls
  have hlq := h.lq
  have hlo := h.lo
  refine h.grow (h.src.kept hg (fun k e => by have := hrow k e; omega) (fun e => by have := hrow _ e.symm; omega)) hg (fun e => by have := hrow _ e.symm; omega) (fun e => by have := hrow _ e.symm; omega) (fun k e => Or.inr (by have := hrow k e; omega)) ?_
  cases hb : v.ownBlock with
  | none => exact Or.inl rfl
  | some k => exact Or.inr (fun e => hv k hb k e.symm rfl)
def vlen : Value → Nat
  | .slice _ k _ => k
  | _ => 0
def lenAt (w : World) (Q : Nat) : Nat := match w.cell? ⟨Q, 1, none⟩ with | some (.slice _ k _) => k | _ => 0
theorem ds_app {w0 : World} {a : Option Addr} {len cap : Nat} {zs : List Int} {w W W' : World} {S Q n g2 cap2 : Nat} {s t : ByteArray} {v : Value} {I : Nat → Tx} {o : Obj} (h : DS w0 a len cap zs w W S Q s v n I) (hown : W'.ownsRow (Q + 1) 9 1 (.slice (some ⟨g2, 0, none⟩) (n + 1) cap2) (n + 1) (textsC I n ++ [.string t])) (hg : (W.alloc o).grownBy W' v.ownBlock) (ht : t.size ≤ 1048576) :
    W'.cell? ⟨Q, 0, none⟩ = some (.string s) ∧ W'.cell? ⟨Q, 1, none⟩ = some v ∧ (∀ j, W'.frozen? ⟨Q, j, none⟩ = false) ∧ Hid (DS w0 a len cap zs w (W'.setCell ⟨Q, 1, none⟩ (.slice (some ⟨g2, 0, none⟩) (n + 1) cap2)) S Q s (.slice (some ⟨g2, 0, none⟩) (n + 1) cap2) (n + 1) (snocT I n t)) := by
  have h1 := h.alloc o
  have hne : some Q ≠ v.ownBlock := fun e => by have := (h1.own.lt _ e.symm).1; omega
  have hb := h1.box.grown hg hne
  exact ⟨hb.c0, hb.c1, fun j => (World.frozen?_of_block (a := ⟨Q, j, none⟩) (hg.block Q h1.box.lt hne)).trans (h1.bfz j), h1.put hg (fun k e => (h1.own.lt k e).1) (by rw [textsC_snoc]; exact hown) (snoc_small h.sml ht)⟩
/-- What a drawn disk is. -/
def Drawn (w0 : World) (a : Option Addr) (len cap : Nat) (zs : List Int) (w : World) (S : Nat) (e : Ending) (w' : World) : Prop := ∃ s v n I, e = .returned (.agg #[.string s, v]) ∧ s.size ≤ 1048576 ∧ n ≤ 1048576 ∧ (∀ i, i < n → (I i).small) ∧ w'.ownsRow w.heap.size 9 1 v n (textsC I n) ∧ Src w0 a len cap zs w' S ∧ w.grownBy w' (some S)
theorem fin_disk {w0 : World} {a : Option Addr} {len cap : Nat} {zs : List Int} {w W : World} {S Q n : Nat} {s : ByteArray} {v : Value} {I : Nat → Tx} (h : DS w0 a len cap zs w W S Q s v n I) (hn : n ≤ 1048576) :
    Drawn w0 a len cap zs w S (.returned (.agg #[.string s, v])) ((W.setCell ⟨w.heap.size, 0, none⟩ (.string s)).setCell ⟨w.heap.size, 1, none⟩ v) := by
  have hls := h.ls
  have hlq := h.lq
  have hlo := h.lo
  have hg : W.grownBy ((W.setCell ⟨w.heap.size, 0, none⟩ (.string s)).setCell ⟨w.heap.size, 1, none⟩ v) (some w.heap.size) := setGrown (setGrown (World.grownBy.refl _ _))
  refine ⟨s, v, n, I, rfl, h.ss, hn, h.sml, own_base (own_cell (own_cell h.own (by omega)) (by omega)) (by omega), h.src.kept hg (fun k e => by simp at e; omega) (by simp; omega), ⟨h.gro.os, h.gro.tape, h.gro.output, by simpa using h.gro.size, fun k hk hne => ?_⟩⟩
  exact (hg.block k (Nat.lt_of_lt_of_le hk h.gro.size) (by simp; omega)).trans (h.gro.block k hk hne)
set_option maxRecDepth 100000 in
set_option maxHeartbeats 16000000 in
theorem draw_disk {w0 : World} {a : Option Addr} {len cap : Nat} {zs : List Int} {w : World} {S : Nat} (hS : Src w0 a len cap zs w S) :
    Calls Try.prog 38 #[.pointer (some ⟨S, 0, none⟩)] w fun e w' => Drawn w0 a len cap zs w S e w' := by
  obtain ⟨i0, hi, hz0, hz1, hz2⟩ := info_parts info9
  obtain ⟨j0, hj, hy0, hy1, hy2⟩ := info_parts info5
  have hls := hS.lt
  have HLO : Hid (w0.heap.size ≤ w.heap.size) := hS.below.size
  have HS : Hid (Src w0 a len cap zs (w.alloc (.cells #[.string ⟨#[]⟩, .slice none 0 0] 25)) S) := hS.alloc _
  have HR : Hid (∀ W, (w.alloc (.cells #[.string ⟨#[]⟩, .slice none 0 0] 25)).grownBy W (some S) → W.cell? ⟨w.heap.size, 0, none⟩ = some (.string ⟨#[]⟩) ∧ W.cell? ⟨w.heap.size, 1, none⟩ = some (.slice none 0 0) ∧ (∀ j, W.frozen? ⟨w.heap.size, j, none⟩ = false) ∧ w.heap.size < W.heap.size) := fun W hg => by
    have hb := hg.block w.heap.size (by simp) (by simp; omega)
    refine ⟨(World.cell?_of_block (a := ⟨w.heap.size, 0, none⟩) hb).trans (by simp), (World.cell?_of_block (a := ⟨w.heap.size, 1, none⟩) hb).trans (by simp), fun j => (World.frozen?_of_block (a := ⟨w.heap.size, j, none⟩) hb).trans (fnew' rfl j), ?_⟩
    have := hg.size; simp at this; omega
  clear hS
  go_enter Try.func38, Try.ntmps38
  go_wp2_with fail
  refine (draw_n HS.out 20 (by omega) (by omega)).mono ?_
  rintro e w1 ⟨r, rfl, hr0, hr1, hs1, hg1⟩
  obtain ⟨r, rfl⟩ : ∃ R : Nat, r = R := ⟨r.toNat, by omega⟩
  have HS1 : Hid (Src w0 a len cap zs w1 S) := hs1
  have HG1 : Hid ((w.alloc (.cells #[.string ⟨#[]⟩, .slice none 0 0] 25)).grownBy w1 (some S)) := hg1
  clear hs1 hg1 HS
  go_wp2_with fail
  refine (draw_bytes HS1.out r (by omega)).mono ?_
  rintro e w2 ⟨l0, rfl, hl0, hs2, hg2⟩
  obtain ⟨s, hs⟩ : ∃ s : ByteArray, s = ⟨l0.toArray⟩ := ⟨_, rfl⟩
  have hss : s.size ≤ 1048576 := by rw [hs]; show l0.toArray.size ≤ _; rw [List.size_toArray]; omega
  rw [← hs]
  have HD0 : Hid (DS w0 a len cap zs w (w2.alloc (.cells #[.string s, .slice none 0 0] 25)) S w2.heap.size s (.slice none 0 0) 0 (fun _ => ⟨⟨#[]⟩⟩)) := by
    have hgt := grown_trans HG1.out hg2
    obtain ⟨q0, q1, qf, ql⟩ := HR.out _ hgt
    have hal : w2.grownBy (w2.alloc (.cells #[.string s, .slice none 0 0] 25)) (some S) := World.grownBy_alloc _ _ _
    have hblk := hal.block w.heap.size ql (by simp; omega)
    exact ⟨hs2.alloc _, grown_over (grown_trans hgt hal), Bx.new _ _ _ _, fun j => fnew' rfl j, World.ownsRow_nil _ _ _ _, fun i hi => by omega, hss, (World.cell?_of_block (a := ⟨w.heap.size, 0, none⟩) hblk).trans q0, (World.cell?_of_block (a := ⟨w.heap.size, 1, none⟩) hblk).trans q1, fun j => (World.frozen?_of_block (a := ⟨w.heap.size, j, none⟩) hblk).trans (qf j), ql, hls, HLO.out⟩
  clear hs2 hg2 hs HS1 HG1 HR hl0 hr0 hr1
  go_wp2_with fail
  refine (draw_n HD0.out.src 5 (by omega) (by omega)).mono ?_
  rintro e w3 ⟨k0, rfl, hk0, hk1, hs3, hg3⟩
  obtain ⟨k0, rfl⟩ : ∃ R : Nat, k0 = R := ⟨k0.toNat, by omega⟩
  have HD1 : Hid (DS w0 a len cap zs w w3 S w2.heap.size s (.slice none 0 0) 0 (fun _ => ⟨⟨#[]⟩⟩)) := HD0.out.call hs3 hg3
  clear hs3 hg3 HD0
  go_wp2_with fail
  go_loopw [4] (fun x wr => ∃ (K n : Nat) (v : Value) (I : Nat → Tx), x = .int .i64 (K : Int) ∧ K + n ≤ 4 ∧ Hid (DS w0 a len cap zs w wr S w2.heap.size s v n I)) (fun x _ => (intOf x).toNat)
  case atStart => exact ⟨k0, 0, _, _, rfl, by omega, HD1⟩
  case round =>
    obtain ⟨K, n, v, I, rfl, hKn, HD'⟩ := hrel
    obtain ⟨av, cv, hv⟩ := own_slice HD'.out.own
    subst hv
    by_cases hK0 : K = 0
    · subst hK0
      have p0 : decide ((0 : Int) < ((0 : Nat) : Int)) = false := rfl
      go_wp2_with fail
      refine (draw_one HD'.out.src 20 (by omega) (by omega)).mono ?_
      rintro e w4 ⟨b, rfl, hs4, hg4⟩
      have HZ : Hid (DS w0 a len cap zs w w4 S w2.heap.size s (.slice av n cv) n I) := HD'.out.call hs4 hg4
      clear hs4 hg4 HD'
      cases b
      · have c0 := HZ.out.box.c0
        have c1 := HZ.out.box.c1
        have r0 := HZ.out.r0
        have r1 := HZ.out.r1
        have rf := HZ.out.rf
        go_wp2_with fail
        refine bodyPost_ret (v := .agg #[.string s, .slice av n cv]) ?_ rfl (fin_disk HZ.out (by omega))
        · simp [results, Try.results38, go_sem, r0, r1]
      · go_wp2_with fail
        refine (draw_n HZ.out.src 3 (by omega) (by omega)).mono ?_
        rintro e w5 ⟨r, rfl, hr0, hr1, hs5, hg5⟩
        have HD5 : Hid (DS w0 a len cap zs w w5 S w2.heap.size s (.slice av n cv) n I) := HZ.out.call hs5 hg5
        clear hs5 hg5 HZ
        rcases (by omega : r = 0 ∨ r = 1 ∨ r = 2) with rfl | rfl | rfl
        · obtain ⟨Q, hQ⟩ : ∃ Q, Q = w2.heap.size := ⟨_, rfl⟩
          rw [← hQ] at HD5 ⊢
          clear hQ
          obtain ⟨c0, c1, clt⟩ := HD5.out.box
          have q0 : ((0 : Int) == 0) = true := rfl
          go_wp2_with (refine wpList_append_lies _ rfl (.tmp 49) (.tmp 50) 23 rfl (Q + 1) 9 i0 (.string ⟨#[]⟩) 1 16 Try.underlying23 hi hz0 hz1 hz2 rfl (by decide) (.slice av n cv) n (textsC I n) rfl (HD5.out.alloc _).own ⟨w5.heap.size, 0, none⟩ 1 1 [.string ⟨#[]⟩] rfl rfl (news1 _ rfl) (ones1 _) (by omega) (by unfold maxLen; omega) (by omega) (by simp; omega) (w5.heap.size + 1) (by simp) ?_)
          intro g2 cap2 w6 hown6 hg6 hat hlt
          obtain ⟨f0, f1, ff, HE⟩ := ds_app HD5.out hown6 hg6 (t := ⟨#[]⟩) (Nat.zero_le _)
          clear hown6 hg6 hat hlt c0 c1 clt HD5
          have HZ : Hid (DS w0 a len cap zs w (w6.setCell ⟨Q, 1, none⟩ (.slice (some ⟨g2, 0, none⟩) (n + 1) cap2)) S Q s (.slice (some ⟨g2, 0, none⟩) (n + 1) cap2) (n + 1) (snocT I n ⟨#[]⟩)) := HE
          go_upto_region 18 with fail
          obtain ⟨W, hW⟩ : ∃ W, W = w6.setCell ⟨Q, 1, none⟩ (.slice (some ⟨g2, 0, none⟩) (n + 1) cap2) := ⟨_, rfl⟩
          rw [← hW] at HZ ⊢
          clear hW f0 f1 ff HE
          have c0 := HZ.out.box.c0
          have c1 := HZ.out.box.c1
          have r0 := HZ.out.r0
          have r1 := HZ.out.r1
          have rf := HZ.out.rf
          go_wp2_with fail
          refine bodyPost_ret (v := .agg #[.string s, .slice (some ⟨g2, 0, none⟩) (n + 1) cap2]) ?_ rfl (fin_disk HZ.out (by omega))
          · simp [results, Try.results38, go_sem, r0, r1]
        · have q0 : ((1 : Int) == 0) = false := rfl
          have q1 : ((1 : Int) == 1) = true := rfl
          obtain ⟨Q, hQ⟩ : ∃ Q, Q = w2.heap.size := ⟨_, rfl⟩
          rw [← hQ] at HD5 ⊢
          clear hQ
          go_wp2_with fail
          go_loopw [55] (fun _ wr => ∃ (n' : Nat) (v : Value) (J : Nat → Tx), n' ≤ 101 ∧ Hid (DS w0 a len cap zs w wr S Q s v n' J)) (fun _ wr => 101 - lenAt wr Q)
          case atStart => exact ⟨n, _, I, by omega, HD5⟩
          case round =>
            obtain ⟨n', v, J, hn', HD'⟩ := hrel
            obtain ⟨av', cv', hv⟩ := own_slice HD'.out.own
            subst hv
            obtain ⟨c0, c1, clt⟩ := HD'.out.box
            have HLN : Hid (lenAt wr Q = n') := by unfold lenAt; rw [c1]; rfl
            go_upto_region 16 with fail
            go_region_held3 (fun W => W.cell? ⟨Q, 1, none⟩ = some (.slice av' n' cv')) (go_keep) (first | (go_at_call 41; refine (draw_n HD'.out.drew.src 3 (by omega) (by omega)).mono ?_; rintro e w6 ⟨r, rfl, hr0, hr1, hs6, hg6⟩; have D6 := HD'.out.drew.call hs6 hg6; have c6 := D6.box.c1; have clt6 := D6.box.lt; have HD6 : Hid (DS w0 a len cap zs w w6 S Q s (.slice av' n' cv') n' J) := D6; clear D6 hs6 hg6; have hwr : IntKind.i64.wrap (99 + r) = 99 + r := IntWalk.i64_in _ (by omega)))
            by_cases hc : (n' : Int) < 99 + r
            · have t0 : decide ((n' : Int) < 99 + r) = true := by simpa using hc
              go_wp2_with (refine wpList_append_lies _ rfl (.tmp 63) (.tmp 64) 23 rfl (Q + 1) 9 i0 (.string ⟨#[]⟩) 1 16 Try.underlying23 hi hz0 hz1 hz2 rfl (by decide) (.slice av' n' cv') n' (textsC J n') rfl (HD6.out.alloc _).own ⟨w6.heap.size, 0, none⟩ 1 1 [.string ⟨#[120]⟩] rfl rfl (news1 _ rfl) (ones1 _) (by omega) (by unfold maxLen; omega) (by omega) (by simp; omega) (w6.heap.size + 1) (by simp) ?_)
              intro g2 cap2 w7 hown7 hg7 hat hlt
              obtain ⟨f0, f1, ff, HE⟩ := ds_app HD6.out hown7 hg7 (t := ⟨#[120]⟩) (by show 1 ≤ _; omega)
              have HLN2 : Hid (lenAt (w7.setCell ⟨Q, 1, none⟩ (.slice (some ⟨g2, 0, none⟩) (n' + 1) cap2)) Q = n' + 1) := by unfold lenAt; rw [HE.out.box.c1]; rfl
              clear hown7 hg7 hat hlt c0 c1 clt c6 clt6 HD6 HD'
              go_wp2_with fail
              go_roundw
              case rel => exact ⟨n' + 1, _, _, by omega, HE⟩
              case measure => rw [HLN2.out, HLN.out]; omega
            · have t0 : decide ((n' : Int) < 99 + r) = false := by simpa using hc
              have HZ : Hid (DS w0 a len cap zs w w6 S Q s (.slice av' n' cv') n' J) := HD6.out
              clear c0 c1 clt c6 clt6 HD'
              have c0 := HZ.out.box.c0
              have c1 := HZ.out.box.c1
              have r0 := HZ.out.r0
              have r1 := HZ.out.r1
              have rf := HZ.out.rf
              go_wp2_with fail
              refine bodyPost_ret (v := .agg #[.string s, .slice av' n' cv']) ?_ rfl (fin_disk HZ.out (by omega))
              · simp [results, Try.results38, go_sem, r0, r1]
        · have q0 : ((2 : Int) == 0) = false := rfl
          have q1 : ((2 : Int) == 1) = false := rfl
          obtain ⟨Q, hQ⟩ : ∃ Q, Q = w2.heap.size := ⟨_, rfl⟩
          rw [← hQ] at HD5 ⊢
          clear hQ
          have HB5 : Hid ((w5.alloc (.cells #[] 5)).ownsRow w5.heap.size 5 1 (.slice (some ⟨w5.heap.size, 0, none⟩) 0 0) 0 (Lib.byteCells [])) := own_new0 rfl (Nat.le_refl _)
          have HVB : Hid (∀ k, (Value.slice av n cv).ownBlock = some k → k < w5.heap.size) := fun k e => (HD5.out.own.lt k e).2
          have hQ5 : Q < w5.heap.size := HD5.out.box.lt
          go_wp2_with fail
          go_loopw [5] (fun vb wr => ∃ l : List UInt8, l.length ≤ 20003 ∧ Hid (wr.ownsRow w5.heap.size 5 1 vb l.length (Lib.byteCells l)) ∧ w5.heap.size ≤ wr.heap.size ∧ Hid (DS w0 a len cap zs w wr S Q s (.slice av n cv) n I)) (fun vb _ => 20003 - vlen vb)
          case atStart => exact ⟨[], by simp, HB5, by simp, HD5.out.alloc _⟩
          case round =>
            obtain ⟨l, hl, HB, hszr, HD'⟩ := hrel
            obtain ⟨bv, bc, hv⟩ := own_slice HB.out
            subst hv
            go_wp2_with fail
            refine (draw_n HD'.out.src 14 (by omega) (by omega)).mono ?_
            rintro e w6 ⟨r, rfl, hr0, hr1, hs6, hg6⟩
            have HD6 : Hid (DS w0 a len cap zs w w6 S Q s (.slice av n cv) n I) := HD'.out.call hs6 hg6
            have hS5 : S < w5.heap.size := by have := HD6.out.ls; have := HD6.out.lq; omega
            have HB6 : Hid (w6.ownsRow w5.heap.size 5 1 (.slice bv l.length bc) l.length (Lib.byteCells l)) := HB.out.kept hg6 (Or.inr (fun e => by have := (HB.out.lt S e).1; omega))
            have hsz6 : w5.heap.size ≤ w6.heap.size := Nat.le_trans hszr hg6.size
            have hgt : (w5.heap.size ≤ w6.heap.size) := hsz6
            clear hs6 hg6 HB HD'
            by_cases hc : (l.length : Int) < 19990 + r
            · have t0 : decide ((l.length : Int) < 19990 + r) = true := by simpa using hc
              go_wp2_with (refine wpList_append_lies _ rfl (.tmp 38) (.tmp 39) 22 rfl w5.heap.size 5 j0 (.int .u8 0) 1 1 Try.underlying22 hj hy0 hy1 hy2 rfl (by decide) (.slice bv l.length bc) l.length (Lib.byteCells l) rfl (HB6.out.alloc _) ⟨w6.heap.size, 0, none⟩ 1 1 [.int .u8 120] rfl rfl (one_cell _ _) (one_one _ _) (by omega) (by unfold maxLen; omega) (by omega) (by simp; omega) (w6.heap.size + 1) (by simp) ?_)
              intro g2 cap2 w7 hown7 hg7 hat hlt
              have hrow : ∀ k, (Value.slice bv l.length bc).ownBlock = some k → w5.heap.size ≤ k := fun k e => (HB6.out.lt k e).1
              have HD7 : Hid (DS w0 a len cap zs w w7 S Q s (.slice av n cv) n I) := ds_row (HD6.out.alloc _) hg7 (fun k e => by have := hrow k e; omega) (fun k e k' e' => by have := HVB.out k e; have := hrow k' e'; omega)
              have HB7 : Hid (w7.ownsRow w5.heap.size 5 1 (.slice (some ⟨g2, 0, none⟩) (l.length + 1) cap2) (l ++ [UInt8.ofNat 120]).length (Lib.byteCells (l ++ [UInt8.ofNat 120]))) := by
                rw [Lib.byteCells_append, List.length_append]; exact hown7
              have hsz7 : w5.heap.size ≤ w7.heap.size := by have := hg7.size; simp at this; omega
              clear hown7 hg7 hat hlt hrow HB6 HD6
              go_wp2_with fail
              go_roundw
              case rel => exact ⟨l ++ [UInt8.ofNat 120], by simp; omega, HB7, hsz7, HD7⟩
              case measure => simp [vlen]; omega
            · have t0 : decide ((l.length : Int) < 19990 + r) = false := by simpa using hc
              have hcv := str_of_own HB6.out
              obtain ⟨c0, c1, clt⟩ := HD6.out.box
              have cf := HD6.out.bfz
              have HD7 : Hid (DS w0 a len cap zs w (w6.setCell ⟨Q, 0, none⟩ (.string ⟨l.toArray⟩)) S Q ⟨l.toArray⟩ (.slice av n cv) n I) := HD6.out.safe (by show l.toArray.size ≤ _; rw [List.size_toArray]; omega)
              obtain ⟨sl, hsl⟩ : ∃ sl : ByteArray, sl = ⟨l.toArray⟩ := ⟨_, rfl⟩
              rw [← hsl] at hcv HD7
              have HD8 : Hid (DS w0 a len cap zs w (((w6.setCell ⟨Q, 0, none⟩ (.string sl)).alloc (.cells #[.string ⟨#[121, 121, 121, 121, 121, 121]⟩] 9)).setCell ⟨Q, 1, none⟩ (.slice (some ⟨w6.heap.size, 0, none⟩) 1 1)) S Q sl (.slice (some ⟨w6.heap.size, 0, none⟩) 1 1) 1 (oneT ⟨#[121, 121, 121, 121, 121, 121]⟩)) := HD7.out.put (World.grownBy_alloc _ _ none) (fun k e => by cases e) (by
                have := World.ownsRow_lit (base := Q + 1) (e := 9) (size := 1) (w6.setCell ⟨Q, 0, none⟩ (.string sl)) #[.string ⟨#[121, 121, 121, 121, 121, 121]⟩] 1 (by simp; omega) (by unfold maxLen; omega) rfl
                have t2 : ((w6.setCell ⟨Q, 0, none⟩ (.string sl)).alloc (.cells #[.string ⟨#[121, 121, 121, 121, 121, 121]⟩] 9)).ownsRow (Q + 1) 9 1 (.slice (some ⟨w6.heap.size, 0, none⟩) 1 1) 1 [.string ⟨#[121, 121, 121, 121, 121, 121]⟩] := by simpa using this
                exact t2) (fun i hi => by show 6 ≤ 1048576; omega)
              clear HB6 hsl
              go_upto_region 18 with fail
              have eW : (((w6.setCell ⟨Q, 0, none⟩ (.string sl)).alloc (.cells #[.string ⟨#[121, 121, 121, 121, 121, 121]⟩] 9)).setCell ⟨Q, 1, none⟩ (.slice (some ⟨w6.heap.size, 0, none⟩) 1 1)) = (((w6.setCell ⟨Q, 0, none⟩ (.string sl)).setCell ⟨Q, 1, none⟩ (.slice (some ⟨w6.heap.size, 0, none⟩) 1 1)).alloc (.cells #[.string ⟨#[121, 121, 121, 121, 121, 121]⟩] 9)) := World.setCell_alloc_past _ _ _ _ (by simpa using clt)
              rw [eW] at HD8
              obtain ⟨W, hW⟩ : ∃ W, W = (((w6.setCell ⟨Q, 0, none⟩ (.string sl)).setCell ⟨Q, 1, none⟩ (.slice (some ⟨w6.heap.size, 0, none⟩) 1 1)).alloc (.cells #[.string ⟨#[121, 121, 121, 121, 121, 121]⟩] 9)) := ⟨_, rfl⟩
              rw [← hW] at HD8 ⊢
              have HZ : Hid (DS w0 a len cap zs w W S Q sl (.slice (some ⟨w6.heap.size, 0, none⟩) 1 1) 1 (oneT ⟨#[121, 121, 121, 121, 121, 121]⟩)) := HD8.out
              clear hW eW HD8 HD7 HD6 hcv c0 c1 clt cf
              have c0 := HZ.out.box.c0
              have c1 := HZ.out.box.c1
              have r0 := HZ.out.r0
              have r1 := HZ.out.r1
              have rf := HZ.out.rf
              go_wp2_with fail
              refine bodyPost_ret (v := .agg #[.string sl, .slice (some ⟨w6.heap.size, 0, none⟩) 1 1]) ?_ rfl (fin_disk HZ.out (by omega))
              · simp [results, Try.results38, go_sem, r0, r1]

    obtain ⟨K, rfl⟩ : ∃ K', K = K' + 1 := ⟨K - 1, by omega⟩
    have p0 : decide ((0 : Int) < ((K + 1 : Nat) : Int)) = true := by simp
    have p0' : decide ((0 : Int) < (K : Int) + 1) = true := by rw [decide_eq_true_iff]; omega
    obtain ⟨Q, hQ⟩ : ∃ Q, Q = w2.heap.size := ⟨_, rfl⟩
    rw [← hQ] at HD' ⊢
    have HQ : Hid (Q = w2.heap.size) := hQ
    clear hQ
    have HD : Hid (DS w0 a len cap zs w wr S Q s (.slice av n cv) n I) := HD'.out
    obtain ⟨c0, c1, clt⟩ := HD.out.box
    clear HD'
    go_upto_region 5 with fail
    refine wp_region_any (by kernel_rfl) ?_
    try (change wpAny _ _ _ _ _ _ _ (World.drew _))
    refine wpAny_take (i := 0) (v := ?_) rfl (by kernel_rfl) (by kernel_rfl) (by kernel_rfl) (fun _ _ _ h => h) (Or.inl ⟨by rfl, ?_⟩) ?_
    rotate_left 1
    · first | (intro w; go_simp; done) | (intro w; go_simp; with_reducible rfl)
    try go_simp
    refine wpAny_take (i := 2) (v := ?_) rfl (by kernel_rfl) (by kernel_rfl) (by kernel_rfl) (fun _ _ _ h => h) (Or.inl ⟨by rfl, ?_⟩) ?_
    rotate_left 1
    · first | (intro w; go_simp; done) | (intro w; go_simp; with_reducible rfl)
    try go_simp
    refine wpAny_take (i := 3) (v := ?_) rfl (by kernel_rfl) (by kernel_rfl) (by kernel_rfl) (fun _ _ _ h => h) (Or.inl ⟨by rfl, ?_⟩) ?_
    rotate_left 1
    · first | (intro w; go_simp; done) | (intro w; go_simp; with_reducible rfl)
    try go_simp
    refine wpAny_ready (rs := [1, 4]) (by kernel_rfl) (by simp) ?_
    refine AllReady.cons rfl (fun K hK => ?_) (AllReady.cons rfl (fun K hK => ?_) AllReady.nil)
    · go_simp
      refine hK _ _ ?_
      clear hK K
      try go_simp
      refine wpAny_ready (rs := [4]) (by kernel_rfl) (by simp) ?_
      refine AllReady.cons rfl (fun K hK => ?_) AllReady.nil
      · go_simp
        go_wp2_with (first | (go_at_call 41; refine (draw_n HD.out.drew.src 9 (by omega) (by omega)).mono ?_; rintro e w3 ⟨r, rfl, hr0, hr1, hs3, hg3⟩; have D3 := HD.out.drew.call hs3 hg3; have c3 := D3.box.c1; have clt3 := D3.box.lt; have HD3 : Hid (DS w0 a len cap zs w w3 S Q s (.slice av n cv) n I) := D3; clear D3 hs3 hg3))
        try go_simp
        obtain ⟨m, hm⟩ : ∃ m : Nat, 1 + r = (m : Int) := ⟨(1 + r).toNat, by omega⟩
        have hwr : IntKind.i64.wrap (1 + r) = (m : Int) := by rw [IntWalk.i64_in _ (by omega)]; omega
        have hml : m ≤ 9 := by omega
        have hwm : IntKind.i64.wrap (m : Int) = (m : Int) := IntWalk.i64_in _ (by omega)
        refine wpAny_take (i := 5) (v := ?_) rfl (by kernel_rfl) (by kernel_rfl) (by kernel_rfl) (fun _ _ _ h => h) (Or.inl ⟨by rfl, ?_⟩) ?_
        rotate_left 1
        · first | (intro w; go_simp; done) | (intro w; go_simp; with_reducible rfl)
        try go_simp
        refine wpAny_ready (rs := [6]) (by kernel_rfl) (by simp) ?_
        refine AllReady.cons rfl (fun K hK => ?_) AllReady.nil
        · go_simp
          go_wp2_with (first | (go_at_call 66; refine (draw_bytes HD3.out.src m (by omega)).mono ?_; rintro e w4 ⟨l, rfl, hl, hs4, hg4⟩; have D4 := HD3.out.call hs4 hg4; have c4 := D4.box.c1; have clt4 := D4.box.lt; have HD4 : Hid (DS w0 a len cap zs w w4 S Q s (.slice av n cv) n I) := D4; clear D4 hs4 hg4))
          try go_simp
          refine wpAny_ready (rs := [7]) (by kernel_rfl) (by simp) ?_
          refine AllReady.cons rfl (fun K hK => ?_) AllReady.nil
          · go_simp
            refine hK _ _ ?_
            clear hK K
            try go_simp
            refine wpAny_ready (rs := [8]) (by kernel_rfl) (by simp) ?_
            refine AllReady.cons rfl (fun K hK => ?_) AllReady.nil
            · refine step_append_lies _ (by rfl) _ _ _ (by rfl) (Q + 1) 9 i0 (.string ⟨#[]⟩) 1 16 Try.underlying23 hi hz0 hz1 hz2 (by rfl) (by decide) (.slice av n cv) n (textsC I n) (by rfl) (HD4.out.alloc _).own ⟨w4.heap.size, 0, none⟩ 1 1 [.string ⟨l.toArray⟩] (by rfl) (by rfl) (news1 _ rfl) (ones1 _) (by omega) (by unfold maxLen; omega) (by omega) (by simp; omega) (w4.heap.size + 1) (by simp) ?_
              intro g2 cap2 w5 hown5 hg5 hat hlt
              obtain ⟨f0, f1, ff, HE⟩ := ds_app HD4.out hown5 hg5 (t := ⟨l.toArray⟩) (by show l.toArray.size ≤ _; rw [List.size_toArray]; omega)
              refine hK _ _ ?_
              clear hK K
              try go_simp
              refine wpAny_take (i := 9) (v := ?_) rfl (by kernel_rfl) (by kernel_rfl) (by kernel_rfl) (fun _ _ _ h => h) (Or.inl ⟨by rfl, ?_⟩) ?_
              rotate_left 1
              · first | (intro w; go_simp; done) | (intro w; go_simp; with_reducible rfl)
              try go_simp
              refine wpAny_ready (rs := [10]) (by kernel_rfl) (by simp) ?_
              refine AllReady.cons rfl (fun K hK => ?_) AllReady.nil
              · go_simp
                refine hK _ _ ?_
                clear hK K
                try go_simp
                refine wpAny_done (by kernel_rfl) ?_ _
                clear hown5 hg5 hat hlt f0 f1 ff
                go_wp2_with fail
                go_roundw
                case rel =>
                  have e := HQ.out
                  exact ⟨K, n + 1, _, _, by go_num, by omega, HE⟩
                case measure => first | (simp [intOf]; done) | (simp [intOf]; omega)
    · go_simp
      go_wp2_with (first | (go_at_call 41; refine (draw_n HD.out.drew.src 9 (by omega) (by omega)).mono ?_; rintro e w3 ⟨r, rfl, hr0, hr1, hs3, hg3⟩; have D3 := HD.out.drew.call hs3 hg3; have c3 := D3.box.c1; have clt3 := D3.box.lt; have HD3 : Hid (DS w0 a len cap zs w w3 S Q s (.slice av n cv) n I) := D3; clear D3 hs3 hg3))
      try go_simp
      obtain ⟨m, hm⟩ : ∃ m : Nat, 1 + r = (m : Int) := ⟨(1 + r).toNat, by omega⟩
      have hwr : IntKind.i64.wrap (1 + r) = (m : Int) := by rw [IntWalk.i64_in _ (by omega)]; omega
      have hml : m ≤ 9 := by omega
      have hwm : IntKind.i64.wrap (m : Int) = (m : Int) := IntWalk.i64_in _ (by omega)
      refine wpAny_take (i := 5) (v := ?_) rfl (by kernel_rfl) (by kernel_rfl) (by kernel_rfl) (fun _ _ _ h => h) (Or.inl ⟨by rfl, ?_⟩) ?_
      rotate_left 1
      · first | (intro w; go_simp; done) | (intro w; go_simp; with_reducible rfl)
      try go_simp
      refine wpAny_ready (rs := [1, 6]) (by kernel_rfl) (by simp) ?_
      refine AllReady.cons rfl (fun K hK => ?_) (AllReady.cons rfl (fun K hK => ?_) AllReady.nil)
      · go_simp
        refine hK _ _ ?_
        clear hK K
        try go_simp
        refine wpAny_ready (rs := [6]) (by kernel_rfl) (by simp) ?_
        refine AllReady.cons rfl (fun K hK => ?_) AllReady.nil
        · go_simp
          go_wp2_with (first | (go_at_call 66; refine (draw_bytes HD3.out.src m (by omega)).mono ?_; rintro e w4 ⟨l, rfl, hl, hs4, hg4⟩; have D4 := HD3.out.call hs4 hg4; have c4 := D4.box.c1; have clt4 := D4.box.lt; have HD4 : Hid (DS w0 a len cap zs w w4 S Q s (.slice av n cv) n I) := D4; clear D4 hs4 hg4))
          try go_simp
          refine wpAny_ready (rs := [7]) (by kernel_rfl) (by simp) ?_
          refine AllReady.cons rfl (fun K hK => ?_) AllReady.nil
          · go_simp
            refine hK _ _ ?_
            clear hK K
            try go_simp
            refine wpAny_ready (rs := [8]) (by kernel_rfl) (by simp) ?_
            refine AllReady.cons rfl (fun K hK => ?_) AllReady.nil
            · refine step_append_lies _ (by rfl) _ _ _ (by rfl) (Q + 1) 9 i0 (.string ⟨#[]⟩) 1 16 Try.underlying23 hi hz0 hz1 hz2 (by rfl) (by decide) (.slice av n cv) n (textsC I n) (by rfl) (HD4.out.alloc _).own ⟨w4.heap.size, 0, none⟩ 1 1 [.string ⟨l.toArray⟩] (by rfl) (by rfl) (news1 _ rfl) (ones1 _) (by omega) (by unfold maxLen; omega) (by omega) (by simp; omega) (w4.heap.size + 1) (by simp) ?_
              intro g2 cap2 w5 hown5 hg5 hat hlt
              obtain ⟨f0, f1, ff, HE⟩ := ds_app HD4.out hown5 hg5 (t := ⟨l.toArray⟩) (by show l.toArray.size ≤ _; rw [List.size_toArray]; omega)
              refine hK _ _ ?_
              clear hK K
              try go_simp
              refine wpAny_take (i := 9) (v := ?_) rfl (by kernel_rfl) (by kernel_rfl) (by kernel_rfl) (fun _ _ _ h => h) (Or.inl ⟨by rfl, ?_⟩) ?_
              rotate_left 1
              · first | (intro w; go_simp; done) | (intro w; go_simp; with_reducible rfl)
              try go_simp
              refine wpAny_ready (rs := [10]) (by kernel_rfl) (by simp) ?_
              refine AllReady.cons rfl (fun K hK => ?_) AllReady.nil
              · go_simp
                refine hK _ _ ?_
                clear hK K
                try go_simp
                refine wpAny_done (by kernel_rfl) ?_ _
                clear hown5 hg5 hat hlt f0 f1 ff
                go_wp2_with fail
                go_roundw
                case rel =>
                  have e := HQ.out
                  exact ⟨K, n + 1, _, _, by go_num, by omega, HE⟩
                case measure => first | (simp [intOf]; done) | (simp [intOf]; omega)
      · go_simp
        go_wp2_with (first | (go_at_call 66; refine (draw_bytes HD3.out.src m (by omega)).mono ?_; rintro e w4 ⟨l, rfl, hl, hs4, hg4⟩; have D4 := HD3.out.call hs4 hg4; have c4 := D4.box.c1; have clt4 := D4.box.lt; have HD4 : Hid (DS w0 a len cap zs w w4 S Q s (.slice av n cv) n I) := D4; clear D4 hs4 hg4))
        try go_simp
        refine wpAny_ready (rs := [1, 7]) (by kernel_rfl) (by simp) ?_
        refine AllReady.cons rfl (fun K hK => ?_) (AllReady.cons rfl (fun K hK => ?_) AllReady.nil)
        · go_simp
          refine hK _ _ ?_
          clear hK K
          try go_simp
          refine wpAny_ready (rs := [7]) (by kernel_rfl) (by simp) ?_
          refine AllReady.cons rfl (fun K hK => ?_) AllReady.nil
          · go_simp
            refine hK _ _ ?_
            clear hK K
            try go_simp
            refine wpAny_ready (rs := [8]) (by kernel_rfl) (by simp) ?_
            refine AllReady.cons rfl (fun K hK => ?_) AllReady.nil
            · refine step_append_lies _ (by rfl) _ _ _ (by rfl) (Q + 1) 9 i0 (.string ⟨#[]⟩) 1 16 Try.underlying23 hi hz0 hz1 hz2 (by rfl) (by decide) (.slice av n cv) n (textsC I n) (by rfl) (HD4.out.alloc _).own ⟨w4.heap.size, 0, none⟩ 1 1 [.string ⟨l.toArray⟩] (by rfl) (by rfl) (news1 _ rfl) (ones1 _) (by omega) (by unfold maxLen; omega) (by omega) (by simp; omega) (w4.heap.size + 1) (by simp) ?_
              intro g2 cap2 w5 hown5 hg5 hat hlt
              obtain ⟨f0, f1, ff, HE⟩ := ds_app HD4.out hown5 hg5 (t := ⟨l.toArray⟩) (by show l.toArray.size ≤ _; rw [List.size_toArray]; omega)
              refine hK _ _ ?_
              clear hK K
              try go_simp
              refine wpAny_take (i := 9) (v := ?_) rfl (by kernel_rfl) (by kernel_rfl) (by kernel_rfl) (fun _ _ _ h => h) (Or.inl ⟨by rfl, ?_⟩) ?_
              rotate_left 1
              · first | (intro w; go_simp; done) | (intro w; go_simp; with_reducible rfl)
              try go_simp
              refine wpAny_ready (rs := [10]) (by kernel_rfl) (by simp) ?_
              refine AllReady.cons rfl (fun K hK => ?_) AllReady.nil
              · go_simp
                refine hK _ _ ?_
                clear hK K
                try go_simp
                refine wpAny_done (by kernel_rfl) ?_ _
                clear hown5 hg5 hat hlt f0 f1 ff
                go_wp2_with fail
                go_roundw
                case rel =>
                  have e := HQ.out
                  exact ⟨K, n + 1, _, _, by go_num, by omega, HE⟩
                case measure => first | (simp [intOf]; done) | (simp [intOf]; omega)
        · go_simp
          refine hK _ _ ?_
          clear hK K
          try go_simp
          refine wpAny_ready (rs := [1]) (by kernel_rfl) (by simp) ?_
          refine AllReady.cons rfl (fun K hK => ?_) AllReady.nil
          · go_simp
            refine hK _ _ ?_
            clear hK K
            try go_simp
            refine wpAny_ready (rs := [8]) (by kernel_rfl) (by simp) ?_
            refine AllReady.cons rfl (fun K hK => ?_) AllReady.nil
            · refine step_append_lies _ (by rfl) _ _ _ (by rfl) (Q + 1) 9 i0 (.string ⟨#[]⟩) 1 16 Try.underlying23 hi hz0 hz1 hz2 (by rfl) (by decide) (.slice av n cv) n (textsC I n) (by rfl) (HD4.out.alloc _).own ⟨w4.heap.size, 0, none⟩ 1 1 [.string ⟨l.toArray⟩] (by rfl) (by rfl) (news1 _ rfl) (ones1 _) (by omega) (by unfold maxLen; omega) (by omega) (by simp; omega) (w4.heap.size + 1) (by simp) ?_
              intro g2 cap2 w5 hown5 hg5 hat hlt
              obtain ⟨f0, f1, ff, HE⟩ := ds_app HD4.out hown5 hg5 (t := ⟨l.toArray⟩) (by show l.toArray.size ≤ _; rw [List.size_toArray]; omega)
              refine hK _ _ ?_
              clear hK K
              try go_simp
              refine wpAny_take (i := 9) (v := ?_) rfl (by kernel_rfl) (by kernel_rfl) (by kernel_rfl) (fun _ _ _ h => h) (Or.inl ⟨by rfl, ?_⟩) ?_
              rotate_left 1
              · first | (intro w; go_simp; done) | (intro w; go_simp; with_reducible rfl)
              try go_simp
              refine wpAny_ready (rs := [10]) (by kernel_rfl) (by simp) ?_
              refine AllReady.cons rfl (fun K hK => ?_) AllReady.nil
              · go_simp
                refine hK _ _ ?_
                clear hK K
                try go_simp
                refine wpAny_done (by kernel_rfl) ?_ _
                clear hown5 hg5 hat hlt f0 f1 ff
                go_wp2_with fail
                go_roundw
                case rel =>
                  have e := HQ.out
                  exact ⟨K, n + 1, _, _, by go_num, by omega, HE⟩
                case measure => first | (simp [intOf]; done) | (simp [intOf]; omega)
end Go.Proofs.Ytdbabdggefcpcaa
