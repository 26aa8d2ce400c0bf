/- Records read one behind the other (spec.RecsOf): what the call does. -/
import Derived.Test.YtdbabdggefcpcaaDoorRcS
import Derived.Deep.QuietTactic
import Derived.BigQuiet
namespace Go.Proofs.YtdbabdggefcpcaaDoor
open Go.RowKit
open Go.Proofs.YtdbabdggefcpcaaDoor.Draw

/-- The result's block and the outcome's, while records are read. -/
structure Ro (w W : World) (v : Value) (u : Int) : Prop where
  o0 : W.cell? ⟨w.heap.size + 1, 0, none⟩ = some v
  o1 : W.cell? ⟨w.heap.size + 1, 1, none⟩ = some (.int .i64 u)
  o2 : W.cell? ⟨w.heap.size + 1, 2, none⟩ = some (.int .i64 0)
  of : ∀ j, W.frozen? ⟨w.heap.size + 1, j, none⟩ = false
  x0 : W.cell? ⟨w.heap.size, 0, none⟩ = some (.slice none 0 0)
  x1 : W.cell? ⟨w.heap.size, 1, none⟩ = some (.int .i64 0)
  x2 : W.cell? ⟨w.heap.size, 2, none⟩ = some (.int .i64 0)
  xf : ∀ j, W.frozen? ⟨w.heap.size, j, none⟩ = false
  lt : w.heap.size + 2 ≤ W.heap.size
  bel : Below w.heap.size w W
theorem Ro.next {w W W' : World} {v : Value} {u : Int} (h : Ro w W v u) (hb : Below W.heap.size W W') : Ro w W' v u := by
  have hl := h.lt
  have l0 : w.heap.size < W.heap.size := by omega
  have l1 : w.heap.size + 1 < W.heap.size := by omega
  exact ⟨(hb.cell (p := ⟨w.heap.size + 1, 0, none⟩) l1).trans h.o0, (hb.cell (p := ⟨w.heap.size + 1, 1, none⟩) l1).trans h.o1, (hb.cell (p := ⟨w.heap.size + 1, 2, none⟩) l1).trans h.o2, fun j => (hb.frozen (p := ⟨w.heap.size + 1, j, none⟩) l1).trans (h.of j),
    (hb.cell (p := ⟨w.heap.size, 0, none⟩) l0).trans h.x0, (hb.cell (p := ⟨w.heap.size, 1, none⟩) l0).trans h.x1, (hb.cell (p := ⟨w.heap.size, 2, none⟩) l0).trans h.x2, fun j => (hb.frozen (p := ⟨w.heap.size, j, none⟩) l0).trans (h.xf j), Nat.le_trans hl hb.size, h.bel.trans (hb.mono h.bel.size)⟩
theorem Ro.grown {w W W' : World} {v : Value} {u : Int} {row : Option Nat} (h : Ro w W v u) (hg : W.grownBy W' row) (hr : ∀ b, row = some b → w.heap.size + 2 ≤ b) : Ro w W' v u := by
  have hl := h.lt
  have g0 := hg.block w.heap.size (by omega) (fun e => by have := hr _ e.symm; omega)
  have g1 := hg.block (w.heap.size + 1) (by omega) (fun e => by have := hr _ e.symm; omega)
  exact ⟨(World.cell?_of_block (a := ⟨w.heap.size + 1, 0, none⟩) g1).trans h.o0, (World.cell?_of_block (a := ⟨w.heap.size + 1, 1, none⟩) g1).trans h.o1, (World.cell?_of_block (a := ⟨w.heap.size + 1, 2, none⟩) g1).trans h.o2, fun j => (World.frozen?_of_block (a := ⟨w.heap.size + 1, j, none⟩) g1).trans (h.of j),
    (World.cell?_of_block (a := ⟨w.heap.size, 0, none⟩) g0).trans h.x0, (World.cell?_of_block (a := ⟨w.heap.size, 1, none⟩) g0).trans h.x1, (World.cell?_of_block (a := ⟨w.heap.size, 2, none⟩) g0).trans h.x2, fun j => (World.frozen?_of_block (a := ⟨w.heap.size, j, none⟩) g0).trans (h.xf j), Nat.le_trans hl hg.size, h.bel.grown hg (by omega) (fun b e => by have := hr b e; omega)⟩
theorem Ro.set {w W : World} {v v' : Value} {u u' : Int} (h : Ro w W v u) : Ro w ((W.setCell ⟨w.heap.size + 1, 0, none⟩ v').setCell ⟨w.heap.size + 1, 1, none⟩ (.int .i64 u')) v' u' := by
  obtain ⟨o0, o1, o2, ofz, x0, x1, x2, xf, xlt, xbel⟩ := h
  refine ⟨?_, ?_, ?_, fun j => ?_, ?_, ?_, ?_, fun j => ?_, by simpa using xlt, (xbel.setCell (by show w.heap.size ≤ w.heap.size + 1; omega) _).setCell (by show w.heap.size ≤ w.heap.size + 1; omega) _⟩
  · simp [go_sem, o0]
  · simp [go_sem, o1]
  · simp [go_sem, o2]
  · simp only [World.frozen?_setCell]; exact ofz j
  · simp [go_sem, x0]
  · simp [go_sem, x1]
  · simp [go_sem, x2]
  · simp only [World.frozen?_setCell]; exact xf j
theorem Nb.grown {W W' : World} {A : Nat} {N P C : Int} {row : Option Nat} (h : Nb W A N P C) (hg : W.grownBy W' row) (hne : some A ≠ row) : Nb W' A N P C := by
  have g := hg.block A h.lt hne
  exact ⟨(World.cell?_of_block (a := ⟨A, 0, none⟩) g).trans h.c0, (World.cell?_of_block (a := ⟨A, 1, none⟩) g).trans h.c1, (World.cell?_of_block (a := ⟨A, 2, none⟩) g).trans h.c2, Nat.lt_of_lt_of_le h.lt hg.size⟩
/-- What is handed back. -/
def RecsPost (s : ByteArray) (w : World) (e : Ending) (w' : World) : Prop := ∃ k c v, e = .returned (.agg #[v, .int .i64 (seqA s k : Int), .int .i64 c]) ∧ RecsIs s k c ∧ w'.ownsRow w.heap.size 9 1 v k (textsC (recT s) k) ∧ Below w.heap.size w w'
def usedAt (w : World) (O : Nat) : Nat := match w.cell? ⟨O, 1, none⟩ with
  | some (.int _ n) => n.toNat
  | _ => 0
set_option maxRecDepth 100000 in
set_option maxHeartbeats 8000000 in
theorem spec_recsOf (s : ByteArray) (hs : s.size ≤ 20000) (w : World) :
    Calls Tryd.prog 19 #[.string s] w fun e w' => RecsPost s w e w' := by
  obtain ⟨i0, hi, hz0, hz1, hz2⟩ := info_parts info9
  have p0 : decide (20000 < s.size) = false := by simp; omega
  have p1 : decide ((20000 : Int) < (s.size : Int)) = false := by simp; omega
  have HG : Hid (∀ z W, -9223372036854775808 ≤ z → z ≤ 9223372036854775807 → Calls Tryd.prog 46 #[.string s, .int .i64 z] W fun e w' => e = .returned (.agg #[.int .i64 (getB s z).1, .int .i64 (getB s z).2.1, .int .i64 (getB s z).2.2]) ∧ Below W.heap.size W w') := fun z W h0 h1 => spec_get s z W (by unfold maxLen; omega) h0 h1
  have HR0 : Hid (Ro w ((w.alloc (.cells #[.slice none 0 0, .int .i64 0, .int .i64 0] 27)).alloc (.cells #[.slice none 0 0, .int .i64 0, .int .i64 0] 27)) (.slice none 0 0) 0) := by
    have T0 := two_now w #[.slice none 0 0, .int .i64 0, .int .i64 0] #[.slice none 0 0, .int .i64 0, .int .i64 0] 27 27
    have b0 := T0.box 0
    have b1 := T0.box 1
    have b2 := T0.box 2
    have r0 := T0.res 0
    have r1 := T0.res 1
    have r2 := T0.res 2
    simp only [List.getElem?_toArray, List.getElem?_cons_zero, List.getElem?_cons_succ] at b0 b1 b2 r0 r1 r2
    exact ⟨r0, r1, r2, fun j => fnew' (by simp) j, b0, b1, b2, fun j => by rw [World.frozen?_alloc_past _ _ _ (by simp)]; exact fnew' rfl j, T0.size, T0.bel⟩
  go_enter Tryd.func19, Tryd.ntmps19
  go_wp2_with fail
  go_loopw [13] (fun _ wr => ∃ (k : Nat) (v : Value), Hid (OkTo s k) ∧ Hid (Ro w wr v (seqA s k : Int)) ∧ Hid (wr.ownsRow (w.heap.size + 2) 9 1 v k (textsC (recT s) k))) (fun _ wr => 20001 - usedAt wr (w.heap.size + 1))
  case atStart => exact ⟨0, .slice none 0 0, fun j hj => by omega, HR0, World.ownsRow_nil _ _ _ _⟩
  case round =>
    obtain ⟨k, v, HK, HRo, HO⟩ := hrel
    have HO' := HO
    obtain ⟨av, cv, hv⟩ := own_slice HO.out
    subst hv
    obtain ⟨hka, ha2⟩ := okTo_le hs k HK.out
    obtain ⟨a, haq⟩ : ∃ a, seqA s k = a := ⟨_, rfl⟩
    have HAQ : Hid (seqA s k = a) := haq
    rw [haq] at HRo hka ha2
    have HUS : Hid (usedAt wr (w.heap.size + 1) = a) := by unfold usedAt; rw [HRo.out.o1]; exact Int.toNat_natCast a
    clear haq
    by_cases hend : s.size ≤ a
    · have t0 : decide ((a : Int) < (s.size : Int)) = false := by simp; omega
      have t1 : decide (a < s.size) = false := by simp; omega
      obtain ⟨o0, o1, o2, ofz, x0, x1, x2, xf, xlt, xbel⟩ := HRo.out
      have nOR : w.heap.size + 1 ≠ w.heap.size := by omega
      have nRO : w.heap.size ≠ w.heap.size + 1 := by omega
      go_wp2_with fail
      refine bodyPost_ret (v := .agg #[.slice av k cv, .int .i64 (a : Int), .int .i64 0]) ?_ rfl ⟨k, 0, _, by rw [HAQ.out], ⟨HK.out, Or.inl ⟨by rw [HAQ.out]; exact hend, rfl⟩⟩, ?_, ?_⟩
      · simp [results, Tryd.results19, go_sem, x0, x1, x2]
      · exact own_base (own_cell (own_cell (own_cell HO.out (by omega)) (by omega)) (by omega)) (by omega)
      · exact ((HRo.out.bel.setCell (Nat.le_refl _) _).setCell (Nat.le_refl _) _).setCell (Nat.le_refl _) _
    have t0 : decide ((a : Int) < (s.size : Int)) = true := by simp; omega
    have t1 : decide (a < s.size) = true := by simp; omega
    obtain ⟨N, P, C, hg1⟩ : ∃ N P C, getB s a = (N, P, C) := ⟨_, _, _, rfl⟩
    have HRd : Hid (readR s a = if (getB s a).2.2 ≠ 0 then (⟨#[]⟩, 0, (getB s a).2.2)
      else if ¬ (1 ≤ (getB s a).1 ∧ (getB s a).1 ≤ 10000) then (⟨#[]⟩, 0, 3)
      else if (getB s (getB s a).2.1).2.2 ≠ 0 then (⟨#[]⟩, 0, (getB s (getB s a).2.1).2.2)
      else if (s.size : Int) < (getB s (getB s a).2.1).2.1 + (getB s a).1 then (⟨#[]⟩, 0, 4)
      else if recSum (s.extract (getB s (getB s a).2.1).2.1.toNat ((getB s (getB s a).2.1).2.1 + (getB s a).1).toNat) ≠ (getB s (getB s a).2.1).1 then (⟨#[]⟩, 0, 5)
      else (s.extract (getB s (getB s a).2.1).2.1.toNat ((getB s (getB s a).2.1).2.1 + (getB s a).1).toNat, ((getB s (getB s a).2.1).2.1 + (getB s a).1).toNat, 0)) := rfl
    rw [hg1] at HRd
    dsimp only at HRd
    have HG1 : Hid (∀ W, Calls Tryd.prog 46 #[.string s, .int .i64 (a : Int)] W fun e w' => e = .returned (.agg #[.int .i64 N, .int .i64 P, .int .i64 C]) ∧ Below W.heap.size W w') := fun W => by have := HG.out a W (by omega) (by omega); rw [hg1] at this; exact this
    have HBK1 : Hid (C = 0 → 0 ≤ P ∧ P ≤ 20000 ∧ s.extract a P.toNat = encB N ∧ (a : Int) ≤ P ∧ P ≤ (s.size : Int)) := fun e => by
      rw [e] at hg1
      obtain ⟨h1, h2, h3⟩ := getB_back hs hg1
      refine ⟨by omega, by omega, ?_, by omega, by omega⟩
      rw [h2, show ((a : Int) + ((encN N).length : Int)).toNat = a + (encN N).length by omega]
      exact ext_stand h1 h3
    have HNO : Hid (∀ c : Int, readR s a = (⟨#[]⟩, 0, c) → c ≠ 0 → RecsIs s k c) := fun c h0 h1 => ⟨HK.out, Or.inr ⟨by rw [HAQ.out]; omega, by rw [HAQ.out, h0], h1⟩⟩
    have HSA : Hid (seqA s k = a) := HAQ.out
    clear hg1
    obtain ⟨o0, o1, o2, ofz, x0, x1, x2, xf, xlt, xbel⟩ := HRo.out
    go_wp2_with fail
    refine (HG1.out _).mono ?_
    rintro e w1 ⟨rfl, hb1⟩
    have hal1 : Below wr.heap.size wr (w1.alloc (.cells #[.int .i64 N, .int .i64 P, .int .i64 C] 88)) := hb1.alloc hb1.size _
    have HRo : Hid (Ro w (w1.alloc (.cells #[.int .i64 N, .int .i64 P, .int .i64 C] 88)) (.slice av k cv) (a : Int)) := HRo.out.next hal1
    have HO : Hid ((w1.alloc (.cells #[.int .i64 N, .int .i64 P, .int .i64 C] 88)).ownsRow (w.heap.size + 2) 9 1 (.slice av k cv) k (textsC (recT s) k)) := own_below HO.out hal1
    have HVB : Hid (∀ b, (Value.slice av k cv).ownBlock = some b → w.heap.size + 2 ≤ b ∧ b < w1.heap.size) := fun b e => ⟨(HO'.out.lt b e).1, Nat.lt_of_lt_of_le (HO'.out.lt b e).2 hb1.size⟩
    have HN : Hid (Nb (w1.alloc (.cells #[.int .i64 N, .int .i64 P, .int .i64 C] 88)) w1.heap.size N P C) := Nb.new _ _ _ _ _
    have hA2 : w.heap.size + 2 ≤ w1.heap.size := Nat.le_trans xlt hb1.size
    clear hb1 hal1 HG1 o0 o1 o2 ofz x0 x1 x2 xf xlt xbel
    go_upto_region 6 with fail
    obtain ⟨W1, hW1⟩ : ∃ W, W = w1.alloc (.cells #[.int .i64 N, .int .i64 P, .int .i64 C] 88) := ⟨_, rfl⟩
    obtain ⟨A, hA⟩ : ∃ A, A = w1.heap.size := ⟨_, rfl⟩
    try rw [← hW1] at HRo
    try rw [← hW1] at HO
    try rw [← hW1] at HN
    try rw [← hW1] at hA2
    try rw [← hW1] at HVB
    rw [← hW1]
    try rw [← hA] at HRo
    try rw [← hA] at HO
    try rw [← hA] at HN
    try rw [← hA] at hA2
    try rw [← hA] at HVB
    rw [← hA]
    clear hW1 hA
    obtain ⟨n0, n1, n2, nlt⟩ := HN.out
    by_cases hC : C ≠ 0
    · have HV : Hid (readR s a = (⟨#[]⟩, 0, C)) := by rw [HRd.out, if_pos hC]; try exact rfl
      have q0 : (C != 0) = true := by rw [bne_iff_ne]; exact hC
      obtain ⟨o0, o1, o2, ofz, x0, x1, x2, xf, xlt, xbel⟩ := HRo.out
      have nOR : w.heap.size + 1 ≠ w.heap.size := by omega
      have nRO : w.heap.size ≠ w.heap.size + 1 := by omega
      go_wp2_with fail
      refine bodyPost_ret (v := .agg #[.slice av k cv, .int .i64 (a : Int), .int .i64 C]) ?_ rfl ⟨k, C, _, by rw [HAQ.out], HNO.out C HV.out hC, ?_, ?_⟩
      · simp [results, Tryd.results19, go_sem, x0, x1, x2]
      · exact own_base (own_cell (own_cell (own_cell (own_cell HO.out (by omega)) (by omega)) (by omega)) (by omega)) (by omega)
      · exact (((HRo.out.bel.setCell (by show w.heap.size ≤ w.heap.size + 1; omega) _).setCell (Nat.le_refl _) _).setCell (Nat.le_refl _) _).setCell (Nat.le_refl _) _
    have hC : C = 0 := by omega
    subst hC
    obtain ⟨hP0, hP1, hEx, haP, hPs⟩ := HBK1.out rfl
    have HEX : Hid (s.extract a P.toNat = encB N) := hEx
    clear HBK1 hEx
    have q0 : ((0 : Int) != 0) = false := rfl
    by_cases hN1 : N < 1
    · have HV : Hid (readR s a = (⟨#[]⟩, 0, 3)) := by rw [HRd.out, if_neg (by omega), if_pos (by omega)]; try exact rfl
      have q1 : decide (N < 1) = true := by simp; omega
      obtain ⟨o0, o1, o2, ofz, x0, x1, x2, xf, xlt, xbel⟩ := HRo.out
      have nOR : w.heap.size + 1 ≠ w.heap.size := by omega
      have nRO : w.heap.size ≠ w.heap.size + 1 := by omega
      go_wp2_with fail
      refine bodyPost_ret (v := .agg #[.slice av k cv, .int .i64 (a : Int), .int .i64 3]) ?_ rfl ⟨k, 3, _, by rw [HAQ.out], HNO.out 3 HV.out (by decide), ?_, ?_⟩
      · simp [results, Tryd.results19, go_sem, x0, x1, x2]
      · exact own_base (own_cell (own_cell (own_cell (own_cell HO.out (by omega)) (by omega)) (by omega)) (by omega)) (by omega)
      · exact (((HRo.out.bel.setCell (by show w.heap.size ≤ w.heap.size + 1; omega) _).setCell (Nat.le_refl _) _).setCell (Nat.le_refl _) _).setCell (Nat.le_refl _) _
    have q1 : decide (N < 1) = false := by simp; omega
    by_cases hN2 : 10000 < N
    · have HV : Hid (readR s a = (⟨#[]⟩, 0, 3)) := by rw [HRd.out, if_neg (by omega), if_pos (by omega)]; try exact rfl
      have q2 : decide (10000 < N) = true := by simp; omega
      obtain ⟨o0, o1, o2, ofz, x0, x1, x2, xf, xlt, xbel⟩ := HRo.out
      have nOR : w.heap.size + 1 ≠ w.heap.size := by omega
      have nRO : w.heap.size ≠ w.heap.size + 1 := by omega
      go_wp2_with fail
      refine bodyPost_ret (v := .agg #[.slice av k cv, .int .i64 (a : Int), .int .i64 3]) ?_ rfl ⟨k, 3, _, by rw [HAQ.out], HNO.out 3 HV.out (by decide), ?_, ?_⟩
      · simp [results, Tryd.results19, go_sem, x0, x1, x2]
      · exact own_base (own_cell (own_cell (own_cell (own_cell HO.out (by omega)) (by omega)) (by omega)) (by omega)) (by omega)
      · exact (((HRo.out.bel.setCell (by show w.heap.size ≤ w.heap.size + 1; omega) _).setCell (Nat.le_refl _) _).setCell (Nat.le_refl _) _).setCell (Nat.le_refl _) _
    have q2 : decide (10000 < N) = false := by simp; omega
    obtain ⟨N2, P2, C2, hg2⟩ : ∃ N P' C, getB s P = (N, P', C) := ⟨_, _, _, rfl⟩
    rw [hg2] at HRd
    dsimp only at HRd
    have HG2 : Hid (∀ W, Calls Tryd.prog 46 #[.string s, .int .i64 P] W fun e w' => e = .returned (.agg #[.int .i64 N2, .int .i64 P2, .int .i64 C2]) ∧ Below W.heap.size W w') := fun W => by have := HG.out P W (by omega) (by omega); rw [hg2] at this; exact this
    have HBK2 : Hid (C2 = 0 → 0 ≤ P2 ∧ P2 ≤ (s.size : Int)) := fun e => by
      rw [e, show P = ((P.toNat : Nat) : Int) by omega] at hg2
      obtain ⟨_, h2, h3⟩ := getB_back hs hg2
      omega
    clear hg2
    obtain ⟨o0, o1, o2, ofz, x0, x1, x2, xf, xlt, xbel⟩ := HRo.out
    go_wp2_with fail
    refine (HG2.out _).mono ?_
    rintro e w2 ⟨rfl, hb2⟩
    have hal2 : Below W1.heap.size W1 (w2.alloc (.cells #[.int .i64 N2, .int .i64 P2, .int .i64 C2] 88)) := hb2.alloc hb2.size _
    have HRo2 : Hid (Ro w (w2.alloc (.cells #[.int .i64 N2, .int .i64 P2, .int .i64 C2] 88)) (.slice av k cv) (a : Int)) := HRo.out.next hal2
    have HO2 : Hid ((w2.alloc (.cells #[.int .i64 N2, .int .i64 P2, .int .i64 C2] 88)).ownsRow (w.heap.size + 2) 9 1 (.slice av k cv) k (textsC (recT s) k)) := own_below HO.out hal2
    have HN2 : Hid (Nb (w2.alloc (.cells #[.int .i64 N2, .int .i64 P2, .int .i64 C2] 88)) A N P 0) := HN.out.below hal2
    have HM2 : Hid (Nb (w2.alloc (.cells #[.int .i64 N2, .int .i64 P2, .int .i64 C2] 88)) w2.heap.size N2 P2 C2) := Nb.new _ _ _ _ _
    have hB2 : w.heap.size + 2 ≤ w2.heap.size := Nat.le_trans xlt hb2.size
    have hAB : A < w2.heap.size := Nat.lt_of_lt_of_le nlt hb2.size
    clear hb2 hal2 HG2 o0 o1 o2 ofz x0 x1 x2 xf xlt xbel n0 n1 n2 nlt HRo HO HN
    have HRo := HRo2
    have HO := HO2
    clear HRo2 HO2
    go_upto_region 13 with fail
    obtain ⟨W2, hW2⟩ : ∃ W, W = w2.alloc (.cells #[.int .i64 N2, .int .i64 P2, .int .i64 C2] 88) := ⟨_, rfl⟩
    obtain ⟨B, hB⟩ : ∃ A, A = w2.heap.size := ⟨_, rfl⟩
    try rw [← hW2] at HRo
    try rw [← hW2] at HO
    try rw [← hW2] at HN2
    try rw [← hW2] at HM2
    try rw [← hW2] at hB2
    try rw [← hW2] at hAB
    rw [← hW2]
    try rw [← hB] at HRo
    try rw [← hB] at HO
    try rw [← hB] at HN2
    try rw [← hB] at HM2
    try rw [← hB] at hB2
    try rw [← hB] at hAB
    rw [← hB]
    clear hW2 hB
    obtain ⟨n0, n1, n2, nlt⟩ := HN2.out
    obtain ⟨m0, m1, m2, mlt⟩ := HM2.out
    by_cases hC2 : C2 ≠ 0
    · have HV : Hid (readR s a = (⟨#[]⟩, 0, C2)) := by rw [HRd.out, if_neg (by omega), if_neg (by omega), if_pos hC2]; try exact rfl
      have q3 : (C2 != 0) = true := by rw [bne_iff_ne]; exact hC2
      obtain ⟨o0, o1, o2, ofz, x0, x1, x2, xf, xlt, xbel⟩ := HRo.out
      have nOR : w.heap.size + 1 ≠ w.heap.size := by omega
      have nRO : w.heap.size ≠ w.heap.size + 1 := by omega
      go_wp2_with fail
      refine bodyPost_ret (v := .agg #[.slice av k cv, .int .i64 (a : Int), .int .i64 C2]) ?_ rfl ⟨k, C2, _, by rw [HAQ.out], HNO.out C2 HV.out hC2, ?_, ?_⟩
      · simp [results, Tryd.results19, go_sem, x0, x1, x2]
      · exact own_base (own_cell (own_cell (own_cell (own_cell HO.out (by omega)) (by omega)) (by omega)) (by omega)) (by omega)
      · exact (((HRo.out.bel.setCell (by show w.heap.size ≤ w.heap.size + 1; omega) _).setCell (Nat.le_refl _) _).setCell (Nat.le_refl _) _).setCell (Nat.le_refl _) _
    have hC2 : C2 = 0 := by omega
    subst hC2
    obtain ⟨hp0, hp1⟩ := HBK2.out rfl
    clear HBK2
    obtain ⟨p, rfl⟩ : ∃ p : Nat, P2 = (p : Int) := ⟨P2.toNat, by omega⟩
    obtain ⟨n, rfl⟩ : ∃ n : Nat, N = (n : Int) := ⟨N.toNat, by omega⟩
    rw [show ((p : Int) + (n : Int)).toNat = p + n by omega, Int.toNat_natCast] at HRd
    have hw0 : IntKind.i64.wrap ((s.size : Int) - (n : Int)) = (s.size : Int) - (n : Int) := IntWalk.i64_in _ (by omega)
    by_cases hE : s.size < p + n
    · have HV : Hid (readR s a = (⟨#[]⟩, 0, 4)) := by rw [HRd.out, if_neg (by omega), if_neg (by omega), if_neg (by omega), if_pos (by omega)]; try exact rfl
      have t2 : decide ((s.size : Int) - (n : Int) < (p : Int)) = true := by simp; omega
      obtain ⟨o0, o1, o2, ofz, x0, x1, x2, xf, xlt, xbel⟩ := HRo.out
      have nOR : w.heap.size + 1 ≠ w.heap.size := by omega
      have nRO : w.heap.size ≠ w.heap.size + 1 := by omega
      go_wp2_with fail
      refine bodyPost_ret (v := .agg #[.slice av k cv, .int .i64 (a : Int), .int .i64 4]) ?_ rfl ⟨k, 4, _, by rw [HAQ.out], HNO.out 4 HV.out (by decide), ?_, ?_⟩
      · simp [results, Tryd.results19, go_sem, x0, x1, x2]
      · exact own_base (own_cell (own_cell (own_cell (own_cell HO.out (by omega)) (by omega)) (by omega)) (by omega)) (by omega)
      · exact (((HRo.out.bel.setCell (by show w.heap.size ≤ w.heap.size + 1; omega) _).setCell (Nat.le_refl _) _).setCell (Nat.le_refl _) _).setCell (Nat.le_refl _) _
    have t2 : decide ((s.size : Int) - (n : Int) < (p : Int)) = false := by simp; omega
    have hsl : ∀ W : World, (Instr.slice 9 (.string s) (some (.int .i64 (p : Int))) (some (.int .i64 ((p : Int) + (n : Int)))) none).run Tryd.prog W = .ok (.string (s.extract p (p + n))) W := fun W => by
      rw [run_slice_string (P := Tryd.prog) (w := W) 9 s .i64 .i64 (p : Int) ((p : Int) + (n : Int)) Tryd.underlying9 (by omega) (by omega) (by omega), show ((p : Int) + (n : Int)).toNat = p + n by omega, Int.toNat_natCast]
    have hsl2 : ∀ W : World, (Instr.slice 9 (.string s) (some (.int .i64 (a : Int))) (some (.int .i64 P)) none).run Tryd.prog W = .ok (.string (encB (n : Int))) W := fun W => by
      rw [run_slice_string (P := Tryd.prog) (w := W) 9 s .i64 .i64 (a : Int) P Tryd.underlying9 (by omega) (by omega) (by omega), Int.toNat_natCast, HEX.out]
    have hbs : (s.extract p (p + n)).size = n := by rw [ByteArray.size_extract]; omega
    have hes := encB_size (n : Int)
    have HS : Hid (∀ W, Calls Tryd.prog 28 #[.string (encB (n : Int) ++ s.extract p (p + n))] W fun e w' => e = .returned (.int .i64 (recSum (s.extract p (p + n)))) ∧ w' = W) := fun W => by
      have h := spec_sum (encB (n : Int) ++ s.extract p (p + n)) W (by rw [ByteArray.size_append]; unfold maxLen; omega)
      unfold recSum
      rw [hbs]
      exact h
    obtain ⟨E, hE'⟩ : ∃ b, encB (n : Int) = b := ⟨_, rfl⟩
    rw [hE'] at hsl2 hes HS
    obtain ⟨bd, hbd⟩ : ∃ b, s.extract p (p + n) = b := ⟨_, rfl⟩
    rw [hbd] at HRd HS hsl hbs
    obtain ⟨rs, hrs⟩ : ∃ r, recSum bd = r := ⟨_, rfl⟩
    rw [hrs] at HRd HS
    clear hbd hrs hE' HEX
    have hcat : ¬ 9223372036854775807 < E.size + bd.size := by omega
    have hw1 : IntKind.i64.wrap ((p : Int) + (n : Int)) = (p : Int) + (n : Int) := IntWalk.i64_in _ (by omega)
    obtain ⟨o0, o1, o2, ofz, x0, x1, x2, xf, xlt, xbel⟩ := HRo.out
    go_upto_region 20 with fail
    go_quiet (first | (go_at_call 28; refine Calls.quiet_of_same (HS.out _)))
    have hq3 : Below W2.heap.size W2 (W2.drewN nq) := ⟨rfl, rfl, rfl, Nat.le_refl _, fun _ _ => rfl⟩
    have HRo3 : Hid (Ro w (W2.drewN nq) (.slice av k cv) (a : Int)) := HRo.out.next hq3
    have HO3 : Hid ((W2.drewN nq).ownsRow (w.heap.size + 2) 9 1 (.slice av k cv) k (textsC (recT s) k)) := own_below HO.out hq3
    have HN3 : Hid (Nb (W2.drewN nq) A (n : Int) P 0) := HN2.out.below hq3
    have HM3 : Hid (Nb (W2.drewN nq) B N2 (p : Int) 0) := HM2.out.below hq3
    clear o0 o1 o2 ofz x0 x1 x2 xf xlt xbel n0 n1 n2 nlt m0 m1 m2 mlt HRo HO HN2 HM2 hq3
    have HRo := HRo3
    have HO := HO3
    clear HRo3 HO3
    obtain ⟨W3, hW3⟩ : ∃ W, W = W2.drewN nq := ⟨_, rfl⟩
    try rw [← hW3] at HRo
    try rw [← hW3] at HO
    try rw [← hW3] at HN3
    try rw [← hW3] at HM3
    rw [← hW3]
    clear hW3 
    by_cases hq : N2 ≠ rs
    · have HV : Hid (readR s a = (⟨#[]⟩, 0, 5)) := by rw [HRd.out, if_neg (by omega), if_neg (by omega), if_neg (by omega), if_neg (by omega), if_pos (by omega)]; try exact rfl
      have u0 : (N2 != rs) = true := by rw [bne_iff_ne]; exact hq
      obtain ⟨o0, o1, o2, ofz, x0, x1, x2, xf, xlt, xbel⟩ := HRo.out
      have nOR : w.heap.size + 1 ≠ w.heap.size := by omega
      have nRO : w.heap.size ≠ w.heap.size + 1 := by omega
      go_wp2_with fail
      refine bodyPost_ret (v := .agg #[.slice av k cv, .int .i64 (a : Int), .int .i64 5]) ?_ rfl ⟨k, 5, _, by rw [HAQ.out], HNO.out 5 HV.out (by decide), ?_, ?_⟩
      · simp [results, Tryd.results19, go_sem, x0, x1, x2]
      · exact own_base (own_cell (own_cell (own_cell (own_cell HO.out (by omega)) (by omega)) (by omega)) (by omega)) (by omega)
      · exact (((HRo.out.bel.setCell (by show w.heap.size ≤ w.heap.size + 1; omega) _).setCell (Nat.le_refl _) _).setCell (Nat.le_refl _) _).setCell (Nat.le_refl _) _
    have hq : N2 = rs := by omega
    have HV : Hid (readR s a = (bd, p + n, 0)) := by rw [HRd.out, if_neg (by omega), if_neg (by omega), if_neg (by omega), if_neg (by omega), if_neg (by omega)]; try exact rfl
    have u0 : (N2 != rs) = false := by rw [hq]; simp
    clear hq
    have hgo : a < p + n := by have := (readR_ok hs (a := a) (by rw [HV.out])).1; rw [HV.out] at this; exact this
    obtain ⟨o0, o1, o2, ofz, x0, x1, x2, xf, xlt, xbel⟩ := HRo.out
    go_upto_region 23 with fail
    go_wp2_with (refine wpList_append_lies _ rfl (.tmp 83) (.tmp 85) 25 rfl (w.heap.size + 2) 9 i0 (.string ⟨#[]⟩) 1 16 Tryd.underlying25 hi hz0 hz1 hz2 rfl (by decide) (.slice av k cv) k (textsC (recT s) k) rfl (HO.out.alloc _) ⟨W3.heap.size, 0, none⟩ 1 1 [.string bd] rfl rfl (news1 _ rfl) (ones1 _) (by omega) (by unfold maxLen; omega) (by omega) (by simp; omega) (W3.heap.size + 1) (by simp) ?_)
    intro g2 cap2 w4 hown4 hg4 hat hlt
    have hal3 : Below W3.heap.size W3 (W3.alloc (.cells #[.string bd] 9)) := (Below.refl _ _).alloc (Nat.le_refl _) _
    have HRo4 : Hid (Ro w w4 (.slice av k cv) (a : Int)) := (HRo.out.next hal3).grown hg4 (fun b e => (HVB.out b e).1)
    have HN4 : Hid (Nb w4 A (n : Int) P 0) := (HN3.out.below hal3).grown hg4 (fun e => by have := (HVB.out A e.symm).2; omega)
    have HM4 : Hid (Nb w4 B N2 (p : Int) 0) := (HM3.out.below hal3).grown hg4 (fun e => by have := (HVB.out B e.symm).2; omega)
    have hT : textsC (recT s) (k + 1) = textsC (recT s) k ++ [.string bd] := by
      show textsC (recT s) k ++ [.string (readR s (seqA s k)).1] = _
      rw [HAQ.out, HV.out]
    have HO4 : Hid (w4.ownsRow (w.heap.size + 2) 9 1 (.slice (some ⟨g2, 0, none⟩) (k + 1) cap2) (k + 1) (textsC (recT s) (k + 1))) := by
      rw [hT]; exact hown4
    have HSQ : Hid (seqA s (k + 1) = p + n) := by
      show (readR s (seqA s k)).2.1 = _
      rw [HAQ.out, HV.out]
    have HK4 : Hid (OkTo s (k + 1)) := okTo_succ HK.out (by rw [HAQ.out]; omega) (by rw [HAQ.out, HV.out])
    have HUS4 : Hid (usedAt ((w4.setCell ⟨w.heap.size + 1, 0, none⟩ (.slice (some ⟨g2, 0, none⟩) (k + 1) cap2)).setCell ⟨w.heap.size + 1, 1, none⟩ (.int .i64 ((p : Int) + (n : Int)))) (w.heap.size + 1) = p + n) := by
      unfold usedAt
      rw [(HRo4.out.set).o1]
      show ((p : Int) + (n : Int)).toNat = p + n
      omega
    have nOA : w.heap.size + 1 ≠ A := by omega
    have nOB : w.heap.size + 1 ≠ B := by omega
    clear hown4 hg4 hat hlt hal3 o0 o1 o2 ofz x0 x1 x2 xf xlt xbel HRo HO HN3 HM3 hT
    obtain ⟨o0, o1, o2, ofz, x0, x1, x2, xf, xlt, xbel⟩ := HRo4.out
    obtain ⟨n0, n1, n2, nlt⟩ := HN4.out
    obtain ⟨m0, m1, m2, mlt⟩ := HM4.out
    go_wp2_with fail
    go_roundw
    case rel => exact ⟨k + 1, _, HK4, by rw [HSQ.out, Int.natCast_add]; exact HRo4.out.set, own_cell (own_cell HO4.out (by omega)) (by omega)⟩
    case measure => rw [HUS4.out, HUS.out]; omega
end Go.Proofs.YtdbabdggefcpcaaDoor
