/- Lists of lines and of texts: their sizes, copies and comparison: what the laws' helpers do. -/
import Derived.Test.YtpabdapaegllnaaDoorRec
import Derived.Deep.RegionHeld3
import Derived.BigQuiet
import Derived.Deep.DeepCutAuto
import Derived.Deep.CutRange
namespace Go.Proofs.YtpabdapaegllnaaDoor
open Go.RowKit
open Go.Proofs.YtpabdapaegllnaaDoor.Draw

structure Ln where
  a : ByteArray
  s : ByteArray
  m : Int
def Ln.fits (x : Ln) : Prop := x.a.size ≤ maxLen ∧ x.s.size ≤ maxLen
def Ln.small (x : Ln) : Prop := x.a.size ≤ 1048576 ∧ x.s.size ≤ 1048576
theorem Ln.small.fits {x : Ln} (h : x.small) : x.fits := by
  obtain ⟨h0, h1⟩ := h; unfold Ln.fits maxLen; omega
/-- n lines in memory. -/
def LinesAt (w : World) (a : Option Addr) (n : Nat) (L : Nat → Ln) : Prop := n = 0 ∨ ∃ g o, a = some ⟨g, o, none⟩ ∧ g < w.heap.size ∧ ∀ i, i < n → w.cell? ⟨g, o + i * 3, none⟩ = some (.string (L i).a) ∧ w.cell? ⟨g, o + i * 3 + 1, none⟩ = some (.string (L i).s) ∧ w.cell? ⟨g, o + i * 3 + 2, none⟩ = some (.int .i64 (L i).m)
theorem LinesAt.below {w w' : World} {a : Option Addr} {n : Nat} {L : Nat → Ln} (h : LinesAt w a n L) (hb : Below w.heap.size w w') : LinesAt w' a n L := by
  rcases h with h | ⟨g, o, rfl, hg, hc⟩
  · exact Or.inl h
  · refine Or.inr ⟨g, o, rfl, Nat.lt_of_lt_of_le hg hb.size, fun i hi => ?_⟩
    obtain ⟨c0, c1, c2⟩ := hc i hi
    exact ⟨(hb.cell (p := ⟨g, _, none⟩) hg).trans c0, (hb.cell (p := ⟨g, _, none⟩) hg).trans c1, (hb.cell (p := ⟨g, _, none⟩) hg).trans c2⟩
theorem LinesAt.grown {w w' : World} {a : Option Addr} {n : Nat} {row : Option Nat} {L : Nat → Ln} (h : LinesAt w a n L) (hg : w.grownBy w' row) (hne : ∀ k, a.map Addr.block = some k → some k ≠ row) : LinesAt w' a n L := by
  rcases h with h | ⟨g, o, rfl, hl, hc⟩
  · exact Or.inl h
  · have hb := hg.block g hl (hne g rfl)
    refine Or.inr ⟨g, o, rfl, Nat.lt_of_lt_of_le hl hg.size, fun i hi => ?_⟩
    obtain ⟨c0, c1, c2⟩ := hc i hi
    exact ⟨(World.cell?_of_block (a := ⟨g, _, none⟩) hb).trans c0, (World.cell?_of_block (a := ⟨g, _, none⟩) hb).trans c1, (World.cell?_of_block (a := ⟨g, _, none⟩) hb).trans c2⟩
/-- Their cells by number. -/
def lineF (L : Nat → Ln) (j : Nat) : Value := if j % 3 = 0 then .string (L (j / 3)).a else if j % 3 = 1 then .string (L (j / 3)).s else .int .i64 (L (j / 3)).m
theorem lineF_at (L : Nat → Ln) (i : Nat) : lineF L (i * 3) = .string (L i).a ∧ lineF L (i * 3 + 1) = .string (L i).s ∧ lineF L (i * 3 + 2) = .int .i64 (L i).m := by
  refine ⟨?_, ?_, ?_⟩
  · rw [lineF, if_pos (by omega), show (i * 3) / 3 = i by omega]
  · rw [lineF, if_neg (by omega), if_pos (by omega), show (i * 3 + 1) / 3 = i by omega]
  · rw [lineF, if_neg (by omega), if_neg (by omega), show (i * 3 + 2) / 3 = i by omega]
theorem Own.lines {w : World} {g n : Nat} {L : Nat → Ln} (h : Own w g (n * 3) (lineF L)) : LinesAt w (some ⟨g, 0, none⟩) n L := by
  refine Or.inr ⟨g, 0, rfl, h.1, fun i hi => ?_⟩
  obtain ⟨e0, e1, e2⟩ := lineF_at L i
  rw [Nat.zero_add, ← e0, ← e1, ← e2]
  exact ⟨h.2.1 _ (by omega), h.2.1 _ (by omega), h.2.1 _ (by omega)⟩
/-- One more is written. -/
theorem line_step {w : World} {g n I : Nat} {F G : Nat → Value} (h : Own w g (n * 3) (fun j => if j < I * 3 then G j else F j)) (hI : I < n) {v0 v1 v2 : Value} (e0 : G (I * 3) = v0) (e1 : G (I * 3 + 1) = v1) (e2 : G (I * 3 + 2) = v2) :
    Own (((w.setCell ⟨g, I * 3, none⟩ v0).setCell ⟨g, I * 3 + 1, none⟩ v1).setCell ⟨g, I * 3 + 2, none⟩ v2) g (n * 3) (fun j => if j < (I + 1) * 3 then G j else F j) := by
  refine (((h.set (i := I * 3) (by omega) v0).set (i := I * 3 + 1) (by omega) v1).set (i := I * 3 + 2) (by omega) v2).congr fun j _ => ?_
  show (if j = I * 3 + 2 then v2 else if j = I * 3 + 1 then v1 else if j = I * 3 then v0 else if j < I * 3 then G j else F j) = if j < (I + 1) * 3 then G j else F j
  by_cases c2 : j = I * 3 + 2
  · rw [if_pos c2, if_pos (by omega), c2, e2]
  rw [if_neg c2]
  by_cases c1 : j = I * 3 + 1
  · rw [if_pos c1, if_pos (by omega), c1, e1]
  rw [if_neg c1]
  by_cases c0 : j = I * 3
  · rw [if_pos c0, if_pos (by omega), c0, e0]
  rw [if_neg c0]
  by_cases c : j < I * 3
  · rw [if_pos c, if_pos (by omega)]
  · rw [if_neg c, if_neg (by omega)]
set_option maxRecDepth 100000 in
set_option maxHeartbeats 4000000 in
theorem sz_line (x0 x1 : ByteArray) (x2 : Int) (h0 : x0.size ≤ maxLen) (h1 : x1.size ≤ maxLen) (left : Nat) (hl : left ≤ 1048576) (w : World) :
    Calls Tryd.prog 79 #[.agg #[.string x0, .string x1, .int .i64 x2], .int .i64 (left : Int)] w fun e w' => (e = .returned (.int .i64 (-1)) ∨ ∃ r : Nat, e = .returned (.int .i64 (r : Int)) ∧ r ≤ left ∧ x0.size ≤ left ∧ x1.size ≤ left) ∧ Below w.heap.size w w' := by
  have H0 : Hid (x0.size ≤ maxLen ∧ x1.size ≤ maxLen) := ⟨h0, h1⟩
  clear h0 h1
  go_enter Tryd.func79, Tryd.ntmps79
  go_wp2_with fail
  refine (sz_spot x0 x1 H0.out.1 H0.out.2 left hl _).mono ?_
  rintro e w1 ⟨he, hb1⟩
  have HB1 : Hid (Below w.heap.size w w1) := ((Below.refl _ _).alloc (Nat.le_refl _) _).trans (hb1.mono (by simp))
  clear hb1
  rcases he with ⟨rfl, _⟩ | ⟨rfl, hs1⟩
  · have q : decide ((-1 : Int) < 0) = true := rfl
    go_wp2_with fail
    go_ret
    exact ⟨Or.inl rfl, HB1.out⟩
  · obtain ⟨r, hr⟩ : ∃ r, r = left - (x0.size + x1.size) := ⟨_, rfl⟩
    rw [← hr]
    have HR : Hid (r + x0.size + x1.size = left) := (by omega : r + x0.size + x1.size = left)
    have hrl : r ≤ left := by omega
    clear hs1 hr
    have q : decide ((r : Int) < 0) = false := by simp
    go_wp2_with fail
    go_ret
    have := HR.out
    exact ⟨Or.inr ⟨r, rfl, by omega, by omega, by omega⟩, HB1.out⟩
set_option maxRecDepth 100000 in
set_option maxHeartbeats 4000000 in
theorem sz_lines (a : Option Addr) (n cap : Nat) (L : Nat → Ln) (hn : n ≤ maxLen) (hfit : ∀ i, i < n → (L i).fits) (left : Nat) (hl : left ≤ 1048576) (w : World) (h : LinesAt w a n L) :
    Calls Tryd.prog 51 #[.slice a n cap, .int .i64 (left : Int)] w fun e w' => (e = .returned (.int .i64 (-1)) ∨ ∃ r : Nat, e = .returned (.int .i64 (r : Int)) ∧ r ≤ left ∧ n ≤ left ∧ ∀ i, i < n → (L i).small) ∧ Below w.heap.size w w' := by
  have HL : Hid (LinesAt w a n L) := h
  have HF : Hid (∀ i, i < n → (L i).fits) := hfit
  clear h hfit
  have hn' : n ≤ 9223372036854775807 := by unfold maxLen at hn; omega
  clear hn
  by_cases hnl : n ≤ left
  · have q0 : decide ((left : Int) - (n : Int) < 0) = false := by simp; omega
    go_enter Tryd.func51, Tryd.ntmps51
    go_wp2_with fail
    go_loopw [1, 5] (fun x i wr => ∃ (k r : Nat), x = .int .i64 (r : Int) ∧ i = .int .i64 (k : Int) ∧ k ≤ n ∧ r ≤ left ∧ Hid (∀ j, j < k → (L j).small) ∧ Hid (Below w.heap.size w wr)) (fun _ i _ => n - (intOf i).toNat)
    case atStart => exact ⟨0, left - n, by go_num, rfl, by omega, by omega, fun j hj => by omega, Below.refl _ _⟩
    case round =>
      obtain ⟨k, r, rfl, rfl, hk, hr, HS, HB⟩ := hrel
      by_cases hkn : k < n
      · have p0 : decide (k < n) = true := by simpa using hkn
        have p1 : decide ((k : Int) < (n : Int)) = true := by simpa using hkn
        rcases HL.out.below HB.out with h0 | ⟨g, o, rfl, hg, hc⟩
        · omega
        obtain ⟨c0, c1, c2⟩ := hc k hkn
        obtain ⟨f0, f1⟩ := HF.out k hkn
        have HS' : Hid ((L k).small → ∀ j, j < k + 1 → (L j).small) := fun hsm j hj => by
          by_cases e : j = k
          · rw [e]; exact hsm
          · exact HS.out j (by omega)
        have HSm : Hid ((L k).a.size ≤ left → (L k).s.size ≤ left → (L k).small) := fun a b => ⟨by omega, by omega⟩
        have H1 := fun W => sz_line (L k).a (L k).s (L k).m f0 f1 r (by omega) W
        have H1 : Hid (∀ W, _) := H1
        clear hc HS f0 f1
        generalize (L k).a = x0 at *
        generalize (L k).s = x1 at *
        generalize (L k).m = x2 at *
        go_wp2_with fail
        refine (H1.out _).mono ?_
        rintro e w1 ⟨he, hb1⟩
        have HB1 : Hid (Below w.heap.size w w1) := HB.out.trans (hb1.mono HB.out.size)
        clear hb1 c0 c1 c2 H1
        rcases he with rfl | ⟨t, rfl, ht, s0, s1⟩
        · have q' : decide ((-1 : Int) < 0) = true := rfl
          go_wp2_with fail
          go_ret
          exact ⟨Or.inl rfl, HB1.out⟩
        · have q' : decide ((t : Int) < 0) = false := by simp
          have HS2 : Hid (∀ j, j < k + 1 → (L j).small) := HS'.out (HSm.out (by omega) (by omega))
          clear HS' HSm s0 s1
          go_wp2_with fail
          go_roundw
          case rel => exact ⟨k + 1, t, rfl, by go_num, by omega, by omega, HS2, HB1⟩
          case measure => simp [intOf]; omega
      · have p0 : decide (k < n) = false := by simpa using hkn
        have p1 : decide ((k : Int) < (n : Int)) = false := by simpa using hkn
        obtain rfl : k = n := by omega
        go_wp2_with fail
        go_ret
        exact ⟨Or.inr ⟨r, rfl, hr, hnl, HS.out⟩, HB.out⟩
  · have q0 : decide ((left : Int) - (n : Int) < 0) = true := by simp; omega
    go_enter Tryd.func51, Tryd.ntmps51
    go_wp2_with fail
    go_ret
    exact ⟨Or.inl rfl, Below.refl _ _⟩
set_option maxRecDepth 100000 in
set_option maxHeartbeats 4000000 in
theorem to_line (x0 x1 : ByteArray) (x2 : Int) (w : World) :
    Calls Tryd.prog 80 #[.agg #[.string x0, .string x1, .int .i64 x2]] w fun e w' => e = .returned (.agg #[.string x0, .string x1, .int .i64 x2]) ∧ Below w.heap.size w w' := by
  go_enter Tryd.func80, Tryd.ntmps80
  go_wp2_with fail
  refine (to_spot x0 x1 _).mono ?_
  rintro e w1 ⟨rfl, hb1⟩
  have T2 := (three_new w #[.string x0, .string x1, .int .i64 x2] #[.string ⟨#[]⟩, .string ⟨#[]⟩, .int .i64 0] #[.string ⟨#[]⟩, .string ⟨#[]⟩, .int .i64 0] 121 46 46).next hb1
  have c2 := T2.box 2
  have p0 := T2.out 0
  have p1 := T2.out 1
  have p2 := T2.out 2
  have pf := T2.ofr
  have r0 := T2.res 0
  have r1 := T2.res 1
  have r2 := T2.res 2
  have rf := T2.rfr
  simp at c2 p0 p1 p2 r0 r1 r2
  have HB : Hid (Below w.heap.size w w1) := T2.bel
  clear hb1 T2
  go_wp2_with fail
  refine bodyPost_ret (v := .agg #[.string x0, .string x1, .int .i64 x2]) ?_ rfl ⟨rfl, ?_⟩
  · simp [results, Tryd.results80, go_sem, r0, r1, r2]
  · have a1 : w.heap.size ≤ w.heap.size + 1 := by omega
    have a2 : w.heap.size ≤ w.heap.size + 1 + 1 := by omega
    exact (((((HB.out.setCell a2 _).setCell a2 _).setCell a2 _).setCell a1 _).setCell a1 _).setCell a1 _
theorem infoLine : (Tryd.prog.info? 46).map (fun i => (i.zero, i.size, i.bytes)) = some (some (.agg #[.string ⟨#[]⟩, .string ⟨#[]⟩, .int .i64 0]), 3, 40) := by kernel_rfl
set_option maxRecDepth 100000 in
set_option maxHeartbeats 4000000 in
theorem to_lines (a : Option Addr) (n cap : Nat) (L : Nat → Ln) (hn : n ≤ 1048576) (w : World) (h : LinesAt w a n L) :
    Calls Tryd.prog 53 #[.slice a n cap] w fun e w' => ∃ g, e = .returned (.slice (some ⟨g, 0, none⟩) n n) ∧ w.heap.size ≤ g ∧ Own w' g (n * 3) (lineF L) ∧ Below w.heap.size w w' := by
  obtain ⟨i0, hi, hz0, hz1, hz2⟩ := info_parts infoLine
  have HL : Hid (LinesAt w a n L) := h
  clear h
  go_enter Tryd.func53, Tryd.ntmps53
  go_wp2_with (refine wpList_make_full _ rfl (.tmp 6) (.tmp 6) 23 rfl w.heap.size 46 i0 (.agg #[.string ⟨#[]⟩, .string ⟨#[]⟩, .int .i64 0]) 3 Tryd.underlying23 hi hz0 hz1 .i64 .i64 _ _ n rfl rfl rfl rfl (by rw [hz2]; omega) (by unfold maxLen; omega) (Nat.le_refl _) ?_)
  intro w1 hown hg1
  have HB1 : Hid (Below w.heap.size w w1) := (Below.refl _ _).grown hg1 (Nat.le_refl _) (fun k hk => by cases hk)
  obtain ⟨F0, hO⟩ := own_some hown
  skip
  have HO : Hid (Own w1 w.heap.size (n * 3) F0) := hO
  clear hO
  clear hg1 hown
  go_wp2_with fail
  go_loopw [4] (fun i wr => ∃ k : Nat, i = .int .i64 (k : Int) ∧ k ≤ n ∧ Hid (Own wr w.heap.size (n * 3) (fun j => if j < k * 3 then lineF L j else F0 j)) ∧ Hid (Below w.heap.size w wr)) (fun i _ => n - (intOf i).toNat)
  case atStart => exact ⟨0, rfl, by omega, HO.out.congr (fun j _ => by rw [if_neg (by omega)]), HB1⟩
  case round =>
    obtain ⟨k, rfl, hk, HOr, HB⟩ := hrel
    by_cases hkn : k < n
    · have p0 : decide (k < n) = true := by simpa using hkn
      have p1 : decide ((k : Int) < (n : Int)) = true := by simpa using hkn
      rcases HL.out with h0 | ⟨g, o, rfl, hg, hc⟩
      · omega
      obtain ⟨c0, c1, c2⟩ := hc k hkn
      have d0 := (HB.out.cell (p := ⟨g, _, none⟩) hg).trans c0
      have d1 := (HB.out.cell (p := ⟨g, _, none⟩) hg).trans c1
      have d2 := (HB.out.cell (p := ⟨g, _, none⟩) hg).trans c2
      have HE : Hid (lineF L (k * 3) = .string (L k).a ∧ lineF L (k * 3 + 1) = .string (L k).s ∧ lineF L (k * 3 + 2) = .int .i64 (L k).m) := lineF_at L k
      clear hc c0 c1 c2
      generalize (L k).a = x0 at *
      generalize (L k).s = x1 at *
      generalize (L k).m = x2 at *
      go_wp2_with fail
      refine (to_line x0 x1 x2 _).mono ?_
      rintro e w2 ⟨rfl, hb2⟩
      have HO2 : Hid (Own w2 w.heap.size (n * 3) (fun j => if j < k * 3 then lineF L j else F0 j)) := HOr.out.below hb2
      have HB2 : Hid (Below w.heap.size w w2) := HB.out.trans (hb2.mono HB.out.size)
      clear hb2 d0 d1 d2
      have a0 := HO2.out.2.1 (k * 3) (by omega)
      have a1 := HO2.out.2.1 (k * 3 + 1) (by omega)
      have a2 := HO2.out.2.1 (k * 3 + 2) (by omega)
      have hf := HO2.out.2.2
      simp only [show ¬ k * 3 < k * 3 by omega, show ¬ k * 3 + 1 < k * 3 by omega, show ¬ k * 3 + 2 < k * 3 by omega, if_false] at a0 a1 a2
      generalize F0 (k * 3) = y0 at a0
      generalize F0 (k * 3 + 1) = y1 at a1
      generalize F0 (k * 3 + 2) = y2 at a2
      have HN := fun (_ : Unit) => line_step HO2.out hkn HE.out.1 HE.out.2.1 HE.out.2.2
      have HN : Hid (Unit → _) := HN
      skip
      go_wp2_with fail
      go_roundw
      case rel =>
        have s := Nat.le_refl w.heap.size
        exact ⟨k + 1, by go_num, by omega, HN.out (), (((HB2.out.setCell s _).setCell s _).setCell s _)⟩
      case measure => simp [intOf]; omega
    · have p0 : decide (k < n) = false := by simpa using hkn
      have p1 : decide ((k : Int) < (n : Int)) = false := by simpa using hkn
      obtain rfl : k = n := by omega
      go_wp2_with fail
      go_ret
      exact ⟨w.heap.size, rfl, Nat.le_refl _, HOr.out.congr (fun j hj => by rw [if_pos hj]), HB.out⟩
set_option maxRecDepth 100000 in
set_option maxHeartbeats 4000000 in
theorem eq_line (x0 x1 : ByteArray) (x2 : Int) (w : World) :
    Calls Tryd.prog 81 #[.agg #[.string x0, .string x1, .int .i64 x2], .agg #[.string x0, .string x1, .int .i64 x2]] w fun e w' => e = .returned (.bool true) ∧ Below w.heap.size w w' := by
  have hxx : ∀ x : Int, (x != x) = false := fun x => by simp
  go_enter Tryd.func81, Tryd.ntmps81
  go_wp2_with fail
  refine (eq_spot x0 x1 _).mono ?_
  rintro e w1 ⟨rfl, hb1⟩
  have T1 := (two_now w #[.string x0, .string x1, .int .i64 x2] #[.string x0, .string x1, .int .i64 x2] 46 46).next hb1
  have b2 := T1.box 2
  have r2 := T1.res 2
  simp at b2 r2
  have HB : Hid (Below w.heap.size w w1) := T1.bel
  clear hb1 T1
  go_wp2_with fail
  go_ret
  exact ⟨rfl, HB.out⟩
set_option maxRecDepth 100000 in
set_option maxHeartbeats 4000000 in
theorem eq_lines (a a' : Option Addr) (n cap cap' : Nat) (L : Nat → Ln) (hn : n ≤ 1048576) (w : World) (h : LinesAt w a n L) (h' : LinesAt w a' n L) :
    Calls Tryd.prog 55 #[.slice a n cap, .slice a' n cap'] w fun e w' => e = .returned (.bool true) ∧ Below w.heap.size w w' := by
  have HR : Hid (LinesAt w a n L) := h
  have HR' : Hid (LinesAt w a' n L) := h'
  clear h h'
  have hnn : ((n : Int) != (n : Int)) = false := by simp
  have hxx : ∀ x : List UInt8, (x == x) = true := fun x => by simp
  go_enter Tryd.func55, Tryd.ntmps55
  go_wp2_with fail
  go_loopw [5] (fun i wr => ∃ k : Nat, i = .int .i64 k ∧ k ≤ n ∧ Below w.heap.size w wr) (fun i _ => n - (intOf i).toNat)
  case atStart => exact ⟨0, rfl, by omega, Below.refl _ _⟩
  case round =>
    obtain ⟨k, rfl, hk, hb⟩ := hrel
    have HB : Hid (Below w.heap.size w wr) := hb
    have hsr := hb.size
    clear hb
    by_cases hkn : k < n
    · have q0 : decide (k < n) = true := by simpa using hkn
      have q1 : decide ((k : Int) < (n : Int)) = true := by simpa using hkn
      rcases HR.out with h0 | ⟨g, o, rfl, hg, hc⟩
      · omega
      rcases HR'.out with h0 | ⟨g', o', rfl, hg', hc'⟩
      · omega
      obtain ⟨c0, c1, c2⟩ := hc k hkn
      obtain ⟨d0, d1, d2⟩ := hc' k hkn
      have a0 := (HB.out.cell (p := ⟨g, _, none⟩) hg).trans c0
      have a1 := (HB.out.cell (p := ⟨g, _, none⟩) hg).trans c1
      have a2 := (HB.out.cell (p := ⟨g, _, none⟩) hg).trans c2
      have b0 := (HB.out.cell (p := ⟨g', _, none⟩) hg').trans d0
      have b1 := (HB.out.cell (p := ⟨g', _, none⟩) hg').trans d1
      have b2 := (HB.out.cell (p := ⟨g', _, none⟩) hg').trans d2
      clear hc hc' c0 d0 c1 d1 c2 d2
      generalize (L k).a = x0 at *
      generalize (L k).s = x1 at *
      generalize (L k).m = x2 at *
      skip
      have hgr : g < wr.heap.size := by omega
      have hgr' : g' < wr.heap.size := by omega
      go_upto_region 6 with fail
      go_region_held3 (fun W => W.cell? ⟨g, o + k * 3, none⟩ = some (.string x0) ∧ W.cell? ⟨g, o + k * 3 + 1, none⟩ = some (.string x1) ∧ W.cell? ⟨g, o + k * 3 + 2, none⟩ = some (.int .i64 x2) ∧ W.cell? ⟨g', o' + k * 3, none⟩ = some (.string x0) ∧ W.cell? ⟨g', o' + k * 3 + 1, none⟩ = some (.string x1) ∧ W.cell? ⟨g', o' + k * 3 + 2, none⟩ = some (.int .i64 x2)) (go_keep) (first | (go_at_call 81; refine (eq_line _ _ _ _).mono ?_; rintro e w2 ⟨rfl, hb2⟩; have e0 : w2.cell? ⟨g, o + k * 3, none⟩ = some (.string x0) := (hb2.cell (p := ⟨g, o + k * 3, none⟩) hgr).trans a0; have e1 : w2.cell? ⟨g, o + k * 3 + 1, none⟩ = some (.string x1) := (hb2.cell (p := ⟨g, o + k * 3 + 1, none⟩) hgr).trans a1; have e2 : w2.cell? ⟨g, o + k * 3 + 2, none⟩ = some (.int .i64 x2) := (hb2.cell (p := ⟨g, o + k * 3 + 2, none⟩) hgr).trans a2; have f0 : w2.cell? ⟨g', o' + k * 3, none⟩ = some (.string x0) := (hb2.cell (p := ⟨g', o' + k * 3, none⟩) hgr').trans b0; have f1 : w2.cell? ⟨g', o' + k * 3 + 1, none⟩ = some (.string x1) := (hb2.cell (p := ⟨g', o' + k * 3 + 1, none⟩) hgr').trans b1; have f2 : w2.cell? ⟨g', o' + k * 3 + 2, none⟩ = some (.int .i64 x2) := (hb2.cell (p := ⟨g', o' + k * 3 + 2, none⟩) hgr').trans b2))
      have HB2 : Hid (Below w.heap.size w w2) := HB.out.drew.trans (hb2.mono hsr)
      clear hb2 a0 b0 e0 f0 a1 b1 e1 f1 a2 b2 e2 f2
      go_wp2
      go_roundw
      case rel => exact ⟨k + 1, by go_num, by omega, HB2.out⟩
      case measure => simp [intOf]; omega
    · have q0 : decide (k < n) = false := by simpa using hkn
      have q1 : decide ((k : Int) < (n : Int)) = false := by simpa using hkn
      go_wp2_with fail
      go_ret
      exact ⟨rfl, HB.out⟩
structure Tx where
  t : ByteArray
def Tx.fits (x : Tx) : Prop := x.t.size ≤ maxLen
def Tx.small (x : Tx) : Prop := x.t.size ≤ 1048576
theorem Tx.small.fits {x : Tx} (h : x.small) : x.fits := by
  have h0 : x.t.size ≤ 1048576 := h; unfold Tx.fits maxLen; omega
/-- n texts in memory. -/
def TextsAt (w : World) (a : Option Addr) (n : Nat) (L : Nat → Tx) : Prop := n = 0 ∨ ∃ g o, a = some ⟨g, o, none⟩ ∧ g < w.heap.size ∧ ∀ i, i < n → w.cell? ⟨g, o + i, none⟩ = some (.string (L i).t)
theorem TextsAt.below {w w' : World} {a : Option Addr} {n : Nat} {L : Nat → Tx} (h : TextsAt w a n L) (hb : Below w.heap.size w w') : TextsAt w' a n L := by
  rcases h with h | ⟨g, o, rfl, hg, hc⟩
  · exact Or.inl h
  · refine Or.inr ⟨g, o, rfl, Nat.lt_of_lt_of_le hg hb.size, fun i hi => ?_⟩
    have c0 := hc i hi
    exact (hb.cell (p := ⟨g, _, none⟩) hg).trans c0
theorem TextsAt.grown {w w' : World} {a : Option Addr} {n : Nat} {row : Option Nat} {L : Nat → Tx} (h : TextsAt w a n L) (hg : w.grownBy w' row) (hne : ∀ k, a.map Addr.block = some k → some k ≠ row) : TextsAt w' a n L := by
  rcases h with h | ⟨g, o, rfl, hl, hc⟩
  · exact Or.inl h
  · have hb := hg.block g hl (hne g rfl)
    refine Or.inr ⟨g, o, rfl, Nat.lt_of_lt_of_le hl hg.size, fun i hi => ?_⟩
    have c0 := hc i hi
    exact (World.cell?_of_block (a := ⟨g, _, none⟩) hb).trans c0
/-- Their cells by number. -/
def textF (L : Nat → Tx) (j : Nat) : Value := .string (L j).t
theorem textF_at (L : Nat → Tx) (i : Nat) : textF L (i) = .string (L i).t := by
  rw [textF]
theorem Own.texts {w : World} {g n : Nat} {L : Nat → Tx} (h : Own w g (n) (textF L)) : TextsAt w (some ⟨g, 0, none⟩) n L := by
  refine Or.inr ⟨g, 0, rfl, h.1, fun i hi => ?_⟩
  have e0 := textF_at L i
  rw [Nat.zero_add, ← e0]
  exact h.2.1 _ (by omega)
/-- One more is written. -/
theorem text_step {w : World} {g n I : Nat} {F G : Nat → Value} (h : Own w g (n) (fun j => if j < I then G j else F j)) (hI : I < n) {v0 : Value} (e0 : G (I) = v0) :
    Own (w.setCell ⟨g, I, none⟩ v0) g (n) (fun j => if j < (I + 1) then G j else F j) := by
  refine (h.set (i := I) (by omega) v0).congr fun j _ => ?_
  show (if j = I then v0 else if j < I then G j else F j) = if j < (I + 1) then G j else F j
  by_cases c0 : j = I
  · rw [if_pos c0, if_pos (by omega), c0, e0]
  rw [if_neg c0]
  by_cases c : j < I
  · rw [if_pos c, if_pos (by omega)]
  · rw [if_neg c, if_neg (by omega)]
set_option maxRecDepth 100000 in
set_option maxHeartbeats 4000000 in
theorem sz_texts (a : Option Addr) (n cap : Nat) (L : Nat → Tx) (hn : n ≤ maxLen) (hfit : ∀ i, i < n → (L i).fits) (left : Nat) (hl : left ≤ 1048576) (w : World) (h : TextsAt w a n L) :
    Calls Tryd.prog 52 #[.slice a n cap, .int .i64 (left : Int)] w fun e w' => (e = .returned (.int .i64 (-1)) ∨ ∃ r : Nat, e = .returned (.int .i64 (r : Int)) ∧ r ≤ left ∧ n ≤ left ∧ ∀ i, i < n → (L i).small) ∧ Below w.heap.size w w' := by
  have HL : Hid (TextsAt w a n L) := h
  have HF : Hid (∀ i, i < n → (L i).fits) := hfit
  clear h hfit
  have hn' : n ≤ 9223372036854775807 := by unfold maxLen at hn; omega
  clear hn
  by_cases hnl : n ≤ left
  · have q0 : decide ((left : Int) - (n : Int) < 0) = false := by simp; omega
    go_enter Tryd.func52, Tryd.ntmps52
    go_wp2_with fail
    go_loopw [1, 5] (fun x i wr => ∃ (k r : Nat), x = .int .i64 (r : Int) ∧ i = .int .i64 (k : Int) ∧ k ≤ n ∧ r ≤ left ∧ Hid (∀ j, j < k → (L j).small) ∧ Hid (Below w.heap.size w wr)) (fun _ i _ => n - (intOf i).toNat)
    case atStart => exact ⟨0, left - n, by go_num, rfl, by omega, by omega, fun j hj => by omega, Below.refl _ _⟩
    case round =>
      obtain ⟨k, r, rfl, rfl, hk, hr, HS, HB⟩ := hrel
      by_cases hkn : k < n
      · have p0 : decide (k < n) = true := by simpa using hkn
        have p1 : decide ((k : Int) < (n : Int)) = true := by simpa using hkn
        rcases HL.out.below HB.out with h0 | ⟨g, o, rfl, hg, hc⟩
        · omega
        have c0 := hc k hkn
        have f0 : (L k).t.size ≤ maxLen := HF.out k hkn
        have HS' : Hid ((L k).small → ∀ j, j < k + 1 → (L j).small) := fun hsm j hj => by
          by_cases e : j = k
          · rw [e]; exact hsm
          · exact HS.out j (by omega)
        have HSm : Hid ((L k).t.size ≤ left → (L k).small) := fun a => (by show (L k).t.size ≤ 1048576; omega)
        clear hc HS
        generalize (L k).t = x0 at *
        by_cases hx : x0.size ≤ r
        · have q' : decide ((r : Int) - (x0.size : Int) < 0) = false := by simp; omega
          have HS2 : Hid (∀ j, j < k + 1 → (L j).small) := HS'.out (HSm.out (by omega))
          clear HS' HSm
          unfold maxLen at f0
          go_wp2_with fail
          go_roundw
          case rel => exact ⟨k + 1, r - x0.size, by go_num, by go_num, by omega, by omega, HS2, HB⟩
          case measure => simp [intOf]; omega
        · have q' : decide ((r : Int) - (x0.size : Int) < 0) = true := by simp; omega
          unfold maxLen at f0
          go_wp2_with fail
          go_ret
          exact ⟨Or.inl rfl, HB.out⟩
      · have p0 : decide (k < n) = false := by simpa using hkn
        have p1 : decide ((k : Int) < (n : Int)) = false := by simpa using hkn
        obtain rfl : k = n := by omega
        go_wp2_with fail
        go_ret
        exact ⟨Or.inr ⟨r, rfl, hr, hnl, HS.out⟩, HB.out⟩
  · have q0 : decide ((left : Int) - (n : Int) < 0) = true := by simp; omega
    go_enter Tryd.func52, Tryd.ntmps52
    go_wp2_with fail
    go_ret
    exact ⟨Or.inl rfl, Below.refl _ _⟩
theorem infoText : (Tryd.prog.info? 9).map (fun i => (i.zero, i.size, i.bytes)) = some (some (.string ⟨#[]⟩), 1, 16) := by kernel_rfl
set_option maxRecDepth 100000 in
set_option maxHeartbeats 4000000 in
theorem to_texts (a : Option Addr) (n cap : Nat) (L : Nat → Tx) (hn : n ≤ 1048576) (w : World) (h : TextsAt w a n L) :
    Calls Tryd.prog 54 #[.slice a n cap] w fun e w' => ∃ g, e = .returned (.slice (some ⟨g, 0, none⟩) n n) ∧ w.heap.size ≤ g ∧ Own w' g (n) (textF L) ∧ Below w.heap.size w w' := by
  obtain ⟨i0, hi, hz0, hz1, hz2⟩ := info_parts infoText
  have HL : Hid (TextsAt w a n L) := h
  clear h
  go_enter Tryd.func54, Tryd.ntmps54
  go_wp2_with (refine wpList_make_full _ rfl (.tmp 6) (.tmp 6) 24 rfl w.heap.size 9 i0 (.string ⟨#[]⟩) 1 Tryd.underlying24 hi hz0 hz1 .i64 .i64 _ _ n rfl rfl rfl rfl (by rw [hz2]; omega) (by unfold maxLen; omega) (Nat.le_refl _) ?_)
  intro w1 hown hg1
  have HB1 : Hid (Below w.heap.size w w1) := (Below.refl _ _).grown hg1 (Nat.le_refl _) (fun k hk => by cases hk)
  obtain ⟨F0, hO⟩ := own_some hown
  rw [Nat.mul_one] at hO
  have HO : Hid (Own w1 w.heap.size (n) F0) := hO
  clear hO
  clear hg1 hown
  go_wp2_with fail
  go_loopw [4] (fun i wr => ∃ k : Nat, i = .int .i64 (k : Int) ∧ k ≤ n ∧ Hid (Own wr w.heap.size (n) (fun j => if j < k then textF L j else F0 j)) ∧ Hid (Below w.heap.size w wr)) (fun i _ => n - (intOf i).toNat)
  case atStart => exact ⟨0, rfl, by omega, HO.out.congr (fun j _ => by rw [if_neg (by omega)]), HB1⟩
  case round =>
    obtain ⟨k, rfl, hk, HOr, HB⟩ := hrel
    by_cases hkn : k < n
    · have p0 : decide (k < n) = true := by simpa using hkn
      have p1 : decide ((k : Int) < (n : Int)) = true := by simpa using hkn
      rcases HL.out with h0 | ⟨g, o, rfl, hg, hc⟩
      · omega
      have c0 := hc k hkn
      have d0 := (HB.out.cell (p := ⟨g, _, none⟩) hg).trans c0
      have HE : Hid (textF L (k) = .string (L k).t) := textF_at L k
      clear hc c0
      generalize (L k).t = x0 at *
      have HO2 : Hid (Own wr w.heap.size (n) (fun j => if j < k then textF L j else F0 j)) := HOr.out
      have HB2 : Hid (Below w.heap.size w wr) := HB.out
      have a0 := HO2.out.2.1 (k) (by omega)
      have hf := HO2.out.2.2
      simp only [show ¬ k < k by omega, if_false] at a0
      generalize F0 (k) = y0 at a0
      have HN := fun (_ : Unit) => text_step HO2.out hkn HE.out
      have HN : Hid (Unit → _) := HN
      skip
      go_wp2_with fail
      go_roundw
      case rel =>
        have s := Nat.le_refl w.heap.size
        exact ⟨k + 1, by go_num, by omega, HN.out (), (HB2.out.setCell s _)⟩
      case measure => simp [intOf]; omega
    · have p0 : decide (k < n) = false := by simpa using hkn
      have p1 : decide ((k : Int) < (n : Int)) = false := by simpa using hkn
      obtain rfl : k = n := by omega
      go_wp2_with fail
      go_ret
      exact ⟨w.heap.size, rfl, Nat.le_refl _, HOr.out.congr (fun j hj => by rw [if_pos hj]), HB.out⟩
set_option maxRecDepth 100000 in
set_option maxHeartbeats 4000000 in
theorem eq_texts (a a' : Option Addr) (n cap cap' : Nat) (L : Nat → Tx) (hn : n ≤ 1048576) (w : World) (h : TextsAt w a n L) (h' : TextsAt w a' n L) :
    Calls Tryd.prog 56 #[.slice a n cap, .slice a' n cap'] w fun e w' => e = .returned (.bool true) ∧ Below w.heap.size w w' := by
  have HR : Hid (TextsAt w a n L) := h
  have HR' : Hid (TextsAt w a' n L) := h'
  clear h h'
  have hnn : ((n : Int) != (n : Int)) = false := by simp
  have hxx : ∀ x : List UInt8, (x == x) = true := fun x => by simp
  go_enter Tryd.func56, Tryd.ntmps56
  go_wp2_with fail
  go_loopw [5] (fun i wr => ∃ k : Nat, i = .int .i64 k ∧ k ≤ n ∧ Below w.heap.size w wr) (fun i _ => n - (intOf i).toNat)
  case atStart => exact ⟨0, rfl, by omega, Below.refl _ _⟩
  case round =>
    obtain ⟨k, rfl, hk, hb⟩ := hrel
    have HB : Hid (Below w.heap.size w wr) := hb
    have hsr := hb.size
    clear hb
    by_cases hkn : k < n
    · have q0 : decide (k < n) = true := by simpa using hkn
      have q1 : decide ((k : Int) < (n : Int)) = true := by simpa using hkn
      rcases HR.out with h0 | ⟨g, o, rfl, hg, hc⟩
      · omega
      rcases HR'.out with h0 | ⟨g', o', rfl, hg', hc'⟩
      · omega
      have c0 := hc k hkn
      have d0 := hc' k hkn
      have a0 := (HB.out.cell (p := ⟨g, _, none⟩) hg).trans c0
      have b0 := (HB.out.cell (p := ⟨g', _, none⟩) hg').trans d0
      clear hc hc' c0 d0
      generalize (L k).t = x0 at *
      skip
      have hgr : g < wr.heap.size := by omega
      have hgr' : g' < wr.heap.size := by omega
      go_upto_region 6 with fail
      go_region_held3 (fun W => W.cell? ⟨g, o + k, none⟩ = some (.string x0) ∧ W.cell? ⟨g', o' + k, none⟩ = some (.string x0)) (go_keep) (fail)
      have HB2 : Hid (Below w.heap.size w wr.drew) := HB.out.drew
      go_wp2
      go_roundw
      case rel => exact ⟨k + 1, by go_num, by omega, HB2.out⟩
      case measure => simp [intOf]; omega
    · have q0 : decide (k < n) = false := by simpa using hkn
      have q1 : decide ((k : Int) < (n : Int)) = false := by simpa using hkn
      go_wp2_with fail
      go_ret
      exact ⟨rfl, HB.out⟩
end Go.Proofs.YtpabdapaegllnaaDoor
