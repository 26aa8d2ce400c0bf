/- Lines marked and looked at again: what the laws' helpers do. -/
import Derived.Test.YtpabdapaegllnaaDoorTxs
namespace Go.Proofs.YtpabdapaegllnaaDoor
open Go.RowKit
open Go.Proofs.YtpabdapaegllnaaDoor.Draw

/-- What marked lines' cells read. -/
def mkLn (k0 : Nat) (j : Nat) : Value := if j % 3 = 0 then .string (mtx (k0 + j)) else if j % 3 = 1 then .string (mtx (k0 + j)) else .int .i64 ((k0 + j : Nat) : Int)
theorem mkLn_at (k0 i : Nat) : mkLn k0 (i * 3) = .string (mtx (k0 + i * 3)) ∧ mkLn k0 (i * 3 + 1) = .string (mtx (k0 + i * 3 + 1)) ∧ mkLn k0 (i * 3 + 2) = .int .i64 ((k0 + i * 3 + 2 : Nat) : Int) := by
  refine ⟨?_, ?_, ?_⟩
  · rw [mkLn, if_pos (by omega)]
  · rw [mkLn, if_neg (by omega), if_pos (by omega)]; rfl
  · rw [mkLn, if_neg (by omega), if_neg (by omega)]; rfl
theorem mkLn_fun {F G G0 : Nat → Value} {I : Nat} (h0 : G0 = fun j => if j < I * 3 then G j else F j) {v0 v1 v2 : Value} (e0 : G (I * 3) = v0) (e1 : G (I * 3 + 1) = v1) (e2 : G (I * 3 + 2) = v2) {j : Nat} :
    (if j = I * 3 + 2 then v2 else if j = I * 3 + 1 then v1 else if j = I * 3 then v0 else G0 j) = if j < (I + 1) * 3 then G j else F j := by
  rw [h0]
  by_cases c2 : j = I * 3 + 2
  · rw [if_pos c2, if_pos (by omega), c2, e2]
  rw [if_neg c2]
  by_cases c1 : j = I * 3 + 1
  · rw [if_pos c1, if_pos (by omega), c1, e1]
  rw [if_neg c1]
  by_cases c0 : j = I * 3
  · rw [if_pos c0, if_pos (by omega), c0, e0]
  rw [if_neg c0]
  show (if j < I * 3 then G j else F j) = _
  by_cases c : j < I * 3
  · rw [if_pos c, if_pos (by omega)]
  · rw [if_neg c, if_neg (by omega)]
set_option maxRecDepth 100000 in
set_option maxHeartbeats 8000000 in
theorem mark_lines (a : Option Addr) (n cap : Nat) (F : Nat → Value) (hn : n ≤ 1048576) (k0 : Nat) (hk1 : 1 ≤ k0) (hk2 : k0 ≤ 549755813888) (w : World) (h : OwnR w a n 3 F) :
    Calls Tryd.prog 57 #[.slice a n cap, .int .i64 (k0 : Int)] w fun e w' => e = .returned (.int .i64 ((k0 + n * 3 : Nat) : Int)) ∧ OwnR w' a n 3 (mkLn k0) ∧ w.grownBy w' (a.map Addr.block) := by
  rcases h with h0 | ⟨g, rfl, hO⟩
  · subst h0
    go_enter Tryd.func57, Tryd.ntmps57
    go_wp2_with fail
    refine wp_loop_rounds 1 ?_
    rw [rounds_succ]
    go_wp2
    go_ret
    exact ⟨ret_int (by omega), Or.inl rfl, World.grownBy.refl _ _⟩
  have HO : Hid (Own w g (n * 3) F) := hO
  clear hO
  go_enter Tryd.func57, Tryd.ntmps57
  go_wp2_with fail
  go_loopw [1, 5] (fun x i wr => ∃ I K : Nat, x = .int .i64 (K : Int) ∧ i = .int .i64 (I : Int) ∧ I ≤ n ∧ K = k0 + I * 3 ∧ Hid (Own wr g (n * 3) (fun j => if j < I * 3 then mkLn k0 j else F j)) ∧ Hid (w.grownBy wr (some g))) (fun _ i _ => n - (intOf i).toNat)
  case atStart => exact ⟨0, k0, rfl, rfl, by omega, by omega, HO.out.congr (fun j _ => by rw [if_neg (by omega)]), World.grownBy.refl _ _⟩
  case round =>
    obtain ⟨I, K, rfl, rfl, hI, hK, HOr, HG⟩ := hrel
    by_cases hin : I < n
    · have p0 : decide (I < n) = true := by simpa using hin
      have p1 : decide ((I : Int) < (n : Int)) = true := by simpa using hin
      have HE : Hid (mkLn k0 (I * 3) = .string (mtx (K)) ∧ mkLn k0 (I * 3 + 1) = .string (mtx (K + 1)) ∧ mkLn k0 (I * 3 + 2) = .int .i64 ((K + 2 : Nat) : Int)) := by rw [hK]; exact mkLn_at k0 I
      have hKb : K ≤ 1099511627000 := by omega
      have hK1 : 1 ≤ K := by omega
      have HK : Hid (K = k0 + I * 3) := hK
      clear hK
      obtain ⟨G0, hG0⟩ : ∃ G, G = (fun j => if j < I * 3 then mkLn k0 j else F j) := ⟨_, rfl⟩
      have HGE : Hid (G0 = (fun j => if j < I * 3 then mkLn k0 j else F j)) := hG0
      rw [← hG0] at HOr
      clear hG0
      obtain ⟨T0, hT0⟩ : ∃ t, t = mtx (K) := ⟨_, rfl⟩
      obtain ⟨T1, hT1⟩ : ∃ t, t = mtx (K + 1) := ⟨_, rfl⟩
      have M0 := fun z hz W => mark_text' z (K) hz (by omega) (by omega) W
      have M1 := fun z hz W => mark_text' z (K + 1) hz (by omega) (by omega) W
      rw [← hT0, ← hT1] at HE
      rw [← hT0] at M0
      rw [← hT1] at M1
      clear hT0 hT1
      have M0 : Hid (∀ z, z = ((K : Nat) : Int) → ∀ W, Calls Tryd.prog 82 #[.int .i64 z] W fun e w' => e = .returned (.string T0) ∧ Below W.heap.size W w') := M0
      have M1 : Hid (∀ z, z = ((K + 1 : Nat) : Int) → ∀ W, Calls Tryd.prog 82 #[.int .i64 z] W fun e w' => e = .returned (.string T1) ∧ Below W.heap.size W w') := M1
      go_wp2_with fail
      refine (M0.out _ (by omega) _).mono ?_
      rintro e w0 ⟨rfl, hb0⟩
      have Ho0 := Own.below (HOr.out) hb0
      have Hq0 := below_grown (HG.out) hb0
      clear hb0
      obtain ⟨y0, hc0⟩ : ∃ y, w0.cell? ⟨g, I * 3, none⟩ = some y := ⟨_, (Ho0).2.1 (I * 3) (by omega)⟩
      have hf0 := (Ho0).2.2 (I * 3)
      have Hs0 : Own (w0.setCell ⟨g, I * 3, none⟩ (.string T0)) g (n * 3) _ := Own.set (Ho0) (i := I * 3) (by omega) (.string T0)
      have Hg0 : w.grownBy (w0.setCell ⟨g, I * 3, none⟩ (.string T0)) (some g) := setGrown (Hq0)
      have HHo0 : Hid _ := Ho0
      have HHq0 : Hid _ := Hq0
      clear Ho0 Hq0
      have HHs0 : Hid _ := Hs0
      clear Hs0
      have HHg0 : Hid _ := Hg0
      clear Hg0
      go_wp2_with fail
      refine (M1.out _ (by omega) _).mono ?_
      rintro e w1 ⟨rfl, hb1⟩
      have Ho1 := Own.below (HHs0.out) hb1
      have Hq1 := below_grown (HHg0.out) hb1
      clear hb1
      obtain ⟨y1, hc1⟩ : ∃ y, w1.cell? ⟨g, I * 3 + 1, none⟩ = some y := ⟨_, (Ho1).2.1 (I * 3 + 1) (by omega)⟩
      have hf1 := (Ho1).2.2 (I * 3 + 1)
      obtain ⟨y2, hc2⟩ : ∃ y, w1.cell? ⟨g, I * 3 + 2, none⟩ = some y := ⟨_, (Ho1).2.1 (I * 3 + 2) (by omega)⟩
      have hf2 := (Ho1).2.2 (I * 3 + 2)
      have Hs1 : Own (w1.setCell ⟨g, I * 3 + 1, none⟩ (.string T1)) g (n * 3) _ := Own.set (Ho1) (i := I * 3 + 1) (by omega) (.string T1)
      have Hg1 : w.grownBy (w1.setCell ⟨g, I * 3 + 1, none⟩ (.string T1)) (some g) := setGrown (Hq1)
      have Hs2 : Own ((w1.setCell ⟨g, I * 3 + 1, none⟩ (.string T1)).setCell ⟨g, I * 3 + 2, none⟩ (.int .i64 ((K : Int) + 1 + 1))) g (n * 3) _ := Own.set (Hs1) (i := I * 3 + 2) (by omega) (.int .i64 ((K : Int) + 1 + 1))
      have Hg2 : w.grownBy ((w1.setCell ⟨g, I * 3 + 1, none⟩ (.string T1)).setCell ⟨g, I * 3 + 2, none⟩ (.int .i64 ((K : Int) + 1 + 1))) (some g) := setGrown (Hg1)
      have HHo1 : Hid _ := Ho1
      have HHq1 : Hid _ := Hq1
      clear Ho1 Hq1
      have HOz : Hid (Own ((w1.setCell ⟨g, I * 3 + 1, none⟩ (.string T1)).setCell ⟨g, I * 3 + 2, none⟩ (.int .i64 ((K : Int) + 1 + 1))) g (n * 3) (fun j => if j < (I + 1) * 3 then mkLn k0 j else F j)) := Own.congr Hs2 (fun j _ => mkLn_fun (by rw [HGE.out]) (HE.out.1) (HE.out.2.1) ((HE.out.2.2).trans (by first | rfl | (congr 2))))
      have HGz : Hid (w.grownBy ((w1.setCell ⟨g, I * 3 + 1, none⟩ (.string T1)).setCell ⟨g, I * 3 + 2, none⟩ (.int .i64 ((K : Int) + 1 + 1))) (some g)) := Hg2
      clear Hs1 Hg1 Hs2 Hg2 HE HGE
      go_wp2_with fail
      go_roundw
      case rel => exact ⟨I + 1, K + 3, by go_num, by go_num, by omega, by have := HK.out; omega, HOz, HGz⟩
      case measure => simp [intOf]; omega
    · have p0 : decide (I < n) = false := by simpa using hin
      have p1 : decide ((I : Int) < (n : Int)) = false := by simpa using hin
      obtain rfl : I = n := by omega
      go_wp2_with fail
      go_ret
      exact ⟨ret_int (by omega), Or.inr ⟨g, rfl, HOr.out.congr (fun j hj => by rw [if_pos hj])⟩, HG.out⟩
set_option maxRecDepth 100000 in
set_option maxHeartbeats 8000000 in
theorem held_lines (a : Option Addr) (n cap : Nat) (hn : n ≤ 1048576) (k0 : Nat) (hk1 : 1 ≤ k0) (hk2 : k0 ≤ 549755813888) (w : World) (h : OwnR w a n 3 (mkLn k0)) :
    Calls Tryd.prog 83 #[.slice a n cap, .int .i64 (k0 : Int)] w fun e w' => e = .returned (.int .i64 ((k0 + n * 3 : Nat) : Int)) ∧ Below w.heap.size w w' := by
  rcases h with h0 | ⟨g, rfl, hO⟩
  · subst h0
    go_enter Tryd.func83, Tryd.ntmps83
    go_wp2_with fail
    refine wp_loop_rounds 1 ?_
    rw [rounds_succ]
    go_wp2
    go_ret
    exact ⟨ret_int (by omega), Below.refl _ _⟩
  have HO : Hid (Own w g (n * 3) (mkLn k0)) := hO
  clear hO
  go_enter Tryd.func83, Tryd.ntmps83
  go_wp2_with fail
  go_loopw [1, 5] (fun x i wr => ∃ I K : Nat, x = .int .i64 (K : Int) ∧ i = .int .i64 (I : Int) ∧ I ≤ n ∧ K = k0 + I * 3 ∧ Hid (Below w.heap.size w wr)) (fun _ i _ => n - (intOf i).toNat)
  case atStart => exact ⟨0, k0, rfl, rfl, by omega, by omega, Below.refl _ _⟩
  case round =>
    obtain ⟨I, K, rfl, rfl, hI, hK, HB⟩ := hrel
    by_cases hin : I < n
    · have p0 : decide (I < n) = true := by simpa using hin
      have p1 : decide ((I : Int) < (n : Int)) = true := by simpa using hin
      have HE : Hid (mkLn k0 (I * 3) = .string (mtx (K)) ∧ mkLn k0 (I * 3 + 1) = .string (mtx (K + 1)) ∧ mkLn k0 (I * 3 + 2) = .int .i64 ((K + 2 : Nat) : Int)) := by rw [hK]; exact mkLn_at k0 I
      have hKb : K ≤ 1099511627000 := by omega
      have hK1 : 1 ≤ K := by omega
      have HK : Hid (K = k0 + I * 3) := hK
      clear hK
      obtain ⟨T0, hT0⟩ : ∃ t, t = mtx (K) := ⟨_, rfl⟩
      obtain ⟨T1, hT1⟩ : ∃ t, t = mtx (K + 1) := ⟨_, rfl⟩
      have M0 := fun z hz W => mark_text' z (K) hz (by omega) (by omega) W
      have M1 := fun z hz W => mark_text' z (K + 1) hz (by omega) (by omega) W
      rw [← hT0, ← hT1] at HE
      rw [← hT0] at M0
      rw [← hT1] at M1
      clear hT0 hT1
      have M0 : Hid (∀ z, z = ((K : Nat) : Int) → ∀ W, Calls Tryd.prog 82 #[.int .i64 z] W fun e w' => e = .returned (.string T0) ∧ Below W.heap.size W w') := M0
      have M1 : Hid (∀ z, z = ((K + 1 : Nat) : Int) → ∀ W, Calls Tryd.prog 82 #[.int .i64 z] W fun e w' => e = .returned (.string T1) ∧ Below W.heap.size W w') := M1
      have hxx : ∀ x : List UInt8, (x == x) = true := fun x => by simp
      have hx4 : ∀ x : Int, (x != x) = false := fun x => by simp
      have hgw : g < w.heap.size := HO.out.1
      have hO := HO.out.below HB.out
      have b0 : wr.cell? ⟨g, I * 3, none⟩ = some (.string T0) := (hO.2.1 _ (by omega)).trans (by rw [HE.out.1])
      have b1 : wr.cell? ⟨g, I * 3 + 1, none⟩ = some (.string T1) := (hO.2.1 _ (by omega)).trans (by rw [HE.out.2.1])
      have b2 : wr.cell? ⟨g, I * 3 + 2, none⟩ = some (.int .i64 ((K : Int) + 1 + 1)) := (hO.2.1 _ (by omega)).trans (by rw [HE.out.2.2]; congr 2)
      have hgr : g < wr.heap.size := hO.1
      clear hO
      go_upto_region 4 with fail
      go_region_held3 (fun W => W.cell? ⟨g, I * 3, none⟩ = some (.string T0)) (go_keep) (first | (go_at_call 82; refine (M0.out _ (by omega) _).mono ?_; rintro e v0 ⟨rfl, hb⟩; have e0 : v0.cell? ⟨g, I * 3, none⟩ = some (.string T0) := (hb.cell (p := ⟨g, I * 3, none⟩) hgr).trans b0))
      have HB0 : Hid (Below w.heap.size w v0) := HB.out.drew.trans (hb.mono HB.out.size)
      have b1 := (hb.cell (p := ⟨g, I * 3 + 1, none⟩) hgr).trans b1
      have b2 := (hb.cell (p := ⟨g, I * 3 + 2, none⟩) hgr).trans b2
      have hgr : g < v0.heap.size := Nat.lt_of_lt_of_le hgr hb.size
      clear hb e0
      go_upto_region 7 with fail
      go_region_held3 (fun W => W.cell? ⟨g, I * 3 + 1, none⟩ = some (.string T1)) (go_keep) (first | (go_at_call 82; refine (M1.out _ (by omega) _).mono ?_; rintro e v1 ⟨rfl, hb⟩; have e0 : v1.cell? ⟨g, I * 3 + 1, none⟩ = some (.string T1) := (hb.cell (p := ⟨g, I * 3 + 1, none⟩) hgr).trans b1))
      have HB1 : Hid (Below w.heap.size w v1) := HB0.out.drew.trans (hb.mono HB0.out.size)
      have b2 := (hb.cell (p := ⟨g, I * 3 + 2, none⟩) hgr).trans b2
      have hgr : g < v1.heap.size := Nat.lt_of_lt_of_le hgr hb.size
      clear hb e0
      go_wp2_with fail
      go_roundw
      case rel => exact ⟨I + 1, K + 3, by go_num, by go_num, by omega, by have := HK.out; omega, HB1⟩
      case measure => simp [intOf]; omega
    · have p0 : decide (I < n) = false := by simpa using hin
      have p1 : decide ((I : Int) < (n : Int)) = false := by simpa using hin
      obtain rfl : I = n := by omega
      go_wp2_with fail
      go_ret
      exact ⟨ret_int (by omega), HB.out⟩
theorem OwnR.lines {w : World} {a : Option Addr} {n : Nat} {L : Nat → Ln} (h : OwnR w a n 3 (lineF L)) : LinesAt w a n L := by
  rcases h with h | ⟨g, rfl, hO⟩
  · exact Or.inl h
  · exact hO.lines
end Go.Proofs.YtpabdapaegllnaaDoor
