/- Nodes and Params marked and looked at again: what the laws' helpers do. -/
import Derived.Test.YthfjekpmaafhaaaNodes
import Derived.Test.YthfjekpmaafhaaaTxs
namespace Go.Proofs.Ythfjekpmaafhaaa
open Go.RowKit


/-- What marked nodes' cells read. -/
def mkN (k0 : Nat) (j : Nat) : Value := if j % 5 = 0 then .int .i64 ((k0 + j : Nat) : Int) else if j % 5 = 1 then .string (mtx (k0 + j)) else if j % 5 = 2 then .string (mtx (k0 + j)) else if j % 5 = 3 then .int .i64 ((k0 + j : Nat) : Int) else .int .i64 ((k0 + j : Nat) : Int)
theorem mkN_at (k0 i : Nat) : mkN k0 (i * 5) = .int .i64 ((k0 + i * 5 : Nat) : Int) ∧ mkN k0 (i * 5 + 1) = .string (mtx (k0 + i * 5 + 1)) ∧ mkN k0 (i * 5 + 2) = .string (mtx (k0 + i * 5 + 2)) ∧ mkN k0 (i * 5 + 3) = .int .i64 ((k0 + i * 5 + 3 : Nat) : Int) ∧ mkN k0 (i * 5 + 4) = .int .i64 ((k0 + i * 5 + 4 : Nat) : Int) := by
  refine ⟨?_, ?_, ?_, ?_, ?_⟩
  · rw [mkN, if_pos (by omega)]
  · rw [mkN, if_neg (by omega), if_pos (by omega)]; rfl
  · rw [mkN, if_neg (by omega), if_neg (by omega), if_pos (by omega)]; rfl
  · rw [mkN, if_neg (by omega), if_neg (by omega), if_neg (by omega), if_pos (by omega)]; rfl
  · rw [mkN, if_neg (by omega), if_neg (by omega), if_neg (by omega), if_neg (by omega)]; rfl
theorem mkN_fun {F G G0 : Nat → Value} {I : Nat} (h0 : G0 = fun j => if j < I * 5 then G j else F j) {v0 v1 v2 v3 v4 : Value} (e0 : G (I * 5) = v0) (e1 : G (I * 5 + 1) = v1) (e2 : G (I * 5 + 2) = v2) (e3 : G (I * 5 + 3) = v3) (e4 : G (I * 5 + 4) = v4) {j : Nat} :
    (if j = I * 5 + 4 then v4 else if j = I * 5 + 3 then v3 else if j = I * 5 + 2 then v2 else if j = I * 5 + 1 then v1 else if j = I * 5 then v0 else G0 j) = if j < (I + 1) * 5 then G j else F j := by
  rw [h0]
  by_cases c4 : j = I * 5 + 4
  · rw [if_pos c4, if_pos (by omega), c4, e4]
  rw [if_neg c4]
  by_cases c3 : j = I * 5 + 3
  · rw [if_pos c3, if_pos (by omega), c3, e3]
  rw [if_neg c3]
  by_cases c2 : j = I * 5 + 2
  · rw [if_pos c2, if_pos (by omega), c2, e2]
  rw [if_neg c2]
  by_cases c1 : j = I * 5 + 1
  · rw [if_pos c1, if_pos (by omega), c1, e1]
  rw [if_neg c1]
  by_cases c0 : j = I * 5
  · rw [if_pos c0, if_pos (by omega), c0, e0]
  rw [if_neg c0]
  show (if j < I * 5 then G j else F j) = _
  by_cases c : j < I * 5
  · rw [if_pos c, if_pos (by omega)]
  · rw [if_neg c, if_neg (by omega)]
set_option maxRecDepth 100000 in
set_option maxHeartbeats 8000000 in
theorem mark_nodes (a : Option Addr) (n cap : Nat) (F : Nat → Value) (hn : n ≤ 1048576) (k0 : Nat) (hk1 : 1 ≤ k0) (hk2 : k0 ≤ 549755813888) (w : World) (h : OwnR w a n 5 F) :
    Calls Try.prog 17 #[.slice a n cap, .int .i64 (k0 : Int)] w fun e w' => e = .returned (.int .i64 ((k0 + n * 5 : Nat) : Int)) ∧ OwnR w' a n 5 (mkN k0) ∧ w.grownBy w' (a.map Addr.block) := by
  rcases h with h0 | ⟨g, rfl, hO⟩
  · subst h0
    go_enter Try.func17, Try.ntmps17
    go_wp2_with fail
    refine wp_loop_rounds 1 ?_
    rw [rounds_succ]
    go_wp2
    go_ret
    exact ⟨ret_int (by omega), Or.inl rfl, World.grownBy.refl _ _⟩
  have HO : Hid (Own w g (n * 5) F) := hO
  clear hO
  go_enter Try.func17, Try.ntmps17
  go_wp2_with fail
  go_loopw [1, 5] (fun x i wr => ∃ I K : Nat, x = .int .i64 (K : Int) ∧ i = .int .i64 (I : Int) ∧ I ≤ n ∧ K = k0 + I * 5 ∧ Hid (Own wr g (n * 5) (fun j => if j < I * 5 then mkN k0 j else F j)) ∧ Hid (w.grownBy wr (some g))) (fun _ i _ => n - (intOf i).toNat)
  case atStart => exact ⟨0, k0, rfl, rfl, by omega, by omega, HO.out.congr (fun j _ => by rw [if_neg (by omega)]), World.grownBy.refl _ _⟩
  case round =>
    obtain ⟨I, K, rfl, rfl, hI, hK, HOr, HG⟩ := hrel
    by_cases hin : I < n
    · have p0 : decide (I < n) = true := by simpa using hin
      have p1 : decide ((I : Int) < (n : Int)) = true := by simpa using hin
      have HE : Hid (mkN k0 (I * 5) = .int .i64 ((K : Nat) : Int) ∧ mkN k0 (I * 5 + 1) = .string (mtx (K + 1)) ∧ mkN k0 (I * 5 + 2) = .string (mtx (K + 2)) ∧ mkN k0 (I * 5 + 3) = .int .i64 ((K + 3 : Nat) : Int) ∧ mkN k0 (I * 5 + 4) = .int .i64 ((K + 4 : Nat) : Int)) := by rw [hK]; exact mkN_at k0 I
      have hKb : K ≤ 1099511627000 := by omega
      have hK1 : 1 ≤ K := by omega
      have HK : Hid (K = k0 + I * 5) := hK
      clear hK
      obtain ⟨G0, hG0⟩ : ∃ G, G = (fun j => if j < I * 5 then mkN k0 j else F j) := ⟨_, rfl⟩
      have HGE : Hid (G0 = (fun j => if j < I * 5 then mkN k0 j else F j)) := hG0
      rw [← hG0] at HOr
      clear hG0
      obtain ⟨T1, hT1⟩ : ∃ t, t = mtx (K + 1) := ⟨_, rfl⟩
      obtain ⟨T2, hT2⟩ : ∃ t, t = mtx (K + 2) := ⟨_, rfl⟩
      have M1 := fun z hz W => mark_text' z (K + 1) hz (by omega) (by omega) W
      have M2 := fun z hz W => mark_text' z (K + 2) hz (by omega) (by omega) W
      rw [← hT1, ← hT2] at HE
      rw [← hT1] at M1
      rw [← hT2] at M2
      clear hT1 hT2
      have M1 : Hid (∀ z, z = ((K + 1 : Nat) : Int) → ∀ W, Calls Try.prog 37 #[.int .i64 z] W fun e w' => e = .returned (.string T1) ∧ Below W.heap.size W w') := M1
      have M2 : Hid (∀ z, z = ((K + 2 : Nat) : Int) → ∀ W, Calls Try.prog 37 #[.int .i64 z] W fun e w' => e = .returned (.string T2) ∧ Below W.heap.size W w') := M2
      obtain ⟨y0, hc0⟩ : ∃ y, wr.cell? ⟨g, I * 5, none⟩ = some y := ⟨_, (HOr.out).2.1 (I * 5) (by omega)⟩
      have hf0 := (HOr.out).2.2 (I * 5)
      have Hs0 : Own (wr.setCell ⟨g, I * 5, none⟩ (.int .i64 ((K : Int)))) g (n * 5) _ := Own.set (HOr.out) (i := I * 5) (by omega) (.int .i64 ((K : Int)))
      have Hg0 : w.grownBy (wr.setCell ⟨g, I * 5, none⟩ (.int .i64 ((K : Int)))) (some g) := setGrown (HG.out)
      have HHs0 : Hid _ := Hs0
      clear Hs0
      have HHg0 : Hid _ := Hg0
      clear Hg0
      go_wp2_with fail
      refine (M1.out _ (by omega) _).mono ?_
      rintro e w1 ⟨rfl, hb1⟩
      have Ho1 := Own.below (HHs0.out) hb1
      have Hq1 := below_grown (HHg0.out) hb1
      clear hb1
      obtain ⟨y1, hc1⟩ : ∃ y, w1.cell? ⟨g, I * 5 + 1, none⟩ = some y := ⟨_, (Ho1).2.1 (I * 5 + 1) (by omega)⟩
      have hf1 := (Ho1).2.2 (I * 5 + 1)
      have Hs1 : Own (w1.setCell ⟨g, I * 5 + 1, none⟩ (.string T1)) g (n * 5) _ := Own.set (Ho1) (i := I * 5 + 1) (by omega) (.string T1)
      have Hg1 : w.grownBy (w1.setCell ⟨g, I * 5 + 1, none⟩ (.string T1)) (some g) := setGrown (Hq1)
      have HHo1 : Hid _ := Ho1
      have HHq1 : Hid _ := Hq1
      clear Ho1 Hq1
      have HHs1 : Hid _ := Hs1
      clear Hs1
      have HHg1 : Hid _ := Hg1
      clear Hg1
      go_wp2_with fail
      refine (M2.out _ (by omega) _).mono ?_
      rintro e w2 ⟨rfl, hb2⟩
      have Ho2 := Own.below (HHs1.out) hb2
      have Hq2 := below_grown (HHg1.out) hb2
      clear hb2
      obtain ⟨y2, hc2⟩ : ∃ y, w2.cell? ⟨g, I * 5 + 2, none⟩ = some y := ⟨_, (Ho2).2.1 (I * 5 + 2) (by omega)⟩
      have hf2 := (Ho2).2.2 (I * 5 + 2)
      obtain ⟨y3, hc3⟩ : ∃ y, w2.cell? ⟨g, I * 5 + 3, none⟩ = some y := ⟨_, (Ho2).2.1 (I * 5 + 3) (by omega)⟩
      have hf3 := (Ho2).2.2 (I * 5 + 3)
      obtain ⟨y4, hc4⟩ : ∃ y, w2.cell? ⟨g, I * 5 + 4, none⟩ = some y := ⟨_, (Ho2).2.1 (I * 5 + 4) (by omega)⟩
      have hf4 := (Ho2).2.2 (I * 5 + 4)
      have Hs2 : Own (w2.setCell ⟨g, I * 5 + 2, none⟩ (.string T2)) g (n * 5) _ := Own.set (Ho2) (i := I * 5 + 2) (by omega) (.string T2)
      have Hg2 : w.grownBy (w2.setCell ⟨g, I * 5 + 2, none⟩ (.string T2)) (some g) := setGrown (Hq2)
      have Hs3 : Own ((w2.setCell ⟨g, I * 5 + 2, none⟩ (.string T2)).setCell ⟨g, I * 5 + 3, none⟩ (.int .i64 ((K : Int) + 1 + 1 + 1))) g (n * 5) _ := Own.set (Hs2) (i := I * 5 + 3) (by omega) (.int .i64 ((K : Int) + 1 + 1 + 1))
      have Hg3 : w.grownBy ((w2.setCell ⟨g, I * 5 + 2, none⟩ (.string T2)).setCell ⟨g, I * 5 + 3, none⟩ (.int .i64 ((K : Int) + 1 + 1 + 1))) (some g) := setGrown (Hg2)
      have Hs4 : Own (((w2.setCell ⟨g, I * 5 + 2, none⟩ (.string T2)).setCell ⟨g, I * 5 + 3, none⟩ (.int .i64 ((K : Int) + 1 + 1 + 1))).setCell ⟨g, I * 5 + 4, none⟩ (.int .i64 ((K : Int) + 1 + 1 + 1 + 1))) g (n * 5) _ := Own.set (Hs3) (i := I * 5 + 4) (by omega) (.int .i64 ((K : Int) + 1 + 1 + 1 + 1))
      have Hg4 : w.grownBy (((w2.setCell ⟨g, I * 5 + 2, none⟩ (.string T2)).setCell ⟨g, I * 5 + 3, none⟩ (.int .i64 ((K : Int) + 1 + 1 + 1))).setCell ⟨g, I * 5 + 4, none⟩ (.int .i64 ((K : Int) + 1 + 1 + 1 + 1))) (some g) := setGrown (Hg3)
      have HHo2 : Hid _ := Ho2
      have HHq2 : Hid _ := Hq2
      clear Ho2 Hq2
      have HOz : Hid (Own (((w2.setCell ⟨g, I * 5 + 2, none⟩ (.string T2)).setCell ⟨g, I * 5 + 3, none⟩ (.int .i64 ((K : Int) + 1 + 1 + 1))).setCell ⟨g, I * 5 + 4, none⟩ (.int .i64 ((K : Int) + 1 + 1 + 1 + 1))) g (n * 5) (fun j => if j < (I + 1) * 5 then mkN k0 j else F j)) := Own.congr Hs4 (fun j _ => mkN_fun (by rw [HGE.out]) ((HE.out.1).trans (by first | rfl | (congr 2))) (HE.out.2.1) (HE.out.2.2.1) ((HE.out.2.2.2.1).trans (by first | rfl | (congr 2))) ((HE.out.2.2.2.2).trans (by first | rfl | (congr 2))))
      have HGz : Hid (w.grownBy (((w2.setCell ⟨g, I * 5 + 2, none⟩ (.string T2)).setCell ⟨g, I * 5 + 3, none⟩ (.int .i64 ((K : Int) + 1 + 1 + 1))).setCell ⟨g, I * 5 + 4, none⟩ (.int .i64 ((K : Int) + 1 + 1 + 1 + 1))) (some g)) := Hg4
      clear Hs2 Hg2 Hs3 Hg3 Hs4 Hg4 HE HGE
      go_wp2_with fail
      go_roundw
      case rel => exact ⟨I + 1, K + 5, by go_num, by go_num, by omega, by have := HK.out; omega, HOz, HGz⟩
      case measure => simp [intOf]; omega
    · have p0 : decide (I < n) = false := by simpa using hin
      have p1 : decide ((I : Int) < (n : Int)) = false := by simpa using hin
      obtain rfl : I = n := by omega
      go_wp2_with fail
      go_ret
      exact ⟨ret_int (by omega), Or.inr ⟨g, rfl, HOr.out.congr (fun j hj => by rw [if_pos hj])⟩, HG.out⟩
set_option maxRecDepth 100000 in
set_option maxHeartbeats 8000000 in
theorem held_nodes (a : Option Addr) (n cap : Nat) (hn : n ≤ 1048576) (k0 : Nat) (hk1 : 1 ≤ k0) (hk2 : k0 ≤ 549755813888) (w : World) (h : OwnR w a n 5 (mkN k0)) :
    Calls Try.prog 18 #[.slice a n cap, .int .i64 (k0 : Int)] w fun e w' => e = .returned (.int .i64 ((k0 + n * 5 : Nat) : Int)) ∧ Below w.heap.size w w' := by
  rcases h with h0 | ⟨g, rfl, hO⟩
  · subst h0
    go_enter Try.func18, Try.ntmps18
    go_wp2_with fail
    refine wp_loop_rounds 1 ?_
    rw [rounds_succ]
    go_wp2
    go_ret
    exact ⟨ret_int (by omega), Below.refl _ _⟩
  have HO : Hid (Own w g (n * 5) (mkN k0)) := hO
  clear hO
  go_enter Try.func18, Try.ntmps18
  go_wp2_with fail
  go_loopw [1, 5] (fun x i wr => ∃ I K : Nat, x = .int .i64 (K : Int) ∧ i = .int .i64 (I : Int) ∧ I ≤ n ∧ K = k0 + I * 5 ∧ Hid (Below w.heap.size w wr)) (fun _ i _ => n - (intOf i).toNat)
  case atStart => exact ⟨0, k0, rfl, rfl, by omega, by omega, Below.refl _ _⟩
  case round =>
    obtain ⟨I, K, rfl, rfl, hI, hK, HB⟩ := hrel
    by_cases hin : I < n
    · have p0 : decide (I < n) = true := by simpa using hin
      have p1 : decide ((I : Int) < (n : Int)) = true := by simpa using hin
      have HE : Hid (mkN k0 (I * 5) = .int .i64 ((K : Nat) : Int) ∧ mkN k0 (I * 5 + 1) = .string (mtx (K + 1)) ∧ mkN k0 (I * 5 + 2) = .string (mtx (K + 2)) ∧ mkN k0 (I * 5 + 3) = .int .i64 ((K + 3 : Nat) : Int) ∧ mkN k0 (I * 5 + 4) = .int .i64 ((K + 4 : Nat) : Int)) := by rw [hK]; exact mkN_at k0 I
      have hKb : K ≤ 1099511627000 := by omega
      have hK1 : 1 ≤ K := by omega
      have HK : Hid (K = k0 + I * 5) := hK
      clear hK
      obtain ⟨T1, hT1⟩ : ∃ t, t = mtx (K + 1) := ⟨_, rfl⟩
      obtain ⟨T2, hT2⟩ : ∃ t, t = mtx (K + 2) := ⟨_, rfl⟩
      have M1 := fun z hz W => mark_text' z (K + 1) hz (by omega) (by omega) W
      have M2 := fun z hz W => mark_text' z (K + 2) hz (by omega) (by omega) W
      rw [← hT1, ← hT2] at HE
      rw [← hT1] at M1
      rw [← hT2] at M2
      clear hT1 hT2
      have M1 : Hid (∀ z, z = ((K + 1 : Nat) : Int) → ∀ W, Calls Try.prog 37 #[.int .i64 z] W fun e w' => e = .returned (.string T1) ∧ Below W.heap.size W w') := M1
      have M2 : Hid (∀ z, z = ((K + 2 : Nat) : Int) → ∀ W, Calls Try.prog 37 #[.int .i64 z] W fun e w' => e = .returned (.string T2) ∧ Below W.heap.size W w') := M2
      have hxx : ∀ x : List UInt8, (x == x) = true := fun x => by simp
      have hx4 : ∀ x : Int, (x != x) = false := fun x => by simp
      have hgw : g < w.heap.size := HO.out.1
      have hO := HO.out.below HB.out
      have b0 : wr.cell? ⟨g, I * 5, none⟩ = some (.int .i64 ((K : Int))) := (hO.2.1 _ (by omega)).trans (by rw [HE.out.1])
      have b1 : wr.cell? ⟨g, I * 5 + 1, none⟩ = some (.string T1) := (hO.2.1 _ (by omega)).trans (by rw [HE.out.2.1])
      have b2 : wr.cell? ⟨g, I * 5 + 2, none⟩ = some (.string T2) := (hO.2.1 _ (by omega)).trans (by rw [HE.out.2.2.1])
      have b3 : wr.cell? ⟨g, I * 5 + 3, none⟩ = some (.int .i64 ((K : Int) + 1 + 1 + 1)) := (hO.2.1 _ (by omega)).trans (by rw [HE.out.2.2.2.1]; congr 2)
      have b4 : wr.cell? ⟨g, I * 5 + 4, none⟩ = some (.int .i64 ((K : Int) + 1 + 1 + 1 + 1)) := (hO.2.1 _ (by omega)).trans (by rw [HE.out.2.2.2.2]; congr 2)
      have hgr : g < wr.heap.size := hO.1
      clear hO
      go_upto_region 7 with fail
      go_region_held3 (fun W => W.cell? ⟨g, I * 5 + 1, none⟩ = some (.string T1)) (go_keep) (first | (go_at_call 37; refine (M1.out _ (by omega) _).mono ?_; rintro e v1 ⟨rfl, hb⟩; have e0 : v1.cell? ⟨g, I * 5 + 1, none⟩ = some (.string T1) := (hb.cell (p := ⟨g, I * 5 + 1, none⟩) hgr).trans b1))
      have HB1 : Hid (Below w.heap.size w v1) := HB.out.drew.trans (hb.mono HB.out.size)
      have b2 := (hb.cell (p := ⟨g, I * 5 + 2, none⟩) hgr).trans b2
      have b3 := (hb.cell (p := ⟨g, I * 5 + 3, none⟩) hgr).trans b3
      have b4 := (hb.cell (p := ⟨g, I * 5 + 4, none⟩) hgr).trans b4
      have hgr : g < v1.heap.size := Nat.lt_of_lt_of_le hgr hb.size
      clear hb e0
      go_upto_region 10 with fail
      go_region_held3 (fun W => W.cell? ⟨g, I * 5 + 2, none⟩ = some (.string T2)) (go_keep) (first | (go_at_call 37; refine (M2.out _ (by omega) _).mono ?_; rintro e v2 ⟨rfl, hb⟩; have e0 : v2.cell? ⟨g, I * 5 + 2, none⟩ = some (.string T2) := (hb.cell (p := ⟨g, I * 5 + 2, none⟩) hgr).trans b2))
      have HB2 : Hid (Below w.heap.size w v2) := HB1.out.drew.trans (hb.mono HB1.out.size)
      have b3 := (hb.cell (p := ⟨g, I * 5 + 3, none⟩) hgr).trans b3
      have b4 := (hb.cell (p := ⟨g, I * 5 + 4, none⟩) hgr).trans b4
      have hgr : g < v2.heap.size := Nat.lt_of_lt_of_le hgr hb.size
      clear hb e0
      go_wp2_with fail
      go_roundw
      case rel => exact ⟨I + 1, K + 5, by go_num, by go_num, by omega, by have := HK.out; omega, HB2⟩
      case measure => simp [intOf]; omega
    · have p0 : decide (I < n) = false := by simpa using hin
      have p1 : decide ((I : Int) < (n : Int)) = false := by simpa using hin
      obtain rfl : I = n := by omega
      go_wp2_with fail
      go_ret
      exact ⟨ret_int (by omega), HB.out⟩
/-- What marked params' cells read. -/
def mkP (k0 : Nat) (j : Nat) : Value := if j % 4 = 0 then .string (mtx (k0 + j)) else if j % 4 = 1 then .int .i64 ((k0 + j : Nat) : Int) else if j % 4 = 2 then .int .i64 ((k0 + j : Nat) : Int) else .int .i64 ((k0 + j : Nat) : Int)
theorem mkP_at (k0 i : Nat) : mkP k0 (i * 4) = .string (mtx (k0 + i * 4)) ∧ mkP k0 (i * 4 + 1) = .int .i64 ((k0 + i * 4 + 1 : Nat) : Int) ∧ mkP k0 (i * 4 + 2) = .int .i64 ((k0 + i * 4 + 2 : Nat) : Int) ∧ mkP k0 (i * 4 + 3) = .int .i64 ((k0 + i * 4 + 3 : Nat) : Int) := by
  refine ⟨?_, ?_, ?_, ?_⟩
  · rw [mkP, if_pos (by omega)]
  · rw [mkP, if_neg (by omega), if_pos (by omega)]; rfl
  · rw [mkP, if_neg (by omega), if_neg (by omega), if_pos (by omega)]; rfl
  · rw [mkP, if_neg (by omega), if_neg (by omega), if_neg (by omega)]; rfl
theorem mkP_fun {F G G0 : Nat → Value} {I : Nat} (h0 : G0 = fun j => if j < I * 4 then G j else F j) {v0 v1 v2 v3 : Value} (e0 : G (I * 4) = v0) (e1 : G (I * 4 + 1) = v1) (e2 : G (I * 4 + 2) = v2) (e3 : G (I * 4 + 3) = v3) {j : Nat} :
    (if j = I * 4 + 3 then v3 else if j = I * 4 + 2 then v2 else if j = I * 4 + 1 then v1 else if j = I * 4 then v0 else G0 j) = if j < (I + 1) * 4 then G j else F j := by
  rw [h0]
  by_cases c3 : j = I * 4 + 3
  · rw [if_pos c3, if_pos (by omega), c3, e3]
  rw [if_neg c3]
  by_cases c2 : j = I * 4 + 2
  · rw [if_pos c2, if_pos (by omega), c2, e2]
  rw [if_neg c2]
  by_cases c1 : j = I * 4 + 1
  · rw [if_pos c1, if_pos (by omega), c1, e1]
  rw [if_neg c1]
  by_cases c0 : j = I * 4
  · rw [if_pos c0, if_pos (by omega), c0, e0]
  rw [if_neg c0]
  show (if j < I * 4 then G j else F j) = _
  by_cases c : j < I * 4
  · rw [if_pos c, if_pos (by omega)]
  · rw [if_neg c, if_neg (by omega)]
set_option maxRecDepth 100000 in
set_option maxHeartbeats 8000000 in
theorem mark_params (a : Option Addr) (n cap : Nat) (F : Nat → Value) (hn : n ≤ 1048576) (k0 : Nat) (hk1 : 1 ≤ k0) (hk2 : k0 ≤ 549755813888) (w : World) (h : OwnR w a n 4 F) :
    Calls Try.prog 36 #[.slice a n cap, .int .i64 (k0 : Int)] w fun e w' => e = .returned (.int .i64 ((k0 + n * 4 : Nat) : Int)) ∧ OwnR w' a n 4 (mkP k0) ∧ w.grownBy w' (a.map Addr.block) := by
  rcases h with h0 | ⟨g, rfl, hO⟩
  · subst h0
    go_enter Try.func36, Try.ntmps36
    go_wp2_with fail
    refine wp_loop_rounds 1 ?_
    rw [rounds_succ]
    go_wp2
    go_ret
    exact ⟨ret_int (by omega), Or.inl rfl, World.grownBy.refl _ _⟩
  have HO : Hid (Own w g (n * 4) F) := hO
  clear hO
  go_enter Try.func36, Try.ntmps36
  go_wp2_with fail
  go_loopw [1, 5] (fun x i wr => ∃ I K : Nat, x = .int .i64 (K : Int) ∧ i = .int .i64 (I : Int) ∧ I ≤ n ∧ K = k0 + I * 4 ∧ Hid (Own wr g (n * 4) (fun j => if j < I * 4 then mkP k0 j else F j)) ∧ Hid (w.grownBy wr (some g))) (fun _ i _ => n - (intOf i).toNat)
  case atStart => exact ⟨0, k0, rfl, rfl, by omega, by omega, HO.out.congr (fun j _ => by rw [if_neg (by omega)]), World.grownBy.refl _ _⟩
  case round =>
    obtain ⟨I, K, rfl, rfl, hI, hK, HOr, HG⟩ := hrel
    by_cases hin : I < n
    · have p0 : decide (I < n) = true := by simpa using hin
      have p1 : decide ((I : Int) < (n : Int)) = true := by simpa using hin
      have HE : Hid (mkP k0 (I * 4) = .string (mtx (K)) ∧ mkP k0 (I * 4 + 1) = .int .i64 ((K + 1 : Nat) : Int) ∧ mkP k0 (I * 4 + 2) = .int .i64 ((K + 2 : Nat) : Int) ∧ mkP k0 (I * 4 + 3) = .int .i64 ((K + 3 : Nat) : Int)) := by rw [hK]; exact mkP_at k0 I
      have hKb : K ≤ 1099511627000 := by omega
      have hK1 : 1 ≤ K := by omega
      have HK : Hid (K = k0 + I * 4) := hK
      clear hK
      obtain ⟨G0, hG0⟩ : ∃ G, G = (fun j => if j < I * 4 then mkP k0 j else F j) := ⟨_, rfl⟩
      have HGE : Hid (G0 = (fun j => if j < I * 4 then mkP k0 j else F j)) := hG0
      rw [← hG0] at HOr
      clear hG0
      obtain ⟨T0, hT0⟩ : ∃ t, t = mtx (K) := ⟨_, rfl⟩
      have M0 := fun z hz W => mark_text' z (K) hz (by omega) (by omega) W
      rw [← hT0] at HE
      rw [← hT0] at M0
      clear hT0
      have M0 : Hid (∀ z, z = ((K : Nat) : Int) → ∀ W, Calls Try.prog 37 #[.int .i64 z] W fun e w' => e = .returned (.string T0) ∧ Below W.heap.size W w') := M0
      go_wp2_with fail
      refine (M0.out _ (by omega) _).mono ?_
      rintro e w0 ⟨rfl, hb0⟩
      have Ho0 := Own.below (HOr.out) hb0
      have Hq0 := below_grown (HG.out) hb0
      clear hb0
      obtain ⟨y0, hc0⟩ : ∃ y, w0.cell? ⟨g, I * 4, none⟩ = some y := ⟨_, (Ho0).2.1 (I * 4) (by omega)⟩
      have hf0 := (Ho0).2.2 (I * 4)
      obtain ⟨y1, hc1⟩ : ∃ y, w0.cell? ⟨g, I * 4 + 1, none⟩ = some y := ⟨_, (Ho0).2.1 (I * 4 + 1) (by omega)⟩
      have hf1 := (Ho0).2.2 (I * 4 + 1)
      obtain ⟨y2, hc2⟩ : ∃ y, w0.cell? ⟨g, I * 4 + 2, none⟩ = some y := ⟨_, (Ho0).2.1 (I * 4 + 2) (by omega)⟩
      have hf2 := (Ho0).2.2 (I * 4 + 2)
      obtain ⟨y3, hc3⟩ : ∃ y, w0.cell? ⟨g, I * 4 + 3, none⟩ = some y := ⟨_, (Ho0).2.1 (I * 4 + 3) (by omega)⟩
      have hf3 := (Ho0).2.2 (I * 4 + 3)
      have Hs0 : Own (w0.setCell ⟨g, I * 4, none⟩ (.string T0)) g (n * 4) _ := Own.set (Ho0) (i := I * 4) (by omega) (.string T0)
      have Hg0 : w.grownBy (w0.setCell ⟨g, I * 4, none⟩ (.string T0)) (some g) := setGrown (Hq0)
      have Hs1 : Own ((w0.setCell ⟨g, I * 4, none⟩ (.string T0)).setCell ⟨g, I * 4 + 1, none⟩ (.int .i64 ((K : Int) + 1))) g (n * 4) _ := Own.set (Hs0) (i := I * 4 + 1) (by omega) (.int .i64 ((K : Int) + 1))
      have Hg1 : w.grownBy ((w0.setCell ⟨g, I * 4, none⟩ (.string T0)).setCell ⟨g, I * 4 + 1, none⟩ (.int .i64 ((K : Int) + 1))) (some g) := setGrown (Hg0)
      have Hs2 : Own (((w0.setCell ⟨g, I * 4, none⟩ (.string T0)).setCell ⟨g, I * 4 + 1, none⟩ (.int .i64 ((K : Int) + 1))).setCell ⟨g, I * 4 + 2, none⟩ (.int .i64 ((K : Int) + 1 + 1))) g (n * 4) _ := Own.set (Hs1) (i := I * 4 + 2) (by omega) (.int .i64 ((K : Int) + 1 + 1))
      have Hg2 : w.grownBy (((w0.setCell ⟨g, I * 4, none⟩ (.string T0)).setCell ⟨g, I * 4 + 1, none⟩ (.int .i64 ((K : Int) + 1))).setCell ⟨g, I * 4 + 2, none⟩ (.int .i64 ((K : Int) + 1 + 1))) (some g) := setGrown (Hg1)
      have Hs3 : Own ((((w0.setCell ⟨g, I * 4, none⟩ (.string T0)).setCell ⟨g, I * 4 + 1, none⟩ (.int .i64 ((K : Int) + 1))).setCell ⟨g, I * 4 + 2, none⟩ (.int .i64 ((K : Int) + 1 + 1))).setCell ⟨g, I * 4 + 3, none⟩ (.int .i64 ((K : Int) + 1 + 1 + 1))) g (n * 4) _ := Own.set (Hs2) (i := I * 4 + 3) (by omega) (.int .i64 ((K : Int) + 1 + 1 + 1))
      have Hg3 : w.grownBy ((((w0.setCell ⟨g, I * 4, none⟩ (.string T0)).setCell ⟨g, I * 4 + 1, none⟩ (.int .i64 ((K : Int) + 1))).setCell ⟨g, I * 4 + 2, none⟩ (.int .i64 ((K : Int) + 1 + 1))).setCell ⟨g, I * 4 + 3, none⟩ (.int .i64 ((K : Int) + 1 + 1 + 1))) (some g) := setGrown (Hg2)
      have HHo0 : Hid _ := Ho0
      have HHq0 : Hid _ := Hq0
      clear Ho0 Hq0
      have HOz : Hid (Own ((((w0.setCell ⟨g, I * 4, none⟩ (.string T0)).setCell ⟨g, I * 4 + 1, none⟩ (.int .i64 ((K : Int) + 1))).setCell ⟨g, I * 4 + 2, none⟩ (.int .i64 ((K : Int) + 1 + 1))).setCell ⟨g, I * 4 + 3, none⟩ (.int .i64 ((K : Int) + 1 + 1 + 1))) g (n * 4) (fun j => if j < (I + 1) * 4 then mkP k0 j else F j)) := Own.congr Hs3 (fun j _ => mkP_fun (by rw [HGE.out]) (HE.out.1) ((HE.out.2.1).trans (by first | rfl | (congr 2))) ((HE.out.2.2.1).trans (by first | rfl | (congr 2))) ((HE.out.2.2.2).trans (by first | rfl | (congr 2))))
      have HGz : Hid (w.grownBy ((((w0.setCell ⟨g, I * 4, none⟩ (.string T0)).setCell ⟨g, I * 4 + 1, none⟩ (.int .i64 ((K : Int) + 1))).setCell ⟨g, I * 4 + 2, none⟩ (.int .i64 ((K : Int) + 1 + 1))).setCell ⟨g, I * 4 + 3, none⟩ (.int .i64 ((K : Int) + 1 + 1 + 1))) (some g)) := Hg3
      clear Hs0 Hg0 Hs1 Hg1 Hs2 Hg2 Hs3 Hg3 HE HGE
      go_wp2_with fail
      go_roundw
      case rel => exact ⟨I + 1, K + 4, by go_num, by go_num, by omega, by have := HK.out; omega, HOz, HGz⟩
      case measure => simp [intOf]; omega
    · have p0 : decide (I < n) = false := by simpa using hin
      have p1 : decide ((I : Int) < (n : Int)) = false := by simpa using hin
      obtain rfl : I = n := by omega
      go_wp2_with fail
      go_ret
      exact ⟨ret_int (by omega), Or.inr ⟨g, rfl, HOr.out.congr (fun j hj => by rw [if_pos hj])⟩, HG.out⟩
theorem OwnR.nodes {w : World} {a : Option Addr} {n : Nat} {L : Nat → Nd} (h : OwnR w a n 5 (nodeF L)) : NodesAt w a n L := by
  rcases h with h | ⟨g, rfl, hO⟩
  · exact Or.inl h
  · exact hO.nodes
theorem OwnR.params {w : World} {a : Option Addr} {n : Nat} {L : Nat → Pm} (h : OwnR w a n 4 (paramF L)) : ParamsAt w a n L := by
  rcases h with h | ⟨g, rfl, hO⟩
  · exact Or.inl h
  · exact hO.params
end Go.Proofs.Ythfjekpmaafhaaa
