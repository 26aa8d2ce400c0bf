/- Legs marked and looked at again: what the laws' helpers do. -/
import Derived.Test.YthjanamnkhggfaaLegs2
namespace Go.Proofs.Ythjanamnkhggfaa
open Go.RowKit


theorem LegsAt.grown {w w' : World} {a : Option Addr} {n q : Nat} {L : Nat → Lg} (h : LegsAt w a n L) (hg : w.grownBy w' (some q)) (hne : ∀ g o, a = some ⟨g, o, none⟩ → g ≠ q) : LegsAt w' a n L := by
  rcases h with h | ⟨g, o, rfl, hl, hc⟩
  · exact Or.inl h
  · have hb := hg.block g hl (by simpa using hne g o rfl)
    refine Or.inr ⟨g, o, rfl, Nat.lt_of_lt_of_le hl hg.size, fun i hi => ?_⟩
    obtain ⟨c0, c1, c2, c3, c4⟩ := hc i hi
    exact ⟨(World.cell?_of_block (a := ⟨g, _, none⟩) hb).trans c0, (World.cell?_of_block (a := ⟨g, _, none⟩) hb).trans c1, (World.cell?_of_block (a := ⟨g, _, none⟩) hb).trans c2, (World.cell?_of_block (a := ⟨g, _, none⟩) hb).trans c3, (World.cell?_of_block (a := ⟨g, _, none⟩) hb).trans c4⟩
/-- What marked legs' cells read. -/
def mkL (k0 : Nat) (j : Nat) : Value := if j % 5 = 4 then .int .i64 ((k0 + j : Nat) : Int) else .string (mtx (k0 + j))
theorem mkL_at (k0 i : Nat) : mkL k0 (i * 5) = .string (mtx (k0 + i * 5)) ∧ mkL k0 (i * 5 + 1) = .string (mtx (k0 + i * 5 + 1)) ∧ mkL k0 (i * 5 + 2) = .string (mtx (k0 + i * 5 + 2)) ∧ mkL k0 (i * 5 + 3) = .string (mtx (k0 + i * 5 + 3)) ∧ mkL k0 (i * 5 + 4) = .int .i64 ((k0 + i * 5 + 4 : Nat) : Int) := by
  refine ⟨?_, ?_, ?_, ?_, ?_⟩
  · rw [mkL, if_neg (by omega)]
  · rw [mkL, if_neg (by omega)]; rfl
  · rw [mkL, if_neg (by omega)]; rfl
  · rw [mkL, if_neg (by omega)]; rfl
  · rw [mkL, if_pos (by omega)]; rfl
theorem five_fun {F G G0 : Nat → Value} {I : Nat} (h0 : G0 = fun j => if j < I * 5 then G j else F j) {v0 v1 v2 v3 v4 : Value} (e0 : G (I * 5) = v0) (e1 : G (I * 5 + 1) = v1) (e2 : G (I * 5 + 2) = v2) (e3 : G (I * 5 + 3) = v3) (e4 : G (I * 5 + 4) = v4) {j : Nat} :
    (if j = I * 5 + 4 then v4 else if j = I * 5 + 3 then v3 else if j = I * 5 + 2 then v2 else if j = I * 5 + 1 then v1 else if j = I * 5 then v0 else G0 j) = if j < (I + 1) * 5 then G j else F j := by
  rw [h0]
  by_cases c4 : j = I * 5 + 4
  · rw [if_pos c4, if_pos (by omega), c4, e4]
  rw [if_neg c4]
  by_cases c3 : j = I * 5 + 3
  · rw [if_pos c3, if_pos (by omega), c3, e3]
  rw [if_neg c3]
  by_cases c2 : j = I * 5 + 2
  · rw [if_pos c2, if_pos (by omega), c2, e2]
  rw [if_neg c2]
  by_cases c1 : j = I * 5 + 1
  · rw [if_pos c1, if_pos (by omega), c1, e1]
  rw [if_neg c1]
  by_cases c0 : j = I * 5
  · rw [if_pos c0, if_pos (by omega), c0, e0]
  rw [if_neg c0]
  show (if j < I * 5 then G j else F j) = _
  by_cases c : j < I * 5
  · rw [if_pos c, if_pos (by omega)]
  · rw [if_neg c, if_neg (by omega)]
set_option maxRecDepth 100000 in
set_option maxHeartbeats 4000000 in
theorem mark_legs (a : Option Addr) (n cap : Nat) (F : Nat → Value) (hn : n ≤ 1048576) (k0 : Nat) (hk1 : 1 ≤ k0) (hk2 : k0 ≤ 549755813888) (w : World) (h : OwnR w a n 5 F) :
    Calls Try.prog 18 #[.slice a n cap, .int .i64 (k0 : Int)] w fun e w' => e = .returned (.int .i64 ((k0 + n * 5 : Nat) : Int)) ∧ OwnR w' a n 5 (mkL k0) ∧ w.grownBy w' (a.map Addr.block) := by
  rcases h with h0 | ⟨g, rfl, hO⟩
  · subst h0
    go_enter Try.func18, Try.ntmps18
    go_wp2_with fail
    refine wp_loop_rounds 1 ?_
    rw [rounds_succ]
    go_wp2
    go_ret
    exact ⟨ret_int (by omega), Or.inl rfl, World.grownBy.refl _ _⟩
  have HO : Hid (Own w g (n * 5) F) := hO
  clear hO
  go_enter Try.func18, Try.ntmps18
  go_wp2_with fail
  go_loopw [1, 5] (fun x i wr => ∃ I K : Nat, x = .int .i64 (K : Int) ∧ i = .int .i64 (I : Int) ∧ I ≤ n ∧ K = k0 + I * 5 ∧ Hid (Own wr g (n * 5) (fun j => if j < I * 5 then mkL k0 j else F j)) ∧ Hid (w.grownBy wr (some g))) (fun _ i _ => n - (intOf i).toNat)
  case atStart => exact ⟨0, k0, rfl, rfl, by omega, by omega, HO.out.congr (fun j _ => by rw [if_neg (by omega)]), World.grownBy.refl _ _⟩
  case round =>
    obtain ⟨I, K, rfl, rfl, hI, hK, HOr, HG⟩ := hrel
    by_cases hin : I < n
    · have p0 : decide (I < n) = true := by simpa using hin
      have p1 : decide ((I : Int) < (n : Int)) = true := by simpa using hin
      have HE : Hid (mkL k0 (I * 5) = .string (mtx K) ∧ mkL k0 (I * 5 + 1) = .string (mtx (K + 1)) ∧ mkL k0 (I * 5 + 2) = .string (mtx (K + 2)) ∧ mkL k0 (I * 5 + 3) = .string (mtx (K + 3)) ∧ mkL k0 (I * 5 + 4) = .int .i64 ((K + 4 : Nat) : Int)) := by rw [hK]; exact mkL_at k0 I
      have hKb : K ≤ 1099511627000 := by omega
      have hK1 : 1 ≤ K := by omega
      have HK : Hid (K = k0 + I * 5) := hK
      clear hK
      obtain ⟨G0, hG0⟩ : ∃ G, G = (fun j => if j < I * 5 then mkL k0 j else F j) := ⟨_, rfl⟩
      have HGE : Hid (G0 = (fun j => if j < I * 5 then mkL k0 j else F j)) := hG0
      rw [← hG0] at HOr
      clear hG0
      obtain ⟨T0, hT0⟩ : ∃ t, t = mtx K := ⟨_, rfl⟩
      obtain ⟨T1, hT1⟩ : ∃ t, t = mtx (K + 1) := ⟨_, rfl⟩
      obtain ⟨T2, hT2⟩ : ∃ t, t = mtx (K + 2) := ⟨_, rfl⟩
      obtain ⟨T3, hT3⟩ : ∃ t, t = mtx (K + 3) := ⟨_, rfl⟩
      have M0 := fun z hz W => mark_text' z K hz (by omega) (by omega) W
      have M1 := fun z hz W => mark_text' z (K + 1) hz (by omega) (by omega) W
      have M2 := fun z hz W => mark_text' z (K + 2) hz (by omega) (by omega) W
      have M3 := fun z hz W => mark_text' z (K + 3) hz (by omega) (by omega) W
      rw [← hT0, ← hT1, ← hT2, ← hT3] at HE
      rw [← hT0] at M0
      rw [← hT1] at M1
      rw [← hT2] at M2
      rw [← hT3] at M3
      clear hT0 hT1 hT2 hT3
      have M0 : Hid (∀ z, z = ((K : Nat) : Int) → ∀ W, Calls Try.prog 36 #[.int .i64 z] W fun e w' => e = .returned (.string T0) ∧ Below W.heap.size W w') := M0
      have M1 : Hid (∀ z, z = ((K + 1 : Nat) : Int) → ∀ W, Calls Try.prog 36 #[.int .i64 z] W fun e w' => e = .returned (.string T1) ∧ Below W.heap.size W w') := M1
      have M2 : Hid (∀ z, z = ((K + 2 : Nat) : Int) → ∀ W, Calls Try.prog 36 #[.int .i64 z] W fun e w' => e = .returned (.string T2) ∧ Below W.heap.size W w') := M2
      have M3 : Hid (∀ z, z = ((K + 3 : Nat) : Int) → ∀ W, Calls Try.prog 36 #[.int .i64 z] W fun e w' => e = .returned (.string T3) ∧ Below W.heap.size W w') := M3
      go_wp2_with fail
      refine (M0.out _ (by omega) _).mono ?_
      rintro e w1 ⟨rfl, hb⟩
      have HO0 := HOr.out.below hb
      obtain ⟨y0, hc0⟩ : ∃ y, w1.cell? ⟨g, I * 5, none⟩ = some y := ⟨_, HO0.2.1 (I * 5) (by omega)⟩
      have hf0 := HO0.2.2 (I * 5)
      have HO0 := HO0.set (i := I * 5) (by omega) (.string T0)
      have HO0 : Hid (Own (w1.setCell ⟨g, I * 5, none⟩ (.string T0)) g (n * 5) _) := HO0
      have HG0 : Hid (w.grownBy (w1.setCell ⟨g, I * 5, none⟩ (.string T0)) (some g)) := setGrown (below_grown HG.out hb)
      clear hb
      go_wp2_with fail
      refine (M1.out _ (by omega) _).mono ?_
      rintro e w2 ⟨rfl, hb⟩
      have HO1 := HO0.out.below hb
      obtain ⟨y1, hc1⟩ : ∃ y, w2.cell? ⟨g, I * 5 + 1, none⟩ = some y := ⟨_, HO1.2.1 (I * 5 + 1) (by omega)⟩
      have hf1 := HO1.2.2 (I * 5 + 1)
      have HO1 := HO1.set (i := I * 5 + 1) (by omega) (.string T1)
      have HO1 : Hid (Own (w2.setCell ⟨g, I * 5 + 1, none⟩ (.string T1)) g (n * 5) _) := HO1
      have HG1 : Hid (w.grownBy (w2.setCell ⟨g, I * 5 + 1, none⟩ (.string T1)) (some g)) := setGrown (below_grown HG0.out hb)
      clear hb
      go_wp2_with fail
      refine (M2.out _ (by omega) _).mono ?_
      rintro e w3 ⟨rfl, hb⟩
      have HO2 := HO1.out.below hb
      obtain ⟨y2, hc2⟩ : ∃ y, w3.cell? ⟨g, I * 5 + 2, none⟩ = some y := ⟨_, HO2.2.1 (I * 5 + 2) (by omega)⟩
      have hf2 := HO2.2.2 (I * 5 + 2)
      have HO2 := HO2.set (i := I * 5 + 2) (by omega) (.string T2)
      have HO2 : Hid (Own (w3.setCell ⟨g, I * 5 + 2, none⟩ (.string T2)) g (n * 5) _) := HO2
      have HG2 : Hid (w.grownBy (w3.setCell ⟨g, I * 5 + 2, none⟩ (.string T2)) (some g)) := setGrown (below_grown HG1.out hb)
      clear hb
      go_wp2_with fail
      refine (M3.out _ (by omega) _).mono ?_
      rintro e w4 ⟨rfl, hb⟩
      have HO3 := HO2.out.below hb
      obtain ⟨y3, hc3⟩ : ∃ y, w4.cell? ⟨g, I * 5 + 3, none⟩ = some y := ⟨_, HO3.2.1 (I * 5 + 3) (by omega)⟩
      have hf3 := HO3.2.2 (I * 5 + 3)
      have HO3 := HO3.set (i := I * 5 + 3) (by omega) (.string T3)
      have HO3 : Hid (Own (w4.setCell ⟨g, I * 5 + 3, none⟩ (.string T3)) g (n * 5) _) := HO3
      have HG3 : Hid (w.grownBy (w4.setCell ⟨g, I * 5 + 3, none⟩ (.string T3)) (some g)) := setGrown (below_grown HG2.out hb)
      clear hb
      obtain ⟨y4, hc4⟩ : ∃ y, (w4.setCell ⟨g, I * 5 + 3, none⟩ (.string T3)).cell? ⟨g, I * 5 + 4, none⟩ = some y := ⟨_, HO3.out.2.1 (I * 5 + 4) (by omega)⟩
      have hf4 := HO3.out.2.2 (I * 5 + 4)
      have HO4 := HO3.out.set (i := I * 5 + 4) (by omega) (.int .i64 ((K + 4 : Nat) : Int))
      have HG4 : Hid (w.grownBy ((w4.setCell ⟨g, I * 5 + 3, none⟩ (.string T3)).setCell ⟨g, I * 5 + 4, none⟩ (.int .i64 ((K + 4 : Nat) : Int))) (some g)) := setGrown HG3.out
      have HO5 : Hid (Own ((w4.setCell ⟨g, I * 5 + 3, none⟩ (.string T3)).setCell ⟨g, I * 5 + 4, none⟩ (.int .i64 ((K + 4 : Nat) : Int))) g (n * 5) (fun j => if j < (I + 1) * 5 then mkL k0 j else F j)) := HO4.congr (fun j _ => five_fun (by rw [HGE.out]) HE.out.1 HE.out.2.1 HE.out.2.2.1 HE.out.2.2.2.1 HE.out.2.2.2.2)
      have he4 : ((K + 4 : Nat) : Int) = (K : Int) + 1 + 1 + 1 + 1 := by omega
      rw [he4] at HG4 HO5
      clear HO4 HO0 HO1 HO2 HO3 HOr HG0 HG1 HG2 HG3 HG M0 M1 M2 M3 HE HGE he4
      simp [go_sem] at hc4
      go_wp2_with fail
      go_roundw
      case rel => exact ⟨I + 1, K + 5, by go_num, by go_num, by omega, by have := HK.out; omega, HO5, HG4⟩
      case measure => simp [intOf]; omega
    · have p0 : decide (I < n) = false := by simpa using hin
      have p1 : decide ((I : Int) < (n : Int)) = false := by simpa using hin
      obtain rfl : I = n := by omega
      go_wp2_with fail
      go_ret
      exact ⟨ret_int (by omega), Or.inr ⟨g, rfl, HOr.out.congr (fun j hj => by rw [if_pos hj])⟩, HG.out⟩
set_option maxRecDepth 100000 in
set_option maxHeartbeats 4000000 in
theorem held_legs (a : Option Addr) (n cap : Nat) (hn : n ≤ 1048576) (k0 : Nat) (hk1 : 1 ≤ k0) (hk2 : k0 ≤ 549755813888) (w : World) (h : OwnR w a n 5 (mkL k0)) :
    Calls Try.prog 19 #[.slice a n cap, .int .i64 (k0 : Int)] w fun e w' => e = .returned (.int .i64 ((k0 + n * 5 : Nat) : Int)) ∧ Below w.heap.size w w' := by
  rcases h with h0 | ⟨g, rfl, hO⟩
  · subst h0
    go_enter Try.func19, Try.ntmps19
    go_wp2_with fail
    refine wp_loop_rounds 1 ?_
    rw [rounds_succ]
    go_wp2
    go_ret
    exact ⟨ret_int (by omega), Below.refl _ _⟩
  have HO : Hid (Own w g (n * 5) (mkL k0)) := hO
  clear hO
  go_enter Try.func19, Try.ntmps19
  go_wp2_with fail
  go_loopw [1, 5] (fun x i wr => ∃ I K : Nat, x = .int .i64 (K : Int) ∧ i = .int .i64 (I : Int) ∧ I ≤ n ∧ K = k0 + I * 5 ∧ Hid (Below w.heap.size w wr)) (fun _ i _ => n - (intOf i).toNat)
  case atStart => exact ⟨0, k0, rfl, rfl, by omega, by omega, Below.refl _ _⟩
  case round =>
    obtain ⟨I, K, rfl, rfl, hI, hK, HB⟩ := hrel
    by_cases hin : I < n
    · have p0 : decide (I < n) = true := by simpa using hin
      have p1 : decide ((I : Int) < (n : Int)) = true := by simpa using hin
      have HE : Hid (mkL k0 (I * 5) = .string (mtx K) ∧ mkL k0 (I * 5 + 1) = .string (mtx (K + 1)) ∧ mkL k0 (I * 5 + 2) = .string (mtx (K + 2)) ∧ mkL k0 (I * 5 + 3) = .string (mtx (K + 3)) ∧ mkL k0 (I * 5 + 4) = .int .i64 ((K + 4 : Nat) : Int)) := by rw [hK]; exact mkL_at k0 I
      have hKb : K ≤ 1099511627000 := by omega
      have hK1 : 1 ≤ K := by omega
      have HK : Hid (K = k0 + I * 5) := hK
      clear hK
      obtain ⟨T0, hT0⟩ : ∃ t, t = mtx K := ⟨_, rfl⟩
      obtain ⟨T1, hT1⟩ : ∃ t, t = mtx (K + 1) := ⟨_, rfl⟩
      obtain ⟨T2, hT2⟩ : ∃ t, t = mtx (K + 2) := ⟨_, rfl⟩
      obtain ⟨T3, hT3⟩ : ∃ t, t = mtx (K + 3) := ⟨_, rfl⟩
      have M0 := fun z hz W => mark_text' z K hz (by omega) (by omega) W
      have M1 := fun z hz W => mark_text' z (K + 1) hz (by omega) (by omega) W
      have M2 := fun z hz W => mark_text' z (K + 2) hz (by omega) (by omega) W
      have M3 := fun z hz W => mark_text' z (K + 3) hz (by omega) (by omega) W
      rw [← hT0, ← hT1, ← hT2, ← hT3] at HE
      rw [← hT0] at M0
      rw [← hT1] at M1
      rw [← hT2] at M2
      rw [← hT3] at M3
      clear hT0 hT1 hT2 hT3
      have M0 : Hid (∀ z, z = ((K : Nat) : Int) → ∀ W, Calls Try.prog 36 #[.int .i64 z] W fun e w' => e = .returned (.string T0) ∧ Below W.heap.size W w') := M0
      have M1 : Hid (∀ z, z = ((K + 1 : Nat) : Int) → ∀ W, Calls Try.prog 36 #[.int .i64 z] W fun e w' => e = .returned (.string T1) ∧ Below W.heap.size W w') := M1
      have M2 : Hid (∀ z, z = ((K + 2 : Nat) : Int) → ∀ W, Calls Try.prog 36 #[.int .i64 z] W fun e w' => e = .returned (.string T2) ∧ Below W.heap.size W w') := M2
      have M3 : Hid (∀ z, z = ((K + 3 : Nat) : Int) → ∀ W, Calls Try.prog 36 #[.int .i64 z] W fun e w' => e = .returned (.string T3) ∧ Below W.heap.size W w') := M3
      have hxx : ∀ x : List UInt8, (x == x) = true := fun x => by simp
      have hgw : g < w.heap.size := HO.out.1
      have hO := HO.out.below HB.out
      have b0 : wr.cell? ⟨g, I * 5, none⟩ = some (.string T0) := (hO.2.1 _ (by omega)).trans (by rw [HE.out.1])
      have b1 : wr.cell? ⟨g, I * 5 + 1, none⟩ = some (.string T1) := (hO.2.1 _ (by omega)).trans (by rw [HE.out.2.1])
      have b2 : wr.cell? ⟨g, I * 5 + 2, none⟩ = some (.string T2) := (hO.2.1 _ (by omega)).trans (by rw [HE.out.2.2.1])
      have b3 : wr.cell? ⟨g, I * 5 + 3, none⟩ = some (.string T3) := (hO.2.1 _ (by omega)).trans (by rw [HE.out.2.2.2.1])
      have b4 : wr.cell? ⟨g, I * 5 + 4, none⟩ = some (.int .i64 ((K : Int) + 1 + 1 + 1 + 1)) := (hO.2.1 _ (by omega)).trans (by rw [HE.out.2.2.2.2]; congr 2)
      have hgr : g < wr.heap.size := hO.1
      clear hO
      go_upto_region 4 with fail
      go_region_held3 (fun W => W.cell? ⟨g, I * 5, none⟩ = some (.string T0)) (go_keep) (first | (go_at_call 36; refine (M0.out _ (by omega) _).mono ?_; rintro e v0 ⟨rfl, hb⟩; have e0 : v0.cell? ⟨g, I * 5, none⟩ = some (.string T0) := (hb.cell (p := ⟨g, I * 5, none⟩) hgr).trans b0))
      have HB0 : Hid (Below w.heap.size w v0) := HB.out.drew.trans (hb.mono HB.out.size)
      have b1 := (hb.cell (p := ⟨g, I * 5 + 1, none⟩) hgr).trans b1
      have b2 := (hb.cell (p := ⟨g, I * 5 + 2, none⟩) hgr).trans b2
      have b3 := (hb.cell (p := ⟨g, I * 5 + 3, none⟩) hgr).trans b3
      have b4 := (hb.cell (p := ⟨g, I * 5 + 4, none⟩) hgr).trans b4
      have hgr : g < v0.heap.size := Nat.lt_of_lt_of_le hgr hb.size
      clear hb e0
      go_upto_region 7 with fail
      go_region_held3 (fun W => W.cell? ⟨g, I * 5 + 1, none⟩ = some (.string T1)) (go_keep) (first | (go_at_call 36; refine (M1.out _ (by omega) _).mono ?_; rintro e v1 ⟨rfl, hb⟩; have e0 : v1.cell? ⟨g, I * 5 + 1, none⟩ = some (.string T1) := (hb.cell (p := ⟨g, I * 5 + 1, none⟩) hgr).trans b1))
      have HB1 : Hid (Below w.heap.size w v1) := HB0.out.drew.trans (hb.mono HB0.out.size)
      have b2 := (hb.cell (p := ⟨g, I * 5 + 2, none⟩) hgr).trans b2
      have b3 := (hb.cell (p := ⟨g, I * 5 + 3, none⟩) hgr).trans b3
      have b4 := (hb.cell (p := ⟨g, I * 5 + 4, none⟩) hgr).trans b4
      have hgr : g < v1.heap.size := Nat.lt_of_lt_of_le hgr hb.size
      clear hb e0
      go_upto_region 10 with fail
      go_region_held3 (fun W => W.cell? ⟨g, I * 5 + 2, none⟩ = some (.string T2)) (go_keep) (first | (go_at_call 36; refine (M2.out _ (by omega) _).mono ?_; rintro e v2 ⟨rfl, hb⟩; have e0 : v2.cell? ⟨g, I * 5 + 2, none⟩ = some (.string T2) := (hb.cell (p := ⟨g, I * 5 + 2, none⟩) hgr).trans b2))
      have HB2 : Hid (Below w.heap.size w v2) := HB1.out.drew.trans (hb.mono HB1.out.size)
      have b3 := (hb.cell (p := ⟨g, I * 5 + 3, none⟩) hgr).trans b3
      have b4 := (hb.cell (p := ⟨g, I * 5 + 4, none⟩) hgr).trans b4
      have hgr : g < v2.heap.size := Nat.lt_of_lt_of_le hgr hb.size
      clear hb e0
      go_upto_region 13 with fail
      go_region_held3 (fun W => W.cell? ⟨g, I * 5 + 3, none⟩ = some (.string T3)) (go_keep) (first | (go_at_call 36; refine (M3.out _ (by omega) _).mono ?_; rintro e v3 ⟨rfl, hb⟩; have e0 : v3.cell? ⟨g, I * 5 + 3, none⟩ = some (.string T3) := (hb.cell (p := ⟨g, I * 5 + 3, none⟩) hgr).trans b3))
      have HB3 : Hid (Below w.heap.size w v3) := HB2.out.drew.trans (hb.mono HB2.out.size)
      have b4 := (hb.cell (p := ⟨g, I * 5 + 4, none⟩) hgr).trans b4
      have hgr : g < v3.heap.size := Nat.lt_of_lt_of_le hgr hb.size
      clear hb e0
      have hx4 : ∀ x : Int, (x != x) = false := fun x => by simp
      go_wp2_with fail
      go_roundw
      case rel => exact ⟨I + 1, K + 5, by go_num, by go_num, by omega, by have := HK.out; omega, HB3⟩
      case measure => simp [intOf]; omega
    · have p0 : decide (I < n) = false := by simpa using hin
      have p1 : decide ((I : Int) < (n : Int)) = false := by simpa using hin
      obtain rfl : I = n := by omega
      go_wp2_with fail
      go_ret
      exact ⟨ret_int (by omega), HB.out⟩
end Go.Proofs.Ythjanamnkhggfaa
