/- Are legs right (spec.LegsRight, impl.LegsRight)? What each call does, and the law. -/
import Derived.Test.YthjanamnkhggfaaLegs2
namespace Go.Proofs.Ythjanamnkhggfaa
open Go.RowKit


def okLeg (x : Lg) : Bool := (nameB x.fa && nameB x.fs) && (nameB x.ta && nameB x.ts) && decide (0 ≤ x.m) && decide (x.m ≤ 1000000000000)
def legsB (n : Nat) (L : Nat → Lg) : Bool := decide (n ≤ 20) && (List.range n).all (fun i => okLeg (L i))
theorem legsB_no {n : Nat} {L : Nat → Lg} {k : Nat} (hk : k < n) (h : okLeg (L k) = false) : legsB n L = false := by
  have : (List.range n).all (fun i => okLeg (L i)) = false := by
    rw [List.all_eq_false]; exact ⟨k, by simpa using hk, by simp [h]⟩
  simp [legsB, this]
theorem legsB_big {n : Nat} {L : Nat → Lg} (h : ¬ n ≤ 20) : legsB n L = false := by simp [legsB, h]
theorem legsB_yes {n : Nat} {L : Nat → Lg} (hn : n ≤ 20) (h : ∀ j, j < n → okLeg (L j) = true) : legsB n L = true := by
  have : (List.range n).all (fun i => okLeg (L i)) = true := by
    rw [List.all_eq_true]; intro x hx; exact h x (by simpa using hx)
  simp [legsB, this, hn]
theorem legsB_iff (n : Nat) (L : Nat → Lg) : legsB n L = true ↔ n ≤ 20 ∧ ∀ j, j < n → okLeg (L j) = true := by
  simp [legsB]
theorem okLeg_iff (x : Lg) : okLeg x = true ↔ (nameB x.fa = true ∧ nameB x.fs = true) ∧ (nameB x.ta = true ∧ nameB x.ts = true) ∧ 0 ≤ x.m ∧ x.m ≤ 1000000000000 := by
  simp [okLeg, and_assoc]

set_option maxRecDepth 100000 in
set_option maxHeartbeats 4000000 in
theorem spec_legs (a : Option Addr) (n cap : Nat) (L : Nat → Lg) (hn : n ≤ 1048576) (hfit : ∀ i, i < n → (L i).fits) (w : World) (h : LegsAt w a n L) :
    Calls Try.prog 12 #[.slice a n cap] w fun e w' => e = .returned (.bool (legsB n L)) ∧ Below w.heap.size w w' := by
  have HL : Hid (LegsAt w a n L) := h
  have HF : Hid (∀ i, i < n → (L i).fits) := hfit
  clear h hfit
  by_cases h20 : n ≤ 20
  · have q0 : decide (20 < n) = false := by simp; omega
    have q1 : decide ((20 : Int) < (n : Int)) = false := by simp; omega
    go_enter Try.func12, Try.ntmps12
    go_wp2_with fail
    go_loopw [3] (fun i wr => ∃ k : Nat, i = .int .i64 (k : Int) ∧ k ≤ n ∧ Hid (∀ j, j < k → okLeg (L j) = true) ∧ Hid (Below w.heap.size w wr)) (fun i _ => n - (intOf i).toNat)
    case atStart => exact ⟨0, rfl, by omega, fun j hj => by omega, Below.refl _ _⟩
    case round =>
      obtain ⟨k, rfl, hk, HS, HB⟩ := hrel
      by_cases hkn : k < n
      · have p0 : decide (k < n) = true := by simpa using hkn
        have p1 : decide ((k : Int) < (n : Int)) = true := by simpa using hkn
        rcases HL.out with h0 | ⟨g, o, rfl, hg, hc⟩
        · omega
        obtain ⟨c0, c1, c2, c3, c4⟩ := hc k hkn
        have d0 := (HB.out.cell (p := ⟨g, _, none⟩) hg).trans c0
        have d1 := (HB.out.cell (p := ⟨g, _, none⟩) hg).trans c1
        have d2 := (HB.out.cell (p := ⟨g, _, none⟩) hg).trans c2
        have d3 := (HB.out.cell (p := ⟨g, _, none⟩) hg).trans c3
        have d4 := (HB.out.cell (p := ⟨g, _, none⟩) hg).trans c4
        obtain ⟨f0, f1, f2, f3⟩ := HF.out k hkn
        have HS' : Hid (okLeg (L k) = true → ∀ j, j < k + 1 → okLeg (L j) = true) := fun hsm j hj => by
          by_cases e : j = k
          · rw [e]; exact hsm
          · exact HS.out j (by omega)
        have HNO : Hid (okLeg (L k) = false → legsB n L = false) := legsB_no hkn
        have H1 := fun W => spec_names (L k).fa (L k).fs f0 f1 W
        have H2 := fun W => spec_names (L k).ta (L k).ts f2 f3 W
        have HOK : Hid (okLeg (L k) = ((nameB (L k).fa && nameB (L k).fs) && (nameB (L k).ta && nameB (L k).ts) && decide (0 ≤ (L k).m) && decide ((L k).m ≤ 1000000000000))) := rfl
        clear hc HS f0 f1 f2 f3 c0 c1 c2 c3 c4
        generalize okLeg (L k) = ok at *
        generalize (nameB (L k).fa && nameB (L k).fs) = A at *
        generalize (nameB (L k).ta && nameB (L k).ts) = B at *
        generalize (L k).fa = x0 at *
        generalize (L k).fs = x1 at *
        generalize (L k).ta = x2 at *
        generalize (L k).ts = x3 at *
        generalize (L k).m = x4 at *
        have H1 : Hid (∀ W, Calls Try.prog 23 #[.agg #[.string x0, .string x1]] W fun e w' => e = .returned (.bool A) ∧ Below W.heap.size W w') := H1
        have H2 : Hid (∀ W, Calls Try.prog 23 #[.agg #[.string x2, .string x3]] W fun e w' => e = .returned (.bool B) ∧ Below W.heap.size W w') := H2
        have hgr : g < wr.heap.size := Nat.lt_of_lt_of_le hg HB.out.size
        go_wp2_with fail
        refine (H1.out _).mono ?_
        rintro e w1 ⟨rfl, hb1⟩
        have HB1 : Hid (Below w.heap.size w w1) := HB.out.trans (hb1.mono HB.out.size)
        have e2 := (hb1.cell (p := ⟨g, _, none⟩) hgr).trans d2
        have e3 := (hb1.cell (p := ⟨g, _, none⟩) hgr).trans d3
        have e4 := (hb1.cell (p := ⟨g, _, none⟩) hgr).trans d4
        have hgr1 : g < w1.heap.size := Nat.lt_of_lt_of_le hgr hb1.size
        clear d0 d1 d2 d3 d4 hb1
        cases A
        · have HX : Hid (legsB n L = false) := HNO.out (by rw [HOK.out]; rfl)
          go_wp2_with fail
          go_ret
          exact ⟨ret_bool HX.out.symm, HB1.out⟩
        go_wp2_with fail
        refine (H2.out _).mono ?_
        rintro e w2 ⟨rfl, hb2⟩
        have HB2 : Hid (Below w.heap.size w w2) := HB1.out.trans (hb2.mono HB1.out.size)
        have f4 := (hb2.cell (p := ⟨g, _, none⟩) hgr1).trans e4
        clear e2 e3 e4 hb2
        cases B
        · have HX : Hid (legsB n L = false) := HNO.out (by rw [HOK.out]; rfl)
          go_wp2_with fail
          go_ret
          exact ⟨ret_bool HX.out.symm, HB2.out⟩
        by_cases m0 : 0 ≤ x4
        · have t0 : decide (x4 < 0) = false := by simp; omega
          by_cases m1 : x4 ≤ 1000000000000
          · have t1 : decide (1000000000000 < x4) = false := by simp; omega
            have HY : Hid (∀ j, j < k + 1 → okLeg (L j) = true) := HS'.out (by rw [HOK.out]; simp [m0, m1])
            go_wp2_with fail
            go_roundw
            case rel => exact ⟨k + 1, by go_num, by omega, HY, HB2⟩
            case measure => simp [intOf]; omega
          · have t1 : decide (1000000000000 < x4) = true := by simp; omega
            have HX : Hid (legsB n L = false) := HNO.out (by rw [HOK.out]; simp [m1])
            go_wp2_with fail
            go_ret
            exact ⟨ret_bool HX.out.symm, HB2.out⟩
        · have t0 : decide (x4 < 0) = true := by simp; omega
          have HX : Hid (legsB n L = false) := HNO.out (by rw [HOK.out]; simp [m0])
          go_wp2_with fail
          go_ret
          exact ⟨ret_bool HX.out.symm, HB2.out⟩
      · have p0 : decide (k < n) = false := by simpa using hkn
        have p1 : decide ((k : Int) < (n : Int)) = false := by simpa using hkn
        obtain rfl : k = n := by omega
        go_wp2_with fail
        go_ret
        exact ⟨ret_bool (legsB_yes h20 HS.out).symm, HB.out⟩
  · have q0 : decide (20 < n) = true := by simp; omega
    have q1 : decide ((20 : Int) < (n : Int)) = true := by simp; omega
    go_enter Try.func12, Try.ntmps12
    go_wp2_with fail
    go_ret
    exact ⟨ret_bool (legsB_big h20).symm, Below.refl _ _⟩
set_option maxRecDepth 100000 in
set_option maxHeartbeats 4000000 in
theorem impl_legs (a : Option Addr) (n cap : Nat) (L : Nat → Lg) (hn : n ≤ 1048576) (hfit : ∀ i, i < n → (L i).fits) (w : World) (h : LegsAt w a n L) :
    Calls Try.prog 14 #[.slice a n cap] w fun e w' => e = .returned (.bool (legsB n L)) ∧ Below w.heap.size w w' := by
  have HL : Hid (LegsAt w a n L) := h
  have HF : Hid (∀ i, i < n → (L i).fits) := hfit
  clear h hfit
  by_cases h20 : n ≤ 20
  · have q0 : decide (20 < n) = false := by simp; omega
    have q1 : decide ((20 : Int) < (n : Int)) = false := by simp; omega
    go_enter Try.func14, Try.ntmps14
    go_wp2_with fail
    go_loopw [10] (fun i wr => ∃ k : Nat, i = .int .i64 (k : Int) ∧ k ≤ n ∧ Hid (∀ j, j < k → okLeg (L j) = true) ∧ Hid (Below w.heap.size w wr)) (fun i _ => n - (intOf i).toNat)
    case atStart => exact ⟨0, rfl, by omega, fun j hj => by omega, Below.refl _ _⟩
    case round =>
      obtain ⟨k, rfl, hk, HS, HB⟩ := hrel
      by_cases hkn : k < n
      · have p0 : decide (k < n) = true := by simpa using hkn
        have p1 : decide ((k : Int) < (n : Int)) = true := by simpa using hkn
        rcases HL.out with h0 | ⟨g, o, rfl, hg, hc⟩
        · omega
        obtain ⟨c0, c1, c2, c3, c4⟩ := hc k hkn
        have d0 := (HB.out.cell (p := ⟨g, _, none⟩) hg).trans c0
        have d1 := (HB.out.cell (p := ⟨g, _, none⟩) hg).trans c1
        have d2 := (HB.out.cell (p := ⟨g, _, none⟩) hg).trans c2
        have d3 := (HB.out.cell (p := ⟨g, _, none⟩) hg).trans c3
        have d4 := (HB.out.cell (p := ⟨g, _, none⟩) hg).trans c4
        obtain ⟨f0, f1, f2, f3⟩ := HF.out k hkn
        have HS' : Hid (okLeg (L k) = true → ∀ j, j < k + 1 → okLeg (L j) = true) := fun hsm j hj => by
          by_cases e : j = k
          · rw [e]; exact hsm
          · exact HS.out j (by omega)
        have HNO : Hid (okLeg (L k) = false → legsB n L = false) := legsB_no hkn
        have H1 := fun W => impl_spot (L k).fa (L k).fs f0 f1 W
        have H2 := fun W => impl_spot (L k).ta (L k).ts f2 f3 W
        have HOK : Hid (okLeg (L k) = ((nameB (L k).fa && nameB (L k).fs) && (nameB (L k).ta && nameB (L k).ts) && decide (0 ≤ (L k).m) && decide ((L k).m ≤ 1000000000000))) := rfl
        clear hc HS f0 f1 f2 f3 c0 c1 c2 c3 c4
        generalize okLeg (L k) = ok at *
        generalize (nameB (L k).fa && nameB (L k).fs) = A at *
        generalize (nameB (L k).ta && nameB (L k).ts) = B at *
        generalize (L k).fa = x0 at *
        generalize (L k).fs = x1 at *
        generalize (L k).ta = x2 at *
        generalize (L k).ts = x3 at *
        generalize (L k).m = x4 at *
        have H1 : Hid (∀ W, Calls Try.prog 33 #[.agg #[.string x0, .string x1]] W fun e w' => e = .returned (.bool A) ∧ Below W.heap.size W w') := H1
        have H2 : Hid (∀ W, Calls Try.prog 33 #[.agg #[.string x2, .string x3]] W fun e w' => e = .returned (.bool B) ∧ Below W.heap.size W w') := H2
        have hgr : g < wr.heap.size := Nat.lt_of_lt_of_le hg HB.out.size
        go_wp2_with fail
        refine (H1.out _).mono ?_
        rintro e w1 ⟨rfl, hb1⟩
        have hz1 : wr.heap.size < w1.heap.size := by have := hb1.size; simp at this; omega
        have HB1 : Hid (Below w.heap.size w w1) := (HB.out.alloc HB.out.size _).trans (hb1.mono (by have := HB.out.size; simp; omega))
        have e2 : w1.cell? ⟨wr.heap.size, 2, none⟩ = some (.string x2) := (hb1.cell (p := ⟨wr.heap.size, 2, none⟩) (by simp)).trans (by simp)
        have e3 : w1.cell? ⟨wr.heap.size, 3, none⟩ = some (.string x3) := (hb1.cell (p := ⟨wr.heap.size, 3, none⟩) (by simp)).trans (by simp)
        have e4 : w1.cell? ⟨wr.heap.size, 4, none⟩ = some (.int .i64 x4) := (hb1.cell (p := ⟨wr.heap.size, 4, none⟩) (by simp)).trans (by simp)
        clear d0 d1 d2 d3 d4 hb1
        cases A
        · have HX : Hid (legsB n L = false) := HNO.out (by rw [HOK.out]; rfl)
          go_wp2_with fail
          go_ret
          exact ⟨ret_bool HX.out.symm, HB1.out⟩
        go_wp2_with fail
        refine (H2.out _).mono ?_
        rintro e w2 ⟨rfl, hb2⟩
        have HB2 : Hid (Below w.heap.size w w2) := HB1.out.trans (hb2.mono HB1.out.size)
        have f4 := (hb2.cell (p := ⟨wr.heap.size, _, none⟩) hz1).trans e4
        clear e2 e3 e4 hb2
        cases B
        · have HX : Hid (legsB n L = false) := HNO.out (by rw [HOK.out]; rfl)
          go_wp2_with fail
          go_ret
          exact ⟨ret_bool HX.out.symm, HB2.out⟩
        by_cases m0 : 0 ≤ x4
        · have t0 : decide (x4 < 0) = false := by simp; omega
          by_cases m1 : x4 ≤ 1000000000000
          · have t1 : decide (1000000000000 < x4) = false := by simp; omega
            have HY : Hid (∀ j, j < k + 1 → okLeg (L j) = true) := HS'.out (by rw [HOK.out]; simp [m0, m1])
            have hR : rightB x4 = true := rightB_yes (by omega) m1
            go_wp2_with fail
            refine (impl_right x4 _).mono ?_
            rintro e w3 ⟨rfl, rfl⟩
            rw [hR]
            go_wp2_with fail
            go_roundw
            case rel => exact ⟨k + 1, by go_num, by omega, HY, HB2⟩
            case measure => simp [intOf]; omega
          · have t1 : decide (1000000000000 < x4) = true := by simp; omega
            have HX : Hid (legsB n L = false) := HNO.out (by rw [HOK.out]; simp [m1])
            have hR : rightB x4 = false := rightB_no (Or.inr (by omega))
            go_wp2_with fail
            refine (impl_right x4 _).mono ?_
            rintro e w3 ⟨rfl, rfl⟩
            rw [hR]
            go_wp2_with fail
            go_ret
            exact ⟨ret_bool HX.out.symm, HB2.out⟩
        · have t0 : decide (x4 < 0) = true := by simp; omega
          have HX : Hid (legsB n L = false) := HNO.out (by rw [HOK.out]; simp [m0])
          go_wp2_with fail
          go_ret
          exact ⟨ret_bool HX.out.symm, HB2.out⟩
      · have p0 : decide (k < n) = false := by simpa using hkn
        have p1 : decide ((k : Int) < (n : Int)) = false := by simpa using hkn
        obtain rfl : k = n := by omega
        go_wp2_with fail
        go_ret
        exact ⟨ret_bool (legsB_yes h20 HS.out).symm, HB.out⟩
  · have q0 : decide (20 < n) = true := by simp; omega
    have q1 : decide ((20 : Int) < (n : Int)) = true := by simp; omega
    go_enter Try.func14, Try.ntmps14
    go_wp2_with fail
    go_ret
    exact ⟨ret_bool (legsB_big h20).symm, Below.refl _ _⟩
set_option maxRecDepth 100000 in
set_option maxHeartbeats 4000000 in
theorem law_legsRight (a : Option Addr) (n cap : Nat) (L : Nat → Lg) (hn : n ≤ maxLen) (hfit : ∀ i, i < n → (L i).fits) (w : World) (h : LegsAt w a n L) :
    Calls Try.prog 4 #[.slice a n cap] w fun e w' => e = .returned (.bool true) ∧ Below w.heap.size w w' := by
  have HL : Hid (LegsAt w a n L) := h
  have HF : Hid (∀ i, i < n → (L i).fits) := hfit
  have HN : Hid (n ≤ maxLen) := hn
  clear h hfit hn
  go_enter Try.func4, Try.ntmps4
  go_wp2_with fail
  refine (sz_legs a n cap L HN.out HF.out 1048576 (by omega) w HL.out).mono ?_
  rintro e w1 ⟨he, hb1⟩
  have HB1 : Hid (Below w.heap.size w w1) := hb1
  clear hb1
  rcases he with rfl | ⟨r, rfl, hr, hnl, hsm⟩
  · have q' : decide ((-1 : Int) < 0) = true := rfl
    go_wp2_with fail
    go_ret
    exact ⟨rfl, HB1.out⟩
  have HF : Hid (∀ i, i < n → (L i).fits) := fun i hi => (hsm i hi).fits
  clear hsm
  have q' : decide ((r : Int) < 0) = false := by simp
  go_wp2_with fail
  refine (to_legs a n cap L hnl _ (HL.out.below HB1.out)).mono ?_
  rintro e w2 ⟨g, rfl, hg, hO, hb2⟩
  have HB2 : Hid (Below w.heap.size w w2) := HB1.out.trans (hb2.mono HB1.out.size)
  have HO : Hid (Own w2 g (n * 5) (legF L)) := hO
  clear hg hO hb2
  go_wp2_with fail
  refine (spec_legs (some ⟨g, 0, none⟩) n n L hnl HF.out _ HO.out.legs).mono ?_
  rintro e w3 ⟨rfl, hb3⟩
  have HB3 : Hid (Below w.heap.size w w3) := HB2.out.trans (hb3.mono HB2.out.size)
  clear hb3 HO
  go_wp2_with fail
  refine (to_legs a n cap L hnl _ (HL.out.below HB3.out)).mono ?_
  rintro e w4 ⟨g', rfl, hg', hO', hb4⟩
  have HB4 : Hid (Below w.heap.size w w4) := HB3.out.trans (hb4.mono HB3.out.size)
  have HO' : Hid (Own w4 g' (n * 5) (legF L)) := hO'
  clear hg' hO' hb4
  go_wp2_with fail
  refine (impl_legs (some ⟨g', 0, none⟩) n n L hnl HF.out _ HO'.out.legs).mono ?_
  rintro e w5 ⟨rfl, hb5⟩
  have HB5 : Hid (Below w.heap.size w w5) := HB4.out.trans (hb5.mono HB4.out.size)
  have HO5 : Hid (Own w5 g' (n * 5) (legF L)) := HO'.out.below hb5
  clear hb5 HO'
  generalize legsB n L = b
  have hbb : (b != b) = false := by simp
  go_wp2_with fail
  refine (to_legs a n cap L hnl _ (HL.out.below HB5.out)).mono ?_
  rintro e w6 ⟨g6, rfl, hg6, hO6, hb6⟩
  have HB6 : Hid (Below w.heap.size w w6) := HB5.out.trans (hb6.mono HB5.out.size)
  have HO6 : Hid (Own w6 g6 (n * 5) (legF L)) := hO6
  have HO7 : Hid (Own w6 g' (n * 5) (legF L)) := HO5.out.below hb6
  clear hg6 hO6 hb6 HO5
  go_wp2_with fail
  refine (eq_legs (some ⟨g', 0, none⟩) (some ⟨g6, 0, none⟩) n n n L hnl _ HO7.out.legs HO6.out.legs).mono ?_
  rintro e w7 ⟨rfl, hb7⟩
  have HB7 : Hid (Below w.heap.size w w7) := HB6.out.trans (hb7.mono HB6.out.size)
  clear hb7
  go_wp2_with fail
  go_ret
  exact ⟨rfl, HB7.out⟩
end Go.Proofs.Ythjanamnkhggfaa
