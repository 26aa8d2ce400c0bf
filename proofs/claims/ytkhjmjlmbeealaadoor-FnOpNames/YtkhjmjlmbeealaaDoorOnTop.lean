/- The law FnOpNames: what its call does. -/
import Derived.Test.YtkhjmjlmbeealaaDoorOpN
import Derived.Test.YtkhjmjlmbeealaaDoorSrc2
namespace Go.Proofs.YtkhjmjlmbeealaaDoor
open Go.RowKit

set_option maxRecDepth 100000 in
set_option maxHeartbeats 8000000 in
theorem draw_opName {w0 : World} {a : Option Addr} {len cap : Nat} {zs : List Int} (hrow : Draw.IsRow .u8 w0 a len cap zs) (hsm : len ≤ 1048576) (w : World) (hb0 : Below w0.heap.size w0 w) :
    Calls Tryd.prog 10 #[.slice a len cap] w fun e w' => ∃ r : Int, e = .returned (.int .i64 r) ∧ -1 ≤ r ∧ r ≤ 27 ∧ Below w0.heap.size w0 w' := by
  go_enter Tryd.func10, Tryd.ntmps10
  go_wp2_with fail
  refine (Draw.draw_source hrow hsm w hb0).mono ?_
  rintro e w1 ⟨S, rfl, hSlo, hs1, hg1⟩
  go_wp2_with fail
  refine (Draw.draw_n hs1 29 (by omega) (by omega)).mono ?_
  rintro e w2 ⟨r, rfl, r0, r1, hs2, hg2⟩
  have hw : IntKind.i64.wrap (r - 1) = r - 1 := IntWalk.i64_in _ (by omega)
  have HB : Hid (Below w0.heap.size w0 w2) := by obtain ⟨_, _, hbel, _⟩ := hs2; exact hbel
  clear hs1 hs2 hg1 hg2
  go_wp2_with fail
  go_ret
  exact ⟨r - 1, rfl, by omega, by omega, HB.out⟩
theorem nm_apart : ∀ i, i < 27 → ∀ j, j < 27 → i ≠ j → ((shp i).nm == (shp j).nm) = false := by decide
theorem opS_list (k : Nat) (h1 : 1 ≤ k) (h2 : k ≤ 26) : (opS (k : Int)).toList = (shp k).nm := by
  unfold opS
  rw [if_pos (by omega)]
  show (ByteArray.mk (shp k).nm.toArray).toList = _
  rw [ByteArray.toList_eq]
theorem opS_apart {k j : Nat} (h1 : 1 ≤ k) (h2 : k ≤ 26) (h3 : 1 ≤ j) (h4 : j ≤ 26) (hne : k ≠ j) : ((opS (k : Int)).toList == (opS (j : Int)).toList) = false := by
  rw [opS_list k h1 h2, opS_list j h3 h4]
  exact nm_apart k (by omega) j (by omega) hne
theorem nm_some : ∀ i, i < 27 → 1 ≤ i → ((shp i).nm == []) = false := by decide
theorem opS_some {k : Nat} (h1 : 1 ≤ k) (h2 : k ≤ 26) : ((opS (k : Int)).toList == []) = false := by
  rw [opS_list k h1 h2]; exact nm_some k (by omega) h1
theorem opS_none {z : Int} (h : ¬ (1 ≤ z ∧ z ≤ 26)) : opS z = ⟨#[]⟩ := by unfold opS; rw [if_neg h]
set_option maxRecDepth 100000 in
set_option maxHeartbeats 8000000 in
theorem law_opNames (a : Option Addr) (len cap : Nat) (zs : List Int) (w : World) (hS : ShaW w) (hrow : Draw.IsRow .u8 w a len cap zs) :
    Calls Tryd.prog 3 #[.slice a len cap] w fun e w' => e = .returned (.bool true) ∧ Below w.heap.size w w' := by
  have hlm : len ≤ 9223372036854775807 := by
    rcases hrow with ⟨_, rfl, _⟩ | ⟨x, rfl, hl, hm, _⟩
    · omega
    · unfold maxLen at hm; omega
  have HS : Hid (ShaW w) := hS
  clear hS
  have HI : Hid (∀ z W, ShaW W → Calls Tryd.prog 11 #[.int .i64 z] W fun e w' => e = .returned (.string (opS z)) ∧ w' = W) := fun z W h => impl_opName z W h
  have HP : Hid (∀ z W, Calls Tryd.prog 12 #[.int .i64 z] W fun e w' => e = .returned (.string (opS z)) ∧ Below W.heap.size W w') := fun z W => spec_opName z W
  by_cases hbig : 1048576 < (len : Int)
  · go_enter Tryd.func3, Tryd.ntmps3
    go_wp2_with fail
    go_ret
    exact ⟨rfl, Below.refl _ _⟩
  go_enter Tryd.func3, Tryd.ntmps3
  go_wp2_with fail
  refine (draw_opName hrow (by omega) w (Below.refl _ _)).mono ?_
  rintro e w1 ⟨r, rfl, r0, r1, hb1⟩
  have HB : Hid (Below w.heap.size w w1) := hb1
  have HS1 : Hid (ShaW w1) := HS.out.below hb1
  clear hb1 hrow hbig hlm HS
  go_wp2_with fail
  refine (HI.out r _ HS1.out).mono ?_
  rintro e w2 ⟨rfl, rfl⟩
  by_cases hin : 1 ≤ r ∧ r ≤ 26
  rotate_left
  · rw [opS_none hin]
    by_cases h1 : r < 1
    · have p1 : decide (r < 1) = true := by simpa using h1
      clear hin HI HP
      go_wp2_with fail
      go_ret
      exact ⟨rfl, HB.out⟩
    · have p1 : decide (r < 1) = false := by simpa using h1
      have p2 : decide (26 < r) = true := by simp; omega
      clear hin HI HP
      go_wp2_with fail
      go_ret
      exact ⟨rfl, HB.out⟩
  obtain ⟨j, rfl⟩ : ∃ j : Nat, r = (j : Int) := ⟨r.toNat, by omega⟩
  have p1 : decide ((j : Int) < 1) = false := by simp; omega
  have p2 : decide (26 < (j : Int)) = false := by simp; omega
  have p3 : decide (j < 1) = false := by simp; omega
  have p4 : decide (26 < j) = false := by simp; omega
  have HJ : Hid (1 ≤ j ∧ j ≤ 26) := ⟨by omega, by omega⟩
  obtain ⟨N, hN⟩ : ∃ N, N = opS (j : Int) := ⟨_, rfl⟩
  have HN : Hid (N = opS (j : Int)) := hN
  rw [← hN]
  clear hN hin r0 r1
  go_wp2_with fail
  go_loopw [5] (fun i wr => ∃ k : Nat, i = .int .i64 (k : Int) ∧ 1 ≤ k ∧ k ≤ 27 ∧ wr = w2) (fun i _ => 27 - (intOf i).toNat)
  case atStart => exact ⟨1, rfl, by omega, by omega, rfl⟩
  case round =>
    obtain ⟨k, rfl, hk1, hk2, rfl⟩ := hrel
    by_cases h26 : k ≤ 26
    · have q0 : decide ((k : Int) ≤ 26) = true := by simp; omega
      have q1 : decide (k ≤ 26) = true := by simp; omega
      have hwk : IntKind.i64.wrap ((k : Int) + 1) = (k : Int) + 1 := IntWalk.i64_in _ (by omega)
      by_cases e : k = j
      · have q2 : ((k : Int) != (j : Int)) = false := by rw [e]; simp
        go_wp2_with fail
        go_roundw
        case rel => exact ⟨k + 1, by go_num, by omega, by omega, by first | rfl | trivial⟩
        case measure => simp [intOf]; omega
      · have q2 : ((k : Int) != (j : Int)) = true := by rw [bne_iff_ne]; omega
        have q3 : ((opS (k : Int)).toList == N.toList) = false := by rw [HN.out]; exact opS_apart hk1 h26 HJ.out.1 HJ.out.2 e
        have HI3 := HI.out (k : Int) _ HS1.out
        have HI3 : Hid (Calls Tryd.prog 11 _ _ _) := HI3
        generalize opS (k : Int) = M at *
        go_wp2_with fail
        refine HI3.out.mono ?_
        rintro e w3 ⟨rfl, rfl⟩
        go_wp2_with fail
        go_roundw
        case rel => exact ⟨k + 1, by go_num, by omega, by omega, by first | rfl | trivial⟩
        case measure => simp [intOf]; omega
    · have q0 : decide ((k : Int) ≤ 26) = false := by simp; omega
      have q1 : decide (k ≤ 26) = false := by simp; omega
      have q4 : (N.toList == []) = false := by rw [HN.out]; exact opS_some HJ.out.1 HJ.out.2
      have q5 : (N.toList != []) = true := by rw [bne, q4]; rfl
      have q6 : (N.toList == N.toList) = true := by simp
      have HP3 := HP.out (j : Int) wr
      rw [← HN.out] at HP3
      have HP3 : Hid (Calls Tryd.prog 12 _ _ _) := HP3
      go_wp2_with fail
      refine HP3.out.mono ?_
      rintro e w3 ⟨rfl, hb⟩
      have HB3 : Hid (Below w.heap.size w w3) := HB.out.trans (hb.mono HB.out.size)
      clear hb
      go_wp2_with fail
      go_ret
      exact ⟨rfl, HB3.out⟩
end Go.Proofs.YtkhjmjlmbeealaaDoor
