/- Money's bounds, sums, and the face of a refusal (moneyOut): what each call does, of the program and of its model. -/
import Derived.Test.YtnefcldjigndgaaGreatDoorAs
import Derived.WalkLawsBesides
namespace Go.Proofs.YtnefcldjigndgaaGreatDoor
open Go.RowKit

theorem bcell {W w1 : World} (hb : Below W.heap.size W w1) : (∀ b o, b < W.heap.size → w1.cell? ⟨b, o, none⟩ = W.cell? ⟨b, o, none⟩) ∧ (∀ b o, b < W.heap.size → w1.frozen? ⟨b, o, none⟩ = W.frozen? ⟨b, o, none⟩) :=
  ⟨fun b o h => hb.cell (p := ⟨b, o, none⟩) h, fun b o h => hb.frozen (p := ⟨b, o, none⟩) h⟩
def rightB (n : Int) : Bool := decide (-1000000000000 ≤ n) && decide (n ≤ 1000000000000)
theorem rightB_yes {n : Int} (h0 : -1000000000000 ≤ n) (h1 : n ≤ 1000000000000) : rightB n = true := by simp [rightB, h0, h1]
theorem rightB_no {n : Int} (h : n < -1000000000000 ∨ 1000000000000 < n) : rightB n = false := by
  simp [rightB]; omega
theorem rightB_iff (n : Int) : rightB n = true ↔ (-1000000000000 ≤ n ∧ n ≤ 1000000000000) := by simp [rightB]
def moneyV (r : Int × Int) : Value := .agg #[.int .i64 r.1, .int .i64 r.2]
def errV (c : Int) : Value := .iface 60 (.agg #[.int .i64 c])

theorem spec_right (n : Int) (w : World) :
    Calls Tryz.prog 17 #[.int .i64 n] w fun e w' => e = .returned (.bool (rightB n)) ∧ w' = w := by
  by_cases h0 : -1000000000000 ≤ n
  · have t0 : decide (-1000000000000 ≤ n) = true := by simpa using h0
    by_cases h1 : n ≤ 1000000000000
    · have t1 : decide (n ≤ 1000000000000) = true := by simpa using h1
      rw [rightB_yes h0 h1]
      go_enter Tryz.func17, Tryz.ntmps17
      go_wp2
      go_ret
      exact ⟨rfl, rfl⟩
    · have t1 : decide (n ≤ 1000000000000) = false := by simpa using h1
      rw [rightB_no (Or.inr (by omega))]
      go_enter Tryz.func17, Tryz.ntmps17
      go_wp2
      go_ret
      exact ⟨rfl, rfl⟩
  · have t0 : decide (-1000000000000 ≤ n) = false := by simpa using h0
    rw [rightB_no (Or.inl (by omega))]
    go_enter Tryz.func17, Tryz.ntmps17
    go_wp2
    go_ret
    exact ⟨rfl, rfl⟩

theorem impl_right (n : Int) (w : World) :
    Calls Tryz.prog 47 #[.int .i64 n] w fun e w' => e = .returned (.bool (rightB n)) ∧ w' = w := by
  by_cases h0 : -1000000000000 ≤ n
  · have t0 : decide (-1000000000000 ≤ n) = true := by simpa using h0
    by_cases h1 : n ≤ 1000000000000
    · have t1 : decide (n ≤ 1000000000000) = true := by simpa using h1
      rw [rightB_yes h0 h1]
      go_enter Tryz.func47, Tryz.ntmps47
      go_wp2
      go_ret
      exact ⟨rfl, rfl⟩
    · have t1 : decide (n ≤ 1000000000000) = false := by simpa using h1
      rw [rightB_no (Or.inr (by omega))]
      go_enter Tryz.func47, Tryz.ntmps47
      go_wp2
      go_ret
      exact ⟨rfl, rfl⟩
  · have t0 : decide (-1000000000000 ≤ n) = false := by simpa using h0
    rw [rightB_no (Or.inl (by omega))]
    go_enter Tryz.func47, Tryz.ntmps47
    go_wp2
    go_ret
    exact ⟨rfl, rfl⟩

set_option maxRecDepth 100000 in
set_option maxHeartbeats 1000000 in
theorem code_nil (w : World) :
    Calls Tryz.prog 33 #[.nilIface] w fun e w' => e = .returned (.int .i64 0) ∧ Below w.heap.size w w' := by
  go_enter Tryz.func33, Tryz.ntmps33
  go_wp2_with fail
  refine (as_nil _ _).mono ?_
  rintro e w1 ⟨rfl, rfl⟩
  go_wp2_with fail
  go_ret
  refine ⟨rfl, ?_⟩
  repeat (first | exact Below.refl _ _ | refine Below.setCell ?_ (by simp) _ | refine Below.alloc ?_ (by simp) _)
set_option maxRecDepth 100000 in
set_option maxHeartbeats 1000000 in
theorem code_err (c : Int) (w : World) (hL : Lay w) :
    Calls Tryz.prog 33 #[errV c] w fun e w' => e = .returned (.int .i64 c) ∧ Below w.heap.size w w' := by
  simp only [errV]
  have H : Hid (Lay w) := hL
  clear hL
  go_enter Tryz.func33, Tryz.ntmps33
  go_wp2_with fail
  refine (as_hit _ _ (.int .i64 0) _ (by exact H.out.below (by repeat (first | exact Below.refl _ _ | refine Below.alloc ?_ (by simp) _))) (by simp) (by simp)).mono ?_
  rintro e w1 ⟨rfl, rfl⟩
  go_wp2_with fail
  go_ret
  refine ⟨rfl, ?_⟩
  repeat (first | exact Below.refl _ _ | refine Below.setCell ?_ (by simp) _ | refine Below.alloc ?_ (by simp <;> omega) _)

set_option maxRecDepth 100000 in
set_option maxHeartbeats 1000000 in
theorem out_ok (n : Int) (w : World) :
    Calls Tryz.prog 20 #[.int .i64 n, .nilIface] w fun e w' => e = .returned (moneyV (n, 0)) ∧ Below w.heap.size w w' := by
  go_enter Tryz.func20, Tryz.ntmps20
  go_wp2_with fail
  refine (code_nil _).mono ?_
  rintro e w2 ⟨rfl, hb⟩
  obtain ⟨hc, hf⟩ := bcell hb
  have hz : w.heap.size < w2.heap.size := by have := hb.size; simp at this; omega
  go_wp2_with fail
  refine bodyPost_ret (v := moneyV (n, 0)) ?_ rfl ⟨rfl, ?_⟩
  · simp [results, Tryz.results20, go_sem, hc, moneyV]
  · have hbb : Below w.heap.size w w2 := ((Below.refl w.heap.size w).alloc (Nat.le_refl _) _).trans (hb.mono (by simp))
    repeat (first | exact hbb | refine Below.setCell ?_ (by exact Nat.le_refl _) _ | refine Below.alloc ?_ (by simp [World.setCell]; omega) _)
set_option maxRecDepth 100000 in
set_option maxHeartbeats 1000000 in
theorem out_err (n c : Int) (hc : c ≠ 0) (w : World) (hL : Lay w) :
    Calls Tryz.prog 20 #[.int .i64 n, errV c] w fun e w' => e = .returned (moneyV (0, c)) ∧ Below w.heap.size w w' := by
  have tc : (c != 0) = true := by rw [bne_iff_ne]; exact hc
  have H : Hid (∀ w, Lay w → Calls Tryz.prog 33 #[errV c] w fun e w' => e = .returned (.int .i64 c) ∧ Below w.heap.size w w') := fun w h => code_err c w h
  have HL : Hid (Lay w) := hL
  generalize errV c = E at *
  clear hc hL
  go_enter Tryz.func20, Tryz.ntmps20
  go_wp2_with fail
  refine (H.out _ (by exact HL.out.below ((Below.refl _ _).alloc (Nat.le_refl _) _))).mono ?_
  rintro e w2 ⟨rfl, hb⟩
  obtain ⟨hc, hf⟩ := bcell hb
  have hz : w.heap.size < w2.heap.size := by have := hb.size; simp at this; omega
  go_wp2_with fail
  refine bodyPost_ret (v := moneyV (0, c)) ?_ rfl ⟨rfl, ?_⟩
  · simp [results, Tryz.results20, go_sem, hc, moneyV]
  · have hbb : Below w.heap.size w w2 := ((Below.refl w.heap.size w).alloc (Nat.le_refl _) _).trans (hb.mono (by simp))
    repeat (first | exact hbb | refine Below.setCell ?_ (by exact Nat.le_refl _) _ | refine Below.alloc ?_ (by simp [World.setCell]; omega) _)

set_option maxRecDepth 100000 in
set_option maxHeartbeats 1000000 in
theorem dout_ok (n : Int) (w : World) :
    Calls Tryz.prog 81 #[.int .i64 n, .nilIface] w fun e w' => e = .returned (moneyV (n, 0)) ∧ Below w.heap.size w w' := by
  go_enter Tryz.func81, Tryz.ntmps81
  go_wp2_with fail
  refine (code_nil _).mono ?_
  rintro e w2 ⟨rfl, hb⟩
  obtain ⟨hc, hf⟩ := bcell hb
  have hz : w.heap.size < w2.heap.size := by have := hb.size; simp at this; omega
  go_wp2_with fail
  refine bodyPost_ret (v := moneyV (n, 0)) ?_ rfl ⟨rfl, ?_⟩
  · simp [results, Tryz.results81, go_sem, hc, moneyV]
  · have hbb : Below w.heap.size w w2 := ((Below.refl w.heap.size w).alloc (Nat.le_refl _) _).trans (hb.mono (by simp))
    repeat (first | exact hbb | refine Below.setCell ?_ (by exact Nat.le_refl _) _ | refine Below.alloc ?_ (by simp [World.setCell]; omega) _)
set_option maxRecDepth 100000 in
set_option maxHeartbeats 1000000 in
theorem dout_err (n c : Int) (hc : c ≠ 0) (w : World) (hL : Lay w) :
    Calls Tryz.prog 81 #[.int .i64 n, errV c] w fun e w' => e = .returned (moneyV (0, c)) ∧ Below w.heap.size w w' := by
  have tc : (c != 0) = true := by rw [bne_iff_ne]; exact hc
  have H : Hid (∀ w, Lay w → Calls Tryz.prog 33 #[errV c] w fun e w' => e = .returned (.int .i64 c) ∧ Below w.heap.size w w') := fun w h => code_err c w h
  have HL : Hid (Lay w) := hL
  generalize errV c = E at *
  clear hc hL
  go_enter Tryz.func81, Tryz.ntmps81
  go_wp2_with fail
  refine (H.out _ (by exact HL.out.below ((Below.refl _ _).alloc (Nat.le_refl _) _))).mono ?_
  rintro e w2 ⟨rfl, hb⟩
  obtain ⟨hc, hf⟩ := bcell hb
  have hz : w.heap.size < w2.heap.size := by have := hb.size; simp at this; omega
  go_wp2_with fail
  refine bodyPost_ret (v := moneyV (0, c)) ?_ rfl ⟨rfl, ?_⟩
  · simp [results, Tryz.results81, go_sem, hc, moneyV]
  · have hbb : Below w.heap.size w w2 := ((Below.refl w.heap.size w).alloc (Nat.le_refl _) _).trans (hb.mono (by simp))
    repeat (first | exact hbb | refine Below.setCell ?_ (by exact Nat.le_refl _) _ | refine Below.alloc ?_ (by simp [World.setCell]; omega) _)

end Go.Proofs.YtnefcldjigndgaaGreatDoor
