/- Sums of money (spec.MoneyAdd, impl.MoneyAdd): what each call does, and the law that holds one against the other. -/
import Derived.Test.YtnefcldjigndgaaGreatDoorCash
namespace Go.Proofs.YtnefcldjigndgaaGreatDoor
open Go.RowKit

def outB (n : Int) : Int × Int := if rightB n then (n, 0) else (0, 13)
def addB (a b : Int) : Int × Int := if rightB a && rightB b then outB (a + b) else (0, 1)
def errOf (c : Int) : Value := if c = 0 then .nilIface else errV c
def tupV (r : Int × Int) : Value := .tuple #[.int .i64 r.1, errOf r.2]
theorem tupV_ok (n : Int) : tupV (n, 0) = .tuple #[.int .i64 n, .nilIface] := rfl
theorem tupV_err (n c : Int) (h : c ≠ 0) : tupV (n, c) = .tuple #[.int .i64 n, .iface 60 (.agg #[.int .i64 c])] := by simp [tupV, errOf, h, errV]

set_option maxHeartbeats 400000 in
theorem impl_in (n : Int) (w : World) :
    Calls Tryz.prog 68 #[.int .i64 n] w fun e w' => e = .returned (tupV (outB n)) ∧ w' = w := by
  cases h : rightB n
  · have HR : Hid (outB n = (0, 13)) := by simp [Hid, outB, h]
    have H : Hid (rightB n = false) := h
    clear h
    go_enter Tryz.func68, Tryz.ntmps68
    go_wp2_with fail
    refine (impl_right _ _).mono ?_
    rintro e w1 ⟨rfl, rfl⟩
    rw [H.out]
    go_wp2_with fail
    go_ret2
    refine ⟨?_, rfl⟩
    rw [HR.out, tupV_err _ _ (by decide)]; rfl
  · have HR : Hid (outB n = (n, 0)) := by simp [Hid, outB, h]
    have H : Hid (rightB n = true) := h
    clear h
    go_enter Tryz.func68, Tryz.ntmps68
    go_wp2_with fail
    refine (impl_right _ _).mono ?_
    rintro e w1 ⟨rfl, rfl⟩
    rw [H.out]
    go_wp2_with fail
    go_ret2
    refine ⟨?_, rfl⟩
    rw [HR.out, tupV_ok]; rfl

set_option maxHeartbeats 400000 in
/-- moneyOut of a pair of a number and an error, as the inner functions hand it. -/
theorem out_any (r : Int × Int) (hr : r.2 ≠ 0 → r.1 = 0) (w : World) (hL : Lay w) :
    Calls Tryz.prog 20 #[.int .i64 r.1, errOf r.2] w fun e w' => e = .returned (moneyV r) ∧ Below w.heap.size w w' := by
  obtain ⟨n, c⟩ := r
  by_cases h : c = 0
  · subst h
    exact out_ok n w
  · have hn : n = 0 := hr h
    subst hn
    have e : errOf c = errV c := by simp [errOf, h]
    simp only [e]
    exact out_err 0 c h w hL

set_option maxHeartbeats 400000 in
/-- dayOut of a pair of a number and an error, as the inner functions hand it. -/
theorem dout_any (r : Int × Int) (hr : r.2 ≠ 0 → r.1 = 0) (w : World) (hL : Lay w) :
    Calls Tryz.prog 81 #[.int .i64 r.1, errOf r.2] w fun e w' => e = .returned (moneyV r) ∧ Below w.heap.size w w' := by
  obtain ⟨n, c⟩ := r
  by_cases h : c = 0
  · subst h
    exact dout_ok n w
  · have hn : n = 0 := hr h
    subst hn
    have e : errOf c = errV c := by simp [errOf, h]
    simp only [e]
    exact dout_err 0 c h w hL


theorem outB_zero (n : Int) : (outB n).2 ≠ 0 → (outB n).1 = 0 := by unfold outB; split <;> simp
theorem addB_zero (a b : Int) : (addB a b).2 ≠ 0 → (addB a b).1 = 0 := by
  unfold addB
  split
  · exact outB_zero _
  · simp


set_option maxRecDepth 100000 in
set_option maxHeartbeats 400000 in
theorem spec_out (n : Int) (w : World) :
    Calls Tryz.prog 32 #[.int .i64 n] w fun e w' => e = .returned (moneyV (outB n)) ∧ Below w.heap.size w w' := by
  cases h : rightB n
  · have HR : Hid (outB n = (0, 13)) := by simp [Hid, outB, h]
    have H : Hid (rightB n = false) := h
    clear h
    go_enter Tryz.func32, Tryz.ntmps32
    go_wp2_with fail
    refine (spec_right _ _).mono ?_
    rintro e w1 ⟨rfl, rfl⟩
    rw [H.out]
    go_wp2_with fail
    refine bodyPost_ret (v := moneyV (outB n)) ?_ rfl ⟨rfl, ?_⟩
    · rw [HR.out]
      simp [results, Tryz.results32, go_sem, moneyV]
    · repeat (first | exact Below.refl _ _ | refine Below.setCell ?_ (by exact Nat.le_refl _) _ | refine Below.alloc ?_ (by simp) _)
  · have HR : Hid (outB n = (n, 0)) := by simp [Hid, outB, h]
    have H : Hid (rightB n = true) := h
    clear h
    go_enter Tryz.func32, Tryz.ntmps32
    go_wp2_with fail
    refine (spec_right _ _).mono ?_
    rintro e w1 ⟨rfl, rfl⟩
    rw [H.out]
    go_wp2_with fail
    refine bodyPost_ret (v := moneyV (outB n)) ?_ rfl ⟨rfl, ?_⟩
    · rw [HR.out]
      simp [results, Tryz.results32, go_sem, moneyV]
    · repeat (first | exact Below.refl _ _ | refine Below.setCell ?_ (by exact Nat.le_refl _) _ | refine Below.alloc ?_ (by simp) _)


set_option maxRecDepth 100000 in
set_option maxHeartbeats 4000000 in
/-- eqMoneyOut of an outcome and itself. -/
theorem eq_money (n c : Int) (w : World) :
    Calls Tryz.prog 7 #[.agg #[.int .i64 n, .int .i64 c], .agg #[.int .i64 n, .int .i64 c]] w fun e w' => e = .returned (.bool true) ∧ Below w.heap.size w w' := by
  go_enter Tryz.func7, Tryz.ntmps7
  go_wp2
  go_ret
  exact ⟨rfl, ((Below.refl _ _).alloc (Nat.le_refl _) _).alloc (by simp) _⟩

theorem i64_bounds {n : Int} (hn : (Lit.int .i64 n).wf = true) : -9223372036854775808 ≤ n ∧ n ≤ 9223372036854775807 := by simpa [Lit.wf, IntKind.min, IntKind.max, IntKind.signed, IntKind.bits] using hn

end Go.Proofs.YtnefcldjigndgaaGreatDoor
