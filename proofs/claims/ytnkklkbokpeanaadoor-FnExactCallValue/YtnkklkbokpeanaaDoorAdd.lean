/- Sums of money (spec.MoneyAdd, impl.MoneyAdd): what each call does, and the law that holds one against the other. -/
import Derived.Test.YtnkklkbokpeanaaDoorCash
namespace Go.Proofs.YtnkklkbokpeanaaDoor
open Go.RowKit

def outB (n : Int) : Int × Int := if rightB n then (n, 0) else (0, 13)
def addB (a b : Int) : Int × Int := if rightB a && rightB b then outB (a + b) else (0, 1)
def errOf (c : Int) : Value := if c = 0 then .nilIface else errV c
def tupV (r : Int × Int) : Value := .tuple #[.int .i64 r.1, errOf r.2]
theorem tupV_ok (n : Int) : tupV (n, 0) = .tuple #[.int .i64 n, .nilIface] := rfl
theorem tupV_err (n c : Int) (h : c ≠ 0) : tupV (n, c) = .tuple #[.int .i64 n, .iface 103 (.agg #[.int .i64 c])] := by simp [tupV, errOf, h, errV]

set_option maxHeartbeats 400000 in
theorem impl_in (n : Int) (w : World) :
    Calls Tryd.prog 103 #[.int .i64 n] w fun e w' => e = .returned (tupV (outB n)) ∧ w' = w := by
  cases h : rightB n
  · have HR : Hid (outB n = (0, 13)) := by simp [Hid, outB, h]
    have H : Hid (rightB n = false) := h
    clear h
    go_enter Tryd.func103, Tryd.ntmps103
    go_wp2_with fail
    refine (impl_right _ _).mono ?_
    rintro e w1 ⟨rfl, rfl⟩
    rw [H.out]
    go_wp2_with fail
    go_ret2
    refine ⟨?_, rfl⟩
    rw [HR.out, tupV_err _ _ (by decide)]; rfl
  · have HR : Hid (outB n = (n, 0)) := by simp [Hid, outB, h]
    have H : Hid (rightB n = true) := h
    clear h
    go_enter Tryd.func103, Tryd.ntmps103
    go_wp2_with fail
    refine (impl_right _ _).mono ?_
    rintro e w1 ⟨rfl, rfl⟩
    rw [H.out]
    go_wp2_with fail
    go_ret2
    refine ⟨?_, rfl⟩
    rw [HR.out, tupV_ok]; rfl

set_option maxHeartbeats 400000 in
/-- moneyOut of a pair of a number and an error, as the inner functions hand it. -/
theorem out_any (r : Int × Int) (hr : r.2 ≠ 0 → r.1 = 0) (w : World) (hL : Lay w) :
    Calls Tryd.prog 30 #[.int .i64 r.1, errOf r.2] w fun e w' => e = .returned (moneyV r) ∧ Below w.heap.size w w' := by
  obtain ⟨n, c⟩ := r
  by_cases h : c = 0
  · subst h
    exact out_ok n w
  · have hn : n = 0 := hr h
    subst hn
    have e : errOf c = errV c := by simp [errOf, h]
    simp only [e]
    exact out_err 0 c h w hL

set_option maxHeartbeats 400000 in
/-- dayOut of a pair of a number and an error, as the inner functions hand it. -/
theorem dout_any (r : Int × Int) (hr : r.2 ≠ 0 → r.1 = 0) (w : World) (hL : Lay w) :
    Calls Tryd.prog 168 #[.int .i64 r.1, errOf r.2] w fun e w' => e = .returned (moneyV r) ∧ Below w.heap.size w w' := by
  obtain ⟨n, c⟩ := r
  by_cases h : c = 0
  · subst h
    exact dout_ok n w
  · have hn : n = 0 := hr h
    subst hn
    have e : errOf c = errV c := by simp [errOf, h]
    simp only [e]
    exact dout_err 0 c h w hL

set_option maxHeartbeats 400000 in
theorem impl_addM (a b : Int) (w : World) :
    Calls Tryd.prog 65 #[.int .i64 a, .int .i64 b] w fun e w' => e = .returned (tupV (addB a b)) ∧ w' = w := by
  cases ha : rightB a
  · have HR : Hid (addB a b = (0, 1)) := by simp [Hid, addB, ha]
    have H : Hid (rightB a = false) := ha
    clear ha
    go_enter Tryd.func65, Tryd.ntmps65
    go_wp2_with fail
    refine (impl_right _ _).mono ?_
    rintro e w1 ⟨rfl, rfl⟩
    rw [H.out]
    go_wp2_with fail
    go_ret2
    refine ⟨?_, rfl⟩
    rw [HR.out, tupV_err _ _ (by decide)]; rfl
  · cases hb : rightB b
    · have HR : Hid (addB a b = (0, 1)) := by simp [Hid, addB, hb]
      have H : Hid (rightB a = true) := ha
      have H2 : Hid (rightB b = false) := hb
      clear ha hb
      go_enter Tryd.func65, Tryd.ntmps65
      go_wp2_with fail
      refine (impl_right _ _).mono ?_
      rintro e w1 ⟨rfl, rfl⟩
      rw [H.out]
      go_wp2_with fail
      refine (impl_right _ _).mono ?_
      rintro e w1 ⟨rfl, rfl⟩
      rw [H2.out]
      go_wp2_with fail
      go_ret2
      refine ⟨?_, rfl⟩
      rw [HR.out, tupV_err _ _ (by decide)]; rfl
    · have HR : Hid (addB a b = outB (a + b)) := by simp [Hid, addB, ha, hb]
      have ba := (rightB_iff a).1 ha
      have bb := (rightB_iff b).1 hb
      have H : Hid (rightB a = true) := ha
      have H2 : Hid (rightB b = true) := hb
      obtain ⟨a0, a1⟩ := ba
      obtain ⟨b0, b1⟩ := bb
      clear ha hb
      go_enter Tryd.func65, Tryd.ntmps65
      go_wp2_with fail
      refine (impl_right _ _).mono ?_
      rintro e w1 ⟨rfl, rfl⟩
      rw [H.out]
      go_wp2_with fail
      refine (impl_right _ _).mono ?_
      rintro e w1 ⟨rfl, rfl⟩
      rw [H2.out]
      go_wp2_with fail
      refine (impl_in _ _).mono ?_
      rintro e w1 ⟨rfl, rfl⟩
      simp only [tupV]
      go_wp2_with fail
      go_ret2
      refine ⟨?_, rfl⟩
      rw [HR.out]
      rfl

theorem outB_zero (n : Int) : (outB n).2 ≠ 0 → (outB n).1 = 0 := by unfold outB; split <;> simp
theorem addB_zero (a b : Int) : (addB a b).2 ≠ 0 → (addB a b).1 = 0 := by
  unfold addB
  split
  · exact outB_zero _
  · simp


set_option maxRecDepth 100000 in
set_option maxHeartbeats 400000 in
theorem spec_out (n : Int) (w : World) :
    Calls Tryd.prog 32 #[.int .i64 n] w fun e w' => e = .returned (moneyV (outB n)) ∧ Below w.heap.size w w' := by
  cases h : rightB n
  · have HR : Hid (outB n = (0, 13)) := by simp [Hid, outB, h]
    have H : Hid (rightB n = false) := h
    clear h
    go_enter Tryd.func32, Tryd.ntmps32
    go_wp2_with fail
    refine (spec_right _ _).mono ?_
    rintro e w1 ⟨rfl, rfl⟩
    rw [H.out]
    go_wp2_with fail
    refine bodyPost_ret (v := moneyV (outB n)) ?_ rfl ⟨rfl, ?_⟩
    · rw [HR.out]
      simp [results, Tryd.results32, go_sem, moneyV]
    · repeat (first | exact Below.refl _ _ | refine Below.setCell ?_ (by exact Nat.le_refl _) _ | refine Below.alloc ?_ (by simp) _)
  · have HR : Hid (outB n = (n, 0)) := by simp [Hid, outB, h]
    have H : Hid (rightB n = true) := h
    clear h
    go_enter Tryd.func32, Tryd.ntmps32
    go_wp2_with fail
    refine (spec_right _ _).mono ?_
    rintro e w1 ⟨rfl, rfl⟩
    rw [H.out]
    go_wp2_with fail
    refine bodyPost_ret (v := moneyV (outB n)) ?_ rfl ⟨rfl, ?_⟩
    · rw [HR.out]
      simp [results, Tryd.results32, go_sem, moneyV]
    · repeat (first | exact Below.refl _ _ | refine Below.setCell ?_ (by exact Nat.le_refl _) _ | refine Below.alloc ?_ (by simp) _)


set_option maxRecDepth 100000 in
set_option maxHeartbeats 4000000 in
/-- eqMoneyOut of an outcome and itself. -/
theorem eq_money (n c : Int) (w : World) :
    Calls Tryd.prog 23 #[.agg #[.int .i64 n, .int .i64 c], .agg #[.int .i64 n, .int .i64 c]] w fun e w' => e = .returned (.bool true) ∧ Below w.heap.size w w' := by
  go_enter Tryd.func23, Tryd.ntmps23
  go_wp2
  go_ret
  exact ⟨rfl, ((Below.refl _ _).alloc (Nat.le_refl _) _).alloc (by simp) _⟩

theorem i64_bounds {n : Int} (hn : (Lit.int .i64 n).wf = true) : -9223372036854775808 ≤ n ∧ n ≤ 9223372036854775807 := by simpa [Lit.wf, IntKind.min, IntKind.max, IntKind.signed, IntKind.bits] using hn

end Go.Proofs.YtnkklkbokpeanaaDoor
