/- What is taken and what is put, in one sum of complex numbers (impl.count, impl.settled): what each call does. -/
import Derived.Test.YtpabdapaegllnaaDoorRec
import Derived.Test.YtpabdapaegllnaaDoorFlo
import Derived.BigQuiet
import Derived.Deep.QuietTactic
import Derived.Deep.DeepCutAuto
import Derived.Deep.CutRange
namespace Go.Proofs.YtpabdapaegllnaaDoor
open Go.RowKit
open Go.Proofs.YtpabdapaegllnaaDoor.Draw

/-- What is counted: taken, put. -/
def takeI (r : Nat) (x : Int) : Nat := if x < 0 then r + x.natAbs else r
def putI (i : Nat) (x : Int) : Nat := if x < 0 then i else i + x.natAbs
theorem sum_run (r i r' i' : Nat) (h : r + r' < 2 ^ 53) (h' : i + i' < 2 ^ 53) (t : TypeId) (w : World) : (binOp .add t (.complex .f64 (fl r) (fl i)) (.complex .f64 (fl r') (fl i'))).run Tryd.prog w = .ok (.complex .f64 (fl (r + r')) (fl (i + i'))) w := by
  refine run_complex_sum w .add (Or.inl rfl) t .f64 _ _ _ _ _ _ ?_
  unfold cSumBits
  rw [fl_add h, fl_add h']
  rfl
theorem store_cx (a : Addr) (x y : Nat) (old : Value) (w : World) (hc : w.cell? a = some old) (hf : w.frozen? a = false) : (store a (.complex .f64 x y)).run Tryd.prog w = .ok () (w.setCell a (.complex .f64 x y)) := by
  rw [run_store Tryd.prog w a _ _ (by rfl)]
  simp [hc, hf]
set_option maxRecDepth 100000 in
set_option maxHeartbeats 4000000 in
theorem impl_count (B : Nat) (r i : Nat) (x : Int) (hx0 : -1000000000000 ≤ x) (hx1 : x ≤ 1000000000000) (hr : r ≤ 1000000000000000) (hi : i ≤ 1000000000000000) (w : World) (hc : w.cell? ⟨B, 3, none⟩ = some (.complex .f64 (fl r) (fl i))) (hf : w.frozen? ⟨B, 3, none⟩ = false) :
    Calls Tryd.prog 69 #[.pointer (some ⟨B, 0, none⟩), .int .i64 x] w fun e w' => e = .returned (.tuple #[]) ∧ w' = w.setCell ⟨B, 3, none⟩ (.complex .f64 (fl (takeI r x)) (fl (putI i x))) := by
  have hst := fun x y => store_cx ⟨B, 3, none⟩ x y _ w hc hf
  by_cases hx : x < 0
  · have q0 : decide (x < 0) = true := by simpa using hx
    obtain ⟨n, hn⟩ : ∃ n : Nat, -x = (n : Int) := ⟨x.natAbs, by omega⟩
    have hn2 : x.natAbs = n := by omega
    have hs := fun t w => sum_run r i n 0 (by omega) (by omega) t w
    have hnr : floatOfInt .f64 (n : Int) = fl n := near_fl n
    have HE : Hid (takeI r x = r + n ∧ putI i x = i) := by simp [Hid, takeI, putI, hx, hn2]
    rw [fl_zero, Nat.add_zero] at hs
    clear hn2
    go_enter Tryd.func69, Tryd.ntmps69
    go_wp2_with fail
    refine bodyPost_end (v := .tuple #[]) ?_ rfl ⟨rfl, ?_⟩
    · simp [results, Tryd.results69]
    · rw [HE.out.1, HE.out.2]
  · have q0 : decide (x < 0) = false := by simpa using hx
    obtain ⟨n, rfl⟩ : ∃ n : Nat, x = (n : Int) := ⟨x.natAbs, by omega⟩
    have hs := fun t w => sum_run r i 0 n (by omega) (by omega) t w
    have hnr : floatOfInt .f64 (n : Int) = fl n := near_fl n
    have HE : Hid (takeI r (n : Int) = r ∧ putI i (n : Int) = i + n) := by
      have : ¬ ((n : Int) < 0) := by omega
      simp [Hid, takeI, putI, this]
    rw [fl_zero, Nat.add_zero] at hs
    go_enter Tryd.func69, Tryd.ntmps69
    go_wp2_with fail
    refine bodyPost_end (v := .tuple #[]) ?_ rfl ⟨rfl, ?_⟩
    · simp [results, Tryd.results69]
    · rw [HE.out.1, HE.out.2]
set_option maxRecDepth 100000 in
set_option maxHeartbeats 4000000 in
theorem impl_settled (B : Nat) (r i : Nat) (hr : r ≤ 1000000000000000) (hi : i ≤ 1000000000000000) (w : World) (hc : w.cell? ⟨B, 3, none⟩ = some (.complex .f64 (fl r) (fl i))) :
    Calls Tryd.prog 70 #[.pointer (some ⟨B, 0, none⟩)] w fun e w' => e = .returned (if r = i then .nilIface else .iface 106 (.agg #[.int .i64 1])) ∧ ∃ d, w' = w.drewN d := by
  have hq := fl_neq (a := r) (b := i) (by omega) (by omega)
  by_cases h : r = i
  · have HE : Hid ((if r = i then Value.nilIface else .iface 106 (.agg #[.int .i64 1])) = .nilIface) := if_pos h
    have t0 : (FloatKind.f64.format.order (fl r) (fl i) != some .eq) = false := by rw [show FloatKind.f64.format = Ieee.double from rfl, hq]; simpa using h
    rw [HE.out]
    clear h hq
    go_enter Tryd.func70, Tryd.ntmps70
    go_upto_region 1 with fail
    go_quiet (fail)
    go_wp2_with fail
    go_ret
    exact ⟨rfl, ⟨_, rfl⟩⟩
  · have HE : Hid ((if r = i then Value.nilIface else .iface 106 (.agg #[.int .i64 1])) = .iface 106 (.agg #[.int .i64 1])) := if_neg h
    have t0 : (FloatKind.f64.format.order (fl r) (fl i) != some .eq) = true := by rw [show FloatKind.f64.format = Ieee.double from rfl, hq]; simpa using h
    rw [HE.out]
    clear h hq
    go_enter Tryd.func70, Tryd.ntmps70
    go_upto_region 1 with fail
    go_quiet (fail)
    go_wp2_with fail
    go_ret
    exact ⟨rfl, ⟨_, rfl⟩⟩
end Go.Proofs.YtpabdapaegllnaaDoor
