/- What operators come to: what the calls answer. -/
import Derived.Test.YtnkklkbokpeanaaDoorTimesLaw
namespace Go.Proofs.YtnkklkbokpeanaaDoor
open Go.RowKit

def oneI (c : Bool) : Int × Int := (if c then 1 else 0, 0)
def opW (s : ByteArray) (a b : Int) : Int × Int :=
  if (rightB a && rightB b) = false then (0, 1) else
  if (s.toList == [43]) = true then outB (a + b) else
  if (s.toList == [45]) = true then outB (a - b) else
  if (s.toList == [42]) = true then timesB a b else
  if (s.toList == [60]) = true then oneI (decide (a < b)) else
  if (s.toList == [60, 61]) = true then oneI (decide (a ≤ b)) else
  if (s.toList == [61]) = true then oneI (a == b) else
  if (s.toList == [97, 110, 100]) = true then oneI (a == 1 && b == 1) else
  if (s.toList == [111, 114]) = true then oneI (a == 1 || b == 1) else
  (0, 6)
def opV (s : ByteArray) (a b : Int) : Int × Int := if 20000 < s.size then (0, 2) else opW s a b
theorem opW_no {s : ByteArray} {a b : Int} (h : (rightB a && rightB b) = false) : opW s a b = (0, 1) := by unfold opW; rw [if_pos h]
theorem oneI_zero (c : Bool) : (oneI c).2 ≠ 0 → (oneI c).1 = 0 := by simp [oneI]
theorem opW_zero (s : ByteArray) (a b : Int) : (opW s a b).2 ≠ 0 → (opW s a b).1 = 0 := by
  unfold opW
  repeat' split
  all_goals first | exact outB_zero _ | exact timesB_zero _ _ | exact oneI_zero _ | simp
theorem opW_plus {s : ByteArray} {a b : Int} (ha : rightB a = true) (hb : rightB b = true) (h0 : (s.toList == [43]) = true) : opW s a b = outB (a + b) := by unfold opW; rw [if_neg (by rw [ha, hb]; decide), if_pos h0]
theorem opW_minus {s : ByteArray} {a b : Int} (ha : rightB a = true) (hb : rightB b = true) (h0 : (s.toList == [43]) = false) (h1 : (s.toList == [45]) = true) : opW s a b = outB (a - b) := by unfold opW; rw [if_neg (by rw [ha, hb]; decide), if_neg (by rw [h0]; decide), if_pos h1]
theorem opW_times {s : ByteArray} {a b : Int} (ha : rightB a = true) (hb : rightB b = true) (h0 : (s.toList == [43]) = false) (h1 : (s.toList == [45]) = false) (h2 : (s.toList == [42]) = true) : opW s a b = timesB a b := by unfold opW; rw [if_neg (by rw [ha, hb]; decide), if_neg (by rw [h0]; decide), if_neg (by rw [h1]; decide), if_pos h2]
theorem opW_less {s : ByteArray} {a b : Int} (ha : rightB a = true) (hb : rightB b = true) (h0 : (s.toList == [43]) = false) (h1 : (s.toList == [45]) = false) (h2 : (s.toList == [42]) = false) (h3 : (s.toList == [60]) = true) : opW s a b = oneI (decide (a < b)) := by unfold opW; rw [if_neg (by rw [ha, hb]; decide), if_neg (by rw [h0]; decide), if_neg (by rw [h1]; decide), if_neg (by rw [h2]; decide), if_pos h3]
theorem opW_leq {s : ByteArray} {a b : Int} (ha : rightB a = true) (hb : rightB b = true) (h0 : (s.toList == [43]) = false) (h1 : (s.toList == [45]) = false) (h2 : (s.toList == [42]) = false) (h3 : (s.toList == [60]) = false) (h4 : (s.toList == [60, 61]) = true) : opW s a b = oneI (decide (a ≤ b)) := by unfold opW; rw [if_neg (by rw [ha, hb]; decide), if_neg (by rw [h0]; decide), if_neg (by rw [h1]; decide), if_neg (by rw [h2]; decide), if_neg (by rw [h3]; decide), if_pos h4]
theorem opW_same {s : ByteArray} {a b : Int} (ha : rightB a = true) (hb : rightB b = true) (h0 : (s.toList == [43]) = false) (h1 : (s.toList == [45]) = false) (h2 : (s.toList == [42]) = false) (h3 : (s.toList == [60]) = false) (h4 : (s.toList == [60, 61]) = false) (h5 : (s.toList == [61]) = true) : opW s a b = oneI (a == b) := by unfold opW; rw [if_neg (by rw [ha, hb]; decide), if_neg (by rw [h0]; decide), if_neg (by rw [h1]; decide), if_neg (by rw [h2]; decide), if_neg (by rw [h3]; decide), if_neg (by rw [h4]; decide), if_pos h5]
theorem opW_and {s : ByteArray} {a b : Int} (ha : rightB a = true) (hb : rightB b = true) (h0 : (s.toList == [43]) = false) (h1 : (s.toList == [45]) = false) (h2 : (s.toList == [42]) = false) (h3 : (s.toList == [60]) = false) (h4 : (s.toList == [60, 61]) = false) (h5 : (s.toList == [61]) = false) (h6 : (s.toList == [97, 110, 100]) = true) : opW s a b = oneI (a == 1 && b == 1) := by unfold opW; rw [if_neg (by rw [ha, hb]; decide), if_neg (by rw [h0]; decide), if_neg (by rw [h1]; decide), if_neg (by rw [h2]; decide), if_neg (by rw [h3]; decide), if_neg (by rw [h4]; decide), if_neg (by rw [h5]; decide), if_pos h6]
theorem opW_or {s : ByteArray} {a b : Int} (ha : rightB a = true) (hb : rightB b = true) (h0 : (s.toList == [43]) = false) (h1 : (s.toList == [45]) = false) (h2 : (s.toList == [42]) = false) (h3 : (s.toList == [60]) = false) (h4 : (s.toList == [60, 61]) = false) (h5 : (s.toList == [61]) = false) (h6 : (s.toList == [97, 110, 100]) = false) (h7 : (s.toList == [111, 114]) = true) : opW s a b = oneI (a == 1 || b == 1) := by unfold opW; rw [if_neg (by rw [ha, hb]; decide), if_neg (by rw [h0]; decide), if_neg (by rw [h1]; decide), if_neg (by rw [h2]; decide), if_neg (by rw [h3]; decide), if_neg (by rw [h4]; decide), if_neg (by rw [h5]; decide), if_neg (by rw [h6]; decide), if_pos h7]
theorem opW_none {s : ByteArray} {a b : Int} (ha : rightB a = true) (hb : rightB b = true) (h0 : (s.toList == [43]) = false) (h1 : (s.toList == [45]) = false) (h2 : (s.toList == [42]) = false) (h3 : (s.toList == [60]) = false) (h4 : (s.toList == [60, 61]) = false) (h5 : (s.toList == [61]) = false) (h6 : (s.toList == [97, 110, 100]) = false) (h7 : (s.toList == [111, 114]) = false) : opW s a b = (0, 6) := by unfold opW; rw [if_neg (by rw [ha, hb]; decide), if_neg (by rw [h0]; decide), if_neg (by rw [h1]; decide), if_neg (by rw [h2]; decide), if_neg (by rw [h3]; decide), if_neg (by rw [h4]; decide), if_neg (by rw [h5]; decide), if_neg (by rw [h6]; decide), if_neg (by rw [h7]; decide)]
set_option maxRecDepth 100000 in
set_option maxHeartbeats 8000000 in
theorem impl_one (v : Bool) (w : World) :
    Calls Tryd.prog 67 #[.bool v] w fun e w' => e = .returned (.int .i64 (oneI v).1) ∧ w' = w := by
  cases v <;> (go_enter Tryd.func67, Tryd.ntmps67; go_wp2_with fail; go_ret; exact ⟨rfl, rfl⟩)
set_option maxRecDepth 100000 in
set_option maxHeartbeats 8000000 in
theorem spec_one (v : Bool) (w : World) :
    Calls Tryd.prog 34 #[.bool v] w fun e w' => e = .returned (moneyV (oneI v)) ∧ Below w.heap.size w w' := by
  cases v <;> (go_enter Tryd.func34, Tryd.ntmps34; go_wp2_with fail)
  · refine bodyPost_ret (v := moneyV (0, 0)) ?_ rfl ⟨rfl, ?_⟩
    · simp [results, Tryd.results34, go_sem, moneyV]
    · repeat (first | exact Below.refl _ _ | refine Below.setCell ?_ (by exact Nat.le_refl _) _ | refine Below.alloc ?_ (by simp) _)
  · refine bodyPost_ret (v := moneyV (1, 0)) ?_ rfl ⟨rfl, ?_⟩
    · simp [results, Tryd.results34, go_sem, moneyV]
    · repeat (first | exact Below.refl _ _ | refine Below.setCell ?_ (by exact Nat.le_refl _) _ | refine Below.alloc ?_ (by simp) _)
end Go.Proofs.YtnkklkbokpeanaaDoor
