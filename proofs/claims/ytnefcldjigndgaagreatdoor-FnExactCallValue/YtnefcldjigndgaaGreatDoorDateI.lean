/- Dates, the program's side: dateRight, a calendar's day and date, DayOf, DateOf: what each call does. -/
import Derived.Test.YtnefcldjigndgaaGreatDoorDateS
namespace Go.Proofs.YtnefcldjigndgaaGreatDoor
open Go.RowKit

theorem Mon.drewN {w : World} (h : Mon w) (n : Nat) : Mon (w.drewN n) := h
theorem Cal.drewN {w : World} {b n : Nat} (h : Cal w b n) (k : Nat) : Cal (w.drewN k) b n := h
theorem grown_any {w w' : World} {row : Option Nat} (h : Below w.heap.size w w') : w.grownBy w' row := ⟨h.os, h.tape, h.output, h.size, fun k hk _ => h.block k hk⟩
theorem gThen {a b c : World} {row : Option Nat} (h : a.grownBy b row) (k : b.grownBy c row) : a.grownBy c row :=
  ⟨k.os.trans h.os, k.tape.trans h.tape, k.output.trans h.output, Nat.le_trans h.size k.size, fun i hi hne => (k.block i (Nat.lt_of_lt_of_le hi h.size) hne).trans (h.block i hi hne)⟩
theorem grown_below {w w' : World} {b : Nat} (h : w.grownBy w' (some b)) (hb : b ≤ w.heap.size) : Below b w w' := ⟨h.os, h.tape, h.output, h.size, fun k hk => h.block k (by omega) (by simp; omega)⟩


set_option maxRecDepth 100000 in
set_option maxHeartbeats 4000000 in
theorem impl_dateRight (y m d : Int) (w : World) (hM : Mon w) :
    Calls Tryz.prog 76 #[.agg #[.int .i64 y, .int .i64 m, .int .i64 d]] w fun e w' => e = .returned (.bool (dateRB y m d)) ∧ Below w.heap.size w w' := by
  have HM : Hid (Mon w) := hM
  clear hM

  by_cases c0 : y < 2000
  · have t0 : decide (y < 2000) = true := by simpa using c0
    have HR : Hid (dateRB y m d = false) := by simp [Hid, dateRB]; omega
    go_enter Tryz.func76, Tryz.ntmps76
    go_wp2_with fail
    go_ret
    exact ⟨by rw [HR.out]; rfl, (Below.refl _ _).alloc (Nat.le_refl _) _⟩
  have t0 : decide (y < 2000) = false := by simpa using c0
  by_cases c1 : 2099 < y
  · have t1 : decide (2099 < y) = true := by simpa using c1
    have HR : Hid (dateRB y m d = false) := by simp [Hid, dateRB]; omega
    go_enter Tryz.func76, Tryz.ntmps76
    go_wp2_with fail
    go_ret
    exact ⟨by rw [HR.out]; rfl, (Below.refl _ _).alloc (Nat.le_refl _) _⟩
  have t1 : decide (2099 < y) = false := by simpa using c1
  by_cases c2 : m < 1
  · have t2 : decide (m < 1) = true := by simpa using c2
    have HR : Hid (dateRB y m d = false) := by simp [Hid, dateRB]; omega
    go_enter Tryz.func76, Tryz.ntmps76
    go_wp2_with fail
    go_ret
    exact ⟨by rw [HR.out]; rfl, (Below.refl _ _).alloc (Nat.le_refl _) _⟩
  have t2 : decide (m < 1) = false := by simpa using c2
  by_cases c3 : 12 < m
  · have t3 : decide (12 < m) = true := by simpa using c3
    have HR : Hid (dateRB y m d = false) := by simp [Hid, dateRB]; omega
    go_enter Tryz.func76, Tryz.ntmps76
    go_wp2_with fail
    go_ret
    exact ⟨by rw [HR.out]; rfl, (Below.refl _ _).alloc (Nat.le_refl _) _⟩
  have t3 : decide (12 < m) = false := by simpa using c3
  by_cases c4 : 1 ≤ d
  · have t4 : decide (1 ≤ d) = true := by simpa using c4
    have H1 : Hid (∀ w, Mon w → Calls Tryz.prog 57 #[.int .i64 y, .int .i64 m] w fun e w' => e = .returned (.int .i64 (lenI y m)) ∧ w' = w) := fun w h => impl_monthDays y m (by omega) (by omega) (by omega) w h
    have HR : Hid (dateRB y m d = decide (d ≤ lenI y m)) := by
      rw [Hid, dateRB]
      simp only [show decide (2000 ≤ y) = true by simp; omega, show decide (y ≤ 2099) = true by simp; omega, show decide (1 ≤ m) = true by simp; omega, show decide (m ≤ 12) = true by simp; omega, t4, Bool.true_and]
    generalize lenI y m = L at *
    clear c0 c1 c2 c3 c4
    go_enter Tryz.func76, Tryz.ntmps76
    go_wp2_with fail
    go_quiet (first | (go_at_call 57; refine Calls.quiet_of_same (H1.out _ (by exact (HM.out.alloc _).drewN _))))
    go_wp2_with fail
    go_ret
    exact ⟨by rw [HR.out]; rfl, below_drewN ((Below.refl _ _).alloc (Nat.le_refl _) _) _⟩
  · have t4 : decide (1 ≤ d) = false := by simpa using c4
    have HR : Hid (dateRB y m d = false) := by simp [Hid, dateRB]; omega
    clear c0 c1 c2 c3 c4
    go_enter Tryz.func76, Tryz.ntmps76
    go_wp2_with fail
    go_quiet (fail)
    go_wp2_with fail
    go_ret
    exact ⟨by rw [HR.out]; rfl, below_drewN ((Below.refl _ _).alloc (Nat.le_refl _) _) _⟩

end Go.Proofs.YtnefcldjigndgaaGreatDoor
