/- What a call of chapter 4 stands on: how long a month is (the program's array and the model's switch), what is a day and a Date, and the first days of years, kept in a map for the length of one call: what each call does. -/
import Derived.Test.YtnefcldjigndgaaDoorDayMath
import Derived.Maps.OwnSet
namespace Go.Proofs.YtnefcldjigndgaaDoor
open Go.RowKit Go.Maps

theorem tmod_pos {y k : Int} (h : 0 ≤ y) : y.tmod k = y % k := Int.tmod_eq_emod_of_nonneg h
theorem tdiv_pos {y k : Int} (h : 0 ≤ y) : y.tdiv k = y / k := Int.tdiv_eq_ediv_of_nonneg h

theorem impl_dayRight (day : Int) (w : World) :
    Calls Tryd.prog 79 #[.int .i64 day] w fun e w' => e = .returned (.bool (dayRB day)) ∧ w' = w := by
  by_cases h0 : 0 ≤ day
  · have t0 : decide (0 ≤ day) = true := by simpa using h0
    by_cases h1 : day ≤ 36524
    · have t1 : decide (day ≤ 36524) = true := by simpa using h1
      have HR : Hid (dayRB day = true) := by simp [Hid, dayRB, h0, h1]
      go_enter Tryd.func79, Tryd.ntmps79
      go_wp2
      go_ret
      exact ⟨by rw [HR.out]; rfl, rfl⟩
    · have t1 : decide (day ≤ 36524) = false := by simpa using h1
      have HR : Hid (dayRB day = false) := by simp [Hid, dayRB, t1]
      go_enter Tryd.func79, Tryd.ntmps79
      go_wp2
      go_ret
      exact ⟨by rw [HR.out]; rfl, rfl⟩
  · have t0 : decide (0 ≤ day) = false := by simpa using h0
    have HR : Hid (dayRB day = false) := by simp [Hid, dayRB, t0]
    go_enter Tryd.func79, Tryd.ntmps79
    go_wp2
    go_ret
    exact ⟨by rw [HR.out]; rfl, rfl⟩
theorem spec_dayRight (day : Int) (w : World) :
    Calls Tryd.prog 62 #[.int .i64 day] w fun e w' => e = .returned (.bool (dayRB day)) ∧ w' = w := by
  by_cases h0 : 0 ≤ day
  · have t0 : decide (0 ≤ day) = true := by simpa using h0
    by_cases h1 : day ≤ 36524
    · have t1 : decide (day ≤ 36524) = true := by simpa using h1
      have HR : Hid (dayRB day = true) := by simp [Hid, dayRB, h0, h1]
      go_enter Tryd.func62, Tryd.ntmps62
      go_wp2
      go_ret
      exact ⟨by rw [HR.out]; rfl, rfl⟩
    · have t1 : decide (day ≤ 36524) = false := by simpa using h1
      have HR : Hid (dayRB day = false) := by simp [Hid, dayRB, t1]
      go_enter Tryd.func62, Tryd.ntmps62
      go_wp2
      go_ret
      exact ⟨by rw [HR.out]; rfl, rfl⟩
  · have t0 : decide (0 ≤ day) = false := by simpa using h0
    have HR : Hid (dayRB day = false) := by simp [Hid, dayRB, t0]
    go_enter Tryd.func62, Tryd.ntmps62
    go_wp2
    go_ret
    exact ⟨by rw [HR.out]; rfl, rfl⟩

end Go.Proofs.YtnefcldjigndgaaDoor
