/- Days without a program: how long a month is, how many days stand ahead of a year and of a month, the Date of a day (there is just one), and the answers of chapter 4's functions as plain functions of integers. -/
import Derived.Test.YtnefcldjigndgaaGreatDoorCash
import Derived.Test.YtnefcldjigndgaaGreatDoorAdd
namespace Go.Proofs.YtnefcldjigndgaaGreatDoor

/-- How many days a month has. -/
def lenI (y m : Int) : Int := if m = 2 then (if y % 4 = 0 then 29 else 28) else if m = 4 ∨ m = 6 ∨ m = 9 ∨ m = 11 then 30 else 31
/-- How many days stand ahead of a year. -/
def headI (y : Int) : Int := 365 * (y - 2000) + (y - 2000 + 3) / 4
/-- How many days of its year stand ahead of a month. -/
def cumN : Nat → Int
  | 0 => 0 | 1 => 0 | 2 => 31 | 3 => 59 | 4 => 90 | 5 => 120 | 6 => 151 | 7 => 181 | 8 => 212 | 9 => 243 | 10 => 273 | 11 => 304 | 12 => 334 | _ => 365
def cumI (y m : Int) : Int := cumN m.toNat + (if 2 < m ∧ y % 4 = 0 then 1 else 0)

theorem months {m : Int} (h0 : 1 ≤ m) (h1 : m ≤ 12) : m = 1 ∨ m = 2 ∨ m = 3 ∨ m = 4 ∨ m = 5 ∨ m = 6 ∨ m = 7 ∨ m = 8 ∨ m = 9 ∨ m = 10 ∨ m = 11 ∨ m = 12 := by omega

theorem cum_one (y : Int) : cumI y 1 = 0 := by simp [cumI, cumN]
theorem cum_step (y : Int) {m : Int} (h0 : 1 ≤ m) (h1 : m ≤ 12) : cumI y (m + 1) = cumI y m + lenI y m := by
  rcases months h0 h1 with rfl | rfl | rfl | rfl | rfl | rfl | rfl | rfl | rfl | rfl | rfl | rfl <;> by_cases h : y % 4 = 0 <;> simp [cumI, cumN, lenI, h]
theorem cum_end (y : Int) : cumI y 13 = 365 + (if y % 4 = 0 then 1 else 0) := by simp [cumI, cumN]
theorem len_ge (y m : Int) : 28 ≤ lenI y m := by unfold lenI; (repeat' split) <;> omega
theorem len_le (y m : Int) : lenI y m ≤ 31 := by unfold lenI; (repeat' split) <;> omega
theorem len_dec (y : Int) : lenI y 12 = 31 := by simp [lenI]
theorem len_jan (y : Int) : lenI y 1 = 31 := by simp [lenI]
theorem head_step {y : Int} (_h : 2000 ≤ y) : headI (y + 1) = headI y + cumI y 13 := by rw [cum_end]; unfold headI; split <;> omega
theorem head_mono {y z : Int} (hyz : y ≤ z) : headI y ≤ headI z := by unfold headI; omega
theorem cum_mono_nat (y : Int) (m : Int) (h0 : 1 ≤ m) : ∀ k : Nat, m + k ≤ 13 → cumI y m ≤ cumI y (m + k)
  | 0, _ => by simp
  | k + 1, h => by
    have := cum_mono_nat y m h0 k (by omega)
    have e : m + ((k + 1 : Nat) : Int) = (m + k) + 1 := by omega
    rw [e, cum_step y (by omega) (by omega)]
    have := len_ge y (m + k)
    omega
theorem cum_mono (y : Int) {m n : Int} (h0 : 1 ≤ m) (h : m ≤ n) (h1 : n ≤ 13) : cumI y m ≤ cumI y n := by
  have := cum_mono_nat y m h0 (n - m).toNat (by omega)
  rwa [show m + ((n - m).toNat : Int) = n by omega] at this
theorem cum_nonneg (y : Int) {m : Int} (h0 : 1 ≤ m) (h1 : m ≤ 13) : 0 ≤ cumI y m := by
  have := cum_mono y (m := 1) (n := m) (by omega) h0 h1
  rwa [cum_one] at this
theorem cum_le (y : Int) {m : Int} (h0 : 1 ≤ m) (h1 : m ≤ 13) : cumI y m ≤ 366 := by
  have := cum_mono y h0 h1 (by omega)
  rw [cum_end] at this
  split at this <;> omega

/-- (y, m, d) is the Date of the day. -/
structure IsDate (day y m d : Int) : Prop where
  y0 : 2000 ≤ y
  y1 : y ≤ 2099
  m0 : 1 ≤ m
  m1 : m ≤ 12
  d0 : 1 ≤ d
  d1 : d ≤ lenI y m
  eq : day = headI y + cumI y m + d - 1

theorem IsDate.head {day y m d : Int} (h : IsDate day y m d) : headI y ≤ day ∧ day < headI (y + 1) := by
  obtain ⟨y0, y1, m0, m1, d0, d1, e⟩ := h
  have := cum_nonneg y (m := m) m0 (by omega)
  have h2 := cum_mono y (m := m + 1) (n := 13) (by omega) (by omega) (by omega)
  rw [cum_step y m0 m1] at h2
  rw [head_step y0]
  omega
theorem IsDate.range {day y m d : Int} (h : IsDate day y m d) : 0 ≤ day ∧ day ≤ 36524 := by
  have h1 := h.head
  have h2 := head_mono h.y0
  have h3 := head_mono (show y + 1 ≤ 2100 by have := h.y1; omega)
  have e1 : headI 2000 = 0 := by decide
  have e2 : headI 2100 = 36525 := by decide
  omega
theorem IsDate.uniq {day y m d y' m' d' : Int} (h : IsDate day y m d) (k : IsDate day y' m' d') : y = y' ∧ m = m' ∧ d = d' := by
  have h1 := h.head
  have k1 := k.head
  have ey : y = y' := by
    rcases Int.lt_trichotomy y y' with hl | hl | hl
    · have := head_mono (show y + 1 ≤ y' by omega); omega
    · exact hl
    · have := head_mono (show y' + 1 ≤ y by omega); omega
  subst ey
  obtain ⟨y0, y1, m0, m1, d0, d1, e⟩ := h
  obtain ⟨_, _, n0, n1, c0, c1, e'⟩ := k
  have em : m = m' := by
    rcases Int.lt_trichotomy m m' with hl | hl | hl
    · have := cum_mono y (m := m + 1) (n := m') (by omega) (by omega) (by omega)
      rw [cum_step y m0 m1] at this; omega
    · exact hl
    · have := cum_mono y (m := m' + 1) (n := m) (by omega) (by omega) (by omega)
      rw [cum_step y n0 n1] at this; omega
  subst em
  exact ⟨rfl, rfl, by omega⟩

def yB (day : Int) : Int := if headI (2000 + day / 366 + 1) ≤ day then 2000 + day / 366 + 1 else 2000 + day / 366
def mN (y r : Int) : Nat → Int
  | 0 => 1
  | k + 1 => if cumI y ((k : Int) + 2) ≤ r then (k : Int) + 2 else mN y r k
def mB (y r : Int) : Int := mN y r 11
/-- The Date of a day. -/
def dateB (day : Int) : Int × Int × Int :=
  (yB day, mB (yB day) (day - headI (yB day)), day - headI (yB day) - cumI (yB day) (mB (yB day) (day - headI (yB day))) + 1)

theorem yB_is {day : Int} (h0 : 0 ≤ day) (h1 : day ≤ 36524) : 2000 ≤ yB day ∧ yB day ≤ 2099 ∧ headI (yB day) ≤ day ∧ day < headI (yB day + 1) := by
  unfold yB
  split
  · rename_i h; unfold headI at *; omega
  · rename_i h; unfold headI at *; omega
theorem mN_is (y r : Int) (hr : 0 ≤ r) : ∀ k : Nat, k ≤ 11 → r < cumI y ((k : Int) + 2) → 1 ≤ mN y r k ∧ mN y r k ≤ k + 1 ∧ cumI y (mN y r k) ≤ r ∧ r < cumI y (mN y r k + 1)
  | 0, _, h => by simp only [mN]; rw [cum_one]; refine ⟨by omega, by omega, hr, by simpa using h⟩
  | k + 1, hk, h => by
    simp only [mN]
    split
    · rename_i h2
      refine ⟨by omega, by omega, h2, ?_⟩
      have e : ((k : Int) + 2 + 1) = (((k + 1 : Nat) : Int) + 2) := by omega
      rw [e]; exact h
    · rename_i h2
      have := mN_is y r hr k (by omega) (by omega)
      omega
theorem mB_is {y r : Int} (hr : 0 ≤ r) (h : r < cumI y 13) : 1 ≤ mB y r ∧ mB y r ≤ 12 ∧ cumI y (mB y r) ≤ r ∧ r < cumI y (mB y r + 1) := by
  have := mN_is y r hr 11 (by omega) (by simpa using h)
  unfold mB
  omega
theorem dateB_is {day : Int} (h0 : 0 ≤ day) (h1 : day ≤ 36524) : IsDate day (dateB day).1 (dateB day).2.1 (dateB day).2.2 := by
  obtain ⟨a, b, c, d⟩ := yB_is h0 h1
  rw [head_step a] at d
  obtain ⟨e, f, g, i⟩ := mB_is (y := yB day) (r := day - headI (yB day)) (by omega) (by omega)
  rw [cum_step _ e f] at i
  exact ⟨a, b, e, f, by simp only [dateB]; omega, by simp only [dateB]; omega, by simp only [dateB]; omega⟩
theorem dateB_eq {day y m d : Int} (h : IsDate day y m d) : dateB day = (y, m, d) := by
  obtain ⟨r0, r1⟩ := h.range
  obtain ⟨a, b, c⟩ := (dateB_is r0 r1).uniq h
  rw [← a, ← b, ← c]

def dateRB (y m d : Int) : Bool := decide (2000 ≤ y) && decide (y ≤ 2099) && decide (1 ≤ m) && decide (m ≤ 12) && decide (1 ≤ d) && decide (d ≤ lenI y m)
def dayRB (day : Int) : Bool := decide (0 ≤ day) && decide (day ≤ 36524)
def numB (y m d : Int) : Int := headI y + cumI y m + d - 1
/-- DayOf's answer. -/
def dayOfB (y m d : Int) : Int × Int := if dateRB y m d then (numB y m d, 0) else (0, 1)
/-- DateOf's answer. -/
def dateOfB (day : Int) : Int × Int × Int := if dayRB day then dateB day else (0, 0, 0)
/-- The Date so many months (counted from January 2000) behind, whose Day is at most d. -/
def monB (k d : Int) : Int × Int × Int := (2000 + k / 12, k % 12 + 1, min d (lenI (2000 + k / 12) (k % 12 + 1)))
def addKB (day n : Int) : Int := 12 * ((dateB day).1 - 2000) + (dateB day).2.1 - 1 + n
/-- DayAdd's answer. -/
def dayAddB (day n : Int) : Int × Int :=
  if dayRB day then
    (if -1200 ≤ n ∧ n ≤ 1200 then
      (if 0 ≤ addKB day n ∧ addKB day n < 1200 then (numB (monB (addKB day n) (dateB day).2.2).1 (monB (addKB day n) (dateB day).2.2).2.1 (monB (addKB day n) (dateB day).2.2).2.2, 0) else (0, 13))
     else (0, 13))
  else (0, 1)
def evenB (r : Int × Int × Int) : Int := 360 * r.1 + 30 * r.2.1 + min r.2.2 30
/-- Span's answer. -/
def spanB (basis a b : Int) : Int × Int :=
  if 1 ≤ basis ∧ basis ≤ 3 ∧ dayRB a ∧ dayRB b ∧ a ≤ b then
    (if basis = 3 then (max 0 (evenB (dateB b) - evenB (dateB a)), 0) else (b - a, 0))
  else (0, 1)

theorem numB_is {y m d : Int} (h : dateRB y m d = true) : IsDate (numB y m d) y m d := by
  simp [dateRB] at h
  obtain ⟨⟨⟨⟨⟨a, b⟩, c⟩, e⟩, f⟩, g⟩ := h
  exact ⟨a, b, c, e, f, g, rfl⟩
theorem IsDate.rb {day y m d : Int} (h : IsDate day y m d) : dateRB y m d = true := by
  obtain ⟨a, b, c, e, f, g, _⟩ := h
  simp [dateRB, a, b, c, e, f, g]
theorem dayRB_iff (day : Int) : dayRB day = true ↔ 0 ≤ day ∧ day ≤ 36524 := by simp [dayRB]
theorem span_le {basis a b : Int} (h : (spanB basis a b).2 = 0) : 0 ≤ (spanB basis a b).1 ∧ (spanB basis a b).1 ≤ 36600 := by
  unfold spanB at *
  split
  · rename_i hc
    obtain ⟨_, _, ha, hb, hab⟩ := hc
    have ha := (dayRB_iff a).1 ha
    have hb := (dayRB_iff b).1 hb
    split
    · have A := dateB_is ha.1 ha.2
      have B := dateB_is hb.1 hb.2
      have := A.y0; have := B.y1; have := A.m0; have := B.m1; have := A.d0; have := B.d0; have := A.d1; have := B.d1; have := A.m1; have := B.m0
      simp only [evenB]
      omega
    · simp only; omega
  · rename_i hc; rw [if_neg hc] at h; simp at h

end Go.Proofs.YtnefcldjigndgaaGreatDoor
