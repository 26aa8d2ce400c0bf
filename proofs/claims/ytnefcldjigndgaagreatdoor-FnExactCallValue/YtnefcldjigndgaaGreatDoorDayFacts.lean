/- What the laws FnDates, FnMonths and FnInterest ask of days, without a program: the day behind one, so many months behind one, and Spans put together. -/
import Derived.Test.YtnefcldjigndgaaGreatDoorDayMath
namespace Go.Proofs.YtnefcldjigndgaaGreatDoor

theorem next_in {N y m d : Int} (h : IsDate N y m d) (hd : d < lenI y m) : IsDate (N + 1) y m (d + 1) := ⟨h.y0, h.y1, h.m0, h.m1, by have := h.d0; omega, by omega, by have := h.eq; omega⟩
theorem next_month {N y m d : Int} (h : IsDate N y m d) (hd : d = lenI y m) (hm : m < 12) : IsDate (N + 1) y (m + 1) 1 :=
  ⟨h.y0, h.y1, by have := h.m0; omega, by omega, by omega, by have := len_ge y (m + 1); omega, by have := h.eq; rw [cum_step y h.m0 h.m1]; omega⟩
theorem next_year {N y m d : Int} (h : IsDate N y m d) (hd : d = lenI y m) (hm : m = 12) (hN : N + 1 ≤ 36524) : IsDate (N + 1) (y + 1) 1 1 := by
  subst hm
  have e := h.eq
  have hs := head_step h.y0
  have hc := cum_step y (m := 12) (by omega) (by omega)
  have hc' : cumI y 13 = cumI y 12 + lenI y 12 := hc
  have y1 : y + 1 ≤ 2099 := by
    rcases (by have := h.y1; omega : y < 2099 ∨ y = 2099) with hl | rfl
    · omega
    · have e2 : headI 2099 + cumI 2099 13 = 36525 := by decide
      omega
  exact ⟨by have := h.y0; omega, y1, by omega, by omega, by omega, by rw [len_jan]; omega, by rw [hs, cum_one]; omega⟩

/-- The day behind one is the next day of its month, or the first one of the next month. -/
theorem next_date {N y m d : Int} (h : IsDate N y m d) (hN : N + 1 ≤ 36524) :
    ((dateB (N + 1)).1 = y ∧ (dateB (N + 1)).2.1 = m ∧ (dateB (N + 1)).2.2 = d + 1) ∨ ((dateB (N + 1)).2.2 = 1 ∧ 12 * (dateB (N + 1)).1 + (dateB (N + 1)).2.1 = 12 * y + m + 1) := by
  rcases (by have := h.d1; omega : d < lenI y m ∨ d = lenI y m) with hd | hd
  · rw [dateB_eq (next_in h hd)]; exact Or.inl ⟨rfl, rfl, rfl⟩
  · rcases (by have := h.m1; omega : m < 12 ∨ m = 12) with hm | hm
    · rw [dateB_eq (next_month h hd hm)]; exact Or.inr ⟨rfl, by show 12 * y + (m + 1) = _; omega⟩
    · rw [dateB_eq (next_year h hd hm hN)]; exact Or.inr ⟨rfl, by show 12 * (y + 1) + 1 = _; omega⟩
theorem last_month {N y m d : Int} (h : IsDate N y m d) (hd : d = lenI y m) : (dateOfB (N + 1)).2.1 ≠ m := by
  have hr := h.range
  have m0 := h.m0
  unfold dateOfB
  split
  · rename_i hb
    have hb := (dayRB_iff _).1 hb
    rcases (by have := h.m1; omega : m < 12 ∨ m = 12) with hm | hm
    · rw [dateB_eq (next_month h hd hm)]; show m + 1 ≠ m; omega
    · rw [dateB_eq (next_year h hd hm (by omega))]; show (1 : Int) ≠ m; omega
  · show (0 : Int) ≠ m; omega

theorem dayAdd_parts {day n N : Int} (h : dayAddB day n = (N, 0)) :
    dayRB day = true ∧ -1200 ≤ n ∧ n ≤ 1200 ∧ 0 ≤ addKB day n ∧ addKB day n < 1200 ∧ IsDate N (2000 + addKB day n / 12) (addKB day n % 12 + 1) (min (dateB day).2.2 (lenI (2000 + addKB day n / 12) (addKB day n % 12 + 1))) := by
  unfold dayAddB at h
  split at h
  · rename_i hr
    split at h
    · rename_i hn
      split at h
      · rename_i hk
        obtain ⟨d0, d1⟩ := (dayRB_iff day).1 hr
        have hI := dateB_is d0 d1
        have e0 := hI.d0
        have hl := len_ge (2000 + addKB day n / 12) (addKB day n % 12 + 1)
        have e : N = numB (2000 + addKB day n / 12) (addKB day n % 12 + 1) (min (dateB day).2.2 (lenI (2000 + addKB day n / 12) (addKB day n % 12 + 1))) := by
          have := congrArg Prod.fst h
          exact this.symm
        exact ⟨hr, hn.1, hn.2, hk.1, hk.2, ⟨by omega, by omega, by omega, by omega, by omega, by omega, e⟩⟩
      · simp at h
    · simp at h
  · simp at h

theorem month_facts {day n N : Int} (h : dayAddB day n = (N, 0)) :
    12 * (dateB N).1 + (dateB N).2.1 = 12 * (dateB day).1 + (dateB day).2.1 + n ∧ ((dateB N).2.2 = (dateB day).2.2 ∨ ((dateB N).2.2 < (dateB day).2.2 ∧ (dateOfB (N + 1)).2.1 ≠ (dateB N).2.1)) := by
  obtain ⟨hr, n0, n1, k0, k1, hI⟩ := dayAdd_parts h
  rw [dateB_eq hI]
  have hk : addKB day n = 12 * ((dateB day).1 - 2000) + (dateB day).2.1 - 1 + n := rfl
  constructor
  · show 12 * (2000 + addKB day n / 12) + (addKB day n % 12 + 1) = _
    omega
  · show min _ _ = _ ∨ (min _ _ < _ ∧ _ ≠ addKB day n % 12 + 1)
    rcases (by omega : (dateB day).2.2 ≤ lenI (2000 + addKB day n / 12) (addKB day n % 12 + 1) ∨ lenI (2000 + addKB day n / 12) (addKB day n % 12 + 1) < (dateB day).2.2) with hd | hd
    · left; omega
    · right
      exact ⟨by omega, last_month hI (by omega)⟩

theorem month_later {day n N M : Int} (h : dayAddB day n = (N, 0)) (h' : dayAddB day (n + 1) = (M, 0)) : N < M := by
  obtain ⟨hr, n0, n1, k0, k1, hI⟩ := dayAdd_parts h
  obtain ⟨_, _, _, k0', k1', hJ⟩ := dayAdd_parts h'
  have hk : addKB day (n + 1) = addKB day n + 1 := by unfold addKB; omega
  rw [hk] at hJ k1'
  have e := hI.eq
  have d1 := hI.d1
  have e' := hJ.eq
  have d0' := hJ.d0
  have cs := cum_step (2000 + addKB day n / 12) hI.m0 hI.m1
  rcases (by omega : addKB day n % 12 < 11 ∨ addKB day n % 12 = 11) with hm | hm
  · have e1 : (addKB day n + 1) / 12 = addKB day n / 12 := by omega
    have e2 : (addKB day n + 1) % 12 = addKB day n % 12 + 1 := by omega
    rw [e1, e2] at e' d0'
    omega
  · have e1 : 2000 + (addKB day n + 1) / 12 = 2000 + addKB day n / 12 + 1 := by omega
    have e2 : (addKB day n + 1) % 12 + 1 = 1 := by omega
    rw [e1, e2, head_step (by omega), cum_one] at e'
    rw [e1, e2] at d0'
    rw [hm] at e d1 cs
    have cs' : cumI (2000 + addKB day n / 12) 13 = cumI (2000 + addKB day n / 12) 12 + lenI (2000 + addKB day n / 12) 12 := cs
    have ee : (11 : Int) + 1 = 12 := rfl
    rw [ee] at e d1
    omega

theorem spanB_at {basis a b : Int} (b0 : 1 ≤ basis) (b1 : basis ≤ 3) (ha : dayRB a = true) (hb : dayRB b = true) (hab : a ≤ b) : spanB basis a b = if basis = 3 then (max 0 (evenB (dateB b) - evenB (dateB a)), 0) else (b - a, 0) := by
  unfold spanB
  rw [if_pos ⟨b0, b1, ha, hb, hab⟩]
theorem span_cond {basis a b : Int} (h : (spanB basis a b).2 = 0) : 1 ≤ basis ∧ basis ≤ 3 ∧ dayRB a = true ∧ dayRB b = true ∧ a ≤ b := by
  unfold spanB at h
  split at h
  · rename_i hc; exact hc
  · simp at h
/-- By the days that there are a Span is the sum of its parts. -/
theorem span_parts {basis a b m : Int} (h : (spanB basis a b).2 = 0) (h0 : a ≤ m) (h1 : m ≤ b) :
    (spanB basis a m).2 = 0 ∧ (spanB basis m b).2 = 0 ∧ (basis ≠ 3 → (spanB basis a b).1 = (spanB basis a m).1 + (spanB basis m b).1) := by
  obtain ⟨b0, b1, ha, hb, hab⟩ := span_cond h
  have ra := (dayRB_iff a).1 ha
  have rb := (dayRB_iff b).1 hb
  have hm : dayRB m = true := (dayRB_iff m).2 (by omega)
  rw [spanB_at b0 b1 ha hm h0, spanB_at b0 b1 hm hb h1, spanB_at b0 b1 ha hb hab]
  by_cases h3 : basis = 3
  · rw [if_pos h3, if_pos h3, if_pos h3]
    exact ⟨rfl, rfl, fun h => absurd h3 h⟩
  · rw [if_neg h3, if_neg h3, if_neg h3]
    exact ⟨rfl, rfl, fun _ => by show b - a = (m - a) + (b - m); omega⟩
theorem span_none {basis a b : Int} (h : (spanB basis a b).2 = 0) : spanB basis a a = (0, 0) := by
  obtain ⟨b0, b1, ha, hb, hab⟩ := span_cond h
  rw [spanB_at b0 b1 ha ha (Int.le_refl _)]
  by_cases h3 : basis = 3
  · rw [if_pos h3]; simp
  · rw [if_neg h3]; simp
end Go.Proofs.YtnefcldjigndgaaGreatDoor
