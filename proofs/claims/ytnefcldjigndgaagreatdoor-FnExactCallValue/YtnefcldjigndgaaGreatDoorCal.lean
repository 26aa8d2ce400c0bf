/- What a call of chapter 4 stands on: how long a month is (the program's array and the model's switch), what is a day and a Date, and the first days of years, kept in a map for the length of one call: what each call does. -/
import Derived.Test.YtnefcldjigndgaaGreatDoorDayMath
import Derived.Maps.OwnSet
namespace Go.Proofs.YtnefcldjigndgaaGreatDoor
open Go.RowKit Go.Maps

/-- The array of the months' lengths, as the program's text lays it. -/
def Mon (w : World) : Prop := ∀ k : Nat, k < 12 → w.cell? ⟨2, k, none⟩ = some (.int .i64 (lenI 1 ((k : Int) + 1)))
theorem Mon.lt {w : World} (h : Mon w) : 2 < w.heap.size := by
  rcases Nat.lt_or_ge 2 w.heap.size with h0 | h0
  · exact h0
  · have := h 0 (by omega)
    simp [World.cell?, Array.getElem?_eq_none h0] at this
theorem Mon.below {w w' : World} (h : Mon w) (hb : Below w.heap.size w w') : Mon w' := fun k hk => by
  rw [hb.cell (p := ⟨2, k, none⟩) h.lt]; exact h k hk
theorem Mon.grown {w w' : World} {b : Nat} (h : Mon w) (hg : w.grownBy w' (some b)) (hb : 2 ≠ b) : Mon w' := fun k hk =>
  hg.cell (h k hk) (by simp; exact hb)
theorem Mon.alloc {w : World} (h : Mon w) (o : Obj) : Mon (w.alloc o) := h.below ((Below.refl _ _).alloc (Nat.le_refl _) _)

theorem tmod_pos {y k : Int} (h : 0 ≤ y) : y.tmod k = y % k := Int.tmod_eq_emod_of_nonneg h
theorem tdiv_pos {y k : Int} (h : 0 ≤ y) : y.tdiv k = y / k := Int.tdiv_eq_ediv_of_nonneg h

set_option maxRecDepth 100000 in
set_option maxHeartbeats 1000000 in
theorem impl_monthDays (y m : Int) (hy0 : 0 ≤ y) (hm0 : 1 ≤ m) (hm1 : m ≤ 12) (w : World) (hM : Mon w) :
    Calls Tryz.prog 57 #[.int .i64 y, .int .i64 m] w fun e w' => e = .returned (.int .i64 (lenI y m)) ∧ w' = w := by
  obtain ⟨k, rfl⟩ : ∃ k : Nat, m = (k : Int) + 1 := ⟨(m - 1).toNat, by omega⟩
  have hk : k < 12 := by omega
  have hcell := hM k hk
  have HM : Hid (Mon w) := hM
  clear hM
  obtain ⟨L, hL⟩ : ∃ L, lenI 1 ((k : Int) + 1) = L := ⟨_, rfl⟩
  rw [hL] at hcell
  have hLb : 28 ≤ L ∧ L ≤ 31 := by rw [← hL]; exact ⟨len_ge _ _, len_le _ _⟩
  obtain ⟨L0, L1⟩ := hLb
  by_cases h2 : (k : Int) + 1 = 2
  · have t2 : ((k : Int) + 1 == 2) = true := by rw [beq_iff_eq]; exact h2
    obtain rfl : k = 1 := by omega
    by_cases h4 : y % 4 = 0
    · have t4 : (y % 4 == 0) = true := by rw [beq_iff_eq]; exact h4
      have HR : Hid (lenI y (((1 : Nat) : Int) + 1) = L + 1) := by rw [Hid, ← hL]; simp [lenI, h4]
      clear hL h4
      go_enter Tryz.func57, Tryz.ntmps57
      go_wp2
      go_ret
      exact ⟨by rw [HR.out]; rfl, rfl⟩
    · have t4 : (y % 4 == 0) = false := by rw [beq_eq_false_iff_ne]; exact h4
      have HR : Hid (lenI y (((1 : Nat) : Int) + 1) = L) := by rw [Hid, ← hL]; simp [lenI, h4]
      clear hL h4
      go_enter Tryz.func57, Tryz.ntmps57
      go_wp2
      go_ret
      exact ⟨by rw [HR.out]; rfl, rfl⟩
  · have t2 : ((k : Int) + 1 == 2) = false := by rw [beq_eq_false_iff_ne]; exact h2
    have HR : Hid (lenI y ((k : Int) + 1) = L) := by rw [Hid, ← hL]; simp [lenI, h2]
    clear hL h2
    go_enter Tryz.func57, Tryz.ntmps57
    go_wp2
    go_ret
    exact ⟨by rw [HR.out]; rfl, rfl⟩

set_option maxRecDepth 100000 in
set_option maxHeartbeats 1000000 in
theorem spec_len (y m : Int) (hy0 : 0 ≤ y) (w : World) :
    Calls Tryz.prog 28 #[.int .i64 y, .int .i64 m] w fun e w' => e = .returned (.int .i64 (lenI y m)) ∧ w' = w := by
  by_cases h2 : m = 2
  · subst h2
    by_cases h4 : y % 4 = 0
    · have t4 : (y % 4 == 0) = true := by rw [beq_iff_eq]; exact h4
      have HR : Hid (lenI y 2 = 29) := by simp [Hid, lenI, h4]
      clear h4
      go_enter Tryz.func28, Tryz.ntmps28
      go_wp2
      go_ret
      exact ⟨by rw [HR.out]; rfl, rfl⟩
    · have t4 : (y % 4 == 0) = false := by rw [beq_eq_false_iff_ne]; exact h4
      have HR : Hid (lenI y 2 = 28) := by simp [Hid, lenI, h4]
      clear h4
      go_enter Tryz.func28, Tryz.ntmps28
      go_wp2
      go_ret
      exact ⟨by rw [HR.out]; rfl, rfl⟩
  have t2 : (m == 2) = false := beq_eq_false_iff_ne.2 h2
  by_cases h3 : m = 4 ∨ m = 6 ∨ m = 9 ∨ m = 11
  · rcases h3 with rfl | rfl | rfl | rfl <;>
    · go_enter Tryz.func28, Tryz.ntmps28
      go_wp2
      go_ret
      exact ⟨by simp [lenI], rfl⟩
  · have HR : Hid (lenI y m = 31) := by simp only [Hid, lenI, if_neg h2, if_neg h3]
    have t4 : (m == 4) = false := by rw [beq_eq_false_iff_ne]; omega
    have t6 : (m == 6) = false := by rw [beq_eq_false_iff_ne]; omega
    have t9 : (m == 9) = false := by rw [beq_eq_false_iff_ne]; omega
    have t11 : (m == 11) = false := by rw [beq_eq_false_iff_ne]; omega
    clear h2 h3
    go_enter Tryz.func28, Tryz.ntmps28
    go_wp2
    go_ret
    exact ⟨by rw [HR.out]; rfl, rfl⟩

set_option maxRecDepth 100000 in
set_option maxHeartbeats 1000000 in
theorem spec_head (y : Int) (hy0 : 2000 ≤ y) (hy1 : y ≤ 2200) (w : World) :
    Calls Tryz.prog 44 #[.int .i64 y] w fun e w' => e = .returned (.int .i64 (headI y)) ∧ w' = w := by
  have h4 : (y - 2000 + 3).tdiv 4 = (y - 2000 + 3) / 4 := tdiv_pos (by omega)
  obtain ⟨q, hq⟩ : ∃ q, (y - 2000 + 3) / 4 = q := ⟨_, rfl⟩
  have hq0 : 0 ≤ q ∧ q ≤ 100 := by omega
  obtain ⟨q0, q1⟩ := hq0
  have HR : Hid (headI y = 365 * (y - 2000) + q) := by rw [Hid, headI, hq]
  rw [hq] at h4
  clear hq
  go_enter Tryz.func44, Tryz.ntmps44
  go_wp2
  go_ret
  exact ⟨by rw [HR.out]; rfl, rfl⟩

theorem impl_dayRight (day : Int) (w : World) :
    Calls Tryz.prog 55 #[.int .i64 day] w fun e w' => e = .returned (.bool (dayRB day)) ∧ w' = w := by
  by_cases h0 : 0 ≤ day
  · have t0 : decide (0 ≤ day) = true := by simpa using h0
    by_cases h1 : day ≤ 36524
    · have t1 : decide (day ≤ 36524) = true := by simpa using h1
      have HR : Hid (dayRB day = true) := by simp [Hid, dayRB, h0, h1]
      go_enter Tryz.func55, Tryz.ntmps55
      go_wp2
      go_ret
      exact ⟨by rw [HR.out]; rfl, rfl⟩
    · have t1 : decide (day ≤ 36524) = false := by simpa using h1
      have HR : Hid (dayRB day = false) := by simp [Hid, dayRB, t1]
      go_enter Tryz.func55, Tryz.ntmps55
      go_wp2
      go_ret
      exact ⟨by rw [HR.out]; rfl, rfl⟩
  · have t0 : decide (0 ≤ day) = false := by simpa using h0
    have HR : Hid (dayRB day = false) := by simp [Hid, dayRB, t0]
    go_enter Tryz.func55, Tryz.ntmps55
    go_wp2
    go_ret
    exact ⟨by rw [HR.out]; rfl, rfl⟩
theorem spec_dayRight (day : Int) (w : World) :
    Calls Tryz.prog 14 #[.int .i64 day] w fun e w' => e = .returned (.bool (dayRB day)) ∧ w' = w := by
  by_cases h0 : 0 ≤ day
  · have t0 : decide (0 ≤ day) = true := by simpa using h0
    by_cases h1 : day ≤ 36524
    · have t1 : decide (day ≤ 36524) = true := by simpa using h1
      have HR : Hid (dayRB day = true) := by simp [Hid, dayRB, h0, h1]
      go_enter Tryz.func14, Tryz.ntmps14
      go_wp2
      go_ret
      exact ⟨by rw [HR.out]; rfl, rfl⟩
    · have t1 : decide (day ≤ 36524) = false := by simpa using h1
      have HR : Hid (dayRB day = false) := by simp [Hid, dayRB, t1]
      go_enter Tryz.func14, Tryz.ntmps14
      go_wp2
      go_ret
      exact ⟨by rw [HR.out]; rfl, rfl⟩
  · have t0 : decide (0 ≤ day) = false := by simpa using h0
    have HR : Hid (dayRB day = false) := by simp [Hid, dayRB, t0]
    go_enter Tryz.func14, Tryz.ntmps14
    go_wp2
    go_ret
    exact ⟨by rw [HR.out]; rfl, rfl⟩

/-- Block b is a map of at most n entries that holds first days of years alone. -/
def Cal (w : World) (b n : Nat) : Prop := ∃ D : DataW Unit, w.ownsMap Tryz.prog 2 (plainElem Tryz.prog 2) b n D ∧ IsMap D ∧ ∀ y : Int, Maps.has D (.int .i64 y) = true → D.atKey (.int .i64 y) (.lit (.int .i64 0)) = .lit (.int .i64 (headI y))
theorem Cal.made (w : World) : Cal (w.alloc (.map #[] 0)) w.heap.size 0 := ⟨.map [], World.ownsMap_made _ _ _ _, isMap_empty, fun y h => by simp [Maps.has_eq] at h⟩
theorem Cal.lt {w : World} {b n : Nat} (h : Cal w b n) : b < w.heap.size := by obtain ⟨D, h, _⟩ := h; exact h.lt
theorem Cal.alloc {w : World} {b n : Nat} (h : Cal w b n) (o : Obj) : Cal (w.alloc o) b n := by obtain ⟨D, h, r⟩ := h; exact ⟨D, h.alloc o, r⟩
theorem Cal.drew {w : World} {b n : Nat} (h : Cal w b n) : Cal w.drew b n := h
theorem Cal.setCell {w : World} {b n : Nat} (h : Cal w b n) {a : Addr} (ha : b ≠ a.block) (u : Value) : Cal (w.setCell a u) b n := by obtain ⟨D, h, r⟩ := h; exact ⟨D, h.setCell ha u, r⟩
theorem Cal.under {w w' : World} {b n : Nat} (h : Cal w b n) (hb : Below w.heap.size w w') : Cal w' b n := by
  have hlt := h.lt
  obtain ⟨D, h, r⟩ := h
  obtain ⟨es, clock, hblk, F⟩ := h
  exact ⟨D, ⟨es, clock, by rw [hb.block b hlt]; exact hblk, F⟩, r⟩
theorem zeroI (w : World) : (zeroValue 2).run Tryz.prog w = .ok (.int .i64 0) w := by kernel_rfl
theorem keyI : Keyed Tryz.prog 2 := int_keyed Tryz.underlying2

set_option maxRecDepth 100000 in
set_option maxHeartbeats 2000000 in
theorem impl_first (y : Int) (hy0 : 2000 ≤ y) (hy1 : y ≤ 2200) (b n : Nat) (hn : n < 1000) (w : World) (hC : Cal w b n) :
    Calls Tryz.prog 75 #[.map (some b), .int .i64 y] w fun e w' => e = .returned (.int .i64 (headI y)) ∧ Cal w' b (n + 1) ∧ w.grownBy w' (some b) := by
  obtain ⟨D, hown, hmap, hD⟩ := hC
  have hwf : (Lit.int .i64 y).wf = true := WalkArith.wf_i64 (by omega)
  have hkey : keyOf Tryz.prog 2 (.int .i64 y) = some (.int .i64 y) := keyOf_int_mk Tryz.underlying2 hwf
  have h4 : (y - 2000 + 3).tdiv 4 = (y - 2000 + 3) / 4 := tdiv_pos (by omega)
  obtain ⟨q, hq⟩ : ∃ q, (y - 2000 + 3) / 4 = q := ⟨_, rfl⟩
  have hq0 : 0 ≤ q ∧ q ≤ 100 := by omega
  obtain ⟨q0, q1⟩ := hq0
  have HR : Hid (headI y = 365 * (y - 2000) + q) := by rw [Hid, headI, hq]
  have HD : Hid (∀ y : Int, Maps.has D (.int .i64 y) = true → D.atKey (.int .i64 y) (.lit (.int .i64 0)) = .lit (.int .i64 (headI y))) := hD
  rw [hq] at h4
  clear hq hD
  cases hh : Maps.has D (.int .i64 y)
  · go_enter Tryz.func75, Tryz.ntmps75
    go_wp2_with (first
      | (at_lookup; refine wpList_lookup_own_ok_int _ rfl _ _ 76 rfl 2 2 .i64 keyI Tryz.underlying76 Tryz.underlying2 (zeroI _) b n _ rfl hown _ _ rfl hkey ?_; intro c hat hwc)
      | (at_mapUpdate; refine wpList_mapUpdate_own _ rfl _ _ _ 76 rfl 2 2 keyI Tryz.underlying76 _ b n _ rfl hown (by unfold maxLen; omega) _ _ _ rfl rfl hkey _ [] (plainElem_int Tryz.underlying2 (WalkArith.wf_i64 (by omega))) ?_; intro w1 hown1 hgrow1)
      | (at_lookup; refine wpList_lookup_own_int _ rfl _ _ 76 rfl 2 2 .i64 keyI Tryz.underlying76 Tryz.underlying2 (zeroI _) b (n + 1) _ rfl hown1 _ _ rfl hkey ?_; intro c2 hat2 hwc2)
      | fail)
    go_ret
    rw [atKey_put_same (k := Lit.int .i64 y) hmap trivial] at hat2
    obtain rfl : 365 * (y - 2000) + q = c2 := by injection hat2 with h1; injection h1
    refine ⟨by rw [HR.out]; rfl, ⟨_, hown1, hmap.put _ _, fun z hz => ?_⟩, hgrow1⟩
    by_cases hzy : z = y
    · subst hzy
      rw [atKey_put_same (k := Lit.int .i64 z) hmap trivial, HR.out]
    · have hne : Lit.int .i64 z ≠ Lit.int .i64 y := fun h => hzy (by injection h)
      rw [has_put_other hne] at hz
      rw [atKey_put_other hne]
      exact HD.out z hz
  · go_enter Tryz.func75, Tryz.ntmps75
    go_wp2_with (first
      | (at_lookup; refine wpList_lookup_own_ok_int _ rfl _ _ 76 rfl 2 2 .i64 keyI Tryz.underlying76 Tryz.underlying2 (zeroI _) b n _ rfl hown _ _ rfl hkey ?_; intro c hat hwc)
      | fail)
    go_ret
    rw [HD.out y hh] at hat
    obtain rfl : headI y = c := by injection hat with h1; injection h1
    exact ⟨rfl, ⟨D, hown.mono (Nat.le_succ _), hmap, HD.out⟩, World.grownBy.refl _ _⟩

end Go.Proofs.YtnefcldjigndgaaGreatDoor
