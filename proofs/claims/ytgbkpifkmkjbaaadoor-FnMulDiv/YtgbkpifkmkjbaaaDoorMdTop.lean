/- The law FnMulDiv: what its call does. -/
import Derived.Test.YtgbkpifkmkjbaaaDoorMdMath
import Derived.Test.YtgbkpifkmkjbaaaDoorDrawM
import Derived.Deep.RegionWith
namespace Go.Proofs.YtgbkpifkmkjbaaaDoor
open Go.RowKit

theorem even_tmod {n : Int} (h : n % 2 = 0) : n.tmod 2 = 0 := Int.tmod_eq_zero_of_dvd (Int.dvd_of_emod_eq_zero h)

set_option maxRecDepth 100000 in
set_option maxHeartbeats 4000000 in
theorem law_mulDivs (a : Option Addr) (len cap : Nat) (zs : List Int) (w : World) (hL : Lay w) (hrow : Draw.IsRow .u8 w a len cap zs) :
    Calls Tryd.prog 4 #[.slice a len cap] w fun e w' => e = .returned (.bool true) ∧ Below w.heap.size w w' := by
  have hlm : len ≤ 9223372036854775807 := by
    rcases hrow with ⟨_, rfl, _⟩ | ⟨x, rfl, hl, hm, _⟩
    · omega
    · unfold maxLen at hm; omega
  have HL : Hid (Lay w) := hL
  clear hL
  by_cases hbig : 1048576 < (len : Int)
  · go_enter Tryd.func4, Tryd.ntmps4
    go_wp2_with fail
    go_ret
    exact ⟨rfl, Below.refl _ _⟩
  go_enter Tryd.func4, Tryd.ntmps4
  go_wp2_with fail
  refine (Draw.draw_mulDiv hrow (by omega) w (Below.refl _ _)).mono ?_
  rintro e w1 ⟨x, y, z, rfl, ⟨x0, x1⟩, ⟨y0, y1⟩, ⟨z0, z1⟩, hb1⟩
  have HI : Hid (∀ w, Lay w → Calls Tryd.prog 30 #[.int .i64 x, .int .i64 y, .int .i64 z] w fun e w' => e = .returned (moneyV (mulDivB x y z)) ∧ Below w.heap.size w w') := fun w h => impl_mulDiv x y z w h
  have HS : Hid (∀ w, Calls Tryd.prog 31 #[.int .i64 x, .int .i64 y, .int .i64 z] w fun e w' => e = .returned (moneyV (mulDivB x y z)) ∧ Below w.heap.size w w') := fun w => spec_mulDiv x y z w
  obtain ⟨n, c, hR⟩ : ∃ n c, mulDivB x y z = (n, c) := ⟨_, _, rfl⟩
  simp only [hR, moneyV] at HI HS
  have HR : Hid (mulDivB x y z = (n, c)) := hR
  clear hR
  go_wp2_with fail
  refine (HI.out _ (by exact HL.out.below hb1)).mono ?_
  rintro e w2 ⟨rfl, hb2⟩
  go_wp2_with fail
  go_region_with (go_at_call 31; refine (HS.out _).mono ?_; rintro e w3 ⟨rfl, hb3⟩; obtain ⟨hc3, hf3⟩ := bcell hb3)
  all_goals
    have s2 : w2.heap.size < w3.heap.size := by have := hb3.size; simp at this; omega
    have X0 : w3.cell? ⟨w2.heap.size, 0, none⟩ = some (.int .i64 n) := by rw [hb3.cell (by simp)]; simp
    have X1 : w3.cell? ⟨w2.heap.size, 1, none⟩ = some (.int .i64 c) := by rw [hb3.cell (by simp)]; simp
    have HB3 : Hid (Below w.heap.size w w3) := by
      have z1 := hb1.size
      have z2 := hb2.size
      exact (((hb1.trans (hb2.mono z1)).alloc (by omega) _).drew).trans (hb3.mono (by simp; omega))
    clear hb1 hb2 hb3 hc3 hf3 HI HS
    by_cases c1 : c = 1
    · subst c1
      go_wp2_with fail
      go_ret
      exact ⟨rfl, HB3.out⟩
    have t1 : (c == 1) = false := beq_eq_false_iff_ne.2 c1
    have hok : okMD x y z = true := by
      cases h : okMD x y z
      · have h' := HR.out
        unfold mulDivB at h'
        rw [h] at h'
        simp at h'
        exact absurd h'.2.symm c1
      · rfl
    have hxr : -1000000000000 ≤ x ∧ x ≤ 1000000000000 := by
      have h := hok
      simp only [okMD, Bool.and_eq_true] at h
      exact (rightB_iff x).1 h.1
    obtain ⟨hx0, hx1⟩ := hxr
    have hyz : 0 ≤ y ∧ y ≤ 10000000000 ∧ 1 ≤ z ∧ z ≤ 1000000000 := by
      have h := hok
      simp [okMD] at h
      omega
    obtain ⟨hy0, hy1, hz0, hz1⟩ := hyz
    have hnb : -1000000000000 ≤ n ∧ n ≤ 1000000000000 := by
      have h := HR.out
      rw [mulDivB_eq x y z hok] at h
      unfold outB at h
      cases r : rightB (signZ x (nearN (x.natAbs * y.toNat) z.toNat))
      · rw [r] at h; simp at h; omega
      · rw [r] at h
        simp at h
        have := (rightB_iff _).1 r
        omega
    obtain ⟨hn0, hn1⟩ := hnb
    have HN : Hid (∀ w, Lay w → Calls Tryd.prog 30 #[.int .i64 (-x), .int .i64 y, .int .i64 z] w fun e w' => e = .returned (.agg #[.int .i64 (-n), .int .i64 c]) ∧ Below w.heap.size w w') := fun w h => by
      have h1 := impl_mulDiv (-x) y z w h
      rw [mulDivB_neg x y z hok, HR.out] at h1
      exact h1
    have HC : Hid (∀ w, Lay w → Calls Tryd.prog 30 #[.int .i64 x, .int .i64 z, .int .i64 z] w fun e w' => e = .returned (.agg #[.int .i64 x, .int .i64 0]) ∧ Below w.heap.size w w') := fun w h => by
      have h1 := impl_mulDiv x z z w h
      rw [mulDivB_self x y z hok] at h1
      exact h1
    have HOK : Hid (okMD x y z = true) := hok
    clear hok
    go_wp2_with fail
    refine (HN.out _ (by exact HL.out.below HB3.out)).mono ?_
    rintro e w4 ⟨rfl, hb4⟩
    have s4 : w2.heap.size < w4.heap.size := by have := hb4.size; omega
    have hcx : ∀ o, (w4.alloc o).cell? ⟨w2.heap.size, 0, none⟩ = some (.int .i64 n) := fun o => by
      rw [World.cell?_alloc_past _ _ _ (by omega), hb4.cell s2, X0]
    have hcy : ∀ o, (w4.alloc o).cell? ⟨w2.heap.size, 1, none⟩ = some (.int .i64 c) := fun o => by
      rw [World.cell?_alloc_past _ _ _ (by omega), hb4.cell s2, X1]
    have HB4 : Hid (Below w.heap.size w w4) := HB3.out.trans (hb4.mono HB3.out.size)
    clear hb4 X0 X1 HN
    have e1 : (c != c) = false := by simp
    have e2 : (-n != -n) = false := by simp
    go_wp2_with fail
    refine (HC.out _ (by exact HL.out.below (HB4.out.alloc HB4.out.size _))).mono ?_
    rintro e w5 ⟨rfl, hb5⟩
    have s5 : w2.heap.size < w5.heap.size := by have := hb5.size; simp at this; omega
    have X0 : w5.cell? ⟨w2.heap.size, 0, none⟩ = some (.int .i64 n) := by rw [hb5.cell (by simp; omega)]; exact hcx _
    have X1 : w5.cell? ⟨w2.heap.size, 1, none⟩ = some (.int .i64 c) := by rw [hb5.cell (by simp; omega)]; exact hcy _
    have HB5 : Hid (Below w.heap.size w w5) := (HB4.out.alloc HB4.out.size _).trans (hb5.mono (by have := HB4.out.size; simp; omega))
    clear hb5 hcx hcy HC e1 e2
    by_cases cz : c = 0
    case neg =>
      have t2 : (c != 0) = true := by rw [bne_iff_ne]; exact cz
      go_wp2_with fail
      go_ret
      exact ⟨rfl, HB5.out⟩
    subst cz
    have hok := HOK.out
    clear HOK t1 c1
    by_cases ka : 0 ≤ x
    case neg =>
      have ua : decide (0 ≤ x) = false := by simp; omega
      have u1 : decide (1000000 < x) = false := by simp; omega
      by_cases k2 : x < -1000000
      · have u2 : decide (x < -1000000) = true := by simp; omega
        go_wp2_with fail
        go_ret
        exact ⟨rfl, HB5.out⟩
      have u2 : decide (x < -1000000) = false := by simp; omega
      by_cases k3 : 1000000 < y
      · have u3 : decide (1000000 < y) = true := by simp; omega
        go_wp2_with fail
        go_ret
        exact ⟨rfl, HB5.out⟩
      have u3 : decide (1000000 < y) = false := by simp; omega
      obtain ⟨P, Q, eP, eQ, p0, p1, q0, q1, o1, o2, o3⟩ := mulDivB_off x y z hok (by rw [HR.out]) (by omega) (by omega) (by omega)
      rw [HR.out] at eQ o3
      have eQ' : n * z = Q := eQ
      have O3 : Hid (2 * (P - Q) = z ∨ 2 * (P - Q) = -z → n % 2 = 0) := o3
      clear eQ o3
      have v1 : decide (2 * (P - Q) ≤ z) = true := by simp; omega
      have v2 : decide (-z ≤ 2 * (P - Q)) = true := by simp; omega
      by_cases j1 : 2 * (P - Q) = z
      · have v3 : (2 * (P - Q) != z) = false := by simp [j1]
        have v5 : (n.tmod 2 == 0) = true := by rw [beq_iff_eq]; exact even_tmod (O3.out (Or.inl j1))
        clear j1
        go_wp2_with fail
        go_ret
        exact ⟨rfl, HB5.out⟩
      have v3 : (2 * (P - Q) != z) = true := by rw [bne_iff_ne]; exact j1
      by_cases j2 : 2 * (P - Q) = -z
      · have v4 : (2 * (P - Q) != -z) = false := by simp [j2]
        have v6 : (n.tmod 2 == 0) = true := by rw [beq_iff_eq]; exact even_tmod (O3.out (Or.inr j2))
        clear j2
        go_wp2_with fail
        go_ret
        exact ⟨rfl, HB5.out⟩
      have v4 : (2 * (P - Q) != -z) = true := by rw [bne_iff_ne]; exact j2
      clear j1 j2
      go_wp2_with fail
      go_ret
      exact ⟨rfl, HB5.out⟩
    have ua : decide (0 ≤ x) = true := by simp; omega
    by_cases kb : y < 10000000000
    case neg =>
      have ub : decide (y < 10000000000) = false := by simp; omega
      by_cases k1 : 1000000 < x
      · have u1 : decide (1000000 < x) = true := by simp; omega
        go_wp2_with fail
        go_ret
        exact ⟨rfl, HB5.out⟩
      have u1 : decide (1000000 < x) = false := by simp; omega
      have u2 : decide (x < -1000000) = false := by simp; omega
      have u3 : decide (1000000 < y) = true := by simp; omega
      go_wp2_with fail
      go_ret
      exact ⟨rfl, HB5.out⟩
    have ub : decide (y < 10000000000) = true := by simp; omega
    obtain ⟨n', c', hR'⟩ : ∃ n' c', mulDivB x (y + 1) z = (n', c') := ⟨_, _, rfl⟩
    have HZ : Hid (∀ w, Lay w → Calls Tryd.prog 30 #[.int .i64 x, .int .i64 (y + 1), .int .i64 z] w fun e w' => e = .returned (.agg #[.int .i64 n', .int .i64 c']) ∧ Below w.heap.size w w') := fun w h => by
      have h1 := impl_mulDiv x (y + 1) z w h
      rw [hR'] at h1
      exact h1
    have HMo : Hid (c' = 0 → n ≤ n') := by
      intro h
      have h1 := mulDivB_mono x y z hok ka kb (by rw [HR.out]) (by rw [hR']; exact h)
      rw [HR.out, hR'] at h1
      exact h1
    clear hR'
    go_wp2_with fail
    refine (HZ.out _ (by exact HL.out.below HB5.out)).mono ?_
    rintro e w6 ⟨rfl, hb6⟩
    have s6 : w2.heap.size < w6.heap.size := by have := hb6.size; omega
    have hcx : ∀ o, (w6.alloc o).cell? ⟨w2.heap.size, 0, none⟩ = some (.int .i64 n) := fun o => by
      rw [World.cell?_alloc_past _ _ _ (by omega), hb6.cell s5, X0]
    have HB6 : Hid (Below w.heap.size w (w6.alloc (.cells #[.int .i64 n', .int .i64 c'] 26))) := (HB5.out.trans (hb6.mono HB5.out.size)).alloc (by have := HB5.out.size; have := hb6.size; omega) _
    clear hb6 X0 X1 HZ
    by_cases cz : c' = 0
    · subst cz
      have hle := HMo.out rfl
      have tz : decide (n' < n) = false := by simp; omega
      clear HMo
      by_cases k1 : 1000000 < x
      · have u1 : decide (1000000 < x) = true := by simp; omega
        go_wp2_with fail
        go_ret
        exact ⟨rfl, HB6.out⟩
      have u1 : decide (1000000 < x) = false := by simp; omega
      have u2 : decide (x < -1000000) = false := by simp; omega
      by_cases k3 : 1000000 < y
      · have u3 : decide (1000000 < y) = true := by simp; omega
        go_wp2_with fail
        go_ret
        exact ⟨rfl, HB6.out⟩
      have u3 : decide (1000000 < y) = false := by simp; omega
      obtain ⟨P, Q, eP, eQ, p0, p1, q0, q1, o1, o2, o3⟩ := mulDivB_off x y z hok (by rw [HR.out]) (by omega) (by omega) (by omega)
      rw [HR.out] at eQ o3
      have eQ' : n * z = Q := eQ
      have O3 : Hid (2 * (P - Q) = z ∨ 2 * (P - Q) = -z → n % 2 = 0) := o3
      clear eQ o3
      have v1 : decide (2 * (P - Q) ≤ z) = true := by simp; omega
      have v2 : decide (-z ≤ 2 * (P - Q)) = true := by simp; omega
      by_cases j1 : 2 * (P - Q) = z
      · have v3 : (2 * (P - Q) != z) = false := by simp [j1]
        have v5 : (n.tmod 2 == 0) = true := by rw [beq_iff_eq]; exact even_tmod (O3.out (Or.inl j1))
        clear j1
        go_wp2_with fail
        go_ret
        exact ⟨rfl, HB6.out⟩
      have v3 : (2 * (P - Q) != z) = true := by rw [bne_iff_ne]; exact j1
      by_cases j2 : 2 * (P - Q) = -z
      · have v4 : (2 * (P - Q) != -z) = false := by simp [j2]
        have v6 : (n.tmod 2 == 0) = true := by rw [beq_iff_eq]; exact even_tmod (O3.out (Or.inr j2))
        clear j2
        go_wp2_with fail
        go_ret
        exact ⟨rfl, HB6.out⟩
      have v4 : (2 * (P - Q) != -z) = true := by rw [bne_iff_ne]; exact j2
      clear j1 j2
      go_wp2_with fail
      go_ret
      exact ⟨rfl, HB6.out⟩
    · have tz : (c' == 0) = false := beq_eq_false_iff_ne.2 cz
      clear HMo cz
      by_cases k1 : 1000000 < x
      · have u1 : decide (1000000 < x) = true := by simp; omega
        go_wp2_with fail
        go_ret
        exact ⟨rfl, HB6.out⟩
      have u1 : decide (1000000 < x) = false := by simp; omega
      have u2 : decide (x < -1000000) = false := by simp; omega
      by_cases k3 : 1000000 < y
      · have u3 : decide (1000000 < y) = true := by simp; omega
        go_wp2_with fail
        go_ret
        exact ⟨rfl, HB6.out⟩
      have u3 : decide (1000000 < y) = false := by simp; omega
      obtain ⟨P, Q, eP, eQ, p0, p1, q0, q1, o1, o2, o3⟩ := mulDivB_off x y z hok (by rw [HR.out]) (by omega) (by omega) (by omega)
      rw [HR.out] at eQ o3
      have eQ' : n * z = Q := eQ
      have O3 : Hid (2 * (P - Q) = z ∨ 2 * (P - Q) = -z → n % 2 = 0) := o3
      clear eQ o3
      have v1 : decide (2 * (P - Q) ≤ z) = true := by simp; omega
      have v2 : decide (-z ≤ 2 * (P - Q)) = true := by simp; omega
      by_cases j1 : 2 * (P - Q) = z
      · have v3 : (2 * (P - Q) != z) = false := by simp [j1]
        have v5 : (n.tmod 2 == 0) = true := by rw [beq_iff_eq]; exact even_tmod (O3.out (Or.inl j1))
        clear j1
        go_wp2_with fail
        go_ret
        exact ⟨rfl, HB6.out⟩
      have v3 : (2 * (P - Q) != z) = true := by rw [bne_iff_ne]; exact j1
      by_cases j2 : 2 * (P - Q) = -z
      · have v4 : (2 * (P - Q) != -z) = false := by simp [j2]
        have v6 : (n.tmod 2 == 0) = true := by rw [beq_iff_eq]; exact even_tmod (O3.out (Or.inr j2))
        clear j2
        go_wp2_with fail
        go_ret
        exact ⟨rfl, HB6.out⟩
      have v4 : (2 * (P - Q) != -z) = true := by rw [bne_iff_ne]; exact j2
      clear j1 j2
      go_wp2_with fail
      go_ret
      exact ⟨rfl, HB6.out⟩
end Go.Proofs.YtgbkpifkmkjbaaaDoor
