/- The program's table of shapes (impl.shapeOf): what the call does. -/
import Derived.Test.YtnefcldjigndgaaDoorNrA
namespace Go.Proofs.YtnefcldjigndgaaDoor
open Go.RowKit Go.Maps
open Go.Proofs.YtnefcldjigndgaaDoor.Draw

set_option maxRecDepth 100000 in
set_option maxHeartbeats 8000000 in
theorem impl_shape (k : Int) (w : World) :
    Calls Tryd.prog 70 #[.int .i64 k] w fun e w' => e = .returned (.agg (shA (shp k))) ∧ Below w.heap.size w w' := by
  by_cases h1 : k = 1
  · subst h1
    go_enter Tryd.func70, Tryd.ntmps70
    go_wp2_with fail
    refine (impl_bounds 1 _).mono ?_
    rintro e w1 ⟨rfl, rfl⟩
    simp only [show loB 1 = (-1000000000000) from rfl, show hiB 1 = 1000000000000 from rfl]
    go_wp2_with fail
    refine bodyPost_ret (v := .agg #[.int .i64 1, .int .i64 0, .int .i64 0, .int .i64 (-1000000000000), .int .i64 1000000000000, .int .i64 0, .int .i64 0, .int .i64 0, .int .i64 0]) ?_ rfl ⟨rfl, ?_⟩
    · simp [results, Tryd.results70, go_sem]
    · exact (Below.refl _ _).alloc (Nat.le_refl _) _
  have t1 : (k == 1) = false := beq_eq_false_iff_ne.2 h1
  by_cases h2 : k = 2
  · subst h2
    go_enter Tryd.func70, Tryd.ntmps70
    go_wp2_with fail
    refine (impl_bounds 2 _).mono ?_
    rintro e w1 ⟨rfl, rfl⟩
    simp only [show loB 2 = (-1000000000000) from rfl, show hiB 2 = 1000000000000 from rfl]
    go_wp2_with fail
    refine bodyPost_ret (v := .agg #[.int .i64 1, .int .i64 0, .int .i64 0, .int .i64 (-1000000000000), .int .i64 1000000000000, .int .i64 0, .int .i64 0, .int .i64 0, .int .i64 0]) ?_ rfl ⟨rfl, ?_⟩
    · simp [results, Tryd.results70, go_sem]
    · exact (Below.refl _ _).alloc (Nat.le_refl _) _
  have t2 : (k == 2) = false := beq_eq_false_iff_ne.2 h2
  by_cases h3 : k = 3
  · subst h3
    go_enter Tryd.func70, Tryd.ntmps70
    go_wp2_with fail
    refine (impl_bounds 3 _).mono ?_
    rintro e w1 ⟨rfl, rfl⟩
    simp only [show loB 3 = 0 from rfl, show hiB 3 = 1000000 from rfl]
    go_wp2_with fail
    refine bodyPost_ret (v := .agg #[.int .i64 1, .int .i64 0, .int .i64 0, .int .i64 0, .int .i64 1000000, .int .i64 0, .int .i64 0, .int .i64 0, .int .i64 0]) ?_ rfl ⟨rfl, ?_⟩
    · simp [results, Tryd.results70, go_sem]
    · exact (Below.refl _ _).alloc (Nat.le_refl _) _
  have t3 : (k == 3) = false := beq_eq_false_iff_ne.2 h3
  by_cases h4 : k = 4
  · subst h4
    go_enter Tryd.func70, Tryd.ntmps70
    go_wp2_with fail
    refine (impl_bounds 4 _).mono ?_
    rintro e w1 ⟨rfl, rfl⟩
    simp only [show loB 4 = 0 from rfl, show hiB 4 = 36524 from rfl]
    go_wp2_with fail
    refine bodyPost_ret (v := .agg #[.int .i64 1, .int .i64 0, .int .i64 0, .int .i64 0, .int .i64 36524, .int .i64 0, .int .i64 0, .int .i64 0, .int .i64 0]) ?_ rfl ⟨rfl, ?_⟩
    · simp [results, Tryd.results70, go_sem]
    · exact (Below.refl _ _).alloc (Nat.le_refl _) _
  have t4 : (k == 4) = false := beq_eq_false_iff_ne.2 h4
  by_cases h5 : k = 5
  · subst h5
    go_enter Tryd.func70, Tryd.ntmps70
    go_wp2_with fail
    refine (impl_bounds 5 _).mono ?_
    rintro e w1 ⟨rfl, rfl⟩
    simp only [show loB 5 = 0 from rfl, show hiB 5 = 1 from rfl]
    go_wp2_with fail
    refine bodyPost_ret (v := .agg #[.int .i64 1, .int .i64 0, .int .i64 0, .int .i64 0, .int .i64 1, .int .i64 0, .int .i64 0, .int .i64 0, .int .i64 0]) ?_ rfl ⟨rfl, ?_⟩
    · simp [results, Tryd.results70, go_sem]
    · exact (Below.refl _ _).alloc (Nat.le_refl _) _
  have t5 : (k == 5) = false := beq_eq_false_iff_ne.2 h5
  by_cases h6 : k = 6
  · subst h6
    go_enter Tryd.func70, Tryd.ntmps70
    go_wp2_with fail
    refine bodyPost_ret (v := .agg #[.int .i64 1, .int .i64 1, .int .i64 0, .int .i64 0, .int .i64 0, .int .i64 0, .int .i64 0, .int .i64 0, .int .i64 0]) ?_ rfl ⟨rfl, ?_⟩
    · simp [results, Tryd.results70, go_sem]
    · exact (Below.refl _ _).alloc (Nat.le_refl _) _
  have t6 : (k == 6) = false := beq_eq_false_iff_ne.2 h6
  by_cases h7 : k = 7
  · subst h7
    go_enter Tryd.func70, Tryd.ntmps70
    go_wp2_with fail
    refine bodyPost_ret (v := .agg #[.int .i64 1, .int .i64 1, .int .i64 0, .int .i64 0, .int .i64 0, .int .i64 0, .int .i64 0, .int .i64 0, .int .i64 0]) ?_ rfl ⟨rfl, ?_⟩
    · simp [results, Tryd.results70, go_sem]
    · exact (Below.refl _ _).alloc (Nat.le_refl _) _
  have t7 : (k == 7) = false := beq_eq_false_iff_ne.2 h7
  by_cases h8 : k = 8
  · subst h8
    go_enter Tryd.func70, Tryd.ntmps70
    go_wp2_with fail
    refine bodyPost_ret (v := .agg #[.int .i64 1, .int .i64 0, .int .i64 0, .int .i64 0, .int .i64 0, .int .i64 0, .int .i64 0, .int .i64 0, .int .i64 0]) ?_ rfl ⟨rfl, ?_⟩
    · simp [results, Tryd.results70, go_sem]
    · exact (Below.refl _ _).alloc (Nat.le_refl _) _
  have t8 : (k == 8) = false := beq_eq_false_iff_ne.2 h8
  by_cases h9 : k = 9
  · subst h9
    go_enter Tryd.func70, Tryd.ntmps70
    go_wp2_with fail
    refine bodyPost_ret (v := .agg #[.int .i64 1, .int .i64 0, .int .i64 0, .int .i64 0, .int .i64 0, .int .i64 0, .int .i64 0, .int .i64 0, .int .i64 0]) ?_ rfl ⟨rfl, ?_⟩
    · simp [results, Tryd.results70, go_sem]
    · exact (Below.refl _ _).alloc (Nat.le_refl _) _
  have t9 : (k == 9) = false := beq_eq_false_iff_ne.2 h9
  by_cases h10 : k = 10
  · subst h10
    go_enter Tryd.func70, Tryd.ntmps70
    go_wp2_with fail
    refine bodyPost_ret (v := .agg #[.int .i64 1, .int .i64 0, .int .i64 0, .int .i64 0, .int .i64 0, .int .i64 0, .int .i64 0, .int .i64 0, .int .i64 0]) ?_ rfl ⟨rfl, ?_⟩
    · simp [results, Tryd.results70, go_sem]
    · exact (Below.refl _ _).alloc (Nat.le_refl _) _
  have t10 : (k == 10) = false := beq_eq_false_iff_ne.2 h10
  by_cases h11 : k = 11
  · subst h11
    go_enter Tryd.func70, Tryd.ntmps70
    go_wp2_with fail
    refine bodyPost_ret (v := .agg #[.int .i64 1, .int .i64 0, .int .i64 0, .int .i64 0, .int .i64 0, .int .i64 0, .int .i64 0, .int .i64 0, .int .i64 0]) ?_ rfl ⟨rfl, ?_⟩
    · simp [results, Tryd.results70, go_sem]
    · exact (Below.refl _ _).alloc (Nat.le_refl _) _
  have t11 : (k == 11) = false := beq_eq_false_iff_ne.2 h11
  by_cases h12 : k = 12
  · subst h12
    go_enter Tryd.func70, Tryd.ntmps70
    go_wp2_with fail
    refine bodyPost_ret (v := .agg #[.int .i64 1, .int .i64 2, .int .i64 0, .int .i64 0, .int .i64 0, .int .i64 2, .int .i64 2, .int .i64 1, .int .i64 1]) ?_ rfl ⟨rfl, ?_⟩
    · simp [results, Tryd.results70, go_sem]
    · exact (Below.refl _ _).alloc (Nat.le_refl _) _
  have t12 : (k == 12) = false := beq_eq_false_iff_ne.2 h12
  by_cases h13 : k = 13
  · subst h13
    go_enter Tryd.func70, Tryd.ntmps70
    go_wp2_with fail
    refine bodyPost_ret (v := .agg #[.int .i64 1, .int .i64 0, .int .i64 0, .int .i64 0, .int .i64 0, .int .i64 1, .int .i64 1, .int .i64 1, .int .i64 0]) ?_ rfl ⟨rfl, ?_⟩
    · simp [results, Tryd.results70, go_sem]
    · exact (Below.refl _ _).alloc (Nat.le_refl _) _
  have t13 : (k == 13) = false := beq_eq_false_iff_ne.2 h13
  by_cases h14 : k = 14
  · subst h14
    go_enter Tryd.func70, Tryd.ntmps70
    go_wp2_with fail
    refine bodyPost_ret (v := .agg #[.int .i64 1, .int .i64 3, .int .i64 0, .int .i64 0, .int .i64 0, .int .i64 1, .int .i64 4, .int .i64 1, .int .i64 1]) ?_ rfl ⟨rfl, ?_⟩
    · simp [results, Tryd.results70, go_sem]
    · exact (Below.refl _ _).alloc (Nat.le_refl _) _
  have t14 : (k == 14) = false := beq_eq_false_iff_ne.2 h14
  by_cases h20 : k = 20
  · subst h20
    go_enter Tryd.func70, Tryd.ntmps70
    go_wp2_with fail
    refine bodyPost_ret (v := .agg #[.int .i64 2, .int .i64 1, .int .i64 0, .int .i64 0, .int .i64 0, .int .i64 1, .int .i64 1, .int .i64 1, .int .i64 0]) ?_ rfl ⟨rfl, ?_⟩
    · simp [results, Tryd.results70, go_sem]
    · exact (Below.refl _ _).alloc (Nat.le_refl _) _
  have t20 : (k == 20) = false := beq_eq_false_iff_ne.2 h20
  by_cases h21 : k = 21
  · subst h21
    go_enter Tryd.func70, Tryd.ntmps70
    go_wp2_with fail
    refine bodyPost_ret (v := .agg #[.int .i64 2, .int .i64 1, .int .i64 0, .int .i64 0, .int .i64 0, .int .i64 1, .int .i64 1, .int .i64 1, .int .i64 0]) ?_ rfl ⟨rfl, ?_⟩
    · simp [results, Tryd.results70, go_sem]
    · exact (Below.refl _ _).alloc (Nat.le_refl _) _
  have t21 : (k == 21) = false := beq_eq_false_iff_ne.2 h21
  by_cases h22 : k = 22
  · subst h22
    go_enter Tryd.func70, Tryd.ntmps70
    go_wp2_with fail
    refine bodyPost_ret (v := .agg #[.int .i64 2, .int .i64 0, .int .i64 0, .int .i64 0, .int .i64 0, .int .i64 3, .int .i64 3, .int .i64 1, .int .i64 3]) ?_ rfl ⟨rfl, ?_⟩
    · simp [results, Tryd.results70, go_sem]
    · exact (Below.refl _ _).alloc (Nat.le_refl _) _
  have t22 : (k == 22) = false := beq_eq_false_iff_ne.2 h22
  by_cases h23 : k = 23
  · subst h23
    go_enter Tryd.func70, Tryd.ntmps70
    go_wp2_with fail
    refine bodyPost_ret (v := .agg #[.int .i64 2, .int .i64 1, .int .i64 1, .int .i64 0, .int .i64 0, .int .i64 1, .int .i64 1, .int .i64 1, .int .i64 0]) ?_ rfl ⟨rfl, ?_⟩
    · simp [results, Tryd.results70, go_sem]
    · exact (Below.refl _ _).alloc (Nat.le_refl _) _
  have t23 : (k == 23) = false := beq_eq_false_iff_ne.2 h23
  by_cases h24 : k = 24
  · subst h24
    go_enter Tryd.func70, Tryd.ntmps70
    go_wp2_with fail
    refine bodyPost_ret (v := .agg #[.int .i64 2, .int .i64 0, .int .i64 0, .int .i64 1, .int .i64 99, .int .i64 0, .int .i64 0, .int .i64 0, .int .i64 0]) ?_ rfl ⟨rfl, ?_⟩
    · simp [results, Tryd.results70, go_sem]
    · exact (Below.refl _ _).alloc (Nat.le_refl _) _
  have t24 : (k == 24) = false := beq_eq_false_iff_ne.2 h24
  by_cases h25 : k = 25
  · subst h25
    go_enter Tryd.func70, Tryd.ntmps70
    go_wp2_with fail
    refine bodyPost_ret (v := .agg #[.int .i64 2, .int .i64 0, .int .i64 0, .int .i64 0, .int .i64 0, .int .i64 1, .int .i64 1, .int .i64 1, .int .i64 0]) ?_ rfl ⟨rfl, ?_⟩
    · simp [results, Tryd.results70, go_sem]
    · exact (Below.refl _ _).alloc (Nat.le_refl _) _
  have t25 : (k == 25) = false := beq_eq_false_iff_ne.2 h25
  by_cases h26 : k = 26
  · subst h26
    go_enter Tryd.func70, Tryd.ntmps70
    go_wp2_with fail
    refine bodyPost_ret (v := .agg #[.int .i64 2, .int .i64 0, .int .i64 0, .int .i64 0, .int .i64 0, .int .i64 2, .int .i64 2, .int .i64 1, .int .i64 3]) ?_ rfl ⟨rfl, ?_⟩
    · simp [results, Tryd.results70, go_sem]
    · exact (Below.refl _ _).alloc (Nat.le_refl _) _
  have t26 : (k == 26) = false := beq_eq_false_iff_ne.2 h26
  by_cases h27 : k = 27
  · subst h27
    go_enter Tryd.func70, Tryd.ntmps70
    go_wp2_with fail
    refine bodyPost_ret (v := .agg #[.int .i64 3, .int .i64 0, .int .i64 0, .int .i64 0, .int .i64 0, .int .i64 0, .int .i64 40, .int .i64 2, .int .i64 2]) ?_ rfl ⟨rfl, ?_⟩
    · simp [results, Tryd.results70, go_sem]
    · exact (Below.refl _ _).alloc (Nat.le_refl _) _
  have t27 : (k == 27) = false := beq_eq_false_iff_ne.2 h27
  have HZ : Hid (shp k = ⟨0, 0, 0, 0, 0, 0, 0, 0, 0⟩) := shp_none h1 h2 h3 h4 h5 h6 h7 h8 h9 h10 h11 h12 h13 h14 h20 h21 h22 h23 h24 h25 h26 h27
  clear h1 h2 h3 h4 h5 h6 h7 h8 h9 h10 h11 h12 h13 h14 h20 h21 h22 h23 h24 h25 h26 h27
  go_enter Tryd.func70, Tryd.ntmps70
  go_wp2_with fail
  refine bodyPost_ret (v := .agg #[.int .i64 0, .int .i64 0, .int .i64 0, .int .i64 0, .int .i64 0, .int .i64 0, .int .i64 0, .int .i64 0, .int .i64 0]) ?_ rfl ⟨by rw [HZ.out]; rfl, ?_⟩
  · simp [results, Tryd.results70, go_sem]
  · exact (Below.refl _ _).alloc (Nat.le_refl _) _
end Go.Proofs.YtnefcldjigndgaaDoor
