/- How many values an instruction takes and puts: what the program's and the model's calls answer. -/
import Derived.Test.YtdbahildcecgbaaDoorInsI
import Derived.Test.YtdbahildcecgbaaDoorFn
import Derived.Deep.RegionHeld3
namespace Go.Proofs.YtdbahildcecgbaaDoor
open Go.RowKit
open Go.Proofs.YtdbahildcecgbaaDoor.Draw

theorem take_shp : ∀ k, k < 27 → ¬ k = 20 → (shp k).t = takeO (k : Int) := by
  intro k hk h20
  rcases (by omega : k = 0 ∨ k = 1 ∨ k = 2 ∨ k = 3 ∨ k = 4 ∨ k = 5 ∨ k = 6 ∨ k = 7 ∨ k = 8 ∨ k = 9 ∨ k = 10 ∨ k = 11 ∨ k = 12 ∨ k = 13 ∨ k = 14 ∨ k = 15 ∨ k = 16 ∨ k = 17 ∨ k = 18 ∨ k = 19 ∨ k = 21 ∨ k = 22 ∨ k = 23 ∨ k = 24 ∨ k = 25 ∨ k = 26) with rfl | rfl | rfl | rfl | rfl | rfl | rfl | rfl | rfl | rfl | rfl | rfl | rfl | rfl | rfl | rfl | rfl | rfl | rfl | rfl | rfl | rfl | rfl | rfl | rfl | rfl <;> rfl
theorem put_shp : ∀ k, k < 27 → (shp k).p = putO (k : Int) := by
  intro k hk
  rcases (by omega : k = 0 ∨ k = 1 ∨ k = 2 ∨ k = 3 ∨ k = 4 ∨ k = 5 ∨ k = 6 ∨ k = 7 ∨ k = 8 ∨ k = 9 ∨ k = 10 ∨ k = 11 ∨ k = 12 ∨ k = 13 ∨ k = 14 ∨ k = 15 ∨ k = 16 ∨ k = 17 ∨ k = 18 ∨ k = 19 ∨ k = 20 ∨ k = 21 ∨ k = 22 ∨ k = 23 ∨ k = 24 ∨ k = 25 ∨ k = 26) with rfl | rfl | rfl | rfl | rfl | rfl | rfl | rfl | rfl | rfl | rfl | rfl | rfl | rfl | rfl | rfl | rfl | rfl | rfl | rfl | rfl | rfl | rfl | rfl | rfl | rfl | rfl <;> rfl
theorem place_shp : ∀ k, k < 27 → ((shp k).a == 6) = jmpI ⟨(k : Int), 0, 0⟩ := by
  intro k hk
  rcases (by omega : k = 0 ∨ k = 1 ∨ k = 2 ∨ k = 3 ∨ k = 4 ∨ k = 5 ∨ k = 6 ∨ k = 7 ∨ k = 8 ∨ k = 9 ∨ k = 10 ∨ k = 11 ∨ k = 12 ∨ k = 13 ∨ k = 14 ∨ k = 15 ∨ k = 16 ∨ k = 17 ∨ k = 18 ∨ k = 19 ∨ k = 20 ∨ k = 21 ∨ k = 22 ∨ k = 23 ∨ k = 24 ∨ k = 25 ∨ k = 26) with rfl | rfl | rfl | rfl | rfl | rfl | rfl | rfl | rfl | rfl | rfl | rfl | rfl | rfl | rfl | rfl | rfl | rfl | rfl | rfl | rfl | rfl | rfl | rfl | rfl | rfl | rfl <;> rfl
theorem end_shp : ∀ k, k < 27 → (shp k).e = endI ⟨(k : Int), 0, 0⟩ := by
  intro k hk
  rcases (by omega : k = 0 ∨ k = 1 ∨ k = 2 ∨ k = 3 ∨ k = 4 ∨ k = 5 ∨ k = 6 ∨ k = 7 ∨ k = 8 ∨ k = 9 ∨ k = 10 ∨ k = 11 ∨ k = 12 ∨ k = 13 ∨ k = 14 ∨ k = 15 ∨ k = 16 ∨ k = 17 ∨ k = 18 ∨ k = 19 ∨ k = 20 ∨ k = 21 ∨ k = 22 ∨ k = 23 ∨ k = 24 ∨ k = 25 ∨ k = 26) with rfl | rfl | rfl | rfl | rfl | rfl | rfl | rfl | rfl | rfl | rfl | rfl | rfl | rfl | rfl | rfl | rfl | rfl | rfl | rfl | rfl | rfl | rfl | rfl | rfl | rfl | rfl <;> rfl
theorem call_len {u : Nat} (h1 : 1 ≤ u) (h2 : u ≤ 7) : ((callT (funS u)).length : Int) - 1 = takeI ⟨20, u, 0⟩ := by
  rcases (by omega : u = 1 ∨ u = 2 ∨ u = 3 ∨ u = 4 ∨ u = 5 ∨ u = 6 ∨ u = 7) with rfl | rfl | rfl | rfl | rfl | rfl | rfl <;> (unfold callT; rw [funS_list]; rfl)
set_option maxRecDepth 100000 in
set_option maxHeartbeats 8000000 in
theorem impl_taken (o u v : Int) (h1 : 1 ≤ o) (h2 : o ≤ 26) (h20 : o = 20 → 1 ≤ u ∧ u ≤ 7) (w : World) (hF : FunW w) (hS : ShaW w) :
    Calls Tryd.prog 49 #[.agg #[.int .i64 o, .int .i64 u, .int .i64 v]] w fun e w' => e = .returned (.int .i64 (takeI ⟨o, u, v⟩)) ∧ Below w.heap.size w w' := by
  have HB : Hid (Below w.heap.size w (w.alloc (.cells #[.int .i64 o, .int .i64 u, .int .i64 v] 38))) := (Below.refl _ _).alloc (Nat.le_refl _) _
  by_cases e20 : o = 20
  · subst e20
    obtain ⟨u1, u2⟩ := h20 rfl
    obtain ⟨k, rfl⟩ : ∃ k : Nat, u = (k : Int) := ⟨u.toNat, by omega⟩
    have k1 : 1 ≤ k := by omega
    have k2 : k ≤ 7 := by omega
    have HE : Hid (takeI ⟨20, k, v⟩ = ((callT (funS k)).length : Int) - 1) := (call_len k1 k2).symm
    have c0 := (hF.below HB.out) k (by omega)
    have HC := fun W => impl_callT (funS k) W
    have hl := callT_len (funS k)
    have hl1 : 1 ≤ (callT (funS k)).length := by have := call_len k1 k2; have := (take_range ⟨20, k, 0⟩).1; omega
    clear h1 h2 h20 hF hS u1 u2
    generalize callT (funS k) = l at *
    generalize funS k = X at *
    have HC : Hid (∀ W, Calls Tryd.prog 50 #[.string X] W fun e w' => IntsOut W l e w') := HC
    have hw : IntKind.i64.wrap ((l.length : Int) - 1) = (l.length : Int) - 1 := IntWalk.i64_in _ (by omega)
    have hk8 : k < 8 := by omega
    go_enter Tryd.func49, Tryd.ntmps49
    go_wp2_with fail
    refine (HC.out _).mono ?_
    rintro e w1 ⟨a, cap, rfl, _, _, hb⟩
    have HB1 : Hid (Below w.heap.size w w1) := HB.out.trans (hb.mono HB.out.size)
    clear hb
    go_wp2_with fail
    go_ret
    exact ⟨ret_int HE.out.symm, HB1.out⟩
  · have t20 : (o == 20) = false := beq_eq_false_iff_ne.2 e20
    obtain ⟨k, rfl⟩ : ∃ k : Nat, o = (k : Int) := ⟨o.toNat, by omega⟩
    have hk : k < 27 := by omega
    have HE : Hid (takeI ⟨(k : Int), u, v⟩ = (shp k).t) := by
      unfold Hid takeI
      rw [if_neg e20, take_shp k hk (by omega)]
    obtain ⟨c0, c1, c2, c3, c4, c5⟩ := (hS.below HB.out) k hk
    clear h1 h2 h20 hF hS e20 c0 c1 c2 c4 c5
    generalize (shp k).t = T at *
    go_enter Tryd.func49, Tryd.ntmps49
    go_wp2_with fail
    go_ret
    exact ⟨ret_int HE.out.symm, HB.out⟩
theorem spec_calls (w : World) :
    Calls Tryd.prog 19 #[] w fun e w' => e = .returned (.slice (some ⟨w.heap.size, 0, none⟩) 7 7) ∧ (∀ k, k < 7 → w'.cell? ⟨w.heap.size, k, none⟩ = some (.string (funS (k + 1)))) ∧ w.heap.size < w'.heap.size ∧ Below w.heap.size w w' := by
  have HT : Hid (∀ k, k < 7 → (w.alloc (.cells #[.string ⟨#[105, 110, 116, 101, 114, 101, 115, 116]⟩, .string ⟨#[105, 110, 115, 116, 97, 108, 109, 101, 110, 116]⟩, .string ⟨#[108, 97, 116, 101, 114]⟩, .string ⟨#[100, 97, 121, 115]⟩, .string ⟨#[108, 101, 97, 115, 116]⟩, .string ⟨#[109, 111, 115, 116]⟩, .string ⟨#[115, 104, 97, 114, 101]⟩] 9)).cell? ⟨w.heap.size, k, none⟩ = some (.string (funS (k + 1)))) := fun k hk => by
    rw [World.cell?_alloc_new]
    rcases (by omega : k = 0 ∨ k = 1 ∨ k = 2 ∨ k = 3 ∨ k = 4 ∨ k = 5 ∨ k = 6) with rfl | rfl | rfl | rfl | rfl | rfl | rfl <;> rfl
  go_enter Tryd.func19, Tryd.ntmps19
  go_wp2_with fail
  go_ret
  exact ⟨rfl, HT.out, by simp, (Below.refl _ _).alloc (Nat.le_refl _) _⟩
theorem takeI_at (o u v : Int) (h : ¬ o = 20) : takeI ⟨o, u, v⟩ = takeO o := by unfold takeI; rw [if_neg h]
set_option maxRecDepth 100000 in
set_option maxHeartbeats 8000000 in
theorem spec_takes (o u v : Int) (h1 : 1 ≤ o) (h2 : o ≤ 26) (h20 : o = 20 → 1 ≤ u ∧ u ≤ 7) (w : World) :
    Calls Tryd.prog 35 #[.agg #[.int .i64 o, .int .i64 u, .int .i64 v]] w fun e w' => e = .returned (.tuple #[.int .i64 (takeI ⟨o, u, v⟩), .int .i64 (putI ⟨o, u, v⟩)]) ∧ Below w.heap.size w w' := by
  have HB : Hid (Below w.heap.size w (w.alloc (.cells #[.int .i64 o, .int .i64 u, .int .i64 v] 38))) := (Below.refl _ _).alloc (Nat.le_refl _) _
  by_cases e20 : o = 20
  · subst e20
    obtain ⟨u1, u2⟩ := h20 rfl
    have HW : Hid (∀ W, Calls Tryd.prog 19 #[] W fun e w' => e = .returned (.slice (some ⟨W.heap.size, 0, none⟩) 7 7) ∧ (∀ k, k < 7 → w'.cell? ⟨W.heap.size, k, none⟩ = some (.string (funS (k + 1)))) ∧ W.heap.size < w'.heap.size ∧ Below W.heap.size W w') := fun W => spec_calls W
    have HC0 : Hid (∀ X W, Calls Tryd.prog 41 #[.string X] W fun e w' => IntsOut W (callT X) e w') := fun X W => spec_callT X W
    have HCL : Hid (∀ u : Nat, 1 ≤ u → u ≤ 7 → ((callT (funS u)).length : Int) - 1 = takeI ⟨20, u, 0⟩) := fun u => call_len
    clear h1 h2 h20
    by_cases c1 : u = 1
    · subst c1
      have HE : Hid (takeI ⟨20, 1, v⟩ = ((callT (funS 1)).length : Int) - 1 ∧ putI ⟨20, 1, v⟩ = 1) := ⟨(HCL.out 1 (by omega) (by omega)).symm, rfl⟩
      have hl := callT_len (funS 1)
      have hl1 : 1 ≤ (callT (funS 1)).length := by have := HCL.out 1 (by omega) (by omega); have := (take_range ⟨20, ((1 : Nat) : Int), 0⟩).1; omega
      have HC : Hid (∀ W, Calls Tryd.prog 41 #[.string (funS 1)] W fun e w' => IntsOut W (callT (funS 1)) e w') := fun W => HC0.out _ W
      generalize callT (funS 1) = l at *
      have hw : IntKind.i64.wrap ((l.length : Int) - 1) = (l.length : Int) - 1 := IntWalk.i64_in _ (by omega)
      clear u1 u2 HCL HC0
      go_enter Tryd.func35, Tryd.ntmps35
      go_wp2_with fail
      go_region_with (first | (go_at_call 19; refine (HW.out _).mono ?_; rintro e w2 ⟨rfl, hc2, hlt2, hb2⟩; have HB2 : Hid (Below w.heap.size w w2) := (by first | exact HB.out.trans (hb2.mono HB.out.size) | exact HB.out.drew.trans (hb2.mono (by simp))); have d1 := hc2 0 (by omega); simp at d1; have b1 : w2.cell? ⟨w.heap.size, 1, none⟩ = some (.int .i64 1) := ((by first | exact hb2.cell (p := ⟨w.heap.size, 1, none⟩) (by simp)) : w2.cell? ⟨w.heap.size, 1, none⟩ = _).trans (by simp)) | (go_at_call 41; refine (HC.out _).mono ?_; rintro e w3 ⟨a, cap, rfl, _, _, hb3⟩; have HB3 : Hid (Below w.heap.size w w3) := (by first | exact HB2.out.trans (hb3.mono HB2.out.size) | exact HB2.out.drew.trans (hb3.mono (by simpa using HB2.out.size)))))
      all_goals
        go_wp2_with fail
        refine bodyPost_ret (v := .tuple #[.int .i64 ((l.length : Int) - 1), .int .i64 1]) ?_ rfl ⟨by rw [HE.out.1, HE.out.2], by first | exact HB3.out | exact HB3.out.drew⟩
        simp [results, Tryd.results35, go_sem]
    by_cases c2 : u = 2
    · subst c2
      have HE : Hid (takeI ⟨20, 2, v⟩ = ((callT (funS 2)).length : Int) - 1 ∧ putI ⟨20, 2, v⟩ = 1) := ⟨(HCL.out 2 (by omega) (by omega)).symm, rfl⟩
      have hl := callT_len (funS 2)
      have hl1 : 1 ≤ (callT (funS 2)).length := by have := HCL.out 2 (by omega) (by omega); have := (take_range ⟨20, ((2 : Nat) : Int), 0⟩).1; omega
      have HC : Hid (∀ W, Calls Tryd.prog 41 #[.string (funS 2)] W fun e w' => IntsOut W (callT (funS 2)) e w') := fun W => HC0.out _ W
      generalize callT (funS 2) = l at *
      have hw : IntKind.i64.wrap ((l.length : Int) - 1) = (l.length : Int) - 1 := IntWalk.i64_in _ (by omega)
      clear u1 u2 HCL HC0
      go_enter Tryd.func35, Tryd.ntmps35
      go_wp2_with fail
      go_region_with (first | (go_at_call 19; refine (HW.out _).mono ?_; rintro e w2 ⟨rfl, hc2, hlt2, hb2⟩; have HB2 : Hid (Below w.heap.size w w2) := (by first | exact HB.out.trans (hb2.mono HB.out.size) | exact HB.out.drew.trans (hb2.mono (by simp))); have d1 := hc2 1 (by omega); simp at d1; have b1 : w2.cell? ⟨w.heap.size, 1, none⟩ = some (.int .i64 2) := ((by first | exact hb2.cell (p := ⟨w.heap.size, 1, none⟩) (by simp)) : w2.cell? ⟨w.heap.size, 1, none⟩ = _).trans (by simp)) | (go_at_call 41; refine (HC.out _).mono ?_; rintro e w3 ⟨a, cap, rfl, _, _, hb3⟩; have HB3 : Hid (Below w.heap.size w w3) := (by first | exact HB2.out.trans (hb3.mono HB2.out.size) | exact HB2.out.drew.trans (hb3.mono (by simpa using HB2.out.size)))))
      all_goals
        go_wp2_with fail
        refine bodyPost_ret (v := .tuple #[.int .i64 ((l.length : Int) - 1), .int .i64 1]) ?_ rfl ⟨by rw [HE.out.1, HE.out.2], by first | exact HB3.out | exact HB3.out.drew⟩
        simp [results, Tryd.results35, go_sem]
    by_cases c3 : u = 3
    · subst c3
      have HE : Hid (takeI ⟨20, 3, v⟩ = ((callT (funS 3)).length : Int) - 1 ∧ putI ⟨20, 3, v⟩ = 1) := ⟨(HCL.out 3 (by omega) (by omega)).symm, rfl⟩
      have hl := callT_len (funS 3)
      have hl1 : 1 ≤ (callT (funS 3)).length := by have := HCL.out 3 (by omega) (by omega); have := (take_range ⟨20, ((3 : Nat) : Int), 0⟩).1; omega
      have HC : Hid (∀ W, Calls Tryd.prog 41 #[.string (funS 3)] W fun e w' => IntsOut W (callT (funS 3)) e w') := fun W => HC0.out _ W
      generalize callT (funS 3) = l at *
      have hw : IntKind.i64.wrap ((l.length : Int) - 1) = (l.length : Int) - 1 := IntWalk.i64_in _ (by omega)
      clear u1 u2 HCL HC0
      go_enter Tryd.func35, Tryd.ntmps35
      go_wp2_with fail
      go_region_with (first | (go_at_call 19; refine (HW.out _).mono ?_; rintro e w2 ⟨rfl, hc2, hlt2, hb2⟩; have HB2 : Hid (Below w.heap.size w w2) := (by first | exact HB.out.trans (hb2.mono HB.out.size) | exact HB.out.drew.trans (hb2.mono (by simp))); have d1 := hc2 2 (by omega); simp at d1; have b1 : w2.cell? ⟨w.heap.size, 1, none⟩ = some (.int .i64 3) := ((by first | exact hb2.cell (p := ⟨w.heap.size, 1, none⟩) (by simp)) : w2.cell? ⟨w.heap.size, 1, none⟩ = _).trans (by simp)) | (go_at_call 41; refine (HC.out _).mono ?_; rintro e w3 ⟨a, cap, rfl, _, _, hb3⟩; have HB3 : Hid (Below w.heap.size w w3) := (by first | exact HB2.out.trans (hb3.mono HB2.out.size) | exact HB2.out.drew.trans (hb3.mono (by simpa using HB2.out.size)))))
      all_goals
        go_wp2_with fail
        refine bodyPost_ret (v := .tuple #[.int .i64 ((l.length : Int) - 1), .int .i64 1]) ?_ rfl ⟨by rw [HE.out.1, HE.out.2], by first | exact HB3.out | exact HB3.out.drew⟩
        simp [results, Tryd.results35, go_sem]
    by_cases c4 : u = 4
    · subst c4
      have HE : Hid (takeI ⟨20, 4, v⟩ = ((callT (funS 4)).length : Int) - 1 ∧ putI ⟨20, 4, v⟩ = 1) := ⟨(HCL.out 4 (by omega) (by omega)).symm, rfl⟩
      have hl := callT_len (funS 4)
      have hl1 : 1 ≤ (callT (funS 4)).length := by have := HCL.out 4 (by omega) (by omega); have := (take_range ⟨20, ((4 : Nat) : Int), 0⟩).1; omega
      have HC : Hid (∀ W, Calls Tryd.prog 41 #[.string (funS 4)] W fun e w' => IntsOut W (callT (funS 4)) e w') := fun W => HC0.out _ W
      generalize callT (funS 4) = l at *
      have hw : IntKind.i64.wrap ((l.length : Int) - 1) = (l.length : Int) - 1 := IntWalk.i64_in _ (by omega)
      clear u1 u2 HCL HC0
      go_enter Tryd.func35, Tryd.ntmps35
      go_wp2_with fail
      go_region_with (first | (go_at_call 19; refine (HW.out _).mono ?_; rintro e w2 ⟨rfl, hc2, hlt2, hb2⟩; have HB2 : Hid (Below w.heap.size w w2) := (by first | exact HB.out.trans (hb2.mono HB.out.size) | exact HB.out.drew.trans (hb2.mono (by simp))); have d1 := hc2 3 (by omega); simp at d1; have b1 : w2.cell? ⟨w.heap.size, 1, none⟩ = some (.int .i64 4) := ((by first | exact hb2.cell (p := ⟨w.heap.size, 1, none⟩) (by simp)) : w2.cell? ⟨w.heap.size, 1, none⟩ = _).trans (by simp)) | (go_at_call 41; refine (HC.out _).mono ?_; rintro e w3 ⟨a, cap, rfl, _, _, hb3⟩; have HB3 : Hid (Below w.heap.size w w3) := (by first | exact HB2.out.trans (hb3.mono HB2.out.size) | exact HB2.out.drew.trans (hb3.mono (by simpa using HB2.out.size)))))
      all_goals
        go_wp2_with fail
        refine bodyPost_ret (v := .tuple #[.int .i64 ((l.length : Int) - 1), .int .i64 1]) ?_ rfl ⟨by rw [HE.out.1, HE.out.2], by first | exact HB3.out | exact HB3.out.drew⟩
        simp [results, Tryd.results35, go_sem]
    by_cases c5 : u = 5
    · subst c5
      have HE : Hid (takeI ⟨20, 5, v⟩ = ((callT (funS 5)).length : Int) - 1 ∧ putI ⟨20, 5, v⟩ = 1) := ⟨(HCL.out 5 (by omega) (by omega)).symm, rfl⟩
      have hl := callT_len (funS 5)
      have hl1 : 1 ≤ (callT (funS 5)).length := by have := HCL.out 5 (by omega) (by omega); have := (take_range ⟨20, ((5 : Nat) : Int), 0⟩).1; omega
      have HC : Hid (∀ W, Calls Tryd.prog 41 #[.string (funS 5)] W fun e w' => IntsOut W (callT (funS 5)) e w') := fun W => HC0.out _ W
      generalize callT (funS 5) = l at *
      have hw : IntKind.i64.wrap ((l.length : Int) - 1) = (l.length : Int) - 1 := IntWalk.i64_in _ (by omega)
      clear u1 u2 HCL HC0
      go_enter Tryd.func35, Tryd.ntmps35
      go_wp2_with fail
      go_region_with (first | (go_at_call 19; refine (HW.out _).mono ?_; rintro e w2 ⟨rfl, hc2, hlt2, hb2⟩; have HB2 : Hid (Below w.heap.size w w2) := (by first | exact HB.out.trans (hb2.mono HB.out.size) | exact HB.out.drew.trans (hb2.mono (by simp))); have d1 := hc2 4 (by omega); simp at d1; have b1 : w2.cell? ⟨w.heap.size, 1, none⟩ = some (.int .i64 5) := ((by first | exact hb2.cell (p := ⟨w.heap.size, 1, none⟩) (by simp)) : w2.cell? ⟨w.heap.size, 1, none⟩ = _).trans (by simp)) | (go_at_call 41; refine (HC.out _).mono ?_; rintro e w3 ⟨a, cap, rfl, _, _, hb3⟩; have HB3 : Hid (Below w.heap.size w w3) := (by first | exact HB2.out.trans (hb3.mono HB2.out.size) | exact HB2.out.drew.trans (hb3.mono (by simpa using HB2.out.size)))))
      all_goals
        go_wp2_with fail
        refine bodyPost_ret (v := .tuple #[.int .i64 ((l.length : Int) - 1), .int .i64 1]) ?_ rfl ⟨by rw [HE.out.1, HE.out.2], by first | exact HB3.out | exact HB3.out.drew⟩
        simp [results, Tryd.results35, go_sem]
    by_cases c6 : u = 6
    · subst c6
      have HE : Hid (takeI ⟨20, 6, v⟩ = ((callT (funS 6)).length : Int) - 1 ∧ putI ⟨20, 6, v⟩ = 1) := ⟨(HCL.out 6 (by omega) (by omega)).symm, rfl⟩
      have hl := callT_len (funS 6)
      have hl1 : 1 ≤ (callT (funS 6)).length := by have := HCL.out 6 (by omega) (by omega); have := (take_range ⟨20, ((6 : Nat) : Int), 0⟩).1; omega
      have HC : Hid (∀ W, Calls Tryd.prog 41 #[.string (funS 6)] W fun e w' => IntsOut W (callT (funS 6)) e w') := fun W => HC0.out _ W
      generalize callT (funS 6) = l at *
      have hw : IntKind.i64.wrap ((l.length : Int) - 1) = (l.length : Int) - 1 := IntWalk.i64_in _ (by omega)
      clear u1 u2 HCL HC0
      go_enter Tryd.func35, Tryd.ntmps35
      go_wp2_with fail
      go_region_with (first | (go_at_call 19; refine (HW.out _).mono ?_; rintro e w2 ⟨rfl, hc2, hlt2, hb2⟩; have HB2 : Hid (Below w.heap.size w w2) := (by first | exact HB.out.trans (hb2.mono HB.out.size) | exact HB.out.drew.trans (hb2.mono (by simp))); have d1 := hc2 5 (by omega); simp at d1; have b1 : w2.cell? ⟨w.heap.size, 1, none⟩ = some (.int .i64 6) := ((by first | exact hb2.cell (p := ⟨w.heap.size, 1, none⟩) (by simp)) : w2.cell? ⟨w.heap.size, 1, none⟩ = _).trans (by simp)) | (go_at_call 41; refine (HC.out _).mono ?_; rintro e w3 ⟨a, cap, rfl, _, _, hb3⟩; have HB3 : Hid (Below w.heap.size w w3) := (by first | exact HB2.out.trans (hb3.mono HB2.out.size) | exact HB2.out.drew.trans (hb3.mono (by simpa using HB2.out.size)))))
      all_goals
        go_wp2_with fail
        refine bodyPost_ret (v := .tuple #[.int .i64 ((l.length : Int) - 1), .int .i64 1]) ?_ rfl ⟨by rw [HE.out.1, HE.out.2], by first | exact HB3.out | exact HB3.out.drew⟩
        simp [results, Tryd.results35, go_sem]
    by_cases c7 : u = 7
    · subst c7
      have HE : Hid (takeI ⟨20, 7, v⟩ = ((callT (funS 7)).length : Int) - 1 ∧ putI ⟨20, 7, v⟩ = 1) := ⟨(HCL.out 7 (by omega) (by omega)).symm, rfl⟩
      have hl := callT_len (funS 7)
      have hl1 : 1 ≤ (callT (funS 7)).length := by have := HCL.out 7 (by omega) (by omega); have := (take_range ⟨20, ((7 : Nat) : Int), 0⟩).1; omega
      have HC : Hid (∀ W, Calls Tryd.prog 41 #[.string (funS 7)] W fun e w' => IntsOut W (callT (funS 7)) e w') := fun W => HC0.out _ W
      generalize callT (funS 7) = l at *
      have hw : IntKind.i64.wrap ((l.length : Int) - 1) = (l.length : Int) - 1 := IntWalk.i64_in _ (by omega)
      clear u1 u2 HCL HC0
      go_enter Tryd.func35, Tryd.ntmps35
      go_wp2_with fail
      go_region_with (first | (go_at_call 19; refine (HW.out _).mono ?_; rintro e w2 ⟨rfl, hc2, hlt2, hb2⟩; have HB2 : Hid (Below w.heap.size w w2) := (by first | exact HB.out.trans (hb2.mono HB.out.size) | exact HB.out.drew.trans (hb2.mono (by simp))); have d1 := hc2 6 (by omega); simp at d1; have b1 : w2.cell? ⟨w.heap.size, 1, none⟩ = some (.int .i64 7) := ((by first | exact hb2.cell (p := ⟨w.heap.size, 1, none⟩) (by simp)) : w2.cell? ⟨w.heap.size, 1, none⟩ = _).trans (by simp)) | (go_at_call 41; refine (HC.out _).mono ?_; rintro e w3 ⟨a, cap, rfl, _, _, hb3⟩; have HB3 : Hid (Below w.heap.size w w3) := (by first | exact HB2.out.trans (hb3.mono HB2.out.size) | exact HB2.out.drew.trans (hb3.mono (by simpa using HB2.out.size)))))
      all_goals
        go_wp2_with fail
        refine bodyPost_ret (v := .tuple #[.int .i64 ((l.length : Int) - 1), .int .i64 1]) ?_ rfl ⟨by rw [HE.out.1, HE.out.2], by first | exact HB3.out | exact HB3.out.drew⟩
        simp [results, Tryd.results35, go_sem]
    omega
  by_cases e1 : o = 1
  · subst e1
    go_enter Tryd.func35, Tryd.ntmps35
    go_wp2_with fail
    refine bodyPost_ret (v := .tuple #[.int .i64 (takeO 1), .int .i64 (putO 1)]) ?_ rfl ⟨by rw [takeI_at _ _ _ (by omega)]; rfl, HB.out⟩
    simp [results, Tryd.results35, go_sem, takeO, putO]
  by_cases e2 : o = 2
  · subst e2
    go_enter Tryd.func35, Tryd.ntmps35
    go_wp2_with fail
    refine bodyPost_ret (v := .tuple #[.int .i64 (takeO 2), .int .i64 (putO 2)]) ?_ rfl ⟨by rw [takeI_at _ _ _ (by omega)]; rfl, HB.out⟩
    simp [results, Tryd.results35, go_sem, takeO, putO]
  by_cases e3 : o = 3
  · subst e3
    go_enter Tryd.func35, Tryd.ntmps35
    go_wp2_with fail
    refine bodyPost_ret (v := .tuple #[.int .i64 (takeO 3), .int .i64 (putO 3)]) ?_ rfl ⟨by rw [takeI_at _ _ _ (by omega)]; rfl, HB.out⟩
    simp [results, Tryd.results35, go_sem, takeO, putO]
  by_cases e4 : o = 4
  · subst e4
    go_enter Tryd.func35, Tryd.ntmps35
    go_wp2_with fail
    refine bodyPost_ret (v := .tuple #[.int .i64 (takeO 4), .int .i64 (putO 4)]) ?_ rfl ⟨by rw [takeI_at _ _ _ (by omega)]; rfl, HB.out⟩
    simp [results, Tryd.results35, go_sem, takeO, putO]
  by_cases e5 : o = 5
  · subst e5
    go_enter Tryd.func35, Tryd.ntmps35
    go_wp2_with fail
    refine bodyPost_ret (v := .tuple #[.int .i64 (takeO 5), .int .i64 (putO 5)]) ?_ rfl ⟨by rw [takeI_at _ _ _ (by omega)]; rfl, HB.out⟩
    simp [results, Tryd.results35, go_sem, takeO, putO]
  by_cases e6 : o = 6
  · subst e6
    go_enter Tryd.func35, Tryd.ntmps35
    go_wp2_with fail
    refine bodyPost_ret (v := .tuple #[.int .i64 (takeO 6), .int .i64 (putO 6)]) ?_ rfl ⟨by rw [takeI_at _ _ _ (by omega)]; rfl, HB.out⟩
    simp [results, Tryd.results35, go_sem, takeO, putO]
  by_cases e7 : o = 7
  · subst e7
    go_enter Tryd.func35, Tryd.ntmps35
    go_wp2_with fail
    refine bodyPost_ret (v := .tuple #[.int .i64 (takeO 7), .int .i64 (putO 7)]) ?_ rfl ⟨by rw [takeI_at _ _ _ (by omega)]; rfl, HB.out⟩
    simp [results, Tryd.results35, go_sem, takeO, putO]
  by_cases e8 : o = 8
  · subst e8
    go_enter Tryd.func35, Tryd.ntmps35
    go_wp2_with fail
    refine bodyPost_ret (v := .tuple #[.int .i64 (takeO 8), .int .i64 (putO 8)]) ?_ rfl ⟨by rw [takeI_at _ _ _ (by omega)]; rfl, HB.out⟩
    simp [results, Tryd.results35, go_sem, takeO, putO]
  by_cases e9 : o = 9
  · subst e9
    go_enter Tryd.func35, Tryd.ntmps35
    go_wp2_with fail
    refine bodyPost_ret (v := .tuple #[.int .i64 (takeO 9), .int .i64 (putO 9)]) ?_ rfl ⟨by rw [takeI_at _ _ _ (by omega)]; rfl, HB.out⟩
    simp [results, Tryd.results35, go_sem, takeO, putO]
  by_cases e10 : o = 10
  · subst e10
    go_enter Tryd.func35, Tryd.ntmps35
    go_wp2_with fail
    refine bodyPost_ret (v := .tuple #[.int .i64 (takeO 10), .int .i64 (putO 10)]) ?_ rfl ⟨by rw [takeI_at _ _ _ (by omega)]; rfl, HB.out⟩
    simp [results, Tryd.results35, go_sem, takeO, putO]
  by_cases e11 : o = 11
  · subst e11
    go_enter Tryd.func35, Tryd.ntmps35
    go_wp2_with fail
    refine bodyPost_ret (v := .tuple #[.int .i64 (takeO 11), .int .i64 (putO 11)]) ?_ rfl ⟨by rw [takeI_at _ _ _ (by omega)]; rfl, HB.out⟩
    simp [results, Tryd.results35, go_sem, takeO, putO]
  by_cases e12 : o = 12
  · subst e12
    go_enter Tryd.func35, Tryd.ntmps35
    go_wp2_with fail
    refine bodyPost_ret (v := .tuple #[.int .i64 (takeO 12), .int .i64 (putO 12)]) ?_ rfl ⟨by rw [takeI_at _ _ _ (by omega)]; rfl, HB.out⟩
    simp [results, Tryd.results35, go_sem, takeO, putO]
  by_cases e13 : o = 13
  · subst e13
    go_enter Tryd.func35, Tryd.ntmps35
    go_wp2_with fail
    refine bodyPost_ret (v := .tuple #[.int .i64 (takeO 13), .int .i64 (putO 13)]) ?_ rfl ⟨by rw [takeI_at _ _ _ (by omega)]; rfl, HB.out⟩
    simp [results, Tryd.results35, go_sem, takeO, putO]
  by_cases e14 : o = 14
  · subst e14
    go_enter Tryd.func35, Tryd.ntmps35
    go_wp2_with fail
    refine bodyPost_ret (v := .tuple #[.int .i64 (takeO 14), .int .i64 (putO 14)]) ?_ rfl ⟨by rw [takeI_at _ _ _ (by omega)]; rfl, HB.out⟩
    simp [results, Tryd.results35, go_sem, takeO, putO]
  by_cases e15 : o = 15
  · subst e15
    go_enter Tryd.func35, Tryd.ntmps35
    go_wp2_with fail
    refine bodyPost_ret (v := .tuple #[.int .i64 (takeO 15), .int .i64 (putO 15)]) ?_ rfl ⟨by rw [takeI_at _ _ _ (by omega)]; rfl, HB.out⟩
    simp [results, Tryd.results35, go_sem, takeO, putO]
  by_cases e16 : o = 16
  · subst e16
    go_enter Tryd.func35, Tryd.ntmps35
    go_wp2_with fail
    refine bodyPost_ret (v := .tuple #[.int .i64 (takeO 16), .int .i64 (putO 16)]) ?_ rfl ⟨by rw [takeI_at _ _ _ (by omega)]; rfl, HB.out⟩
    simp [results, Tryd.results35, go_sem, takeO, putO]
  by_cases e17 : o = 17
  · subst e17
    go_enter Tryd.func35, Tryd.ntmps35
    go_wp2_with fail
    refine bodyPost_ret (v := .tuple #[.int .i64 (takeO 17), .int .i64 (putO 17)]) ?_ rfl ⟨by rw [takeI_at _ _ _ (by omega)]; rfl, HB.out⟩
    simp [results, Tryd.results35, go_sem, takeO, putO]
  by_cases e18 : o = 18
  · subst e18
    go_enter Tryd.func35, Tryd.ntmps35
    go_wp2_with fail
    refine bodyPost_ret (v := .tuple #[.int .i64 (takeO 18), .int .i64 (putO 18)]) ?_ rfl ⟨by rw [takeI_at _ _ _ (by omega)]; rfl, HB.out⟩
    simp [results, Tryd.results35, go_sem, takeO, putO]
  by_cases e19 : o = 19
  · subst e19
    go_enter Tryd.func35, Tryd.ntmps35
    go_wp2_with fail
    refine bodyPost_ret (v := .tuple #[.int .i64 (takeO 19), .int .i64 (putO 19)]) ?_ rfl ⟨by rw [takeI_at _ _ _ (by omega)]; rfl, HB.out⟩
    simp [results, Tryd.results35, go_sem, takeO, putO]
  by_cases e21 : o = 21
  · subst e21
    go_enter Tryd.func35, Tryd.ntmps35
    go_wp2_with fail
    refine bodyPost_ret (v := .tuple #[.int .i64 (takeO 21), .int .i64 (putO 21)]) ?_ rfl ⟨by rw [takeI_at _ _ _ (by omega)]; rfl, HB.out⟩
    simp [results, Tryd.results35, go_sem, takeO, putO]
  by_cases e22 : o = 22
  · subst e22
    go_enter Tryd.func35, Tryd.ntmps35
    go_wp2_with fail
    refine bodyPost_ret (v := .tuple #[.int .i64 (takeO 22), .int .i64 (putO 22)]) ?_ rfl ⟨by rw [takeI_at _ _ _ (by omega)]; rfl, HB.out⟩
    simp [results, Tryd.results35, go_sem, takeO, putO]
  by_cases e23 : o = 23
  · subst e23
    go_enter Tryd.func35, Tryd.ntmps35
    go_wp2_with fail
    refine bodyPost_ret (v := .tuple #[.int .i64 (takeO 23), .int .i64 (putO 23)]) ?_ rfl ⟨by rw [takeI_at _ _ _ (by omega)]; rfl, HB.out⟩
    simp [results, Tryd.results35, go_sem, takeO, putO]
  by_cases e24 : o = 24
  · subst e24
    go_enter Tryd.func35, Tryd.ntmps35
    go_wp2_with fail
    refine bodyPost_ret (v := .tuple #[.int .i64 (takeO 24), .int .i64 (putO 24)]) ?_ rfl ⟨by rw [takeI_at _ _ _ (by omega)]; rfl, HB.out⟩
    simp [results, Tryd.results35, go_sem, takeO, putO]
  by_cases e25 : o = 25
  · subst e25
    go_enter Tryd.func35, Tryd.ntmps35
    go_wp2_with fail
    refine bodyPost_ret (v := .tuple #[.int .i64 (takeO 25), .int .i64 (putO 25)]) ?_ rfl ⟨by rw [takeI_at _ _ _ (by omega)]; rfl, HB.out⟩
    simp [results, Tryd.results35, go_sem, takeO, putO]
  by_cases e26 : o = 26
  · subst e26
    go_enter Tryd.func35, Tryd.ntmps35
    go_wp2_with fail
    refine bodyPost_ret (v := .tuple #[.int .i64 (takeO 26), .int .i64 (putO 26)]) ?_ rfl ⟨by rw [takeI_at _ _ _ (by omega)]; rfl, HB.out⟩
    simp [results, Tryd.results35, go_sem, takeO, putO]
  omega
end Go.Proofs.YtdbahildcecgbaaDoor
