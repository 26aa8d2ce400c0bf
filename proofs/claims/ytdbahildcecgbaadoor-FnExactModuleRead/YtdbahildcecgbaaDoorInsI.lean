/- Right instructions: what the program's and the model's looks at one answer. -/
import Derived.Test.YtdbahildcecgbaaDoorInsR
import Derived.Test.YtdbahildcecgbaaDoorOpN
import Derived.Test.YtdbahildcecgbaaDoorRight
import Derived.BigQuiet
namespace Go.Proofs.YtdbahildcecgbaaDoor
open Go.RowKit
open Go.Proofs.YtdbahildcecgbaaDoor.Draw

/-- From where to where an operand goes (the end is not in it). -/
def bndO (z1 z2 z3 : Int) (n : Nat) (k : Int) : Int × Int := if k = 1 then (-1000000000000, 1000000000001) else if k = 2 then (0, 50) else if k = 3 then (0, z3) else if k = 4 then (0, z1) else if k = 5 then (1, 8) else if k = 6 then (0, (n : Int)) else if k = 7 then (0, z2) else if k = 8 then (1, 100) else (0, 1)
def opnB (z1 z2 z3 : Int) (n : Nat) (k x : Int) : Bool := decide ((bndO z1 z2 z3 n k).1 ≤ x) && decide (x < (bndO z1 z2 z3 n k).2)
def insB (z1 z2 z3 : Int) (n : Nat) (o u v : Int) : Bool := decide (1 ≤ o) && (decide (o ≤ 26) && (opnB z1 z2 z3 n (shp o.toNat).a u && opnB z1 z2 z3 n (shp o.toNat).b v))
def inB (x l h : Int) : Bool := decide (l ≤ x) && decide (x ≤ h)
/-- As the model asks it, one op behind the other. -/
def insM (z1 z2 z3 : Int) (n : Nat) (o u v : Int) : Bool := if o ≠ 23 ∧ v ≠ 0 then false else if o = 2 then inB u (-1000000000000) 1000000000000 else if o = 3 then inB u 0 49 else if o = 4 then inB u 0 49 else if o = 5 then decide (0 ≤ u) && decide (u < z3) else if o = 6 then decide (0 ≤ u) && decide (u < z1) else if o = 20 then inB u 1 7 else if o = 21 then decide (0 ≤ u) && decide (u < (n : Int)) else if o = 22 then decide (0 ≤ u) && decide (u < (n : Int)) else if o = 23 then decide (0 ≤ u) && (decide (u < z2) && (decide (0 ≤ v) && decide (v < z2))) else if o = 24 then inB u 1 99 else decide (1 ≤ o) && (decide (o ≤ 26) && (u == 0))
theorem one_zero (x : Int) : (decide (0 ≤ x) && decide (x < 1)) = (x == 0) := by
  by_cases h : x = 0
  · subst h; rfl
  · rw [beq_eq_false_iff_ne.2 h]
    rcases (by omega : ¬ 0 ≤ x ∨ ¬ x < 1) with h1 | h1
    · rw [decide_eq_false h1]; rfl
    · rw [decide_eq_false h1, Bool.and_false]
theorem up_to (x l h : Int) : (decide (l ≤ x) && decide (x < h + 1)) = inB x l h := by
  unfold inB
  congr 1
  exact decide_eq_decide.2 (by omega)
set_option maxRecDepth 100000 in
theorem insM_eq (z1 z2 z3 : Int) (n : Nat) (o u v : Int) : insM z1 z2 z3 n o u v = insB z1 z2 z3 n o u v := by
  by_cases h : 1 ≤ o ∧ o ≤ 26
  rotate_left
  · have e : insB z1 z2 z3 n o u v = false := by
      unfold insB
      rcases (by omega : ¬ 1 ≤ o ∨ ¬ o ≤ 26) with h1 | h1
      · rw [decide_eq_false h1]; rfl
      · rw [decide_eq_false h1, Bool.false_and, Bool.and_false]
    rw [e]
    unfold insM
    split
    · rfl
    rw [if_neg (by omega), if_neg (by omega), if_neg (by omega), if_neg (by omega), if_neg (by omega), if_neg (by omega), if_neg (by omega), if_neg (by omega), if_neg (by omega), if_neg (by omega)]
    rcases (by omega : ¬ 1 ≤ o ∨ ¬ o ≤ 26) with h1 | h1
    · rw [decide_eq_false h1]; rfl
    · rw [decide_eq_false h1, Bool.false_and, Bool.and_false]
  have hin : ∀ k : Nat, (1 : Int) ≤ k → (k : Int) ≤ 26 → insM z1 z2 z3 n k u v = (opnB z1 z2 z3 n (shp k).a u && opnB z1 z2 z3 n (shp k).b v) := by
    intro k h1 h2
    by_cases hv : v = 0
    · subst hv
      rcases (by omega : k = 1 ∨ k = 2 ∨ k = 3 ∨ k = 4 ∨ k = 5 ∨ k = 6 ∨ k = 7 ∨ k = 8 ∨ k = 9 ∨ k = 10 ∨ k = 11 ∨ k = 12 ∨ k = 13 ∨ k = 14 ∨ k = 15 ∨ k = 16 ∨ k = 17 ∨ k = 18 ∨ k = 19 ∨ k = 20 ∨ k = 21 ∨ k = 22 ∨ k = 23 ∨ k = 24 ∨ k = 25 ∨ k = 26) with rfl | rfl | rfl | rfl | rfl | rfl | rfl | rfl | rfl | rfl | rfl | rfl | rfl | rfl | rfl | rfl | rfl | rfl | rfl | rfl | rfl | rfl | rfl | rfl | rfl | rfl
      · show (u == 0) = ((decide (0 ≤ u) && decide (u < 1)) && true)
        rw [one_zero, Bool.and_true]
      · show inB u (-1000000000000) 1000000000000 = ((decide (-1000000000000 ≤ u) && decide (u < 1000000000000 + 1)) && true)
        rw [up_to, Bool.and_true]
      · show inB u 0 49 = ((decide (0 ≤ u) && decide (u < 49 + 1)) && true)
        rw [up_to, Bool.and_true]
      · show inB u 0 49 = ((decide (0 ≤ u) && decide (u < 49 + 1)) && true)
        rw [up_to, Bool.and_true]
      · exact (Bool.and_true _).symm
      · exact (Bool.and_true _).symm
      · show (u == 0) = ((decide (0 ≤ u) && decide (u < 1)) && true)
        rw [one_zero, Bool.and_true]
      · show (u == 0) = ((decide (0 ≤ u) && decide (u < 1)) && true)
        rw [one_zero, Bool.and_true]
      · show (u == 0) = ((decide (0 ≤ u) && decide (u < 1)) && true)
        rw [one_zero, Bool.and_true]
      · show (u == 0) = ((decide (0 ≤ u) && decide (u < 1)) && true)
        rw [one_zero, Bool.and_true]
      · show (u == 0) = ((decide (0 ≤ u) && decide (u < 1)) && true)
        rw [one_zero, Bool.and_true]
      · show (u == 0) = ((decide (0 ≤ u) && decide (u < 1)) && true)
        rw [one_zero, Bool.and_true]
      · show (u == 0) = ((decide (0 ≤ u) && decide (u < 1)) && true)
        rw [one_zero, Bool.and_true]
      · show (u == 0) = ((decide (0 ≤ u) && decide (u < 1)) && true)
        rw [one_zero, Bool.and_true]
      · show (u == 0) = ((decide (0 ≤ u) && decide (u < 1)) && true)
        rw [one_zero, Bool.and_true]
      · show (u == 0) = ((decide (0 ≤ u) && decide (u < 1)) && true)
        rw [one_zero, Bool.and_true]
      · show (u == 0) = ((decide (0 ≤ u) && decide (u < 1)) && true)
        rw [one_zero, Bool.and_true]
      · show (u == 0) = ((decide (0 ≤ u) && decide (u < 1)) && true)
        rw [one_zero, Bool.and_true]
      · show (u == 0) = ((decide (0 ≤ u) && decide (u < 1)) && true)
        rw [one_zero, Bool.and_true]
      · show inB u 1 7 = ((decide (1 ≤ u) && decide (u < 7 + 1)) && true)
        rw [up_to, Bool.and_true]
      · exact (Bool.and_true _).symm
      · exact (Bool.and_true _).symm
      · exact (Bool.and_assoc _ _ _).symm
      · show inB u 1 99 = ((decide (1 ≤ u) && decide (u < 99 + 1)) && true)
        rw [up_to, Bool.and_true]
      · show (u == 0) = ((decide (0 ≤ u) && decide (u < 1)) && true)
        rw [one_zero, Bool.and_true]
      · show (u == 0) = ((decide (0 ≤ u) && decide (u < 1)) && true)
        rw [one_zero, Bool.and_true]
    · have hv' : (v == 0) = false := beq_eq_false_iff_ne.2 hv
      have hz : (decide (0 ≤ v) && decide (v < 1)) = false := by rw [one_zero, hv']
      by_cases h23 : k = 23
      · subst h23
        unfold insM
        rw [if_neg (by omega)]
        exact (Bool.and_assoc _ _ _).symm
      · unfold insM
        rw [if_pos ⟨by omega, hv⟩]
        have hb : (shp k).b = 0 := by
          rcases (by omega : k = 1 ∨ k = 2 ∨ k = 3 ∨ k = 4 ∨ k = 5 ∨ k = 6 ∨ k = 7 ∨ k = 8 ∨ k = 9 ∨ k = 10 ∨ k = 11 ∨ k = 12 ∨ k = 13 ∨ k = 14 ∨ k = 15 ∨ k = 16 ∨ k = 17 ∨ k = 18 ∨ k = 19 ∨ k = 20 ∨ k = 21 ∨ k = 22 ∨ k = 24 ∨ k = 25 ∨ k = 26) with rfl | rfl | rfl | rfl | rfl | rfl | rfl | rfl | rfl | rfl | rfl | rfl | rfl | rfl | rfl | rfl | rfl | rfl | rfl | rfl | rfl | rfl | rfl | rfl | rfl <;> rfl
        rw [hb]
        show false = (_ && (decide (0 ≤ v) && decide (v < 1)))
        rw [hz, Bool.and_false]
  obtain ⟨k, rfl⟩ : ∃ k : Nat, o = (k : Int) := ⟨o.toNat, by omega⟩
  rw [hin k h.1 h.2]
  unfold insB
  rw [decide_eq_true h.1, decide_eq_true h.2, Bool.true_and, Bool.true_and]
  rfl
theorem bnd_none {z1 z2 z3 : Int} {n : Nat} {k : Int} (h1 : ¬ k = 1) (h2 : ¬ k = 2) (h3 : ¬ k = 3) (h4 : ¬ k = 4) (h5 : ¬ k = 5) (h6 : ¬ k = 6) (h7 : ¬ k = 7) (h8 : ¬ k = 8) : bndO z1 z2 z3 n k = (0, 1) := by
  unfold bndO
  rw [if_neg h1, if_neg h2, if_neg h3, if_neg h4, if_neg h5, if_neg h6, if_neg h7, if_neg h8]
set_option maxRecDepth 100000 in
set_option maxHeartbeats 8000000 in
theorem impl_bounds (z0 z1 z2 z3 : Int) (a : Option Addr) (n c : Nat) (_hn : n ≤ 9223372036854775807) (k : Int) (w : World) :
    Calls Tryd.prog 48 #[.agg #[.int .i64 z0, .int .i64 z1, .int .i64 z2, .int .i64 z3, .slice a n c], .int .i64 k] w fun e w' => e = .returned (.tuple #[.int .i64 (bndO z1 z2 z3 n k).1, .int .i64 (bndO z1 z2 z3 n k).2]) ∧ Below w.heap.size w w' := by
  have HB : Hid (Below w.heap.size w (w.alloc (.cells #[.int .i64 z0, .int .i64 z1, .int .i64 z2, .int .i64 z3, .slice a n c] 24))) := (Below.refl _ _).alloc (Nat.le_refl _) _
  by_cases h1 : k = 1
  · subst h1
    have HE : Hid (bndO z1 z2 z3 n 1 = (-1000000000000, 1000000000001)) := rfl
    go_enter Tryd.func48, Tryd.ntmps48
    go_wp2_with fail
    refine bodyPost_ret (v := .tuple #[.int .i64 (-1000000000000), .int .i64 1000000000001]) ?_ rfl ⟨by rw [HE.out], HB.out⟩
    simp [results, Tryd.results48, go_sem]
  have t1 : (k == 1) = false := beq_eq_false_iff_ne.2 h1
  by_cases h2 : k = 2
  · subst h2
    have HE : Hid (bndO z1 z2 z3 n 2 = (0, 50)) := rfl
    go_enter Tryd.func48, Tryd.ntmps48
    go_wp2_with fail
    refine bodyPost_ret (v := .tuple #[.int .i64 (0), .int .i64 50]) ?_ rfl ⟨by rw [HE.out], HB.out⟩
    simp [results, Tryd.results48, go_sem]
  have t2 : (k == 2) = false := beq_eq_false_iff_ne.2 h2
  by_cases h3 : k = 3
  · subst h3
    have HE : Hid (bndO z1 z2 z3 n 3 = (0, z3)) := rfl
    go_enter Tryd.func48, Tryd.ntmps48
    go_wp2_with fail
    go_quiet (fail)
    go_wp2_with fail
    refine bodyPost_ret (v := .tuple #[.int .i64 (0), .int .i64 z3]) ?_ rfl ⟨by rw [HE.out], ⟨HB.out.os, HB.out.tape, HB.out.output, HB.out.size, HB.out.block⟩⟩
    simp [results, Tryd.results48, go_sem]
  have t3 : (k == 3) = false := beq_eq_false_iff_ne.2 h3
  by_cases h4 : k = 4
  · subst h4
    have HE : Hid (bndO z1 z2 z3 n 4 = (0, z1)) := rfl
    go_enter Tryd.func48, Tryd.ntmps48
    go_wp2_with fail
    go_quiet (fail)
    go_wp2_with fail
    refine bodyPost_ret (v := .tuple #[.int .i64 (0), .int .i64 z1]) ?_ rfl ⟨by rw [HE.out], ⟨HB.out.os, HB.out.tape, HB.out.output, HB.out.size, HB.out.block⟩⟩
    simp [results, Tryd.results48, go_sem]
  have t4 : (k == 4) = false := beq_eq_false_iff_ne.2 h4
  by_cases h5 : k = 5
  · subst h5
    have HE : Hid (bndO z1 z2 z3 n 5 = (1, 8)) := rfl
    go_enter Tryd.func48, Tryd.ntmps48
    go_wp2_with fail
    refine bodyPost_ret (v := .tuple #[.int .i64 (1), .int .i64 8]) ?_ rfl ⟨by rw [HE.out], HB.out⟩
    simp [results, Tryd.results48, go_sem]
  have t5 : (k == 5) = false := beq_eq_false_iff_ne.2 h5
  by_cases h6 : k = 6
  · subst h6
    have HE : Hid (bndO z1 z2 z3 n 6 = (0, (n : Int))) := rfl
    go_enter Tryd.func48, Tryd.ntmps48
    go_wp2_with fail
    go_quiet (fail)
    go_wp2_with fail
    refine bodyPost_ret (v := .tuple #[.int .i64 (0), .int .i64 (n : Int)]) ?_ rfl ⟨by rw [HE.out], ⟨HB.out.os, HB.out.tape, HB.out.output, HB.out.size, HB.out.block⟩⟩
    simp [results, Tryd.results48, go_sem]
  have t6 : (k == 6) = false := beq_eq_false_iff_ne.2 h6
  by_cases h7 : k = 7
  · subst h7
    have HE : Hid (bndO z1 z2 z3 n 7 = (0, z2)) := rfl
    go_enter Tryd.func48, Tryd.ntmps48
    go_wp2_with fail
    go_quiet (fail)
    go_wp2_with fail
    refine bodyPost_ret (v := .tuple #[.int .i64 (0), .int .i64 z2]) ?_ rfl ⟨by rw [HE.out], ⟨HB.out.os, HB.out.tape, HB.out.output, HB.out.size, HB.out.block⟩⟩
    simp [results, Tryd.results48, go_sem]
  have t7 : (k == 7) = false := beq_eq_false_iff_ne.2 h7
  by_cases h8 : k = 8
  · subst h8
    have HE : Hid (bndO z1 z2 z3 n 8 = (1, 100)) := rfl
    go_enter Tryd.func48, Tryd.ntmps48
    go_wp2_with fail
    refine bodyPost_ret (v := .tuple #[.int .i64 (1), .int .i64 100]) ?_ rfl ⟨by rw [HE.out], HB.out⟩
    simp [results, Tryd.results48, go_sem]
  have t8 : (k == 8) = false := beq_eq_false_iff_ne.2 h8
  have HE : Hid (bndO z1 z2 z3 n k = (0, 1)) := bnd_none h1 h2 h3 h4 h5 h6 h7 h8
  go_enter Tryd.func48, Tryd.ntmps48
  go_wp2_with fail
  refine bodyPost_ret (v := .tuple #[.int .i64 0, .int .i64 1]) ?_ rfl ⟨by rw [HE.out], HB.out⟩
  simp [results, Tryd.results48, go_sem]
set_option maxRecDepth 100000 in
set_option maxHeartbeats 8000000 in
theorem impl_operand (z0 z1 z2 z3 : Int) (a : Option Addr) (n c : Nat) (hn : n ≤ 9223372036854775807) (k x : Int) (w : World) :
    Calls Tryd.prog 44 #[.agg #[.int .i64 z0, .int .i64 z1, .int .i64 z2, .int .i64 z3, .slice a n c], .int .i64 k, .int .i64 x] w fun e w' => e = .returned (.bool (opnB z1 z2 z3 n k x)) ∧ Below w.heap.size w w' := by
  have H := fun W => impl_bounds z0 z1 z2 z3 a n c hn k W
  have HE : Hid (opnB z1 z2 z3 n k x = (decide ((bndO z1 z2 z3 n k).1 ≤ x) && decide (x < (bndO z1 z2 z3 n k).2))) := rfl
  have HB : Hid (Below w.heap.size w (w.alloc (.cells #[.int .i64 z0, .int .i64 z1, .int .i64 z2, .int .i64 z3, .slice a n c] 24))) := (Below.refl _ _).alloc (Nat.le_refl _) _
  have hsz : w.heap.size ≤ (w.alloc (.cells #[.int .i64 z0, .int .i64 z1, .int .i64 z2, .int .i64 z3, .slice a n c] 24)).heap.size := by simp
  generalize (bndO z1 z2 z3 n k).1 = l at *
  generalize (bndO z1 z2 z3 n k).2 = h at *
  have H : Hid (∀ W, _) := H
  cases p : decide (l ≤ x)
  · go_enter Tryd.func44, Tryd.ntmps44
    go_wp2_with fail
    refine (H.out _).mono ?_
    rintro e w1 ⟨rfl, hb⟩
    have HB1 : Hid (Below w.heap.size w w1) := HB.out.trans (hb.mono hsz)
    clear hb
    go_wp2_with fail
    go_ret
    exact ⟨ret_bool (by rw [HE.out, p]; simp), HB1.out⟩
  · go_enter Tryd.func44, Tryd.ntmps44
    go_wp2_with fail
    refine (H.out _).mono ?_
    rintro e w1 ⟨rfl, hb⟩
    have HB1 : Hid (Below w.heap.size w w1) := HB.out.trans (hb.mono hsz)
    clear hb
    go_wp2_with fail
    go_ret
    exact ⟨ret_bool (by rw [HE.out, p]; simp), HB1.out⟩
set_option maxRecDepth 100000 in
set_option maxHeartbeats 8000000 in
theorem impl_insRight (z0 z1 z2 z3 : Int) (a : Option Addr) (n c : Nat) (hn : n ≤ 9223372036854775807) (o u v : Int) (w : World) (hS : ShaW w) :
    Calls Tryd.prog 38 #[.agg #[.int .i64 z0, .int .i64 z1, .int .i64 z2, .int .i64 z3, .slice a n c], .agg #[.int .i64 o, .int .i64 u, .int .i64 v]] w fun e w' => e = .returned (.bool (insB z1 z2 z3 n o u v)) ∧ Below w.heap.size w w' := by
  have HX : Hid (Both w ((w.alloc (.cells #[.int .i64 z0, .int .i64 z1, .int .i64 z2, .int .i64 z3, .slice a n c] 24)).alloc (.cells #[.int .i64 o, .int .i64 u, .int .i64 v] 38)) #[.int .i64 z0, .int .i64 z1, .int .i64 z2, .int .i64 z3, .slice a n c] #[.int .i64 o, .int .i64 u, .int .i64 v]) := two_now w _ _ _ _
  have HI := impl_isOp o ((w.alloc (.cells #[.int .i64 z0, .int .i64 z1, .int .i64 z2, .int .i64 z3, .slice a n c] 24)).alloc (.cells #[.int .i64 o, .int .i64 u, .int .i64 v] 38))
  have HP : Hid (∀ k x W, Calls Tryd.prog 44 #[.agg #[.int .i64 z0, .int .i64 z1, .int .i64 z2, .int .i64 z3, .slice a n c], .int .i64 k, .int .i64 x] W fun e w' => e = .returned (.bool (opnB z1 z2 z3 n k x)) ∧ Below W.heap.size W w') := fun k x W => impl_operand z0 z1 z2 z3 a n c hn k x W
  by_cases h : 1 ≤ o ∧ o ≤ 26
  rotate_left
  · have hd : (decide (1 ≤ o) && decide (o ≤ 26)) = false := by
      rcases (by omega : ¬ 1 ≤ o ∨ ¬ o ≤ 26) with h1 | h1 <;> simp [h1]
    rw [hd] at HI
    have HI : Hid (Calls Tryd.prog 43 _ _ _) := HI
    have HE : Hid (insB z1 z2 z3 n o u v = false) := by
      unfold Hid insB
      rcases (by omega : ¬ 1 ≤ o ∨ ¬ o ≤ 26) with h1 | h1
      · rw [decide_eq_false h1]; rfl
      · rw [decide_eq_false h1, Bool.false_and, Bool.and_false]
    clear h hd hS HP
    go_enter Tryd.func38, Tryd.ntmps38
    go_wp2_with fail
    refine HI.out.mono ?_
    rintro e w1 ⟨rfl, rfl⟩
    go_wp2_with fail
    go_ret
    exact ⟨ret_bool HE.out.symm, HX.out.bel⟩
  have hd : (decide (1 ≤ o) && decide (o ≤ 26)) = true := by simp [h.1, h.2]
  rw [hd] at HI
  obtain ⟨k, rfl⟩ : ∃ k : Nat, o = (k : Int) := ⟨o.toNat, by omega⟩
  have HE : Hid (insB z1 z2 z3 n k u v = (opnB z1 z2 z3 n (shp k).a u && opnB z1 z2 z3 n (shp k).b v)) := by
    unfold Hid insB
    rw [decide_eq_true h.1, decide_eq_true h.2, Bool.true_and, Bool.true_and]
    rfl
  have HI : Hid (Calls Tryd.prog 43 _ _ _) := HI
  have hk : k < 27 := by omega
  obtain ⟨c0, c1, c2, c3, c4, c5⟩ := (hS.below HX.out.bel) k hk
  clear h hd hS
  generalize nameO k = X at *
  generalize (shp k).a = A at *
  generalize (shp k).b = B at *
  generalize (shp k).t = T at *
  generalize (shp k).p = P at *
  generalize (shp k).e = E at *
  have HT : Hid (Three w (((w.alloc (.cells #[.int .i64 z0, .int .i64 z1, .int .i64 z2, .int .i64 z3, .slice a n c] 24)).alloc (.cells #[.int .i64 (k : Int), .int .i64 u, .int .i64 v] 38)).alloc (.cells #[.string X, .int .i64 A, .int .i64 B, .int .i64 T, .int .i64 P, .bool E] 74)) #[.int .i64 z0, .int .i64 z1, .int .i64 z2, .int .i64 z3, .slice a n c] #[.int .i64 (k : Int), .int .i64 u, .int .i64 v] #[.string X, .int .i64 A, .int .i64 B, .int .i64 T, .int .i64 P, .bool E]) := three_new w _ _ _ _ _ _
  go_enter Tryd.func38, Tryd.ntmps38
  go_wp2_with fail
  refine HI.out.mono ?_
  rintro e w1 ⟨rfl, rfl⟩
  go_wp2_with fail
  refine (HP.out A u _).mono ?_
  rintro e w2 ⟨rfl, hb⟩
  have HT2 : Hid (Three w w2 #[.int .i64 z0, .int .i64 z1, .int .i64 z2, .int .i64 z3, .slice a n c] #[.int .i64 (k : Int), .int .i64 u, .int .i64 v] #[.string X, .int .i64 A, .int .i64 B, .int .i64 T, .int .i64 P, .bool E]) := HT.out.next hb
  clear hb
  have x0 := HT2.out.box 0
  have x1 := HT2.out.box 1
  have x2 := HT2.out.box 2
  have x3 := HT2.out.box 3
  have x4 := HT2.out.box 4
  have y2 := HT2.out.res 2
  have z2' := HT2.out.out 2
  simp at x0 x1 x2 x3 x4 y2 z2'
  cases p : opnB z1 z2 z3 n A u
  · go_wp2_with fail
    go_ret
    exact ⟨ret_bool (by rw [HE.out, p]; rfl), HT2.out.bel⟩
  · have HBl : Hid (Below w.heap.size w w2) := HT2.out.bel
    go_wp2_with fail
    refine (HP.out B v _).mono ?_
    rintro e w3 ⟨rfl, hb⟩
    have HB3 : Hid (Below w.heap.size w w3) := HBl.out.trans (hb.mono HBl.out.size)
    clear hb
    go_wp2_with fail
    go_ret
    exact ⟨ret_bool (by rw [HE.out, p]; rfl), HB3.out⟩
set_option maxRecDepth 100000 in
set_option maxHeartbeats 8000000 in
theorem spec_in10 (x l h : Int) (w : World) :
    Calls Tryd.prog 22 #[.int .i64 x, .int .i64 l, .int .i64 h] w fun e w' => e = .returned (.bool (inB x l h)) ∧ w' = w := by
  have HE : Hid (inB x l h = (decide (l ≤ x) && decide (x ≤ h))) := rfl
  cases p : decide (l ≤ x)
  · go_enter Tryd.func22, Tryd.ntmps22
    go_wp2_with fail
    go_ret
    exact ⟨ret_bool (by rw [HE.out, p]; rfl), rfl⟩
  · go_enter Tryd.func22, Tryd.ntmps22
    go_wp2_with fail
    go_ret
    exact ⟨ret_bool (by rw [HE.out, p]; simp), rfl⟩
set_option maxRecDepth 100000 in
set_option maxHeartbeats 8000000 in
theorem spec_insM (z0 z1 z2 z3 : Int) (a : Option Addr) (n c : Nat) (_hn : n ≤ 9223372036854775807) (o u v : Int) (w : World) :
    Calls Tryd.prog 23 #[.agg #[.int .i64 z0, .int .i64 z1, .int .i64 z2, .int .i64 z3, .slice a n c], .agg #[.int .i64 o, .int .i64 u, .int .i64 v]] w fun e w' => e = .returned (.bool (insM z1 z2 z3 n o u v)) ∧ Below w.heap.size w w' := by
  have HX : Hid (Both w ((w.alloc (.cells #[.int .i64 z0, .int .i64 z1, .int .i64 z2, .int .i64 z3, .slice a n c] 24)).alloc (.cells #[.int .i64 o, .int .i64 u, .int .i64 v] 38)) #[.int .i64 z0, .int .i64 z1, .int .i64 z2, .int .i64 z3, .slice a n c] #[.int .i64 o, .int .i64 u, .int .i64 v]) := two_now w _ _ _ _
  have HI : Hid (∀ x l h W, Calls Tryd.prog 22 #[.int .i64 x, .int .i64 l, .int .i64 h] W fun e w' => e = .returned (.bool (inB x l h)) ∧ w' = W) := spec_in10
  have HM : Hid (∀ x W, Calls Tryd.prog 34 #[.int .i64 x] W fun e w' => e = .returned (.bool (inB x (-1000000000000) 1000000000000)) ∧ w' = W) := fun x W => by
    have h := spec_right x W
    have e : rightB x = inB x (-1000000000000) 1000000000000 := by unfold rightB inB; rfl
    rw [e] at h
    exact h
  by_cases h23 : o = 23
  · subst h23
    have HE : Hid (insM z1 z2 z3 n 23 u v = (decide (0 ≤ u) && (decide (u < z2) && (decide (0 ≤ v) && decide (v < z2))))) := by unfold Hid insM; rfl
    cases p0 : decide (0 ≤ u)
    · go_enter Tryd.func23, Tryd.ntmps23
      go_wp2_with fail
      go_ret
      exact ⟨ret_bool (by rw [HE.out, p0]; rfl), HX.out.bel⟩
    cases p1 : decide (u < z2)
    · go_enter Tryd.func23, Tryd.ntmps23
      go_wp2_with fail
      go_ret
      exact ⟨ret_bool (by rw [HE.out, p0, p1]; rfl), HX.out.bel⟩
    cases p2 : decide (0 ≤ v)
    · go_enter Tryd.func23, Tryd.ntmps23
      go_wp2_with fail
      go_ret
      exact ⟨ret_bool (by rw [HE.out, p0, p1, p2]; rfl), HX.out.bel⟩
    cases p3 : decide (v < z2)
    · go_enter Tryd.func23, Tryd.ntmps23
      go_wp2_with fail
      go_ret
      exact ⟨ret_bool (by rw [HE.out, p0, p1, p2, p3]; rfl), HX.out.bel⟩
    · go_enter Tryd.func23, Tryd.ntmps23
      go_wp2_with fail
      go_ret
      exact ⟨ret_bool (by rw [HE.out, p0, p1, p2, p3]; rfl), HX.out.bel⟩
  have t23 : (o != 23) = true := bne_iff_ne.2 h23
  have t23' : (o == 23) = false := beq_eq_false_iff_ne.2 h23
  by_cases hv : v = 0
  rotate_left
  · have tv : (v != 0) = true := bne_iff_ne.2 hv
    have HE : Hid (insM z1 z2 z3 n o u v = false) := by unfold Hid insM; rw [if_pos ⟨h23, hv⟩]
    go_enter Tryd.func23, Tryd.ntmps23
    go_wp2_with fail
    go_ret
    exact ⟨ret_bool (HE.out.symm), HX.out.bel⟩
  subst hv
  by_cases h2 : o = 2
  · subst h2
    have HE : Hid (insM z1 z2 z3 n 2 u 0 = inB u (-1000000000000) 1000000000000) := by unfold Hid insM; rfl
    generalize insM z1 z2 z3 n 2 u 0 = R at *
    go_enter Tryd.func23, Tryd.ntmps23
    go_wp2_with fail
    refine (HM.out u _).mono ?_
    rintro e w1 ⟨rfl, rfl⟩
    go_wp2_with fail
    go_ret
    exact ⟨ret_bool (HE.out.symm), HX.out.bel⟩
  have t2 : (o == 2) = false := beq_eq_false_iff_ne.2 h2
  by_cases h3 : o = 3
  · subst h3
    have HE : Hid (insM z1 z2 z3 n 3 u 0 = inB u 0 49) := by unfold Hid insM; rfl
    generalize insM z1 z2 z3 n 3 u 0 = R at *
    go_enter Tryd.func23, Tryd.ntmps23
    go_wp2_with fail
    refine (HI.out u 0 49 _).mono ?_
    rintro e w1 ⟨rfl, rfl⟩
    go_wp2_with fail
    go_ret
    exact ⟨ret_bool (HE.out.symm), HX.out.bel⟩
  have t3 : (o == 3) = false := beq_eq_false_iff_ne.2 h3
  by_cases h4 : o = 4
  · subst h4
    have HE : Hid (insM z1 z2 z3 n 4 u 0 = inB u 0 49) := by unfold Hid insM; rfl
    generalize insM z1 z2 z3 n 4 u 0 = R at *
    go_enter Tryd.func23, Tryd.ntmps23
    go_wp2_with fail
    refine (HI.out u 0 49 _).mono ?_
    rintro e w1 ⟨rfl, rfl⟩
    go_wp2_with fail
    go_ret
    exact ⟨ret_bool (HE.out.symm), HX.out.bel⟩
  have t4 : (o == 4) = false := beq_eq_false_iff_ne.2 h4
  by_cases h20 : o = 20
  · subst h20
    have HE : Hid (insM z1 z2 z3 n 20 u 0 = inB u 1 7) := by unfold Hid insM; rfl
    generalize insM z1 z2 z3 n 20 u 0 = R at *
    go_enter Tryd.func23, Tryd.ntmps23
    go_wp2_with fail
    refine (HI.out u 1 7 _).mono ?_
    rintro e w1 ⟨rfl, rfl⟩
    go_wp2_with fail
    go_ret
    exact ⟨ret_bool (HE.out.symm), HX.out.bel⟩
  have t20 : (o == 20) = false := beq_eq_false_iff_ne.2 h20
  by_cases h24 : o = 24
  · subst h24
    have HE : Hid (insM z1 z2 z3 n 24 u 0 = inB u 1 99) := by unfold Hid insM; rfl
    generalize insM z1 z2 z3 n 24 u 0 = R at *
    go_enter Tryd.func23, Tryd.ntmps23
    go_wp2_with fail
    refine (HI.out u 1 99 _).mono ?_
    rintro e w1 ⟨rfl, rfl⟩
    go_wp2_with fail
    go_ret
    exact ⟨ret_bool (HE.out.symm), HX.out.bel⟩
  have t24 : (o == 24) = false := beq_eq_false_iff_ne.2 h24
  by_cases h5 : o = 5
  · subst h5
    have HE : Hid (insM z1 z2 z3 n 5 u 0 = (decide (0 ≤ u) && decide (u < z3))) := by unfold Hid insM; rfl
    cases p0 : decide (0 ≤ u)
    · go_enter Tryd.func23, Tryd.ntmps23
      go_wp2_with fail
      go_ret
      exact ⟨ret_bool (by rw [HE.out, p0]; rfl), HX.out.bel⟩
    cases p1 : decide (u < z3)
    · go_enter Tryd.func23, Tryd.ntmps23
      go_wp2_with fail
      go_ret
      exact ⟨ret_bool (by rw [HE.out, p0, p1]; rfl), HX.out.bel⟩
    · go_enter Tryd.func23, Tryd.ntmps23
      go_wp2_with fail
      go_ret
      exact ⟨ret_bool (by rw [HE.out, p0, p1]; rfl), HX.out.bel⟩
  have t5 : (o == 5) = false := beq_eq_false_iff_ne.2 h5
  by_cases h6 : o = 6
  · subst h6
    have HE : Hid (insM z1 z2 z3 n 6 u 0 = (decide (0 ≤ u) && decide (u < z1))) := by unfold Hid insM; rfl
    cases p0 : decide (0 ≤ u)
    · go_enter Tryd.func23, Tryd.ntmps23
      go_wp2_with fail
      go_ret
      exact ⟨ret_bool (by rw [HE.out, p0]; rfl), HX.out.bel⟩
    cases p1 : decide (u < z1)
    · go_enter Tryd.func23, Tryd.ntmps23
      go_wp2_with fail
      go_ret
      exact ⟨ret_bool (by rw [HE.out, p0, p1]; rfl), HX.out.bel⟩
    · go_enter Tryd.func23, Tryd.ntmps23
      go_wp2_with fail
      go_ret
      exact ⟨ret_bool (by rw [HE.out, p0, p1]; rfl), HX.out.bel⟩
  have t6 : (o == 6) = false := beq_eq_false_iff_ne.2 h6
  by_cases h21 : o = 21
  · subst h21
    have HE : Hid (insM z1 z2 z3 n 21 u 0 = (decide (0 ≤ u) && decide (u < (n : Int)))) := by unfold Hid insM; rfl
    cases p0 : decide (0 ≤ u)
    · go_enter Tryd.func23, Tryd.ntmps23
      go_wp2_with fail
      go_ret
      exact ⟨ret_bool (by rw [HE.out, p0]; rfl), HX.out.bel⟩
    cases p1 : decide (u < (n : Int))
    · go_enter Tryd.func23, Tryd.ntmps23
      go_wp2_with fail
      go_ret
      exact ⟨ret_bool (by rw [HE.out, p0, p1]; rfl), HX.out.bel⟩
    · go_enter Tryd.func23, Tryd.ntmps23
      go_wp2_with fail
      go_ret
      exact ⟨ret_bool (by rw [HE.out, p0, p1]; rfl), HX.out.bel⟩
  have t21 : (o == 21) = false := beq_eq_false_iff_ne.2 h21
  by_cases h22 : o = 22
  · subst h22
    have HE : Hid (insM z1 z2 z3 n 22 u 0 = (decide (0 ≤ u) && decide (u < (n : Int)))) := by unfold Hid insM; rfl
    cases p0 : decide (0 ≤ u)
    · go_enter Tryd.func23, Tryd.ntmps23
      go_wp2_with fail
      go_ret
      exact ⟨ret_bool (by rw [HE.out, p0]; rfl), HX.out.bel⟩
    cases p1 : decide (u < (n : Int))
    · go_enter Tryd.func23, Tryd.ntmps23
      go_wp2_with fail
      go_ret
      exact ⟨ret_bool (by rw [HE.out, p0, p1]; rfl), HX.out.bel⟩
    · go_enter Tryd.func23, Tryd.ntmps23
      go_wp2_with fail
      go_ret
      exact ⟨ret_bool (by rw [HE.out, p0, p1]; rfl), HX.out.bel⟩
  have t22 : (o == 22) = false := beq_eq_false_iff_ne.2 h22
  have HE : Hid (insM z1 z2 z3 n o u 0 = (decide (1 ≤ o) && (decide (o ≤ 26) && (u == 0)))) := by
    unfold Hid insM
    rw [if_neg (by omega), if_neg h2, if_neg h3, if_neg h4, if_neg h5, if_neg h6, if_neg h20, if_neg h21, if_neg h22, if_neg h23, if_neg h24]
  cases p0 : decide (1 ≤ o)
  · go_enter Tryd.func23, Tryd.ntmps23
    go_wp2_with fail
    go_ret
    exact ⟨ret_bool (by rw [HE.out, p0]; rfl), HX.out.bel⟩
  cases p1 : decide (o ≤ 26)
  · go_enter Tryd.func23, Tryd.ntmps23
    go_wp2_with fail
    go_ret
    exact ⟨ret_bool (by rw [HE.out, p0, p1]; rfl), HX.out.bel⟩
  cases p2 : (u == 0)
  · go_enter Tryd.func23, Tryd.ntmps23
    go_wp2_with fail
    go_ret
    exact ⟨ret_bool (by rw [HE.out, p0, p1, p2]; rfl), HX.out.bel⟩
  · go_enter Tryd.func23, Tryd.ntmps23
    go_wp2_with fail
    go_ret
    exact ⟨ret_bool (by rw [HE.out, p0, p1, p2]; rfl), HX.out.bel⟩
set_option maxRecDepth 100000 in
set_option maxHeartbeats 8000000 in
theorem spec_insRight (z0 z1 z2 z3 : Int) (a : Option Addr) (n c : Nat) (hn : n ≤ 9223372036854775807) (o u v : Int) (w : World) :
    Calls Tryd.prog 23 #[.agg #[.int .i64 z0, .int .i64 z1, .int .i64 z2, .int .i64 z3, .slice a n c], .agg #[.int .i64 o, .int .i64 u, .int .i64 v]] w fun e w' => e = .returned (.bool (insB z1 z2 z3 n o u v)) ∧ Below w.heap.size w w' := by
  rw [← insM_eq]
  exact spec_insM z0 z1 z2 z3 a n c hn o u v w
end Go.Proofs.YtdbahildcecgbaaDoor
