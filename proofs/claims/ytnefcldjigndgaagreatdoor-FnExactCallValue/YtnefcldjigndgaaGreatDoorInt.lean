/- Interest, of the program and of its model: what each call does, and the law that holds one against the other. -/
import Derived.Test.YtnefcldjigndgaaGreatDoorSpan
import Derived.Test.YtnefcldjigndgaaGreatDoorMdLaw
namespace Go.Proofs.YtnefcldjigndgaaGreatDoor
open Go.RowKit

def yearI (basis : Int) : Int := if basis = 1 then 365 else 360
def rateB (n : Int) : Bool := decide (0 ≤ n) && decide (n ≤ 1000000)
/-- Interest's answer. -/
def interestB (bal rate basis a b : Int) : Int × Int :=
  if 0 ≤ bal ∧ bal ≤ 1000000000000 ∧ rateB rate = true then
    (if (spanB basis a b).2 = 0 then mulDivB bal (rate * (spanB basis a b).1) (1000000 * yearI basis) else (0, (spanB basis a b).2))
  else (0, 1)
theorem interestB_zero (bal rate basis a b : Int) : (interestB bal rate basis a b).2 ≠ 0 → (interestB bal rate basis a b).1 = 0 := by
  unfold interestB
  split
  · split
    · exact mulDivB_zero _ _ _
    · simp
  · simp

theorem int4 {w2 w4 : World} {o : Obj} {g : Nat} {cs : Array Value} (hb : Below (w2.alloc o).drew.heap.size (w2.alloc o).drew w4) (hs : g < w2.heap.size) (r2 : ∀ j, w2.cell? ⟨g, j, none⟩ = cs[j]?) : ∀ j, w4.cell? ⟨g, j, none⟩ = cs[j]? := fun j => by
  rw [hb.cell (p := ⟨g, j, none⟩) (by show g < (w2.alloc o).heap.size; simp; omega)]
  show (w2.alloc o).cell? _ = _
  rw [World.cell?_alloc_past _ _ _ hs]; exact r2 j
theorem fro4 {w2 w4 : World} {o : Obj} {g : Nat} (hb : Below (w2.alloc o).drew.heap.size (w2.alloc o).drew w4) (hs : g < w2.heap.size) (f2 : ∀ j, w2.frozen? ⟨g, j, none⟩ = false) : ∀ j, w4.frozen? ⟨g, j, none⟩ = false := fun j => by
  rw [hb.frozen (p := ⟨g, j, none⟩) (by show g < (w2.alloc o).heap.size; simp; omega)]
  show (w2.alloc o).frozen? _ = _
  rw [World.frozen?_alloc_past _ _ _ hs]; exact f2 j

theorem impl_year (basis : Int) (w : World) :
    Calls Tryz.prog 51 #[.int .i64 basis] w fun e w' => e = .returned (.int .i64 (yearI basis)) ∧ w' = w := by
  by_cases h : basis = 1
  · subst h
    go_enter Tryz.func51, Tryz.ntmps51
    go_wp2
    go_ret
    exact ⟨rfl, rfl⟩
  · have t : (basis == 1) = false := beq_eq_false_iff_ne.2 h
    have HR : Hid (yearI basis = 360) := by rw [Hid, yearI, if_neg h]
    go_enter Tryz.func51, Tryz.ntmps51
    go_wp2
    go_ret
    exact ⟨by rw [HR.out]; rfl, rfl⟩
theorem spec_year (basis : Int) (w : World) :
    Calls Tryz.prog 23 #[.int .i64 basis] w fun e w' => e = .returned (.int .i64 (yearI basis)) ∧ w' = w := by
  by_cases h : basis = 1
  · subst h
    go_enter Tryz.func23, Tryz.ntmps23
    go_wp2
    go_ret
    exact ⟨rfl, rfl⟩
  · have t : (basis == 1) = false := beq_eq_false_iff_ne.2 h
    have HR : Hid (yearI basis = 360) := by rw [Hid, yearI, if_neg h]
    go_enter Tryz.func23, Tryz.ntmps23
    go_wp2
    go_ret
    exact ⟨by rw [HR.out]; rfl, rfl⟩
theorem impl_rateB (n : Int) (w : World) :
    Calls Tryz.prog 48 #[.int .i64 n] w fun e w' => e = .returned (.bool (rateB n)) ∧ w' = w := by
  by_cases h0 : 0 ≤ n
  · have t0 : decide (0 ≤ n) = true := by simpa using h0
    by_cases h1 : n ≤ 1000000
    · have t1 : decide (n ≤ 1000000) = true := by simpa using h1
      have HR : Hid (rateB n = true) := by simp [Hid, rateB, h0, h1]
      go_enter Tryz.func48, Tryz.ntmps48
      go_wp2
      go_ret
      exact ⟨by rw [HR.out]; rfl, rfl⟩
    · have t1 : decide (n ≤ 1000000) = false := by simpa using h1
      have HR : Hid (rateB n = false) := by simp [Hid, rateB, t1]
      go_enter Tryz.func48, Tryz.ntmps48
      go_wp2
      go_ret
      exact ⟨by rw [HR.out]; rfl, rfl⟩
  · have t0 : decide (0 ≤ n) = false := by simpa using h0
    have HR : Hid (rateB n = false) := by simp [Hid, rateB, t0]
    go_enter Tryz.func48, Tryz.ntmps48
    go_wp2
    go_ret
    exact ⟨by rw [HR.out]; rfl, rfl⟩
theorem spec_rateB (n : Int) (w : World) :
    Calls Tryz.prog 15 #[.int .i64 n] w fun e w' => e = .returned (.bool (rateB n)) ∧ w' = w := by
  by_cases h0 : 0 ≤ n
  · have t0 : decide (0 ≤ n) = true := by simpa using h0
    by_cases h1 : n ≤ 1000000
    · have t1 : decide (n ≤ 1000000) = true := by simpa using h1
      have HR : Hid (rateB n = true) := by simp [Hid, rateB, h0, h1]
      go_enter Tryz.func15, Tryz.ntmps15
      go_wp2
      go_ret
      exact ⟨by rw [HR.out]; rfl, rfl⟩
    · have t1 : decide (n ≤ 1000000) = false := by simpa using h1
      have HR : Hid (rateB n = false) := by simp [Hid, rateB, t1]
      go_enter Tryz.func15, Tryz.ntmps15
      go_wp2
      go_ret
      exact ⟨by rw [HR.out]; rfl, rfl⟩
  · have t0 : decide (0 ≤ n) = false := by simpa using h0
    have HR : Hid (rateB n = false) := by simp [Hid, rateB, t0]
    go_enter Tryz.func15, Tryz.ntmps15
    go_wp2
    go_ret
    exact ⟨by rw [HR.out]; rfl, rfl⟩

set_option maxRecDepth 100000 in
set_option maxHeartbeats 4000000 in
theorem impl_interest (bal rate basis a b : Int) (w : World) (hM : Mon w) :
    Calls Tryz.prog 37 #[.int .i64 bal, .int .i64 rate, .int .i64 basis, .int .i64 a, .int .i64 b] w fun e w' => e = .returned (tupV (interestB bal rate basis a b)) ∧ Below w.heap.size w w' := by
  have HM : Hid (Mon w) := hM
  clear hM
  by_cases c0 : bal < 0
  · have t0 : decide (bal < 0) = true := by simpa using c0
    have HR : Hid (interestB bal rate basis a b = (0, 1)) := by rw [Hid, interestB, if_neg]; omega
    go_enter Tryz.func37, Tryz.ntmps37
    go_wp2_with fail
    go_ret2
    exact ⟨by rw [HR.out, tupV_err _ _ (by decide)]; rfl, Below.refl _ _⟩
  have t0 : decide (bal < 0) = false := by simpa using c0
  cases hb : rightB bal
  · have HR : Hid (interestB bal rate basis a b = (0, 1)) := by
      rw [Hid, interestB, if_neg]
      intro h
      rw [(rightB_iff bal).2 (by omega)] at hb
      cases hb
    have H : Hid (rightB bal = false) := hb
    clear hb
    go_enter Tryz.func37, Tryz.ntmps37
    go_wp2_with fail
    refine (impl_right _ _).mono ?_
    rintro e w0 ⟨rfl, hw0⟩
    rw [hw0, H.out]
    clear hw0
    go_wp2_with fail
    go_ret2
    exact ⟨by rw [HR.out, tupV_err _ _ (by decide)]; rfl, Below.refl _ _⟩
  have b1 := ((rightB_iff bal).1 hb).2
  have H : Hid (rightB bal = true) := hb
  clear hb
  cases hr : rateB rate
  · have HR : Hid (interestB bal rate basis a b = (0, 1)) := by rw [Hid, interestB, if_neg]; simp [hr]
    have H' : Hid (rateB rate = false) := hr
    clear hr
    go_enter Tryz.func37, Tryz.ntmps37
    go_wp2_with fail
    refine (impl_right _ _).mono ?_
    rintro e w0 ⟨rfl, hw0⟩
    rw [hw0, H.out]
    clear hw0
    go_wp2_with fail
    refine (impl_rateB _ _).mono ?_
    rintro e w0 ⟨rfl, hw0⟩
    rw [hw0, H'.out]
    clear hw0
    go_wp2_with fail
    go_ret2
    exact ⟨by rw [HR.out, tupV_err _ _ (by decide)]; rfl, Below.refl _ _⟩
  have hrr : 0 ≤ rate ∧ rate ≤ 1000000 := by simpa [rateB] using hr
  obtain ⟨r0, r1⟩ := hrr
  have HR : Hid (interestB bal rate basis a b = if (spanB basis a b).2 = 0 then mulDivB bal (rate * (spanB basis a b).1) (1000000 * yearI basis) else (0, (spanB basis a b).2)) := by rw [Hid, interestB, if_pos ⟨by omega, by omega, hr⟩]
  have H' : Hid (rateB rate = true) := hr
  have H1 : Hid (∀ w, Mon w → Calls Tryz.prog 49 #[.int .i64 basis, .int .i64 a, .int .i64 b] w fun e w' => e = .returned (tupV (spanB basis a b)) ∧ Below w.heap.size w w') := fun w h => impl_span basis a b w h
  have hz := spanB_zero basis a b
  have hsb := span_le (basis := basis) (a := a) (b := b)
  clear hr
  generalize spanB basis a b = s at *
  obtain ⟨x, c⟩ := s
  simp only at HR hz hsb
  by_cases hc : c = 0
  case neg =>
    have hx : x = 0 := hz hc
    subst hx
    rw [tupV_err _ _ hc] at H1
    rw [if_neg hc] at HR
    have HC : Hid (c ≠ 0) := hc
    clear hz hsb hc
    go_enter Tryz.func37, Tryz.ntmps37
    go_wp2_with fail
    refine (impl_right _ _).mono ?_
    rintro e w0 ⟨rfl, hw0⟩
    rw [hw0, H.out]
    clear hw0
    go_wp2_with fail
    refine (impl_rateB _ _).mono ?_
    rintro e w0 ⟨rfl, hw0⟩
    rw [hw0, H'.out]
    clear hw0
    go_wp2_with fail
    refine (H1.out _ HM.out).mono ?_
    rintro e w1 ⟨rfl, hb1⟩
    go_wp2_with fail
    go_ret2
    exact ⟨by rw [HR.out, tupV_err _ _ HC.out]; rfl, hb1⟩
  subst hc
  obtain ⟨x0, x1⟩ := hsb rfl
  rw [tupV_ok] at H1
  rw [if_pos rfl] at HR
  have hpb : 0 ≤ rate * x ∧ rate * x ≤ 36600000000 := by
    refine ⟨Int.mul_nonneg r0 x0, ?_⟩
    have h1 := Int.mul_le_mul r1 x1 x0 (by omega)
    omega
  obtain ⟨P, hP⟩ : ∃ P, rate * x = P := ⟨_, rfl⟩
  rw [hP] at HR hpb
  obtain ⟨p0, p1⟩ := hpb
  have hyb : 360 ≤ yearI basis ∧ yearI basis ≤ 365 := by unfold yearI; split <;> omega
  have H2 : Hid (∀ w, Calls Tryz.prog 51 #[.int .i64 basis] w fun e w' => e = .returned (.int .i64 (yearI basis)) ∧ w' = w) := fun w => impl_year basis w
  generalize yearI basis = Y at *
  obtain ⟨Y0, Y1⟩ := hyb
  have H3 : Hid (∀ w, Calls Tryz.prog 50 #[.int .i64 bal, .int .i64 P, .int .i64 (1000000 * Y)] w fun e w' => e = .returned (tupV (mulDivB bal P (1000000 * Y))) ∧ Below w.heap.size w w') := fun w => impl_mulDivM bal P (1000000 * Y) w
  generalize mulDivB bal P (1000000 * Y) = R at *
  clear hz hsb
  go_enter Tryz.func37, Tryz.ntmps37
  go_wp2_with fail
  refine (impl_right _ _).mono ?_
  rintro e w0 ⟨rfl, hw0⟩
  rw [hw0, H.out]
  clear hw0
  go_wp2_with fail
  refine (impl_rateB _ _).mono ?_
  rintro e w0 ⟨rfl, hw0⟩
  rw [hw0, H'.out]
  clear hw0
  go_wp2_with fail
  refine (H1.out _ HM.out).mono ?_
  rintro e w1 ⟨rfl, hb1⟩
  go_wp2_with fail
  refine (H2.out _).mono ?_
  rintro e w2 ⟨rfl, hw2⟩
  subst hw2
  go_wp2_with fail
  refine (H3.out _).mono ?_
  rintro e w3 ⟨rfl, hb3⟩
  simp only [tupV]
  go_wp2_with fail
  go_ret2
  exact ⟨by rw [HR.out]; rfl, hb1.trans (hb3.mono hb1.size)⟩

set_option maxRecDepth 100000 in
set_option maxHeartbeats 1000000 in
theorem impl_Interest (bal rate basis a b : Int) (w : World) (hM : Mon w) (hL : Lay w) :
    Calls Tryz.prog 85 #[.int .i64 bal, .int .i64 rate, .int .i64 basis, .int .i64 a, .int .i64 b] w fun e w' => e = .returned (moneyV (interestB bal rate basis a b)) ∧ Below w.heap.size w w' := by
  have hz := interestB_zero bal rate basis a b
  have H1 : Hid (∀ w, Mon w → Calls Tryz.prog 37 #[.int .i64 bal, .int .i64 rate, .int .i64 basis, .int .i64 a, .int .i64 b] w fun e w' => e = .returned (tupV (interestB bal rate basis a b)) ∧ Below w.heap.size w w') := fun w h => impl_interest bal rate basis a b w h
  generalize interestB bal rate basis a b = r at *
  have HL : Hid (Lay w) := hL
  have HM : Hid (Mon w) := hM
  have HZ : Hid (r.2 ≠ 0 → r.1 = 0) := hz
  clear hL hz hM
  go_enter Tryz.func85, Tryz.ntmps85
  go_wp2_with fail
  refine (H1.out _ (by exact HM.out.alloc _)).mono ?_
  rintro e w1 ⟨rfl, hb1⟩
  simp only [tupV]
  have hs1 : w.heap.size < w1.heap.size := by have := hb1.size; simp at this; omega
  have c0 : ∀ j, w1.cell? ⟨w.heap.size, j, none⟩ = (#[Value.int .i64 0, .int .i64 0] : Array Value)[j]? := fun j => by
    rw [hb1.cell (p := ⟨w.heap.size, j, none⟩) (by simp), World.cell?_alloc_new]
  have f0 : ∀ j, w1.frozen? ⟨w.heap.size, j, none⟩ = false := fun j => by
    rw [hb1.frozen (p := ⟨w.heap.size, j, none⟩) (by simp), World.frozen?_alloc_new]
  have HB1 : Hid (Below w.heap.size w w1) := ((Below.refl _ _).alloc (Nat.le_refl _) _).trans (hb1.mono (by simp))
  clear hb1
  go_wp2_with fail
  refine (out_any r HZ.out _ (by exact HL.out.below HB1.out)).mono ?_
  rintro e w2 ⟨rfl, hb⟩
  simp only [moneyV]
  have c1 : ∀ j, w2.cell? ⟨w.heap.size, j, none⟩ = (#[Value.int .i64 0, .int .i64 0] : Array Value)[j]? := fun j => by
    rw [hb.cell (p := ⟨w.heap.size, j, none⟩) hs1]; exact c0 j
  have f1 : ∀ j, w2.frozen? ⟨w.heap.size, j, none⟩ = false := fun j => by
    rw [hb.frozen (p := ⟨w.heap.size, j, none⟩) hs1]; exact f0 j
  have HB2 : Hid (Below w.heap.size w w2) := HB1.out.trans (hb.mono HB1.out.size)
  clear hb c0 f0
  go_wp2_with fail
  refine bodyPost_ret (v := moneyV r) ?_ rfl ⟨rfl, ?_⟩
  · simp [results, Tryz.results85, go_sem, c1, moneyV]
  · repeat (first | exact HB2.out | refine Below.setCell ?_ (by simp) _)


end Go.Proofs.YtnefcldjigndgaaGreatDoor
