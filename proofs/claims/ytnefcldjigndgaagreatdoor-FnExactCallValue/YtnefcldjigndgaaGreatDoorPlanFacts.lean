/- Plans without a program (2): right loans, their due days, the interest in closed form, what is left, and the least pay that leaves nothing. -/
import Derived.Test.YtnefcldjigndgaaGreatDoorPlanMath
namespace Go.Proofs.YtnefcldjigndgaaGreatDoor

/-- A right loan: principal, rate, basis, start, term. -/
def loanB (p r b s t : Int) : Bool := decide (1 ≤ p) && decide (p ≤ 10000000000) && decide (0 ≤ r) && decide (r ≤ 500000) && decide (1 ≤ b) && decide (b ≤ 3) && decide (1 ≤ t) && decide (t ≤ 60) && ((dayAddB s t).2 == 0)
structure LoanOk (p r b s t : Int) : Prop where
  p0 : 1 ≤ p
  p1 : p ≤ 10000000000
  r0 : 0 ≤ r
  r1 : r ≤ 500000
  b0 : 1 ≤ b
  b1 : b ≤ 3
  t0 : 1 ≤ t
  t1 : t ≤ 60
  d : (dayAddB s t).2 = 0
theorem loanB_iff (p r b s t : Int) : loanB p r b s t = true ↔ LoanOk p r b s t := by
  simp only [loanB, Bool.and_eq_true, decide_eq_true_eq, beq_iff_eq]
  exact ⟨fun ⟨⟨⟨⟨⟨⟨⟨⟨a, b⟩, c⟩, d⟩, e⟩, f⟩, g⟩, h⟩, i⟩ => ⟨a, b, c, d, e, f, g, h, i⟩, fun h => ⟨⟨⟨⟨⟨⟨⟨⟨h.p0, h.p1⟩, h.r0⟩, h.r1⟩, h.b0⟩, h.b1⟩, h.t0⟩, h.t1⟩, h.d⟩⟩

theorem dayAdd_pair {s n : Int} (h : (dayAddB s n).2 = 0) : dayAddB s n = ((dayAddB s n).1, 0) := by rw [← h]
theorem dayAdd_within {s n k : Int} (h : (dayAddB s n).2 = 0) (k0 : 0 ≤ k) (k1 : k ≤ n) : (dayAddB s k).2 = 0 := by
  obtain ⟨hr, n0, n1, a0, a1, _⟩ := dayAdd_parts (dayAdd_pair h)
  obtain ⟨d0, d1⟩ := (dayRB_iff s).1 hr
  have hD := dateB_is d0 d1
  have y0 := hD.y0
  have m0 := hD.m0
  have e1 : addKB s k = 12 * ((dateB s).1 - 2000) + (dateB s).2.1 - 1 + k := rfl
  have e2 : addKB s n = 12 * ((dateB s).1 - 2000) + (dateB s).2.1 - 1 + n := rfl
  unfold dayAddB
  rw [if_pos hr, if_pos ⟨by omega, by omega⟩, if_pos ⟨by omega, by omega⟩]

/-- Due day i of a loan that starts at s; the start is number 0. -/
def dueI (s : Int) (i : Nat) : Int := (dayAddB s (i : Int)).1
theorem LoanOk.due {p r b s t : Int} (h : LoanOk p r b s t) (i : Nat) (hi : (i : Int) ≤ t) : dayAddB s (i : Int) = (dueI s i, 0) :=
  dayAdd_pair (dayAdd_within h.d (by omega) hi)
theorem LoanOk.dayR {p r b s t : Int} (h : LoanOk p r b s t) (i : Nat) (hi : (i : Int) ≤ t) : dayRB (dueI s i) = true := by
  obtain ⟨_, _, _, _, _, hI⟩ := dayAdd_parts (h.due i hi)
  exact (dayRB_iff _).2 hI.range
theorem LoanOk.gap {p r b s t : Int} (h : LoanOk p r b s t) (i : Nat) (hi : (i : Int) < t) : (spanB b (dueI s i) (dueI s (i + 1))).2 = 0 ∧ (spanB b (dueI s i) (dueI s (i + 1))).1 ≤ 32 := by
  have e := h.due (i + 1) (by omega)
  obtain ⟨g0, g1, g2⟩ := due_gap (h.due i (by omega)) (M := dueI s (i + 1)) (by rw [← e]; congr 1)
  rw [spanB_at h.b0 h.b1 (h.dayR i (by omega)) (h.dayR (i + 1) (by omega)) (by omega)]
  split
  · refine ⟨rfl, ?_⟩
    show max 0 _ ≤ _
    omega
  · refine ⟨rfl, ?_⟩
    show _ - _ ≤ _
    omega

/-- The interest of due day k + 1 of what is left, in closed form. -/
def intN (r b s : Int) (k : Nat) (a : Int) : Int := (nearN (a.toNat * (r * (spanB b (dueI s k) (dueI s (k + 1))).1).toNat) (1000000 * yearI b).toNat : Nat)
theorem span_nonneg (b x y : Int) : 0 ≤ (spanB b x y).1 := by
  by_cases h : (spanB b x y).2 = 0
  · exact (span_le h).1
  · rw [spanB_zero _ _ _ h]; exact Int.le_refl _
theorem intN_mono {r r' : Int} (b s : Int) (hr : r ≤ r') (k : Nat) (x y : Int) (h : x ≤ y) : intN r b s k x ≤ intN r' b s k y := by
  unfold intN
  have h0 := span_nonneg b (dueI s k) (dueI s (k + 1))
  have h1 : r * (spanB b (dueI s k) (dueI s (k + 1))).1 ≤ r' * (spanB b (dueI s k) (dueI s (k + 1))).1 := Int.mul_le_mul_of_nonneg_right hr h0
  have h2 : x.toNat * (r * (spanB b (dueI s k) (dueI s (k + 1))).1).toNat ≤ y.toNat * (r' * (spanB b (dueI s k) (dueI s (k + 1))).1).toNat := Nat.mul_le_mul (by omega) (by omega)
  exact Int.ofNat_le.2 (near_mono _ _ _ h2)
theorem intN_zero (r b s : Int) (k : Nat) : intN r b s k 0 = 0 := by
  unfold intN
  have := year_ok b
  have e : (0 : Int).toNat = 0 := rfl
  rw [e, Nat.zero_mul, near_zero _ (by omega)]
  rfl
theorem intN_nonneg (r b s : Int) (k : Nat) (a : Int) : 0 ≤ intN r b s k a := by unfold intN; omega
/-- Within a plan Interest is this number, and is not refused. -/
theorem LoanOk.int {p r b s t : Int} (h : LoanOk p r b s t) (k : Nat) (hk : (k : Int) < t) {a : Int} (a0 : 0 ≤ a) (a1 : a ≤ 500000000000) :
    interestB a r b (dueI s k) (dueI s (k + 1)) = (intN r b s k a, 0) ∧ intN r b s k a ≤ a / 22 + 1 := by
  obtain ⟨g0, g1⟩ := h.gap k hk
  obtain ⟨N, e, eN, _, n1⟩ := plan_interest a0 a1 h.r0 h.r1 g0 g1
  have e2 : N = intN r b s k a := by
    rw [eN]
    unfold intN
    have : a.natAbs = a.toNat := by omega
    rw [this]
  rw [← e2]
  exact ⟨e, n1⟩

/-- What is left of p behind k due days. -/
def leftI (p r b s pay : Int) (k : Nat) : Int := leftN (intN r b s) pay k p
theorem leftI_zero (p r b s pay : Int) : leftI p r b s pay 0 = p := rfl
theorem leftI_succ (p r b s pay : Int) (k : Nat) : leftI p r b s pay (k + 1) = payI (leftI p r b s pay k) (intN r b s k (leftI p r b s pay k)) pay := rfl
theorem topN_60 : topN 60 ≤ 500000000000 := by decide +kernel
theorem topN_at {k : Nat} (h : k ≤ 60) : topN k ≤ 500000000000 := by
  have := topN_mono k (60 - k)
  rw [show k + (60 - k) = 60 by omega] at this
  exact Nat.le_trans this topN_60
theorem LoanOk.left {p r b s t : Int} (h : LoanOk p r b s t) {pay : Int} (hp : 0 ≤ pay) : ∀ k : Nat, (k : Int) ≤ t → 0 ≤ leftI p r b s pay k ∧ leftI p r b s pay k ≤ topN k
  | 0, _ => ⟨by have := h.p0; rw [leftI_zero]; omega, by have := h.p1; rw [leftI_zero]; exact this⟩
  | k + 1, hk => by
    obtain ⟨l0, l1⟩ := h.left hp k (by omega)
    have ht := topN_at (k := k) (by have := h.t1; omega)
    obtain ⟨_, hi⟩ := h.int k (by omega) l0 (by omega)
    have i0 := intN_nonneg r b s k (leftI p r b s pay k)
    rw [leftI_succ]
    refine ⟨payI_nonneg _ _ _, Int.le_trans (payI_le (by omega) hp) ?_⟩
    have e : topN (k + 1) = topN k + topN k / 22 + 1 := rfl
    omega
theorem LoanOk.small {p r b s t : Int} (h : LoanOk p r b s t) {pay : Int} (hp : 0 ≤ pay) (k : Nat) (hk : (k : Int) ≤ t) : 0 ≤ leftI p r b s pay k ∧ leftI p r b s pay k ≤ 500000000000 := by
  obtain ⟨l0, l1⟩ := h.left hp k hk
  have := topN_at (k := k) (by have := h.t1; omega)
  exact ⟨l0, by omega⟩
theorem leftI_mono {p p' r r' : Int} (b s : Int) {pay pay' : Int} (hp : p ≤ p') (hr : r ≤ r') (hy : pay' ≤ pay) (k : Nat) : leftI p r b s pay k ≤ leftI p' r' b s pay' k :=
  leftN_mono hy (fun k x y h => intN_mono b s hr k x y h) k p p' hp
theorem payI_all {l i pay : Int} (h : l + i ≤ pay) : payI l i pay = 0 := by unfold payI; omega
/-- The greatest pay leaves nothing. -/
theorem LoanOk.topPay {p r b s t : Int} (h : LoanOk p r b s t) : ∀ k : Nat, leftI p r b s 20000000000 (k + 1) = 0
  | 0 => by
    have p0 := h.p0
    have p1 := h.p1
    obtain ⟨_, hi⟩ := h.int 0 (by have := h.t0; omega) (a := p) (by omega) (by omega)
    rw [leftI_succ, leftI_zero]
    exact payI_all (by omega)
  | k + 1 => by
    rw [leftI_succ, h.topPay k, intN_zero]
    exact payI_all (by omega)

/-- X is the instalment: a pay leaves nothing just if it is no less. -/
structure IsInst (p r b s : Int) (t : Nat) (X : Nat) : Prop where
  low : 1 ≤ X
  high : X ≤ 20000000000
  iff : ∀ k : Nat, leftI p r b s k t = 0 ↔ X ≤ k
theorem LoanOk.inst {p r b s t : Int} (h : LoanOk p r b s t) : ∃ X, IsInst p r b s t.toNat X := by
  have t0 := h.t0
  obtain ⟨n, hn⟩ : ∃ n : Nat, t.toNat = n + 1 := ⟨t.toNat - 1, by omega⟩
  have hm : ∀ x y : Nat, x ≤ y → decide (leftI p r b s (x : Nat) (n + 1) = 0) = true → decide (leftI p r b s (y : Nat) (n + 1) = 0) = true := by
    intro x y hxy hx
    have hx := of_decide_eq_true hx
    refine decide_eq_true ?_
    have h1 := leftI_mono (p := p) (p' := p) (r := r) (r' := r) b s (pay := (y : Nat)) (pay' := (x : Nat)) (Int.le_refl _) (Int.le_refl _) (by omega) (n + 1)
    have h2 := (h.left (pay := (y : Nat)) (by omega) (n + 1) (by omega)).1
    omega
  have htop : decide (leftI p r b s ((20000000000 : Nat) : Int) (n + 1) = 0) = true := decide_eq_true (h.topPay n)
  generalize hN : (20000000000 : Nat) = N at htop
  obtain ⟨X, hX⟩ : ∃ X, X = leastN (fun k : Nat => decide (leftI p r b s (k : Nat) (n + 1) = 0)) N := ⟨_, rfl⟩
  have hi : ∀ k : Nat, leftI p r b s k (n + 1) = 0 ↔ X ≤ k := by
    intro k
    have hh := least_half (fun k : Nat => decide (leftI p r b s (k : Nat) (n + 1) = 0)) hm N k htop
    rw [← hX] at hh
    constructor
    · intro hk; exact hh.1 (decide_eq_true hk)
    · intro hk
      cases hz : decide (leftI p r b s (k : Nat) (n + 1) = 0)
      · have := hh.2 hz; omega
      · exact of_decide_eq_true hz
  refine ⟨X, ?_, ?_, ?_⟩
  · rcases Nat.lt_or_ge 0 X with hl | hl
    · exact hl
    · exfalso
      have hz := (hi 0).2 hl
      have : ∀ k : Nat, 1 ≤ leftI p r b s ((0 : Nat) : Int) k := by
        intro k
        induction k with
        | zero => exact h.p0
        | succ k ih =>
          rw [leftI_succ]
          have i0 := intN_nonneg r b s k (leftI p r b s ((0 : Nat) : Int) k)
          unfold payI
          omega
      have := this (n + 1)
      omega
  · rw [hX, hN]; exact leastN_le _ _
  · rw [hn]; exact hi
theorem IsInst.mono {p r b s p' r' : Int} {t X X' : Nat} (h : IsInst p r b s t X) (h' : IsInst p' r' b s t X') (hp : p ≤ p') (hr : r ≤ r') (hk : 0 ≤ leftI p r b s (X' : Nat) t) : X ≤ X' := by
  refine (h.iff X').1 ?_
  have h1 := (h'.iff X').2 (Nat.le_refl _)
  have h2 := leftI_mono (p := p) (p' := p') (r := r) (r' := r') b s (pay := (X' : Nat)) (pay' := (X' : Nat)) hp hr (Int.le_refl _) t
  omega
end Go.Proofs.YtnefcldjigndgaaGreatDoor
