/- A number read by a machine of goto (impl.readNum), and impl.GetNum around it: what each call does. -/
import Derived.Test.YtdbahildcecgbaaDoorGet
namespace Go.Proofs.YtdbahildcecgbaaDoor.Draw
open Go.RowKit

/-- As Q; by a goto to label l: J l. -/
def jumpsTo (J : Nat → Act → World → Prop) (Q : Exit → Act → World → Prop) : Exit → Act → World → Prop
  | .goto l, a, w => J l a w
  | e, a, w => Q e a w

/-- A scope with several labels: what holds at each jump, and a measure that every pass from a label lowers. -/
theorem scope_labels {P : Program} {a : Act} {w : World} {Q : Exit → Act → World → Prop} {c : Code} (J : Nat → Act → World → Prop) (μ : Nat → Act → World → Nat)
    (first : c.wp P (jumpsTo J Q) a w)
    (pass : ∀ l a w, J l a w → ∃ rest, findLabel c l = some rest ∧ rest.wp P (jumpsTo (fun l' a' w' => J l' a' w' ∧ μ l' a' w' < μ l a w) Q) a w) :
    (Code.scope c).wp P Q a w := by
  intro b k cs
  have key : ∀ n l a w, μ l a w = n → J l a w → ∃ rest, findLabel c l = some rest ∧ ∃ e a' w', Q e a' w' ∧ Arrives P (lone (b.at a (.code rest :: .inScope c :: k)) cs w) b k cs e a' w' := by
    intro n
    induction n using Nat.strongRecOn with
    | _ n ih =>
      intro l a w hn hJ
      obtain ⟨rest, hf, hp⟩ := pass l a w hJ
      refine ⟨rest, hf, ?_⟩
      obtain ⟨e, a₁, w₁, hq, harr⟩ := hp b (.inScope c :: k) cs
      cases e with
      | normal => exact ⟨.normal, a₁, w₁, hq, Steps.trans harr (.one step_inScope)⟩
      | exit id => exact ⟨.exit id, a₁, w₁, hq, fun k' hk => harr k' (by simp [exitTo, hk])⟩
      | goto l' =>
        obtain ⟨hJ', hlt⟩ := hq
        obtain ⟨rest', hf', e₂, a₂, w₂, hq₂, harr₂⟩ := ih _ (by omega) l' a₁ w₁ rfl hJ'
        have hg : gotoIn l' (.inScope c :: k) = some (.code rest' :: .inScope c :: k) := by simp [gotoIn, hf']
        exact ⟨e₂, a₂, w₂, hq₂, .of_steps (harr _ hg) harr₂⟩
      | ret => exact ⟨_, a₁, w₁, hq, harr⟩
      | panic ch => exact ⟨_, a₁, w₁, hq, harr⟩
      | outgrown => exact ⟨_, a₁, w₁, hq, harr⟩
  obtain ⟨e, a₁, w₁, hq, harr⟩ := first b (.inScope c :: k) cs
  cases e with
  | normal => exact ⟨.normal, a₁, w₁, hq, .head step_scope (Steps.trans harr (.one step_inScope))⟩
  | exit id => exact ⟨.exit id, a₁, w₁, hq, fun k' hk => .head step_scope (harr k' (by simp [exitTo, hk]))⟩
  | goto l' =>
    obtain ⟨rest', hf', e₂, a₂, w₂, hq₂, harr₂⟩ := key _ l' a₁ w₁ rfl hq
    have hg : gotoIn l' (.inScope c :: k) = some (.code rest' :: .inScope c :: k) := by simp [gotoIn, hf']
    exact ⟨e₂, a₂, w₂, hq₂, .of_steps (.head step_scope (harr _ hg)) harr₂⟩
  | ret => exact ⟨_, a₁, w₁, hq, .of_steps (.one step_scope) harr⟩
  | panic ch => exact ⟨_, a₁, w₁, hq, .of_steps (.one step_scope) harr⟩
  | outgrown => exact ⟨_, a₁, w₁, hq, .of_steps (.one step_scope) harr⟩

/-- What holds at a jump: to 'more', to 'last', to 'wrong'. -/
def AtJump (s : ByteArray) (A : Nat) (R : Int × Int × Int) (l k u b : Nat) (x5 : Value) : Prop :=
  (l = 0 ∧ x5 = .int .u64 u ∧ k ≤ 9 ∧ A < s.size ∧ Get s A k u R) ∨
  (l = 2 ∧ x5 = .int .u64 u ∧ k ≤ 10 ∧ A + k ≤ s.size ∧ b < 128 ∧ u ≤ 18446744073709551615 ∧ ((b = 0 ∧ 1 < k → R = (0, 0, 3)) ∧ (¬ (b = 0 ∧ 1 < k) → R = (unfZ u, (A : Int) + k, 0)))) ∨
  (l = 1 ∧ R = (0, 0, 3))
def jumpMeasure (l : Nat) (a : Act) : Nat := if l = 0 then 12 - (intOf (a.tmps.getD 6 undef)).toNat else if l = 2 then 1 else 0
def JumpAt (s : ByteArray) (A : Nat) (R : Int × Int × Int) (w : World) (l : Nat) (a' : Act) (w' : World) : Prop :=
  w' = w.alloc (.cells #[.int .i64 0, .int .i64 0, .int .i64 0] 59) ∧ ∃ (k u b : Nat) (x5 u8 u9 u10 u11 u12 u13 u14 u15 u16 u17 u18 u19 u20 u21 u22 u23 u24 u25 u26 u27 u28 u29 u30 u31 u32 u33 u34 u35 u36 u37 u38 u39 u40 u41 u42 u43 u44 u45 u46 u47 u48 u49 u50 : Value), a' = { tmps := #[.string s, .int .i64 A, undef, undef, .pointer (some ⟨w.heap.size, 0, none⟩), x5, .int .i64 k, .int .u8 b, u8, u9, u10, u11, u12, u13, u14, u15, u16, u17, u18, u19, u20, u21, u22, u23, u24, u25, u26, u27, u28, u29, u30, u31, u32, u33, u34, u35, u36, u37, u38, u39, u40, u41, u42, u43, u44, u45, u46, u47, u48, u49, u50], defers := [] } ∧ b < 256 ∧ AtJump s A R l k u b x5

theorem and127_8 (c : UInt8) : bits .and .u8 (c.toNat : Int) 127 = (c.toNat : Int) % 128 := by
  have := u8_and_nat c.toNat 127 c.toNat_lt (by omega)
  rw [nat_mask7] at this
  rw [show (127 : Int) = ((127 : Nat) : Int) from rfl, this]
  omega
/-- No bit is set twice: 'or' is a sum. -/
theorem more_or (u c k : Nat) (hk : k ≤ 9) (hu : u < 2 ^ (7 * k)) (hc : k = 9 → c ≤ 1) : bits .or .u64 (u : Int) (IntKind.u64.wrap ((c : Int) % 128 * 2 ^ (7 * k))) = ((u + c % 128 * 2 ^ (7 * k) : Nat) : Int) := by
  have h := (more_fits u c k hk hu hc).1
  have e : (c : Int) % 128 * 2 ^ (7 * k) = ((c % 128 * 2 ^ (7 * k) : Nat) : Int) := by simp
  have hj := nat_join (7 * k) (c % 128 * 2 ^ (7 * k)) u (Nat.mul_mod_left _ _) hu
  rw [e]
  generalize c % 128 * 2 ^ (7 * k) = x at *
  rw [wrapU (x : Int) (by omega) (by omega), u64_or_nat u x (by omega) (by omega), Nat.or_comm, hj]
  omega

section
variable {s : ByteArray} {A k u U : Nat} {R : Int × Int × Int}
theorem to_more (h : Get s A k u R) (hk : k < 9) (hin : A + k < s.size) (hc : 128 ≤ s[A + k].toNat) (hU : U = u + s[A + k].toNat % 128 * 2 ^ (7 * k)) : AtJump s A R 0 (k + 1) U s[A + k].toNat (.int .u64 U) :=
  Or.inl ⟨rfl, rfl, by omega, by omega, by rw [hU]; exact h.more hk hin hc⟩
theorem to_last (h : Get s A k u R) (hk : k < 10) (hin : A + k < s.size) (hc : s[A + k].toNat < 128) (h9 : k = 9 → s[A + k].toNat ≤ 1) (hU : U = u + s[A + k].toNat % 128 * 2 ^ (7 * k)) : AtJump s A R 2 (k + 1) U s[A + k].toNat (.int .u64 U) := by
  refine Or.inr (Or.inl ⟨rfl, rfl, by omega, by omega, hc, ?_, fun hz => h.nought hk (by omega) hin hz.1, fun hz => ?_⟩)
  · rw [hU]; exact (more_fits u _ k (by omega) (h.low (by omega)) h9).1
  · rw [hU, h.last hk hin hc h9 (by omega)]
    simp
    omega
theorem to_wrong (hR : R = (0, 0, 3)) (k u b : Nat) (x : Value) : AtJump s A R 1 k u b x := Or.inr (Or.inr ⟨rfl, hR⟩)
end

set_option maxRecDepth 100000 in
set_option maxHeartbeats 4000000 in
theorem impl_read (s : ByteArray) (A : Nat) (w : World) (hsz : s.size ≤ 20000) (h1 : (A : Int) ≤ 9223372036854775807) :
    Calls Tryd.prog 42 #[.string s, .int .i64 A] w fun e w' => e = .returned (numV (getF s A 10 0 0)) ∧ Below w.heap.size w w' := by
  obtain ⟨R, hRR⟩ : ∃ R, R = getF s A 10 0 0 := ⟨_, rfl⟩
  rw [← hRR]
  have st : Hid (Get s A 0 0 R) := ⟨by omega, fun _ => by simp, hRR.symm⟩
  clear hRR
  go_enter Tryd.func42, Tryd.ntmps42
  go_wp2
  refine scope_labels (JumpAt s A R w) (fun l a _ => jumpMeasure l a) ?_ ?_
  · go_wp2
    go_step3
    by_cases hin : A < s.size
    · have hbl := byte_lt s[A]
      have ea := and127_8 s[A]
      obtain ⟨U, hUU⟩ : ∃ U, U = 0 + s[A].toNat % 128 * 2 ^ (7 * 0) := ⟨_, rfl⟩
      have eo : bits .or .u64 0 ((s[A].toNat : Int) % 128) = (U : Int) := by
        have := more_or 0 s[A].toNat 0 (by omega) (by simp) (by omega)
        rw [← hUU] at this
        rw [← this, wrapU _ (by simp; omega) (by simp; omega)]
        simp
      have HU : Hid (U = 0 + s[A].toNat % 128 * 2 ^ (7 * 0)) := hUU
      clear hUU
      by_cases hc : 128 ≤ s[A].toNat
      · have HJ : Hid (AtJump s A R 0 (0 + 1) U s[A].toNat (.int .u64 U)) := to_more (k := 0) st.out (by omega) hin hc HU.out
        have hc' : 128 ≤ (s[A].toNat : Int) := by omega
        go_wp2
        go_step3
        exact (show JumpAt s A R w 0 _ _ from ⟨rfl, 0 + 1, U, s[A].toNat, _, _, _, _, _, _, _, _, _, _, _, _, _, _, _, _, _, _, _, _, _, _, _, _, _, _, _, _, _, _, _, _, _, _, _, _, _, _, _, _, _, _, _, _, rfl, by omega, HJ.out⟩)
      · have HJ : Hid (AtJump s A R 2 (0 + 1) U s[A].toNat (.int .u64 U)) := to_last (k := 0) st.out (by omega) hin (show s[A].toNat < 128 by omega) (by omega) HU.out
        have hc' : (s[A].toNat : Int) < 128 := by omega
        go_wp2
        go_step3
        exact (show JumpAt s A R w 2 _ _ from ⟨rfl, 0 + 1, U, s[A].toNat, _, _, _, _, _, _, _, _, _, _, _, _, _, _, _, _, _, _, _, _, _, _, _, _, _, _, _, _, _, _, _, _, _, _, _, _, _, _, _, _, _, _, _, _, rfl, by omega, HJ.out⟩)
    · have HR : Hid (R = (0, 0, 4)) := st.out.short (by omega) (by omega)
      go_wp2
      simp only [jumpsTo]
      refine bodyPost_ret (v := numV R) ?_ rfl ⟨rfl, (Below.refl _ _).alloc (Nat.le_refl _) _⟩
      simp [results, Tryd.results42, go_sem]
      simp [HR.out, numV]
  · rintro l a' w' ⟨rfl, k, u, b, x5, u8, u9, u10, u11, u12, u13, u14, u15, u16, u17, u18, u19, u20, u21, u22, u23, u24, u25, u26, u27, u28, u29, u30, u31, u32, u33, u34, u35, u36, u37, u38, u39, u40, u41, u42, u43, u44, u45, u46, u47, u48, u49, u50, rfl, hb, hJ⟩
    rcases hJ with ⟨rfl, rfl, hk, hk1, hG⟩ | ⟨rfl, rfl, hk, hAk, hb1, hu, hr1, hr2⟩ | ⟨rfl, hR⟩
    · refine ⟨_, rfl, ?_⟩
      have HG : Hid (Get s A k u R) := hG
      clear hG st
      by_cases hin : A + k < s.size
      · have hbl := byte_lt s[A + k]
        have ea := and127_8 s[A + k]
        by_cases hten : k = 9 ∧ 1 < s[A + k].toNat
        · have b3 : ((k : Int) + 1 == 10) = true := beq_iff_eq.2 (by omega)
          have b4 : decide (1 < (s[A + k].toNat : Int)) = true := by simp; omega
          have HR : Hid (R = (0, 0, 3)) := HG.out.tenth hten.1 hin hten.2
          clear hten
          go_wp2
          go_step3
          refine (show JumpAt s A R w 1 _ _ ∧ _ from ⟨⟨rfl, k + 1, 0, s[A + k].toNat, _, _, _, _, _, _, _, _, _, _, _, _, _, _, _, _, _, _, _, _, _, _, _, _, _, _, _, _, _, _, _, _, _, _, _, _, _, _, _, _, _, _, _, _, rfl, by omega, to_wrong HR.out _ _ _ _⟩, ?_⟩)
          simp [jumpMeasure, intOf]
          omega
        · have hle : k = 9 → s[A + k].toNat ≤ 1 := by omega
          have eo := more_or u s[A + k].toNat k (by omega) (HG.out.low (by omega)) hle
          obtain ⟨U, hUU⟩ : ∃ U, U = u + s[A + k].toNat % 128 * 2 ^ (7 * k) := ⟨_, rfl⟩
          rw [← hUU] at eo
          have HU : Hid (U = u + s[A + k].toNat % 128 * 2 ^ (7 * k)) := hUU
          clear hUU
          obtain ⟨q9, b3, b4⟩ : ∃ q : Bool, ((k : Int) + 1 == 10) = q ∧ (q = true → decide (1 < (s[A + k].toNat : Int)) = false) := ⟨_, rfl, fun h => by have := beq_iff_eq.1 h; have := hle (by omega); simp; omega⟩
          by_cases hc : 128 ≤ s[A + k].toNat
          · have HJ : Hid (AtJump s A R 0 (k + 1) U s[A + k].toNat (.int .u64 U)) := to_more HG.out (by omega) hin hc HU.out
            have hc' : 128 ≤ (s[A + k].toNat : Int) := by omega
            have hk8 : k < 9 := by omega
            clear b3 b4 hten hle
            have b3 : ((k : Int) + 1 == 10) = false := beq_eq_false_iff_ne.2 (by omega)
            go_wp2
            go_step3
            refine (show JumpAt s A R w 0 _ _ ∧ _ from ⟨⟨rfl, k + 1, U, s[A + k].toNat, _, _, _, _, _, _, _, _, _, _, _, _, _, _, _, _, _, _, _, _, _, _, _, _, _, _, _, _, _, _, _, _, _, _, _, _, _, _, _, _, _, _, _, _, rfl, by omega, HJ.out⟩, ?_⟩)
            simp [jumpMeasure, intOf]
            omega
          · have HJ : Hid (AtJump s A R 2 (k + 1) U s[A + k].toNat (.int .u64 U)) := to_last HG.out (by omega) hin (by omega) hle HU.out
            have hc' : (s[A + k].toNat : Int) < 128 := by omega
            clear hten hle
            cases q9 <;> simp only [forall_const, reduceCtorEq, false_implies] at b4
            all_goals go_wp2
            all_goals go_step3
            all_goals refine (show JumpAt s A R w 2 _ _ ∧ _ from ⟨⟨rfl, k + 1, U, s[A + k].toNat, _, _, _, _, _, _, _, _, _, _, _, _, _, _, _, _, _, _, _, _, _, _, _, _, _, _, _, _, _, _, _, _, _, _, _, _, _, _, _, _, _, _, _, _, rfl, by omega, HJ.out⟩, ?_⟩)
            all_goals simp [jumpMeasure, intOf]
            all_goals omega
      · have HR : Hid (R = (0, 0, 4)) := HG.out.short (by omega) (by omega)
        go_wp2
        simp only [jumpsTo]
        refine bodyPost_ret (v := numV R) ?_ rfl ⟨rfl, (Below.refl _ _).alloc (Nat.le_refl _) _⟩
        simp [results, Tryd.results42, go_sem]
        simp [HR.out, numV]
    · refine ⟨_, rfl, ?_⟩
      clear st
      by_cases hz : b = 0 ∧ 1 < k
      · have HR : Hid (R = (0, 0, 3)) := hr1 hz
        have b5 : ((b : Int) == 0) = true := beq_iff_eq.2 (by omega)
        have hk1 : 1 < k := hz.2
        clear hr1 hr2 hz
        go_wp2
        go_step3
        refine (show JumpAt s A R w 1 _ _ ∧ _ from ⟨⟨rfl, k, u, b, _, _, _, _, _, _, _, _, _, _, _, _, _, _, _, _, _, _, _, _, _, _, _, _, _, _, _, _, _, _, _, _, _, _, _, _, _, _, _, _, _, _, _, _, rfl, hb, to_wrong HR.out _ _ _ _⟩, ?_⟩)
        simp [jumpMeasure]
      · have HR : Hid (R = (unfZ u, (A : Int) + k, 0)) := hr2 hz
        obtain ⟨q0, b5, b6⟩ : ∃ q : Bool, ((b : Int) == 0) = q ∧ (q = true → k ≤ 1) := ⟨_, rfl, fun h => by have := beq_iff_eq.1 h; omega⟩
        clear hr1 hr2 hz
        cases q0
        · clear b6
          go_wp2_with (go_at_call 47; refine (impl_unfold _ _ hu).mono ?_; rintro e w' ⟨rfl, rfl⟩)
          simp only [jumpsTo]
          refine bodyPost_ret (v := numV R) ?_ rfl ⟨rfl, (Below.refl _ _).alloc (Nat.le_refl _) _⟩
          simp [results, Tryd.results42, go_sem]
          simp [HR.out, numV]
        · have hk1 : ¬ 1 < k := by have := b6 rfl; omega
          clear b6
          go_wp2_with (go_at_call 47; refine (impl_unfold _ _ hu).mono ?_; rintro e w' ⟨rfl, rfl⟩)
          simp only [jumpsTo]
          refine bodyPost_ret (v := numV R) ?_ rfl ⟨rfl, (Below.refl _ _).alloc (Nat.le_refl _) _⟩
          simp [results, Tryd.results42, go_sem]
          simp [HR.out, numV]
    · refine ⟨_, rfl, ?_⟩
      have HR : Hid (R = (0, 0, 3)) := hR
      clear hR st
      go_wp2
      simp only [jumpsTo]
      refine bodyPost_ret (v := numV R) ?_ rfl ⟨rfl, (Below.refl _ _).alloc (Nat.le_refl _) _⟩
      simp [results, Tryd.results42, go_sem]
      simp [HR.out, numV]

end Go.Proofs.YtdbahildcecgbaaDoor.Draw
