/- What makes an environment right: the program's inner calls. -/
import Derived.Test.YtnefcldjigndgaaDoorEnvR
import Derived.Test.YtnefcldjigndgaaDoorCal
namespace Go.Proofs.YtnefcldjigndgaaDoor
open Go.RowKit
open Go.Proofs.YtnefcldjigndgaaDoor.Draw

def inPar (P : Nat → Pm) (T : Nat → Int) (k : Nat) : Bool := (List.range k).all fun i => decide ((P i).l ≤ T i) && decide (T i ≤ (P i).h)
theorem inPar_no {P : Nat → Pm} {T : Nat → Int} {n k : Nat} (hk : k < n) (h : T k < (P k).l ∨ (P k).h < T k) : inPar P T n = false := by
  unfold inPar
  rw [List.all_eq_false]
  exact ⟨k, by simpa using hk, by simp; omega⟩
theorem inPar_yes {P : Nat → Pm} {T : Nat → Int} {n : Nat} (h : ∀ j, j < n → (P j).l ≤ T j ∧ T j ≤ (P j).h) : inPar P T n = true := by
  unfold inPar
  rw [List.all_eq_true]
  intro j hj
  have := h j (by simpa using hj)
  simp [this.1, this.2]
def allB (B : Nat → Int) (k : Nat) : Bool := (List.range k).all fun i => rightB (B i)
theorem allB_no {B : Nat → Int} {n k : Nat} (hk : k < n) (h : rightB (B k) = false) : allB B n = false := by
  unfold allB
  rw [List.all_eq_false]
  exact ⟨k, by simpa using hk, by simp [h]⟩
theorem allB_yes {B : Nat → Int} {n : Nat} (h : ∀ j, j < n → rightB (B j) = true) : allB B n = true := by
  unfold allB
  rw [List.all_eq_true]
  intro j hj
  exact h j (by simpa using hj)
def momB (t s c u v : Int) : Bool := dayRB t && dayRB s && decide (s ≤ t) && decide (0 ≤ c) && decide (c ≤ 1000) && rightB u && decide (0 ≤ u) && decide (0 ≤ v) && decide (v ≤ 2000)
set_option maxRecDepth 100000 in
set_option maxHeartbeats 8000000 in
theorem impl_args (a : Option Addr) (n cap : Nat) (P : Nat → Pm) (ea : Option Addr) (np ec : Nat) (T : Nat → Int) (hn : n ≤ 1048576) (hp : np ≤ 1048576) (w : World) (h : ParamsAt w a n P) (h' : IntsAt w ea np T) :
    Calls Tryd.prog 63 #[.slice a n cap, .slice ea np ec] w fun e w' => e = .returned (.bool (decide (np = n) && inPar P T np)) ∧ w' = w := by
  have HP : Hid (ParamsAt w a n P) := h
  have HT : Hid (IntsAt w ea np T) := h'
  clear h h'
  by_cases e : np = n
  rotate_left
  · have q0 : (np != n) = true := by simpa using e
    have q1 : ((np : Int) != (n : Int)) = true := by simp; omega
    have HR : Hid ((decide (np = n) && inPar P T np) = false) := by show _ = _; simp [e]
    clear e
    go_enter Tryd.func63, Tryd.ntmps63
    go_wp2_with fail
    go_ret
    exact ⟨ret_bool HR.out.symm, rfl⟩
  subst e
  have q0 : ((np : Int) != (np : Int)) = false := by simp
  have HD : Hid ((decide (np = np) && inPar P T np) = inPar P T np) := by show _ = _; simp
  rw [HD.out]
  clear HD
  go_enter Tryd.func63, Tryd.ntmps63
  go_wp2_with fail
  go_loop [14] (fun i => ∃ k : Nat, k ≤ np ∧ i = .int .i64 (k : Int) ∧ Hid (∀ j, j < k → (P j).l ≤ T j ∧ T j ≤ (P j).h)) (fun i => np - (intOf i).toNat)
  case atStart => exact ⟨0, Nat.zero_le _, rfl, fun j hj => by omega⟩
  case round =>
    obtain ⟨k, hk, rfl, H⟩ := hrel
    by_cases hkn : k < np
    · have p0 : decide (k < np) = true := by simpa using hkn
      have p1 : decide ((k : Int) < (np : Int)) = true := by simpa using hkn
      rcases HP.out with h0 | ⟨g, f, rfl, hg, hc⟩
      · omega
      rcases HT.out with h0 | ⟨g', f', rfl, hg', hc'⟩
      · omega
      obtain ⟨_, _, c2, c3⟩ := hc k hkn
      have d0 := hc' k hkn
      have HNO : Hid (T k < (P k).l ∨ (P k).h < T k → inPar P T np = false) := fun h => inPar_no hkn h
      have HYES : Hid ((P k).l ≤ T k ∧ T k ≤ (P k).h → ∀ j, j < k + 1 → (P j).l ≤ T j ∧ T j ≤ (P j).h) := fun h j hj => by
        by_cases e : j = k
        · rw [e]; exact h
        · exact H.out j (by omega)
      clear hc hc' H
      generalize (P k).l = lo at *
      generalize (P k).h = hi at *
      generalize T k = x at *
      by_cases r0 : x < lo
      · have t0 : decide (x < lo) = true := by simpa using r0
        have HX : Hid (inPar P T np = false) := HNO.out (Or.inl r0)
        clear r0
        go_wp2_with fail
        go_ret
        exact ⟨ret_bool HX.out.symm, rfl⟩
      have t0 : decide (x < lo) = false := by simpa using r0
      by_cases r1 : hi < x
      · have t1 : decide (hi < x) = true := by simpa using r1
        have HX : Hid (inPar P T np = false) := HNO.out (Or.inr r1)
        clear r0 r1
        go_wp2_with fail
        go_ret
        exact ⟨ret_bool HX.out.symm, rfl⟩
      have t1 : decide (hi < x) = false := by simpa using r1
      have HX : Hid (∀ j, j < k + 1 → (P j).l ≤ T j ∧ T j ≤ (P j).h) := HYES.out ⟨by omega, by omega⟩
      clear r0 r1
      go_wp2_with fail
      go_round
      case rel => exact ⟨k + 1, by omega, by go_num, HX⟩
      case measure => simp [intOf]; omega
    · have p0 : decide (k < np) = false := by simpa using hkn
      have p1 : decide ((k : Int) < (np : Int)) = false := by simpa using hkn
      obtain rfl : k = np := by omega
      have HR : Hid (inPar P T k = true) := inPar_yes H.out
      go_wp2_with fail
      go_ret
      exact ⟨ret_bool HR.out.symm, rfl⟩
set_option maxRecDepth 100000 in
set_option maxHeartbeats 8000000 in
theorem impl_bals (m : Nat) (ba : Option Addr) (nb bc : Nat) (B : Nat → Int) (hb : nb ≤ 1048576) (hm : m ≤ 1048576) (w : World) (h' : IntsAt w ba nb B) :
    Calls Tryd.prog 64 #[.int .i64 (m : Int), .slice ba nb bc] w fun e w' => e = .returned (.bool (decide (nb = m) && allB B nb)) ∧ w' = w := by
  have HT : Hid (IntsAt w ba nb B) := h'
  clear h'
  by_cases e : nb = m
  rotate_left
  · have q1 : ((nb : Int) != (m : Int)) = true := by simp; omega
    have HR : Hid ((decide (nb = m) && allB B nb) = false) := by show _ = _; simp [e]
    clear e
    go_enter Tryd.func64, Tryd.ntmps64
    go_wp2_with fail
    go_ret
    exact ⟨ret_bool HR.out.symm, rfl⟩
  subst e
  have q0 : ((nb : Int) != (nb : Int)) = false := by simp
  have HD : Hid ((decide (nb = nb) && allB B nb) = allB B nb) := by show _ = _; simp
  rw [HD.out]
  clear HD
  go_enter Tryd.func64, Tryd.ntmps64
  go_wp2_with fail
  go_loop [13] (fun i => ∃ k : Nat, k ≤ nb ∧ i = .int .i64 (k : Int) ∧ Hid (∀ j, j < k → rightB (B j) = true)) (fun i => nb - (intOf i).toNat)
  case atStart => exact ⟨0, Nat.zero_le _, rfl, fun j hj => by omega⟩
  case round =>
    obtain ⟨k, hk, rfl, H⟩ := hrel
    by_cases hkn : k < nb
    · have p0 : decide (k < nb) = true := by simpa using hkn
      have p1 : decide ((k : Int) < (nb : Int)) = true := by simpa using hkn
      rcases HT.out with h0 | ⟨g', f', rfl, hg', hc'⟩
      · omega
      have d0 := hc' k hkn
      have HNO : Hid (rightB (B k) = false → allB B nb = false) := fun h => allB_no hkn h
      have HYES : Hid (rightB (B k) = true → ∀ j, j < k + 1 → rightB (B j) = true) := fun h j hj => by
        by_cases e : j = k
        · rw [e]; exact h
        · exact H.out j (by omega)
      clear hc' H
      generalize B k = x at *
      go_wp2_with fail
      refine (impl_right _ _).mono ?_
      rintro e w1 ⟨rfl, rfl⟩
      cases hr : rightB x with
      | false =>
        have HX : Hid (allB B nb = false) := HNO.out hr
        go_wp2_with fail
        go_ret
        exact ⟨ret_bool HX.out.symm, rfl⟩
      | true =>
        have HX : Hid (∀ j, j < k + 1 → rightB (B j) = true) := HYES.out hr
        go_wp2_with fail
        go_round
        case rel => exact ⟨k + 1, by omega, by go_num, HX⟩
        case measure => simp [intOf]; omega
    · have p0 : decide (k < nb) = false := by simpa using hkn
      have p1 : decide ((k : Int) < (nb : Int)) = false := by simpa using hkn
      obtain rfl : k = nb := by omega
      have HR : Hid (allB B k = true) := allB_yes H.out
      go_wp2_with fail
      go_ret
      exact ⟨ret_bool HR.out.symm, rfl⟩
set_option maxRecDepth 100000 in
set_option maxHeartbeats 8000000 in
theorem impl_moment (pa : Option Addr) (np pc : Nat) (ba : Option Addr) (nb bc : Nat) (t s c u v : Int) (w : World) :
    Calls Tryd.prog 65 #[.agg #[.slice pa np pc, .slice ba nb bc, .int .i64 t, .int .i64 s, .int .i64 c, .int .i64 u, .int .i64 v]] w fun e w' => e = .returned (.bool (momB t s c u v)) ∧ Below w.heap.size w w' := by
  have HB : Hid (Below w.heap.size w (w.alloc (.cells #[.slice pa np pc, .slice ba nb bc, .int .i64 t, .int .i64 s, .int .i64 c, .int .i64 u, .int .i64 v] 47))) := (Below.refl _ _).alloc (Nat.le_refl _) _
  have HM : Hid (momB t s c u v = (dayRB t && dayRB s && decide (s ≤ t) && decide (0 ≤ c) && decide (c ≤ 1000) && rightB u && decide (0 ≤ u) && decide (0 ≤ v) && decide (v ≤ 2000))) := rfl
  generalize momB t s c u v = R at *
  cases k0 : dayRB t with
  | false =>
    have HR : Hid (R = false) := by show _ = _; rw [HM.out, k0]; try simp
    clear HM
    go_enter Tryd.func65, Tryd.ntmps65
    go_wp2_with fail
    refine (impl_dayRight _ _).mono ?_
    rintro e w1 ⟨rfl, rfl⟩
    rw [k0]
    go_wp2_with fail
    go_ret
    exact ⟨ret_bool HR.out.symm, HB.out⟩
  | true =>
    cases k1 : dayRB s with
    | false =>
      have HR : Hid (R = false) := by show _ = _; rw [HM.out, k0, k1]; try simp
      clear HM
      go_enter Tryd.func65, Tryd.ntmps65
      go_wp2_with fail
      refine (impl_dayRight _ _).mono ?_
      rintro e w1 ⟨rfl, rfl⟩
      rw [k0]
      go_wp2_with fail
      refine (impl_dayRight _ _).mono ?_
      rintro e w1 ⟨rfl, rfl⟩
      rw [k1]
      go_wp2_with fail
      go_ret
      exact ⟨ret_bool HR.out.symm, HB.out⟩
    | true =>
      cases k2 : decide (t < s) with
      | true =>
        have n2 : decide (s ≤ t) = false := by simp at k2 ⊢; omega
        have HR : Hid (R = false) := by show _ = _; rw [HM.out, k0, k1, n2]; try simp
        clear HM n2
        go_enter Tryd.func65, Tryd.ntmps65
        go_wp2_with fail
        refine (impl_dayRight _ _).mono ?_
        rintro e w1 ⟨rfl, rfl⟩
        rw [k0]
        go_wp2_with fail
        refine (impl_dayRight _ _).mono ?_
        rintro e w1 ⟨rfl, rfl⟩
        rw [k1]
        go_wp2_with fail
        go_ret
        exact ⟨ret_bool HR.out.symm, HB.out⟩
      | false =>
        cases k3 : decide (c < 0) with
        | true =>
          have n2 : decide (s ≤ t) = true := by simp at k2 ⊢; omega
          have n3 : decide (0 ≤ c) = false := by simp at k3 ⊢; omega
          have HR : Hid (R = false) := by show _ = _; rw [HM.out, k0, k1, n2, n3]; try simp
          clear HM n2 n3
          go_enter Tryd.func65, Tryd.ntmps65
          go_wp2_with fail
          refine (impl_dayRight _ _).mono ?_
          rintro e w1 ⟨rfl, rfl⟩
          rw [k0]
          go_wp2_with fail
          refine (impl_dayRight _ _).mono ?_
          rintro e w1 ⟨rfl, rfl⟩
          rw [k1]
          go_wp2_with fail
          go_ret
          exact ⟨ret_bool HR.out.symm, HB.out⟩
        | false =>
          cases k4 : decide (1000 < c) with
          | true =>
            have n2 : decide (s ≤ t) = true := by simp at k2 ⊢; omega
            have n3 : decide (0 ≤ c) = true := by simp at k3 ⊢; omega
            have n4 : decide (c ≤ 1000) = false := by simp at k4 ⊢; omega
            have HR : Hid (R = false) := by show _ = _; rw [HM.out, k0, k1, n2, n3, n4]; try simp
            clear HM n2 n3 n4
            go_enter Tryd.func65, Tryd.ntmps65
            go_wp2_with fail
            refine (impl_dayRight _ _).mono ?_
            rintro e w1 ⟨rfl, rfl⟩
            rw [k0]
            go_wp2_with fail
            refine (impl_dayRight _ _).mono ?_
            rintro e w1 ⟨rfl, rfl⟩
            rw [k1]
            go_wp2_with fail
            go_ret
            exact ⟨ret_bool HR.out.symm, HB.out⟩
          | false =>
            cases k5 : decide (v < 0) with
            | true =>
              have n2 : decide (s ≤ t) = true := by simp at k2 ⊢; omega
              have n3 : decide (0 ≤ c) = true := by simp at k3 ⊢; omega
              have n4 : decide (c ≤ 1000) = true := by simp at k4 ⊢; omega
              have n5 : decide (0 ≤ v) = false := by simp at k5 ⊢; omega
              have HR : Hid (R = false) := by show _ = _; rw [HM.out, k0, k1, n2, n3, n4, n5]; try simp
              clear HM n2 n3 n4 n5
              go_enter Tryd.func65, Tryd.ntmps65
              go_wp2_with fail
              refine (impl_dayRight _ _).mono ?_
              rintro e w1 ⟨rfl, rfl⟩
              rw [k0]
              go_wp2_with fail
              refine (impl_dayRight _ _).mono ?_
              rintro e w1 ⟨rfl, rfl⟩
              rw [k1]
              go_wp2_with fail
              go_ret
              exact ⟨ret_bool HR.out.symm, HB.out⟩
            | false =>
              cases k6 : decide (2000 < v) with
              | true =>
                have n2 : decide (s ≤ t) = true := by simp at k2 ⊢; omega
                have n3 : decide (0 ≤ c) = true := by simp at k3 ⊢; omega
                have n4 : decide (c ≤ 1000) = true := by simp at k4 ⊢; omega
                have n5 : decide (0 ≤ v) = true := by simp at k5 ⊢; omega
                have n6 : decide (v ≤ 2000) = false := by simp at k6 ⊢; omega
                have HR : Hid (R = false) := by show _ = _; rw [HM.out, k0, k1, n2, n3, n4, n5, n6]; try simp
                clear HM n2 n3 n4 n5 n6
                go_enter Tryd.func65, Tryd.ntmps65
                go_wp2_with fail
                refine (impl_dayRight _ _).mono ?_
                rintro e w1 ⟨rfl, rfl⟩
                rw [k0]
                go_wp2_with fail
                refine (impl_dayRight _ _).mono ?_
                rintro e w1 ⟨rfl, rfl⟩
                rw [k1]
                go_wp2_with fail
                go_ret
                exact ⟨ret_bool HR.out.symm, HB.out⟩
              | false =>
                cases k7 : decide (0 ≤ u) with
                | false =>
                  have n2 : decide (s ≤ t) = true := by simp at k2 ⊢; omega
                  have n3 : decide (0 ≤ c) = true := by simp at k3 ⊢; omega
                  have n4 : decide (c ≤ 1000) = true := by simp at k4 ⊢; omega
                  have n5 : decide (0 ≤ v) = true := by simp at k5 ⊢; omega
                  have n6 : decide (v ≤ 2000) = true := by simp at k6 ⊢; omega
                  have HR : Hid (R = false) := by show _ = _; rw [HM.out, k0, k1, n2, n3, n4, n5, n6, k7]; try simp
                  clear HM n2 n3 n4 n5 n6
                  go_enter Tryd.func65, Tryd.ntmps65
                  go_wp2_with fail
                  refine (impl_dayRight _ _).mono ?_
                  rintro e w1 ⟨rfl, rfl⟩
                  rw [k0]
                  go_wp2_with fail
                  refine (impl_dayRight _ _).mono ?_
                  rintro e w1 ⟨rfl, rfl⟩
                  rw [k1]
                  go_wp2_with fail
                  go_ret
                  exact ⟨ret_bool HR.out.symm, HB.out⟩
                | true =>
                  cases k8 : rightB u with
                  | false =>
                    have n2 : decide (s ≤ t) = true := by simp at k2 ⊢; omega
                    have n3 : decide (0 ≤ c) = true := by simp at k3 ⊢; omega
                    have n4 : decide (c ≤ 1000) = true := by simp at k4 ⊢; omega
                    have n5 : decide (0 ≤ v) = true := by simp at k5 ⊢; omega
                    have n6 : decide (v ≤ 2000) = true := by simp at k6 ⊢; omega
                    have HR : Hid (R = false) := by show _ = _; rw [HM.out, k0, k1, n2, n3, n4, n5, n6, k7, k8]; try simp
                    clear HM n2 n3 n4 n5 n6
                    go_enter Tryd.func65, Tryd.ntmps65
                    go_wp2_with fail
                    refine (impl_dayRight _ _).mono ?_
                    rintro e w1 ⟨rfl, rfl⟩
                    rw [k0]
                    go_wp2_with fail
                    refine (impl_dayRight _ _).mono ?_
                    rintro e w1 ⟨rfl, rfl⟩
                    rw [k1]
                    go_wp2_with fail
                    refine (impl_right _ _).mono ?_
                    rintro e w1 ⟨rfl, rfl⟩
                    rw [k8]
                    go_wp2_with fail
                    go_ret
                    exact ⟨ret_bool HR.out.symm, HB.out⟩
                  | true =>
                    have n2 : decide (s ≤ t) = true := by simp at k2 ⊢; omega
                    have n3 : decide (0 ≤ c) = true := by simp at k3 ⊢; omega
                    have n4 : decide (c ≤ 1000) = true := by simp at k4 ⊢; omega
                    have n5 : decide (0 ≤ v) = true := by simp at k5 ⊢; omega
                    have n6 : decide (v ≤ 2000) = true := by simp at k6 ⊢; omega
                    have HR : Hid (R = true) := by show _ = _; rw [HM.out, k0, k1, n2, n3, n4, n5, n6, k7, k8]; try simp
                    clear HM n2 n3 n4 n5 n6
                    go_enter Tryd.func65, Tryd.ntmps65
                    go_wp2_with fail
                    refine (impl_dayRight _ _).mono ?_
                    rintro e w1 ⟨rfl, rfl⟩
                    rw [k0]
                    go_wp2_with fail
                    refine (impl_dayRight _ _).mono ?_
                    rintro e w1 ⟨rfl, rfl⟩
                    rw [k1]
                    go_wp2_with fail
                    refine (impl_right _ _).mono ?_
                    rintro e w1 ⟨rfl, rfl⟩
                    rw [k8]
                    go_wp2_with fail
                    go_ret
                    exact ⟨ret_bool HR.out.symm, HB.out⟩
end Go.Proofs.YtnefcldjigndgaaDoor
