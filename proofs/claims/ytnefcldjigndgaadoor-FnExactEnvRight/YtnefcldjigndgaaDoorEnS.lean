/- Is an environment right for a product: the model. -/
import Derived.Test.YtnefcldjigndgaaDoorEnI
import Derived.Test.YtnefcldjigndgaaDoorPrJ
import Derived.BigQuiet
import Derived.Deep.QuietTactic
namespace Go.Proofs.YtnefcldjigndgaaDoor
open Go.RowKit
open Go.Proofs.YtnefcldjigndgaaDoor.Draw

set_option maxRecDepth 100000 in
set_option maxHeartbeats 8000000 in
theorem spec_rest (ea : Option Addr) (np ec : Nat) (ba : Option Addr) (nb bc : Nat) (t s c u v : Int) (B : Nat → Int) (hb : nb ≤ 1048576) (w : World) (hB : IntsAt w ba nb B) :
    Calls Tryd.prog 43 #[.agg #[.slice ea np ec, .slice ba nb bc, .int .i64 t, .int .i64 s, .int .i64 c, .int .i64 u, .int .i64 v]] w fun e w' => e = .returned (.bool (allB B nb && momB t s c u v)) ∧ Below w.heap.size w w' := by
  have HB : Hid (Below w.heap.size w (w.alloc (.cells #[.slice ea np ec, .slice ba nb bc, .int .i64 t, .int .i64 s, .int .i64 c, .int .i64 u, .int .i64 v] 47))) := (Below.refl _ _).alloc (Nat.le_refl _) _
  have HT : Hid (IntsAt (w.alloc (.cells #[.slice ea np ec, .slice ba nb bc, .int .i64 t, .int .i64 s, .int .i64 c, .int .i64 u, .int .i64 v] 47)) ba nb B) := hB.below HB.out
  have HM : Hid ((allB B nb && momB t s c u v) = (allB B nb && (dayRB t && dayRB s && decide (s ≤ t) && decide (0 ≤ c) && decide (c ≤ 1000) && rightB u && decide (0 ≤ u) && decide (0 ≤ v) && decide (v ≤ 2000)))) := rfl
  generalize (allB B nb && momB t s c u v) = R at *
  clear hB
  go_enter Tryd.func43, Tryd.ntmps43
  go_wp2_with fail
  go_loop [3] (fun i => ∃ k : Nat, k ≤ nb ∧ i = .int .i64 (k : Int) ∧ Hid (∀ j, j < k → rightB (B j) = true)) (fun i => nb - (intOf i).toNat)
  case atStart => exact ⟨0, Nat.zero_le _, rfl, fun j hj => by omega⟩
  case round =>
    obtain ⟨k, hk, rfl, H⟩ := hrel
    by_cases hkn : k < nb
    · have p0 : decide (k < nb) = true := by simpa using hkn
      have p1 : decide ((k : Int) < (nb : Int)) = true := by simpa using hkn
      rcases HT.out with h0 | ⟨g', f', rfl, hg', hc'⟩
      · omega
      have d0 := hc' k hkn
      have HNO : Hid (rightB (B k) = false → R = false) := fun h => by rw [HM.out, allB_no hkn h]; rfl
      have HYES : Hid (rightB (B k) = true → ∀ j, j < k + 1 → rightB (B j) = true) := fun h j hj => by
        by_cases e : j = k
        · rw [e]; exact h
        · exact H.out j (by omega)
      clear hc' H
      generalize B k = x at *
      go_wp2_with fail
      refine (spec_right _ _).mono ?_
      rintro e w1 ⟨rfl, rfl⟩
      cases hr : rightB x with
      | false =>
        have HX : Hid (R = false) := HNO.out hr
        go_wp2_with fail
        go_ret
        exact ⟨ret_bool HX.out.symm, HB.out⟩
      | true =>
        have HX : Hid (∀ j, j < k + 1 → rightB (B j) = true) := HYES.out hr
        go_wp2_with fail
        go_round
        case rel => exact ⟨k + 1, by omega, by go_num, HX⟩
        case measure => simp [intOf]; omega
    · have p0 : decide (k < nb) = false := by simpa using hkn
      have p1 : decide ((k : Int) < (nb : Int)) = false := by simpa using hkn
      obtain rfl : k = nb := by omega
      have HAll : Hid (allB B k = true) := allB_yes H.out
      clear H
      cases k0 : dayRB t with
      | false =>
        have HR : Hid (R = false) := by show _ = _; rw [HM.out, HAll.out, k0]; try simp
        clear HM
        go_wp2_with fail
        refine (spec_dayRight _ _).mono ?_
        rintro e w1 ⟨rfl, rfl⟩
        rw [k0]
        go_wp2_with fail
        go_ret
        exact ⟨ret_bool HR.out.symm, HB.out⟩
      | true =>
        cases k1 : dayRB s with
        | false =>
          have HR : Hid (R = false) := by show _ = _; rw [HM.out, HAll.out, k0, k1]; try simp
          clear HM
          go_wp2_with fail
          refine (spec_dayRight _ _).mono ?_
          rintro e w1 ⟨rfl, rfl⟩
          rw [k0]
          go_wp2_with fail
          refine (spec_dayRight _ _).mono ?_
          rintro e w1 ⟨rfl, rfl⟩
          rw [k1]
          go_wp2_with fail
          go_ret
          exact ⟨ret_bool HR.out.symm, HB.out⟩
        | true =>
          cases k2 : decide (s ≤ t) with
          | false =>
            have HR : Hid (R = false) := by show _ = _; rw [HM.out, HAll.out, k0, k1, k2]; try simp
            clear HM
            go_wp2_with fail
            refine (spec_dayRight _ _).mono ?_
            rintro e w1 ⟨rfl, rfl⟩
            rw [k0]
            go_wp2_with fail
            refine (spec_dayRight _ _).mono ?_
            rintro e w1 ⟨rfl, rfl⟩
            rw [k1]
            go_wp2_with fail
            go_ret
            exact ⟨ret_bool HR.out.symm, HB.out⟩
          | true =>
            cases k3 : decide (0 ≤ c) with
            | false =>
              have HR : Hid (R = false) := by show _ = _; rw [HM.out, HAll.out, k0, k1, k2, k3]; try simp
              clear HM
              go_wp2_with fail
              refine (spec_dayRight _ _).mono ?_
              rintro e w1 ⟨rfl, rfl⟩
              rw [k0]
              go_wp2_with fail
              refine (spec_dayRight _ _).mono ?_
              rintro e w1 ⟨rfl, rfl⟩
              rw [k1]
              go_wp2_with fail
              go_ret
              exact ⟨ret_bool HR.out.symm, HB.out⟩
            | true =>
              cases k4 : decide (c ≤ 1000) with
              | false =>
                have HR : Hid (R = false) := by show _ = _; rw [HM.out, HAll.out, k0, k1, k2, k3, k4]; try simp
                clear HM
                go_wp2_with fail
                refine (spec_dayRight _ _).mono ?_
                rintro e w1 ⟨rfl, rfl⟩
                rw [k0]
                go_wp2_with fail
                refine (spec_dayRight _ _).mono ?_
                rintro e w1 ⟨rfl, rfl⟩
                rw [k1]
                go_wp2_with fail
                go_ret
                exact ⟨ret_bool HR.out.symm, HB.out⟩
              | true =>
                cases k5 : rightB u with
                | false =>
                  have HR : Hid (R = false) := by show _ = _; rw [HM.out, HAll.out, k0, k1, k2, k3, k4, k5]; try simp
                  clear HM
                  go_wp2_with fail
                  refine (spec_dayRight _ _).mono ?_
                  rintro e w1 ⟨rfl, rfl⟩
                  rw [k0]
                  go_wp2_with fail
                  refine (spec_dayRight _ _).mono ?_
                  rintro e w1 ⟨rfl, rfl⟩
                  rw [k1]
                  go_wp2_with fail
                  refine (spec_right _ _).mono ?_
                  rintro e w1 ⟨rfl, rfl⟩
                  rw [k5]
                  go_wp2_with fail
                  go_ret
                  exact ⟨ret_bool HR.out.symm, HB.out⟩
                | true =>
                  cases k6 : decide (0 ≤ u) with
                  | false =>
                    have HR : Hid (R = false) := by show _ = _; rw [HM.out, HAll.out, k0, k1, k2, k3, k4, k5, k6]; try simp
                    clear HM
                    go_wp2_with fail
                    refine (spec_dayRight _ _).mono ?_
                    rintro e w1 ⟨rfl, rfl⟩
                    rw [k0]
                    go_wp2_with fail
                    refine (spec_dayRight _ _).mono ?_
                    rintro e w1 ⟨rfl, rfl⟩
                    rw [k1]
                    go_wp2_with fail
                    refine (spec_right _ _).mono ?_
                    rintro e w1 ⟨rfl, rfl⟩
                    rw [k5]
                    go_wp2_with fail
                    go_ret
                    exact ⟨ret_bool HR.out.symm, HB.out⟩
                  | true =>
                    cases k7 : decide (0 ≤ v) with
                    | false =>
                      have HR : Hid (R = false) := by show _ = _; rw [HM.out, HAll.out, k0, k1, k2, k3, k4, k5, k6, k7]; try simp
                      clear HM
                      go_wp2_with fail
                      refine (spec_dayRight _ _).mono ?_
                      rintro e w1 ⟨rfl, rfl⟩
                      rw [k0]
                      go_wp2_with fail
                      refine (spec_dayRight _ _).mono ?_
                      rintro e w1 ⟨rfl, rfl⟩
                      rw [k1]
                      go_wp2_with fail
                      refine (spec_right _ _).mono ?_
                      rintro e w1 ⟨rfl, rfl⟩
                      rw [k5]
                      go_wp2_with fail
                      go_ret
                      exact ⟨ret_bool HR.out.symm, HB.out⟩
                    | true =>
                      cases k8 : decide (v ≤ 2000) with
                      | false =>
                        have HR : Hid (R = false) := by show _ = _; rw [HM.out, HAll.out, k0, k1, k2, k3, k4, k5, k6, k7, k8]; try simp
                        clear HM
                        go_wp2_with fail
                        refine (spec_dayRight _ _).mono ?_
                        rintro e w1 ⟨rfl, rfl⟩
                        rw [k0]
                        go_wp2_with fail
                        refine (spec_dayRight _ _).mono ?_
                        rintro e w1 ⟨rfl, rfl⟩
                        rw [k1]
                        go_wp2_with fail
                        refine (spec_right _ _).mono ?_
                        rintro e w1 ⟨rfl, rfl⟩
                        rw [k5]
                        go_wp2_with fail
                        go_ret
                        exact ⟨ret_bool HR.out.symm, HB.out⟩
                      | true =>
                        have HR : Hid (R = true) := by show _ = _; rw [HM.out, HAll.out, k0, k1, k2, k3, k4, k5, k6, k7, k8]; try simp
                        clear HM
                        go_wp2_with fail
                        refine (spec_dayRight _ _).mono ?_
                        rintro e w1 ⟨rfl, rfl⟩
                        rw [k0]
                        go_wp2_with fail
                        refine (spec_dayRight _ _).mono ?_
                        rintro e w1 ⟨rfl, rfl⟩
                        rw [k1]
                        go_wp2_with fail
                        refine (spec_right _ _).mono ?_
                        rintro e w1 ⟨rfl, rfl⟩
                        rw [k5]
                        go_wp2_with fail
                        go_ret
                        exact ⟨ret_bool HR.out.symm, HB.out⟩
theorem env_alg (qp a1 a2 b1 b2 m : Bool) : (qp && ((a1 && a2) && ((b1 && b2) && m))) = (if (!qp || !a1 || !b1 || !(b2 && m)) = true then false else a2) := by
  cases qp <;> cases a1 <;> cases a2 <;> cases b1 <;> cases b2 <;> cases m <;> rfl
set_option maxRecDepth 100000 in
set_option maxHeartbeats 8000000 in
theorem spec_envRight (d : Pd) (g : Gs) (hs : d.small) (ea : Option Addr) (np ec : Nat) (ba : Option Addr) (nb bc : Nat) (t s c u v : Int) (T B : Nat → Int) (hp : np ≤ 1048576) (hb : nb ≤ 1048576) (w : World) (h : PdAt w d (g.r d)) (hT : IntsAt w ea np T) (hB : IntsAt w ba nb B) :
    Calls Tryd.prog 20 #[.agg (prodA d (g.r d)), .agg #[.slice ea np ec, .slice ba nb bc, .int .i64 t, .int .i64 s, .int .i64 c, .int .i64 u, .int .i64 v]] w fun e w' => e = .returned (.bool (prodB d && envQ d np nb T B t s c u v)) ∧ Below w.heap.size w w' := by
  have HPR : Hid (∀ W, Below w.heap.size w W → Calls Tryd.prog 15 #[.agg (prodA d (g.r d))] W fun e w' => e = .returned (.bool (prodB d)) ∧ Below W.heap.size W w') := fun W hW => spec_productRight d g hs W (h.below hW)
  have HRE : Hid (∀ W, Below w.heap.size w W → Calls Tryd.prog 43 #[.agg #[.slice ea np ec, .slice ba nb bc, .int .i64 t, .int .i64 s, .int .i64 c, .int .i64 u, .int .i64 v]] W fun e w' => e = .returned (.bool (allB B nb && momB t s c u v)) ∧ Below W.heap.size W w') := fun W hW => spec_rest ea np ec ba nb bc t s c u v B hb W (hB.below hW)
  have HQ : Hid ((prodB d && envQ d np nb T B t s c u v) = (if (!prodB d || !decide (np = d.np) || !decide (nb = d.ns) || !(allB B nb && momB t s c u v)) = true then false else inPar d.P T np)) := env_alg _ _ _ _ _ _
  generalize (prodB d && envQ d np nb T B t s c u v) = R at *
  generalize prodB d = qp at *
  generalize (allB B nb && momB t s c u v) = qm at *
  have HTa : Hid (IntsAt w ea np T) := hT
  obtain ⟨x, z, nc, ns, npr, no, ny, nt, C, S, P, O, Y, Tk⟩ := d
  obtain ⟨g0, g1, g2, g3, g4, g5⟩ := g
  obtain ⟨_, _, ⟨n1, _⟩, ⟨n2, _⟩, _⟩ := hs
  have HPa : Hid (ParamsAt w (some ⟨g2, 0, none⟩) npr P) := h.2.2.1
  have X0 := two_now w #[.string x, .int .i64 z, .slice (some ⟨g0, 0, none⟩) nc nc, .slice (some ⟨g1, 0, none⟩) ns ns, .slice (some ⟨g2, 0, none⟩) npr npr, .slice (some ⟨g3, 0, none⟩) no no, .slice (some ⟨g4, 0, none⟩) ny ny, .slice (some ⟨g5, 0, none⟩) nt nt] #[.slice ea np ec, .slice ba nb bc, .int .i64 t, .int .i64 s, .int .i64 c, .int .i64 u, .int .i64 v] 38 47
  have HX0 : Hid (Both w ((w.alloc (.cells #[.string x, .int .i64 z, .slice (some ⟨g0, 0, none⟩) nc nc, .slice (some ⟨g1, 0, none⟩) ns ns, .slice (some ⟨g2, 0, none⟩) npr npr, .slice (some ⟨g3, 0, none⟩) no no, .slice (some ⟨g4, 0, none⟩) ny ny, .slice (some ⟨g5, 0, none⟩) nt nt] 38)).alloc (.cells #[.slice ea np ec, .slice ba nb bc, .int .i64 t, .int .i64 s, .int .i64 c, .int .i64 u, .int .i64 v] 47)) #[.string x, .int .i64 z, .slice (some ⟨g0, 0, none⟩) nc nc, .slice (some ⟨g1, 0, none⟩) ns ns, .slice (some ⟨g2, 0, none⟩) npr npr, .slice (some ⟨g3, 0, none⟩) no no, .slice (some ⟨g4, 0, none⟩) ny ny, .slice (some ⟨g5, 0, none⟩) nt nt] #[.slice ea np ec, .slice ba nb bc, .int .i64 t, .int .i64 s, .int .i64 c, .int .i64 u, .int .i64 v]) := X0
  clear X0 h hT hB
  simp only [] at n1 n2 HQ
  simp only [prodA, Gs.r] at HPR ⊢
  have x0 := HX0.out.box 0
  have x1 := HX0.out.box 1
  have x2 := HX0.out.box 2
  have x3 := HX0.out.box 3
  have x4 := HX0.out.box 4
  have x5 := HX0.out.box 5
  have x6 := HX0.out.box 6
  have x7 := HX0.out.box 7
  simp at x0 x1 x2 x3 x4 x5 x6 x7
  go_enter Tryd.func20, Tryd.ntmps20
  go_wp2_with fail
  refine (HPR.out _ HX0.out.bel).mono ?_
  rintro e w1 ⟨rfl, hb1⟩
  have HX1 : Hid (Both w w1 #[.string x, .int .i64 z, .slice (some ⟨g0, 0, none⟩) nc nc, .slice (some ⟨g1, 0, none⟩) ns ns, .slice (some ⟨g2, 0, none⟩) npr npr, .slice (some ⟨g3, 0, none⟩) no no, .slice (some ⟨g4, 0, none⟩) ny ny, .slice (some ⟨g5, 0, none⟩) nt nt] #[.slice ea np ec, .slice ba nb bc, .int .i64 t, .int .i64 s, .int .i64 c, .int .i64 u, .int .i64 v]) := HX0.out.next hb1
  clear hb1 HX0 x0 x1 x2 x3 x4 x5 x6 x7
  have HB1 : Hid (Below w.heap.size w w1) := HX1.out.bel
  cases qp with
  | false =>
    have HR : Hid (R = false) := by show _ = _; rw [HQ.out]; rfl
    go_wp2_with fail
    go_ret
    exact ⟨ret_bool HR.out.symm, HB1.out⟩
  | true =>
    have x3 := HX1.out.box 3
    have x4 := HX1.out.box 4
    have y0 := HX1.out.res 0
    have y1 := HX1.out.res 1
    have y2 := HX1.out.res 2
    have y3 := HX1.out.res 3
    have y4 := HX1.out.res 4
    have y5 := HX1.out.res 5
    have y6 := HX1.out.res 6
    simp at x3 x4 y0 y1 y2 y3 y4 y5 y6
    by_cases ea1 : np = npr
    rotate_left
    · have HR : Hid (R = false) := by show _ = _; rw [HQ.out, decide_eq_false ea1]; rfl
      have q1 : ((np : Int) != (npr : Int)) = true := by simp; omega
      clear ea1
      go_wp2_with fail
      go_ret
      exact ⟨ret_bool HR.out.symm, HB1.out⟩
    have q1 : ((np : Int) != (npr : Int)) = false := by simp; omega
    by_cases eb1 : nb = ns
    rotate_left
    · have HR : Hid (R = false) := by show _ = _; rw [HQ.out, decide_eq_true ea1, decide_eq_false eb1]; rfl
      have q2 : ((nb : Int) != (ns : Int)) = true := by simp; omega
      have HE1 : Hid (np = npr) := ea1
      clear eb1 ea1
      go_wp2_with fail
      go_ret
      exact ⟨ret_bool HR.out.symm, HB1.out⟩
    have q2 : ((nb : Int) != (ns : Int)) = false := by simp; omega
    have HE : Hid (np = npr ∧ nb = ns) := ⟨ea1, eb1⟩
    rw [decide_eq_true ea1, decide_eq_true eb1] at HQ
    clear ea1 eb1
    go_wp2_with fail
    refine (HRE.out _ HB1.out).mono ?_
    rintro e w2 ⟨rfl, hb2⟩
    have HX2 : Hid (Both w w2 #[.string x, .int .i64 z, .slice (some ⟨g0, 0, none⟩) nc nc, .slice (some ⟨g1, 0, none⟩) ns ns, .slice (some ⟨g2, 0, none⟩) npr npr, .slice (some ⟨g3, 0, none⟩) no no, .slice (some ⟨g4, 0, none⟩) ny ny, .slice (some ⟨g5, 0, none⟩) nt nt] #[.slice ea np ec, .slice ba nb bc, .int .i64 t, .int .i64 s, .int .i64 c, .int .i64 u, .int .i64 v]) := HX1.out.next hb2
    have HB2 : Hid (Below w.heap.size w w2) := HX2.out.bel
    clear hb2 HX1 HB1 x3 x4 y0 y1 y2 y3 y4 y5 y6
    cases qm with
    | false =>
      have HR : Hid (R = false) := by show _ = _; rw [HQ.out]; rfl
      go_wp2_with fail
      go_ret
      exact ⟨ret_bool HR.out.symm, HB2.out⟩
    | true =>
      have HR : Hid (R = inPar P T np) := by show _ = _; rw [HQ.out]; rfl
      clear HQ HRE HPR HB2 q1 q2
      have HN : Hid (npr ≤ 1048576) := n2
      go_wp2_with fail
      go_loopw [5] (fun i wr => ∃ k : Nat, k ≤ np ∧ i = .int .i64 (k : Int) ∧ Hid (∀ j, j < k → (P j).l ≤ T j ∧ T j ≤ (P j).h) ∧ Hid (Both w wr #[.string x, .int .i64 z, .slice (some ⟨g0, 0, none⟩) nc nc, .slice (some ⟨g1, 0, none⟩) ns ns, .slice (some ⟨g2, 0, none⟩) npr npr, .slice (some ⟨g3, 0, none⟩) no no, .slice (some ⟨g4, 0, none⟩) ny ny, .slice (some ⟨g5, 0, none⟩) nt nt] #[.slice ea np ec, .slice ba nb bc, .int .i64 t, .int .i64 s, .int .i64 c, .int .i64 u, .int .i64 v])) (fun i _ => np - (intOf i).toNat)
      case atStart => exact ⟨0, Nat.zero_le _, rfl, (fun j hj => by omega), HX2⟩
      case round =>
        obtain ⟨k, hk, rfl, H, HX⟩ := hrel
        clear HX2
        have x4 := HX.out.box 4
        have y0 := HX.out.res 0
        simp at x4 y0
        by_cases hkn : k < np
        · have p0 : decide (k < np) = true := by simpa using hkn
          have p1 : decide ((k : Int) < (np : Int)) = true := by simpa using hkn
          have hkr : k < npr := by have := HE.out.1; omega
          rcases HPa.out with h0 | ⟨g, f, hge, hg, hc⟩
          · omega
          simp at hge
          obtain ⟨rfl, rfl⟩ := hge
          rcases HTa.out with h0 | ⟨g', f', rfl, hg', hc'⟩
          · omega
          obtain ⟨_, _, c2, c3⟩ := hc k hkr
          have d0 := (HX.out.bel.cell (p := ⟨g', _, none⟩) hg').trans (hc' k hkn)
          have c2 := (HX.out.bel.cell (p := ⟨g2, _, none⟩) hg).trans c2
          have c3 := (HX.out.bel.cell (p := ⟨g2, _, none⟩) hg).trans c3
          simp only [Nat.zero_add] at c2 c3
          have HNO : Hid (T k < (P k).l ∨ (P k).h < T k → R = false) := fun h => by rw [HR.out]; exact inPar_no hkn h
          have HYES : Hid ((P k).l ≤ T k ∧ T k ≤ (P k).h → ∀ j, j < k + 1 → (P j).l ≤ T j ∧ T j ≤ (P j).h) := fun h j hj => by
            by_cases e : j = k
            · rw [e]; exact h
            · exact H.out j (by omega)
          have HDn : Hid (∀ dd, Hid (Both w (wr.drewN dd) #[.string x, .int .i64 z, .slice (some ⟨g0, 0, none⟩) nc nc, .slice (some ⟨g1, 0, none⟩) ns ns, .slice (some ⟨g2, 0, none⟩) npr npr, .slice (some ⟨g3, 0, none⟩) no no, .slice (some ⟨g4, 0, none⟩) ny ny, .slice (some ⟨g5, 0, none⟩) nt nt] #[.slice (some ⟨g', f', none⟩) np ec, .slice ba nb bc, .int .i64 t, .int .i64 s, .int .i64 c, .int .i64 u, .int .i64 v])) := fun dd => HX.out.next ⟨rfl, rfl, rfl, Nat.le_refl _, fun _ _ => rfl⟩
          clear hc hc' H
          generalize (P k).l = lo at *
          generalize (P k).h = hi at *
          generalize T k = xx at *
          by_cases r0 : xx < lo
          · have t0 : decide (xx < lo) = true := by simpa using r0
            have HXX : Hid (R = false) := HNO.out (Or.inl r0)
            clear r0
            go_upto_region 6 with fail
            go_quiet (fail)
            go_wp2_with fail
            go_ret
            exact ⟨ret_bool HXX.out.symm, (HDn.out _).out.bel⟩
          have t0 : decide (xx < lo) = false := by simpa using r0
          by_cases r1 : hi < xx
          · have t1 : decide (hi < xx) = true := by simpa using r1
            have HXX : Hid (R = false) := HNO.out (Or.inr r1)
            clear r0 r1
            go_upto_region 6 with fail
            go_quiet (fail)
            go_wp2_with fail
            go_ret
            exact ⟨ret_bool HXX.out.symm, (HDn.out _).out.bel⟩
          have t1 : decide (hi < xx) = false := by simpa using r1
          have HXX : Hid (∀ j, j < k + 1 → (P j).l ≤ T j ∧ T j ≤ (P j).h) := HYES.out ⟨by omega, by omega⟩
          clear r0 r1
          go_upto_region 6 with fail
          go_quiet (fail)
          go_wp2_with fail
          go_roundw
          case rel => exact ⟨k + 1, by omega, by go_num, HXX, HDn.out _⟩
          case measure => simp [intOf]; omega
        · have p0 : decide (k < np) = false := by simpa using hkn
          have p1 : decide ((k : Int) < (np : Int)) = false := by simpa using hkn
          obtain rfl : k = np := by omega
          have HRR : Hid (R = true) := by show _ = _; rw [HR.out]; exact inPar_yes H.out
          have HBN : Hid (Below w.heap.size w wr) := HX.out.bel
          go_wp2_with fail
          go_ret
          exact ⟨ret_bool HRR.out.symm, HBN.out⟩
end Go.Proofs.YtnefcldjigndgaaDoor
