/- Is an environment right for a product: the program. -/
import Derived.Test.YtnefcldjigndgaaDoorEnB
import Derived.Test.YtnefcldjigndgaaDoorPrF
namespace Go.Proofs.YtnefcldjigndgaaDoor
open Go.RowKit
open Go.Proofs.YtnefcldjigndgaaDoor.Draw

def envQ (d : Pd) (np nb : Nat) (T B : Nat → Int) (t s c u v : Int) : Bool := (decide (np = d.np) && inPar d.P T np) && ((decide (nb = d.ns) && allB B nb) && momB t s c u v)
set_option maxRecDepth 100000 in
set_option maxHeartbeats 8000000 in
theorem impl_envR (d : Pd) (g : Gs) (hs : d.small) (ea : Option Addr) (np ec : Nat) (ba : Option Addr) (nb bc : Nat) (t s c u v : Int) (T B : Nat → Int) (hp : np ≤ 1048576) (hb : nb ≤ 1048576) (w : World) (h : PdAt w d (g.r d)) (hT : IntsAt w ea np T) (hB : IntsAt w ba nb B) :
    Calls Tryd.prog 45 #[.agg (prodA d (g.r d)), .agg #[.slice ea np ec, .slice ba nb bc, .int .i64 t, .int .i64 s, .int .i64 c, .int .i64 u, .int .i64 v]] w fun e w' => e = .returned (.bool (envQ d np nb T B t s c u v)) ∧ Below w.heap.size w w' := by
  obtain ⟨x, z, nc, ns, npr, no, ny, nt, C, S, P, O, Y, Tk⟩ := d
  obtain ⟨g0, g1, g2, g3, g4, g5⟩ := g
  obtain ⟨_, _, ⟨n1, _⟩, ⟨n2, _⟩, _⟩ := hs
  simp only [] at n1 n2
  have X0 := two_now w #[.string x, .int .i64 z, .slice (some ⟨g0, 0, none⟩) nc nc, .slice (some ⟨g1, 0, none⟩) ns ns, .slice (some ⟨g2, 0, none⟩) npr npr, .slice (some ⟨g3, 0, none⟩) no no, .slice (some ⟨g4, 0, none⟩) ny ny, .slice (some ⟨g5, 0, none⟩) nt nt] #[.slice ea np ec, .slice ba nb bc, .int .i64 t, .int .i64 s, .int .i64 c, .int .i64 u, .int .i64 v] 38 47
  have HX0 : Hid (Both w ((w.alloc (.cells #[.string x, .int .i64 z, .slice (some ⟨g0, 0, none⟩) nc nc, .slice (some ⟨g1, 0, none⟩) ns ns, .slice (some ⟨g2, 0, none⟩) npr npr, .slice (some ⟨g3, 0, none⟩) no no, .slice (some ⟨g4, 0, none⟩) ny ny, .slice (some ⟨g5, 0, none⟩) nt nt] 38)).alloc (.cells #[.slice ea np ec, .slice ba nb bc, .int .i64 t, .int .i64 s, .int .i64 c, .int .i64 u, .int .i64 v] 47)) #[.string x, .int .i64 z, .slice (some ⟨g0, 0, none⟩) nc nc, .slice (some ⟨g1, 0, none⟩) ns ns, .slice (some ⟨g2, 0, none⟩) npr npr, .slice (some ⟨g3, 0, none⟩) no no, .slice (some ⟨g4, 0, none⟩) ny ny, .slice (some ⟨g5, 0, none⟩) nt nt] #[.slice ea np ec, .slice ba nb bc, .int .i64 t, .int .i64 s, .int .i64 c, .int .i64 u, .int .i64 v]) := X0
  have HA := impl_args (some ⟨g2, 0, none⟩) npr npr P ea np ec T n2 hp ((w.alloc (.cells #[.string x, .int .i64 z, .slice (some ⟨g0, 0, none⟩) nc nc, .slice (some ⟨g1, 0, none⟩) ns ns, .slice (some ⟨g2, 0, none⟩) npr npr, .slice (some ⟨g3, 0, none⟩) no no, .slice (some ⟨g4, 0, none⟩) ny ny, .slice (some ⟨g5, 0, none⟩) nt nt] 38)).alloc (.cells #[.slice ea np ec, .slice ba nb bc, .int .i64 t, .int .i64 s, .int .i64 c, .int .i64 u, .int .i64 v] 47)) (h.2.2.1.below X0.bel) (hT.below X0.bel)
  have HBa := impl_bals ns ba nb bc B hb n1 ((w.alloc (.cells #[.string x, .int .i64 z, .slice (some ⟨g0, 0, none⟩) nc nc, .slice (some ⟨g1, 0, none⟩) ns ns, .slice (some ⟨g2, 0, none⟩) npr npr, .slice (some ⟨g3, 0, none⟩) no no, .slice (some ⟨g4, 0, none⟩) ny ny, .slice (some ⟨g5, 0, none⟩) nt nt] 38)).alloc (.cells #[.slice ea np ec, .slice ba nb bc, .int .i64 t, .int .i64 s, .int .i64 c, .int .i64 u, .int .i64 v] 47)) (hB.below X0.bel)
  have HMo : Hid (∀ W, Calls Tryd.prog 65 #[.agg #[.slice ea np ec, .slice ba nb bc, .int .i64 t, .int .i64 s, .int .i64 c, .int .i64 u, .int .i64 v]] W fun e w' => e = .returned (.bool (momB t s c u v)) ∧ Below W.heap.size W w') := fun W => impl_moment ea np ec ba nb bc t s c u v W
  have HQ : Hid (envQ ⟨x, z, nc, ns, npr, no, ny, nt, C, S, P, O, Y, Tk⟩ np nb T B t s c u v = ((decide (np = npr) && inPar P T np) && ((decide (nb = ns) && allB B nb) && momB t s c u v))) := rfl
  generalize envQ ⟨x, z, nc, ns, npr, no, ny, nt, C, S, P, O, Y, Tk⟩ np nb T B t s c u v = R at *
  generalize (decide (np = npr) && inPar P T np) = qa at *
  generalize (decide (nb = ns) && allB B nb) = qb at *
  generalize momB t s c u v = qm at *
  have HA : Hid (Calls Tryd.prog 63 _ _ _) := HA
  have HBa : Hid (Calls Tryd.prog 64 _ _ _) := HBa
  clear h hT hB X0
  have x3 := HX0.out.box 3
  have x4 := HX0.out.box 4
  have y0 := HX0.out.res 0
  have y1 := HX0.out.res 1
  have y2 := HX0.out.res 2
  have y3 := HX0.out.res 3
  have y4 := HX0.out.res 4
  have y5 := HX0.out.res 5
  have y6 := HX0.out.res 6
  simp at x3 x4 y0 y1 y2 y3 y4 y5 y6
  have HBN : Hid (Below w.heap.size w ((w.alloc (.cells #[.string x, .int .i64 z, .slice (some ⟨g0, 0, none⟩) nc nc, .slice (some ⟨g1, 0, none⟩) ns ns, .slice (some ⟨g2, 0, none⟩) npr npr, .slice (some ⟨g3, 0, none⟩) no no, .slice (some ⟨g4, 0, none⟩) ny ny, .slice (some ⟨g5, 0, none⟩) nt nt] 38)).alloc (.cells #[.slice ea np ec, .slice ba nb bc, .int .i64 t, .int .i64 s, .int .i64 c, .int .i64 u, .int .i64 v] 47))) := HX0.out.bel
  show Calls Tryd.prog 45 #[.agg #[.string x, .int .i64 z, .slice (some ⟨g0, 0, none⟩) nc nc, .slice (some ⟨g1, 0, none⟩) ns ns, .slice (some ⟨g2, 0, none⟩) npr npr, .slice (some ⟨g3, 0, none⟩) no no, .slice (some ⟨g4, 0, none⟩) ny ny, .slice (some ⟨g5, 0, none⟩) nt nt], .agg #[.slice ea np ec, .slice ba nb bc, .int .i64 t, .int .i64 s, .int .i64 c, .int .i64 u, .int .i64 v]] w _
  cases qa with
  | false =>
    have HR : Hid (R = false) := by show _ = _; rw [HQ.out]; rfl
    go_enter Tryd.func45, Tryd.ntmps45
    go_wp2_with fail
    refine HA.out.mono ?_
    rintro e w1 ⟨rfl, rfl⟩
    go_wp2_with fail
    go_ret
    exact ⟨ret_bool HR.out.symm, HBN.out⟩
  | true =>
    cases qb with
    | false =>
      have HR : Hid (R = false) := by show _ = _; rw [HQ.out]; rfl
      go_enter Tryd.func45, Tryd.ntmps45
      go_wp2_with fail
      refine HA.out.mono ?_
      rintro e w1 ⟨rfl, rfl⟩
      go_wp2_with fail
      refine HBa.out.mono ?_
      rintro e w2 ⟨rfl, rfl⟩
      go_wp2_with fail
      go_ret
      exact ⟨ret_bool HR.out.symm, HBN.out⟩
    | true =>
      have HR : Hid (R = qm) := by show _ = _; rw [HQ.out]; rfl
      go_enter Tryd.func45, Tryd.ntmps45
      go_wp2_with fail
      refine HA.out.mono ?_
      rintro e w1 ⟨rfl, rfl⟩
      go_wp2_with fail
      refine HBa.out.mono ?_
      rintro e w2 ⟨rfl, rfl⟩
      go_wp2_with fail
      refine (HMo.out _).mono ?_
      rintro e w3 ⟨rfl, hb3⟩
      have HB3 : Hid (Below w.heap.size w w3) := HBN.out.trans (hb3.mono HBN.out.size)
      clear hb3
      go_wp2_with fail
      go_ret
      exact ⟨ret_bool HR.out.symm, HB3.out⟩
set_option maxRecDepth 100000 in
set_option maxHeartbeats 8000000 in
theorem impl_envRight (d : Pd) (g : Gs) (hs : d.small) (ea : Option Addr) (np ec : Nat) (ba : Option Addr) (nb bc : Nat) (t s c u v : Int) (T B : Nat → Int) (hp : np ≤ 1048576) (hb : nb ≤ 1048576) (w : World) (hC : Asc w) (h : PdAt w d (g.r d)) (hT : IntsAt w ea np T) (hB : IntsAt w ba nb B) :
    Calls Tryd.prog 22 #[.agg (prodA d (g.r d)), .agg #[.slice ea np ec, .slice ba nb bc, .int .i64 t, .int .i64 s, .int .i64 c, .int .i64 u, .int .i64 v]] w fun e w' => e = .returned (.bool (prodB d && envQ d np nb T B t s c u v)) ∧ Below w.heap.size w w' := by
  have HPR : Hid (∀ W, Below w.heap.size w W → Calls Tryd.prog 17 #[.agg (prodA d (g.r d))] W fun e w' => e = .returned (.bool (prodB d)) ∧ Below W.heap.size W w') := fun W hW => impl_productRight d g hs W (hC.below hW) (h.below hW)
  have HER : Hid (∀ W, Below w.heap.size w W → Calls Tryd.prog 45 #[.agg (prodA d (g.r d)), .agg #[.slice ea np ec, .slice ba nb bc, .int .i64 t, .int .i64 s, .int .i64 c, .int .i64 u, .int .i64 v]] W fun e w' => e = .returned (.bool (envQ d np nb T B t s c u v)) ∧ Below W.heap.size W w') := fun W hW => impl_envR d g hs ea np ec ba nb bc t s c u v T B hp hb W (h.below hW) (hT.below hW) (hB.below hW)
  generalize prodB d = qp at *
  generalize envQ d np nb T B t s c u v = qe at *
  clear h hT hB hs hC
  obtain ⟨x, z, nc, ns, npr, no, ny, nt, C, S, P, O, Y, Tk⟩ := d
  obtain ⟨g0, g1, g2, g3, g4, g5⟩ := g
  have X0 := two_now w #[.string x, .int .i64 z, .slice (some ⟨g0, 0, none⟩) nc nc, .slice (some ⟨g1, 0, none⟩) ns ns, .slice (some ⟨g2, 0, none⟩) npr npr, .slice (some ⟨g3, 0, none⟩) no no, .slice (some ⟨g4, 0, none⟩) ny ny, .slice (some ⟨g5, 0, none⟩) nt nt] #[.slice ea np ec, .slice ba nb bc, .int .i64 t, .int .i64 s, .int .i64 c, .int .i64 u, .int .i64 v] 38 47
  have HX0 : Hid (Both w ((w.alloc (.cells #[.string x, .int .i64 z, .slice (some ⟨g0, 0, none⟩) nc nc, .slice (some ⟨g1, 0, none⟩) ns ns, .slice (some ⟨g2, 0, none⟩) npr npr, .slice (some ⟨g3, 0, none⟩) no no, .slice (some ⟨g4, 0, none⟩) ny ny, .slice (some ⟨g5, 0, none⟩) nt nt] 38)).alloc (.cells #[.slice ea np ec, .slice ba nb bc, .int .i64 t, .int .i64 s, .int .i64 c, .int .i64 u, .int .i64 v] 47)) #[.string x, .int .i64 z, .slice (some ⟨g0, 0, none⟩) nc nc, .slice (some ⟨g1, 0, none⟩) ns ns, .slice (some ⟨g2, 0, none⟩) npr npr, .slice (some ⟨g3, 0, none⟩) no no, .slice (some ⟨g4, 0, none⟩) ny ny, .slice (some ⟨g5, 0, none⟩) nt nt] #[.slice ea np ec, .slice ba nb bc, .int .i64 t, .int .i64 s, .int .i64 c, .int .i64 u, .int .i64 v]) := X0
  clear X0
  simp only [prodA, Gs.r] at HPR HER ⊢
  have x0 := HX0.out.box 0
  have x1 := HX0.out.box 1
  have x2 := HX0.out.box 2
  have x3 := HX0.out.box 3
  have x4 := HX0.out.box 4
  have x5 := HX0.out.box 5
  have x6 := HX0.out.box 6
  have x7 := HX0.out.box 7
  simp at x0 x1 x2 x3 x4 x5 x6 x7
  go_enter Tryd.func22, Tryd.ntmps22
  go_wp2_with fail
  refine (HPR.out _ HX0.out.bel).mono ?_
  rintro e w1 ⟨rfl, hb1⟩
  have HX1 : Hid (Both w w1 #[.string x, .int .i64 z, .slice (some ⟨g0, 0, none⟩) nc nc, .slice (some ⟨g1, 0, none⟩) ns ns, .slice (some ⟨g2, 0, none⟩) npr npr, .slice (some ⟨g3, 0, none⟩) no no, .slice (some ⟨g4, 0, none⟩) ny ny, .slice (some ⟨g5, 0, none⟩) nt nt] #[.slice ea np ec, .slice ba nb bc, .int .i64 t, .int .i64 s, .int .i64 c, .int .i64 u, .int .i64 v]) := HX0.out.next hb1
  clear hb1 HX0 x0 x1 x2 x3 x4 x5 x6 x7
  have HB1 : Hid (Below w.heap.size w w1) := HX1.out.bel
  cases qp with
  | false =>
    go_wp2_with fail
    go_ret
    exact ⟨by first | rfl | trivial, HB1.out⟩
  | true =>
    have x0 := HX1.out.box 0
    have x1 := HX1.out.box 1
    have x2 := HX1.out.box 2
    have x3 := HX1.out.box 3
    have x4 := HX1.out.box 4
    have x5 := HX1.out.box 5
    have x6 := HX1.out.box 6
    have x7 := HX1.out.box 7
    have y0 := HX1.out.res 0
    have y1 := HX1.out.res 1
    have y2 := HX1.out.res 2
    have y3 := HX1.out.res 3
    have y4 := HX1.out.res 4
    have y5 := HX1.out.res 5
    have y6 := HX1.out.res 6
    simp at x0 x1 x2 x3 x4 x5 x6 x7 y0 y1 y2 y3 y4 y5 y6
    go_wp2_with fail
    refine (HER.out _ HB1.out).mono ?_
    rintro e w2 ⟨rfl, hb2⟩
    have HB2 : Hid (Below w.heap.size w w2) := HB1.out.trans (hb2.mono HB1.out.size)
    clear hb2
    go_wp2_with fail
    go_ret
    exact ⟨by first | rfl | (cases qe <;> rfl), HB2.out⟩
end Go.Proofs.YtnefcldjigndgaaDoor
