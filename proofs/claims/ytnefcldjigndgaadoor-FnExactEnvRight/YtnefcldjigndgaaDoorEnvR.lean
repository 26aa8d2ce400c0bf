/- Environments: their sizes, copies and comparison. -/
import Derived.Test.YtnefcldjigndgaaDoorInts
import Derived.Test.YtnefcldjigndgaaDoorProd
namespace Go.Proofs.YtnefcldjigndgaaDoor
open Go.RowKit
open Go.Proofs.YtnefcldjigndgaaDoor.Draw

set_option maxRecDepth 100000 in
set_option maxHeartbeats 8000000 in
theorem sz_env (pa : Option Addr) (np pc : Nat) (ba : Option Addr) (nb bc : Nat) (t s c u v : Int) (hp : np ≤ maxLen) (hb : nb ≤ maxLen) (left : Nat) (hl : left ≤ 1048576) (w : World) :
    Calls Tryd.prog 19 #[.agg #[.slice pa np pc, .slice ba nb bc, .int .i64 t, .int .i64 s, .int .i64 c, .int .i64 u, .int .i64 v], .int .i64 (left : Int)] w fun e w' => (e = .returned (.int .i64 (-1)) ∨ ∃ r : Nat, e = .returned (.int .i64 (r : Int)) ∧ r ≤ left ∧ np ≤ left ∧ nb ≤ left) ∧ Below w.heap.size w w' := by
  go_enter Tryd.func19, Tryd.ntmps19
  go_wp2_with fail
  refine (sz_ints pa np pc hp left hl _).mono ?_
  rintro e w1 ⟨he, rfl⟩
  rcases he with rfl | ⟨r, rfl, hr, hle⟩
  · have q : decide ((-1 : Int) < 0) = true := rfl
    go_wp2_with fail
    go_ret
    exact ⟨Or.inl rfl, (Below.refl _ _).alloc (Nat.le_refl _) _⟩
  have q : decide ((r : Int) < 0) = false := by simp
  go_wp2_with fail
  refine (sz_ints ba nb bc hb r (by omega) _).mono ?_
  rintro e w1 ⟨he, rfl⟩
  rcases he with rfl | ⟨r', rfl, hr', hle'⟩
  · have q : decide ((-1 : Int) < 0) = true := rfl
    go_wp2_with fail
    go_ret
    exact ⟨Or.inl rfl, (Below.refl _ _).alloc (Nat.le_refl _) _⟩
  have q' : decide ((r' : Int) < 0) = false := by simp
  go_wp2_with fail
  go_ret
  exact ⟨Or.inr ⟨r', rfl, by omega, hle, by omega⟩, (Below.refl _ _).alloc (Nat.le_refl _) _⟩
set_option maxRecDepth 100000 in
set_option maxHeartbeats 8000000 in
theorem to_env (pa : Option Addr) (np pc : Nat) (ba : Option Addr) (nb bc : Nat) (t s c u v : Int) (P B : Nat → Int) (hp : np ≤ 1048576) (hb : nb ≤ 1048576) (w : World) (h : IntsAt w pa np P) (h' : IntsAt w ba nb B) :
    Calls Tryd.prog 21 #[.agg #[.slice pa np pc, .slice ba nb bc, .int .i64 t, .int .i64 s, .int .i64 c, .int .i64 u, .int .i64 v]] w fun e w' => ∃ g0 g1, e = .returned (.agg #[.slice (some ⟨g0, 0, none⟩) np np, .slice (some ⟨g1, 0, none⟩) nb nb, .int .i64 t, .int .i64 s, .int .i64 c, .int .i64 u, .int .i64 v]) ∧ w.heap.size ≤ g0 ∧ g0 < g1 ∧ g1 < w'.heap.size ∧ OwnR w' (some ⟨g0, 0, none⟩) np 1 (numF P) ∧ OwnR w' (some ⟨g1, 0, none⟩) nb 1 (numF B) ∧ Below w.heap.size w w' := by
  have HP : Hid (IntsAt w pa np P) := h
  have HB : Hid (IntsAt w ba nb B) := h'
  have HT0 : Hid (Three w (((w.alloc (.cells #[.slice pa np pc, .slice ba nb bc, .int .i64 t, .int .i64 s, .int .i64 c, .int .i64 u, .int .i64 v] 44)).alloc (.cells #[.slice none 0 0, .slice none 0 0, .int .i64 0, .int .i64 0, .int .i64 0, .int .i64 0, .int .i64 0] 47)).alloc (.cells #[.slice none 0 0, .slice none 0 0, .int .i64 0, .int .i64 0, .int .i64 0, .int .i64 0, .int .i64 0] 47)) #[.slice pa np pc, .slice ba nb bc, .int .i64 t, .int .i64 s, .int .i64 c, .int .i64 u, .int .i64 v] #[.slice none 0 0, .slice none 0 0, .int .i64 0, .int .i64 0, .int .i64 0, .int .i64 0, .int .i64 0] #[.slice none 0 0, .slice none 0 0, .int .i64 0, .int .i64 0, .int .i64 0, .int .i64 0, .int .i64 0]) := three_new w _ _ _ _ _ _
  clear h h'
  go_enter Tryd.func21, Tryd.ntmps21
  have cb0 := HT0.out.box 0
  simp at cb0
  go_wp2_with fail
  refine (to_ints pa np pc P hp _ (HP.out.below HT0.out.bel)).mono ?_
  rintro e w0 ⟨g0, rfl, hlo0, hO, hb0⟩
  have sz0 := HT0.out.size
  have glo0 : w.heap.size + 3 ≤ g0 := by omega
  have glt0 : g0 < w0.heap.size := hO.1
  have T0 := HT0.out.next hb0
  have HO0 : Hid (OwnR (w0.setCell ⟨w.heap.size + 1 + 1, 0, none⟩ (.slice (some ⟨g0, 0, none⟩) np np)) (some ⟨g0, 0, none⟩) np 1 (numF P)) := hO.nums.set (fun k hk => by simp at hk; omega)
  have HT1 : Hid (Three w (w0.setCell ⟨w.heap.size + 1 + 1, 0, none⟩ (.slice (some ⟨g0, 0, none⟩) np np)) #[.slice pa np pc, .slice ba nb bc, .int .i64 t, .int .i64 s, .int .i64 c, .int .i64 u, .int .i64 v] #[.slice none 0 0, .slice none 0 0, .int .i64 0, .int .i64 0, .int .i64 0, .int .i64 0, .int .i64 0] #[.slice (some ⟨g0, 0, none⟩) np np, .slice none 0 0, .int .i64 0, .int .i64 0, .int .i64 0, .int .i64 0, .int .i64 0]) := T0.set 0 (by simp) _
  have po0 := T0.out 0
  have pf0 := T0.ofr 0
  simp at po0
  clear hO hb0 hlo0 sz0 cb0 T0 HT0
  have cb1 := HT1.out.box 1
  simp at cb1
  go_wp2_with fail
  refine (to_ints ba nb bc B hb _ (HB.out.below HT1.out.bel)).mono ?_
  rintro e w1 ⟨g1, rfl, hlo1, hO, hb1⟩
  have sz1 := HT1.out.size
  have glo1 : w.heap.size + 3 ≤ g1 := by omega
  have glt1 : g1 < w1.heap.size := hO.1
  have gg1 : g0 < g1 := by simp at hlo1; omega
  have T1 := HT1.out.next hb1
  have HO0 : Hid (OwnR (w1.setCell ⟨w.heap.size + 1 + 1, 1, none⟩ (.slice (some ⟨g1, 0, none⟩) nb nb)) (some ⟨g0, 0, none⟩) np 1 (numF P)) := (HO0.out.below hb1).set (fun k hk => by simp at hk; omega)
  have HO1 : Hid (OwnR (w1.setCell ⟨w.heap.size + 1 + 1, 1, none⟩ (.slice (some ⟨g1, 0, none⟩) nb nb)) (some ⟨g1, 0, none⟩) nb 1 (numF B)) := hO.nums.set (fun k hk => by simp at hk; omega)
  have HT2 : Hid (Three w (w1.setCell ⟨w.heap.size + 1 + 1, 1, none⟩ (.slice (some ⟨g1, 0, none⟩) nb nb)) #[.slice pa np pc, .slice ba nb bc, .int .i64 t, .int .i64 s, .int .i64 c, .int .i64 u, .int .i64 v] #[.slice none 0 0, .slice none 0 0, .int .i64 0, .int .i64 0, .int .i64 0, .int .i64 0, .int .i64 0] #[.slice (some ⟨g0, 0, none⟩) np np, .slice (some ⟨g1, 0, none⟩) nb nb, .int .i64 0, .int .i64 0, .int .i64 0, .int .i64 0, .int .i64 0]) := T1.set 1 (by simp) _
  have po1 := T1.out 1
  have pf1 := T1.ofr 1
  simp at po1
  clear hO hb1 hlo1 sz1 cb1 T1 HT1
  go_upto_region 4 with fail
  obtain ⟨W2, hW2⟩ : ∃ W, W = w1.setCell ⟨w.heap.size + 1 + 1, 1, none⟩ (.slice (some ⟨g1, 0, none⟩) nb nb) := ⟨_, rfl⟩
  have hs2 : W2.heap.size = w1.heap.size := by rw [hW2]; simp
  rw [← hW2] at HO0 HO1 HT2 ⊢
  clear hW2 po0 pf0 po1 pf1
  have glt : g1 < W2.heap.size := by omega
  clear hs2
  have hts := HT2.out.size
  have x0 := HT2.out.box 0
  have y0 := HT2.out.out 0
  have x1 := HT2.out.box 1
  have y1 := HT2.out.out 1
  have x2 := HT2.out.box 2
  have y2 := HT2.out.out 2
  have x3 := HT2.out.box 3
  have y3 := HT2.out.out 3
  have x4 := HT2.out.box 4
  have y4 := HT2.out.out 4
  have x5 := HT2.out.box 5
  have y5 := HT2.out.out 5
  have x6 := HT2.out.box 6
  have y6 := HT2.out.out 6
  have z := HT2.out.ofr
  have rs := HT2.out.rfr
  simp at x0 y0 x1 y1 x2 y2 x3 y3 x4 y4 x5 y5 x6 y6
  have r0 := HT2.out.res 0
  have r1 := HT2.out.res 1
  have r2 := HT2.out.res 2
  have r3 := HT2.out.res 3
  have r4 := HT2.out.res 4
  have r5 := HT2.out.res 5
  have r6 := HT2.out.res 6
  simp at r0 r1 r2 r3 r4 r5 r6
  have HG : Hid (w.heap.size + 3 ≤ g0 ∧ g0 < g1 ∧ g1 < W2.heap.size) := ⟨glo0, gg1, glt⟩
  clear glo0 glo1 glt0 glt1 gg1 glt
  go_wp2_with fail
  refine bodyPost_ret (v := .agg #[.slice (some ⟨g0, 0, none⟩) np np, .slice (some ⟨g1, 0, none⟩) nb nb, .int .i64 t, .int .i64 s, .int .i64 c, .int .i64 u, .int .i64 v]) ?_ rfl ⟨g0, g1, rfl, by have := HG.out; omega, HG.out.2.1, by have := HG.out; simp; omega, ?_, ?_, ?_⟩
  · simp [results, Tryd.results21, go_sem, r0, r1, r2, r3, r4, r5, r6]
  · have q1 : ∀ k, (some (⟨g0, 0, none⟩ : Addr)).map Addr.block = some k → k ≠ w.heap.size + 1 + 1 := fun k e => by have := HG.out; simp at e; omega
    have q2 : ∀ k, (some (⟨g0, 0, none⟩ : Addr)).map Addr.block = some k → k ≠ w.heap.size + 1 := fun k e => by have := HG.out; simp at e; omega
    exact ((((((((((((HO0.out.set q1).set q1).set q1).set q1).set q1).set q2).set q2).set q2).set q2).set q2).set q2).set q2)
  · have q1 : ∀ k, (some (⟨g1, 0, none⟩ : Addr)).map Addr.block = some k → k ≠ w.heap.size + 1 + 1 := fun k e => by have := HG.out; simp at e; omega
    have q2 : ∀ k, (some (⟨g1, 0, none⟩ : Addr)).map Addr.block = some k → k ≠ w.heap.size + 1 := fun k e => by have := HG.out; simp at e; omega
    exact ((((((((((((HO1.out.set q1).set q1).set q1).set q1).set q1).set q2).set q2).set q2).set q2).set q2).set q2).set q2)
  · have s2 : w.heap.size ≤ w.heap.size + 1 + 1 := by omega
    have s1 : w.heap.size ≤ w.heap.size + 1 := by omega
    exact ((((((((((((HT2.out.bel.setCell s2 _).setCell s2 _).setCell s2 _).setCell s2 _).setCell s2 _).setCell s1 _).setCell s1 _).setCell s1 _).setCell s1 _).setCell s1 _).setCell s1 _).setCell s1 _)
theorem low_ownR {w w' : World} {a : Option Addr} {n c : Nat} {F : Nat → Value} (h : OwnR w a n c F) (hb : Below w.heap.size w w') : OwnR w' a n c F := h.below hb
set_option maxRecDepth 100000 in
set_option maxHeartbeats 8000000 in
theorem eq_env (pa pa' : Option Addr) (np pc pc' : Nat) (ba ba' : Option Addr) (nb bc bc' : Nat) (t s c u v : Int) (P B : Nat → Int) (hp : np ≤ 1048576) (hb : nb ≤ 1048576) (w : World) (h : OwnR w pa np 1 (numF P)) (h' : OwnR w pa' np 1 (numF P)) (k : OwnR w ba nb 1 (numF B)) (k' : OwnR w ba' nb 1 (numF B)) :
    Calls Tryd.prog 23 #[.agg #[.slice pa np pc, .slice ba nb bc, .int .i64 t, .int .i64 s, .int .i64 c, .int .i64 u, .int .i64 v], .agg #[.slice pa' np pc', .slice ba' nb bc', .int .i64 t, .int .i64 s, .int .i64 c, .int .i64 u, .int .i64 v]] w fun e w' => e = .returned (.bool true) ∧ Below w.heap.size w w' := by
  have hii : ∀ x : Int, (x != x) = false := fun x => by simp
  have X0 := two_now w #[.slice pa np pc, .slice ba nb bc, .int .i64 t, .int .i64 s, .int .i64 c, .int .i64 u, .int .i64 v] #[.slice pa' np pc', .slice ba' nb bc', .int .i64 t, .int .i64 s, .int .i64 c, .int .i64 u, .int .i64 v] 47 47
  have HX0 : Hid (Both w ((w.alloc (.cells #[.slice pa np pc, .slice ba nb bc, .int .i64 t, .int .i64 s, .int .i64 c, .int .i64 u, .int .i64 v] 47)).alloc (.cells #[.slice pa' np pc', .slice ba' nb bc', .int .i64 t, .int .i64 s, .int .i64 c, .int .i64 u, .int .i64 v] 47)) #[.slice pa np pc, .slice ba nb bc, .int .i64 t, .int .i64 s, .int .i64 c, .int .i64 u, .int .i64 v] #[.slice pa' np pc', .slice ba' nb bc', .int .i64 t, .int .i64 s, .int .i64 c, .int .i64 u, .int .i64 v]) := X0
  have HA : Hid (OwnR w pa np 1 (numF P) ∧ OwnR w pa' np 1 (numF P) ∧ OwnR w ba nb 1 (numF B) ∧ OwnR w ba' nb 1 (numF B)) := ⟨h, h', k, k'⟩
  clear h h' k k' X0
  go_enter Tryd.func23, Tryd.ntmps23
  have bb0 := HX0.out.box 0
  have rr0 := HX0.out.res 0
  simp at bb0 rr0
  go_wp2_with fail
  refine (eq_ints pa pa' np pc pc' (numF P) P (fun j _ => rfl) hp _ (low_ownR HA.out.1 HX0.out.bel) (low_ownR HA.out.2.1 HX0.out.bel)).mono ?_
  rintro e w1 ⟨rfl, hb1⟩
  have HX1 : Hid (Both w w1 #[.slice pa np pc, .slice ba nb bc, .int .i64 t, .int .i64 s, .int .i64 c, .int .i64 u, .int .i64 v] #[.slice pa' np pc', .slice ba' nb bc', .int .i64 t, .int .i64 s, .int .i64 c, .int .i64 u, .int .i64 v]) := HX0.out.next hb1
  clear hb1 bb0 rr0 HX0
  have bb1 := HX1.out.box 1
  have rr1 := HX1.out.res 1
  simp at bb1 rr1
  go_wp2_with fail
  refine (eq_ints ba ba' nb bc bc' (numF B) B (fun j _ => rfl) hb _ (low_ownR HA.out.2.2.1 HX1.out.bel) (low_ownR HA.out.2.2.2 HX1.out.bel)).mono ?_
  rintro e w2 ⟨rfl, hb2⟩
  have HX2 : Hid (Both w w2 #[.slice pa np pc, .slice ba nb bc, .int .i64 t, .int .i64 s, .int .i64 c, .int .i64 u, .int .i64 v] #[.slice pa' np pc', .slice ba' nb bc', .int .i64 t, .int .i64 s, .int .i64 c, .int .i64 u, .int .i64 v]) := HX1.out.next hb2
  clear hb2 bb1 rr1 HX1
  have x2 := HX2.out.box 2
  have y2 := HX2.out.res 2
  have x3 := HX2.out.box 3
  have y3 := HX2.out.res 3
  have x4 := HX2.out.box 4
  have y4 := HX2.out.res 4
  have x5 := HX2.out.box 5
  have y5 := HX2.out.res 5
  have x6 := HX2.out.box 6
  have y6 := HX2.out.res 6
  simp at x2 y2 x3 y3 x4 y4 x5 y5 x6 y6
  have HBN : Hid (Below w.heap.size w w2) := HX2.out.bel
  go_wp2_with fail
  go_ret
  exact ⟨rfl, HBN.out⟩
end Go.Proofs.YtnefcldjigndgaaDoor
