/- A product's hook (spec.HookOf, impl.HookOf), a product's marks: what each call does. -/
import Derived.Test.YthfjekpmaafhaaaHk
namespace Go.Proofs.Ythfjekpmaafhaaa
open Go.RowKit


def hookN (d : Pd) (h : Int) : Nat := if h = 1 then d.no else if h = 2 then d.ny else if h = 3 then d.nt else 0
def hookL (d : Pd) (h : Int) : Nat → Nd := if h = 1 then d.O else if h = 2 then d.Y else d.T
def HookPost (d : Pd) (h : Int) (w : World) (e : Ending) (w' : World) : Prop := ∃ a cap, e = .returned (.slice a (hookN d h) cap) ∧ OwnR w' a (hookN d h) 5 (nodeF (hookL d h)) ∧ (∀ k, a.map Addr.block = some k → w.heap.size ≤ k ∧ k < w'.heap.size) ∧ Below w.heap.size w w'
theorem news_at {W : World} {g o n : Nat} {L : Nat → Nd} (h : NodesAt W (some ⟨g, o, none⟩) n L) : ∀ j u, (nodesC L n)[j]? = some u → W.cell? ((⟨g, o, none⟩ : Addr).add j) = some u := by
  intro j u hj
  have hlt : j < n * 5 := by rw [← nodesC_len L n]; exact (List.getElem?_eq_some_iff.1 hj).1
  rw [nodesC_at L n j hlt] at hj
  rw [← hj, add_off]
  rcases h with h0 | ⟨g', o', e, _, hc⟩
  · subst h0; omega
  · simp at e
    obtain ⟨rfl, rfl⟩ := e
    obtain ⟨c0, c1, c2, c3, c4⟩ := hc (j / 5) (by omega)
    obtain ⟨e0, e1, e2, e3, e4⟩ := nodeF_at L (j / 5)
    rcases (by omega : j = j / 5 * 5 ∨ j = j / 5 * 5 + 1 ∨ j = j / 5 * 5 + 2 ∨ j = j / 5 * 5 + 3 ∨ j = j / 5 * 5 + 4) with q | q | q | q | q
    · rw [show o + j = o + j / 5 * 5 by omega, c0, ← e0]; congr 2; omega
    · rw [show o + j = o + j / 5 * 5 + 1 by omega, c1, ← e1]; congr 2; omega
    · rw [show o + j = o + j / 5 * 5 + 2 by omega, c2, ← e2]; congr 2; omega
    · rw [show o + j = o + j / 5 * 5 + 3 by omega, c3, ← e3]; congr 2; omega
    · rw [show o + j = o + j / 5 * 5 + 4 by omega, c4, ← e4]; congr 2; omega
set_option maxRecDepth 100000 in
set_option maxHeartbeats 8000000 in
theorem impl_hook (d : Pd) (r : Pr) (h : Int) (hs : d.small) (w : World) (hA : PdAt w d r) :
    Calls Try.prog 14 #[.agg (prodA d r), .int .i64 h] w (HookPost d h w) := by
  obtain ⟨x, z, nc, ns, np, no, ny, nt, C, S, P, O, Y, T⟩ := d
  obtain ⟨ca, sa, pa, oa, ya, ta, cc, cs, cp, co, cy, ct⟩ := r
  obtain ⟨_, ⟨n0, s0⟩, ⟨n1, s1⟩, ⟨n2, s2⟩, ⟨n3, s3⟩, ⟨n4, s4⟩, ⟨n5, s5⟩⟩ := hs
  have HA : Hid (PdAt (w.alloc (.cells #[.string x, .int .i64 z, .slice ca nc cc, .slice sa ns cs, .slice pa np cp, .slice oa no co, .slice ya ny cy, .slice ta nt ct] 33)) ⟨x, z, nc, ns, np, no, ny, nt, C, S, P, O, Y, T⟩ ⟨ca, sa, pa, oa, ya, ta, cc, cs, cp, co, cy, ct⟩) := hA.below ((Below.refl _ _).alloc (Nat.le_refl _) _)
  have HB : Hid (Below w.heap.size w (w.alloc (.cells #[.string x, .int .i64 z, .slice ca nc cc, .slice sa ns cs, .slice pa np cp, .slice oa no co, .slice ya ny cy, .slice ta nt ct] 33))) := (Below.refl _ _).alloc (Nat.le_refl _) _
  have HO : Hid (∀ W, NodesAt W oa no O → _) := fun W hW => impl_own oa no co O n3 s3 W hW
  have HY : Hid (∀ W, NodesAt W ya ny Y → _) := fun W hW => impl_own ya ny cy Y n4 s4 W hW
  have HT : Hid (∀ W, NodesAt W ta nt T → _) := fun W hW => impl_own ta nt ct T n5 s5 W hW
  clear hA n0 s0 n1 s1 n2 s2 n3 s3 n4 s4 n5 s5
  show Calls Try.prog 14 #[.agg #[.string x, .int .i64 z, .slice ca nc cc, .slice sa ns cs, .slice pa np cp, .slice oa no co, .slice ya ny cy, .slice ta nt ct], .int .i64 h] w _
  by_cases h1 : h = 1
  · subst h1
    go_enter Try.func14, Try.ntmps14
    go_wp2_with fail
    refine (HO.out _ (HA.out.2.2.2.1)).mono ?_
    rintro e w1 ⟨v, rfl, ho, hb⟩
    obtain ⟨a', c', rfl, hO, hl⟩ := own_nodes ho
    have HF : Hid (HookPost ⟨x, z, nc, ns, np, no, ny, nt, C, S, P, O, Y, T⟩ 1 w (.returned (.slice a' no c')) w1) := ⟨a', c', rfl, hO, fun k e => ⟨by have := (hl k e).1; simp at this; omega, (hl k e).2⟩, HB.out.trans (hb.mono HB.out.size)⟩
    clear ho hO hl hb
    go_wp2_with fail
    go_ret
    exact HF.out
  have t1 : (h == 1) = false := beq_eq_false_iff_ne.2 h1
  by_cases h2 : h = 2
  · subst h2
    go_enter Try.func14, Try.ntmps14
    go_wp2_with fail
    refine (HY.out _ (HA.out.2.2.2.2.1)).mono ?_
    rintro e w1 ⟨v, rfl, ho, hb⟩
    obtain ⟨a', c', rfl, hO, hl⟩ := own_nodes ho
    have HF : Hid (HookPost ⟨x, z, nc, ns, np, no, ny, nt, C, S, P, O, Y, T⟩ 2 w (.returned (.slice a' ny c')) w1) := ⟨a', c', rfl, hO, fun k e => ⟨by have := (hl k e).1; simp at this; omega, (hl k e).2⟩, HB.out.trans (hb.mono HB.out.size)⟩
    clear ho hO hl hb
    go_wp2_with fail
    go_ret
    exact HF.out
  have t2 : (h == 2) = false := beq_eq_false_iff_ne.2 h2
  by_cases h3 : h = 3
  · subst h3
    go_enter Try.func14, Try.ntmps14
    go_wp2_with fail
    refine (HT.out _ (HA.out.2.2.2.2.2)).mono ?_
    rintro e w1 ⟨v, rfl, ho, hb⟩
    obtain ⟨a', c', rfl, hO, hl⟩ := own_nodes ho
    have HF : Hid (HookPost ⟨x, z, nc, ns, np, no, ny, nt, C, S, P, O, Y, T⟩ 3 w (.returned (.slice a' nt c')) w1) := ⟨a', c', rfl, hO, fun k e => ⟨by have := (hl k e).1; simp at this; omega, (hl k e).2⟩, HB.out.trans (hb.mono HB.out.size)⟩
    clear ho hO hl hb
    go_wp2_with fail
    go_ret
    exact HF.out
  have t3 : (h == 3) = false := beq_eq_false_iff_ne.2 h3
  have HN : Hid (hookN ⟨x, z, nc, ns, np, no, ny, nt, C, S, P, O, Y, T⟩ h = 0) := by show (if h = 1 then _ else if h = 2 then _ else if h = 3 then _ else 0) = 0; rw [if_neg h1, if_neg h2, if_neg h3]
  clear h1 h2 h3
  go_enter Try.func14, Try.ntmps14
  go_wp2_with fail
  go_ret
  exact ⟨none, 0, by rw [HN.out]; rfl, Or.inl HN.out, (fun k e => by cases e), HB.out⟩
set_option maxRecDepth 100000 in
set_option maxHeartbeats 8000000 in
theorem spec_hook (d : Pd) (g : Gs) (h : Int) (hs : d.small) (w : World) (hA : PdAt w d (g.r d)) :
    Calls Try.prog 13 #[.agg (prodA d (g.r d)), .int .i64 h] w (HookPost d h w) := by
  obtain ⟨i0, hi, hz0, hz1, hz2⟩ := info_parts infoNode
  obtain ⟨x, z, nc, ns, np, no, ny, nt, C, S, P, O, Y, T⟩ := d
  obtain ⟨g0, g1, g2, g3, g4, g5⟩ := g
  obtain ⟨_, ⟨n0, _⟩, ⟨n1, _⟩, ⟨n2, _⟩, ⟨n3, _⟩, ⟨n4, _⟩, ⟨n5, _⟩⟩ := hs
  have HB : Hid (Below w.heap.size w (((w.alloc (.cells #[.string x, .int .i64 z, .slice (some ⟨g0, 0, none⟩) nc nc, .slice (some ⟨g1, 0, none⟩) ns ns, .slice (some ⟨g2, 0, none⟩) np np, .slice (some ⟨g3, 0, none⟩) no no, .slice (some ⟨g4, 0, none⟩) ny ny, .slice (some ⟨g5, 0, none⟩) nt nt] 33)).alloc (.cells #[] 52)).alloc (.cells #[] 52))) := (((Below.refl _ _).alloc (Nat.le_refl _) _).alloc (by simp) _).alloc (by simp; omega) _
  have HA : Hid (PdAt (((w.alloc (.cells #[.string x, .int .i64 z, .slice (some ⟨g0, 0, none⟩) nc nc, .slice (some ⟨g1, 0, none⟩) ns ns, .slice (some ⟨g2, 0, none⟩) np np, .slice (some ⟨g3, 0, none⟩) no no, .slice (some ⟨g4, 0, none⟩) ny ny, .slice (some ⟨g5, 0, none⟩) nt nt] 33)).alloc (.cells #[] 52)).alloc (.cells #[] 52)) ⟨x, z, nc, ns, np, no, ny, nt, C, S, P, O, Y, T⟩ (Gs.r ⟨g0, g1, g2, g3, g4, g5⟩ ⟨x, z, nc, ns, np, no, ny, nt, C, S, P, O, Y, T⟩)) := hA.below HB.out
  have HN : Hid (nc ≤ 1048576 ∧ ns ≤ 1048576 ∧ np ≤ 1048576 ∧ no ≤ 1048576 ∧ ny ≤ 1048576 ∧ nt ≤ 1048576) := ⟨n0, n1, n2, n3, n4, n5⟩
  clear hA n0 n1 n2 n3 n4 n5
  show Calls Try.prog 13 #[.agg #[.string x, .int .i64 z, .slice (some ⟨g0, 0, none⟩) nc nc, .slice (some ⟨g1, 0, none⟩) ns ns, .slice (some ⟨g2, 0, none⟩) np np, .slice (some ⟨g3, 0, none⟩) no no, .slice (some ⟨g4, 0, none⟩) ny ny, .slice (some ⟨g5, 0, none⟩) nt nt], .int .i64 h] w _
  by_cases h1 : h = 1
  · subst h1
    have HNw : Hid (NodesAt (((w.alloc (.cells #[.string x, .int .i64 z, .slice (some ⟨g0, 0, none⟩) nc nc, .slice (some ⟨g1, 0, none⟩) ns ns, .slice (some ⟨g2, 0, none⟩) np np, .slice (some ⟨g3, 0, none⟩) no no, .slice (some ⟨g4, 0, none⟩) ny ny, .slice (some ⟨g5, 0, none⟩) nt nt] 33)).alloc (.cells #[] 52)).alloc (.cells #[] 52)) (some ⟨g3, 0, none⟩) no O) := HA.out.2.2.2.1
    have hnn : no ≤ 1048576 := HN.out.2.2.2.1
    go_enter Try.func13, Try.ntmps13
    go_wp2_with (at_builtin; refine wpList_append_own _ rfl (.tmp 20) (.tmp 21) 31 rfl w.heap.size 52 i0 (.agg #[.int .i64 0, .string ⟨#[]⟩, .string ⟨#[]⟩, .int .i64 0, .int .i64 0]) 5 56 Try.underlying31 hi hz0 hz1 hz2 rfl (by decide) _ _ _ rfl (own_new0 (w := ((w.alloc (.cells #[.string x, .int .i64 z, .slice (some ⟨g0, 0, none⟩) nc nc, .slice (some ⟨g1, 0, none⟩) ns ns, .slice (some ⟨g2, 0, none⟩) np np, .slice (some ⟨g3, 0, none⟩) no no, .slice (some ⟨g4, 0, none⟩) ny ny, .slice (some ⟨g5, 0, none⟩) nt nt] 33)).alloc (.cells #[] 52))) (by simp) (by simp; omega)) ⟨g3, 0, none⟩ no no (nodesC O no) rfl (nodesC_len _ _) (news_at HNw.out) (oneN _ _) (by unfold maxLen; omega) (by omega) (by simp; omega) ?_)
    intro v' w3 hown hg _
    obtain ⟨a', c', rfl, hO, hl⟩ := own_nodes hown
    have HF : Hid (HookPost ⟨x, z, nc, ns, np, no, ny, nt, C, S, P, O, Y, T⟩ 1 w (.returned (.slice a' no c')) w3) := ⟨a', c', rfl, hO, hl, HB.out.grown hg HB.out.size (fun k hk => by cases hk; first | (simp; done) | (simp; omega) | omega)⟩
    clear hown hg hO hl
    go_wp2_with fail
    go_ret
    exact HF.out
  have t1 : (h == 1) = false := beq_eq_false_iff_ne.2 h1
  by_cases h2 : h = 2
  · subst h2
    have HNw : Hid (NodesAt (((w.alloc (.cells #[.string x, .int .i64 z, .slice (some ⟨g0, 0, none⟩) nc nc, .slice (some ⟨g1, 0, none⟩) ns ns, .slice (some ⟨g2, 0, none⟩) np np, .slice (some ⟨g3, 0, none⟩) no no, .slice (some ⟨g4, 0, none⟩) ny ny, .slice (some ⟨g5, 0, none⟩) nt nt] 33)).alloc (.cells #[] 52)).alloc (.cells #[] 52)) (some ⟨g4, 0, none⟩) ny Y) := HA.out.2.2.2.2.1
    have hnn : ny ≤ 1048576 := HN.out.2.2.2.2.1
    go_enter Try.func13, Try.ntmps13
    go_wp2_with (at_builtin; refine wpList_append_own _ rfl (.tmp 20) (.tmp 21) 31 rfl w.heap.size 52 i0 (.agg #[.int .i64 0, .string ⟨#[]⟩, .string ⟨#[]⟩, .int .i64 0, .int .i64 0]) 5 56 Try.underlying31 hi hz0 hz1 hz2 rfl (by decide) _ _ _ rfl (own_new0 (w := ((w.alloc (.cells #[.string x, .int .i64 z, .slice (some ⟨g0, 0, none⟩) nc nc, .slice (some ⟨g1, 0, none⟩) ns ns, .slice (some ⟨g2, 0, none⟩) np np, .slice (some ⟨g3, 0, none⟩) no no, .slice (some ⟨g4, 0, none⟩) ny ny, .slice (some ⟨g5, 0, none⟩) nt nt] 33)).alloc (.cells #[] 52))) (by simp) (by simp; omega)) ⟨g4, 0, none⟩ ny ny (nodesC Y ny) rfl (nodesC_len _ _) (news_at HNw.out) (oneN _ _) (by unfold maxLen; omega) (by omega) (by simp; omega) ?_)
    intro v' w3 hown hg _
    obtain ⟨a', c', rfl, hO, hl⟩ := own_nodes hown
    have HF : Hid (HookPost ⟨x, z, nc, ns, np, no, ny, nt, C, S, P, O, Y, T⟩ 2 w (.returned (.slice a' ny c')) w3) := ⟨a', c', rfl, hO, hl, HB.out.grown hg HB.out.size (fun k hk => by cases hk; first | (simp; done) | (simp; omega) | omega)⟩
    clear hown hg hO hl
    go_wp2_with fail
    go_ret
    exact HF.out
  have t2 : (h == 2) = false := beq_eq_false_iff_ne.2 h2
  by_cases h3 : h = 3
  · subst h3
    have HNw : Hid (NodesAt (((w.alloc (.cells #[.string x, .int .i64 z, .slice (some ⟨g0, 0, none⟩) nc nc, .slice (some ⟨g1, 0, none⟩) ns ns, .slice (some ⟨g2, 0, none⟩) np np, .slice (some ⟨g3, 0, none⟩) no no, .slice (some ⟨g4, 0, none⟩) ny ny, .slice (some ⟨g5, 0, none⟩) nt nt] 33)).alloc (.cells #[] 52)).alloc (.cells #[] 52)) (some ⟨g5, 0, none⟩) nt T) := HA.out.2.2.2.2.2
    have hnn : nt ≤ 1048576 := HN.out.2.2.2.2.2
    go_enter Try.func13, Try.ntmps13
    go_wp2_with (at_builtin; refine wpList_append_own _ rfl (.tmp 20) (.tmp 21) 31 rfl w.heap.size 52 i0 (.agg #[.int .i64 0, .string ⟨#[]⟩, .string ⟨#[]⟩, .int .i64 0, .int .i64 0]) 5 56 Try.underlying31 hi hz0 hz1 hz2 rfl (by decide) _ _ _ rfl (own_new0 (w := ((w.alloc (.cells #[.string x, .int .i64 z, .slice (some ⟨g0, 0, none⟩) nc nc, .slice (some ⟨g1, 0, none⟩) ns ns, .slice (some ⟨g2, 0, none⟩) np np, .slice (some ⟨g3, 0, none⟩) no no, .slice (some ⟨g4, 0, none⟩) ny ny, .slice (some ⟨g5, 0, none⟩) nt nt] 33)).alloc (.cells #[] 52))) (by simp) (by simp; omega)) ⟨g5, 0, none⟩ nt nt (nodesC T nt) rfl (nodesC_len _ _) (news_at HNw.out) (oneN _ _) (by unfold maxLen; omega) (by omega) (by simp; omega) ?_)
    intro v' w3 hown hg _
    obtain ⟨a', c', rfl, hO, hl⟩ := own_nodes hown
    have HF : Hid (HookPost ⟨x, z, nc, ns, np, no, ny, nt, C, S, P, O, Y, T⟩ 3 w (.returned (.slice a' nt c')) w3) := ⟨a', c', rfl, hO, hl, HB.out.grown hg HB.out.size (fun k hk => by cases hk; first | (simp; done) | (simp; omega) | omega)⟩
    clear hown hg hO hl
    go_wp2_with fail
    go_ret
    exact HF.out
  have t3 : (h == 3) = false := beq_eq_false_iff_ne.2 h3
  have HZ : Hid (hookN ⟨x, z, nc, ns, np, no, ny, nt, C, S, P, O, Y, T⟩ h = 0) := by show (if h = 1 then _ else if h = 2 then _ else if h = 3 then _ else 0) = 0; rw [if_neg h1, if_neg h2, if_neg h3]
  clear h1 h2 h3
  go_enter Try.func13, Try.ntmps13
  go_wp2_with (at_builtin; refine wpList_append_own _ rfl (.tmp 20) (.tmp 21) 31 rfl w.heap.size 52 i0 (.agg #[.int .i64 0, .string ⟨#[]⟩, .string ⟨#[]⟩, .int .i64 0, .int .i64 0]) 5 56 Try.underlying31 hi hz0 hz1 hz2 rfl (by decide) _ _ _ rfl (own_new0 (w := ((w.alloc (.cells #[.string x, .int .i64 z, .slice (some ⟨g0, 0, none⟩) nc nc, .slice (some ⟨g1, 0, none⟩) ns ns, .slice (some ⟨g2, 0, none⟩) np np, .slice (some ⟨g3, 0, none⟩) no no, .slice (some ⟨g4, 0, none⟩) ny ny, .slice (some ⟨g5, 0, none⟩) nt nt] 33)).alloc (.cells #[] 52))) (by simp) (by simp; omega)) ⟨w.heap.size + 1, 0, none⟩ 0 0 [] rfl rfl (by intro j u hj; simp at hj) (by simp) (by unfold maxLen; omega) (by omega) (by simp; omega) ?_)
  intro v' w3 hown hg _
  have hown : w3.ownsRow w.heap.size 52 5 v' 0 (nodesC (hookL ⟨x, z, nc, ns, np, no, ny, nt, C, S, P, O, Y, T⟩ h) 0) := hown
  obtain ⟨a', c', rfl, hO, hl⟩ := own_nodes hown
  have HF : Hid (HookPost ⟨x, z, nc, ns, np, no, ny, nt, C, S, P, O, Y, T⟩ h w (.returned (.slice a' 0 c')) w3) := ⟨a', c', by rw [HZ.out], by rw [HZ.out]; exact hO, hl, HB.out.grown hg HB.out.size (fun k hk => by cases hk; first | (simp; done) | (simp; omega) | omega)⟩
  clear hown hg hO hl
  go_wp2_with fail
  go_ret
  exact HF.out
/-- Nothing but a copy's lists has turned. -/
structure Kp (g : Gs) (w w' : World) : Prop where
  os : w'.os = w.os
  tape : w'.tape = w.tape
  output : w'.output = w.output
  size : w.heap.size ≤ w'.heap.size
  block : ∀ k, k < w.heap.size → k ≠ g.g0 → k ≠ g.g1 → k ≠ g.g2 → k ≠ g.g3 → k ≠ g.g4 → k ≠ g.g5 → w'.heap[k]? = w.heap[k]?
theorem Kp.new (g : Gs) (w : World) (o : Obj) : Kp g w (w.alloc o) := ⟨rfl, rfl, rfl, by simp, fun k hk _ _ _ _ _ _ => (World.grownBy_alloc w o none).block k hk (by simp)⟩
theorem Kp.next {g : Gs} {w W W' : World} {b : Nat} (h : Kp g w W) (hg : W.grownBy W' (some b)) (hb : b = g.g0 ∨ b = g.g1 ∨ b = g.g2 ∨ b = g.g3 ∨ b = g.g4 ∨ b = g.g5) : Kp g w W' :=
  ⟨hg.os.trans h.os, hg.tape.trans h.tape, hg.output.trans h.output, Nat.le_trans h.size hg.size, fun k hk n0 n1 n2 n3 n4 n5 => (hg.block k (Nat.lt_of_lt_of_le hk h.size) (fun e => by simp at e; subst e; rcases hb with h | h | h | h | h | h <;> contradiction)).trans (h.block k hk n0 n1 n2 n3 n4 n5)⟩
theorem Kp.cell {g : Gs} {w W : World} (h : Kp g w W) {b j : Nat} (hb : b < w.heap.size) (n0 : b ≠ g.g0 ∧ b ≠ g.g1 ∧ b ≠ g.g2 ∧ b ≠ g.g3 ∧ b ≠ g.g4 ∧ b ≠ g.g5) : W.cell? ⟨b, j, none⟩ = w.cell? ⟨b, j, none⟩ := by
  obtain ⟨m0, m1, m2, m3, m4, m5⟩ := n0
  exact World.cell?_of_block (a := ⟨b, j, none⟩) (h.block b hb m0 m1 m2 m3 m4 m5)
theorem Kp.below {g : Gs} {w0 w W : World} (h : Kp g w W) (hb : Below w0.heap.size w0 w) (hl : w0.heap.size ≤ g.g0 ∧ w0.heap.size ≤ g.g1 ∧ w0.heap.size ≤ g.g2 ∧ w0.heap.size ≤ g.g3 ∧ w0.heap.size ≤ g.g4 ∧ w0.heap.size ≤ g.g5) : Below w0.heap.size w0 W := by
  obtain ⟨m0, m1, m2, m3, m4, m5⟩ := hl
  refine ⟨h.os.trans hb.os, h.tape.trans hb.tape, h.output.trans hb.output, Nat.le_trans hb.size h.size, fun k hk => ?_⟩
  exact (h.block k (Nat.lt_of_lt_of_le hk hb.size) (by omega) (by omega) (by omega) (by omega) (by omega) (by omega)).trans (hb.block k hk)
theorem OwnR.kp {g : Gs} {w W : World} (h : Kp g w W) {a : Option Addr} {n c : Nat} {F : Nat → Value} (hO : OwnR w a n c F) (hne : ∀ k, a.map Addr.block = some k → k ≠ g.g0 ∧ k ≠ g.g1 ∧ k ≠ g.g2 ∧ k ≠ g.g3 ∧ k ≠ g.g4 ∧ k ≠ g.g5) : OwnR W a n c F := by
  rcases hO with h0 | ⟨b, rfl, hO⟩
  · exact Or.inl h0
  · obtain ⟨m0, m1, m2, m3, m4, m5⟩ := hne b rfl
    have hb := h.block b hO.1 m0 m1 m2 m3 m4 m5
    exact Or.inr ⟨b, rfl, Nat.lt_of_lt_of_le hO.1 h.size, fun j hj => (World.cell?_of_block (a := ⟨b, j, none⟩) hb).trans (hO.2.1 j hj), fun j => (World.frozen?_of_block (a := ⟨b, j, none⟩) hb).trans (hO.2.2 j)⟩
/-- Cells of a block. -/
structure Bq8 (W : World) (X : Nat) (cs : Array Value) : Prop where
  cell : ∀ j, W.cell? ⟨X, j, none⟩ = cs[j]?
  lt : X < W.heap.size
theorem Bq8.new (w : World) (cs : Array Value) (t : TypeId) : Bq8 (w.alloc (.cells cs t)) w.heap.size cs := ⟨fun j => cnew' rfl j, by simp⟩
theorem Bq8.below {W W' : World} {X : Nat} {cs : Array Value} (h : Bq8 W X cs) (hb : Below W.heap.size W W') : Bq8 W' X cs := ⟨fun j => (hb.cell (p := ⟨X, j, none⟩) h.lt).trans (h.cell j), Nat.lt_of_lt_of_le h.lt hb.size⟩
theorem Bq8.grown {W W' : World} {X : Nat} {cs : Array Value} {row : Option Nat} (h : Bq8 W X cs) (hg : W.grownBy W' row) (hne : some X ≠ row) : Bq8 W' X cs := ⟨fun j => (World.cell?_of_block (a := ⟨X, j, none⟩) (hg.block X h.lt hne)).trans (h.cell j), Nat.lt_of_lt_of_le h.lt hg.size⟩
theorem Bq8.kp {g : Gs} {w W : World} (h : Kp g w W) {X : Nat} {cs : Array Value} (hb : Bq8 w X cs) (hn : X ≠ g.g0 ∧ X ≠ g.g1 ∧ X ≠ g.g2 ∧ X ≠ g.g3 ∧ X ≠ g.g4 ∧ X ≠ g.g5) : Bq8 W X cs := ⟨fun j => (h.cell hb.lt hn).trans (hb.cell j), Nat.lt_of_lt_of_le hb.lt h.size⟩
set_option maxRecDepth 100000 in
set_option maxHeartbeats 8000000 in
theorem mark_prod (d : Pd) (g : Gs) (lo : Nat) (hs : d.small) (w : World) (hok : g.ok lo w.heap.size) (hO : PdOwn w d (g.r d)) :
    Calls Try.prog 16 #[.agg (prodA d (g.r d)), .int .i64 1] w fun e w' => ∃ k : Nat, e = .returned (.int .i64 (k : Int)) ∧ Kp g w w' := by
  obtain ⟨x, z, nc, ns, np, no, ny, nt, C, S, P, O, Y, T⟩ := d
  obtain ⟨g0, g1, g2, g3, g4, g5⟩ := g
  obtain ⟨_, ⟨n0, _⟩, ⟨n1, _⟩, ⟨n2, _⟩, ⟨n3, _⟩, ⟨n4, _⟩, ⟨n5, _⟩⟩ := hs
  obtain ⟨l0, l1, l2, l3, l4, l5, l6⟩ := hok
  simp only at l0 l1 l2 l3 l4 l5 l6
  have hO' := hO.below ((Below.refl _ w).alloc (Nat.le_refl _) (.cells #[.string x, .int .i64 z, .slice (some ⟨g0, 0, none⟩) nc nc, .slice (some ⟨g1, 0, none⟩) ns ns, .slice (some ⟨g2, 0, none⟩) np np, .slice (some ⟨g3, 0, none⟩) no no, .slice (some ⟨g4, 0, none⟩) ny ny, .slice (some ⟨g5, 0, none⟩) nt nt] 33))
  obtain ⟨p0, p1, p2, p3, p4, p5⟩ := hO'
  simp only [Gs.r] at p0 p1 p2 p3 p4 p5
  have HK0 : Hid (Kp ⟨g0, g1, g2, g3, g4, g5⟩ w (w.alloc (.cells #[.string x, .int .i64 z, .slice (some ⟨g0, 0, none⟩) nc nc, .slice (some ⟨g1, 0, none⟩) ns ns, .slice (some ⟨g2, 0, none⟩) np np, .slice (some ⟨g3, 0, none⟩) no no, .slice (some ⟨g4, 0, none⟩) ny ny, .slice (some ⟨g5, 0, none⟩) nt nt] 33))) := Kp.new _ _ _
  have HX0 : Hid (Bq8 (w.alloc (.cells #[.string x, .int .i64 z, .slice (some ⟨g0, 0, none⟩) nc nc, .slice (some ⟨g1, 0, none⟩) ns ns, .slice (some ⟨g2, 0, none⟩) np np, .slice (some ⟨g3, 0, none⟩) no no, .slice (some ⟨g4, 0, none⟩) ny ny, .slice (some ⟨g5, 0, none⟩) nt nt] 33)) w.heap.size #[.string x, .int .i64 z, .slice (some ⟨g0, 0, none⟩) nc nc, .slice (some ⟨g1, 0, none⟩) ns ns, .slice (some ⟨g2, 0, none⟩) np np, .slice (some ⟨g3, 0, none⟩) no no, .slice (some ⟨g4, 0, none⟩) ny ny, .slice (some ⟨g5, 0, none⟩) nt nt]) := Bq8.new _ _ _
  have HP0 : Hid (OwnR (w.alloc (.cells #[.string x, .int .i64 z, .slice (some ⟨g0, 0, none⟩) nc nc, .slice (some ⟨g1, 0, none⟩) ns ns, .slice (some ⟨g2, 0, none⟩) np np, .slice (some ⟨g3, 0, none⟩) no no, .slice (some ⟨g4, 0, none⟩) ny ny, .slice (some ⟨g5, 0, none⟩) nt nt] 33)) (some ⟨g0, 0, none⟩) nc 1 (textF C)) := p0
  have HP1 : Hid (OwnR (w.alloc (.cells #[.string x, .int .i64 z, .slice (some ⟨g0, 0, none⟩) nc nc, .slice (some ⟨g1, 0, none⟩) ns ns, .slice (some ⟨g2, 0, none⟩) np np, .slice (some ⟨g3, 0, none⟩) no no, .slice (some ⟨g4, 0, none⟩) ny ny, .slice (some ⟨g5, 0, none⟩) nt nt] 33)) (some ⟨g1, 0, none⟩) ns 1 (textF S)) := p1
  have HP2 : Hid (OwnR (w.alloc (.cells #[.string x, .int .i64 z, .slice (some ⟨g0, 0, none⟩) nc nc, .slice (some ⟨g1, 0, none⟩) ns ns, .slice (some ⟨g2, 0, none⟩) np np, .slice (some ⟨g3, 0, none⟩) no no, .slice (some ⟨g4, 0, none⟩) ny ny, .slice (some ⟨g5, 0, none⟩) nt nt] 33)) (some ⟨g2, 0, none⟩) np 4 (paramF P)) := p2
  have HP3 : Hid (OwnR (w.alloc (.cells #[.string x, .int .i64 z, .slice (some ⟨g0, 0, none⟩) nc nc, .slice (some ⟨g1, 0, none⟩) ns ns, .slice (some ⟨g2, 0, none⟩) np np, .slice (some ⟨g3, 0, none⟩) no no, .slice (some ⟨g4, 0, none⟩) ny ny, .slice (some ⟨g5, 0, none⟩) nt nt] 33)) (some ⟨g3, 0, none⟩) no 5 (nodeF O)) := p3
  have HP4 : Hid (OwnR (w.alloc (.cells #[.string x, .int .i64 z, .slice (some ⟨g0, 0, none⟩) nc nc, .slice (some ⟨g1, 0, none⟩) ns ns, .slice (some ⟨g2, 0, none⟩) np np, .slice (some ⟨g3, 0, none⟩) no no, .slice (some ⟨g4, 0, none⟩) ny ny, .slice (some ⟨g5, 0, none⟩) nt nt] 33)) (some ⟨g4, 0, none⟩) ny 5 (nodeF Y)) := p4
  have HP5 : Hid (OwnR (w.alloc (.cells #[.string x, .int .i64 z, .slice (some ⟨g0, 0, none⟩) nc nc, .slice (some ⟨g1, 0, none⟩) ns ns, .slice (some ⟨g2, 0, none⟩) np np, .slice (some ⟨g3, 0, none⟩) no no, .slice (some ⟨g4, 0, none⟩) ny ny, .slice (some ⟨g5, 0, none⟩) nt nt] 33)) (some ⟨g5, 0, none⟩) nt 5 (nodeF T)) := p5
  clear hO p0 p1 p2 p3 p4 p5
  show Calls Try.prog 16 #[.agg #[.string x, .int .i64 z, .slice (some ⟨g0, 0, none⟩) nc nc, .slice (some ⟨g1, 0, none⟩) ns ns, .slice (some ⟨g2, 0, none⟩) np np, .slice (some ⟨g3, 0, none⟩) no no, .slice (some ⟨g4, 0, none⟩) ny ny, .slice (some ⟨g5, 0, none⟩) nt nt], .int .i64 1] w _
  go_enter Try.func16, Try.ntmps16
  have cc0 : (w.alloc (.cells #[.string x, .int .i64 z, .slice (some ⟨g0, 0, none⟩) nc nc, .slice (some ⟨g1, 0, none⟩) ns ns, .slice (some ⟨g2, 0, none⟩) np np, .slice (some ⟨g3, 0, none⟩) no no, .slice (some ⟨g4, 0, none⟩) ny ny, .slice (some ⟨g5, 0, none⟩) nt nt] 33)).cell? ⟨w.heap.size, 2, none⟩ = some (.slice (some ⟨g0, 0, none⟩) nc nc) := HX0.out.cell 2
  go_wp2_with fail
  refine (mark_texts (some ⟨g0, 0, none⟩) nc nc _ n0 1 (by omega) (by omega) _ HP0.out).mono ?_
  rintro e w0 ⟨rfl, _, hg⟩
  have HK1 : Hid (Kp ⟨g0, g1, g2, g3, g4, g5⟩ w w0) := HK0.out.next hg (by simp)
  have HX1 : Hid (Bq8 w0 w.heap.size #[.string x, .int .i64 z, .slice (some ⟨g0, 0, none⟩) nc nc, .slice (some ⟨g1, 0, none⟩) ns ns, .slice (some ⟨g2, 0, none⟩) np np, .slice (some ⟨g3, 0, none⟩) no no, .slice (some ⟨g4, 0, none⟩) ny ny, .slice (some ⟨g5, 0, none⟩) nt nt]) := HX0.out.grown hg (by simp; omega)
  have HP1 : Hid (OwnR w0 (some ⟨g1, 0, none⟩) ns 1 (textF S)) := HP1.out.grown hg (fun k hk e => by simp at hk e; omega)
  have HP2 : Hid (OwnR w0 (some ⟨g2, 0, none⟩) np 4 (paramF P)) := HP2.out.grown hg (fun k hk e => by simp at hk e; omega)
  have HP3 : Hid (OwnR w0 (some ⟨g3, 0, none⟩) no 5 (nodeF O)) := HP3.out.grown hg (fun k hk e => by simp at hk e; omega)
  have HP4 : Hid (OwnR w0 (some ⟨g4, 0, none⟩) ny 5 (nodeF Y)) := HP4.out.grown hg (fun k hk e => by simp at hk e; omega)
  have HP5 : Hid (OwnR w0 (some ⟨g5, 0, none⟩) nt 5 (nodeF T)) := HP5.out.grown hg (fun k hk e => by simp at hk e; omega)
  obtain ⟨k1, hk1⟩ : ∃ k : Nat, k = 1 + nc := ⟨_, rfl⟩
  rw [← hk1]
  have q1 : 1 ≤ k1 ∧ k1 ≤ 5242881 := by omega
  clear hg cc0 HK0 HX0 hk1
  have cc1 : w0.cell? ⟨w.heap.size, 3, none⟩ = some (.slice (some ⟨g1, 0, none⟩) ns ns) := HX1.out.cell 3
  go_wp2_with fail
  refine (mark_texts (some ⟨g1, 0, none⟩) ns ns _ n1 k1 (by omega) (by omega) _ HP1.out).mono ?_
  rintro e w1 ⟨rfl, _, hg⟩
  have HK2 : Hid (Kp ⟨g0, g1, g2, g3, g4, g5⟩ w w1) := HK1.out.next hg (by simp)
  have HX2 : Hid (Bq8 w1 w.heap.size #[.string x, .int .i64 z, .slice (some ⟨g0, 0, none⟩) nc nc, .slice (some ⟨g1, 0, none⟩) ns ns, .slice (some ⟨g2, 0, none⟩) np np, .slice (some ⟨g3, 0, none⟩) no no, .slice (some ⟨g4, 0, none⟩) ny ny, .slice (some ⟨g5, 0, none⟩) nt nt]) := HX1.out.grown hg (by simp; omega)
  have HP2 : Hid (OwnR w1 (some ⟨g2, 0, none⟩) np 4 (paramF P)) := HP2.out.grown hg (fun k hk e => by simp at hk e; omega)
  have HP3 : Hid (OwnR w1 (some ⟨g3, 0, none⟩) no 5 (nodeF O)) := HP3.out.grown hg (fun k hk e => by simp at hk e; omega)
  have HP4 : Hid (OwnR w1 (some ⟨g4, 0, none⟩) ny 5 (nodeF Y)) := HP4.out.grown hg (fun k hk e => by simp at hk e; omega)
  have HP5 : Hid (OwnR w1 (some ⟨g5, 0, none⟩) nt 5 (nodeF T)) := HP5.out.grown hg (fun k hk e => by simp at hk e; omega)
  obtain ⟨k2, hk2⟩ : ∃ k : Nat, k = k1 + ns := ⟨_, rfl⟩
  rw [← hk2]
  have q2 : 1 ≤ k2 ∧ k2 ≤ 10485761 := by omega
  clear hg cc1 HK1 HX1 hk2
  have cc2 : w1.cell? ⟨w.heap.size, 4, none⟩ = some (.slice (some ⟨g2, 0, none⟩) np np) := HX2.out.cell 4
  go_wp2_with fail
  refine (mark_params (some ⟨g2, 0, none⟩) np np _ n2 k2 (by omega) (by omega) _ HP2.out).mono ?_
  rintro e w2 ⟨rfl, _, hg⟩
  have HK3 : Hid (Kp ⟨g0, g1, g2, g3, g4, g5⟩ w w2) := HK2.out.next hg (by simp)
  have HX3 : Hid (Bq8 w2 w.heap.size #[.string x, .int .i64 z, .slice (some ⟨g0, 0, none⟩) nc nc, .slice (some ⟨g1, 0, none⟩) ns ns, .slice (some ⟨g2, 0, none⟩) np np, .slice (some ⟨g3, 0, none⟩) no no, .slice (some ⟨g4, 0, none⟩) ny ny, .slice (some ⟨g5, 0, none⟩) nt nt]) := HX2.out.grown hg (by simp; omega)
  have HP3 : Hid (OwnR w2 (some ⟨g3, 0, none⟩) no 5 (nodeF O)) := HP3.out.grown hg (fun k hk e => by simp at hk e; omega)
  have HP4 : Hid (OwnR w2 (some ⟨g4, 0, none⟩) ny 5 (nodeF Y)) := HP4.out.grown hg (fun k hk e => by simp at hk e; omega)
  have HP5 : Hid (OwnR w2 (some ⟨g5, 0, none⟩) nt 5 (nodeF T)) := HP5.out.grown hg (fun k hk e => by simp at hk e; omega)
  obtain ⟨k3, hk3⟩ : ∃ k : Nat, k = k2 + np * 4 := ⟨_, rfl⟩
  rw [← hk3]
  have q3 : 1 ≤ k3 ∧ k3 ≤ 15728641 := by omega
  clear hg cc2 HK2 HX2 hk3
  have cc3 : w2.cell? ⟨w.heap.size, 5, none⟩ = some (.slice (some ⟨g3, 0, none⟩) no no) := HX3.out.cell 5
  go_wp2_with fail
  refine (mark_nodes (some ⟨g3, 0, none⟩) no no _ n3 k3 (by omega) (by omega) _ HP3.out).mono ?_
  rintro e w3 ⟨rfl, _, hg⟩
  have HK4 : Hid (Kp ⟨g0, g1, g2, g3, g4, g5⟩ w w3) := HK3.out.next hg (by simp)
  have HX4 : Hid (Bq8 w3 w.heap.size #[.string x, .int .i64 z, .slice (some ⟨g0, 0, none⟩) nc nc, .slice (some ⟨g1, 0, none⟩) ns ns, .slice (some ⟨g2, 0, none⟩) np np, .slice (some ⟨g3, 0, none⟩) no no, .slice (some ⟨g4, 0, none⟩) ny ny, .slice (some ⟨g5, 0, none⟩) nt nt]) := HX3.out.grown hg (by simp; omega)
  have HP4 : Hid (OwnR w3 (some ⟨g4, 0, none⟩) ny 5 (nodeF Y)) := HP4.out.grown hg (fun k hk e => by simp at hk e; omega)
  have HP5 : Hid (OwnR w3 (some ⟨g5, 0, none⟩) nt 5 (nodeF T)) := HP5.out.grown hg (fun k hk e => by simp at hk e; omega)
  obtain ⟨k4, hk4⟩ : ∃ k : Nat, k = k3 + no * 5 := ⟨_, rfl⟩
  rw [← hk4]
  have q4 : 1 ≤ k4 ∧ k4 ≤ 20971521 := by omega
  clear hg cc3 HK3 HX3 hk4
  have cc4 : w3.cell? ⟨w.heap.size, 6, none⟩ = some (.slice (some ⟨g4, 0, none⟩) ny ny) := HX4.out.cell 6
  go_wp2_with fail
  refine (mark_nodes (some ⟨g4, 0, none⟩) ny ny _ n4 k4 (by omega) (by omega) _ HP4.out).mono ?_
  rintro e w4 ⟨rfl, _, hg⟩
  have HK5 : Hid (Kp ⟨g0, g1, g2, g3, g4, g5⟩ w w4) := HK4.out.next hg (by simp)
  have HX5 : Hid (Bq8 w4 w.heap.size #[.string x, .int .i64 z, .slice (some ⟨g0, 0, none⟩) nc nc, .slice (some ⟨g1, 0, none⟩) ns ns, .slice (some ⟨g2, 0, none⟩) np np, .slice (some ⟨g3, 0, none⟩) no no, .slice (some ⟨g4, 0, none⟩) ny ny, .slice (some ⟨g5, 0, none⟩) nt nt]) := HX4.out.grown hg (by simp; omega)
  have HP5 : Hid (OwnR w4 (some ⟨g5, 0, none⟩) nt 5 (nodeF T)) := HP5.out.grown hg (fun k hk e => by simp at hk e; omega)
  obtain ⟨k5, hk5⟩ : ∃ k : Nat, k = k4 + ny * 5 := ⟨_, rfl⟩
  rw [← hk5]
  have q5 : 1 ≤ k5 ∧ k5 ≤ 26214401 := by omega
  clear hg cc4 HK4 HX4 hk5
  have cc5 : w4.cell? ⟨w.heap.size, 7, none⟩ = some (.slice (some ⟨g5, 0, none⟩) nt nt) := HX5.out.cell 7
  go_wp2_with fail
  refine (mark_nodes (some ⟨g5, 0, none⟩) nt nt _ n5 k5 (by omega) (by omega) _ HP5.out).mono ?_
  rintro e w5 ⟨rfl, _, hg⟩
  have HK6 : Hid (Kp ⟨g0, g1, g2, g3, g4, g5⟩ w w5) := HK5.out.next hg (by simp)
  have HX6 : Hid (Bq8 w5 w.heap.size #[.string x, .int .i64 z, .slice (some ⟨g0, 0, none⟩) nc nc, .slice (some ⟨g1, 0, none⟩) ns ns, .slice (some ⟨g2, 0, none⟩) np np, .slice (some ⟨g3, 0, none⟩) no no, .slice (some ⟨g4, 0, none⟩) ny ny, .slice (some ⟨g5, 0, none⟩) nt nt]) := HX5.out.grown hg (by simp; omega)
  obtain ⟨k6, hk6⟩ : ∃ k : Nat, k = k5 + nt * 5 := ⟨_, rfl⟩
  rw [← hk6]
  have q6 : 1 ≤ k6 ∧ k6 ≤ 31457281 := by omega
  clear hg cc5 HK5 HX5 hk6
  go_wp2_with fail
  go_ret
  exact ⟨k6, rfl, HK6.out⟩
end Go.Proofs.Ythfjekpmaafhaaa
