/- A Product by value and its lists: its size, its copy, its comparison, its marks: what the laws' helpers do. -/
import Derived.Test.YtnefcldjigndgaaDoorNodesM
namespace Go.Proofs.YtnefcldjigndgaaDoor
open Go.RowKit
open Go.Proofs.YtnefcldjigndgaaDoor.Draw

/-- What stands in a Product. -/
structure Pd where
  x : ByteArray
  z : Int
  nc : Nat
  ns : Nat
  np : Nat
  no : Nat
  ny : Nat
  nt : Nat
  C : Nat → Tx
  S : Nat → Tx
  P : Nat → Pm
  O : Nat → Nd
  Y : Nat → Nd
  T : Nat → Nd
/-- Where its lists stand. -/
structure Pr where
  ca : Option Addr
  sa : Option Addr
  pa : Option Addr
  oa : Option Addr
  ya : Option Addr
  ta : Option Addr
  cc : Nat
  cs : Nat
  cp : Nat
  co : Nat
  cy : Nat
  ct : Nat
def prodA (d : Pd) (r : Pr) : Array Value := #[.string d.x, .int .i64 d.z, .slice r.ca d.nc r.cc, .slice r.sa d.ns r.cs, .slice r.pa d.np r.cp, .slice r.oa d.no r.co, .slice r.ya d.ny r.cy, .slice r.ta d.nt r.ct]
def Pd.fits (d : Pd) : Prop := d.x.size ≤ maxLen ∧ (d.nc ≤ maxLen ∧ ∀ i, i < d.nc → (d.C i).fits) ∧ (d.ns ≤ maxLen ∧ ∀ i, i < d.ns → (d.S i).fits) ∧ (d.np ≤ maxLen ∧ ∀ i, i < d.np → (d.P i).fits) ∧ (d.no ≤ maxLen ∧ ∀ i, i < d.no → (d.O i).fits) ∧ (d.ny ≤ maxLen ∧ ∀ i, i < d.ny → (d.Y i).fits) ∧ (d.nt ≤ maxLen ∧ ∀ i, i < d.nt → (d.T i).fits)
def Pd.small (d : Pd) : Prop := d.x.size ≤ 1048576 ∧ (d.nc ≤ 1048576 ∧ ∀ i, i < d.nc → (d.C i).small) ∧ (d.ns ≤ 1048576 ∧ ∀ i, i < d.ns → (d.S i).small) ∧ (d.np ≤ 1048576 ∧ ∀ i, i < d.np → (d.P i).small) ∧ (d.no ≤ 1048576 ∧ ∀ i, i < d.no → (d.O i).small) ∧ (d.ny ≤ 1048576 ∧ ∀ i, i < d.ny → (d.Y i).small) ∧ (d.nt ≤ 1048576 ∧ ∀ i, i < d.nt → (d.T i).small)
def PdAt (w : World) (d : Pd) (r : Pr) : Prop := TextsAt w r.ca d.nc d.C ∧ TextsAt w r.sa d.ns d.S ∧ ParamsAt w r.pa d.np d.P ∧ NodesAt w r.oa d.no d.O ∧ NodesAt w r.ya d.ny d.Y ∧ NodesAt w r.ta d.nt d.T
theorem PdAt.below {w w' : World} {d : Pd} {r : Pr} (h : PdAt w d r) (hb : Below w.heap.size w w') : PdAt w' d r := by
  obtain ⟨h0, h1, h2, h3, h4, h5⟩ := h
  exact ⟨h0.below hb, h1.below hb, h2.below hb, h3.below hb, h4.below hb, h5.below hb⟩
def PdOwn (w : World) (d : Pd) (r : Pr) : Prop := OwnR w r.ca d.nc 1 (textF d.C) ∧ OwnR w r.sa d.ns 1 (textF d.S) ∧ OwnR w r.pa d.np 4 (paramF d.P) ∧ OwnR w r.oa d.no 5 (nodeF d.O) ∧ OwnR w r.ya d.ny 5 (nodeF d.Y) ∧ OwnR w r.ta d.nt 5 (nodeF d.T)
theorem PdOwn.at {w : World} {d : Pd} {r : Pr} (h : PdOwn w d r) : PdAt w d r := by
  obtain ⟨h0, h1, h2, h3, h4, h5⟩ := h
  exact ⟨h0.texts, h1.texts, h2.params, h3.nodes, h4.nodes, h5.nodes⟩
theorem PdOwn.below {w w' : World} {d : Pd} {r : Pr} (h : PdOwn w d r) (hb : Below w.heap.size w w') : PdOwn w' d r := by
  obtain ⟨h0, h1, h2, h3, h4, h5⟩ := h
  exact ⟨h0.below hb, h1.below hb, h2.below hb, h3.below hb, h4.below hb, h5.below hb⟩
/-- New blocks of a copy's lists, rising. -/
structure Gs where
  g0 : Nat
  g1 : Nat
  g2 : Nat
  g3 : Nat
  g4 : Nat
  g5 : Nat
def Gs.r (g : Gs) (d : Pd) : Pr := ⟨some ⟨g.g0, 0, none⟩, some ⟨g.g1, 0, none⟩, some ⟨g.g2, 0, none⟩, some ⟨g.g3, 0, none⟩, some ⟨g.g4, 0, none⟩, some ⟨g.g5, 0, none⟩, d.nc, d.ns, d.np, d.no, d.ny, d.nt⟩
def Gs.ok (g : Gs) (lo hi : Nat) : Prop := lo ≤ g.g0 ∧ g.g0 < g.g1 ∧ g.g1 < g.g2 ∧ g.g2 < g.g3 ∧ g.g3 < g.g4 ∧ g.g4 < g.g5 ∧ g.g5 < hi
/-- A block of the call's own. -/
structure Bx8 (w W : World) (cs : Array Value) : Prop where
  cell : ∀ j, W.cell? ⟨w.heap.size, j, none⟩ = cs[j]?
  lt : w.heap.size < W.heap.size
  bel : Below w.heap.size w W
theorem Bx8.new (w : World) (cs : Array Value) (t : TypeId) : Bx8 w (w.alloc (.cells cs t)) cs := ⟨fun j => cnew' rfl j, by simp, (Below.refl _ _).alloc (Nat.le_refl _) _⟩
theorem Bx8.next {w W W' : World} {cs : Array Value} (h : Bx8 w W cs) (hb : Below W.heap.size W W') : Bx8 w W' cs :=
  ⟨fun j => (hb.cell (p := ⟨w.heap.size, j, none⟩) h.lt).trans (h.cell j), Nat.lt_of_lt_of_le h.lt hb.size, h.bel.trans (hb.mono h.bel.size)⟩
set_option maxRecDepth 100000 in
set_option maxHeartbeats 8000000 in
theorem sz_prod (d : Pd) (r : Pr) (hf : d.fits) (left : Nat) (hl : left ≤ 1048576) (w : World) (h : PdAt w d r) :
    Calls Tryd.prog 14 #[.agg (prodA d r), .int .i64 (left : Int)] w fun e w' => (e = .returned (.int .i64 (-1)) ∨ ∃ q : Nat, e = .returned (.int .i64 (q : Int)) ∧ q ≤ left ∧ d.small) ∧ Below w.heap.size w w' := by
  obtain ⟨x, z, nc, ns, np, no, ny, nt, C, S, P, O, Y, T⟩ := d
  obtain ⟨ca, sa, pa, oa, ya, ta, cc, cs, cp, co, cy, ct⟩ := r
  obtain ⟨fx, ⟨n0, f0⟩, ⟨n1, f1⟩, ⟨n2, f2⟩, ⟨n3, f3⟩, ⟨n4, f4⟩, ⟨n5, f5⟩⟩ := hf
  have HA : Hid (PdAt w ⟨x, z, nc, ns, np, no, ny, nt, C, S, P, O, Y, T⟩ ⟨ca, sa, pa, oa, ya, ta, cc, cs, cp, co, cy, ct⟩) := h
  have HF : Hid ((nc ≤ maxLen ∧ ∀ i, i < nc → (C i).fits) ∧ (ns ≤ maxLen ∧ ∀ i, i < ns → (S i).fits) ∧ (np ≤ maxLen ∧ ∀ i, i < np → (P i).fits) ∧ (no ≤ maxLen ∧ ∀ i, i < no → (O i).fits) ∧ (ny ≤ maxLen ∧ ∀ i, i < ny → (Y i).fits) ∧ (nt ≤ maxLen ∧ ∀ i, i < nt → (T i).fits)) := ⟨⟨n0, f0⟩, ⟨n1, f1⟩, ⟨n2, f2⟩, ⟨n3, f3⟩, ⟨n4, f4⟩, ⟨n5, f5⟩⟩
  have fx' : x.size ≤ maxLen := fx
  clear h fx n0 f0 n1 f1 n2 f2 n3 f3 n4 f4 n5 f5
  unfold maxLen at fx'
  show Calls Tryd.prog 14 #[.agg #[.string x, .int .i64 z, .slice ca nc cc, .slice sa ns cs, .slice pa np cp, .slice oa no co, .slice ya ny cy, .slice ta nt ct], .int .i64 (left : Int)] w _
  have HX : Hid (Bx8 w (w.alloc (.cells #[.string x, .int .i64 z, .slice ca nc cc, .slice sa ns cs, .slice pa np cp, .slice oa no co, .slice ya ny cy, .slice ta nt ct] 33)) #[.string x, .int .i64 z, .slice ca nc cc, .slice sa ns cs, .slice pa np cp, .slice oa no co, .slice ya ny cy, .slice ta nt ct]) := Bx8.new _ _ _
  have HA0 : Hid (PdAt (w.alloc (.cells #[.string x, .int .i64 z, .slice ca nc cc, .slice sa ns cs, .slice pa np cp, .slice oa no co, .slice ya ny cy, .slice ta nt ct] 33)) ⟨x, z, nc, ns, np, no, ny, nt, C, S, P, O, Y, T⟩ ⟨ca, sa, pa, oa, ya, ta, cc, cs, cp, co, cy, ct⟩) := HA.out.below ((Below.refl _ _).alloc (Nat.le_refl _) _)
  by_cases hx : x.size ≤ left
  rotate_left
  · have q0 : decide ((left : Int) - (x.size : Int) < 0) = true := by simp; omega
    go_enter Tryd.func14, Tryd.ntmps14
    go_wp2_with fail
    go_ret
    exact ⟨Or.inl rfl, HX.out.bel⟩
  have q0 : decide ((left : Int) - (x.size : Int) < 0) = false := by simp; omega
  obtain ⟨t0, ht0⟩ : ∃ t : Nat, (left : Int) - (x.size : Int) = (t : Int) := ⟨left - x.size, by omega⟩
  have htl0 : t0 ≤ left := by omega
  have hsx : x.size ≤ 1048576 := by omega
  rw [ht0] at q0
  go_enter Tryd.func14, Tryd.ntmps14
  have cc0 := HX.out.cell 2
  simp at cc0
  go_wp2_with fail
  refine (sz_texts ca nc cc C HF.out.1.1 HF.out.1.2 t0 (by omega) _ (HA0.out.1)).mono ?_
  rintro e w0 ⟨he, hb⟩
  have HX1 : Hid (Bx8 w w0 #[.string x, .int .i64 z, .slice ca nc cc, .slice sa ns cs, .slice pa np cp, .slice oa no co, .slice ya ny cy, .slice ta nt ct]) := HX.out.next hb
  have HA1 : Hid (PdAt w0 ⟨x, z, nc, ns, np, no, ny, nt, C, S, P, O, Y, T⟩ ⟨ca, sa, pa, oa, ya, ta, cc, cs, cp, co, cy, ct⟩) := HA0.out.below hb
  clear hb cc0 HX HA0 ht0
  rcases he with rfl | ⟨t1, rfl, htl1, hn0, hsm⟩
  · have q1 : decide ((-1 : Int) < 0) = true := rfl
    go_wp2_with fail
    go_ret
    exact ⟨Or.inl rfl, HX1.out.bel⟩
  have q1 : decide ((t1 : Int) < 0) = false := by simp
  have HS0 : Hid (∀ i, i < nc → (C i).small) := hsm
  have hnn0 : nc ≤ 1048576 := by omega
  have htl1' : t1 ≤ left := by omega
  clear hsm hn0 htl1
  have cc1 := HX1.out.cell 3
  simp at cc1
  go_wp2_with fail
  refine (sz_texts sa ns cs S HF.out.2.1.1 HF.out.2.1.2 t1 (by omega) _ (HA1.out.2.1)).mono ?_
  rintro e w1 ⟨he, hb⟩
  have HX2 : Hid (Bx8 w w1 #[.string x, .int .i64 z, .slice ca nc cc, .slice sa ns cs, .slice pa np cp, .slice oa no co, .slice ya ny cy, .slice ta nt ct]) := HX1.out.next hb
  have HA2 : Hid (PdAt w1 ⟨x, z, nc, ns, np, no, ny, nt, C, S, P, O, Y, T⟩ ⟨ca, sa, pa, oa, ya, ta, cc, cs, cp, co, cy, ct⟩) := HA1.out.below hb
  clear hb cc1 HX1 HA1
  rcases he with rfl | ⟨t2, rfl, htl2, hn1, hsm⟩
  · have q2 : decide ((-1 : Int) < 0) = true := rfl
    go_wp2_with fail
    go_ret
    exact ⟨Or.inl rfl, HX2.out.bel⟩
  have q2 : decide ((t2 : Int) < 0) = false := by simp
  have HS1 : Hid (∀ i, i < ns → (S i).small) := hsm
  have hnn1 : ns ≤ 1048576 := by omega
  have htl2' : t2 ≤ left := by omega
  clear hsm hn1 htl2
  have cc2 := HX2.out.cell 4
  simp at cc2
  go_wp2_with fail
  refine (sz_params pa np cp P HF.out.2.2.1.1 HF.out.2.2.1.2 t2 (by omega) _ (HA2.out.2.2.1)).mono ?_
  rintro e w2 ⟨he, hb⟩
  have HX3 : Hid (Bx8 w w2 #[.string x, .int .i64 z, .slice ca nc cc, .slice sa ns cs, .slice pa np cp, .slice oa no co, .slice ya ny cy, .slice ta nt ct]) := HX2.out.next hb
  have HA3 : Hid (PdAt w2 ⟨x, z, nc, ns, np, no, ny, nt, C, S, P, O, Y, T⟩ ⟨ca, sa, pa, oa, ya, ta, cc, cs, cp, co, cy, ct⟩) := HA2.out.below hb
  clear hb cc2 HX2 HA2
  rcases he with rfl | ⟨t3, rfl, htl3, hn2, hsm⟩
  · have q3 : decide ((-1 : Int) < 0) = true := rfl
    go_wp2_with fail
    go_ret
    exact ⟨Or.inl rfl, HX3.out.bel⟩
  have q3 : decide ((t3 : Int) < 0) = false := by simp
  have HS2 : Hid (∀ i, i < np → (P i).small) := hsm
  have hnn2 : np ≤ 1048576 := by omega
  have htl3' : t3 ≤ left := by omega
  clear hsm hn2 htl3
  have cc3 := HX3.out.cell 5
  simp at cc3
  go_wp2_with fail
  refine (sz_nodes oa no co O HF.out.2.2.2.1.1 HF.out.2.2.2.1.2 t3 (by omega) _ (HA3.out.2.2.2.1)).mono ?_
  rintro e w3 ⟨he, hb⟩
  have HX4 : Hid (Bx8 w w3 #[.string x, .int .i64 z, .slice ca nc cc, .slice sa ns cs, .slice pa np cp, .slice oa no co, .slice ya ny cy, .slice ta nt ct]) := HX3.out.next hb
  have HA4 : Hid (PdAt w3 ⟨x, z, nc, ns, np, no, ny, nt, C, S, P, O, Y, T⟩ ⟨ca, sa, pa, oa, ya, ta, cc, cs, cp, co, cy, ct⟩) := HA3.out.below hb
  clear hb cc3 HX3 HA3
  rcases he with rfl | ⟨t4, rfl, htl4, hn3, hsm⟩
  · have q4 : decide ((-1 : Int) < 0) = true := rfl
    go_wp2_with fail
    go_ret
    exact ⟨Or.inl rfl, HX4.out.bel⟩
  have q4 : decide ((t4 : Int) < 0) = false := by simp
  have HS3 : Hid (∀ i, i < no → (O i).small) := hsm
  have hnn3 : no ≤ 1048576 := by omega
  have htl4' : t4 ≤ left := by omega
  clear hsm hn3 htl4
  have cc4 := HX4.out.cell 6
  simp at cc4
  go_wp2_with fail
  refine (sz_nodes ya ny cy Y HF.out.2.2.2.2.1.1 HF.out.2.2.2.2.1.2 t4 (by omega) _ (HA4.out.2.2.2.2.1)).mono ?_
  rintro e w4 ⟨he, hb⟩
  have HX5 : Hid (Bx8 w w4 #[.string x, .int .i64 z, .slice ca nc cc, .slice sa ns cs, .slice pa np cp, .slice oa no co, .slice ya ny cy, .slice ta nt ct]) := HX4.out.next hb
  have HA5 : Hid (PdAt w4 ⟨x, z, nc, ns, np, no, ny, nt, C, S, P, O, Y, T⟩ ⟨ca, sa, pa, oa, ya, ta, cc, cs, cp, co, cy, ct⟩) := HA4.out.below hb
  clear hb cc4 HX4 HA4
  rcases he with rfl | ⟨t5, rfl, htl5, hn4, hsm⟩
  · have q5 : decide ((-1 : Int) < 0) = true := rfl
    go_wp2_with fail
    go_ret
    exact ⟨Or.inl rfl, HX5.out.bel⟩
  have q5 : decide ((t5 : Int) < 0) = false := by simp
  have HS4 : Hid (∀ i, i < ny → (Y i).small) := hsm
  have hnn4 : ny ≤ 1048576 := by omega
  have htl5' : t5 ≤ left := by omega
  clear hsm hn4 htl5
  have cc5 := HX5.out.cell 7
  simp at cc5
  go_wp2_with fail
  refine (sz_nodes ta nt ct T HF.out.2.2.2.2.2.1 HF.out.2.2.2.2.2.2 t5 (by omega) _ (HA5.out.2.2.2.2.2)).mono ?_
  rintro e w5 ⟨he, hb⟩
  have HX6 : Hid (Bx8 w w5 #[.string x, .int .i64 z, .slice ca nc cc, .slice sa ns cs, .slice pa np cp, .slice oa no co, .slice ya ny cy, .slice ta nt ct]) := HX5.out.next hb
  have HA6 : Hid (PdAt w5 ⟨x, z, nc, ns, np, no, ny, nt, C, S, P, O, Y, T⟩ ⟨ca, sa, pa, oa, ya, ta, cc, cs, cp, co, cy, ct⟩) := HA5.out.below hb
  clear hb cc5 HX5 HA5
  rcases he with rfl | ⟨t6, rfl, htl6, hn5, hsm⟩
  · have q6 : decide ((-1 : Int) < 0) = true := rfl
    go_wp2_with fail
    go_ret
    exact ⟨Or.inl rfl, HX6.out.bel⟩
  have q6 : decide ((t6 : Int) < 0) = false := by simp
  have HS5 : Hid (∀ i, i < nt → (T i).small) := hsm
  have hnn5 : nt ≤ 1048576 := by omega
  have htl6' : t6 ≤ left := by omega
  clear hsm hn5 htl6
  go_wp2_with fail
  go_ret
  exact ⟨Or.inr ⟨t6, rfl, htl6', hsx, ⟨hnn0, HS0.out⟩, ⟨hnn1, HS1.out⟩, ⟨hnn2, HS2.out⟩, ⟨hnn3, HS3.out⟩, ⟨hnn4, HS4.out⟩, ⟨hnn5, HS5.out⟩⟩, HX6.out.bel⟩
set_option maxRecDepth 100000 in
set_option maxHeartbeats 8000000 in
theorem eq_prod (d : Pd) (r r' : Pr) (hs : d.small) (w : World) (h : PdAt w d r) (h' : PdAt w d r') :
    Calls Tryd.prog 18 #[.agg (prodA d r), .agg (prodA d r')] w fun e w' => e = .returned (.bool true) ∧ Below w.heap.size w w' := by
  obtain ⟨x, z, nc, ns, np, no, ny, nt, C, S, P, O, Y, T⟩ := d
  obtain ⟨ca, sa, pa, oa, ya, ta, cc, cs, cp, co, cy, ct⟩ := r
  obtain ⟨ca', sa', pa', oa', ya', ta', cc', cs', cp', co', cy', ct'⟩ := r'
  obtain ⟨_, ⟨n0, _⟩, ⟨n1, _⟩, ⟨n2, _⟩, ⟨n3, _⟩, ⟨n4, _⟩, ⟨n5, _⟩⟩ := hs
  have hxx : ∀ x : List UInt8, (x == x) = true := fun x => by simp
  have hii : ∀ x : Int, (x != x) = false := fun x => by simp
  have s0 : w.heap.size ≤ (w.alloc (.cells #[.string x, .int .i64 z, .slice ca nc cc, .slice sa ns cs, .slice pa np cp, .slice oa no co, .slice ya ny cy, .slice ta nt ct] 38)).heap.size := by simp
  have HBN : Hid (Below w.heap.size w ((w.alloc (.cells #[.string x, .int .i64 z, .slice ca nc cc, .slice sa ns cs, .slice pa np cp, .slice oa no co, .slice ya ny cy, .slice ta nt ct] 38)).alloc (.cells #[.string x, .int .i64 z, .slice ca' nc cc', .slice sa' ns cs', .slice pa' np cp', .slice oa' no co', .slice ya' ny cy', .slice ta' nt ct'] 38))) := ((Below.refl _ _).alloc (Nat.le_refl _) _).alloc s0 _
  have HA0 : Hid (PdAt ((w.alloc (.cells #[.string x, .int .i64 z, .slice ca nc cc, .slice sa ns cs, .slice pa np cp, .slice oa no co, .slice ya ny cy, .slice ta nt ct] 38)).alloc (.cells #[.string x, .int .i64 z, .slice ca' nc cc', .slice sa' ns cs', .slice pa' np cp', .slice oa' no co', .slice ya' ny cy', .slice ta' nt ct'] 38)) ⟨x, z, nc, ns, np, no, ny, nt, C, S, P, O, Y, T⟩ ⟨ca, sa, pa, oa, ya, ta, cc, cs, cp, co, cy, ct⟩) := h.below HBN.out
  have HB0 : Hid (PdAt ((w.alloc (.cells #[.string x, .int .i64 z, .slice ca nc cc, .slice sa ns cs, .slice pa np cp, .slice oa no co, .slice ya ny cy, .slice ta nt ct] 38)).alloc (.cells #[.string x, .int .i64 z, .slice ca' nc cc', .slice sa' ns cs', .slice pa' np cp', .slice oa' no co', .slice ya' ny cy', .slice ta' nt ct'] 38)) ⟨x, z, nc, ns, np, no, ny, nt, C, S, P, O, Y, T⟩ ⟨ca', sa', pa', oa', ya', ta', cc', cs', cp', co', cy', ct'⟩) := h'.below HBN.out
  have HX0 : Hid (Both w ((w.alloc (.cells #[.string x, .int .i64 z, .slice ca nc cc, .slice sa ns cs, .slice pa np cp, .slice oa no co, .slice ya ny cy, .slice ta nt ct] 38)).alloc (.cells #[.string x, .int .i64 z, .slice ca' nc cc', .slice sa' ns cs', .slice pa' np cp', .slice oa' no co', .slice ya' ny cy', .slice ta' nt ct'] 38)) #[.string x, .int .i64 z, .slice ca nc cc, .slice sa ns cs, .slice pa np cp, .slice oa no co, .slice ya ny cy, .slice ta nt ct] #[.string x, .int .i64 z, .slice ca' nc cc', .slice sa' ns cs', .slice pa' np cp', .slice oa' no co', .slice ya' ny cy', .slice ta' nt ct']) := two_now w _ _ _ _
  have HN : Hid (nc ≤ 1048576 ∧ ns ≤ 1048576 ∧ np ≤ 1048576 ∧ no ≤ 1048576 ∧ ny ≤ 1048576 ∧ nt ≤ 1048576) := ⟨n0, n1, n2, n3, n4, n5⟩
  clear h h' s0 HBN n0 n1 n2 n3 n4 n5
  show Calls Tryd.prog 18 #[.agg #[.string x, .int .i64 z, .slice ca nc cc, .slice sa ns cs, .slice pa np cp, .slice oa no co, .slice ya ny cy, .slice ta nt ct], .agg #[.string x, .int .i64 z, .slice ca' nc cc', .slice sa' ns cs', .slice pa' np cp', .slice oa' no co', .slice ya' ny cy', .slice ta' nt ct']] w _
  go_enter Tryd.func18, Tryd.ntmps18
  have bb0 := HX0.out.box 2
  have rr0 := HX0.out.res 2
  simp at bb0 rr0
  go_wp2_with fail
  refine (eq_texts ca ca' nc cc cc' C (HN.out.1) _ (HA0.out.1) (HB0.out.1)).mono ?_
  rintro e w0 ⟨rfl, hb⟩
  have HX1 : Hid (Both w w0 #[.string x, .int .i64 z, .slice ca nc cc, .slice sa ns cs, .slice pa np cp, .slice oa no co, .slice ya ny cy, .slice ta nt ct] #[.string x, .int .i64 z, .slice ca' nc cc', .slice sa' ns cs', .slice pa' np cp', .slice oa' no co', .slice ya' ny cy', .slice ta' nt ct']) := HX0.out.next hb
  have HA1 : Hid (PdAt w0 ⟨x, z, nc, ns, np, no, ny, nt, C, S, P, O, Y, T⟩ ⟨ca, sa, pa, oa, ya, ta, cc, cs, cp, co, cy, ct⟩) := HA0.out.below hb
  have HB1 : Hid (PdAt w0 ⟨x, z, nc, ns, np, no, ny, nt, C, S, P, O, Y, T⟩ ⟨ca', sa', pa', oa', ya', ta', cc', cs', cp', co', cy', ct'⟩) := HB0.out.below hb
  clear hb bb0 rr0 HX0 HA0 HB0
  have bb1 := HX1.out.box 3
  have rr1 := HX1.out.res 3
  simp at bb1 rr1
  go_wp2_with fail
  refine (eq_texts sa sa' ns cs cs' S (HN.out.2.1) _ (HA1.out.2.1) (HB1.out.2.1)).mono ?_
  rintro e w1 ⟨rfl, hb⟩
  have HX2 : Hid (Both w w1 #[.string x, .int .i64 z, .slice ca nc cc, .slice sa ns cs, .slice pa np cp, .slice oa no co, .slice ya ny cy, .slice ta nt ct] #[.string x, .int .i64 z, .slice ca' nc cc', .slice sa' ns cs', .slice pa' np cp', .slice oa' no co', .slice ya' ny cy', .slice ta' nt ct']) := HX1.out.next hb
  have HA2 : Hid (PdAt w1 ⟨x, z, nc, ns, np, no, ny, nt, C, S, P, O, Y, T⟩ ⟨ca, sa, pa, oa, ya, ta, cc, cs, cp, co, cy, ct⟩) := HA1.out.below hb
  have HB2 : Hid (PdAt w1 ⟨x, z, nc, ns, np, no, ny, nt, C, S, P, O, Y, T⟩ ⟨ca', sa', pa', oa', ya', ta', cc', cs', cp', co', cy', ct'⟩) := HB1.out.below hb
  clear hb bb1 rr1 HX1 HA1 HB1
  have bb2 := HX2.out.box 4
  have rr2 := HX2.out.res 4
  simp at bb2 rr2
  go_wp2_with fail
  refine (eq_params pa pa' np cp cp' P (HN.out.2.2.1) _ (HA2.out.2.2.1) (HB2.out.2.2.1)).mono ?_
  rintro e w2 ⟨rfl, hb⟩
  have HX3 : Hid (Both w w2 #[.string x, .int .i64 z, .slice ca nc cc, .slice sa ns cs, .slice pa np cp, .slice oa no co, .slice ya ny cy, .slice ta nt ct] #[.string x, .int .i64 z, .slice ca' nc cc', .slice sa' ns cs', .slice pa' np cp', .slice oa' no co', .slice ya' ny cy', .slice ta' nt ct']) := HX2.out.next hb
  have HA3 : Hid (PdAt w2 ⟨x, z, nc, ns, np, no, ny, nt, C, S, P, O, Y, T⟩ ⟨ca, sa, pa, oa, ya, ta, cc, cs, cp, co, cy, ct⟩) := HA2.out.below hb
  have HB3 : Hid (PdAt w2 ⟨x, z, nc, ns, np, no, ny, nt, C, S, P, O, Y, T⟩ ⟨ca', sa', pa', oa', ya', ta', cc', cs', cp', co', cy', ct'⟩) := HB2.out.below hb
  clear hb bb2 rr2 HX2 HA2 HB2
  have bb3 := HX3.out.box 5
  have rr3 := HX3.out.res 5
  simp at bb3 rr3
  go_wp2_with fail
  refine (eq_nodes oa oa' no co co' O (HN.out.2.2.2.1) _ (HA3.out.2.2.2.1) (HB3.out.2.2.2.1)).mono ?_
  rintro e w3 ⟨rfl, hb⟩
  have HX4 : Hid (Both w w3 #[.string x, .int .i64 z, .slice ca nc cc, .slice sa ns cs, .slice pa np cp, .slice oa no co, .slice ya ny cy, .slice ta nt ct] #[.string x, .int .i64 z, .slice ca' nc cc', .slice sa' ns cs', .slice pa' np cp', .slice oa' no co', .slice ya' ny cy', .slice ta' nt ct']) := HX3.out.next hb
  have HA4 : Hid (PdAt w3 ⟨x, z, nc, ns, np, no, ny, nt, C, S, P, O, Y, T⟩ ⟨ca, sa, pa, oa, ya, ta, cc, cs, cp, co, cy, ct⟩) := HA3.out.below hb
  have HB4 : Hid (PdAt w3 ⟨x, z, nc, ns, np, no, ny, nt, C, S, P, O, Y, T⟩ ⟨ca', sa', pa', oa', ya', ta', cc', cs', cp', co', cy', ct'⟩) := HB3.out.below hb
  clear hb bb3 rr3 HX3 HA3 HB3
  have bb4 := HX4.out.box 6
  have rr4 := HX4.out.res 6
  simp at bb4 rr4
  go_wp2_with fail
  refine (eq_nodes ya ya' ny cy cy' Y (HN.out.2.2.2.2.1) _ (HA4.out.2.2.2.2.1) (HB4.out.2.2.2.2.1)).mono ?_
  rintro e w4 ⟨rfl, hb⟩
  have HX5 : Hid (Both w w4 #[.string x, .int .i64 z, .slice ca nc cc, .slice sa ns cs, .slice pa np cp, .slice oa no co, .slice ya ny cy, .slice ta nt ct] #[.string x, .int .i64 z, .slice ca' nc cc', .slice sa' ns cs', .slice pa' np cp', .slice oa' no co', .slice ya' ny cy', .slice ta' nt ct']) := HX4.out.next hb
  have HA5 : Hid (PdAt w4 ⟨x, z, nc, ns, np, no, ny, nt, C, S, P, O, Y, T⟩ ⟨ca, sa, pa, oa, ya, ta, cc, cs, cp, co, cy, ct⟩) := HA4.out.below hb
  have HB5 : Hid (PdAt w4 ⟨x, z, nc, ns, np, no, ny, nt, C, S, P, O, Y, T⟩ ⟨ca', sa', pa', oa', ya', ta', cc', cs', cp', co', cy', ct'⟩) := HB4.out.below hb
  clear hb bb4 rr4 HX4 HA4 HB4
  have bb5 := HX5.out.box 7
  have rr5 := HX5.out.res 7
  simp at bb5 rr5
  go_wp2_with fail
  refine (eq_nodes ta ta' nt ct ct' T (HN.out.2.2.2.2.2) _ (HA5.out.2.2.2.2.2) (HB5.out.2.2.2.2.2)).mono ?_
  rintro e w5 ⟨rfl, hb⟩
  have HX6 : Hid (Both w w5 #[.string x, .int .i64 z, .slice ca nc cc, .slice sa ns cs, .slice pa np cp, .slice oa no co, .slice ya ny cy, .slice ta nt ct] #[.string x, .int .i64 z, .slice ca' nc cc', .slice sa' ns cs', .slice pa' np cp', .slice oa' no co', .slice ya' ny cy', .slice ta' nt ct']) := HX5.out.next hb
  have HA6 : Hid (PdAt w5 ⟨x, z, nc, ns, np, no, ny, nt, C, S, P, O, Y, T⟩ ⟨ca, sa, pa, oa, ya, ta, cc, cs, cp, co, cy, ct⟩) := HA5.out.below hb
  have HB6 : Hid (PdAt w5 ⟨x, z, nc, ns, np, no, ny, nt, C, S, P, O, Y, T⟩ ⟨ca', sa', pa', oa', ya', ta', cc', cs', cp', co', cy', ct'⟩) := HB5.out.below hb
  clear hb bb5 rr5 HX5 HA5 HB5
  go_wp2_with fail
  go_ret
  exact ⟨rfl, HX6.out.bel⟩
theorem OwnR.set {w : World} {a : Option Addr} {n c b j : Nat} {F : Nat → Value} {u : Value} (h : OwnR w a n c F) (hne : ∀ k, a.map Addr.block = some k → k ≠ b) : OwnR (w.setCell ⟨b, j, none⟩ u) a n c F :=
  h.grown (setGrown (World.grownBy.refl w (some b))) (fun k hk e => hne k hk (by simpa using e))
set_option maxRecDepth 100000 in
set_option maxHeartbeats 8000000 in
theorem to_prod (d : Pd) (r : Pr) (hs : d.small) (w : World) (h : PdAt w d r) :
    Calls Tryd.prog 16 #[.agg (prodA d r)] w fun e w' => ∃ g : Gs, e = .returned (.agg (prodA d (g.r d))) ∧ g.ok w.heap.size w'.heap.size ∧ PdOwn w' d (g.r d) ∧ Below w.heap.size w w' := by
  obtain ⟨x, z, nc, ns, np, no, ny, nt, C, S, P, O, Y, T⟩ := d
  obtain ⟨ca, sa, pa, oa, ya, ta, cc, cs, cp, co, cy, ct⟩ := r
  obtain ⟨_, ⟨n0, _⟩, ⟨n1, _⟩, ⟨n2, _⟩, ⟨n3, _⟩, ⟨n4, _⟩, ⟨n5, _⟩⟩ := hs
  have HN : Hid (nc ≤ 1048576 ∧ ns ≤ 1048576 ∧ np ≤ 1048576 ∧ no ≤ 1048576 ∧ ny ≤ 1048576 ∧ nt ≤ 1048576) := ⟨n0, n1, n2, n3, n4, n5⟩
  have HAw : Hid (PdAt w ⟨x, z, nc, ns, np, no, ny, nt, C, S, P, O, Y, T⟩ ⟨ca, sa, pa, oa, ya, ta, cc, cs, cp, co, cy, ct⟩) := h
  have HT0 : Hid (Three w (((w.alloc (.cells #[.string x, .int .i64 z, .slice ca nc cc, .slice sa ns cs, .slice pa np cp, .slice oa no co, .slice ya ny cy, .slice ta nt ct] 33)).alloc (.cells #[.string ⟨#[]⟩, .int .i64 0, .slice none 0 0, .slice none 0 0, .slice none 0 0, .slice none 0 0, .slice none 0 0, .slice none 0 0] 38)).alloc (.cells #[.string x, .int .i64 z, .slice none 0 0, .slice none 0 0, .slice none 0 0, .slice none 0 0, .slice none 0 0, .slice none 0 0] 38)) #[.string x, .int .i64 z, .slice ca nc cc, .slice sa ns cs, .slice pa np cp, .slice oa no co, .slice ya ny cy, .slice ta nt ct] #[.string ⟨#[]⟩, .int .i64 0, .slice none 0 0, .slice none 0 0, .slice none 0 0, .slice none 0 0, .slice none 0 0, .slice none 0 0] #[.string x, .int .i64 z, .slice none 0 0, .slice none 0 0, .slice none 0 0, .slice none 0 0, .slice none 0 0, .slice none 0 0]) := three_new w _ _ _ _ _ _
  clear h n0 n1 n2 n3 n4 n5
  show Calls Tryd.prog 16 #[.agg #[.string x, .int .i64 z, .slice ca nc cc, .slice sa ns cs, .slice pa np cp, .slice oa no co, .slice ya ny cy, .slice ta nt ct]] w _
  go_enter Tryd.func16, Tryd.ntmps16
  have cb0 := HT0.out.box 2
  simp at cb0
  go_wp2_with fail
  refine (to_texts ca nc cc C (HN.out.1) _ ((HAw.out.below HT0.out.bel).1)).mono ?_
  rintro e w0 ⟨g0, rfl, hlo0, hO, hb⟩
  have sz0 := HT0.out.size
  have glo0 : w.heap.size + 3 ≤ g0 := by omega
  have glt0 : g0 < w0.heap.size := hO.1
  have T0 := HT0.out.next hb
  have HO0 : Hid (OwnR (w0.setCell ⟨w.heap.size + 1 + 1, 2, none⟩ (.slice (some ⟨g0, 0, none⟩) nc nc)) (some ⟨g0, 0, none⟩) nc 1 (textF C)) := OwnR.set (Or.inr ⟨g0, rfl, by rw [Nat.mul_one]; exact hO⟩) (fun k hk => by simp at hk; omega)
  have HT1 : Hid (Three w (w0.setCell ⟨w.heap.size + 1 + 1, 2, none⟩ (.slice (some ⟨g0, 0, none⟩) nc nc)) #[.string x, .int .i64 z, .slice ca nc cc, .slice sa ns cs, .slice pa np cp, .slice oa no co, .slice ya ny cy, .slice ta nt ct] #[.string ⟨#[]⟩, .int .i64 0, .slice none 0 0, .slice none 0 0, .slice none 0 0, .slice none 0 0, .slice none 0 0, .slice none 0 0] #[.string x, .int .i64 z, .slice (some ⟨g0, 0, none⟩) nc nc, .slice none 0 0, .slice none 0 0, .slice none 0 0, .slice none 0 0, .slice none 0 0]) := T0.set 2 (by simp) (.slice (some ⟨g0, 0, none⟩) nc nc)
  have po0 := T0.out 2
  have pf0 := T0.ofr 2
  simp at po0
  clear hO hb hlo0 sz0 cb0 T0 HT0
  have cb1 := HT1.out.box 3
  simp at cb1
  go_wp2_with fail
  refine (to_texts sa ns cs S (HN.out.2.1) _ ((HAw.out.below HT1.out.bel).2.1)).mono ?_
  rintro e w1 ⟨g1, rfl, hlo1, hO, hb⟩
  have sz1 := HT1.out.size
  have glo1 : w.heap.size + 3 ≤ g1 := by omega
  have glt1 : g1 < w1.heap.size := hO.1
  have gg1 : g0 < g1 := by simp at hlo1; omega
  have T1 := HT1.out.next hb
  have HO0 : Hid (OwnR (w1.setCell ⟨w.heap.size + 1 + 1, 3, none⟩ (.slice (some ⟨g1, 0, none⟩) ns ns)) (some ⟨g0, 0, none⟩) nc 1 (textF C)) := (HO0.out.below hb).set (fun k hk => by simp at hk; omega)
  have HO1 : Hid (OwnR (w1.setCell ⟨w.heap.size + 1 + 1, 3, none⟩ (.slice (some ⟨g1, 0, none⟩) ns ns)) (some ⟨g1, 0, none⟩) ns 1 (textF S)) := OwnR.set (Or.inr ⟨g1, rfl, by rw [Nat.mul_one]; exact hO⟩) (fun k hk => by simp at hk; omega)
  have HT2 : Hid (Three w (w1.setCell ⟨w.heap.size + 1 + 1, 3, none⟩ (.slice (some ⟨g1, 0, none⟩) ns ns)) #[.string x, .int .i64 z, .slice ca nc cc, .slice sa ns cs, .slice pa np cp, .slice oa no co, .slice ya ny cy, .slice ta nt ct] #[.string ⟨#[]⟩, .int .i64 0, .slice none 0 0, .slice none 0 0, .slice none 0 0, .slice none 0 0, .slice none 0 0, .slice none 0 0] #[.string x, .int .i64 z, .slice (some ⟨g0, 0, none⟩) nc nc, .slice (some ⟨g1, 0, none⟩) ns ns, .slice none 0 0, .slice none 0 0, .slice none 0 0, .slice none 0 0]) := T1.set 3 (by simp) (.slice (some ⟨g1, 0, none⟩) ns ns)
  have po1 := T1.out 3
  have pf1 := T1.ofr 3
  simp at po1
  clear hO hb hlo1 sz1 cb1 T1 HT1
  have cb2 := HT2.out.box 4
  simp at cb2
  go_wp2_with fail
  refine (to_params pa np cp P (HN.out.2.2.1) _ ((HAw.out.below HT2.out.bel).2.2.1)).mono ?_
  rintro e w2 ⟨g2, rfl, hlo2, hO, hb⟩
  have sz2 := HT2.out.size
  have glo2 : w.heap.size + 3 ≤ g2 := by omega
  have glt2 : g2 < w2.heap.size := hO.1
  have gg2 : g1 < g2 := by simp at hlo2; omega
  have T2 := HT2.out.next hb
  have HO0 : Hid (OwnR (w2.setCell ⟨w.heap.size + 1 + 1, 4, none⟩ (.slice (some ⟨g2, 0, none⟩) np np)) (some ⟨g0, 0, none⟩) nc 1 (textF C)) := (HO0.out.below hb).set (fun k hk => by simp at hk; omega)
  have HO1 : Hid (OwnR (w2.setCell ⟨w.heap.size + 1 + 1, 4, none⟩ (.slice (some ⟨g2, 0, none⟩) np np)) (some ⟨g1, 0, none⟩) ns 1 (textF S)) := (HO1.out.below hb).set (fun k hk => by simp at hk; omega)
  have HO2 : Hid (OwnR (w2.setCell ⟨w.heap.size + 1 + 1, 4, none⟩ (.slice (some ⟨g2, 0, none⟩) np np)) (some ⟨g2, 0, none⟩) np 4 (paramF P)) := OwnR.set (Or.inr ⟨g2, rfl, hO⟩) (fun k hk => by simp at hk; omega)
  have HT3 : Hid (Three w (w2.setCell ⟨w.heap.size + 1 + 1, 4, none⟩ (.slice (some ⟨g2, 0, none⟩) np np)) #[.string x, .int .i64 z, .slice ca nc cc, .slice sa ns cs, .slice pa np cp, .slice oa no co, .slice ya ny cy, .slice ta nt ct] #[.string ⟨#[]⟩, .int .i64 0, .slice none 0 0, .slice none 0 0, .slice none 0 0, .slice none 0 0, .slice none 0 0, .slice none 0 0] #[.string x, .int .i64 z, .slice (some ⟨g0, 0, none⟩) nc nc, .slice (some ⟨g1, 0, none⟩) ns ns, .slice (some ⟨g2, 0, none⟩) np np, .slice none 0 0, .slice none 0 0, .slice none 0 0]) := T2.set 4 (by simp) (.slice (some ⟨g2, 0, none⟩) np np)
  have po2 := T2.out 4
  have pf2 := T2.ofr 4
  simp at po2
  clear hO hb hlo2 sz2 cb2 T2 HT2
  have cb3 := HT3.out.box 5
  simp at cb3
  go_wp2_with fail
  refine (to_nodes oa no co O (HN.out.2.2.2.1) _ ((HAw.out.below HT3.out.bel).2.2.2.1)).mono ?_
  rintro e w3 ⟨g3, rfl, hlo3, hO, hb⟩
  have sz3 := HT3.out.size
  have glo3 : w.heap.size + 3 ≤ g3 := by omega
  have glt3 : g3 < w3.heap.size := hO.1
  have gg3 : g2 < g3 := by simp at hlo3; omega
  have T3 := HT3.out.next hb
  have HO0 : Hid (OwnR (w3.setCell ⟨w.heap.size + 1 + 1, 5, none⟩ (.slice (some ⟨g3, 0, none⟩) no no)) (some ⟨g0, 0, none⟩) nc 1 (textF C)) := (HO0.out.below hb).set (fun k hk => by simp at hk; omega)
  have HO1 : Hid (OwnR (w3.setCell ⟨w.heap.size + 1 + 1, 5, none⟩ (.slice (some ⟨g3, 0, none⟩) no no)) (some ⟨g1, 0, none⟩) ns 1 (textF S)) := (HO1.out.below hb).set (fun k hk => by simp at hk; omega)
  have HO2 : Hid (OwnR (w3.setCell ⟨w.heap.size + 1 + 1, 5, none⟩ (.slice (some ⟨g3, 0, none⟩) no no)) (some ⟨g2, 0, none⟩) np 4 (paramF P)) := (HO2.out.below hb).set (fun k hk => by simp at hk; omega)
  have HO3 : Hid (OwnR (w3.setCell ⟨w.heap.size + 1 + 1, 5, none⟩ (.slice (some ⟨g3, 0, none⟩) no no)) (some ⟨g3, 0, none⟩) no 5 (nodeF O)) := OwnR.set (Or.inr ⟨g3, rfl, hO⟩) (fun k hk => by simp at hk; omega)
  have HT4 : Hid (Three w (w3.setCell ⟨w.heap.size + 1 + 1, 5, none⟩ (.slice (some ⟨g3, 0, none⟩) no no)) #[.string x, .int .i64 z, .slice ca nc cc, .slice sa ns cs, .slice pa np cp, .slice oa no co, .slice ya ny cy, .slice ta nt ct] #[.string ⟨#[]⟩, .int .i64 0, .slice none 0 0, .slice none 0 0, .slice none 0 0, .slice none 0 0, .slice none 0 0, .slice none 0 0] #[.string x, .int .i64 z, .slice (some ⟨g0, 0, none⟩) nc nc, .slice (some ⟨g1, 0, none⟩) ns ns, .slice (some ⟨g2, 0, none⟩) np np, .slice (some ⟨g3, 0, none⟩) no no, .slice none 0 0, .slice none 0 0]) := T3.set 5 (by simp) (.slice (some ⟨g3, 0, none⟩) no no)
  have po3 := T3.out 5
  have pf3 := T3.ofr 5
  simp at po3
  clear hO hb hlo3 sz3 cb3 T3 HT3
  have cb4 := HT4.out.box 6
  simp at cb4
  go_wp2_with fail
  refine (to_nodes ya ny cy Y (HN.out.2.2.2.2.1) _ ((HAw.out.below HT4.out.bel).2.2.2.2.1)).mono ?_
  rintro e w4 ⟨g4, rfl, hlo4, hO, hb⟩
  have sz4 := HT4.out.size
  have glo4 : w.heap.size + 3 ≤ g4 := by omega
  have glt4 : g4 < w4.heap.size := hO.1
  have gg4 : g3 < g4 := by simp at hlo4; omega
  have T4 := HT4.out.next hb
  have HO0 : Hid (OwnR (w4.setCell ⟨w.heap.size + 1 + 1, 6, none⟩ (.slice (some ⟨g4, 0, none⟩) ny ny)) (some ⟨g0, 0, none⟩) nc 1 (textF C)) := (HO0.out.below hb).set (fun k hk => by simp at hk; omega)
  have HO1 : Hid (OwnR (w4.setCell ⟨w.heap.size + 1 + 1, 6, none⟩ (.slice (some ⟨g4, 0, none⟩) ny ny)) (some ⟨g1, 0, none⟩) ns 1 (textF S)) := (HO1.out.below hb).set (fun k hk => by simp at hk; omega)
  have HO2 : Hid (OwnR (w4.setCell ⟨w.heap.size + 1 + 1, 6, none⟩ (.slice (some ⟨g4, 0, none⟩) ny ny)) (some ⟨g2, 0, none⟩) np 4 (paramF P)) := (HO2.out.below hb).set (fun k hk => by simp at hk; omega)
  have HO3 : Hid (OwnR (w4.setCell ⟨w.heap.size + 1 + 1, 6, none⟩ (.slice (some ⟨g4, 0, none⟩) ny ny)) (some ⟨g3, 0, none⟩) no 5 (nodeF O)) := (HO3.out.below hb).set (fun k hk => by simp at hk; omega)
  have HO4 : Hid (OwnR (w4.setCell ⟨w.heap.size + 1 + 1, 6, none⟩ (.slice (some ⟨g4, 0, none⟩) ny ny)) (some ⟨g4, 0, none⟩) ny 5 (nodeF Y)) := OwnR.set (Or.inr ⟨g4, rfl, hO⟩) (fun k hk => by simp at hk; omega)
  have HT5 : Hid (Three w (w4.setCell ⟨w.heap.size + 1 + 1, 6, none⟩ (.slice (some ⟨g4, 0, none⟩) ny ny)) #[.string x, .int .i64 z, .slice ca nc cc, .slice sa ns cs, .slice pa np cp, .slice oa no co, .slice ya ny cy, .slice ta nt ct] #[.string ⟨#[]⟩, .int .i64 0, .slice none 0 0, .slice none 0 0, .slice none 0 0, .slice none 0 0, .slice none 0 0, .slice none 0 0] #[.string x, .int .i64 z, .slice (some ⟨g0, 0, none⟩) nc nc, .slice (some ⟨g1, 0, none⟩) ns ns, .slice (some ⟨g2, 0, none⟩) np np, .slice (some ⟨g3, 0, none⟩) no no, .slice (some ⟨g4, 0, none⟩) ny ny, .slice none 0 0]) := T4.set 6 (by simp) (.slice (some ⟨g4, 0, none⟩) ny ny)
  have po4 := T4.out 6
  have pf4 := T4.ofr 6
  simp at po4
  clear hO hb hlo4 sz4 cb4 T4 HT4
  have cb5 := HT5.out.box 7
  simp at cb5
  go_wp2_with fail
  refine (to_nodes ta nt ct T (HN.out.2.2.2.2.2) _ ((HAw.out.below HT5.out.bel).2.2.2.2.2)).mono ?_
  rintro e w5 ⟨g5, rfl, hlo5, hO, hb⟩
  have sz5 := HT5.out.size
  have glo5 : w.heap.size + 3 ≤ g5 := by omega
  have glt5 : g5 < w5.heap.size := hO.1
  have gg5 : g4 < g5 := by simp at hlo5; omega
  have T5 := HT5.out.next hb
  have HO0 : Hid (OwnR (w5.setCell ⟨w.heap.size + 1 + 1, 7, none⟩ (.slice (some ⟨g5, 0, none⟩) nt nt)) (some ⟨g0, 0, none⟩) nc 1 (textF C)) := (HO0.out.below hb).set (fun k hk => by simp at hk; omega)
  have HO1 : Hid (OwnR (w5.setCell ⟨w.heap.size + 1 + 1, 7, none⟩ (.slice (some ⟨g5, 0, none⟩) nt nt)) (some ⟨g1, 0, none⟩) ns 1 (textF S)) := (HO1.out.below hb).set (fun k hk => by simp at hk; omega)
  have HO2 : Hid (OwnR (w5.setCell ⟨w.heap.size + 1 + 1, 7, none⟩ (.slice (some ⟨g5, 0, none⟩) nt nt)) (some ⟨g2, 0, none⟩) np 4 (paramF P)) := (HO2.out.below hb).set (fun k hk => by simp at hk; omega)
  have HO3 : Hid (OwnR (w5.setCell ⟨w.heap.size + 1 + 1, 7, none⟩ (.slice (some ⟨g5, 0, none⟩) nt nt)) (some ⟨g3, 0, none⟩) no 5 (nodeF O)) := (HO3.out.below hb).set (fun k hk => by simp at hk; omega)
  have HO4 : Hid (OwnR (w5.setCell ⟨w.heap.size + 1 + 1, 7, none⟩ (.slice (some ⟨g5, 0, none⟩) nt nt)) (some ⟨g4, 0, none⟩) ny 5 (nodeF Y)) := (HO4.out.below hb).set (fun k hk => by simp at hk; omega)
  have HO5 : Hid (OwnR (w5.setCell ⟨w.heap.size + 1 + 1, 7, none⟩ (.slice (some ⟨g5, 0, none⟩) nt nt)) (some ⟨g5, 0, none⟩) nt 5 (nodeF T)) := OwnR.set (Or.inr ⟨g5, rfl, hO⟩) (fun k hk => by simp at hk; omega)
  have HT6 : Hid (Three w (w5.setCell ⟨w.heap.size + 1 + 1, 7, none⟩ (.slice (some ⟨g5, 0, none⟩) nt nt)) #[.string x, .int .i64 z, .slice ca nc cc, .slice sa ns cs, .slice pa np cp, .slice oa no co, .slice ya ny cy, .slice ta nt ct] #[.string ⟨#[]⟩, .int .i64 0, .slice none 0 0, .slice none 0 0, .slice none 0 0, .slice none 0 0, .slice none 0 0, .slice none 0 0] #[.string x, .int .i64 z, .slice (some ⟨g0, 0, none⟩) nc nc, .slice (some ⟨g1, 0, none⟩) ns ns, .slice (some ⟨g2, 0, none⟩) np np, .slice (some ⟨g3, 0, none⟩) no no, .slice (some ⟨g4, 0, none⟩) ny ny, .slice (some ⟨g5, 0, none⟩) nt nt]) := T5.set 7 (by simp) (.slice (some ⟨g5, 0, none⟩) nt nt)
  have p0 := T5.out 0
  have r0 := T5.res 0
  have p1 := T5.out 1
  have r1 := T5.res 1
  have p2 := T5.out 2
  have r2 := T5.res 2
  have p3 := T5.out 3
  have r3 := T5.res 3
  have p4 := T5.out 4
  have r4 := T5.res 4
  have p5 := T5.out 5
  have r5 := T5.res 5
  have p6 := T5.out 6
  have r6 := T5.res 6
  have p7 := T5.out 7
  have r7 := T5.res 7
  have pf := T5.ofr
  have rf := T5.rfr
  simp at p0 r0 p1 r1 p2 r2 p3 r3 p4 r4 p5 r5 p6 r6 p7 r7
  clear hO hb hlo5 sz5 cb5 T5 HT5
  go_wp2_with fail
  refine bodyPost_ret (v := .agg #[.string x, .int .i64 z, .slice (some ⟨g0, 0, none⟩) nc nc, .slice (some ⟨g1, 0, none⟩) ns ns, .slice (some ⟨g2, 0, none⟩) np np, .slice (some ⟨g3, 0, none⟩) no no, .slice (some ⟨g4, 0, none⟩) ny ny, .slice (some ⟨g5, 0, none⟩) nt nt]) ?_ rfl ⟨⟨g0, g1, g2, g3, g4, g5⟩, rfl, ⟨by show w.heap.size ≤ g0; omega, gg1, gg2, gg3, gg4, gg5, by show g5 < _; simp; omega⟩, ⟨((((((((HO0.out.set (fun k hk => by simp at hk; omega)).set (fun k hk => by simp at hk; omega)).set (fun k hk => by simp at hk; omega)).set (fun k hk => by simp at hk; omega)).set (fun k hk => by simp at hk; omega)).set (fun k hk => by simp at hk; omega)).set (fun k hk => by simp at hk; omega)).set (fun k hk => by simp at hk; omega)), ((((((((HO1.out.set (fun k hk => by simp at hk; omega)).set (fun k hk => by simp at hk; omega)).set (fun k hk => by simp at hk; omega)).set (fun k hk => by simp at hk; omega)).set (fun k hk => by simp at hk; omega)).set (fun k hk => by simp at hk; omega)).set (fun k hk => by simp at hk; omega)).set (fun k hk => by simp at hk; omega)), ((((((((HO2.out.set (fun k hk => by simp at hk; omega)).set (fun k hk => by simp at hk; omega)).set (fun k hk => by simp at hk; omega)).set (fun k hk => by simp at hk; omega)).set (fun k hk => by simp at hk; omega)).set (fun k hk => by simp at hk; omega)).set (fun k hk => by simp at hk; omega)).set (fun k hk => by simp at hk; omega)), ((((((((HO3.out.set (fun k hk => by simp at hk; omega)).set (fun k hk => by simp at hk; omega)).set (fun k hk => by simp at hk; omega)).set (fun k hk => by simp at hk; omega)).set (fun k hk => by simp at hk; omega)).set (fun k hk => by simp at hk; omega)).set (fun k hk => by simp at hk; omega)).set (fun k hk => by simp at hk; omega)), ((((((((HO4.out.set (fun k hk => by simp at hk; omega)).set (fun k hk => by simp at hk; omega)).set (fun k hk => by simp at hk; omega)).set (fun k hk => by simp at hk; omega)).set (fun k hk => by simp at hk; omega)).set (fun k hk => by simp at hk; omega)).set (fun k hk => by simp at hk; omega)).set (fun k hk => by simp at hk; omega)), ((((((((HO5.out.set (fun k hk => by simp at hk; omega)).set (fun k hk => by simp at hk; omega)).set (fun k hk => by simp at hk; omega)).set (fun k hk => by simp at hk; omega)).set (fun k hk => by simp at hk; omega)).set (fun k hk => by simp at hk; omega)).set (fun k hk => by simp at hk; omega)).set (fun k hk => by simp at hk; omega))⟩, ?_⟩
  · simp [results, Tryd.results16, go_sem, r0, r1, r2, r3, r4, r5, r6, r7]
  · have a1 : w.heap.size ≤ w.heap.size + 1 := by omega
    exact ((((((((HT6.out.bel.setCell a1 _).setCell a1 _).setCell a1 _).setCell a1 _).setCell a1 _).setCell a1 _).setCell a1 _).setCell a1 _)
end Go.Proofs.YtnefcldjigndgaaDoor
