/- Are two products the same: what the model and the program do; the law. -/
import Derived.Test.YthfjekpmaafhaaaProd
import Derived.Test.YthfjekpmaafhaaaSame
namespace Go.Proofs.Ythfjekpmaafhaaa
open Go.RowKit


noncomputable def sameP (d d' : Pd) : Bool := @decide (d.x = d'.x ∧ d.z = d'.z) (Classical.propDecidable _) && (sameL d.nc d'.nc d.C d'.C && (sameL d.ns d'.ns d.S d'.S && (sameL d.np d'.np d.P d'.P && (sameL d.no d'.no d.O d'.O && (sameL d.ny d'.ny d.Y d'.Y && (sameL d.nt d'.nt d.T d'.T))))))
theorem sameP_x {d d' : Pd} (h : ¬ d.x = d'.x) : sameP d d' = false := by
  unfold sameP; rw [@decide_eq_false _ (Classical.propDecidable _) (fun q => h q.1)]; rfl
theorem sameP_z {d d' : Pd} (h : ¬ d.z = d'.z) : sameP d d' = false := by
  unfold sameP; rw [@decide_eq_false _ (Classical.propDecidable _) (fun q => h q.2)]; rfl
theorem sameP_l {d d' : Pd} (hx : d.x = d'.x) (hz : d.z = d'.z) (b0 : Bool) (b1 : Bool) (b2 : Bool) (b3 : Bool) (b4 : Bool) (b5 : Bool) (e0 : sameL d.nc d'.nc d.C d'.C = b0) (e1 : sameL d.ns d'.ns d.S d'.S = b1) (e2 : sameL d.np d'.np d.P d'.P = b2) (e3 : sameL d.no d'.no d.O d'.O = b3) (e4 : sameL d.ny d'.ny d.Y d'.Y = b4) (e5 : sameL d.nt d'.nt d.T d'.T = b5) : sameP d d' = (b0 && (b1 && (b2 && (b3 && (b4 && b5))))) := by
  unfold sameP; rw [@decide_eq_true _ (Classical.propDecidable _) ⟨hx, hz⟩, e0, e1, e2, e3, e4, e5]; rfl
set_option maxRecDepth 100000 in
set_option maxHeartbeats 16000000 in
theorem impl_same (d d' : Pd) (r r' : Pr) (hs : d.small) (hs' : d'.small) (w : World) (h : PdAt w d r) (h' : PdAt w d' r') :
    Calls Try.prog 11 #[.agg (prodA d r), .agg (prodA d' r')] w fun e w' => e = .returned (.bool (sameP d d')) ∧ Below w.heap.size w w' := by
  obtain ⟨x, z, nc, ns, np, no, ny, nt, C, S, P, O, Y, T⟩ := d
  obtain ⟨ca, sa, pa, oa, ya, ta, cc, cs, cp, co, cy, ct⟩ := r
  obtain ⟨x', z', nc', ns', np', no', ny', nt', C', S', P', O', Y', T'⟩ := d'
  obtain ⟨ca', sa', pa', oa', ya', ta', cc', cs', cp', co', cy', ct'⟩ := r'
  obtain ⟨_, ⟨n0, _⟩, ⟨n1, _⟩, ⟨n2, _⟩, ⟨n3, _⟩, ⟨n4, _⟩, ⟨n5, _⟩⟩ := hs
  obtain ⟨_, ⟨m0, _⟩, ⟨m1, _⟩, ⟨m2, _⟩, ⟨m3, _⟩, ⟨m4, _⟩, ⟨m5, _⟩⟩ := hs'
  have hxx : ∀ x : List UInt8, (x == x) = true := fun x => by simp
  have hii : ∀ x : Int, (x != x) = false := fun x => by simp
  have s0 : w.heap.size ≤ (w.alloc (.cells #[.string x, .int .i64 z, .slice ca nc cc, .slice sa ns cs, .slice pa np cp, .slice oa no co, .slice ya ny cy, .slice ta nt ct] 33)).heap.size := by simp
  have HBN : Hid (Below w.heap.size w ((w.alloc (.cells #[.string x, .int .i64 z, .slice ca nc cc, .slice sa ns cs, .slice pa np cp, .slice oa no co, .slice ya ny cy, .slice ta nt ct] 33)).alloc (.cells #[.string x', .int .i64 z', .slice ca' nc' cc', .slice sa' ns' cs', .slice pa' np' cp', .slice oa' no' co', .slice ya' ny' cy', .slice ta' nt' ct'] 33))) := ((Below.refl _ _).alloc (Nat.le_refl _) _).alloc s0 _
  have HA0 : Hid (PdAt ((w.alloc (.cells #[.string x, .int .i64 z, .slice ca nc cc, .slice sa ns cs, .slice pa np cp, .slice oa no co, .slice ya ny cy, .slice ta nt ct] 33)).alloc (.cells #[.string x', .int .i64 z', .slice ca' nc' cc', .slice sa' ns' cs', .slice pa' np' cp', .slice oa' no' co', .slice ya' ny' cy', .slice ta' nt' ct'] 33)) ⟨x, z, nc, ns, np, no, ny, nt, C, S, P, O, Y, T⟩ ⟨ca, sa, pa, oa, ya, ta, cc, cs, cp, co, cy, ct⟩) := h.below HBN.out
  have HB0 : Hid (PdAt ((w.alloc (.cells #[.string x, .int .i64 z, .slice ca nc cc, .slice sa ns cs, .slice pa np cp, .slice oa no co, .slice ya ny cy, .slice ta nt ct] 33)).alloc (.cells #[.string x', .int .i64 z', .slice ca' nc' cc', .slice sa' ns' cs', .slice pa' np' cp', .slice oa' no' co', .slice ya' ny' cy', .slice ta' nt' ct'] 33)) ⟨x', z', nc', ns', np', no', ny', nt', C', S', P', O', Y', T'⟩ ⟨ca', sa', pa', oa', ya', ta', cc', cs', cp', co', cy', ct'⟩) := h'.below HBN.out
  have HX0 : Hid (Both w ((w.alloc (.cells #[.string x, .int .i64 z, .slice ca nc cc, .slice sa ns cs, .slice pa np cp, .slice oa no co, .slice ya ny cy, .slice ta nt ct] 33)).alloc (.cells #[.string x', .int .i64 z', .slice ca' nc' cc', .slice sa' ns' cs', .slice pa' np' cp', .slice oa' no' co', .slice ya' ny' cy', .slice ta' nt' ct'] 33)) #[.string x, .int .i64 z, .slice ca nc cc, .slice sa ns cs, .slice pa np cp, .slice oa no co, .slice ya ny cy, .slice ta nt ct] #[.string x', .int .i64 z', .slice ca' nc' cc', .slice sa' ns' cs', .slice pa' np' cp', .slice oa' no' co', .slice ya' ny' cy', .slice ta' nt' ct']) := two_now w _ _ _ _
  have HN : Hid ((nc ≤ 1048576 ∧ nc' ≤ 1048576) ∧ (ns ≤ 1048576 ∧ ns' ≤ 1048576) ∧ (np ≤ 1048576 ∧ np' ≤ 1048576) ∧ (no ≤ 1048576 ∧ no' ≤ 1048576) ∧ (ny ≤ 1048576 ∧ ny' ≤ 1048576) ∧ (nt ≤ 1048576 ∧ nt' ≤ 1048576)) := ⟨⟨n0, m0⟩, ⟨n1, m1⟩, ⟨n2, m2⟩, ⟨n3, m3⟩, ⟨n4, m4⟩, ⟨n5, m5⟩⟩
  clear h h' s0 HBN n0 m0 n1 m1 n2 m2 n3 m3 n4 m4 n5 m5
  show Calls Try.prog 11 #[.agg #[.string x, .int .i64 z, .slice ca nc cc, .slice sa ns cs, .slice pa np cp, .slice oa no co, .slice ya ny cy, .slice ta nt ct], .agg #[.string x', .int .i64 z', .slice ca' nc' cc', .slice sa' ns' cs', .slice pa' np' cp', .slice oa' no' co', .slice ya' ny' cy', .slice ta' nt' ct']] w _
  by_cases hx : x = x'
  rotate_left
  · have t0 : (x.toList == x'.toList) = false := ne_str' hx
    have HF : Hid (sameP ⟨x, z, nc, ns, np, no, ny, nt, C, S, P, O, Y, T⟩ ⟨x', z', nc', ns', np', no', ny', nt', C', S', P', O', Y', T'⟩ = false) := sameP_x hx
    clear hx
    go_enter Try.func11, Try.ntmps11
    go_wp2_with fail
    go_ret
    exact ⟨ret_bool HF.out.symm, HX0.out.bel⟩
  by_cases hz : z = z'
  rotate_left
  · have t1 : (z != z') = true := by rw [bne_iff_ne]; exact hz
    have HF : Hid (sameP ⟨x, z, nc, ns, np, no, ny, nt, C, S, P, O, Y, T⟩ ⟨x', z', nc', ns', np', no', ny', nt', C', S', P', O', Y', T'⟩ = false) := sameP_z hz
    subst hx
    clear hz
    go_enter Try.func11, Try.ntmps11
    go_wp2_with fail
    go_ret
    exact ⟨ret_bool HF.out.symm, HX0.out.bel⟩
  subst hx hz
  have HE : Hid (∀ b0 b1 b2 b3 b4 b5, sameL nc nc' C C' = b0 → sameL ns ns' S S' = b1 → sameL np np' P P' = b2 → sameL no no' O O' = b3 → sameL ny ny' Y Y' = b4 → sameL nt nt' T T' = b5 → sameP ⟨x, z, nc, ns, np, no, ny, nt, C, S, P, O, Y, T⟩ ⟨x, z, nc', ns', np', no', ny', nt', C', S', P', O', Y', T'⟩ = (b0 && (b1 && (b2 && (b3 && (b4 && b5)))))) := fun b0 b1 b2 b3 b4 b5 e0 e1 e2 e3 e4 e5 => sameP_l (d := ⟨x, z, nc, ns, np, no, ny, nt, C, S, P, O, Y, T⟩) (d' := ⟨x, z, nc', ns', np', no', ny', nt', C', S', P', O', Y', T'⟩) rfl rfl b0 b1 b2 b3 b4 b5 e0 e1 e2 e3 e4 e5
  go_enter Try.func11, Try.ntmps11
  have bb0 := HX0.out.box 2
  have rr0 := HX0.out.res 2
  simp at bb0 rr0
  obtain ⟨B0, hE0⟩ : ∃ B, sameL nc nc' C C' = B := ⟨_, rfl⟩
  have HC0 := fun W h h' => impl_sameT ca ca' nc nc' cc cc' C C' (HN.out.1.1) (HN.out.1.2) W h h'
  rw [hE0] at HC0
  have HC0 : Hid (∀ W, _) := HC0
  have HE0 : Hid (sameL nc nc' C C' = B0) := hE0
  clear hE0
  go_wp2_with fail
  refine (HC0.out _ (HA0.out.1) (HB0.out.1)).mono ?_
  rintro e w0 ⟨rfl, hb⟩
  have HX1 : Hid (Both w w0 #[.string x, .int .i64 z, .slice ca nc cc, .slice sa ns cs, .slice pa np cp, .slice oa no co, .slice ya ny cy, .slice ta nt ct] #[.string x, .int .i64 z, .slice ca' nc' cc', .slice sa' ns' cs', .slice pa' np' cp', .slice oa' no' co', .slice ya' ny' cy', .slice ta' nt' ct']) := HX0.out.next hb
  have HA1 : Hid (PdAt w0 ⟨x, z, nc, ns, np, no, ny, nt, C, S, P, O, Y, T⟩ ⟨ca, sa, pa, oa, ya, ta, cc, cs, cp, co, cy, ct⟩) := HA0.out.below hb
  have HB1 : Hid (PdAt w0 ⟨x, z, nc', ns', np', no', ny', nt', C', S', P', O', Y', T'⟩ ⟨ca', sa', pa', oa', ya', ta', cc', cs', cp', co', cy', ct'⟩) := HB0.out.below hb
  clear hb bb0 rr0 HX0 HA0 HB0 HC0
  cases B0
  · have HF := HE.out false _ _ _ _ _ HE0.out rfl rfl rfl rfl rfl
    have HF : Hid (_ = _) := HF
    go_wp2_with fail
    go_ret
    exact ⟨ret_bool HF.out.symm, HX1.out.bel⟩
  have bb1 := HX1.out.box 3
  have rr1 := HX1.out.res 3
  simp at bb1 rr1
  obtain ⟨B1, hE1⟩ : ∃ B, sameL ns ns' S S' = B := ⟨_, rfl⟩
  have HC1 := fun W h h' => impl_sameT sa sa' ns ns' cs cs' S S' (HN.out.2.1.1) (HN.out.2.1.2) W h h'
  rw [hE1] at HC1
  have HC1 : Hid (∀ W, _) := HC1
  have HE1 : Hid (sameL ns ns' S S' = B1) := hE1
  clear hE1
  go_wp2_with fail
  refine (HC1.out _ (HA1.out.2.1) (HB1.out.2.1)).mono ?_
  rintro e w1 ⟨rfl, hb⟩
  have HX2 : Hid (Both w w1 #[.string x, .int .i64 z, .slice ca nc cc, .slice sa ns cs, .slice pa np cp, .slice oa no co, .slice ya ny cy, .slice ta nt ct] #[.string x, .int .i64 z, .slice ca' nc' cc', .slice sa' ns' cs', .slice pa' np' cp', .slice oa' no' co', .slice ya' ny' cy', .slice ta' nt' ct']) := HX1.out.next hb
  have HA2 : Hid (PdAt w1 ⟨x, z, nc, ns, np, no, ny, nt, C, S, P, O, Y, T⟩ ⟨ca, sa, pa, oa, ya, ta, cc, cs, cp, co, cy, ct⟩) := HA1.out.below hb
  have HB2 : Hid (PdAt w1 ⟨x, z, nc', ns', np', no', ny', nt', C', S', P', O', Y', T'⟩ ⟨ca', sa', pa', oa', ya', ta', cc', cs', cp', co', cy', ct'⟩) := HB1.out.below hb
  clear hb bb1 rr1 HX1 HA1 HB1 HC1
  cases B1
  · have HF := HE.out true false _ _ _ _ HE0.out HE1.out rfl rfl rfl rfl
    have HF : Hid (_ = _) := HF
    go_wp2_with fail
    go_ret
    exact ⟨ret_bool HF.out.symm, HX2.out.bel⟩
  have bb2 := HX2.out.box 4
  have rr2 := HX2.out.res 4
  simp at bb2 rr2
  obtain ⟨B2, hE2⟩ : ∃ B, sameL np np' P P' = B := ⟨_, rfl⟩
  have HC2 := fun W h h' => impl_sameP pa pa' np np' cp cp' P P' (HN.out.2.2.1.1) (HN.out.2.2.1.2) W h h'
  rw [hE2] at HC2
  have HC2 : Hid (∀ W, _) := HC2
  have HE2 : Hid (sameL np np' P P' = B2) := hE2
  clear hE2
  go_wp2_with fail
  refine (HC2.out _ (HA2.out.2.2.1) (HB2.out.2.2.1)).mono ?_
  rintro e w2 ⟨rfl, hb⟩
  have HX3 : Hid (Both w w2 #[.string x, .int .i64 z, .slice ca nc cc, .slice sa ns cs, .slice pa np cp, .slice oa no co, .slice ya ny cy, .slice ta nt ct] #[.string x, .int .i64 z, .slice ca' nc' cc', .slice sa' ns' cs', .slice pa' np' cp', .slice oa' no' co', .slice ya' ny' cy', .slice ta' nt' ct']) := HX2.out.next hb
  have HA3 : Hid (PdAt w2 ⟨x, z, nc, ns, np, no, ny, nt, C, S, P, O, Y, T⟩ ⟨ca, sa, pa, oa, ya, ta, cc, cs, cp, co, cy, ct⟩) := HA2.out.below hb
  have HB3 : Hid (PdAt w2 ⟨x, z, nc', ns', np', no', ny', nt', C', S', P', O', Y', T'⟩ ⟨ca', sa', pa', oa', ya', ta', cc', cs', cp', co', cy', ct'⟩) := HB2.out.below hb
  clear hb bb2 rr2 HX2 HA2 HB2 HC2
  cases B2
  · have HF := HE.out true true false _ _ _ HE0.out HE1.out HE2.out rfl rfl rfl
    have HF : Hid (_ = _) := HF
    go_wp2_with fail
    go_ret
    exact ⟨ret_bool HF.out.symm, HX3.out.bel⟩
  have bb3 := HX3.out.box 5
  have rr3 := HX3.out.res 5
  simp at bb3 rr3
  obtain ⟨B3, hE3⟩ : ∃ B, sameL no no' O O' = B := ⟨_, rfl⟩
  have HC3 := fun W h h' => impl_sameN oa oa' no no' co co' O O' (HN.out.2.2.2.1.1) (HN.out.2.2.2.1.2) W h h'
  rw [hE3] at HC3
  have HC3 : Hid (∀ W, _) := HC3
  have HE3 : Hid (sameL no no' O O' = B3) := hE3
  clear hE3
  go_wp2_with fail
  refine (HC3.out _ (HA3.out.2.2.2.1) (HB3.out.2.2.2.1)).mono ?_
  rintro e w3 ⟨rfl, hb⟩
  have HX4 : Hid (Both w w3 #[.string x, .int .i64 z, .slice ca nc cc, .slice sa ns cs, .slice pa np cp, .slice oa no co, .slice ya ny cy, .slice ta nt ct] #[.string x, .int .i64 z, .slice ca' nc' cc', .slice sa' ns' cs', .slice pa' np' cp', .slice oa' no' co', .slice ya' ny' cy', .slice ta' nt' ct']) := HX3.out.next hb
  have HA4 : Hid (PdAt w3 ⟨x, z, nc, ns, np, no, ny, nt, C, S, P, O, Y, T⟩ ⟨ca, sa, pa, oa, ya, ta, cc, cs, cp, co, cy, ct⟩) := HA3.out.below hb
  have HB4 : Hid (PdAt w3 ⟨x, z, nc', ns', np', no', ny', nt', C', S', P', O', Y', T'⟩ ⟨ca', sa', pa', oa', ya', ta', cc', cs', cp', co', cy', ct'⟩) := HB3.out.below hb
  clear hb bb3 rr3 HX3 HA3 HB3 HC3
  cases B3
  · have HF := HE.out true true true false _ _ HE0.out HE1.out HE2.out HE3.out rfl rfl
    have HF : Hid (_ = _) := HF
    go_wp2_with fail
    go_ret
    exact ⟨ret_bool HF.out.symm, HX4.out.bel⟩
  have bb4 := HX4.out.box 6
  have rr4 := HX4.out.res 6
  simp at bb4 rr4
  obtain ⟨B4, hE4⟩ : ∃ B, sameL ny ny' Y Y' = B := ⟨_, rfl⟩
  have HC4 := fun W h h' => impl_sameN ya ya' ny ny' cy cy' Y Y' (HN.out.2.2.2.2.1.1) (HN.out.2.2.2.2.1.2) W h h'
  rw [hE4] at HC4
  have HC4 : Hid (∀ W, _) := HC4
  have HE4 : Hid (sameL ny ny' Y Y' = B4) := hE4
  clear hE4
  go_wp2_with fail
  refine (HC4.out _ (HA4.out.2.2.2.2.1) (HB4.out.2.2.2.2.1)).mono ?_
  rintro e w4 ⟨rfl, hb⟩
  have HX5 : Hid (Both w w4 #[.string x, .int .i64 z, .slice ca nc cc, .slice sa ns cs, .slice pa np cp, .slice oa no co, .slice ya ny cy, .slice ta nt ct] #[.string x, .int .i64 z, .slice ca' nc' cc', .slice sa' ns' cs', .slice pa' np' cp', .slice oa' no' co', .slice ya' ny' cy', .slice ta' nt' ct']) := HX4.out.next hb
  have HA5 : Hid (PdAt w4 ⟨x, z, nc, ns, np, no, ny, nt, C, S, P, O, Y, T⟩ ⟨ca, sa, pa, oa, ya, ta, cc, cs, cp, co, cy, ct⟩) := HA4.out.below hb
  have HB5 : Hid (PdAt w4 ⟨x, z, nc', ns', np', no', ny', nt', C', S', P', O', Y', T'⟩ ⟨ca', sa', pa', oa', ya', ta', cc', cs', cp', co', cy', ct'⟩) := HB4.out.below hb
  clear hb bb4 rr4 HX4 HA4 HB4 HC4
  cases B4
  · have HF := HE.out true true true true false _ HE0.out HE1.out HE2.out HE3.out HE4.out rfl
    have HF : Hid (_ = _) := HF
    go_wp2_with fail
    go_ret
    exact ⟨ret_bool HF.out.symm, HX5.out.bel⟩
  have bb5 := HX5.out.box 7
  have rr5 := HX5.out.res 7
  simp at bb5 rr5
  obtain ⟨B5, hE5⟩ : ∃ B, sameL nt nt' T T' = B := ⟨_, rfl⟩
  have HC5 := fun W h h' => impl_sameN ta ta' nt nt' ct ct' T T' (HN.out.2.2.2.2.2.1) (HN.out.2.2.2.2.2.2) W h h'
  rw [hE5] at HC5
  have HC5 : Hid (∀ W, _) := HC5
  have HE5 : Hid (sameL nt nt' T T' = B5) := hE5
  clear hE5
  go_wp2_with fail
  refine (HC5.out _ (HA5.out.2.2.2.2.2) (HB5.out.2.2.2.2.2)).mono ?_
  rintro e w5 ⟨rfl, hb⟩
  have HX6 : Hid (Both w w5 #[.string x, .int .i64 z, .slice ca nc cc, .slice sa ns cs, .slice pa np cp, .slice oa no co, .slice ya ny cy, .slice ta nt ct] #[.string x, .int .i64 z, .slice ca' nc' cc', .slice sa' ns' cs', .slice pa' np' cp', .slice oa' no' co', .slice ya' ny' cy', .slice ta' nt' ct']) := HX5.out.next hb
  have HA6 : Hid (PdAt w5 ⟨x, z, nc, ns, np, no, ny, nt, C, S, P, O, Y, T⟩ ⟨ca, sa, pa, oa, ya, ta, cc, cs, cp, co, cy, ct⟩) := HA5.out.below hb
  have HB6 : Hid (PdAt w5 ⟨x, z, nc', ns', np', no', ny', nt', C', S', P', O', Y', T'⟩ ⟨ca', sa', pa', oa', ya', ta', cc', cs', cp', co', cy', ct'⟩) := HB5.out.below hb
  clear hb bb5 rr5 HX5 HA5 HB5 HC5
  cases B5
  · have HF := HE.out true true true true true false HE0.out HE1.out HE2.out HE3.out HE4.out HE5.out
    have HF : Hid (_ = _) := HF
    go_wp2_with fail
    go_ret
    exact ⟨ret_bool HF.out.symm, HX6.out.bel⟩
  have HF := HE.out true true true true true true HE0.out HE1.out HE2.out HE3.out HE4.out HE5.out
  have HF : Hid (_ = _) := HF
  go_wp2_with fail
  go_ret
  exact ⟨ret_bool HF.out.symm, HX6.out.bel⟩
set_option maxRecDepth 100000 in
set_option maxHeartbeats 16000000 in
theorem spec_same (d d' : Pd) (r r' : Pr) (hs : d.small) (hs' : d'.small) (w : World) (h : PdAt w d r) (h' : PdAt w d' r') :
    Calls Try.prog 9 #[.agg (prodA d r), .agg (prodA d' r')] w fun e w' => e = .returned (.bool (sameP d d')) ∧ Below w.heap.size w w' := by
  obtain ⟨x, z, nc, ns, np, no, ny, nt, C, S, P, O, Y, T⟩ := d
  obtain ⟨ca, sa, pa, oa, ya, ta, cc, cs, cp, co, cy, ct⟩ := r
  obtain ⟨x', z', nc', ns', np', no', ny', nt', C', S', P', O', Y', T'⟩ := d'
  obtain ⟨ca', sa', pa', oa', ya', ta', cc', cs', cp', co', cy', ct'⟩ := r'
  obtain ⟨_, ⟨n0, _⟩, ⟨n1, _⟩, ⟨n2, _⟩, ⟨n3, _⟩, ⟨n4, _⟩, ⟨n5, _⟩⟩ := hs
  obtain ⟨_, ⟨m0, _⟩, ⟨m1, _⟩, ⟨m2, _⟩, ⟨m3, _⟩, ⟨m4, _⟩, ⟨m5, _⟩⟩ := hs'
  have hxx : ∀ x : List UInt8, (x == x) = true := fun x => by simp
  have hii : ∀ x : Int, (x != x) = false := fun x => by simp
  have s0 : w.heap.size ≤ (w.alloc (.cells #[.string x, .int .i64 z, .slice ca nc cc, .slice sa ns cs, .slice pa np cp, .slice oa no co, .slice ya ny cy, .slice ta nt ct] 33)).heap.size := by simp
  have HBN : Hid (Below w.heap.size w ((w.alloc (.cells #[.string x, .int .i64 z, .slice ca nc cc, .slice sa ns cs, .slice pa np cp, .slice oa no co, .slice ya ny cy, .slice ta nt ct] 33)).alloc (.cells #[.string x', .int .i64 z', .slice ca' nc' cc', .slice sa' ns' cs', .slice pa' np' cp', .slice oa' no' co', .slice ya' ny' cy', .slice ta' nt' ct'] 33))) := ((Below.refl _ _).alloc (Nat.le_refl _) _).alloc s0 _
  have HA0 : Hid (PdAt ((w.alloc (.cells #[.string x, .int .i64 z, .slice ca nc cc, .slice sa ns cs, .slice pa np cp, .slice oa no co, .slice ya ny cy, .slice ta nt ct] 33)).alloc (.cells #[.string x', .int .i64 z', .slice ca' nc' cc', .slice sa' ns' cs', .slice pa' np' cp', .slice oa' no' co', .slice ya' ny' cy', .slice ta' nt' ct'] 33)) ⟨x, z, nc, ns, np, no, ny, nt, C, S, P, O, Y, T⟩ ⟨ca, sa, pa, oa, ya, ta, cc, cs, cp, co, cy, ct⟩) := h.below HBN.out
  have HB0 : Hid (PdAt ((w.alloc (.cells #[.string x, .int .i64 z, .slice ca nc cc, .slice sa ns cs, .slice pa np cp, .slice oa no co, .slice ya ny cy, .slice ta nt ct] 33)).alloc (.cells #[.string x', .int .i64 z', .slice ca' nc' cc', .slice sa' ns' cs', .slice pa' np' cp', .slice oa' no' co', .slice ya' ny' cy', .slice ta' nt' ct'] 33)) ⟨x', z', nc', ns', np', no', ny', nt', C', S', P', O', Y', T'⟩ ⟨ca', sa', pa', oa', ya', ta', cc', cs', cp', co', cy', ct'⟩) := h'.below HBN.out
  have HX0 : Hid (Both w ((w.alloc (.cells #[.string x, .int .i64 z, .slice ca nc cc, .slice sa ns cs, .slice pa np cp, .slice oa no co, .slice ya ny cy, .slice ta nt ct] 33)).alloc (.cells #[.string x', .int .i64 z', .slice ca' nc' cc', .slice sa' ns' cs', .slice pa' np' cp', .slice oa' no' co', .slice ya' ny' cy', .slice ta' nt' ct'] 33)) #[.string x, .int .i64 z, .slice ca nc cc, .slice sa ns cs, .slice pa np cp, .slice oa no co, .slice ya ny cy, .slice ta nt ct] #[.string x', .int .i64 z', .slice ca' nc' cc', .slice sa' ns' cs', .slice pa' np' cp', .slice oa' no' co', .slice ya' ny' cy', .slice ta' nt' ct']) := two_now w _ _ _ _
  have HN : Hid ((nc ≤ 1048576 ∧ nc' ≤ 1048576) ∧ (ns ≤ 1048576 ∧ ns' ≤ 1048576) ∧ (np ≤ 1048576 ∧ np' ≤ 1048576) ∧ (no ≤ 1048576 ∧ no' ≤ 1048576) ∧ (ny ≤ 1048576 ∧ ny' ≤ 1048576) ∧ (nt ≤ 1048576 ∧ nt' ≤ 1048576)) := ⟨⟨n0, m0⟩, ⟨n1, m1⟩, ⟨n2, m2⟩, ⟨n3, m3⟩, ⟨n4, m4⟩, ⟨n5, m5⟩⟩
  clear h h' s0 HBN n0 m0 n1 m1 n2 m2 n3 m3 n4 m4 n5 m5
  show Calls Try.prog 9 #[.agg #[.string x, .int .i64 z, .slice ca nc cc, .slice sa ns cs, .slice pa np cp, .slice oa no co, .slice ya ny cy, .slice ta nt ct], .agg #[.string x', .int .i64 z', .slice ca' nc' cc', .slice sa' ns' cs', .slice pa' np' cp', .slice oa' no' co', .slice ya' ny' cy', .slice ta' nt' ct']] w _
  by_cases hx : x = x'
  rotate_left
  · have t0 : (x.toList == x'.toList) = false := ne_str' hx
    have HF : Hid (sameP ⟨x, z, nc, ns, np, no, ny, nt, C, S, P, O, Y, T⟩ ⟨x', z', nc', ns', np', no', ny', nt', C', S', P', O', Y', T'⟩ = false) := sameP_x hx
    clear hx
    go_enter Try.func9, Try.ntmps9
    go_wp2_with fail
    go_ret
    exact ⟨ret_bool HF.out.symm, HX0.out.bel⟩
  by_cases hz : z = z'
  rotate_left
  · have t1 : (z != z') = true := by rw [bne_iff_ne]; exact hz
    have HF : Hid (sameP ⟨x, z, nc, ns, np, no, ny, nt, C, S, P, O, Y, T⟩ ⟨x', z', nc', ns', np', no', ny', nt', C', S', P', O', Y', T'⟩ = false) := sameP_z hz
    subst hx
    clear hz
    go_enter Try.func9, Try.ntmps9
    go_wp2_with fail
    go_ret
    exact ⟨ret_bool HF.out.symm, HX0.out.bel⟩
  subst hx hz
  have HE : Hid (∀ b0 b1 b2 b3 b4 b5, sameL nc nc' C C' = b0 → sameL ns ns' S S' = b1 → sameL np np' P P' = b2 → sameL no no' O O' = b3 → sameL ny ny' Y Y' = b4 → sameL nt nt' T T' = b5 → sameP ⟨x, z, nc, ns, np, no, ny, nt, C, S, P, O, Y, T⟩ ⟨x, z, nc', ns', np', no', ny', nt', C', S', P', O', Y', T'⟩ = (b0 && (b1 && (b2 && (b3 && (b4 && b5)))))) := fun b0 b1 b2 b3 b4 b5 e0 e1 e2 e3 e4 e5 => sameP_l (d := ⟨x, z, nc, ns, np, no, ny, nt, C, S, P, O, Y, T⟩) (d' := ⟨x, z, nc', ns', np', no', ny', nt', C', S', P', O', Y', T'⟩) rfl rfl b0 b1 b2 b3 b4 b5 e0 e1 e2 e3 e4 e5
  go_enter Try.func9, Try.ntmps9
  have bb0 := HX0.out.box 2
  have rr0 := HX0.out.res 2
  simp at bb0 rr0
  obtain ⟨B0, hE0⟩ : ∃ B, sameL nc nc' C C' = B := ⟨_, rfl⟩
  have HC0 := fun W h h' => spec_sameT ca ca' nc nc' cc cc' C C' (HN.out.1.1) (HN.out.1.2) W h h'
  rw [hE0] at HC0
  have HC0 : Hid (∀ W, _) := HC0
  have HE0 : Hid (sameL nc nc' C C' = B0) := hE0
  clear hE0
  go_wp2_with fail
  refine (HC0.out _ (HA0.out.1) (HB0.out.1)).mono ?_
  rintro e w0 ⟨rfl, hb⟩
  have HX1 : Hid (Both w w0 #[.string x, .int .i64 z, .slice ca nc cc, .slice sa ns cs, .slice pa np cp, .slice oa no co, .slice ya ny cy, .slice ta nt ct] #[.string x, .int .i64 z, .slice ca' nc' cc', .slice sa' ns' cs', .slice pa' np' cp', .slice oa' no' co', .slice ya' ny' cy', .slice ta' nt' ct']) := HX0.out.next hb
  have HA1 : Hid (PdAt w0 ⟨x, z, nc, ns, np, no, ny, nt, C, S, P, O, Y, T⟩ ⟨ca, sa, pa, oa, ya, ta, cc, cs, cp, co, cy, ct⟩) := HA0.out.below hb
  have HB1 : Hid (PdAt w0 ⟨x, z, nc', ns', np', no', ny', nt', C', S', P', O', Y', T'⟩ ⟨ca', sa', pa', oa', ya', ta', cc', cs', cp', co', cy', ct'⟩) := HB0.out.below hb
  clear hb bb0 rr0 HX0 HA0 HB0 HC0
  cases B0
  · have HF := HE.out false _ _ _ _ _ HE0.out rfl rfl rfl rfl rfl
    have HF : Hid (_ = _) := HF
    go_wp2_with fail
    go_ret
    exact ⟨ret_bool HF.out.symm, HX1.out.bel⟩
  have bb1 := HX1.out.box 3
  have rr1 := HX1.out.res 3
  simp at bb1 rr1
  obtain ⟨B1, hE1⟩ : ∃ B, sameL ns ns' S S' = B := ⟨_, rfl⟩
  have HC1 := fun W h h' => spec_sameT sa sa' ns ns' cs cs' S S' (HN.out.2.1.1) (HN.out.2.1.2) W h h'
  rw [hE1] at HC1
  have HC1 : Hid (∀ W, _) := HC1
  have HE1 : Hid (sameL ns ns' S S' = B1) := hE1
  clear hE1
  go_wp2_with fail
  refine (HC1.out _ (HA1.out.2.1) (HB1.out.2.1)).mono ?_
  rintro e w1 ⟨rfl, hb⟩
  have HX2 : Hid (Both w w1 #[.string x, .int .i64 z, .slice ca nc cc, .slice sa ns cs, .slice pa np cp, .slice oa no co, .slice ya ny cy, .slice ta nt ct] #[.string x, .int .i64 z, .slice ca' nc' cc', .slice sa' ns' cs', .slice pa' np' cp', .slice oa' no' co', .slice ya' ny' cy', .slice ta' nt' ct']) := HX1.out.next hb
  have HA2 : Hid (PdAt w1 ⟨x, z, nc, ns, np, no, ny, nt, C, S, P, O, Y, T⟩ ⟨ca, sa, pa, oa, ya, ta, cc, cs, cp, co, cy, ct⟩) := HA1.out.below hb
  have HB2 : Hid (PdAt w1 ⟨x, z, nc', ns', np', no', ny', nt', C', S', P', O', Y', T'⟩ ⟨ca', sa', pa', oa', ya', ta', cc', cs', cp', co', cy', ct'⟩) := HB1.out.below hb
  clear hb bb1 rr1 HX1 HA1 HB1 HC1
  cases B1
  · have HF := HE.out true false _ _ _ _ HE0.out HE1.out rfl rfl rfl rfl
    have HF : Hid (_ = _) := HF
    go_wp2_with fail
    go_ret
    exact ⟨ret_bool HF.out.symm, HX2.out.bel⟩
  have bb2 := HX2.out.box 4
  have rr2 := HX2.out.res 4
  simp at bb2 rr2
  by_cases hnm : np = np'
  rotate_left
  · have q0 : ((np : Int) != (np' : Int)) = true := by rw [bne_iff_ne]; have := HN.out.2.2.1; omega
    have HF := HE.out true true false _ _ _ HE0.out HE1.out (sameL_len hnm) rfl rfl rfl
    have HF : Hid (_ = _) := HF
    clear hnm
    have p1 := HN.out.2.2.1.1
    have p2 := HN.out.2.2.1.2
    go_wp2_with fail
    go_ret
    exact ⟨ret_bool HF.out.symm, HX2.out.bel⟩
  subst hnm
  have hpn : np ≤ 1048576 := HN.out.2.2.1.1
  go_upto_region 3 with fail
  clear bb2 rr2
  obtain ⟨W0, hW0⟩ : ∃ W, W = w1 := ⟨_, rfl⟩
  go_wp2_with fail
  go_loopw [5] (fun i wr => ∃ k : Nat, i = .int .i64 k ∧ k ≤ np ∧ Hid (∀ j, j < k → P j = P' j) ∧ Hid (Both w wr #[.string x, .int .i64 z, .slice ca nc cc, .slice sa ns cs, .slice pa np cp, .slice oa no co, .slice ya ny cy, .slice ta nt ct] #[.string x, .int .i64 z, .slice ca' nc' cc', .slice sa' ns' cs', .slice pa' np cp', .slice oa' no' co', .slice ya' ny' cy', .slice ta' nt' ct']) ∧ Hid (PdAt wr ⟨x, z, nc, ns, np, no, ny, nt, C, S, P, O, Y, T⟩ ⟨ca, sa, pa, oa, ya, ta, cc, cs, cp, co, cy, ct⟩) ∧ Hid (PdAt wr ⟨x, z, nc', ns', np, no', ny', nt', C', S', P', O', Y', T'⟩ ⟨ca', sa', pa', oa', ya', ta', cc', cs', cp', co', cy', ct'⟩)) (fun i _ => np - (intOf i).toNat)
  case atStart => exact ⟨0, rfl, by omega, fun j hj => by omega, HX2, HA2, HB2⟩
  case round =>
    clear HX2 HA2 HB2
    obtain ⟨k, rfl, hk, HQ, HX2, HA2, HB2⟩ := hrel
    have bb2 := HX2.out.box 4
    have rr2 := HX2.out.res 4
    simp at bb2 rr2
    by_cases hkn : k < np
    · have q0 : decide (k < np) = true := by simpa using hkn
      have q1 : decide ((k : Int) < (np : Int)) = true := by simpa using hkn
      have hPa := HA2.out.2.2.1
      have hPb := HB2.out.2.2.1
      rcases hPa with h0 | ⟨g, o, hga, hg, hc⟩
      · exact absurd (show np = 0 from h0) (by omega)
      rcases hPb with h0 | ⟨g', o', hga', hg', hc'⟩
      · exact absurd (show np = 0 from h0) (by omega)
      simp only at hga hga'
      subst hga hga'
      obtain ⟨a0, a1, a2, a3⟩ := hc k hkn
      obtain ⟨b0, b1, b2, b3⟩ := hc' k hkn
      have HS : Hid ((P k).a = (P' k).a → (P k).t = (P' k).t → (P k).l = (P' k).l → (P k).h = (P' k).h → ∀ j, j < k + 1 → P j = P' j) := fun e0 e1 e2 e3 j hj => by
        by_cases q : j = k
        · subst q
          cases hl : P j
          cases hl' : P' j
          simp_all
        · exact HQ.out j (by omega)
      have HD0 : Hid (¬ (P k).a = (P' k).a → sameL np np P P' = false) := fun e => sameL_at hkn (fun q => e (by rw [q]))
      have HD1 : Hid (¬ (P k).t = (P' k).t → sameL np np P P' = false) := fun e => sameL_at hkn (fun q => e (by rw [q]))
      have HD2 : Hid (¬ (P k).l = (P' k).l → sameL np np P P' = false) := fun e => sameL_at hkn (fun q => e (by rw [q]))
      have HD3 : Hid (¬ (P k).h = (P' k).h → sameL np np P P' = false) := fun e => sameL_at hkn (fun q => e (by rw [q]))
      clear hc hc' HQ
      simp only at a0 a1 a2 a3 b0 b1 b2 b3
      generalize (P k).a = u0 at *
      generalize (P' k).a = v0 at *
      generalize (P k).t = u1 at *
      generalize (P' k).t = v1 at *
      generalize (P k).l = u2 at *
      generalize (P' k).l = v2 at *
      generalize (P k).h = u3 at *
      generalize (P' k).h = v3 at *
      have HXd : Hid (Both w wr.drew #[.string x, .int .i64 z, .slice ca nc cc, .slice sa ns cs, .slice (some ⟨g, o, none⟩) np cp, .slice oa no co, .slice ya ny cy, .slice ta nt ct] #[.string x, .int .i64 z, .slice ca' nc' cc', .slice sa' ns' cs', .slice (some ⟨g', o', none⟩) np cp', .slice oa' no' co', .slice ya' ny' cy', .slice ta' nt' ct']) := HX2.out.next ((Below.refl _ _).drew)
      have HAd := HA2.out.below ((Below.refl _ _).drew)
      have HBd := HB2.out.below ((Below.refl _ _).drew)
      have HAd : Hid (PdAt wr.drew _ _) := HAd
      have HBd : Hid (PdAt wr.drew _ _) := HBd
      by_cases e0 : u0 = v0
      rotate_left
      · have t0 : (u0.toList == v0.toList) = false := ne_str' e0
        have HF := HE.out true true false _ _ _ HE0.out HE1.out (HD0.out e0) rfl rfl rfl
        have HF : Hid (_ = _) := HF
        clear e0 HS HD0 HD1 HD2 HD3
        go_upto_region 6 with fail
        go_region_held3 (fun W => W.cell? ⟨w.heap.size, 4, none⟩ = some (.slice (some ⟨g, o, none⟩) np cp) ∧ W.cell? ⟨w.heap.size + 1, 4, none⟩ = some (.slice (some ⟨g', o', none⟩) np cp') ∧ W.cell? ⟨g, o + k * 4, none⟩ = some (.string u0) ∧ W.cell? ⟨g, o + k * 4 + 1, none⟩ = some (.int .i64 u1) ∧ W.cell? ⟨g, o + k * 4 + 2, none⟩ = some (.int .i64 u2) ∧ W.cell? ⟨g, o + k * 4 + 3, none⟩ = some (.int .i64 u3) ∧ W.cell? ⟨g', o' + k * 4, none⟩ = some (.string v0) ∧ W.cell? ⟨g', o' + k * 4 + 1, none⟩ = some (.int .i64 v1) ∧ W.cell? ⟨g', o' + k * 4 + 2, none⟩ = some (.int .i64 v2) ∧ W.cell? ⟨g', o' + k * 4 + 3, none⟩ = some (.int .i64 v3)) (go_keep) (fail)
        go_wp2_with fail
        go_ret
        exact ⟨ret_bool HF.out.symm, HXd.out.bel⟩
      by_cases e1 : u1 = v1
      rotate_left
      · have t1 : (u1 == v1) = false := beq_eq_false_iff_ne.2 e1
        have HF := HE.out true true false _ _ _ HE0.out HE1.out (HD1.out e1) rfl rfl rfl
        have HF : Hid (_ = _) := HF
        clear e1 HS HD0 HD1 HD2 HD3
        go_upto_region 6 with fail
        go_region_held3 (fun W => W.cell? ⟨w.heap.size, 4, none⟩ = some (.slice (some ⟨g, o, none⟩) np cp) ∧ W.cell? ⟨w.heap.size + 1, 4, none⟩ = some (.slice (some ⟨g', o', none⟩) np cp') ∧ W.cell? ⟨g, o + k * 4, none⟩ = some (.string u0) ∧ W.cell? ⟨g, o + k * 4 + 1, none⟩ = some (.int .i64 u1) ∧ W.cell? ⟨g, o + k * 4 + 2, none⟩ = some (.int .i64 u2) ∧ W.cell? ⟨g, o + k * 4 + 3, none⟩ = some (.int .i64 u3) ∧ W.cell? ⟨g', o' + k * 4, none⟩ = some (.string v0) ∧ W.cell? ⟨g', o' + k * 4 + 1, none⟩ = some (.int .i64 v1) ∧ W.cell? ⟨g', o' + k * 4 + 2, none⟩ = some (.int .i64 v2) ∧ W.cell? ⟨g', o' + k * 4 + 3, none⟩ = some (.int .i64 v3)) (go_keep) (fail)
        go_wp2_with fail
        go_ret
        exact ⟨ret_bool HF.out.symm, HXd.out.bel⟩
      by_cases e2 : u2 = v2
      rotate_left
      · have t2 : (u2 == v2) = false := beq_eq_false_iff_ne.2 e2
        have HF := HE.out true true false _ _ _ HE0.out HE1.out (HD2.out e2) rfl rfl rfl
        have HF : Hid (_ = _) := HF
        clear e2 HS HD0 HD1 HD2 HD3
        go_upto_region 6 with fail
        go_region_held3 (fun W => W.cell? ⟨w.heap.size, 4, none⟩ = some (.slice (some ⟨g, o, none⟩) np cp) ∧ W.cell? ⟨w.heap.size + 1, 4, none⟩ = some (.slice (some ⟨g', o', none⟩) np cp') ∧ W.cell? ⟨g, o + k * 4, none⟩ = some (.string u0) ∧ W.cell? ⟨g, o + k * 4 + 1, none⟩ = some (.int .i64 u1) ∧ W.cell? ⟨g, o + k * 4 + 2, none⟩ = some (.int .i64 u2) ∧ W.cell? ⟨g, o + k * 4 + 3, none⟩ = some (.int .i64 u3) ∧ W.cell? ⟨g', o' + k * 4, none⟩ = some (.string v0) ∧ W.cell? ⟨g', o' + k * 4 + 1, none⟩ = some (.int .i64 v1) ∧ W.cell? ⟨g', o' + k * 4 + 2, none⟩ = some (.int .i64 v2) ∧ W.cell? ⟨g', o' + k * 4 + 3, none⟩ = some (.int .i64 v3)) (go_keep) (fail)
        go_wp2_with fail
        go_ret
        exact ⟨ret_bool HF.out.symm, HXd.out.bel⟩
      by_cases e3 : u3 = v3
      rotate_left
      · have t3 : (u3 == v3) = false := beq_eq_false_iff_ne.2 e3
        have HF := HE.out true true false _ _ _ HE0.out HE1.out (HD3.out e3) rfl rfl rfl
        have HF : Hid (_ = _) := HF
        clear e3 HS HD0 HD1 HD2 HD3
        go_upto_region 6 with fail
        go_region_held3 (fun W => W.cell? ⟨w.heap.size, 4, none⟩ = some (.slice (some ⟨g, o, none⟩) np cp) ∧ W.cell? ⟨w.heap.size + 1, 4, none⟩ = some (.slice (some ⟨g', o', none⟩) np cp') ∧ W.cell? ⟨g, o + k * 4, none⟩ = some (.string u0) ∧ W.cell? ⟨g, o + k * 4 + 1, none⟩ = some (.int .i64 u1) ∧ W.cell? ⟨g, o + k * 4 + 2, none⟩ = some (.int .i64 u2) ∧ W.cell? ⟨g, o + k * 4 + 3, none⟩ = some (.int .i64 u3) ∧ W.cell? ⟨g', o' + k * 4, none⟩ = some (.string v0) ∧ W.cell? ⟨g', o' + k * 4 + 1, none⟩ = some (.int .i64 v1) ∧ W.cell? ⟨g', o' + k * 4 + 2, none⟩ = some (.int .i64 v2) ∧ W.cell? ⟨g', o' + k * 4 + 3, none⟩ = some (.int .i64 v3)) (go_keep) (fail)
        go_wp2_with fail
        go_ret
        exact ⟨ret_bool HF.out.symm, HXd.out.bel⟩
      subst e0
      subst e1
      subst e2
      subst e3
      have HS2 : Hid (∀ j, j < k + 1 → P j = P' j) := HS.out rfl rfl rfl rfl
      have hiq : ∀ x : Int, (x == x) = true := fun x => by simp
      clear HS HD0 HD1 HD2 HD3
      go_upto_region 6 with fail
      go_region_held3 (fun W => W.cell? ⟨w.heap.size, 4, none⟩ = some (.slice (some ⟨g, o, none⟩) np cp) ∧ W.cell? ⟨w.heap.size + 1, 4, none⟩ = some (.slice (some ⟨g', o', none⟩) np cp') ∧ W.cell? ⟨g, o + k * 4, none⟩ = some (.string u0) ∧ W.cell? ⟨g, o + k * 4 + 1, none⟩ = some (.int .i64 u1) ∧ W.cell? ⟨g, o + k * 4 + 2, none⟩ = some (.int .i64 u2) ∧ W.cell? ⟨g, o + k * 4 + 3, none⟩ = some (.int .i64 u3) ∧ W.cell? ⟨g', o' + k * 4, none⟩ = some (.string u0) ∧ W.cell? ⟨g', o' + k * 4 + 1, none⟩ = some (.int .i64 u1) ∧ W.cell? ⟨g', o' + k * 4 + 2, none⟩ = some (.int .i64 u2) ∧ W.cell? ⟨g', o' + k * 4 + 3, none⟩ = some (.int .i64 u3)) (go_keep) (fail)
      go_wp2_with fail
      go_roundw
      case rel => exact ⟨k + 1, by go_num, by omega, HS2, HXd, HAd, HBd⟩
      case measure => simp [intOf]; omega
    · have q0 : decide (k < np) = false := by simpa using hkn
      have q1 : decide ((k : Int) < (np : Int)) = false := by simpa using hkn
      obtain rfl : k = np := by omega
      have HE2 : Hid (sameL k k P P' = true) := sameL_true HQ.out
      have HX3 := HX2
      have HA3 := HA2
      have HB3 := HB2
      clear HX2 HA2 HB2
      have bb3 := HX3.out.box 5
      have rr3 := HX3.out.res 5
      simp at bb3 rr3
      obtain ⟨B3, hE3⟩ : ∃ B, sameL no no' O O' = B := ⟨_, rfl⟩
      have HC3 := fun W h h' => spec_sameN oa oa' no no' co co' O O' (HN.out.2.2.2.1.1) (HN.out.2.2.2.1.2) W h h'
      rw [hE3] at HC3
      have HC3 : Hid (∀ W, _) := HC3
      have HE3 : Hid (sameL no no' O O' = B3) := hE3
      clear hE3
      go_wp2_with fail
      refine (HC3.out _ (HA3.out.2.2.2.1) (HB3.out.2.2.2.1)).mono ?_
      rintro e w3 ⟨rfl, hb⟩
      have HX4 : Hid (Both w w3 #[.string x, .int .i64 z, .slice ca nc cc, .slice sa ns cs, .slice pa k cp, .slice oa no co, .slice ya ny cy, .slice ta nt ct] #[.string x, .int .i64 z, .slice ca' nc' cc', .slice sa' ns' cs', .slice pa' k cp', .slice oa' no' co', .slice ya' ny' cy', .slice ta' nt' ct']) := HX3.out.next hb
      have HA4 : Hid (PdAt w3 ⟨x, z, nc, ns, k, no, ny, nt, C, S, P, O, Y, T⟩ ⟨ca, sa, pa, oa, ya, ta, cc, cs, cp, co, cy, ct⟩) := HA3.out.below hb
      have HB4 : Hid (PdAt w3 ⟨x, z, nc', ns', k, no', ny', nt', C', S', P', O', Y', T'⟩ ⟨ca', sa', pa', oa', ya', ta', cc', cs', cp', co', cy', ct'⟩) := HB3.out.below hb
      clear hb bb3 rr3 HX3 HA3 HB3 HC3
      cases B3
      · have HF := HE.out true true true false _ _ HE0.out HE1.out HE2.out HE3.out rfl rfl
        have HF : Hid (_ = _) := HF
        go_wp2_with fail
        go_ret
        exact ⟨ret_bool HF.out.symm, HX4.out.bel⟩
      have bb4 := HX4.out.box 6
      have rr4 := HX4.out.res 6
      simp at bb4 rr4
      obtain ⟨B4, hE4⟩ : ∃ B, sameL ny ny' Y Y' = B := ⟨_, rfl⟩
      have HC4 := fun W h h' => spec_sameN ya ya' ny ny' cy cy' Y Y' (HN.out.2.2.2.2.1.1) (HN.out.2.2.2.2.1.2) W h h'
      rw [hE4] at HC4
      have HC4 : Hid (∀ W, _) := HC4
      have HE4 : Hid (sameL ny ny' Y Y' = B4) := hE4
      clear hE4
      go_wp2_with fail
      refine (HC4.out _ (HA4.out.2.2.2.2.1) (HB4.out.2.2.2.2.1)).mono ?_
      rintro e w4 ⟨rfl, hb⟩
      have HX5 : Hid (Both w w4 #[.string x, .int .i64 z, .slice ca nc cc, .slice sa ns cs, .slice pa k cp, .slice oa no co, .slice ya ny cy, .slice ta nt ct] #[.string x, .int .i64 z, .slice ca' nc' cc', .slice sa' ns' cs', .slice pa' k cp', .slice oa' no' co', .slice ya' ny' cy', .slice ta' nt' ct']) := HX4.out.next hb
      have HA5 : Hid (PdAt w4 ⟨x, z, nc, ns, k, no, ny, nt, C, S, P, O, Y, T⟩ ⟨ca, sa, pa, oa, ya, ta, cc, cs, cp, co, cy, ct⟩) := HA4.out.below hb
      have HB5 : Hid (PdAt w4 ⟨x, z, nc', ns', k, no', ny', nt', C', S', P', O', Y', T'⟩ ⟨ca', sa', pa', oa', ya', ta', cc', cs', cp', co', cy', ct'⟩) := HB4.out.below hb
      clear hb bb4 rr4 HX4 HA4 HB4 HC4
      cases B4
      · have HF := HE.out true true true true false _ HE0.out HE1.out HE2.out HE3.out HE4.out rfl
        have HF : Hid (_ = _) := HF
        go_wp2_with fail
        go_ret
        exact ⟨ret_bool HF.out.symm, HX5.out.bel⟩
      have bb5 := HX5.out.box 7
      have rr5 := HX5.out.res 7
      simp at bb5 rr5
      obtain ⟨B5, hE5⟩ : ∃ B, sameL nt nt' T T' = B := ⟨_, rfl⟩
      have HC5 := fun W h h' => spec_sameN ta ta' nt nt' ct ct' T T' (HN.out.2.2.2.2.2.1) (HN.out.2.2.2.2.2.2) W h h'
      rw [hE5] at HC5
      have HC5 : Hid (∀ W, _) := HC5
      have HE5 : Hid (sameL nt nt' T T' = B5) := hE5
      clear hE5
      go_wp2_with fail
      refine (HC5.out _ (HA5.out.2.2.2.2.2) (HB5.out.2.2.2.2.2)).mono ?_
      rintro e w5 ⟨rfl, hb⟩
      have HX6 : Hid (Both w w5 #[.string x, .int .i64 z, .slice ca nc cc, .slice sa ns cs, .slice pa k cp, .slice oa no co, .slice ya ny cy, .slice ta nt ct] #[.string x, .int .i64 z, .slice ca' nc' cc', .slice sa' ns' cs', .slice pa' k cp', .slice oa' no' co', .slice ya' ny' cy', .slice ta' nt' ct']) := HX5.out.next hb
      have HA6 : Hid (PdAt w5 ⟨x, z, nc, ns, k, no, ny, nt, C, S, P, O, Y, T⟩ ⟨ca, sa, pa, oa, ya, ta, cc, cs, cp, co, cy, ct⟩) := HA5.out.below hb
      have HB6 : Hid (PdAt w5 ⟨x, z, nc', ns', k, no', ny', nt', C', S', P', O', Y', T'⟩ ⟨ca', sa', pa', oa', ya', ta', cc', cs', cp', co', cy', ct'⟩) := HB5.out.below hb
      clear hb bb5 rr5 HX5 HA5 HB5 HC5
      cases B5
      · have HF := HE.out true true true true true false HE0.out HE1.out HE2.out HE3.out HE4.out HE5.out
        have HF : Hid (_ = _) := HF
        go_wp2_with fail
        go_ret
        exact ⟨ret_bool HF.out.symm, HX6.out.bel⟩
      have HF := HE.out true true true true true true HE0.out HE1.out HE2.out HE3.out HE4.out HE5.out
      have HF : Hid (_ = _) := HF
      go_wp2_with fail
      go_ret
      exact ⟨ret_bool HF.out.symm, HX6.out.bel⟩
end Go.Proofs.Ythfjekpmaafhaaa
