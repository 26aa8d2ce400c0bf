/- ProductRight, the model's own: what is looked at further. -/
import Derived.Test.YtnefcldjigndgaaDoorPrH
import Derived.Deep.RegionHeld3
namespace Go.Proofs.YtnefcldjigndgaaDoor
open Go.RowKit Go.Maps
open Go.Proofs.YtnefcldjigndgaaDoor.Draw

set_option maxRecDepth 100000 in
set_option maxHeartbeats 8000000 in
theorem spec_looked (d : Pd) (g : Gs) (hs : d.small) (w : World) (hA : PdAt w d (g.r d)) (hx : namR d.x = true) (a1 : 1 ≤ d.z) (a3 : d.z ≤ 3) (h4 : d.nc ≤ 4) (h5 : 1 ≤ d.ns) (h6 : d.ns ≤ 6) (h8 : d.np ≤ 8) :
    Calls Tryd.prog 15 #[.agg (prodA d (g.r d))] w fun e w' => e = .returned (.bool (namesB (namJ d) (d.nc + d.ns + d.np) && (parsB d.np d.P && (rightT d.O d.no && (rightT d.Y d.ny && rightT d.T d.nt))))) ∧ Below w.heap.size w w' := by
  obtain ⟨i0, hi, hz0, hz1, hz2⟩ := info_parts infoText
  have HE : Hid (∃ R, R = (namesB (namJ d) (d.nc + d.ns + d.np) && (parsB d.np d.P && (rightT d.O d.no && (rightT d.Y d.ny && rightT d.T d.nt))))) := ⟨_, rfl⟩
  obtain ⟨R, hR⟩ := HE.out
  rw [← hR]
  have HR : Hid (R = (namesB (namJ d) (d.nc + d.ns + d.np) && (parsB d.np d.P && (rightT d.O d.no && (rightT d.Y d.ny && rightT d.T d.nt))))) := hR
  have HPf : Hid (∀ k, k < d.np → parB (d.P k) = false → R = false) := fun k hk e => by
    have h : parsB d.np d.P = false := List.all_eq_false.2 ⟨k, List.mem_range.2 hk, by simp [e]⟩
    rw [hR, h]; simp
  have HPt : Hid ((∀ k, k < d.np → parB (d.P k) = true) → parsB d.np d.P = true) := fun h => List.all_eq_true.2 (fun k hk => h k (List.mem_range.1 hk))
  have HNf : Hid (namesB (namJ d) (d.nc + d.ns + d.np) = false → R = false) := fun e => by rw [hR, e]; rfl
  clear HE hR
  have HJ2 : Hid (textsC d.C d.nc ++ textsC d.S d.ns = textsC (namJ d) (d.nc + d.ns)) := names_two d
  have HJp : Hid (∀ k, (namJ d (d.nc + d.ns + k)).t = (d.P k).a) := name_param d
  have HJs : Hid (∀ i, i < d.nc + d.ns + d.np → (namJ d i).t.size ≤ maxLen) := fun i hi => name_small hs i hi
  generalize namJ d = J at *
  have HNr : Hid (∀ W, Calls Tryd.prog 35 #[.string d.x] W fun e w' => e = .returned (.bool true) ∧ Below W.heap.size W w') := fun W => by rw [← hx]; exact spec_namR d.x (by have := hs.1; unfold maxLen; omega) W
  have X0 : Hid (Bx8 w (w.alloc (.cells (prodA d (g.r d)) 38)) (prodA d (g.r d))) := Bx8.new _ _ _
  have HA : Hid (PdAt w d (g.r d)) := hA
  obtain ⟨sx, ⟨n0, _⟩, ⟨n1, _⟩, ⟨n2, _⟩, ⟨n3, s3⟩, ⟨n4, s4⟩, ⟨n5, s5⟩⟩ := hs
  have HH3 : Hid (∀ W, PdAt W d (g.r d) → Calls Tryd.prog 10 #[.slice (some ⟨g.g3, 0, none⟩) d.no d.no] W fun e w' => e = .returned (.bool (rightT d.O d.no)) ∧ Below W.heap.size W w') := fun W h => spec_nodesRight _ d.no _ d.O n3 s3 W h.2.2.2.1
  have HH4 : Hid (∀ W, PdAt W d (g.r d) → Calls Tryd.prog 10 #[.slice (some ⟨g.g4, 0, none⟩) d.ny d.ny] W fun e w' => e = .returned (.bool (rightT d.Y d.ny)) ∧ Below W.heap.size W w') := fun W h => spec_nodesRight _ d.ny _ d.Y n4 s4 W h.2.2.2.2.1
  have HH5 : Hid (∀ W, PdAt W d (g.r d) → Calls Tryd.prog 10 #[.slice (some ⟨g.g5, 0, none⟩) d.nt d.nt] W fun e w' => e = .returned (.bool (rightT d.T d.nt)) ∧ Below W.heap.size W w') := fun W h => spec_nodesRight _ d.nt _ d.T n5 s5 W h.2.2.2.2.2
  clear hA hx s3 s4 s5 sx
  obtain ⟨x, z, nc, ns, np, no, ny, nt, C, S, P, O, Y, T⟩ := d
  obtain ⟨g0, g1, g2, g3, g4, g5⟩ := g
  simp only [prodA, Gs.r] at HNr X0 HA HH3 HH4 HH5 HR HPf HPt HNf HJ2 HJp HJs a1 a3 h4 h5 h6 h8 n0 n1 n2 n3 n4 n5
  show Calls Tryd.prog 15 #[.agg #[.string x, .int .i64 z, .slice (some ⟨g0, 0, none⟩) nc nc, .slice (some ⟨g1, 0, none⟩) ns ns, .slice (some ⟨g2, 0, none⟩) np np, .slice (some ⟨g3, 0, none⟩) no no, .slice (some ⟨g4, 0, none⟩) ny ny, .slice (some ⟨g5, 0, none⟩) nt nt]] w _
  have qz1 : decide (z < (1 : Int)) = false := by simp; omega
  have qz3 : decide ((3 : Int) < z) = false := by simp; omega
  have qc4 : decide ((4 : Int) < (nc : Int)) = false := by simp; omega
  have qs1 : decide ((ns : Int) < (1 : Int)) = false := by simp; omega
  have qs6 : decide ((6 : Int) < (ns : Int)) = false := by simp; omega
  have qp8 : decide ((8 : Int) < (np : Int)) = false := by simp; omega
  go_enter Tryd.func15, Tryd.ntmps15
  go_wp2_with fail
  refine (HNr.out _).mono ?_
  rintro e w1 ⟨rfl, hb⟩
  have X1 : Bx8 w w1 #[.string x, .int .i64 z, .slice (some ⟨g0, 0, none⟩) nc nc, .slice (some ⟨g1, 0, none⟩) ns ns, .slice (some ⟨g2, 0, none⟩) np np, .slice (some ⟨g3, 0, none⟩) no no, .slice (some ⟨g4, 0, none⟩) ny ny, .slice (some ⟨g5, 0, none⟩) nt nt] := X0.out.next hb
  have HX1 : Hid (Bx8 w w1 #[.string x, .int .i64 z, .slice (some ⟨g0, 0, none⟩) nc nc, .slice (some ⟨g1, 0, none⟩) ns ns, .slice (some ⟨g2, 0, none⟩) np np, .slice (some ⟨g3, 0, none⟩) no no, .slice (some ⟨g4, 0, none⟩) ny ny, .slice (some ⟨g5, 0, none⟩) nt nt]) := X1
  have HA1 : Hid (PdAt w1 _ _) := HA.out.below X1.bel
  have bx1 : w1.cell? ⟨w.heap.size, 1, none⟩ = some (.int .i64 z) := X1.cell 1
  have bx2 : w1.cell? ⟨w.heap.size, 2, none⟩ = some (.slice (some ⟨g0, 0, none⟩) nc nc) := X1.cell 2
  have bx3 : w1.cell? ⟨w.heap.size, 3, none⟩ = some (.slice (some ⟨g1, 0, none⟩) ns ns) := X1.cell 3
  have bx4 : w1.cell? ⟨w.heap.size, 4, none⟩ = some (.slice (some ⟨g2, 0, none⟩) np np) := X1.cell 4
  clear X1 hb X0 HNr HA
  go_upto_region 3 with fail
  obtain ⟨a', c', wA, a2, c2, wB, hr1, hbA, hr2, hown, hbB⟩ := two_run w1.drew w1.heap.size rfl (some ⟨g0, 0, none⟩) (some ⟨g1, 0, none⟩) nc ns nc ns C S (by omega) h5 (by omega) (HA1.out.1.below (Below.refl _ _).drew) (HA1.out.2.1.below (Below.refl _ _).drew)
  have hbA' : Below w1.heap.size w1 wA := (Below.refl _ w1).drew.trans hbA
  have hbB' : Below w1.heap.size w1 wB := (Below.refl _ w1).drew.trans hbB
  have lt1 := HX1.out.lt
  have m0 : w1.heap.size ≠ w.heap.size := by omega
  have ba2 : wA.cell? ⟨w.heap.size, 2, none⟩ = some (.slice (some ⟨g0, 0, none⟩) nc nc) := (hbA'.cell (p := ⟨w.heap.size, _, none⟩) lt1).trans (HX1.out.cell 2)
  have ba3 : wA.cell? ⟨w.heap.size, 3, none⟩ = some (.slice (some ⟨g1, 0, none⟩) ns ns) := (hbA'.cell (p := ⟨w.heap.size, _, none⟩) lt1).trans (HX1.out.cell 3)
  have bb2 : wB.cell? ⟨w.heap.size, 2, none⟩ = some (.slice (some ⟨g0, 0, none⟩) nc nc) := (hbB'.cell (p := ⟨w.heap.size, _, none⟩) lt1).trans (HX1.out.cell 2)
  have bb3 : wB.cell? ⟨w.heap.size, 3, none⟩ = some (.slice (some ⟨g1, 0, none⟩) ns ns) := (hbB'.cell (p := ⟨w.heap.size, _, none⟩) lt1).trans (HX1.out.cell 3)
  have bb4 : wB.cell? ⟨w.heap.size, 4, none⟩ = some (.slice (some ⟨g2, 0, none⟩) np np) := (hbB'.cell (p := ⟨w.heap.size, _, none⟩) lt1).trans (HX1.out.cell 4)
  go_region_held3 (fun W => W.cell? ⟨w.heap.size, 2, none⟩ = some (.slice (some ⟨g0, 0, none⟩) nc nc) ∧ W.cell? ⟨w.heap.size, 3, none⟩ = some (.slice (some ⟨g1, 0, none⟩) ns ns)) (go_keep) (first | (refine step_app (by rfl) (.tmp 44) (.tmp 46) 30 (by rfl) _ _ (by rfl) (by rfl) hr1 ?_) | (refine step_app (by rfl) (.tmp 47) (.tmp 49) 30 (by rfl) _ _ (by rfl) (by rfl) hr2 ?_))
  have HO1 : Hid (wB.ownsRow w1.heap.size 9 1 (.slice a2 (nc + ns) c2) (nc + ns) (textsC J (nc + ns))) := by have h := hown; rw [HJ2.out] at h; exact h
  have HB1 : Hid (Below w1.heap.size w1 wB) := hbB'
  clear hr1 hr2 hbA hbB hbA' hbB' hown HJ2 ba2 ba3 bx1 bx2 bx3 bx4
  go_wp2_with fail
  go_loopw [3, 4] (fun v i wr => ∃ k : Nat, i = .int .i64 (k : Int) ∧ k ≤ np ∧ Hid (wr.ownsRow w1.heap.size 9 1 v (nc + ns + k) (textsC J (nc + ns + k))) ∧ Hid (Below w1.heap.size w1 wr) ∧ Hid (∀ l, l < k → parB (P l) = true)) (fun _ i _ => np - (intOf i).toNat)
  case atStart => exact ⟨0, rfl, by omega, HO1, HB1, fun l hl => by omega⟩
  case round =>
    obtain ⟨k, rfl, hk, HO, HB, HQ⟩ := hrel
    clear HO1 HB1 bb2 bb3 bb4
    have br4 : wr.cell? ⟨w.heap.size, 4, none⟩ = some (.slice (some ⟨g2, 0, none⟩) np np) := (HB.out.cell (p := ⟨w.heap.size, _, none⟩) lt1).trans (HX1.out.cell 4)
    by_cases hkn : k < np
    · have q0 : decide (k < np) = true := by simpa using hkn
      have q1 : decide ((k : Int) < (np : Int)) = true := by simpa using hkn
      rcases (HA1.out.below HB.out).2.2.1 with h0 | ⟨gg, oo, hgo, hg, hc⟩
      · exact absurd (show np = 0 from h0) (by omega)
      simp at hgo
      obtain ⟨rfl, rfl⟩ := hgo
      obtain ⟨c0, c1, c3, c4⟩ := hc k hkn
      simp only [Nat.zero_add] at c0 c1 c3 c4
      have HP : Hid ((J (nc + ns + k)).t = (P k).a) := HJp.out k
      have HSp : Hid (∀ W, Calls Tryd.prog 36 #[.agg #[.string (P k).a, .int .i64 (P k).t, .int .i64 (P k).l, .int .i64 (P k).h]] W fun e w' => e = .returned (.bool (parB (P k))) ∧ Below W.heap.size W w') := fun W => spec_param (P k) W
      have HF : Hid (parB (P k) = false → R = false) := HPf.out k hkn
      have HT : Hid (parB (P k) = true → ∀ l, l < k + 1 → parB (P l) = true) := fun e l hl => by
        by_cases q : l = k
        · rw [q]; exact e
        · exact HQ.out l (by omega)
      clear hc HQ
      generalize parB (P k) = Z at *
      generalize (P k).a = x0 at *
      generalize (P k).t = x1 at *
      generalize (P k).l = x2 at *
      generalize (P k).h = x3 at *
      have hown := HO.out
      have hg21 : g2 < w1.heap.size := by
        rcases HA1.out.2.2.1 with h0 | ⟨_, _, hgo, hg', _⟩
        · exact absurd (show np = 0 from h0) (by omega)
        · simp at hgo; rw [hgo.1]; exact hg'
      have hsz := HB.out.size
      go_wp2_with (at_builtin; refine wpList_append_own _ rfl (.tmp 58) (.tmp 65) 30 rfl w1.heap.size 9 i0 (.string ⟨#[]⟩) 1 16 Tryd.underlying30 hi hz0 hz1 hz2 rfl (by decide) _ _ _ rfl (hown.alloc _) ⟨wr.heap.size, 0, none⟩ 1 1 [.string x0] rfl rfl (news1 wr (.string x0) 9) (by simp [Value.oneCell']) (by unfold maxLen; omega) (by omega) (by simp; omega) ?_)
      intro v' w2 hown2 hg2 _
      have HO2 : Hid (w2.ownsRow w1.heap.size 9 1 v' (nc + ns + (k + 1)) (textsC J (nc + ns + (k + 1)))) := by rw [← Nat.add_assoc, textsC, HP.out]; exact hown2
      have HB2 : Hid (Below w1.heap.size w1 w2) := (HB.out.alloc HB.out.size _).grown hg2 (by simp; omega) (fun j hj => (hown.lt j hj).1)
      have e4 : w2.cell? ⟨w.heap.size, 4, none⟩ = some (.slice (some ⟨g2, 0, none⟩) np np) := (HB2.out.cell (p := ⟨w.heap.size, _, none⟩) lt1).trans (HX1.out.cell 4)
      have f0 : w2.cell? ⟨g2, k * 4, none⟩ = some (.string x0) := hg2.cell (a := ⟨g2, k * 4, none⟩) ((World.cell?_alloc_past _ _ _ hg).trans c0) (fun e => Nat.lt_irrefl g2 (Nat.lt_of_lt_of_le hg21 (HO.out.lt g2 e.symm).1))
      have f1 : w2.cell? ⟨g2, k * 4 + 1, none⟩ = some (.int .i64 x1) := hg2.cell (a := ⟨g2, k * 4 + 1, none⟩) ((World.cell?_alloc_past _ _ _ hg).trans c1) (fun e => Nat.lt_irrefl g2 (Nat.lt_of_lt_of_le hg21 (HO.out.lt g2 e.symm).1))
      have f2 : w2.cell? ⟨g2, k * 4 + 2, none⟩ = some (.int .i64 x2) := hg2.cell (a := ⟨g2, k * 4 + 2, none⟩) ((World.cell?_alloc_past _ _ _ hg).trans c3) (fun e => Nat.lt_irrefl g2 (Nat.lt_of_lt_of_le hg21 (HO.out.lt g2 e.symm).1))
      have f3 : w2.cell? ⟨g2, k * 4 + 3, none⟩ = some (.int .i64 x3) := hg2.cell (a := ⟨g2, k * 4 + 3, none⟩) ((World.cell?_alloc_past _ _ _ hg).trans c4) (fun e => Nat.lt_irrefl g2 (Nat.lt_of_lt_of_le hg21 (HO.out.lt g2 e.symm).1))
      clear hown2 hg2 hown c0 c1 c3 c4 HO HB HP br4 hg
      go_wp2_with fail
      refine (HSp.out _).mono ?_
      rintro e w3 ⟨rfl, hb3⟩
      have HB3 : Hid (Below w1.heap.size w1 w3) := HB2.out.trans (hb3.mono HB2.out.size)
      have HO3 : Hid (w3.ownsRow w1.heap.size 9 1 v' (nc + ns + (k + 1)) (textsC J (nc + ns + (k + 1)))) := own_below HO2.out hb3
      cases Z
      · have HG : Hid (R = false) := HF.out rfl
        clear hb3 f0 f1 f2 f3 e4
        go_wp2_with fail
        go_ret
        exact ⟨ret_bool HG.out.symm, HX1.out.bel.trans (HB3.out.mono HX1.out.bel.size)⟩
      have HG : Hid (∀ l, l < k + 1 → parB (P l) = true) := HT.out rfl
      clear hb3 f0 f1 f2 f3 e4
      go_wp2_with fail
      go_roundw
      case rel => exact ⟨k + 1, by go_num, by omega, HO3, HB3, HG⟩
      case measure => simp [intOf]; omega
    · have q0 : decide (k < np) = false := by simpa using hkn
      have q1 : decide ((k : Int) < (np : Int)) = false := by simpa using hkn
      obtain rfl : k = np := by omega
      have HPr : Hid (parsB k P = true) := HPt.out HQ.out
      obtain ⟨M, hM⟩ : ∃ M, M = nc + ns + k := ⟨_, rfl⟩
      rw [← hM] at HO HJs
      have HM : Hid (M = nc + ns + k) := hM
      have hM1 : 1 ≤ M := by omega
      have hM2 : M ≤ 18 := by omega
      obtain ⟨ad, cp, rfl, hOw, _⟩ := own_texts HO.out
      have hcp : M ≤ cp := by
        rcases HO.out with ⟨_, ⟨h, _⟩ | ⟨_, _, _, h, _, _, h2, _⟩⟩
        · simp at h; omega
        · simp at h; omega
      rcases hOw with h0 | ⟨gn, rfl, hOn⟩
      · omega
      have HT : Hid (TextsAt wr (some ⟨gn, 0, none⟩) M J) := by rw [Nat.mul_one] at hOn; exact hOn.texts
      clear hM hOn HO HJp HPt HQ HPf
      go_wp2_with fail
      clear br4
      rename World => Wo
      go_loopw [5] (fun i ws => ∃ j : Nat, i = .int .i64 (j : Int) ∧ j ≤ M ∧ Hid (∀ l, l < j → nameOk J l = true) ∧ Hid (Below Wo.heap.size Wo ws)) (fun i _ => M - (intOf i).toNat)
      case atStart => exact ⟨0, rfl, by omega, fun l hl => by omega, Below.refl _ _⟩
      case round =>
        obtain ⟨j, rfl, hj, HQ, HBs⟩ := hrel
        by_cases hjM : j < M
        · have r0 : decide (j < M) = true := by simpa using hjM
          have r1 : decide ((j : Int) < (M : Int)) = true := by simpa using hjM
          rcases HT.out.below HBs.out with h0 | ⟨gg, oo, hgo, hg, hc⟩
          · omega
          simp at hgo
          obtain ⟨rfl, rfl⟩ := hgo
          have c0 := hc j hjM
          simp only [Nat.zero_add] at c0
          have HTp : Hid (TextsAt wr (some ⟨gn, 0, none⟩) j J) := Or.inr ⟨gn, 0, rfl, hg, fun i hi => hc i (by omega)⟩
          have HNr : Hid (∀ W, Calls Tryd.prog 35 #[.string (J j).t] W fun e w' => e = .returned (.bool (namR (J j).t)) ∧ Below W.heap.size W w') := fun W => spec_namR (J j).t (HJs.out j hjM) W
          have HCo : Hid (∀ W, TextsAt W (some ⟨gn, 0, none⟩) j J → Calls Tryd.prog 24 #[.slice (some ⟨gn, 0, none⟩) j cp, .string (J j).t] W fun e w' => e = .returned (.bool (inB J j (J j).t)) ∧ w' = W) := fun W h => spec_in (some ⟨gn, 0, none⟩) j cp J (J j).t (by omega) W h
          have hsl := fun W => slice_to gn 0 M cp j (by omega) (by omega) W
          have HE : Hid (nameOk J j = (namR (J j).t && !inB J j (J j).t)) := rfl
          have HF : Hid (nameOk J j = false → R = false) := fun e => HNf.out (namesB_false (by have := HM.out; omega) e)
          have HS : Hid (nameOk J j = true → ∀ l, l < j + 1 → nameOk J l = true) := fun e l hl => by
            by_cases q : l = j
            · rw [q]; exact e
            · exact HQ.out l (by omega)
          clear hc HQ
          generalize nameOk J j = Z at *
          generalize namR (J j).t = NR at *
          generalize inB J j (J j).t = IB at *
          generalize (J j).t = sj at *
          go_upto_region 13 with fail
          refine wp_region_any (by kernel_rfl) ?_
          try (change wpAny _ _ _ _ _ _ _ (World.drew _))
          refine wpAny_take (i := 0) (v := ?_) rfl (by kernel_rfl) (by kernel_rfl) (by kernel_rfl) (fun _ _ _ h => h) (Or.inl ⟨by rfl, ?_⟩) ?_
          rotate_left 1
          · first | (intro w; go_simp; done) | (intro w; go_simp; with_reducible rfl)
          try go_simp
          refine wpAny_take (i := 1) (v := ?_) rfl (by kernel_rfl) (by kernel_rfl) (by kernel_rfl) (fun _ _ _ h => h) (Or.inl ⟨by rfl, ?_⟩) ?_
          rotate_left 1
          · first | (intro w; go_simp; done) | (intro w; go_simp; with_reducible rfl)
          try go_simp
          refine wpAny_ready (rs := [2]) (by kernel_rfl) (by simp) ?_
          refine AllReady.cons rfl (fun K hK => ?_) AllReady.nil
          go_simp
          refine hK _ _ ?_
          clear hK K
          refine wpAny_ready (rs := [3]) (by kernel_rfl) (by simp) ?_
          refine AllReady.cons rfl (fun K hK => ?_) AllReady.nil
          go_simp
          refine hK _ _ ?_
          clear hK K
          refine wpAny_ready (rs := [4]) (by kernel_rfl) (by simp) ?_
          refine AllReady.cons rfl (fun K hK => ?_) AllReady.nil
          go_simp
          go_wp2_with (first | (go_at_call 35; refine (HNr.out _).mono ?_; rintro e w5 ⟨rfl, hb⟩))
          have hb' : Below wr.heap.size wr w5 := (by first | exact hb | exact (Below.refl _ wr).drew.trans hb)
          have d0 : w5.cell? ⟨gn, j, none⟩ = some (.string sj) := (hb'.cell (p := ⟨gn, j, none⟩) hg).trans c0
          have HB5 : Hid (Below Wo.heap.size Wo w5) := HBs.out.trans (hb'.mono HBs.out.size)
          have HT5 : Hid (TextsAt w5 (some ⟨gn, 0, none⟩) j J) := HTp.out.below hb'
          have HB5' : Hid (Below w.heap.size w w5) := HX1.out.bel.trans ((HB.out.trans (HB5.out.mono HB.out.size)).mono HX1.out.bel.size)
          clear hb hb' HNr HTp
          refine wpAny_take (i := 5) (v := ?_) rfl (by kernel_rfl) (by kernel_rfl) (by kernel_rfl) (fun _ _ _ h => h) (Or.inl ⟨by rfl, ?_⟩) ?_
          rotate_left 1
          · first | (intro w; go_simp; done) | (intro w; go_simp; with_reducible rfl)
          try go_simp
          refine wpAny_take (i := 6) (v := ?_) rfl (by kernel_rfl) (by kernel_rfl) (by kernel_rfl) (fun _ _ _ h => h) (Or.inl ⟨by rfl, ?_⟩) ?_
          rotate_left 1
          · first | (intro w; go_simp; done) | (intro w; go_simp; with_reducible rfl)
          try go_simp
          cases NR
          · have HG : Hid (R = false) := HF.out HE.out
            refine wpAny_take (i := 7) (v := undef) rfl (by kernel_rfl) (by kernel_rfl) (by kernel_rfl) (fun _ _ _ h => h) (Or.inr ⟨by rfl, rfl⟩) ?_
            try go_simp
            refine wpAny_take (i := 8) (v := undef) rfl (by kernel_rfl) (by kernel_rfl) (by kernel_rfl) (fun _ _ _ h => h) (Or.inr ⟨by rfl, rfl⟩) ?_
            try go_simp
            refine wpAny_take (i := 9) (v := undef) rfl (by kernel_rfl) (by kernel_rfl) (by kernel_rfl) (fun _ _ _ h => h) (Or.inr ⟨by rfl, rfl⟩) ?_
            try go_simp
            refine wpAny_take (i := 10) (v := undef) rfl (by kernel_rfl) (by kernel_rfl) (by kernel_rfl) (fun _ _ _ h => h) (Or.inr ⟨by rfl, rfl⟩) ?_
            try go_simp
            refine wpAny_take (i := 11) (v := undef) rfl (by kernel_rfl) (by kernel_rfl) (by kernel_rfl) (fun _ _ _ h => h) (Or.inr ⟨by rfl, rfl⟩) ?_
            try go_simp
            refine wpAny_take (i := 12) (v := undef) rfl (by kernel_rfl) (by kernel_rfl) (by kernel_rfl) (fun _ _ _ h => h) (Or.inr ⟨by rfl, rfl⟩) ?_
            try go_simp
            refine wpAny_take (i := 13) (v := undef) rfl (by kernel_rfl) (by kernel_rfl) (by kernel_rfl) (fun _ _ _ h => h) (Or.inr ⟨by rfl, rfl⟩) ?_
            try go_simp
            refine wpAny_take (i := 14) (v := undef) rfl (by kernel_rfl) (by kernel_rfl) (by kernel_rfl) (fun _ _ _ h => h) (Or.inr ⟨by rfl, rfl⟩) ?_
            try go_simp
            refine wpAny_take (i := 15) (v := ?_) rfl (by kernel_rfl) (by kernel_rfl) (by kernel_rfl) (fun _ _ _ h => h) (Or.inl ⟨by rfl, ?_⟩) ?_
            rotate_left 1
            · first | (intro w; go_simp; done) | (intro w; go_simp; with_reducible rfl)
            try go_simp
            refine wpAny_done (by kernel_rfl) ?_ _
            go_wp2_with fail
            go_ret
            exact ⟨ret_bool HG.out.symm, HB5'.out⟩
          refine wpAny_take (i := 7) (v := ?_) rfl (by kernel_rfl) (by kernel_rfl) (by kernel_rfl) (fun _ _ _ h => h) (Or.inl ⟨by rfl, ?_⟩) ?_
          rotate_left 1
          · first | (intro w; go_simp; done) | (intro w; go_simp; with_reducible rfl)
          try go_simp
          refine wpAny_take (i := 8) (v := ?_) rfl (by kernel_rfl) (by kernel_rfl) (by kernel_rfl) (fun _ _ _ h => h) (Or.inl ⟨by rfl, ?_⟩) ?_
          rotate_left 1
          · first | (intro w; go_simp; done) | (intro w; go_simp; with_reducible rfl)
          try go_simp
          refine wpAny_take (i := 9) (v := ?_) rfl (by kernel_rfl) (by kernel_rfl) (by kernel_rfl) (fun _ _ _ h => h) (Or.inl ⟨by rfl, ?_⟩) ?_
          rotate_left 1
          · first | (intro w; go_simp; done) | (intro w; go_simp; with_reducible rfl)
          try go_simp
          refine wpAny_take (i := 10) (v := ?_) rfl (by kernel_rfl) (by kernel_rfl) (by kernel_rfl) (fun _ _ _ h => h) (Or.inl ⟨by rfl, ?_⟩) ?_
          rotate_left 1
          · first | (intro w; go_simp; done) | (intro w; go_simp; with_reducible rfl)
          try go_simp
          refine wpAny_take (i := 11) (v := ?_) rfl (by kernel_rfl) (by kernel_rfl) (by kernel_rfl) (fun _ _ _ h => h) (Or.inl ⟨by rfl, ?_⟩) ?_
          rotate_left 1
          · first | (intro w; go_simp; done) | (intro w; go_simp; with_reducible rfl)
          try go_simp
          refine wpAny_take (i := 12) (v := ?_) rfl (by kernel_rfl) (by kernel_rfl) (by kernel_rfl) (fun _ _ _ h => h) (Or.inl ⟨by rfl, ?_⟩) ?_
          rotate_left 1
          · first | (intro w; go_simp; done) | (intro w; go_simp; with_reducible rfl)
          try go_simp
          refine wpAny_ready (rs := [13]) (by kernel_rfl) (by simp) ?_
          refine AllReady.cons rfl (fun K hK => ?_) AllReady.nil
          go_simp
          refine hK _ _ ?_
          clear hK K
          refine wpAny_ready (rs := [14]) (by kernel_rfl) (by simp) ?_
          refine AllReady.cons rfl (fun K hK => ?_) AllReady.nil
          go_simp
          go_wp2_with (first | (go_at_call 24; refine (HCo.out _ HT5.out).mono ?_; rintro e w6 ⟨rfl, rfl⟩))
          cases IB
          · have HG : Hid (∀ l, l < j + 1 → nameOk J l = true) := HS.out HE.out
            refine wpAny_take (i := 15) (v := ?_) rfl (by kernel_rfl) (by kernel_rfl) (by kernel_rfl) (fun _ _ _ h => h) (Or.inl ⟨by rfl, ?_⟩) ?_
            rotate_left 1
            · first | (intro w; go_simp; done) | (intro w; go_simp; with_reducible rfl)
            try go_simp
            refine wpAny_done (by kernel_rfl) ?_ _
            go_wp2_with fail
            go_roundw
            case rel => exact ⟨j + 1, by go_num, by omega, HG, HB5⟩
            case measure => simp [intOf]; omega
          · have HG : Hid (R = false) := HF.out HE.out
            refine wpAny_take (i := 15) (v := ?_) rfl (by kernel_rfl) (by kernel_rfl) (by kernel_rfl) (fun _ _ _ h => h) (Or.inl ⟨by rfl, ?_⟩) ?_
            rotate_left 1
            · first | (intro w; go_simp; done) | (intro w; go_simp; with_reducible rfl)
            try go_simp
            refine wpAny_done (by kernel_rfl) ?_ _
            go_wp2_with fail
            go_ret
            exact ⟨ret_bool HG.out.symm, HB5'.out⟩
        · have r0 : decide (j < M) = false := by simpa using hjM
          have r1 : decide ((j : Int) < (M : Int)) = false := by simpa using hjM
          have HG : Hid (namesB J (nc + ns + k) = true) := namesB_true (fun l hl => HQ.out l (by have := HM.out; omega))
          have HBt : Hid (Below w1.heap.size w1 wr) := HB.out.trans (HBs.out.mono HB.out.size)
          have HRR : Hid (R = (rightT O no && (rightT Y ny && rightT T nt))) := by have h := HR.out; rw [HG.out, HPr.out] at h; exact h
          clear HG HPr HR HNf HQ HM HT HB HBs
          generalize rightT O no = Z5 at *
          generalize rightT Y ny = Z6 at *
          generalize rightT T nt = Z7 at *
          have bz5 : wr.cell? ⟨w.heap.size, 5, none⟩ = some (.slice (some ⟨g3, 0, none⟩) no no) := (HBt.out.cell (p := ⟨w.heap.size, _, none⟩) lt1).trans (HX1.out.cell 5)
          go_wp2_with fail
          refine (HH3.out _ (HA1.out.below HBt.out)).mono ?_
          rintro e v5 ⟨rfl, hb⟩
          have HBt5 : Hid (Below w1.heap.size w1 v5) := HBt.out.trans (hb.mono HBt.out.size)
          clear hb bz5
          cases Z5
          · go_wp2_with fail
            go_ret
            exact ⟨ret_bool HRR.out.symm, HX1.out.bel.trans (HBt5.out.mono HX1.out.bel.size)⟩
          have bz6 : v5.cell? ⟨w.heap.size, 6, none⟩ = some (.slice (some ⟨g4, 0, none⟩) ny ny) := (HBt5.out.cell (p := ⟨w.heap.size, _, none⟩) lt1).trans (HX1.out.cell 6)
          go_wp2_with fail
          refine (HH4.out _ (HA1.out.below HBt5.out)).mono ?_
          rintro e v6 ⟨rfl, hb⟩
          have HBt6 : Hid (Below w1.heap.size w1 v6) := HBt5.out.trans (hb.mono HBt5.out.size)
          clear hb bz6
          cases Z6
          · go_wp2_with fail
            go_ret
            exact ⟨ret_bool HRR.out.symm, HX1.out.bel.trans (HBt6.out.mono HX1.out.bel.size)⟩
          have bz7 : v6.cell? ⟨w.heap.size, 7, none⟩ = some (.slice (some ⟨g5, 0, none⟩) nt nt) := (HBt6.out.cell (p := ⟨w.heap.size, _, none⟩) lt1).trans (HX1.out.cell 7)
          go_wp2_with fail
          refine (HH5.out _ (HA1.out.below HBt6.out)).mono ?_
          rintro e v7 ⟨rfl, hb⟩
          have HBt7 : Hid (Below w1.heap.size w1 v7) := HBt6.out.trans (hb.mono HBt6.out.size)
          clear hb bz7
          go_wp2_with fail
          go_ret
          exact ⟨ret_bool HRR.out.symm, HX1.out.bel.trans (HBt7.out.mono HX1.out.bel.size)⟩
end Go.Proofs.YtnefcldjigndgaaDoor
