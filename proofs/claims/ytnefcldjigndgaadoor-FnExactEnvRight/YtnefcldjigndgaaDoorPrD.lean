/- A product's names: what the program's namesRight does. -/
import Derived.Test.YtnefcldjigndgaaDoorPrC
namespace Go.Proofs.YtnefcldjigndgaaDoor
open Go.RowKit Go.Maps
open Go.Proofs.YtnefcldjigndgaaDoor.Draw

theorem slice_to (g o n cap k : Nat) (h1 : k ≤ cap) (h2 : 1 ≤ cap) (W : World) : (Instr.slice 30 (.slice (some ⟨g, o, none⟩) n cap) none (some (.int .i64 (k : Int))) none).run Tryd.prog W = .ok (.slice (some ⟨g, o, none⟩) k cap) W := by
  have ht' : Tryd.prog.underlying 30 = some (.slice (Tryd.prog.elem 30)) := by simp [Program.elem, Tryd.underlying30]
  have he : Tryd.prog.elem 30 = 9 := by simp [Program.elem, Tryd.underlying30]
  have hz : (Go.sizeOf 9).run Tryd.prog W = .ok 1 W := by kernel_rfl
  rw [run_slice_h W 30 _ _ _ ht' .i64 _ (by omega) (by omega), he, hz]
  show Result.ok (sliced (some ⟨g, o, none⟩) 0 (k : Int).toNat cap 1) W = _
  unfold sliced
  rw [if_neg (by omega)]
  simp [add_off]
set_option maxRecDepth 100000 in
set_option maxHeartbeats 8000000 in
theorem impl_names (d : Pd) (g : Gs) (hs : d.small) (h4 : d.nc ≤ 4) (h5 : 1 ≤ d.ns) (h6 : d.ns ≤ 6) (h8 : d.np ≤ 8) (B : Nat) (w : World) (hX : Lex w B) (hA : PdAt w d (g.r d)) :
    Calls Tryd.prog 58 #[.map (some B), .agg (prodA d (g.r d))] w fun e w' => e = .returned (.bool (namesB (namJ d) (d.nc + d.ns + d.np))) ∧ Below w.heap.size w w' := by
  obtain ⟨i0, hi, hz0, hz1, hz2⟩ := info_parts infoText
  have HJ2 : Hid (textsC d.C d.nc ++ textsC d.S d.ns = textsC (namJ d) (d.nc + d.ns)) := names_two d
  have HJp : Hid (∀ k, (namJ d (d.nc + d.ns + k)).t = (d.P k).a) := name_param d
  have HJs : Hid (∀ i, i < d.nc + d.ns + d.np → (namJ d i).t.size ≤ maxLen) := fun i hi => name_small hs i hi
  generalize namJ d = J at *
  obtain ⟨x, z, nc, ns, np, no, ny, nt, C, S, P, O, Y, T⟩ := d
  obtain ⟨g0, g1, g2, g3, g4, g5⟩ := g
  simp only at h4 h5 h6 h8
  have HB0 : Hid (Below w.heap.size w ((w.alloc (.cells #[.string x, .int .i64 z, .slice (some ⟨g0, 0, none⟩) nc nc, .slice (some ⟨g1, 0, none⟩) ns ns, .slice (some ⟨g2, 0, none⟩) np np, .slice (some ⟨g3, 0, none⟩) no no, .slice (some ⟨g4, 0, none⟩) ny ny, .slice (some ⟨g5, 0, none⟩) nt nt] 38)).alloc (.cells #[.slice (some ⟨g0, 0, none⟩) nc nc, .slice (some ⟨g1, 0, none⟩) ns ns] 30))) := ((Below.refl _ _).alloc (Nat.le_refl _) _).alloc (by simp) _
  have HA : Hid (PdAt w ⟨x, z, nc, ns, np, no, ny, nt, C, S, P, O, Y, T⟩ (Gs.r ⟨g0, g1, g2, g3, g4, g5⟩ ⟨x, z, nc, ns, np, no, ny, nt, C, S, P, O, Y, T⟩)) := hA
  have HX : Hid (Lex w B) := hX
  have HCc : Hid (Calls Tryd.prog 75 #[.slice (some ⟨w.heap.size + 1, 0, none⟩) 2 2] ((w.alloc (.cells #[.string x, .int .i64 z, .slice (some ⟨g0, 0, none⟩) nc nc, .slice (some ⟨g1, 0, none⟩) ns ns, .slice (some ⟨g2, 0, none⟩) np np, .slice (some ⟨g3, 0, none⟩) no no, .slice (some ⟨g4, 0, none⟩) ny ny, .slice (some ⟨g5, 0, none⟩) nt nt] 38)).alloc (.cells #[.slice (some ⟨g0, 0, none⟩) nc nc, .slice (some ⟨g1, 0, none⟩) ns ns] 30)) fun e w' => ∃ v, e = .returned v ∧ w'.ownsRow ((w.alloc (.cells #[.string x, .int .i64 z, .slice (some ⟨g0, 0, none⟩) nc nc, .slice (some ⟨g1, 0, none⟩) ns ns, .slice (some ⟨g2, 0, none⟩) np np, .slice (some ⟨g3, 0, none⟩) no no, .slice (some ⟨g4, 0, none⟩) ny ny, .slice (some ⟨g5, 0, none⟩) nt nt] 38)).alloc (.cells #[.slice (some ⟨g0, 0, none⟩) nc nc, .slice (some ⟨g1, 0, none⟩) ns ns] 30)).heap.size 9 1 v (nc + ns) (textsC C nc ++ textsC S ns) ∧ Below ((w.alloc (.cells #[.string x, .int .i64 z, .slice (some ⟨g0, 0, none⟩) nc nc, .slice (some ⟨g1, 0, none⟩) ns ns, .slice (some ⟨g2, 0, none⟩) np np, .slice (some ⟨g3, 0, none⟩) no no, .slice (some ⟨g4, 0, none⟩) ny ny, .slice (some ⟨g5, 0, none⟩) nt nt] 38)).alloc (.cells #[.slice (some ⟨g0, 0, none⟩) nc nc, .slice (some ⟨g1, 0, none⟩) ns ns] 30)).heap.size ((w.alloc (.cells #[.string x, .int .i64 z, .slice (some ⟨g0, 0, none⟩) nc nc, .slice (some ⟨g1, 0, none⟩) ns ns, .slice (some ⟨g2, 0, none⟩) np np, .slice (some ⟨g3, 0, none⟩) no no, .slice (some ⟨g4, 0, none⟩) ny ny, .slice (some ⟨g5, 0, none⟩) nt nt] 38)).alloc (.cells #[.slice (some ⟨g0, 0, none⟩) nc nc, .slice (some ⟨g1, 0, none⟩) ns ns] 30)) w') := impl_concat (w.heap.size + 1) g0 g1 nc ns C S (by omega) (by omega) (by omega) _ (by simp) (by simp) (by simp) (hA.below HB0.out).1 (hA.below HB0.out).2.1
  have hbx : ((w.alloc (.cells #[.string x, .int .i64 z, .slice (some ⟨g0, 0, none⟩) nc nc, .slice (some ⟨g1, 0, none⟩) ns ns, .slice (some ⟨g2, 0, none⟩) np np, .slice (some ⟨g3, 0, none⟩) no no, .slice (some ⟨g4, 0, none⟩) ny ny, .slice (some ⟨g5, 0, none⟩) nt nt] 38)).alloc (.cells #[.slice (some ⟨g0, 0, none⟩) nc nc, .slice (some ⟨g1, 0, none⟩) ns ns] 30)).cell? ⟨w.heap.size, 4, none⟩ = some (.slice (some ⟨g2, 0, none⟩) np np) := by simp
  have hbl : w.heap.size + 2 ≤ ((w.alloc (.cells #[.string x, .int .i64 z, .slice (some ⟨g0, 0, none⟩) nc nc, .slice (some ⟨g1, 0, none⟩) ns ns, .slice (some ⟨g2, 0, none⟩) np np, .slice (some ⟨g3, 0, none⟩) no no, .slice (some ⟨g4, 0, none⟩) ny ny, .slice (some ⟨g5, 0, none⟩) nt nt] 38)).alloc (.cells #[.slice (some ⟨g0, 0, none⟩) nc nc, .slice (some ⟨g1, 0, none⟩) ns ns] 30)).heap.size := by simp
  clear hA hX hs
  show Calls Tryd.prog 58 #[.map (some B), .agg #[.string x, .int .i64 z, .slice (some ⟨g0, 0, none⟩) nc nc, .slice (some ⟨g1, 0, none⟩) ns ns, .slice (some ⟨g2, 0, none⟩) np np, .slice (some ⟨g3, 0, none⟩) no no, .slice (some ⟨g4, 0, none⟩) ny ny, .slice (some ⟨g5, 0, none⟩) nt nt]] w _
  go_enter Tryd.func58, Tryd.ntmps58
  go_wp2_with fail
  refine HCc.out.mono ?_
  rintro e w1 ⟨v, rfl, ho, hb⟩
  have bx4 : w1.cell? ⟨w.heap.size, 4, none⟩ = some (.slice (some ⟨g2, 0, none⟩) np np) := (hb.cell (p := ⟨w.heap.size, 4, none⟩) (by show w.heap.size < _; omega)).trans hbx
  obtain ⟨b0, hb0⟩ : ∃ b, b = ((w.alloc (.cells #[.string x, .int .i64 z, .slice (some ⟨g0, 0, none⟩) nc nc, .slice (some ⟨g1, 0, none⟩) ns ns, .slice (some ⟨g2, 0, none⟩) np np, .slice (some ⟨g3, 0, none⟩) no no, .slice (some ⟨g4, 0, none⟩) ny ny, .slice (some ⟨g5, 0, none⟩) nt nt] 38)).alloc (.cells #[.slice (some ⟨g0, 0, none⟩) nc nc, .slice (some ⟨g1, 0, none⟩) ns ns] 30)).heap.size := ⟨_, rfl⟩
  rw [← hb0] at ho hbl
  have HO1 : Hid (w1.ownsRow b0 9 1 v (nc + ns) (textsC J (nc + ns))) := by have h := ho; rw [HJ2.out] at h; exact h
  have HB1 : Hid (Below w.heap.size w w1) := HB0.out.trans (hb.mono HB0.out.size)
  have hb1 : b0 ≤ w1.heap.size := by rw [hb0]; exact hb.size
  clear ho hb hb0 HCc HB0 hbx HJ2
  go_wp2_with fail
  go_loopw [5, 19] (fun v i wr => ∃ k : Nat, i = .int .i64 (k : Int) ∧ k ≤ np ∧ Hid (wr.ownsRow b0 9 1 v (nc + ns + k) (textsC J (nc + ns + k))) ∧ Hid (Below w.heap.size w wr) ∧ b0 ≤ wr.heap.size) (fun _ i _ => np - (intOf i).toNat)
  case atStart => exact ⟨0, rfl, by omega, HO1, HB1, hb1⟩
  case round =>
    obtain ⟨k, rfl, hk, HO, HB, hbw⟩ := hrel
    clear bx4 HO1 HB1 hb1
    by_cases hkn : k < np
    · have q0 : decide (k < np) = true := by simpa using hkn
      have q1 : decide ((k : Int) < (np : Int)) = true := by simpa using hkn
      rcases (HA.out.below HB.out).2.2.1 with h0 | ⟨gg, oo, hgo, hg, hc⟩
      · exact absurd (show np = 0 from h0) (by omega)
      simp [Gs.r] at hgo
      obtain ⟨rfl, rfl⟩ := hgo
      obtain ⟨c0, c1, c2, c3⟩ := hc k hkn
      simp only [Nat.zero_add] at c0 c1 c2 c3
      have HP : Hid ((J (nc + ns + k)).t = (P k).a) := HJp.out k
      clear hc
      generalize (P k).a = x0 at *
      generalize (P k).t = x1 at *
      generalize (P k).l = x2 at *
      generalize (P k).h = x3 at *
      have hown := HO.out.alloc (.cells #[.string x0, .int .i64 x1, .int .i64 x2, .int .i64 x3] 66)
      go_wp2_with (at_builtin; refine wpList_append_own _ rfl (.tmp 23) (.tmp 26) 30 rfl b0 9 i0 (.string ⟨#[]⟩) 1 16 Tryd.underlying30 hi hz0 hz1 hz2 rfl (by decide) _ _ _ rfl (hown.alloc _) ⟨wr.heap.size + 1, 0, none⟩ 1 1 [.string x0] rfl rfl (by have := news1 (wr.alloc (.cells #[.string x0, .int .i64 x1, .int .i64 x2, .int .i64 x3] 66)) (.string x0) 9; simpa using this) (by simp [Value.oneCell']) (by unfold maxLen; omega) (by omega) (by simp; omega) ?_)
      intro v' w2 hown2 hg2 _
      have HO2 : Hid (w2.ownsRow b0 9 1 v' (nc + ns + (k + 1)) (textsC J (nc + ns + (k + 1)))) := by rw [← Nat.add_assoc, textsC, HP.out]; exact hown2
      have hsz := HB.out.size
      have HB2 : Hid (Below w.heap.size w w2) := ((HB.out.alloc HB.out.size _).alloc (by simp; omega) _).grown hg2 (by simp; omega) (fun j hj => by have := (hown.lt j hj).1; omega)
      have hbw2 : b0 ≤ w2.heap.size := by have := hg2.size; simp at this; omega
      clear hown2 hg2 hown c0 c1 c2 c3 HO HB HP
      go_wp2_with fail
      go_roundw
      case rel => exact ⟨k + 1, by go_num, by omega, HO2, HB2, hbw2⟩
      case measure => simp [intOf]; omega
    · have q0 : decide (k < np) = false := by simpa using hkn
      have q1 : decide ((k : Int) < (np : Int)) = false := by simpa using hkn
      obtain rfl : k = np := by omega
      obtain ⟨M, hM⟩ : ∃ M, M = nc + ns + k := ⟨_, rfl⟩
      rw [← hM] at HO HJs
      have HM : Hid (M = nc + ns + k) := hM
      have hM1 : 1 ≤ M := by omega
      have hM2 : M ≤ 18 := by omega
      obtain ⟨ad, cp, rfl, hOw, _⟩ := own_texts HO.out
      have hcp : M ≤ cp := by
        rcases HO.out with ⟨_, ⟨h, _⟩ | ⟨_, _, _, h, _, _, h2, _⟩⟩
        · simp at h; omega
        · simp at h; omega
      rcases hOw with h0 | ⟨gn, rfl, hOn⟩
      · omega
      have HT : Hid (TextsAt wr (some ⟨gn, 0, none⟩) M J) := by rw [Nat.mul_one] at hOn; exact hOn.texts
      have HXr : Hid (Lex wr B) := HX.out.below HB.out
      clear hM hOn HO HJp
      go_wp2_with fail
      rename World => Wo
      go_loopw [31] (fun i ws => ∃ j : Nat, i = .int .i64 (j : Int) ∧ j ≤ M ∧ Hid (∀ l, l < j → nameOk J l = true) ∧ Hid (Below Wo.heap.size Wo ws)) (fun i _ => M - (intOf i).toNat)
      case atStart => exact ⟨0, rfl, by omega, fun l hl => by omega, Below.refl _ _⟩
      case round =>
        obtain ⟨j, rfl, hj, HQ, HBs⟩ := hrel
        by_cases hjM : j < M
        · have r0 : decide (j < M) = true := by simpa using hjM
          have r1 : decide ((j : Int) < (M : Int)) = true := by simpa using hjM
          rcases HT.out.below HBs.out with h0 | ⟨gg, oo, hgo, hg, hc⟩
          · omega
          simp at hgo
          obtain ⟨rfl, rfl⟩ := hgo
          have c0 := hc j hjM
          simp only [Nat.zero_add] at c0
          have HTp : Hid (TextsAt wr (some ⟨gn, 0, none⟩) j J) := Or.inr ⟨gn, 0, rfl, hg, fun i hi => hc i (by omega)⟩
          have HNr : Hid (Calls Tryd.prog 56 #[.map (some B), .string (J j).t] wr fun e w' => e = .returned (.bool (namR (J j).t)) ∧ Below wr.heap.size wr w') := impl_namR (J j).t (HJs.out j hjM) B wr (HXr.out.below HBs.out)
          have HCo : Hid (∀ W, TextsAt W (some ⟨gn, 0, none⟩) j J → Calls Tryd.prog 76 #[.slice (some ⟨gn, 0, none⟩) j cp, .string (J j).t] W fun e w' => e = .returned (.bool (inB J j (J j).t)) ∧ w' = W) := fun W h => impl_contains (some ⟨gn, 0, none⟩) j cp J (J j).t (by omega) W h
          have hsl := fun W => slice_to gn 0 M cp j (by omega) (by omega) W
          have HE : Hid (nameOk J j = (namR (J j).t && !inB J j (J j).t)) := rfl
          have HF : Hid (nameOk J j = false → namesB J (nc + ns + k) = false) := fun e => namesB_false (by have := HM.out; omega) e
          have HS : Hid (nameOk J j = true → ∀ l, l < j + 1 → nameOk J l = true) := fun e l hl => by
            by_cases q : l = j
            · rw [q]; exact e
            · exact HQ.out l (by omega)
          clear hc hg HQ
          generalize nameOk J j = Z at *
          generalize namR (J j).t = NR at *
          generalize inB J j (J j).t = IB at *
          generalize (J j).t = sj at *
          go_wp2_with fail
          refine HNr.out.mono ?_
          rintro e w5 ⟨rfl, hb⟩
          have HB5 : Hid (Below Wo.heap.size Wo w5) := HBs.out.trans (hb.mono HBs.out.size)
          have HT5 : Hid (TextsAt w5 (some ⟨gn, 0, none⟩) j J) := HTp.out.below hb
          clear hb HNr HTp
          cases NR
          · have HG : Hid (namesB J (nc + ns + k) = false) := HF.out HE.out
            go_wp2_with fail
            go_ret
            exact ⟨ret_bool HG.out.symm, HB.out.trans (HB5.out.mono HB.out.size)⟩
          go_wp2_with fail
          refine (HCo.out _ HT5.out).mono ?_
          rintro e w6 ⟨rfl, rfl⟩
          cases IB
          · have HG : Hid (∀ l, l < j + 1 → nameOk J l = true) := HS.out HE.out
            go_wp2_with fail
            go_roundw
            case rel => exact ⟨j + 1, by go_num, by omega, HG, HB5⟩
            case measure => simp [intOf]; omega
          · have HG : Hid (namesB J (nc + ns + k) = false) := HF.out HE.out
            go_wp2_with fail
            go_ret
            exact ⟨ret_bool HG.out.symm, HB.out.trans (HB5.out.mono HB.out.size)⟩
        · have r0 : decide (j < M) = false := by simpa using hjM
          have r1 : decide ((j : Int) < (M : Int)) = false := by simpa using hjM
          have HG : Hid (namesB J (nc + ns + k) = true) := namesB_true (fun l hl => HQ.out l (by have := HM.out; omega))
          go_wp2_with fail
          go_ret
          exact ⟨ret_bool HG.out.symm, HB.out.trans (HBs.out.mono HB.out.size)⟩
end Go.Proofs.YtnefcldjigndgaaDoor
