/- Right books (spec.BookRight): what the call does. -/
import Derived.Test.YtpabdapaegllnaaDoorBkL
import Derived.BigQuiet
import Derived.Deep.QuietTactic
namespace Go.Proofs.YtpabdapaegllnaaDoor
open Go.RowKit
open Go.Proofs.YtpabdapaegllnaaDoor.Draw

set_option maxRecDepth 100000 in
set_option maxHeartbeats 8000000 in
theorem spec_bookRight (a b : Option Addr) (n m cap cap' : Nat) (L : Nat → Ln) (I : Nat → Tx) (hn : n ≤ 1048576) (hm : m ≤ 1048576) (hf : ∀ i, i < n → (L i).fits) (hfi : ∀ i, i < m → (I i).fits) (w : World) (h : LinesAt w a n L) (h' : TextsAt w b m I) :
    Calls Tryd.prog 10 #[.agg #[.slice a n cap, .slice b m cap']] w fun e w' => e = .returned (.bool (bookB n m L I)) ∧ Below w.heap.size w w' := by
  have HL : Hid (LinesAt w a n L) := h
  have HF : Hid (∀ i, i < n → (L i).fits) := hf
  have HB0 : Hid (Below w.heap.size w (w.alloc (.cells #[.slice a n cap, .slice b m cap'] 26))) := (Below.refl _ _).alloc (Nat.le_refl _) _
  have HI := spec_ids b m cap' I hm hfi (w.alloc (.cells #[.slice a n cap, .slice b m cap'] 26)) (h'.below HB0.out)
  clear h h' hf hfi
  have HBB : Hid (bookB n m L I = (linesB n L && idsB m I && (sumL L n == 0))) := rfl
  by_cases hl1 : ¬ n ≤ 60
  · have z0 : decide (60 < n) = true := by simp; omega
    have z1 : decide ((60 : Int) < (n : Int)) = true := by simp; omega
    have HX : Hid (bookB n m L I = false) := by rw [Hid, HBB.out]; simp [linesB, hl1]
    go_enter Tryd.func10, Tryd.ntmps10
    go_wp2_with fail
    go_ret
    exact ⟨ret_bool HX.out.symm, HB0.out⟩
  have z0 : decide (60 < n) = false := by simp; omega
  have z1 : decide ((60 : Int) < (n : Int)) = false := by simp; omega
  by_cases hl2 : ¬ m ≤ 100
  · have y0 : decide (100 < m) = true := by simp; omega
    have y1 : decide ((100 : Int) < (m : Int)) = true := by simp; omega
    have HX : Hid (bookB n m L I = false) := by rw [Hid, HBB.out]; simp [idsB, hl2]
    go_enter Tryd.func10, Tryd.ntmps10
    go_wp2_with fail
    go_ret
    exact ⟨ret_bool HX.out.symm, HB0.out⟩
  have y0 : decide (100 < m) = false := by simp; omega
  have y1 : decide ((100 : Int) < (m : Int)) = false := by simp; omega
  have hl1 : n ≤ 60 := by omega
  have hl2 : m ≤ 100 := by omega
  have HID : Hid (idsB m I = (List.range m).all (okId I)) := by simp [Hid, idsB, hl2]
  generalize (List.range m).all (okId I) = J at *
  have HI : Hid (Calls Tryd.prog 42 #[.slice b m cap'] (w.alloc (.cells #[.slice a n cap, .slice b m cap'] 26)) fun e w' => e = .returned (.bool J) ∧ Below (w.alloc (.cells #[.slice a n cap, .slice b m cap'] 26)).heap.size (w.alloc (.cells #[.slice a n cap, .slice b m cap'] 26)) w') := HI
  go_enter Tryd.func10, Tryd.ntmps10
  go_wp2_with fail
  refine HI.out.mono ?_
  rintro e w1 ⟨rfl, hb1⟩
  have HB1 : Hid (Below w.heap.size w w1) := HB0.out.trans (hb1.mono (by simp))
  have cB : w1.cell? ⟨w.heap.size, 0, none⟩ = some (.slice a n cap) := (hb1.cell (p := ⟨w.heap.size, 0, none⟩) (by simp)).trans (by simp)
  have hB1 : w.heap.size < w1.heap.size := by have := hb1.size; simp at this; omega
  have HCB : Hid (w1.cell? ⟨w.heap.size, 0, none⟩ = some (.slice a n cap)) := cB
  clear hb1 HI
  cases J
  · have HX : Hid (bookB n m L I = false) := by rw [Hid, HBB.out, HID.out]; simp
    go_wp2_with fail
    go_ret
    exact ⟨ret_bool HX.out.symm, HB1.out⟩
  go_wp2_with fail
  go_loopw [3, 4] (fun s i wr => ∃ k : Nat, i = .int .i64 (k : Int) ∧ s = .int .i64 (sumL L k) ∧ k ≤ n ∧ Hid (∀ j, j < k → okLine L j = true) ∧ Hid (Below w1.heap.size w1 wr)) (fun _ i _ => n - (intOf i).toNat)
  case atStart => exact ⟨0, rfl, rfl, by omega, fun j hj => by omega, Below.refl _ _⟩
  case round =>
    obtain ⟨k, rfl, rfl, hk, HS, HBr⟩ := hrel
    have HB : Hid (Below w.heap.size w wr) := HB1.out.trans (HBr.out.mono HB1.out.size)
    have cB := (HBr.out.cell (p := ⟨w.heap.size, 0, none⟩) hB1).trans HCB.out
    have hBr : w.heap.size < wr.heap.size := Nat.lt_of_lt_of_le hB1 HBr.out.size
    by_cases hkn : k < n
    · have p0 : decide (k < n) = true := by simpa using hkn
      have p1 : decide ((k : Int) < (n : Int)) = true := by simpa using hkn
      rcases HL.out with h0 | ⟨g, o, rfl, hg, hc⟩
      · omega
      obtain ⟨c0, c1, c2⟩ := hc k hkn
      have d0 := (HB.out.cell (p := ⟨g, _, none⟩) hg).trans c0
      have d1 := (HB.out.cell (p := ⟨g, _, none⟩) hg).trans c1
      have d2 := (HB.out.cell (p := ⟨g, _, none⟩) hg).trans c2
      obtain ⟨f0, f1⟩ := HF.out k hkn
      have HS' : Hid (okLine L k = true → ∀ j, j < k + 1 → okLine L j = true) := fun hsm j hj => by
        by_cases e : j = k
        · rw [e]; exact hsm
        · exact HS.out j (by omega)
      have HNO : Hid (okLine L k = false → bookB n m L I = false) := fun h => by rw [HBB.out, linesB_no hkn h]; rfl
      have H1 := fun W => spec_names (L k).a (L k).s f0 f1 W
      have HOK : Hid (okLine L k = ((nameB (L k).a && nameB (L k).s) && rightB (L k).m && (decide (k = 0) || lessP (L (k - 1)).a (L (k - 1)).s (L k).a (L k).s))) := rfl
      have HSUM : Hid (sumL L (k + 1) = sumL L k + (L k).m) := rfl
      obtain ⟨q, hq⟩ : ∃ q, q = L (k - 1) := ⟨_, rfl⟩
      have HQ : Hid (0 < k → w.cell? ⟨g, o + (k - 1) * 3, none⟩ = some (.string q.a) ∧ w.cell? ⟨g, o + (k - 1) * 3 + 1, none⟩ = some (.string q.s) ∧ w.cell? ⟨g, o + (k - 1) * 3 + 2, none⟩ = some (.int .i64 q.m)) := fun h => by rw [hq]; exact hc (k - 1) (by omega)
      rw [← hq] at HOK
      obtain ⟨l0, l1⟩ := sumL_le (n := k) HS.out k (Nat.le_refl _)
      clear hc HS f0 f1 c0 c1 c2 hq
      generalize okLine L k = ok at *
      generalize sumL L k = sk at *
      generalize (nameB (L k).a && nameB (L k).s) = A at *
      have HM := fun W => spec_right (L k).m W
      generalize hRR : rightB (L k).m = R at *
      have HRR : Hid (R = true → -1000000000000 ≤ (L k).m ∧ (L k).m ≤ 1000000000000) := fun h => (rightB_iff _).1 (hRR.trans h)
      clear hRR
      generalize (L k).a = x0 at *
      generalize (L k).s = x1 at *
      generalize (L k).m = x2 at *
      have H1 : Hid (∀ W, Calls Tryd.prog 43 #[.agg #[.string x0, .string x1]] W fun e w' => e = .returned (.bool A) ∧ Below W.heap.size W w') := H1
      have HM : Hid (∀ W, Calls Tryd.prog 44 #[.int .i64 x2] W fun e w' => e = .returned (.bool R) ∧ w' = W) := HM
      have hne : wr.heap.size ≠ w.heap.size := by omega
      have hsk : sk + x2 = sk + x2 := rfl
      go_upto_region 8 with fail
      obtain ⟨W, hW⟩ : ∃ W, W = wr.alloc (.cells #[.string x0, .string x1, .int .i64 x2] 46) := ⟨_, rfl⟩
      have HBW : Hid (Below w1.heap.size w1 W) := by rw [Hid, hW]; exact HBr.out.alloc HBr.out.size _
      have e0 : W.cell? ⟨wr.heap.size, 0, none⟩ = some (.string x0) := by rw [hW]; simp
      have e1 : W.cell? ⟨wr.heap.size, 1, none⟩ = some (.string x1) := by rw [hW]; simp
      have e2 : W.cell? ⟨wr.heap.size, 2, none⟩ = some (.int .i64 x2) := by rw [hW]; simp
      have hQl : wr.heap.size < W.heap.size := by rw [hW]; simp
      have eB : W.cell? ⟨w.heap.size, 0, none⟩ = some (.slice (some ⟨g, o, none⟩) n cap) := (HBW.out.cell (p := ⟨w.heap.size, 0, none⟩) hB1).trans HCB.out
      have hBl : w.heap.size < W.heap.size := by omega
      rw [← hW]
      clear hW d0 d1 d2 cB
      obtain ⟨Q, hQ⟩ : ∃ Q, Q = wr.heap.size := ⟨_, rfl⟩
      rw [← hQ] at e0 e1 e2 hQl ⊢
      clear hQ
      cases A
      · have HX : Hid (bookB n m L I = false) := HNO.out (by rw [HOK.out]; rfl)
        refine wp_region_any (by kernel_rfl) ?_
        try (change wpAny _ _ _ _ _ _ _ (World.drew _))
        refine wpAny_take (i := 0) (v := ?_) rfl (by kernel_rfl) (by kernel_rfl) (by kernel_rfl) (fun _ _ _ h => h) (Or.inl ⟨by rfl, ?_⟩) ?_
        rotate_left 1
        · first | (intro w; go_simp; done) | (intro w; go_simp; with_reducible rfl)
        try go_simp
        refine wpAny_ready (rs := [1]) (by kernel_rfl) (by simp) ?_
        refine AllReady.cons rfl (fun K hK => ?_) AllReady.nil
        go_simp
        refine hK _ _ ?_
        clear hK K
        refine wpAny_ready (rs := [2]) (by kernel_rfl) (by simp) ?_
        refine AllReady.cons rfl (fun K hK => ?_) AllReady.nil
        go_simp
        go_wp2_with (first | (go_at_call 43; refine (H1.out _).mono ?_; rintro e w3 ⟨rfl, hb⟩; have s2 : w3.cell? ⟨Q, 2, none⟩ = some (.int .i64 x2) := (hb.cell (p := ⟨Q, 2, none⟩) hQl).trans e2))
        refine wpAny_take (i := 3) (v := ?_) rfl (by kernel_rfl) (by kernel_rfl) (by kernel_rfl) (fun _ _ _ h => h) (Or.inl ⟨by rfl, ?_⟩) ?_
        rotate_left 1
        · first | (intro w; go_simp; done) | (intro w; go_simp; with_reducible rfl)
        try go_simp
        refine wpAny_take (i := 4) (v := ?_) rfl (by kernel_rfl) (by kernel_rfl) (by kernel_rfl) (fun _ _ _ h => h) (Or.inl ⟨by rfl, ?_⟩) ?_
        rotate_left 1
        · first | (intro w; go_simp; done) | (intro w; go_simp; with_reducible rfl)
        try go_simp
        refine wpAny_take (i := 5) (v := undef) rfl (by kernel_rfl) (by kernel_rfl) (by kernel_rfl) (fun _ _ _ h => h) (Or.inr ⟨by rfl, rfl⟩) ?_
        try go_simp
        refine wpAny_take (i := 6) (v := undef) rfl (by kernel_rfl) (by kernel_rfl) (by kernel_rfl) (fun _ _ _ h => h) (Or.inr ⟨by rfl, rfl⟩) ?_
        try go_simp
        refine wpAny_take (i := 7) (v := undef) rfl (by kernel_rfl) (by kernel_rfl) (by kernel_rfl) (fun _ _ _ h => h) (Or.inr ⟨by rfl, rfl⟩) ?_
        try go_simp
        refine wpAny_take (i := 8) (v := undef) rfl (by kernel_rfl) (by kernel_rfl) (by kernel_rfl) (fun _ _ _ h => h) (Or.inr ⟨by rfl, rfl⟩) ?_
        try go_simp
        refine wpAny_take (i := 9) (v := ?_) rfl (by kernel_rfl) (by kernel_rfl) (by kernel_rfl) (fun _ _ _ h => h) (Or.inl ⟨by rfl, ?_⟩) ?_
        rotate_left 1
        · first | (intro w; go_simp; done) | (intro w; go_simp; with_reducible rfl)
        try go_simp
        refine wpAny_take (i := 10) (v := ?_) rfl (by kernel_rfl) (by kernel_rfl) (by kernel_rfl) (fun _ _ _ h => h) (Or.inl ⟨by rfl, ?_⟩) ?_
        rotate_left 1
        · first | (intro w; go_simp; done) | (intro w; go_simp; with_reducible rfl)
        try go_simp
        refine wpAny_take (i := 11) (v := undef) rfl (by kernel_rfl) (by kernel_rfl) (by kernel_rfl) (fun _ _ _ h => h) (Or.inr ⟨by rfl, rfl⟩) ?_
        try go_simp
        refine wpAny_take (i := 12) (v := undef) rfl (by kernel_rfl) (by kernel_rfl) (by kernel_rfl) (fun _ _ _ h => h) (Or.inr ⟨by rfl, rfl⟩) ?_
        try go_simp
        refine wpAny_take (i := 13) (v := undef) rfl (by kernel_rfl) (by kernel_rfl) (by kernel_rfl) (fun _ _ _ h => h) (Or.inr ⟨by rfl, rfl⟩) ?_
        try go_simp
        refine wpAny_take (i := 14) (v := undef) rfl (by kernel_rfl) (by kernel_rfl) (by kernel_rfl) (fun _ _ _ h => h) (Or.inr ⟨by rfl, rfl⟩) ?_
        try go_simp
        refine wpAny_take (i := 15) (v := undef) rfl (by kernel_rfl) (by kernel_rfl) (by kernel_rfl) (fun _ _ _ h => h) (Or.inr ⟨by rfl, rfl⟩) ?_
        try go_simp
        refine wpAny_take (i := 16) (v := undef) rfl (by kernel_rfl) (by kernel_rfl) (by kernel_rfl) (fun _ _ _ h => h) (Or.inr ⟨by rfl, rfl⟩) ?_
        try go_simp
        refine wpAny_take (i := 17) (v := undef) rfl (by kernel_rfl) (by kernel_rfl) (by kernel_rfl) (fun _ _ _ h => h) (Or.inr ⟨by rfl, rfl⟩) ?_
        try go_simp
        refine wpAny_take (i := 18) (v := undef) rfl (by kernel_rfl) (by kernel_rfl) (by kernel_rfl) (fun _ _ _ h => h) (Or.inr ⟨by rfl, rfl⟩) ?_
        try go_simp
        refine wpAny_take (i := 19) (v := undef) rfl (by kernel_rfl) (by kernel_rfl) (by kernel_rfl) (fun _ _ _ h => h) (Or.inr ⟨by rfl, rfl⟩) ?_
        try go_simp
        refine wpAny_take (i := 20) (v := undef) rfl (by kernel_rfl) (by kernel_rfl) (by kernel_rfl) (fun _ _ _ h => h) (Or.inr ⟨by rfl, rfl⟩) ?_
        try go_simp
        refine wpAny_take (i := 21) (v := undef) rfl (by kernel_rfl) (by kernel_rfl) (by kernel_rfl) (fun _ _ _ h => h) (Or.inr ⟨by rfl, rfl⟩) ?_
        try go_simp
        refine wpAny_take (i := 22) (v := undef) rfl (by kernel_rfl) (by kernel_rfl) (by kernel_rfl) (fun _ _ _ h => h) (Or.inr ⟨by rfl, rfl⟩) ?_
        try go_simp
        refine wpAny_take (i := 23) (v := undef) rfl (by kernel_rfl) (by kernel_rfl) (by kernel_rfl) (fun _ _ _ h => h) (Or.inr ⟨by rfl, rfl⟩) ?_
        try go_simp
        refine wpAny_take (i := 24) (v := undef) rfl (by kernel_rfl) (by kernel_rfl) (by kernel_rfl) (fun _ _ _ h => h) (Or.inr ⟨by rfl, rfl⟩) ?_
        try go_simp
        refine wpAny_take (i := 25) (v := undef) rfl (by kernel_rfl) (by kernel_rfl) (by kernel_rfl) (fun _ _ _ h => h) (Or.inr ⟨by rfl, rfl⟩) ?_
        try go_simp
        refine wpAny_take (i := 26) (v := ?_) rfl (by kernel_rfl) (by kernel_rfl) (by kernel_rfl) (fun _ _ _ h => h) (Or.inl ⟨by rfl, ?_⟩) ?_
        rotate_left 1
        · first | (intro w; go_simp; done) | (intro w; go_simp; with_reducible rfl)
        try go_simp
        refine wpAny_done (by kernel_rfl) ?_ _
        have HB3 : Hid (Below w.heap.size w w3) := HB1.out.trans ((HBW.out.drew.trans (hb.mono HBW.out.size)).mono HB1.out.size)
        clear hb
        go_wp2_with fail
        go_ret
        exact ⟨ret_bool HX.out.symm, HB3.out⟩
      cases R
      · have HX : Hid (bookB n m L I = false) := HNO.out (by rw [HOK.out]; rfl)
        refine wp_region_any (by kernel_rfl) ?_
        try (change wpAny _ _ _ _ _ _ _ (World.drew _))
        refine wpAny_take (i := 0) (v := ?_) rfl (by kernel_rfl) (by kernel_rfl) (by kernel_rfl) (fun _ _ _ h => h) (Or.inl ⟨by rfl, ?_⟩) ?_
        rotate_left 1
        · first | (intro w; go_simp; done) | (intro w; go_simp; with_reducible rfl)
        try go_simp
        refine wpAny_ready (rs := [1]) (by kernel_rfl) (by simp) ?_
        refine AllReady.cons rfl (fun K hK => ?_) AllReady.nil
        go_simp
        refine hK _ _ ?_
        clear hK K
        refine wpAny_ready (rs := [2]) (by kernel_rfl) (by simp) ?_
        refine AllReady.cons rfl (fun K hK => ?_) AllReady.nil
        go_simp
        go_wp2_with (first | (go_at_call 43; refine (H1.out _).mono ?_; rintro e w3 ⟨rfl, hb⟩; have s2 : w3.cell? ⟨Q, 2, none⟩ = some (.int .i64 x2) := (hb.cell (p := ⟨Q, 2, none⟩) hQl).trans e2))
        refine wpAny_take (i := 3) (v := ?_) rfl (by kernel_rfl) (by kernel_rfl) (by kernel_rfl) (fun _ _ _ h => h) (Or.inl ⟨by rfl, ?_⟩) ?_
        rotate_left 1
        · first | (intro w; go_simp; done) | (intro w; go_simp; with_reducible rfl)
        try go_simp
        refine wpAny_take (i := 4) (v := ?_) rfl (by kernel_rfl) (by kernel_rfl) (by kernel_rfl) (fun _ _ _ h => h) (Or.inl ⟨by rfl, ?_⟩) ?_
        rotate_left 1
        · first | (intro w; go_simp; done) | (intro w; go_simp; with_reducible rfl)
        try go_simp
        refine wpAny_take (i := 5) (v := ?_) rfl (by kernel_rfl) (by kernel_rfl) (by kernel_rfl) (fun _ _ _ h => h) (Or.inl ⟨by rfl, ?_⟩) ?_
        rotate_left 1
        · first | (intro w; go_simp; done) | (intro w; go_simp; with_reducible rfl)
        try go_simp
        refine wpAny_ready (rs := [6]) (by kernel_rfl) (by simp) ?_
        refine AllReady.cons rfl (fun K hK => ?_) AllReady.nil
        go_simp
        refine hK _ _ ?_
        clear hK K
        refine wpAny_ready (rs := [7]) (by kernel_rfl) (by simp) ?_
        refine AllReady.cons rfl (fun K hK => ?_) AllReady.nil
        go_simp
        go_wp2_with (first | (go_at_call 44; refine (HM.out _).mono ?_; rintro e w4 ⟨rfl, rfl⟩))
        refine wpAny_take (i := 8) (v := ?_) rfl (by kernel_rfl) (by kernel_rfl) (by kernel_rfl) (fun _ _ _ h => h) (Or.inl ⟨by rfl, ?_⟩) ?_
        rotate_left 1
        · first | (intro w; go_simp; done) | (intro w; go_simp; with_reducible rfl)
        try go_simp
        refine wpAny_take (i := 9) (v := ?_) rfl (by kernel_rfl) (by kernel_rfl) (by kernel_rfl) (fun _ _ _ h => h) (Or.inl ⟨by rfl, ?_⟩) ?_
        rotate_left 1
        · first | (intro w; go_simp; done) | (intro w; go_simp; with_reducible rfl)
        try go_simp
        refine wpAny_take (i := 10) (v := ?_) rfl (by kernel_rfl) (by kernel_rfl) (by kernel_rfl) (fun _ _ _ h => h) (Or.inl ⟨by rfl, ?_⟩) ?_
        rotate_left 1
        · first | (intro w; go_simp; done) | (intro w; go_simp; with_reducible rfl)
        try go_simp
        refine wpAny_take (i := 11) (v := undef) rfl (by kernel_rfl) (by kernel_rfl) (by kernel_rfl) (fun _ _ _ h => h) (Or.inr ⟨by rfl, rfl⟩) ?_
        try go_simp
        refine wpAny_take (i := 12) (v := undef) rfl (by kernel_rfl) (by kernel_rfl) (by kernel_rfl) (fun _ _ _ h => h) (Or.inr ⟨by rfl, rfl⟩) ?_
        try go_simp
        refine wpAny_take (i := 13) (v := undef) rfl (by kernel_rfl) (by kernel_rfl) (by kernel_rfl) (fun _ _ _ h => h) (Or.inr ⟨by rfl, rfl⟩) ?_
        try go_simp
        refine wpAny_take (i := 14) (v := undef) rfl (by kernel_rfl) (by kernel_rfl) (by kernel_rfl) (fun _ _ _ h => h) (Or.inr ⟨by rfl, rfl⟩) ?_
        try go_simp
        refine wpAny_take (i := 15) (v := undef) rfl (by kernel_rfl) (by kernel_rfl) (by kernel_rfl) (fun _ _ _ h => h) (Or.inr ⟨by rfl, rfl⟩) ?_
        try go_simp
        refine wpAny_take (i := 16) (v := undef) rfl (by kernel_rfl) (by kernel_rfl) (by kernel_rfl) (fun _ _ _ h => h) (Or.inr ⟨by rfl, rfl⟩) ?_
        try go_simp
        refine wpAny_take (i := 17) (v := undef) rfl (by kernel_rfl) (by kernel_rfl) (by kernel_rfl) (fun _ _ _ h => h) (Or.inr ⟨by rfl, rfl⟩) ?_
        try go_simp
        refine wpAny_take (i := 18) (v := undef) rfl (by kernel_rfl) (by kernel_rfl) (by kernel_rfl) (fun _ _ _ h => h) (Or.inr ⟨by rfl, rfl⟩) ?_
        try go_simp
        refine wpAny_take (i := 19) (v := undef) rfl (by kernel_rfl) (by kernel_rfl) (by kernel_rfl) (fun _ _ _ h => h) (Or.inr ⟨by rfl, rfl⟩) ?_
        try go_simp
        refine wpAny_take (i := 20) (v := undef) rfl (by kernel_rfl) (by kernel_rfl) (by kernel_rfl) (fun _ _ _ h => h) (Or.inr ⟨by rfl, rfl⟩) ?_
        try go_simp
        refine wpAny_take (i := 21) (v := undef) rfl (by kernel_rfl) (by kernel_rfl) (by kernel_rfl) (fun _ _ _ h => h) (Or.inr ⟨by rfl, rfl⟩) ?_
        try go_simp
        refine wpAny_take (i := 22) (v := undef) rfl (by kernel_rfl) (by kernel_rfl) (by kernel_rfl) (fun _ _ _ h => h) (Or.inr ⟨by rfl, rfl⟩) ?_
        try go_simp
        refine wpAny_take (i := 23) (v := undef) rfl (by kernel_rfl) (by kernel_rfl) (by kernel_rfl) (fun _ _ _ h => h) (Or.inr ⟨by rfl, rfl⟩) ?_
        try go_simp
        refine wpAny_take (i := 24) (v := undef) rfl (by kernel_rfl) (by kernel_rfl) (by kernel_rfl) (fun _ _ _ h => h) (Or.inr ⟨by rfl, rfl⟩) ?_
        try go_simp
        refine wpAny_take (i := 25) (v := undef) rfl (by kernel_rfl) (by kernel_rfl) (by kernel_rfl) (fun _ _ _ h => h) (Or.inr ⟨by rfl, rfl⟩) ?_
        try go_simp
        refine wpAny_take (i := 26) (v := ?_) rfl (by kernel_rfl) (by kernel_rfl) (by kernel_rfl) (fun _ _ _ h => h) (Or.inl ⟨by rfl, ?_⟩) ?_
        rotate_left 1
        · first | (intro w; go_simp; done) | (intro w; go_simp; with_reducible rfl)
        try go_simp
        refine wpAny_done (by kernel_rfl) ?_ _
        have HB4 : Hid (Below w.heap.size w w4) := HB1.out.trans ((HBW.out.drew.trans (hb.mono HBW.out.size)).mono HB1.out.size)
        clear hb s2
        go_wp2_with fail
        go_ret
        exact ⟨ret_bool HX.out.symm, HB4.out⟩
      obtain ⟨v0, v1⟩ := HRR.out rfl
      have hsum : IntKind.i64.wrap (sk + x2) = sk + x2 := IntWalk.i64_in _ (by omega)
      rcases Nat.eq_zero_or_pos k with hk0 | hk0
      · subst hk0
        have HY : Hid (∀ j, j < 0 + 1 → okLine L j = true) := HS'.out (by rw [HOK.out]; rfl)
        have u0 : decide ((0 : Int) < 0) = false := rfl
        clear HOK HS' HNO HQ
        refine wp_region_any (by kernel_rfl) ?_
        try (change wpAny _ _ _ _ _ _ _ (World.drew _))
        refine wpAny_take (i := 0) (v := ?_) rfl (by kernel_rfl) (by kernel_rfl) (by kernel_rfl) (fun _ _ _ h => h) (Or.inl ⟨by rfl, ?_⟩) ?_
        rotate_left 1
        · first | (intro w; go_simp; done) | (intro w; go_simp; with_reducible rfl)
        try go_simp
        refine wpAny_ready (rs := [1]) (by kernel_rfl) (by simp) ?_
        refine AllReady.cons rfl (fun K hK => ?_) AllReady.nil
        go_simp
        refine hK _ _ ?_
        clear hK K
        refine wpAny_ready (rs := [2]) (by kernel_rfl) (by simp) ?_
        refine AllReady.cons rfl (fun K hK => ?_) AllReady.nil
        go_simp
        go_wp2_with (first | (go_at_call 43; refine (H1.out _).mono ?_; rintro e w3 ⟨rfl, hb⟩; have s2 : w3.cell? ⟨Q, 2, none⟩ = some (.int .i64 x2) := (hb.cell (p := ⟨Q, 2, none⟩) hQl).trans e2))
        refine wpAny_take (i := 3) (v := ?_) rfl (by kernel_rfl) (by kernel_rfl) (by kernel_rfl) (fun _ _ _ h => h) (Or.inl ⟨by rfl, ?_⟩) ?_
        rotate_left 1
        · first | (intro w; go_simp; done) | (intro w; go_simp; with_reducible rfl)
        try go_simp
        refine wpAny_take (i := 4) (v := ?_) rfl (by kernel_rfl) (by kernel_rfl) (by kernel_rfl) (fun _ _ _ h => h) (Or.inl ⟨by rfl, ?_⟩) ?_
        rotate_left 1
        · first | (intro w; go_simp; done) | (intro w; go_simp; with_reducible rfl)
        try go_simp
        refine wpAny_take (i := 5) (v := ?_) rfl (by kernel_rfl) (by kernel_rfl) (by kernel_rfl) (fun _ _ _ h => h) (Or.inl ⟨by rfl, ?_⟩) ?_
        rotate_left 1
        · first | (intro w; go_simp; done) | (intro w; go_simp; with_reducible rfl)
        try go_simp
        refine wpAny_ready (rs := [6]) (by kernel_rfl) (by simp) ?_
        refine AllReady.cons rfl (fun K hK => ?_) AllReady.nil
        go_simp
        refine hK _ _ ?_
        clear hK K
        refine wpAny_ready (rs := [7]) (by kernel_rfl) (by simp) ?_
        refine AllReady.cons rfl (fun K hK => ?_) AllReady.nil
        go_simp
        go_wp2_with (first | (go_at_call 44; refine (HM.out _).mono ?_; rintro e w4 ⟨rfl, rfl⟩))
        refine wpAny_take (i := 8) (v := ?_) rfl (by kernel_rfl) (by kernel_rfl) (by kernel_rfl) (fun _ _ _ h => h) (Or.inl ⟨by rfl, ?_⟩) ?_
        rotate_left 1
        · first | (intro w; go_simp; done) | (intro w; go_simp; with_reducible rfl)
        try go_simp
        refine wpAny_take (i := 9) (v := ?_) rfl (by kernel_rfl) (by kernel_rfl) (by kernel_rfl) (fun _ _ _ h => h) (Or.inl ⟨by rfl, ?_⟩) ?_
        rotate_left 1
        · first | (intro w; go_simp; done) | (intro w; go_simp; with_reducible rfl)
        try go_simp
        refine wpAny_take (i := 10) (v := ?_) rfl (by kernel_rfl) (by kernel_rfl) (by kernel_rfl) (fun _ _ _ h => h) (Or.inl ⟨by rfl, ?_⟩) ?_
        rotate_left 1
        · first | (intro w; go_simp; done) | (intro w; go_simp; with_reducible rfl)
        try go_simp
        refine wpAny_take (i := 11) (v := ?_) rfl (by kernel_rfl) (by kernel_rfl) (by kernel_rfl) (fun _ _ _ h => h) (Or.inl ⟨by rfl, ?_⟩) ?_
        rotate_left 1
        · first | (intro w; go_simp; done) | (intro w; go_simp; with_reducible rfl)
        try go_simp
        refine wpAny_take (i := 12) (v := ?_) rfl (by kernel_rfl) (by kernel_rfl) (by kernel_rfl) (fun _ _ _ h => h) (Or.inl ⟨by rfl, ?_⟩) ?_
        rotate_left 1
        · first | (intro w; go_simp; done) | (intro w; go_simp; with_reducible rfl)
        try go_simp
        refine wpAny_take (i := 13) (v := ?_) rfl (by kernel_rfl) (by kernel_rfl) (by kernel_rfl) (fun _ _ _ h => h) (Or.inl ⟨by rfl, ?_⟩) ?_
        rotate_left 1
        · first | (intro w; go_simp; done) | (intro w; go_simp; with_reducible rfl)
        try go_simp
        refine wpAny_take (i := 14) (v := undef) rfl (by kernel_rfl) (by kernel_rfl) (by kernel_rfl) (fun _ _ _ h => h) (Or.inr ⟨by rfl, rfl⟩) ?_
        try go_simp
        refine wpAny_take (i := 15) (v := undef) rfl (by kernel_rfl) (by kernel_rfl) (by kernel_rfl) (fun _ _ _ h => h) (Or.inr ⟨by rfl, rfl⟩) ?_
        try go_simp
        refine wpAny_take (i := 16) (v := undef) rfl (by kernel_rfl) (by kernel_rfl) (by kernel_rfl) (fun _ _ _ h => h) (Or.inr ⟨by rfl, rfl⟩) ?_
        try go_simp
        refine wpAny_take (i := 17) (v := undef) rfl (by kernel_rfl) (by kernel_rfl) (by kernel_rfl) (fun _ _ _ h => h) (Or.inr ⟨by rfl, rfl⟩) ?_
        try go_simp
        refine wpAny_take (i := 18) (v := undef) rfl (by kernel_rfl) (by kernel_rfl) (by kernel_rfl) (fun _ _ _ h => h) (Or.inr ⟨by rfl, rfl⟩) ?_
        try go_simp
        refine wpAny_take (i := 19) (v := undef) rfl (by kernel_rfl) (by kernel_rfl) (by kernel_rfl) (fun _ _ _ h => h) (Or.inr ⟨by rfl, rfl⟩) ?_
        try go_simp
        refine wpAny_take (i := 20) (v := undef) rfl (by kernel_rfl) (by kernel_rfl) (by kernel_rfl) (fun _ _ _ h => h) (Or.inr ⟨by rfl, rfl⟩) ?_
        try go_simp
        refine wpAny_take (i := 21) (v := undef) rfl (by kernel_rfl) (by kernel_rfl) (by kernel_rfl) (fun _ _ _ h => h) (Or.inr ⟨by rfl, rfl⟩) ?_
        try go_simp
        refine wpAny_take (i := 22) (v := undef) rfl (by kernel_rfl) (by kernel_rfl) (by kernel_rfl) (fun _ _ _ h => h) (Or.inr ⟨by rfl, rfl⟩) ?_
        try go_simp
        refine wpAny_take (i := 23) (v := undef) rfl (by kernel_rfl) (by kernel_rfl) (by kernel_rfl) (fun _ _ _ h => h) (Or.inr ⟨by rfl, rfl⟩) ?_
        try go_simp
        refine wpAny_take (i := 24) (v := undef) rfl (by kernel_rfl) (by kernel_rfl) (by kernel_rfl) (fun _ _ _ h => h) (Or.inr ⟨by rfl, rfl⟩) ?_
        try go_simp
        refine wpAny_take (i := 25) (v := ?_) rfl (by kernel_rfl) (by kernel_rfl) (by kernel_rfl) (fun _ _ _ h => h) (Or.inl ⟨by rfl, ?_⟩) ?_
        rotate_left 1
        · first | (intro w; go_simp; done) | (intro w; go_simp; with_reducible rfl)
        try go_simp
        refine wpAny_take (i := 26) (v := ?_) rfl (by kernel_rfl) (by kernel_rfl) (by kernel_rfl) (fun _ _ _ h => h) (Or.inl ⟨by rfl, ?_⟩) ?_
        rotate_left 1
        · first | (intro w; go_simp; done) | (intro w; go_simp; with_reducible rfl)
        try go_simp
        refine wpAny_done (by kernel_rfl) ?_ _
        have HB4 : Hid (Below w.heap.size w w4) := HB1.out.trans ((HBW.out.drew.trans (hb.mono HBW.out.size)).mono HB1.out.size)
        have HBx : Hid (Below w1.heap.size w1 w4) := HBW.out.drew.trans (hb.mono HBW.out.size)
        clear hb
        go_wp2_with fail
        go_roundw
        case rel => exact ⟨0 + 1, by go_num, by rw [HSUM.out], by omega, HY, HBx⟩
        case measure => simp [intOf]; omega
      · obtain ⟨J, hJ⟩ : ∃ J : Nat, k = J + 1 := ⟨k - 1, by omega⟩
        have hJi : (k : Int) - 1 = (J : Int) := by omega
        have hJw : IntKind.i64.wrap (J : Int) = (J : Int) := IntWalk.i64_in _ (by omega)
        have hJ0 : (0 : Int) ≤ (J : Int) := by omega
        have hJ1 : (J : Int) < (n : Int) := by omega
        obtain ⟨q0, q1, q2⟩ := HQ.out hk0
        rw [show k - 1 = J by omega] at q0 q1 q2
        have HBWw : Hid (Below w.heap.size w W) := HB1.out.trans (HBW.out.mono HB1.out.size)
        have r0 := (HBWw.out.cell (p := ⟨g, _, none⟩) hg).trans q0
        have r1 := (HBWw.out.cell (p := ⟨g, _, none⟩) hg).trans q1
        have hJn : J < n := by omega
        have t0 : decide (0 < k) = true := by simpa using hk0
        have t1 : decide ((0 : Int) < (k : Int)) = true := by simpa using hk0
        have HOK2 : Hid (ok = lessP q.a q.s x0 x1) := by rw [Hid, HOK.out]; simp; omega
        have HC := spec_less q.a q.s x0 x1
        generalize lessP q.a q.s x0 x1 = l at *
        generalize q.a = y0 at *
        generalize q.s = y1 at *
        have HC : Hid (∀ W, Calls Tryd.prog 45 #[.agg #[.string y0, .string y1], .agg #[.string x0, .string x1]] W fun e w' => e = .returned (.bool l) ∧ Below W.heap.size W w') := HC
        have hgl : g < W.heap.size := Nat.lt_of_lt_of_le hg HBWw.out.size
        clear q0 q1 q2 HQ HOK hJ
        go_region_held3 (fun V => V.cell? ⟨g, o + J * 3, none⟩ = some (.string y0) ∧ V.cell? ⟨g, o + J * 3 + 1, none⟩ = some (.string y1) ∧ V.cell? ⟨Q, 0, none⟩ = some (.string x0) ∧ V.cell? ⟨Q, 1, none⟩ = some (.string x1) ∧ V.cell? ⟨Q, 2, none⟩ = some (.int .i64 x2) ∧ V.cell? ⟨w.heap.size, 0, none⟩ = some (.slice (some ⟨g, o, none⟩) n cap)) (go_keep) (first | (go_at_call 43; refine (H1.out _).mono ?_; rintro e w3 ⟨rfl, hb⟩; have HX3 : Hid (Below W.heap.size W w3) := (Below.refl _ _).drew.trans hb; have w3k0 : w3.cell? ⟨g, o + J * 3, none⟩ = some (.string y0) := (HX3.out.cell (p := ⟨g, o + J * 3, none⟩) hgl).trans r0; have w3k1 : w3.cell? ⟨g, o + J * 3 + 1, none⟩ = some (.string y1) := (HX3.out.cell (p := ⟨g, o + J * 3 + 1, none⟩) hgl).trans r1; have w3k2 : w3.cell? ⟨Q, 0, none⟩ = some (.string x0) := (HX3.out.cell (p := ⟨Q, 0, none⟩) hQl).trans e0; have w3k3 : w3.cell? ⟨Q, 1, none⟩ = some (.string x1) := (HX3.out.cell (p := ⟨Q, 1, none⟩) hQl).trans e1; have w3k4 : w3.cell? ⟨Q, 2, none⟩ = some (.int .i64 x2) := (HX3.out.cell (p := ⟨Q, 2, none⟩) hQl).trans e2; have w3k5 : w3.cell? ⟨w.heap.size, 0, none⟩ = some (.slice (some ⟨g, o, none⟩) n cap) := (HX3.out.cell (p := ⟨w.heap.size, 0, none⟩) hBl).trans eB) | (go_at_call 44; refine (HM.out _).mono ?_; rintro e w4 ⟨rfl, rfl⟩) | (go_at_call 45; refine (HC.out _).mono ?_; rintro e w5 ⟨rfl, hb5⟩; have HX5 : Hid (Below W.heap.size W w5) := HX3.out.trans (hb5.mono HX3.out.size); have w5k0 : w5.cell? ⟨g, o + J * 3, none⟩ = some (.string y0) := (HX5.out.cell (p := ⟨g, o + J * 3, none⟩) hgl).trans r0; have w5k1 : w5.cell? ⟨g, o + J * 3 + 1, none⟩ = some (.string y1) := (HX5.out.cell (p := ⟨g, o + J * 3 + 1, none⟩) hgl).trans r1; have w5k2 : w5.cell? ⟨Q, 0, none⟩ = some (.string x0) := (HX5.out.cell (p := ⟨Q, 0, none⟩) hQl).trans e0; have w5k3 : w5.cell? ⟨Q, 1, none⟩ = some (.string x1) := (HX5.out.cell (p := ⟨Q, 1, none⟩) hQl).trans e1; have w5k4 : w5.cell? ⟨Q, 2, none⟩ = some (.int .i64 x2) := (HX5.out.cell (p := ⟨Q, 2, none⟩) hQl).trans e2; have w5k5 : w5.cell? ⟨w.heap.size, 0, none⟩ = some (.slice (some ⟨g, o, none⟩) n cap) := (HX5.out.cell (p := ⟨w.heap.size, 0, none⟩) hBl).trans eB))
        have HB5 : Hid (Below w.heap.size w w5) := HBWw.out.trans (HX5.out.mono HBWw.out.size)
        have HB6 : Hid (Below w1.heap.size w1 w5) := HBW.out.trans (HX5.out.mono HBW.out.size)
        clear hb hb5 r0 r1 e0 e1 e2 eB w3k0 w3k1 w3k2 w3k3 w3k4 w3k5 w5k0 w5k1 w5k2 w5k3 w5k5
        cases l
        · have HX : Hid (bookB n m L I = false) := HNO.out HOK2.out
          go_wp2_with fail
          go_ret
          exact ⟨ret_bool HX.out.symm, HB5.out⟩
        · have HY : Hid (∀ j, j < k + 1 → okLine L j = true) := HS'.out HOK2.out
          go_wp2_with fail
          go_roundw
          case rel => exact ⟨k + 1, by go_num, by rw [HSUM.out], by omega, HY, HB6⟩
          case measure => simp [intOf]; omega
    · have p0 : decide (k < n) = false := by simpa using hkn
      have p1 : decide ((k : Int) < (n : Int)) = false := by simpa using hkn
      obtain rfl : k = n := by omega
      have HX : Hid (bookB k m L I = (sumL L k == 0)) := by rw [Hid, HBB.out, HID.out, linesB_yes hl1 HS.out]; simp
      go_wp2_with fail
      go_ret
      exact ⟨ret_bool HX.out.symm, HB.out⟩
end Go.Proofs.YtpabdapaegllnaaDoor
