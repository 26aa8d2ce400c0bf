/- Right lines (impl.linesRight): what the call does. -/
import Derived.Test.YtpabdapaegllnaaDoorBkI
namespace Go.Proofs.YtpabdapaegllnaaDoor
open Go.RowKit
open Go.Proofs.YtpabdapaegllnaaDoor.Draw

set_option maxRecDepth 100000 in
set_option maxHeartbeats 4000000 in
theorem impl_lines (a : Option Addr) (n cap : Nat) (L : Nat → Ln) (hn : n ≤ 1048576) (hfit : ∀ i, i < n → (L i).fits) (w : World) (h : LinesAt w a n L) :
    Calls Tryd.prog 66 #[.slice a n cap] w fun e w' => e = .returned (.bool (linesB n L)) ∧ Below w.heap.size w w' := by
  have HL : Hid (LinesAt w a n L) := h
  have HF : Hid (∀ i, i < n → (L i).fits) := hfit
  clear h hfit
  by_cases hlim : n ≤ 60
  · have z0 : decide (60 < n) = false := by simp; omega
    have z1 : decide ((60 : Int) < (n : Int)) = false := by simp; omega
    go_enter Tryd.func66, Tryd.ntmps66
    go_wp2_with fail
    go_loopw [10] (fun i wr => ∃ k : Nat, i = .int .i64 (k : Int) ∧ k ≤ n ∧ Hid (∀ j, j < k → okLine L j = true) ∧ Hid (Below w.heap.size w wr)) (fun i _ => n - (intOf i).toNat)
    case atStart => exact ⟨0, rfl, by omega, fun j hj => by omega, Below.refl _ _⟩
    case round =>
      obtain ⟨k, rfl, hk, HS, HB⟩ := hrel
      by_cases hkn : k < n
      · have p0 : decide (k < n) = true := by simpa using hkn
        have p1 : decide ((k : Int) < (n : Int)) = true := by simpa using hkn
        rcases HL.out with h0 | ⟨g, o, rfl, hg, hc⟩
        · omega
        obtain ⟨c0, c1, c2⟩ := hc k hkn
        have d0 := (HB.out.cell (p := ⟨g, _, none⟩) hg).trans c0
        have d1 := (HB.out.cell (p := ⟨g, _, none⟩) hg).trans c1
        have d2 := (HB.out.cell (p := ⟨g, _, none⟩) hg).trans c2
        obtain ⟨f0, f1⟩ := HF.out k hkn
        have HS' : Hid (okLine L k = true → ∀ j, j < k + 1 → okLine L j = true) := fun hsm j hj => by
          by_cases e : j = k
          · rw [e]; exact hsm
          · exact HS.out j (by omega)
        have HNO : Hid (okLine L k = false → linesB n L = false) := linesB_no hkn
        have H1 := fun W => impl_spot (L k).a (L k).s f0 f1 W
        have HOK : Hid (okLine L k = ((nameB (L k).a && nameB (L k).s) && rightB (L k).m && (decide (k = 0) || lessP (L (k - 1)).a (L (k - 1)).s (L k).a (L k).s))) := rfl
        obtain ⟨q, hq⟩ : ∃ q, q = L (k - 1) := ⟨_, rfl⟩
        have HQ : Hid (0 < k → w.cell? ⟨g, o + (k - 1) * 3, none⟩ = some (.string q.a) ∧ w.cell? ⟨g, o + (k - 1) * 3 + 1, none⟩ = some (.string q.s) ∧ w.cell? ⟨g, o + (k - 1) * 3 + 2, none⟩ = some (.int .i64 q.m)) := fun h => by rw [hq]; exact hc (k - 1) (by omega)
        rw [← hq] at HOK
        clear hc HS f0 f1 c0 c1 c2 hq
        generalize okLine L k = ok at *
        generalize (nameB (L k).a && nameB (L k).s) = A at *
        generalize (L k).a = x0 at *
        generalize (L k).s = x1 at *
        generalize (L k).m = x2 at *
        have H1 : Hid (∀ W, Calls Tryd.prog 64 #[.agg #[.string x0, .string x1]] W fun e w' => e = .returned (.bool A) ∧ Below W.heap.size W w') := H1
        have hgr : g < wr.heap.size := Nat.lt_of_lt_of_le hg HB.out.size
        go_wp2_with fail
        refine (H1.out _).mono ?_
        rintro e w1 ⟨rfl, hb1⟩
        have hz1 : wr.heap.size < w1.heap.size := by have := hb1.size; simp at this; omega
        have HB1 : Hid (Below w.heap.size w w1) := (HB.out.alloc HB.out.size _).trans (hb1.mono (by have := HB.out.size; simp; omega))
        have e0 : w1.cell? ⟨wr.heap.size, 0, none⟩ = some (.string x0) := (hb1.cell (p := ⟨wr.heap.size, 0, none⟩) (by simp)).trans (by simp)
        have e1 : w1.cell? ⟨wr.heap.size, 1, none⟩ = some (.string x1) := (hb1.cell (p := ⟨wr.heap.size, 1, none⟩) (by simp)).trans (by simp)
        have e2 : w1.cell? ⟨wr.heap.size, 2, none⟩ = some (.int .i64 x2) := (hb1.cell (p := ⟨wr.heap.size, 2, none⟩) (by simp)).trans (by simp)
        clear d0 d1 d2 hb1
        cases A
        · have HX : Hid (linesB n L = false) := HNO.out (by rw [HOK.out]; rfl)
          go_wp2_with fail
          go_ret
          exact ⟨ret_bool HX.out.symm, HB1.out⟩
        go_wp2_with fail
        refine (impl_right x2 _).mono ?_
        rintro e w2 ⟨rfl, rfl⟩
        cases hR : rightB x2
        · have HX : Hid (linesB n L = false) := HNO.out (by rw [HOK.out, hR]; rfl)
          go_wp2_with fail
          go_ret
          exact ⟨ret_bool HX.out.symm, HB1.out⟩
        rcases Nat.eq_zero_or_pos k with hk0 | hk0
        · subst hk0
          have HY : Hid (∀ j, j < 0 + 1 → okLine L j = true) := HS'.out (by rw [HOK.out, hR]; rfl)
          have u0 : decide ((0 : Int) < 0) = false := rfl
          clear HOK HS' HNO HQ
          go_upto_region 8 with fail
          have HBN : Hid (∀ d, Below w.heap.size w (w2.drewN d)) := fun d => ⟨HB1.out.os, HB1.out.tape, HB1.out.output, HB1.out.size, HB1.out.block⟩
          go_quiet (fail)
          go_wp2_with fail
          go_roundw
          case rel => exact ⟨0 + 1, by go_num, by omega, HY, HBN.out _⟩
          case measure => simp [intOf]; omega
        · obtain ⟨J, hJ⟩ : ∃ J : Nat, k = J + 1 := ⟨k - 1, by omega⟩
          have hJi : (k : Int) - 1 = (J : Int) := by omega
          have hJw : IntKind.i64.wrap (J : Int) = (J : Int) := IntWalk.i64_in _ (by omega)
          have hJ0 : (0 : Int) ≤ (J : Int) := by omega
          have hJ1 : (J : Int) < (n : Int) := by omega
          obtain ⟨q0, q1, q2⟩ := HQ.out hk0
          rw [show k - 1 = J by omega] at q0 q1 q2
          have r0 := (HB1.out.cell (p := ⟨g, _, none⟩) hg).trans q0
          have r1 := (HB1.out.cell (p := ⟨g, _, none⟩) hg).trans q1
          have r2 := (HB1.out.cell (p := ⟨g, _, none⟩) hg).trans q2
          have hJn : J < n := by omega
          have t0 : decide (0 < k) = true := by simpa using hk0
          have t1 : decide ((0 : Int) < (k : Int)) = true := by simpa using hk0
          have HOK2 : Hid (ok = lessP q.a q.s x0 x1) := by rw [Hid, HOK.out, hR]; simp; omega
          have HC := impl_cmp q.a q.s x0 x1 q.m x2
          have HCN : Hid (decide (0 ≤ cmpP q.a q.s x0 x1) = !lessP q.a q.s x0 x1) := cmpP_neg _ _ _ _
          obtain ⟨z0', z1'⟩ := cmpP_range q.a q.s x0 x1
          generalize cmpP q.a q.s x0 x1 = z at *
          generalize lessP q.a q.s x0 x1 = l at *
          generalize q.a = y0 at *
          generalize q.s = y1 at *
          generalize q.m = y2 at *
          have HC : Hid (∀ W, Calls Tryd.prog 77 #[.agg #[.string y0, .string y1, .int .i64 y2], .agg #[.string x0, .string x1, .int .i64 x2]] W fun e w' => e = .returned (.int .i64 z) ∧ Below W.heap.size W w') := HC
          have hgr2 : g < w2.heap.size := Nat.lt_of_lt_of_le hg HB1.out.size
          clear q0 q1 q2 HQ HOK hJ
          obtain ⟨Q, hQ⟩ : ∃ Q, Q = wr.heap.size := ⟨_, rfl⟩
          rw [← hQ] at e0 e1 e2 hz1 ⊢
          clear hQ
          go_upto_region 8 with fail
          go_region_held3 (fun V => V.cell? ⟨g, o + J * 3, none⟩ = some (.string y0) ∧ V.cell? ⟨g, o + J * 3 + 1, none⟩ = some (.string y1) ∧ V.cell? ⟨g, o + J * 3 + 2, none⟩ = some (.int .i64 y2) ∧ V.cell? ⟨Q, 0, none⟩ = some (.string x0) ∧ V.cell? ⟨Q, 1, none⟩ = some (.string x1) ∧ V.cell? ⟨Q, 2, none⟩ = some (.int .i64 x2)) (go_keep) (first | (go_at_call 77; refine (HC.out _).mono ?_; rintro e w3 ⟨rfl, hb⟩; have s0 : w3.cell? ⟨g, o + J * 3, none⟩ = some (.string y0) := (hb.cell (p := ⟨g, o + J * 3, none⟩) hgr2).trans r0; have s1 : w3.cell? ⟨g, o + J * 3 + 1, none⟩ = some (.string y1) := (hb.cell (p := ⟨g, o + J * 3 + 1, none⟩) hgr2).trans r1; have s2 : w3.cell? ⟨g, o + J * 3 + 2, none⟩ = some (.int .i64 y2) := (hb.cell (p := ⟨g, o + J * 3 + 2, none⟩) hgr2).trans r2; have s3 : w3.cell? ⟨Q, 0, none⟩ = some (.string x0) := (hb.cell (p := ⟨Q, 0, none⟩) hz1).trans e0; have s4 : w3.cell? ⟨Q, 1, none⟩ = some (.string x1) := (hb.cell (p := ⟨Q, 1, none⟩) hz1).trans e1; have s5 : w3.cell? ⟨Q, 2, none⟩ = some (.int .i64 x2) := (hb.cell (p := ⟨Q, 2, none⟩) hz1).trans e2))
          have HB3 : Hid (Below w.heap.size w w3) := HB1.out.trans (((Below.refl _ _).drew.trans hb).mono HB1.out.size)
          clear hb r0 r1 r2 e0 e1 e2 s0 s1 s2 s3 s4 s5
          cases l
          · have HX : Hid (linesB n L = false) := HNO.out HOK2.out
            have t2 : decide (0 ≤ z) = true := HCN.out
            have hz : 0 ≤ z := by simpa using t2
            have t3 : decide (z < 0) = false := by simp; omega
            go_wp2_with fail
            go_ret
            exact ⟨ret_bool HX.out.symm, HB3.out⟩
          · have HY : Hid (∀ j, j < k + 1 → okLine L j = true) := HS'.out HOK2.out
            have t2 : decide (0 ≤ z) = false := HCN.out
            have hz : z < 0 := by simpa using t2
            have t3 : decide (z < 0) = true := by simpa using hz
            go_wp2_with fail
            go_roundw
            case rel => exact ⟨k + 1, by go_num, by omega, HY, HB3⟩
            case measure => simp [intOf]; omega
      · have p0 : decide (k < n) = false := by simpa using hkn
        have p1 : decide ((k : Int) < (n : Int)) = false := by simpa using hkn
        obtain rfl : k = n := by omega
        go_wp2_with fail
        go_ret
        exact ⟨ret_bool (linesB_yes hlim HS.out).symm, HB.out⟩
  · have z0 : decide (60 < n) = true := by simp; omega
    have z1 : decide ((60 : Int) < (n : Int)) = true := by simp; omega
    go_enter Tryd.func66, Tryd.ntmps66
    go_wp2_with fail
    go_ret
    exact ⟨ret_bool (by simp [linesB, hlim]), Below.refl _ _⟩
end Go.Proofs.YtpabdapaegllnaaDoor
