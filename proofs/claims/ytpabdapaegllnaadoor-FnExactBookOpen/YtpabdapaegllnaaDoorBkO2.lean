/- A line opened in a ledger: where it is opened. -/
import Derived.Test.YtpabdapaegllnaaDoorBkO1
namespace Go.Proofs.YtpabdapaegllnaaDoor
open Go.RowKit
open Go.Proofs.YtpabdapaegllnaaDoor.Draw

theorem own_line_at {w : World} {B n c : Nat} {a : Option Addr} {L : Nat → Ln} (h : w.ownsRow B 46 3 (.slice a n c) n (linesC L n)) : LinesAt w a n L := by
  obtain ⟨a', c', e, hl, _⟩ := own_linesAt h
  simp at e
  rw [e.1]
  exact hl
theorem row_not_led {w : World} {B N c l b d : Nat} {ad a : Option Addr} {L : Nat → Ln} (h : w.ownsRow B 46 3 (.slice ad (N + 1) c) (N + 1) (linesC L (N + 1))) (hc : w.cell? ⟨l, 0, none⟩ = some (.slice a b d)) (k : Nat) (e : ad.map Addr.block = some k) : k ≠ l := by
  rintro rfl
  have h0 := h.cells (g := k) (by rw [ownBlock_map]; exact e) 0 _ (linesC_at L (N + 1) 0 (by omega))
  rw [add_off, hc] at h0
  simp [lineF] at h0
theorem rows_apart {w : World} {B N c m c2 : Nat} {ad a2 : Option Addr} {xs ys : List Value} (h : w.ownsRow B 46 3 (.slice ad N c) N xs) (h2 : w.ownsRow B 9 1 (.slice a2 m c2) m ys) (k : Nat) (e : ad.map Addr.block = some k) (e2 : a2.map Addr.block = some k) : False := by
  rcases h with ⟨_, ⟨hv, _⟩ | ⟨g, cap, cur, hv, _, hg, _⟩⟩
  · simp at hv; rw [hv.1] at e; cases e
  rcases h2 with ⟨_, ⟨hv2, _⟩ | ⟨g2, cap2, cur2, hv2, _, hg2, _⟩⟩
  · simp at hv2; rw [hv2.1] at e2; cases e2
  simp at hv hv2
  rw [hv.1] at e
  rw [hv2.1] at e2
  simp at e e2
  subst e e2
  rw [hg] at hg2
  simp at hg2
set_option maxRecDepth 100000 in
set_option maxHeartbeats 16000000 in
theorem open_ok (l : Nat) (a1 : Option Addr) (n c1 : Nat) (a2 : Option Addr) (m c2 : Nat) (v3 : Value) (M : Nat) (L : Nat → Ln) (I : Nat → Tx) (x y : ByteArray) (hx : x.size ≤ maxLen) (hy : y.size ≤ maxLen) (k B : Nat) (hyes : (nameB x && nameB y) = true) (hok : ∀ j, j < n → okLine L j = true) (hf : ∀ j, j < n → (L j).fits) (hfb : findB L x y n = none) (hn : n < 60) (hk : IsPlace L x y n k) (w : World) (hBl : B ≤ l) (hD : Led w l (.slice a1 n c1) (.slice a2 m c2) (.map (some M)) v3) (hmp : w.ownsMap Tryd.prog 38 (plainElem Tryd.prog 3) M n (placesD L n)) (hR : Rows2 w B a1 n c1 L a2 m c2 I) (hn1 : ∀ k, a1.map Addr.block = some k → k ≠ l) (hn2 : ∀ k, a2.map Addr.block = some k → k ≠ l) :
    Calls Tryd.prog 48 #[.pointer (some ⟨l, 0, none⟩), .agg #[.string x, .string y]] w fun e w' => e = .returned .nilIface ∧ ∃ ad c' M', Led w' l (.slice ad (n + 1) c') (.slice a2 m c2) (.map (some M')) v3 ∧ Rows2 w' B ad (n + 1) c' (insL L k x y) a2 m c2 I ∧ Below B w w' := by
  have HSR : Hid (∀ W, Calls Tryd.prog 64 #[.agg #[.string x, .string y]] W fun e w' => e = .returned (.bool (nameB x && nameB y)) ∧ Below W.heap.size W w') := fun W => impl_spot x y hx hy W
  have HB0 : Hid (Below w.heap.size w (w.alloc (.cells #[.string x, .string y] 38))) := (Below.refl _ _).alloc (Nat.le_refl _) _
  have HS0 : Hid (Sc (w.alloc (.cells #[.string x, .string y] 38)) w.heap.size x y) := Sc.new _ _ _ _
  rw [hyes] at HSR
  have hll := hD.lt
  have HD0 : Hid (Led (w.alloc (.cells #[.string x, .string y] 38)) l (.slice a1 n c1) (.slice a2 m c2) (.map (some M)) v3) := hD.below HB0.out
  have HR0 : Hid (Rows2 (w.alloc (.cells #[.string x, .string y] 38)) B a1 n c1 L a2 m c2 I) := hR.below HB0.out
  have q0 : decide (60 ≤ n) = false := by simp; omega
  have q1 : decide ((60 : Int) ≤ (n : Int)) = false := by simp; omega
  have HSE : Hid (∀ W, LinesAt W a1 n L → Calls Tryd.prog 76 #[.slice a1 n c1, .agg #[.string x, .string y, .int .i64 0], .func (Fn.func 77) #[] #[]] W fun e w' => (∃ b, e = .returned (.tuple #[.int .i64 (k : Int), .bool b])) ∧ Below W.heap.size W w') := fun W h => search_line a1 n c1 L (by omega) x y k hk W h
  have HN1 : Hid (∀ k, a1.map Addr.block = some k → k ≠ l) := hn1
  have HN2 : Hid (∀ k, a2.map Addr.block = some k → k ≠ l) := hn2
  go_enter Tryd.func48, Tryd.ntmps48
  go_wp2_with fail
  refine (HSR.out _).mono ?_
  rintro e w1 ⟨rfl, hb⟩
  have hmp' : w1.drew.ownsMap Tryd.prog 38 (plainElem Tryd.prog 3) M n (placesD L n) := (map_below (map_below (map_below hmp HB0.out) hb) (Below.refl _ _).drew)
  obtain ⟨v, ps, hrun, hv⟩ := hmp'.look_ok keySpot Tryd.underlying69 (zeroInt _) (plainElem_int Tryd.underlying3 (by decide)) (spotK_of x y hx hy)
  obtain ⟨cz, rfl, hcz, _⟩ := plainElem_int_inv Tryd.underlying3 hv
  have hfind := places_find hok hf hx hy n (Nat.le_refl _)
  rw [hfind.1] at hrun
  rw [hfb] at hrun
  have hsome : (none : Option Nat).isSome = false := rfl
  rw [hsome] at hrun
  have HB1 : Hid (Below w.heap.size w w1) := HB0.out.trans (hb.mono HB0.out.size)
  have HS1 : Hid (Sc w1 w.heap.size x y) := HS0.out.below hb
  have HD1 : Hid (Led w1 l (.slice a1 n c1) (.slice a2 m c2) (.map (some M)) v3) := HD0.out.below hb
  have HR1 : Hid (Rows2 w1 B a1 n c1 L a2 m c2 I) := HR0.out.below hb
  obtain ⟨s0, s1, slt⟩ := HS1.out
  obtain ⟨e0, e1, e2, e3, ef, elt⟩ := HD1.out
  have n0 : w.heap.size ≠ l := by omega
  have n1 : l ≠ w.heap.size := by omega
  clear hmp hmp' hfind hcz hv hfb hb HB0 HS0 HD0 HR0 hn1 hn2 hR hD
  go_upto_region 3 with fail
  go_region_held3 (fun W => W.cell? ⟨l, 2, none⟩ = some (.map (some M)) ∧ W.cell? ⟨w.heap.size, 0, none⟩ = some (.string x) ∧ W.cell? ⟨w.heap.size, 1, none⟩ = some (.string y)) (go_keep) (fail)
  go_upto_region 9 with fail
  have hb9 : Below w1.heap.size w1 (w1.alloc (.cells #[.string x, .string y, .int .i64 0] 46)).drew := ((Below.refl _ _).alloc (Nat.le_refl _) _).drew
  have HC9 : Hid (Lc (w1.alloc (.cells #[.string x, .string y, .int .i64 0] 46)).drew w1.heap.size x y 0) := (Lc.new w1 x y 0 46).below (Below.refl _ _).drew
  have HD9 : Hid (Led (w1.alloc (.cells #[.string x, .string y, .int .i64 0] 46)).drew l (.slice a1 n c1) (.slice a2 m c2) (.map (some M)) v3) := HD1.out.below hb9
  have HR9 : Hid (Rows2 (w1.alloc (.cells #[.string x, .string y, .int .i64 0] 46)).drew B a1 n c1 L a2 m c2 I) := HR1.out.below hb9
  have HB9 : Hid (Below w.heap.size w (w1.alloc (.cells #[.string x, .string y, .int .i64 0] 46)).drew) := HB1.out.trans (hb9.mono HB1.out.size)
  obtain ⟨W9, hW9⟩ : ∃ W, W = (w1.alloc (.cells #[.string x, .string y, .int .i64 0] 46)).drew := ⟨_, rfl⟩
  obtain ⟨Q, hQ⟩ : ∃ Q, Q = w1.heap.size := ⟨_, rfl⟩
  have hQl : Q ≠ l := by omega
  rw [← hW9] at HC9 HD9 HR9 HB9 ⊢
  rw [← hQ] at HC9 ⊢
  clear hW9 hQ hb9 e0 e1 e2 e3 ef elt s0 s1 slt HS1 HD1 HR1 HB1
  obtain ⟨e0, e1, e2, e3, ef, elt⟩ := HD9.out
  obtain ⟨k0, k1, k2, klt⟩ := HC9.out
  have nl : W9.heap.size ≠ l := by omega
  have nQ : W9.heap.size ≠ Q := by omega
  go_cut [8] (fun v wx => v = .int .i64 (k : Int) ∧ Hid (Lc wx Q x y 0) ∧ Hid (Led wx l (.slice a1 n c1) (.slice a2 m c2) (.map (some M)) v3) ∧ Hid (Rows2 wx B a1 n c1 L a2 m c2 I) ∧ Hid (Below w.heap.size w wx))
  case first =>
    go_region_held3 (fun W => W.cell? ⟨l, 0, none⟩ = some (.slice a1 n c1) ∧ W.cell? ⟨Q, 0, none⟩ = some (.string x) ∧ W.cell? ⟨Q, 1, none⟩ = some (.string y) ∧ W.cell? ⟨Q, 2, none⟩ = some (.int .i64 0)) (go_keep) (first | (go_at_call 76; refine (HSE.out _ (own_line_at (by first | exact HR9.out.r1 | exact (HR9.out.below (Below.refl _ _).drew).r1))).mono ?_; rintro e wa ⟨⟨bb, rfl⟩, hba⟩; have hz : Below W9.heap.size W9 wa := (by first | exact hba | exact (Below.refl _ _).drew.trans hba); have Ca := HC9.out.below hz; have Da := HD9.out.below hz; have f0 := Da.c0; have f1 := Ca.c0; have f2 := Ca.c1; have f3 := Ca.c2; have nl : wa.heap.size ≠ l := (by have := Da.lt; omega); have nQ : wa.heap.size ≠ Q := (by have := Ca.lt; omega)))
    all_goals go_wp2_with fail
    all_goals go_meet
    all_goals exact ⟨rfl, Ca, Da, HR9.out.below hz, HB9.out.trans (hz.mono HB9.out.size)⟩
  case rest =>
    obtain ⟨rfl, HCc, HDc, HRc, HBc⟩ := hcut
    clear HC9 HD9 HR9 HB9 e0 e1 e2 e3 ef elt k0 k1 k2 klt nl nQ
    have HIN : Hid (∀ W vb, Below wc.heap.size wc W → wc.heap.size ≤ vb → W.heap[vb]? = some (.cells #[.string x, .string y, .int .i64 0] 46 (0, 0)) → Calls Tryd.prog 78 #[.slice a1 n c1, .int .i64 (k : Int), .slice (some ⟨vb, 0, none⟩) 1 1] W fun e w' => ∃ ad c', e = .returned (.slice ad (n + 1) c') ∧ w'.ownsRow B 46 3 (.slice ad (n + 1) c') (n + 1) (linesC (insL L k x y) (n + 1)) ∧ W.grownBy w' (a1.map Addr.block)) := fun W vb hb hvb hh => by
      rw [ins_lines L k x y n hk.1]
      exact insert_line B a1 n c1 k vb (linesC L n) _ _ _ W (by have := hb.size; have := HDc.out.lt; omega) (by omega) hk.1 (own_below HRc.out.r1 hb) (ones_lines L n) ⟨rfl, rfl, rfl⟩ hh (fun j e => by have := (HRc.out.lt1 j e).2; omega)
    obtain ⟨e0, e1, e2, e3, ef, elt⟩ := HDc.out
    obtain ⟨k0, k1, k2, klt⟩ := HCc.out
    have nl : wc.heap.size ≠ l := by omega
    have nQ : wc.heap.size ≠ Q := by omega
    go_upto_region 10 with fail
    go_cut [] (fun wx => ∃ ad c', Led wx l (.slice ad (n + 1) c') (.slice a2 m c2) (.map (some M)) v3 ∧ Rows2 wx B ad (n + 1) c' (insL L k x y) a2 m c2 I ∧ (∀ k, ad.map Addr.block = some k → k ≠ l) ∧ Below B w wx)
    case first =>
      go_region_with (go_at_call 78; refine (HIN.out _ _ (by first | exact ((Below.refl _ _).alloc (Nat.le_refl _) _).drew | exact ((Below.refl _ _).drew).alloc (Nat.le_refl _) _) (by first | exact Nat.le_refl _ | omega) (by show (wc.heap.push (.cells #[.string x, .string y, .int .i64 0] 46 (0, 0)))[wc.heap.size]? = _; simp)).mono ?_; rintro e w5 ⟨ad, cc, rfl, ho, hg⟩; have D5 := (HDc.out.below (((Below.refl _ _).alloc (Nat.le_refl _) (.cells #[.string x, .string y, .int .i64 0] 46)).drew)).grown hg (fun e => HN1.out l e.symm rfl); obtain ⟨g0, g1, g2, g3, gf, glt⟩ := id D5)
      all_goals go_wp2_with fail
      all_goals go_meet
      all_goals
        have hbW : Below wc.heap.size wc (wc.alloc (.cells #[.string x, .string y, .int .i64 0] 46)).drew := ((Below.refl _ _).alloc (Nat.le_refl _) _).drew
        have RW := HRc.out.below hbW
        have hadl := row_not_led ho g0
        have hr2 := RW.r2.kept hg (by
          rw [ownBlock_map]
          cases e : a2.map Addr.block with
          | none => exact Or.inl rfl
          | some j => exact Or.inr (fun e' => HRc.out.ne j e'.symm e))
        have R5 : Rows2 w5 B ad (n + 1) cc (insL L k x y) a2 m c2 I := ⟨ho, hr2, fun j e e' => rows_apart ho hr2 j e e'⟩
        refine ⟨ad, cc, D5.set0 _, R5.kept (row := some l) (setGrown (World.grownBy.refl _ _)) (fun j e => by simpa using hadl j e) (fun j e => by simpa using HN2.out j e), hadl, ?_⟩
        have hBw : B ≤ w.heap.size := by omega
        have hBc : B ≤ wc.heap.size := by have := HBc.out.size; omega
        exact (((HBc.out.mono hBw).trans (hbW.mono hBc)).grown hg (by have := hbW.size; omega) (fun j e => (HRc.out.lt1 j e).1)).setCell (by show B ≤ l; omega) _
    case rest =>
      obtain ⟨ad, c', D6, R6, hadl, hB6⟩ := hcut
      have HD6 : Hid (Led wc l (.slice ad (n + 1) c') (.slice a2 m c2) (.map (some M)) v3) := D6
      have HR6 : Hid (Rows2 wc B ad (n + 1) c' (insL L k x y) a2 m c2 I) := R6
      have HNA : Hid (∀ k, ad.map Addr.block = some k → k ≠ l) := hadl
      have HB6 : Hid (Below B w wc) := hB6
      have HIX : Hid (Calls Tryd.prog 68 _ _ _) := impl_index l ad (n + 1) c' (insL L k x y) (by omega) (fun i hi => insL_fits hx hy hf i hi hk.1) (.map (some M)) wc (own_line_at R6.r1) hadl D6.lt D6.c0 D6.c2 (D6.fz 2)
      clear D6 R6 hadl hB6 HIN HSE HSR
      go_wp2_with fail
      refine HIX.out.mono ?_
      rintro e w7 ⟨rfl, M', hM, hc2, hmp, hg6, hsame, hfr⟩
      have D7 : Led w7 l (.slice ad (n + 1) c') (.slice a2 m c2) (.map (some M')) v3 := ⟨(hsame 0 (by omega)).trans HD6.out.c0, (hsame 1 (by omega)).trans HD6.out.c1, hc2, (hsame 3 (by omega)).trans HD6.out.c3, fun j => (hfr j).trans (HD6.out.fz j), Nat.lt_of_lt_of_le HD6.out.lt hg6.size⟩
      have R7 := HR6.out.kept hg6 (fun j e => by simpa using HNA.out j e) (fun j e => by simpa using HN2.out j e)
      have B7 : Below B w w7 := HB6.out.grown hg6 (by have := HB6.out.size; omega) (fun j e => by simp at e; omega)
      have HP : Hid (∃ ad c' M', Led w7 l (.slice ad (n + 1) c') (.slice a2 m c2) (.map (some M')) v3 ∧ Rows2 w7 B ad (n + 1) c' (insL L k x y) a2 m c2 I ∧ Below B w w7) := ⟨ad, c', M', D7, R7, B7⟩
      clear D7 R7 B7 hM hc2 hmp hg6 hsame hfr HIX
      go_wp2_with fail
      refine bodyPost_ret (v := .nilIface) ?_ rfl ⟨rfl, HP.out⟩
      simp [results, Tryd.results48, go_sem]
end Go.Proofs.YtpabdapaegllnaaDoor
