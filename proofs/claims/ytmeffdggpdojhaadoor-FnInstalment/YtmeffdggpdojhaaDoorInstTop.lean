/- The law FnInstalment: a drawn right loan's instalment leaves nothing, one hundredth less leaves something, a greater loan has no lesser one. -/
import Derived.Test.YtmeffdggpdojhaaDoorPlanTop
import Derived.Laws.StructEq
namespace Go.Proofs.YtmeffdggpdojhaaDoor
open Go.RowKit

/-- A greater loan, or one at a higher rate: refused, or with no lesser instalment. -/
theorem inst_more {p r b s p' r' : Int} {n X : Nat} (hok : LoanOk p r b s (n : Int)) (hX : IsInst p r b s n X) {N c : Int} (hI : InstOf p' r' b s n (N, c)) (hp : p ≤ p') (hr : r ≤ r') : c = 1 ∨ (c = 0 ∧ (X : Int) ≤ N) := by
  rcases hI with ⟨_, he⟩ | ⟨n', X', hn, _, hX', he⟩
  · simp at he; exact Or.inl he.2
  · simp at he
    obtain ⟨rfl, rfl⟩ := he
    have hn' : n' = n := by omega
    subst hn'
    refine Or.inr ⟨rfl, ?_⟩
    have := hX.mono hX' hp hr (hok.left (pay := ((X' : Nat) : Int)) (by omega) n' (by omega)).1
    omega

set_option maxRecDepth 100000 in
set_option maxHeartbeats 16000000 in
theorem law_topInstalment (a : Option Addr) (len cap : Nat) (zs : List Int) (w : World) (hM : Mon w) (hL : Lay w) (hrow : Draw.IsRow .u8 w a len cap zs) :
    Calls Tryd.prog 3 #[.slice a len cap] w fun e w' => e = .returned (.bool true) ∧ Below w.heap.size w w' := by
  have hlm : len ≤ maxLen := by rcases hrow with ⟨_, rfl, _⟩ | ⟨_, _, h1, h2, _⟩ <;> unfold maxLen at * <;> omega
  unfold maxLen at hlm
  by_cases hbig : 1048576 < len
  · have q0 : decide ((1048576 : Int) < (len : Int)) = true := by simp; omega
    have q1 : decide (1048576 < len) = true := by simp; omega
    go_enter Tryd.func3, Tryd.ntmps3
    go_wp2_with fail
    go_ret
    exact ⟨rfl, Below.refl _ _⟩
  have hsm : len ≤ 1048576 := by omega
  clear hbig
  have q0 : decide ((1048576 : Int) < (len : Int)) = false := by simp; omega
  have q1 : decide (1048576 < len) = false := by simp; omega
  have HM : Hid (Mon w) := hM
  have HL : Hid (Lay w) := hL
  have HD := Draw.draw_instalment hrow hsm w (Below.refl _ _)
  have HD : Hid (Calls Tryd.prog 9 #[.slice a len cap] w fun e w' => ∃ x0 x1 x2 x3 x4 : Int, e = .returned (.agg #[.int .i64 x0, .int .i64 x1, .int .i64 x2, .int .i64 x3, .int .i64 x4]) ∧ Below w.heap.size w w') := HD
  clear hM hL hrow hsm
  go_enter Tryd.func3, Tryd.ntmps3
  go_wp2_with fail
  refine HD.out.mono ?_
  rintro e w1 ⟨p, r, b, s, t, rfl, hb1⟩
  have HB1 : Hid (Below w.heap.size w (w1.alloc (.cells #[.int .i64 p, .int .i64 r, .int .i64 b, .int .i64 s, .int .i64 t] 24))) := hb1.alloc hb1.size _
  have KL1 : Hid (Blk (w1.alloc (.cells #[.int .i64 p, .int .i64 r, .int .i64 b, .int .i64 s, .int .i64 t] 24)) w1.heap.size #[.int .i64 p, .int .i64 r, .int .i64 b, .int .i64 s, .int .i64 t]) := blk_new _ _ _
  clear hb1 HD
  obtain ⟨⟨N, c⟩, hI⟩ := inst_of p r b s t
  have HI : Hid (InstOf p r b s t (N, c)) := hI
  clear hI
  go_wp2_with fail
  refine (impl_Instalment p r b s t (N, c) HI.out _ (HM.out.below HB1.out) (HL.out.below HB1.out)).mono ?_
  rintro e w2 ⟨rfl, hb2⟩
  simp only [moneyV]
  have HB2 : Hid (Below w.heap.size w w2) := HB1.out.trans (hb2.mono HB1.out.size)
  have KL2 : Hid (Blk w2 w1.heap.size #[.int .i64 p, .int .i64 r, .int .i64 b, .int .i64 s, .int .i64 t]) := KL1.out.next hb2
  clear hb2 KL1
  have hne : w2.heap.size ≠ w1.heap.size := by have := KL2.out.lt; omega
  have HSI : Hid (∀ W, Calls Tryd.prog 11 #[.agg #[.int .i64 p, .int .i64 r, .int .i64 b, .int .i64 s, .int .i64 t]] W fun e w' => e = .returned (.agg #[.int .i64 N, .int .i64 c]) ∧ Below W.heap.size W w') := fun W => spec_Instalment p r b s t (N, c) HI.out W
  have HSR : Hid (∀ W, Calls Tryd.prog 13 #[.agg #[.int .i64 p, .int .i64 r, .int .i64 b, .int .i64 s, .int .i64 t]] W fun e w' => e = .returned (.bool (loanB p r b s t)) ∧ Below W.heap.size W w') := fun W => spec_loanRight p r b s t W
  have HIR : Hid (∀ W, Mon W → Calls Tryd.prog 12 #[.agg #[.int .i64 p, .int .i64 r, .int .i64 b, .int .i64 s, .int .i64 t]] W fun e w' => e = .returned (.bool (loanB p r b s t)) ∧ Below W.heap.size W w') := fun W hM => impl_loanRight p r b s t W hM
  generalize loanB p r b s t = lb at *
  go_upto_region 5 with fail
  obtain ⟨W, hW⟩ : ∃ W, W = w2.alloc (.cells #[.int .i64 N, .int .i64 c] 27) := ⟨_, rfl⟩
  have HBW : Hid (Below w.heap.size w W) := by rw [Hid, hW]; exact HB2.out.alloc HB2.out.size _
  have KP : Hid (Blk W w2.heap.size #[.int .i64 N, .int .i64 c]) := by rw [Hid, hW]; exact blk_new _ _ _
  have KL : Hid (Blk W w1.heap.size #[.int .i64 p, .int .i64 r, .int .i64 b, .int .i64 s, .int .i64 t]) := by rw [Hid, hW]; exact KL2.out.alloc _
  rw [← hW]
  clear hW KL2 HB2
  obtain ⟨P, hP⟩ : ∃ P, P = w2.heap.size := ⟨_, rfl⟩
  obtain ⟨Q, hQ⟩ : ∃ Q, Q = w1.heap.size := ⟨_, rfl⟩
  rw [← hP] at KP hne ⊢
  rw [← hQ] at KL hne ⊢
  clear hP hQ
  have d0 := KP.out.cell 0
  have d1 := KP.out.cell 1
  have c0 := KL.out.cell 0
  have c1 := KL.out.cell 1
  have c2 := KL.out.cell 2
  have c3 := KL.out.cell 3
  have c4 := KL.out.cell 4
  simp at d0 d1 c0 c1 c2 c3 c4
  have hPl := KP.out.lt
  have hQl := KL.out.lt
  have HMW : Hid (Mon W) := HM.out.below HBW.out
  have hxx : ∀ x : Int, (x != x) = false := fun x => by simp
  have hlb : (lb != lb) = false := by simp
  go_region_held3 (fun V => V.cell? ⟨P, 0, none⟩ = some (.int .i64 N) ∧ V.cell? ⟨P, 1, none⟩ = some (.int .i64 c) ∧ V.cell? ⟨Q, 0, none⟩ = some (.int .i64 p) ∧ V.cell? ⟨Q, 1, none⟩ = some (.int .i64 r) ∧ V.cell? ⟨Q, 2, none⟩ = some (.int .i64 b) ∧ V.cell? ⟨Q, 3, none⟩ = some (.int .i64 s) ∧ V.cell? ⟨Q, 4, none⟩ = some (.int .i64 t)) (go_keep) (first | (go_at_call 11; refine (HSI.out _).mono ?_; rintro e w3 ⟨rfl, hb⟩; have HX3 : Hid (Below W.heap.size W w3) := (Below.refl _ _).drew.trans hb; have w3x0 : w3.cell? ⟨P, 0, none⟩ = some (.int .i64 N) := (HX3.out.cell (p := ⟨P, 0, none⟩) hPl).trans d0; have w3x1 : w3.cell? ⟨P, 1, none⟩ = some (.int .i64 c) := (HX3.out.cell (p := ⟨P, 1, none⟩) hPl).trans d1; have w3x2 : w3.cell? ⟨Q, 0, none⟩ = some (.int .i64 p) := (HX3.out.cell (p := ⟨Q, 0, none⟩) hQl).trans c0; have w3x3 : w3.cell? ⟨Q, 1, none⟩ = some (.int .i64 r) := (HX3.out.cell (p := ⟨Q, 1, none⟩) hQl).trans c1; have w3x4 : w3.cell? ⟨Q, 2, none⟩ = some (.int .i64 b) := (HX3.out.cell (p := ⟨Q, 2, none⟩) hQl).trans c2; have w3x5 : w3.cell? ⟨Q, 3, none⟩ = some (.int .i64 s) := (HX3.out.cell (p := ⟨Q, 3, none⟩) hQl).trans c3; have w3x6 : w3.cell? ⟨Q, 4, none⟩ = some (.int .i64 t) := (HX3.out.cell (p := ⟨Q, 4, none⟩) hQl).trans c4) | (go_at_call 12; refine (HIR.out _ (HMW.out.below HX3.out)).mono ?_; rintro e w4 ⟨rfl, hb⟩; have HX4 : Hid (Below W.heap.size W w4) := HX3.out.trans (hb.mono HX3.out.size); have w4x0 : w4.cell? ⟨P, 0, none⟩ = some (.int .i64 N) := (HX4.out.cell (p := ⟨P, 0, none⟩) hPl).trans d0; have w4x1 : w4.cell? ⟨P, 1, none⟩ = some (.int .i64 c) := (HX4.out.cell (p := ⟨P, 1, none⟩) hPl).trans d1; have w4x2 : w4.cell? ⟨Q, 0, none⟩ = some (.int .i64 p) := (HX4.out.cell (p := ⟨Q, 0, none⟩) hQl).trans c0; have w4x3 : w4.cell? ⟨Q, 1, none⟩ = some (.int .i64 r) := (HX4.out.cell (p := ⟨Q, 1, none⟩) hQl).trans c1; have w4x4 : w4.cell? ⟨Q, 2, none⟩ = some (.int .i64 b) := (HX4.out.cell (p := ⟨Q, 2, none⟩) hQl).trans c2; have w4x5 : w4.cell? ⟨Q, 3, none⟩ = some (.int .i64 s) := (HX4.out.cell (p := ⟨Q, 3, none⟩) hQl).trans c3; have w4x6 : w4.cell? ⟨Q, 4, none⟩ = some (.int .i64 t) := (HX4.out.cell (p := ⟨Q, 4, none⟩) hQl).trans c4) | (go_at_call 13; refine (HSR.out _).mono ?_; rintro e w5 ⟨rfl, hb⟩; have HX5 : Hid (Below W.heap.size W w5) := HX4.out.trans (hb.mono HX4.out.size); have w5x0 : w5.cell? ⟨P, 0, none⟩ = some (.int .i64 N) := (HX5.out.cell (p := ⟨P, 0, none⟩) hPl).trans d0; have w5x1 : w5.cell? ⟨P, 1, none⟩ = some (.int .i64 c) := (HX5.out.cell (p := ⟨P, 1, none⟩) hPl).trans d1; have w5x2 : w5.cell? ⟨Q, 0, none⟩ = some (.int .i64 p) := (HX5.out.cell (p := ⟨Q, 0, none⟩) hQl).trans c0; have w5x3 : w5.cell? ⟨Q, 1, none⟩ = some (.int .i64 r) := (HX5.out.cell (p := ⟨Q, 1, none⟩) hQl).trans c1; have w5x4 : w5.cell? ⟨Q, 2, none⟩ = some (.int .i64 b) := (HX5.out.cell (p := ⟨Q, 2, none⟩) hQl).trans c2; have w5x5 : w5.cell? ⟨Q, 3, none⟩ = some (.int .i64 s) := (HX5.out.cell (p := ⟨Q, 3, none⟩) hQl).trans c3; have w5x6 : w5.cell? ⟨Q, 4, none⟩ = some (.int .i64 t) := (HX5.out.cell (p := ⟨Q, 4, none⟩) hQl).trans c4))
  have HB5 : Hid (Below w.heap.size w w5) := HBW.out.trans (HX5.out.mono HBW.out.size)
  have KP5 : Hid (Blk w5 P #[.int .i64 N, .int .i64 c]) := KP.out.next HX5.out
  have KL5 : Hid (Blk w5 Q #[.int .i64 p, .int .i64 r, .int .i64 b, .int .i64 s, .int .i64 t]) := KL.out.next HX5.out
  clear KP KL HBW HX3 HX4 HX5 d0 d1 c0 c1 c2 c3 c4 hPl hQl HMW HSI HSR HIR w3x0 w3x1 w3x2 w3x3 w3x4 w3x5 w3x6 w4x0 w4x1 w4x2 w4x3 w4x4 w4x5 w4x6 w5x0 w5x1 w5x2 w5x3 w5x4 w5x5 w5x6 hlb
  have d0 := KP5.out.cell 0
  have d1 := KP5.out.cell 1
  have c0 := KL5.out.cell 0
  have c1 := KL5.out.cell 1
  have c2 := KL5.out.cell 2
  have c3 := KL5.out.cell 3
  have c4 := KL5.out.cell 4
  simp at d0 d1 c0 c1 c2 c3 c4
  rcases HI.out with ⟨hr, he⟩ | ⟨n, X, rfl, hok, hX, he⟩
  · simp at he
    obtain ⟨rfl, rfl⟩ := he
    clear hr
    go_wp2_with fail
    go_ret
    exact ⟨rfl, HB5.out⟩
  simp at he
  obtain ⟨rfl, rfl⟩ := he
  have HOK : Hid (LoanOk p r b s (n : Int)) := hok
  have HX : Hid (IsInst p r b s n X) := hX
  have hX0 : 1 ≤ X := hX.low
  have hX1 : X ≤ 20000000000 := hX.high
  have hp0 := hok.p0
  have hp1 := hok.p1
  have hr0 := hok.r0
  have hr1 := hok.r1
  have HLL : Hid (∀ W, Mon W → Lay W → Calls Tryd.prog 14 #[.agg #[.int .i64 p, .int .i64 r, .int .i64 b, .int .i64 s, .int .i64 (n : Int)], .int .i64 (X : Int)] W fun e w' => e = .returned (.agg #[.int .i64 0, .int .i64 0]) ∧ Below W.heap.size W w') := fun W hM hL => by
    have := impl_loanLeft p r b s n X W hM hL
    rw [loanLeftB_ok hok (by omega) (by omega), (hX.iff X).2 (Nat.le_refl _)] at this
    exact this
  obtain ⟨Z, hZ⟩ : ∃ Z, leftI p r b s ((X : Int) - 1) n = Z := ⟨_, rfl⟩
  have hZ1 : 1 ≤ Z := by
    have h0 := (hok.left (pay := (X : Int) - 1) (by omega) n (by omega)).1
    have h1 : leftI p r b s ((X - 1 : Nat) : Int) n ≠ 0 := fun e => by have := (hX.iff (X - 1)).1 e; omega
    rw [show ((X - 1 : Nat) : Int) = (X : Int) - 1 by omega] at h1
    omega
  have HLM : Hid (∀ W, Mon W → Lay W → Calls Tryd.prog 14 #[.agg #[.int .i64 p, .int .i64 r, .int .i64 b, .int .i64 s, .int .i64 (n : Int)], .int .i64 ((X : Int) - 1)] W fun e w' => e = .returned (.agg #[.int .i64 Z, .int .i64 0]) ∧ Below W.heap.size W w') := fun W hM hL => by
    have := impl_loanLeft p r b s n ((X : Int) - 1) W hM hL
    rw [loanLeftB_ok hok (by omega) (by omega), hZ] at this
    exact this
  have fld : ∀ w, (Instr.field 27 (.agg #[.int .i64 Z, .int .i64 0]) 0).run Tryd.prog w = .ok (.int .i64 Z) w := fun w => by kernel_rfl
  have t0 : decide ((X : Int) < 1) = false := by simp; omega
  have t1 : decide (Z < 1) = false := by simp; omega
  clear hok hX hZ
  go_wp2_with fail
  refine (HLL.out _ (HM.out.below HB5.out) (HL.out.below HB5.out)).mono ?_
  rintro e w6 ⟨rfl, hb6⟩
  have HB6 : Hid (Below w.heap.size w w6) := HB5.out.trans (hb6.mono HB5.out.size)
  have KP6 : Hid (Blk w6 P #[.int .i64 (X : Int), .int .i64 0]) := KP5.out.next hb6
  have KL6 : Hid (Blk w6 Q #[.int .i64 p, .int .i64 r, .int .i64 b, .int .i64 s, .int .i64 (n : Int)]) := KL5.out.next hb6
  clear hb6 KP5 KL5 d0 d1 c0 c1 c2 c3 c4
  have d0 := KP6.out.cell 0
  have d1 := KP6.out.cell 1
  have c0 := KL6.out.cell 0
  have c1 := KL6.out.cell 1
  have c2 := KL6.out.cell 2
  have c3 := KL6.out.cell 3
  have c4 := KL6.out.cell 4
  simp at d0 d1 c0 c1 c2 c3 c4
  go_wp2_with fail
  refine (HLM.out _ (HM.out.below HB6.out) (HL.out.below HB6.out)).mono ?_
  rintro e w7 ⟨rfl, hb7⟩
  have HB7 : Hid (Below w.heap.size w w7) := HB6.out.trans (hb7.mono HB6.out.size)
  have KP7 : Hid (Blk w7 P #[.int .i64 (X : Int), .int .i64 0]) := KP6.out.next hb7
  have KL7 : Hid (Blk w7 Q #[.int .i64 p, .int .i64 r, .int .i64 b, .int .i64 s, .int .i64 (n : Int)]) := KL6.out.next hb7
  clear hb7 KP6 KL6 d0 d1 c0 c1 c2 c3 c4
  have d0 := KP7.out.cell 0
  have d1 := KP7.out.cell 1
  have c0 := KL7.out.cell 0
  have c1 := KL7.out.cell 1
  have c2 := KL7.out.cell 2
  have c3 := KL7.out.cell 3
  have c4 := KL7.out.cell 4
  simp at d0 d1 c0 c1 c2 c3 c4
  have hPl := KP7.out.lt
  have hQl := KL7.out.lt
  have hQn : w7.heap.size ≠ Q := by omega
  have hQn1 : w7.heap.size + 1 ≠ Q := by omega
  obtain ⟨⟨Y, cy⟩, hY⟩ := inst_of (p + 1) r b s n
  obtain ⟨⟨Z', cz⟩, hZ'⟩ := inst_of p (r + 1) b s n
  have hy : cy = 1 ∨ (cy = 0 ∧ (X : Int) ≤ Y) := inst_more HOK.out HX.out hY (by omega) (by omega)
  have hz : cz = 1 ∨ (cz = 0 ∧ (X : Int) ≤ Z') := inst_more HOK.out HX.out hZ' (by omega) (by omega)
  have HY : Hid (InstOf (p + 1) r b s n (Y, cy)) := hY
  have HZ : Hid (InstOf p (r + 1) b s n (Z', cz)) := hZ'
  have HYZ : Hid ((cy = 1 ∨ (cy = 0 ∧ (X : Int) ≤ Y)) ∧ (cz = 1 ∨ (cz = 0 ∧ (X : Int) ≤ Z'))) := ⟨hy, hz⟩
  clear hY hZ' hy hz HLL HLM
  have HBx : Hid (Below w.heap.size w ((w7.alloc (.cells #[.int .i64 (p + 1), .int .i64 r, .int .i64 b, .int .i64 s, .int .i64 (n : Int)] 24)).alloc (.cells #[.int .i64 p, .int .i64 (r + 1), .int .i64 b, .int .i64 s, .int .i64 (n : Int)] 24))) := (HB7.out.alloc HB7.out.size _).alloc (by have := HB7.out.size; simp; omega) _
  have T2 := two_new w7 #[.int .i64 (p + 1), .int .i64 r, .int .i64 b, .int .i64 s, .int .i64 (n : Int)] #[.int .i64 p, .int .i64 (r + 1), .int .i64 b, .int .i64 s, .int .i64 (n : Int)] 24 24
  have HT2 : Hid (Two w7 ((w7.alloc (.cells #[.int .i64 (p + 1), .int .i64 r, .int .i64 b, .int .i64 s, .int .i64 (n : Int)] 24)).alloc (.cells #[.int .i64 p, .int .i64 (r + 1), .int .i64 b, .int .i64 s, .int .i64 (n : Int)] 24)) #[.int .i64 (p + 1), .int .i64 r, .int .i64 b, .int .i64 s, .int .i64 (n : Int)] #[.int .i64 p, .int .i64 (r + 1), .int .i64 b, .int .i64 s, .int .i64 (n : Int)]) := T2
  have KPx : Hid (Blk ((w7.alloc (.cells #[.int .i64 (p + 1), .int .i64 r, .int .i64 b, .int .i64 s, .int .i64 (n : Int)] 24)).alloc (.cells #[.int .i64 p, .int .i64 (r + 1), .int .i64 b, .int .i64 s, .int .i64 (n : Int)] 24)) P #[.int .i64 (X : Int), .int .i64 0]) := (KP7.out.alloc _).alloc _
  clear T2
  go_wp2_with fail
  clear fld t0 t1
  refine (impl_Instalment (p + 1) r b s n (Y, cy) HY.out _ (HM.out.below HBx.out) (HL.out.below HBx.out)).mono ?_
  rintro e w8 ⟨rfl, hb8⟩
  simp only [moneyV]
  have HB8 : Hid (Below w.heap.size w w8) := HBx.out.trans (hb8.mono HBx.out.size)
  have T8 := HT2.out.next hb8
  have KP8 : Hid (Blk w8 P #[.int .i64 (X : Int), .int .i64 0]) := KPx.out.next hb8
  have g0 := T8.res 0
  have g1 := T8.res 1
  have g2 := T8.res 2
  have g3 := T8.res 3
  have g4 := T8.res 4
  simp at g0 g1 g2 g3 g4
  have hs8 : w7.heap.size + 2 ≤ w8.heap.size := T8.size
  have hn8 : w8.heap.size ≠ w7.heap.size + 1 := by omega
  have hl8 : w7.heap.size + 1 < w8.heap.size := by omega
  clear hb8 T8 HT2 KPx HBx d0 d1 c0 c1 c2 c3 c4 KP7 KL7 HB7
  have HB8a : Hid (Below w.heap.size w (w8.alloc (.cells #[.int .i64 Y, .int .i64 cy] 27))) := HB8.out.alloc HB8.out.size _
  have KY : Hid (Blk (w8.alloc (.cells #[.int .i64 Y, .int .i64 cy] 27)) w8.heap.size #[.int .i64 Y, .int .i64 cy]) := blk_new _ _ _
  have KP8a : Hid (Blk (w8.alloc (.cells #[.int .i64 Y, .int .i64 cy] 27)) P #[.int .i64 (X : Int), .int .i64 0]) := KP8.out.alloc _
  go_wp2_with fail
  refine (impl_Instalment p (r + 1) b s n (Z', cz) HZ.out _ (HM.out.below HB8a.out) (HL.out.below HB8a.out)).mono ?_
  rintro e w9 ⟨rfl, hb9⟩
  simp only [moneyV]
  have HB9 : Hid (Below w.heap.size w w9) := HB8a.out.trans (hb9.mono HB8a.out.size)
  have KY9 := KY.out.next hb9
  have KP9 := KP8a.out.next hb9
  have y0 := KY9.cell 0
  have y1 := KY9.cell 1
  have d0 := KP9.cell 0
  simp at y0 y1 d0
  have n0 : w9.heap.size ≠ w8.heap.size := by have := KY9.lt; omega
  have n1 : w9.heap.size ≠ P := by have := KP9.lt; omega
  have n2 : w8.heap.size < w9.heap.size := KY9.lt
  have n3 : P < w9.heap.size := KP9.lt
  have HB9a : Hid (∀ o, Below w.heap.size w (w9.alloc o)) := fun o => HB9.out.alloc HB9.out.size _
  clear hb9 KY KP8a KY9 KP9 KP8 g0 g1 g2 g3 g4
  rcases HYZ.out with ⟨hy | ⟨hy, hy'⟩, hz | ⟨hz, hz'⟩⟩
  · subst hy hz
    go_wp2_with fail
    go_ret
    exact ⟨rfl, HB9a.out _⟩
  · subst hy hz
    have t1 : decide ((X : Int) ≤ Z') = true := by simpa using hz'
    go_wp2_with fail
    go_ret
    exact ⟨rfl, HB9a.out _⟩
  · subst hy hz
    have t0 : decide ((X : Int) ≤ Y) = true := by simpa using hy'
    go_wp2_with fail
    go_ret
    exact ⟨rfl, HB9a.out _⟩
  · subst hy hz
    have t0 : decide ((X : Int) ≤ Y) = true := by simpa using hy'
    have t1 : decide ((X : Int) ≤ Z') = true := by simpa using hz'
    go_wp2_with fail
    go_ret
    exact ⟨rfl, HB9a.out _⟩
end Go.Proofs.YtmeffdggpdojhaaDoor
