/- The law FnPlan: the plan of a drawn loan pays what was lent and all interest, and leaves nothing. -/
import Derived.Test.YtmeffdggpdojhaaDoorDrawL
import Derived.Test.YtmeffdggpdojhaaDoorPlanEq
import Derived.Test.YtmeffdggpdojhaaDoorPlanIn
namespace Go.Proofs.YtmeffdggpdojhaaDoor
open Go.RowKit

/-- One of a call's own blocks. -/
structure Blk (W : World) (q : Nat) (cs : Array Value) : Prop where
  cell : ∀ j, W.cell? ⟨q, j, none⟩ = cs[j]?
  lt : q < W.heap.size
theorem Blk.next {W W' : World} {q : Nat} {cs : Array Value} (h : Blk W q cs) (hb : Below W.heap.size W W') : Blk W' q cs := ⟨fun j => (hb.cell (p := ⟨q, j, none⟩) h.lt).trans (h.cell j), Nat.lt_of_lt_of_le h.lt hb.size⟩
theorem Blk.alloc {W : World} {q : Nat} {cs : Array Value} (h : Blk W q cs) (o : Obj) : Blk (W.alloc o) q cs := h.next ((Below.refl _ _).alloc (Nat.le_refl _) o)
theorem blk_new (W : World) (cs : Array Value) (t : TypeId) : Blk (W.alloc (.cells cs t)) W.heap.size cs := ⟨fun j => cell_new_at rfl j, by simp⟩

set_option maxRecDepth 100000 in
set_option maxHeartbeats 16000000 in
theorem law_topPlan (a : Option Addr) (len cap : Nat) (zs : List Int) (w : World) (hM : Mon w) (hL : Lay w) (hrow : Draw.IsRow .u8 w a len cap zs) :
    Calls Tryd.prog 4 #[.slice a len cap] w fun e w' => e = .returned (.bool true) ∧ Below w.heap.size w w' := by
  have hlm : len ≤ maxLen := by rcases hrow with ⟨_, rfl, _⟩ | ⟨_, _, h1, h2, _⟩ <;> unfold maxLen at * <;> omega
  unfold maxLen at hlm
  by_cases hbig : 1048576 < len
  · have q0 : decide ((1048576 : Int) < (len : Int)) = true := by simp; omega
    have q1 : decide (1048576 < len) = true := by simp; omega
    go_enter Tryd.func4, Tryd.ntmps4
    go_wp2_with fail
    go_ret
    exact ⟨rfl, Below.refl _ _⟩
  have hsm : len ≤ 1048576 := by omega
  clear hbig
  have q0 : decide ((1048576 : Int) < (len : Int)) = false := by simp; omega
  have q1 : decide (1048576 < len) = false := by simp; omega
  have HM : Hid (Mon w) := hM
  have HL : Hid (Lay w) := hL
  have HD := Draw.draw_plan hrow hsm w (Below.refl _ _)
  have HD : Hid (Calls Tryd.prog 15 #[.slice a len cap] w fun e w' => ∃ x0 x1 x2 x3 x4 : Int, e = .returned (.agg #[.int .i64 x0, .int .i64 x1, .int .i64 x2, .int .i64 x3, .int .i64 x4]) ∧ Below w.heap.size w w') := HD
  clear hM hL hrow hsm
  go_enter Tryd.func4, Tryd.ntmps4
  go_wp2_with fail
  refine HD.out.mono ?_
  rintro e w1 ⟨p, r, b, s, t, rfl, hb1⟩
  have HB1 : Hid (Below w.heap.size w (w1.alloc (.cells #[.int .i64 p, .int .i64 r, .int .i64 b, .int .i64 s, .int .i64 t] 24))) := hb1.alloc hb1.size _
  have KL1 : Hid (Blk (w1.alloc (.cells #[.int .i64 p, .int .i64 r, .int .i64 b, .int .i64 s, .int .i64 t] 24)) w1.heap.size #[.int .i64 p, .int .i64 r, .int .i64 b, .int .i64 s, .int .i64 t]) := blk_new _ _ _
  clear hb1 HD
  cases hlb : loanB p r b s t
  · have H : Hid (loanB p r b s t = false) := hlb
    clear hlb
    go_wp2_with fail
    refine (impl_Plan_no p r b s t H.out _ (HM.out.below HB1.out)).mono ?_
    rintro e w2 ⟨rfl, hb2⟩
    have HB2 : Hid (Below w.heap.size w w2) := HB1.out.trans (hb2.mono HB1.out.size)
    have KL2 : Hid (Blk w2 w1.heap.size #[.int .i64 p, .int .i64 r, .int .i64 b, .int .i64 s, .int .i64 t]) := KL1.out.next hb2
    clear hb2 KL1
    have hne : w2.heap.size ≠ w1.heap.size := by have := KL2.out.lt; omega
    have c0 := KL2.out.cell 0
    have c1 := KL2.out.cell 1
    have c2 := KL2.out.cell 2
    have c3 := KL2.out.cell 3
    have c4 := KL2.out.cell 4
    simp at c0 c1 c2 c3 c4
    have fld : ∀ w, (Instr.field 34 (.agg #[.int .i64 0, .slice none 0 0, .int .i64 1]) 2).run Tryd.prog w = .ok (.int .i64 1) w := fun w => by kernel_rfl
    have HS : Hid (∀ W, Calls Tryd.prog 17 #[.agg #[.int .i64 p, .int .i64 r, .int .i64 b, .int .i64 s, .int .i64 t]] W fun e w' => e = .returned (.agg #[.int .i64 0, .slice none 0 0, .int .i64 1]) ∧ Below W.heap.size W w') := fun W => spec_Plan_no p r b s t H.out W
    have hlt1 : w1.heap.size < w2.heap.size := KL2.out.lt
    go_upto_region 5 with fail
    obtain ⟨W, hW⟩ : ∃ W, W = w2.alloc (.cells #[.int .i64 0, .slice none 0 0, .int .i64 1] 34) := ⟨_, rfl⟩
    have HBW : Hid (Below w.heap.size w W) := by rw [Hid, hW]; exact HB2.out.alloc HB2.out.size _
    have d : ∀ j, W.cell? ⟨w2.heap.size, j, none⟩ = (#[.int .i64 0, .slice none 0 0, .int .i64 1] : Array Value)[j]? := by rw [hW]; exact (blk_new _ _ _).cell
    have KW : Hid (Blk W w1.heap.size #[.int .i64 p, .int .i64 r, .int .i64 b, .int .i64 s, .int .i64 t]) := by rw [Hid, hW]; exact KL2.out.alloc _
    have hsW : w2.heap.size < W.heap.size := by rw [hW]; simp
    rw [← hW]
    clear hW c0 c1 c2 c3 c4 KL2 HB2
    have d1 := d 1
    have d2 := d 2
    simp at d1 d2
    have c0 := KW.out.cell 0
    have c1 := KW.out.cell 1
    have c2 := KW.out.cell 2
    have c3 := KW.out.cell 3
    have c4 := KW.out.cell 4
    simp at c0 c1 c2 c3 c4
    have hll : w1.heap.size < W.heap.size := KW.out.lt
    have HD1 : Hid (∀ j, W.cell? ⟨w2.heap.size, j, none⟩ = (#[.int .i64 0, .slice none 0 0, .int .i64 1] : Array Value)[j]?) := d
    clear d
    go_region_held3 (fun V => V.cell? ⟨w2.heap.size, 2, none⟩ = some (.int .i64 1) ∧ V.cell? ⟨w1.heap.size, 0, none⟩ = some (.int .i64 p) ∧ V.cell? ⟨w1.heap.size, 1, none⟩ = some (.int .i64 r) ∧ V.cell? ⟨w1.heap.size, 2, none⟩ = some (.int .i64 b) ∧ V.cell? ⟨w1.heap.size, 3, none⟩ = some (.int .i64 s) ∧ V.cell? ⟨w1.heap.size, 4, none⟩ = some (.int .i64 t)) (go_keep) (first | (go_at_call 17; refine (HS.out _).mono ?_; rintro e w3 ⟨rfl, hb3⟩; have x0 : w3.cell? ⟨w2.heap.size, 2, none⟩ = some (.int .i64 1) := (hb3.cell (p := ⟨w2.heap.size, 2, none⟩) hsW).trans d2; have y0 : w3.cell? ⟨w1.heap.size, 0, none⟩ = some (.int .i64 p) := (hb3.cell (p := ⟨w1.heap.size, 0, none⟩) hll).trans c0; have y1 : w3.cell? ⟨w1.heap.size, 1, none⟩ = some (.int .i64 r) := (hb3.cell (p := ⟨w1.heap.size, 1, none⟩) hll).trans c1; have y2 : w3.cell? ⟨w1.heap.size, 2, none⟩ = some (.int .i64 b) := (hb3.cell (p := ⟨w1.heap.size, 2, none⟩) hll).trans c2; have y3 : w3.cell? ⟨w1.heap.size, 3, none⟩ = some (.int .i64 s) := (hb3.cell (p := ⟨w1.heap.size, 3, none⟩) hll).trans c3; have y4 : w3.cell? ⟨w1.heap.size, 4, none⟩ = some (.int .i64 t) := (hb3.cell (p := ⟨w1.heap.size, 4, none⟩) hll).trans c4))
    have HB3 : Hid (Below w.heap.size w w3) := HBW.out.drew.trans (hb3.mono HBW.out.size)
    have z1 : w3.cell? ⟨w2.heap.size, 1, none⟩ = some (.slice none 0 0) := (hb3.cell (p := ⟨w2.heap.size, 1, none⟩) hsW).trans d1
    clear hb3
    go_wp2_with fail
    go_ret
    exact ⟨rfl, HB3.out⟩
  · have hok := (loanB_iff p r b s t).1 hlb
    obtain ⟨n, rfl⟩ := hok.nat
    obtain ⟨X, hX⟩ := hok.inst
    rw [Int.toNat_natCast] at hX
    have HOK : Hid (LoanOk p r b s (n : Int)) := hok
    have HX : Hid (IsInst p r b s n X) := hX
    have hn0 : 1 ≤ n := by have := hok.t0; omega
    have hn1 : n ≤ 60 := by have := hok.t1; omega
    have hX0 : 1 ≤ X := hX.low
    have hX1 : X ≤ 20000000000 := hX.high
    clear hok hX hlb
    go_wp2_with fail
    refine (impl_Plan_ok HOK.out HX.out _ (HM.out.below HB1.out) (HL.out.below HB1.out)).mono ?_
    rintro e w2 ⟨u, rfl, hown, hb2⟩
    obtain ⟨g, cp, rfl⟩ : ∃ g cp, u = .slice (some ⟨g, 0, none⟩) n cp := by
      obtain ⟨_, ⟨_, h0⟩ | ⟨g, cp, _, e, _⟩⟩ := hown
      · omega
      · exact ⟨g, cp, e⟩
    have HR2 : Hid (RowsIs w2 g n (rowF p r b s X)) := rows_own hown
    have HB2 : Hid (Below w.heap.size w w2) := HB1.out.trans (hb2.mono HB1.out.size)
    have KL2 : Hid (Blk w2 w1.heap.size #[.int .i64 p, .int .i64 r, .int .i64 b, .int .i64 s, .int .i64 (n : Int)]) := KL1.out.next hb2
    clear hb2 KL1 hown
    have hne : w2.heap.size ≠ w1.heap.size := by have := KL2.out.lt; omega
    have hngg : w2.heap.size ≠ g := by have := HR2.out.1; omega
    have fld : ∀ u w, (Instr.field 34 (.agg #[.int .i64 (X : Int), u, .int .i64 0]) 2).run Tryd.prog w = .ok (.int .i64 0) w := fun u w => by kernel_rfl
    have HS : Hid (∀ W, Calls Tryd.prog 17 #[.agg #[.int .i64 p, .int .i64 r, .int .i64 b, .int .i64 s, .int .i64 (n : Int)]] W fun e w' => ∃ u, e = .returned (.agg #[.int .i64 (X : Int), u, .int .i64 0]) ∧ Below W.heap.size W w') := fun W => by
      refine (spec_Plan_ok HOK.out HX.out W).mono ?_
      rintro e w' ⟨u, rfl, _, hb⟩
      exact ⟨u, rfl, hb⟩
    go_upto_region 5 with fail
    obtain ⟨W, hW⟩ : ∃ W, W = w2.alloc (.cells #[.int .i64 (X : Int), .slice (some ⟨g, 0, none⟩) n cp, .int .i64 0] 34) := ⟨_, rfl⟩
    have HBW : Hid (Below w.heap.size w W) := by rw [Hid, hW]; exact HB2.out.alloc HB2.out.size _
    have KP : Hid (Blk W w2.heap.size #[.int .i64 (X : Int), .slice (some ⟨g, 0, none⟩) n cp, .int .i64 0]) := by rw [Hid, hW]; exact blk_new _ _ _
    have KL : Hid (Blk W w1.heap.size #[.int .i64 p, .int .i64 r, .int .i64 b, .int .i64 s, .int .i64 (n : Int)]) := by rw [Hid, hW]; exact KL2.out.alloc _
    have HR : Hid (RowsIs W g n (rowF p r b s X)) := by rw [Hid, hW]; exact HR2.out.below ((Below.refl _ _).alloc (Nat.le_refl _) _)
    rw [← hW]
    clear hW KL2 HB2 HR2
    obtain ⟨P, hP⟩ : ∃ P, P = w2.heap.size := ⟨_, rfl⟩
    obtain ⟨Q, hQ⟩ : ∃ Q, Q = w1.heap.size := ⟨_, rfl⟩
    rw [← hP] at KP hne hngg ⊢
    rw [← hQ] at KL hne ⊢
    clear hP hQ
    have d2 := KP.out.cell 2
    have c0 := KL.out.cell 0
    have c1 := KL.out.cell 1
    have c2 := KL.out.cell 2
    have c3 := KL.out.cell 3
    have c4 := KL.out.cell 4
    simp at d2 c0 c1 c2 c3 c4
    have hPl := KP.out.lt
    have hQl := KL.out.lt
    go_region_held3 (fun V => V.cell? ⟨P, 2, none⟩ = some (.int .i64 0) ∧ V.cell? ⟨Q, 0, none⟩ = some (.int .i64 p) ∧ V.cell? ⟨Q, 1, none⟩ = some (.int .i64 r) ∧ V.cell? ⟨Q, 2, none⟩ = some (.int .i64 b) ∧ V.cell? ⟨Q, 3, none⟩ = some (.int .i64 s) ∧ V.cell? ⟨Q, 4, none⟩ = some (.int .i64 (n : Int))) (go_keep) (first | (go_at_call 17; refine (HS.out _).mono ?_; rintro e w3 ⟨u, rfl, hb⟩; have x2 : w3.cell? ⟨P, 2, none⟩ = some (.int .i64 0) := (hb.cell (p := ⟨P, 2, none⟩) hPl).trans d2; have y0 : w3.cell? ⟨Q, 0, none⟩ = some (.int .i64 p) := (hb.cell (p := ⟨Q, 0, none⟩) hQl).trans c0; have y1 : w3.cell? ⟨Q, 1, none⟩ = some (.int .i64 r) := (hb.cell (p := ⟨Q, 1, none⟩) hQl).trans c1; have y2 : w3.cell? ⟨Q, 2, none⟩ = some (.int .i64 b) := (hb.cell (p := ⟨Q, 2, none⟩) hQl).trans c2; have y3 : w3.cell? ⟨Q, 3, none⟩ = some (.int .i64 s) := (hb.cell (p := ⟨Q, 3, none⟩) hQl).trans c3; have y4 : w3.cell? ⟨Q, 4, none⟩ = some (.int .i64 (n : Int)) := (hb.cell (p := ⟨Q, 4, none⟩) hQl).trans c4))
    have hb : Below W.heap.size W w3 := (Below.refl _ _).drew.trans hb
    have HB3 : Hid (Below w.heap.size w w3) := HBW.out.trans (hb.mono HBW.out.size)
    have KP3 : Hid (Blk w3 P #[.int .i64 (X : Int), .slice (some ⟨g, 0, none⟩) n cp, .int .i64 0]) := KP.out.next hb
    have KL3 : Hid (Blk w3 Q #[.int .i64 p, .int .i64 r, .int .i64 b, .int .i64 s, .int .i64 (n : Int)]) := KL.out.next hb
    have HR3 : Hid (RowsIs w3 g n (rowF p r b s X)) := HR.out.below hb
    clear hb KP KL HR HBW d2 c0 c1 c2 c3 c4 x2 y0 y1 y2 y3 y4 hPl hQl
    have d0 := KP3.out.cell 0
    have d1 := KP3.out.cell 1
    have d2 := KP3.out.cell 2
    have c0 := KL3.out.cell 0
    have c1 := KL3.out.cell 1
    have c2 := KL3.out.cell 2
    have c3 := KL3.out.cell 3
    have c4 := KL3.out.cell 4
    simp at d0 d1 d2 c0 c1 c2 c3 c4
    have hPl := KP3.out.lt
    have hQl := KL3.out.lt
    have hxx : ∀ x : Int, (x != x) = false := fun x => by simp
    have fldm : ∀ w, (Instr.field 27 (.agg #[.int .i64 (X : Int), .int .i64 0]) 0).run Tryd.prog w = .ok (.int .i64 (X : Int)) w := fun w => by kernel_rfl
    have HI : Hid (∀ W, Calls Tryd.prog 11 #[.agg #[.int .i64 p, .int .i64 r, .int .i64 b, .int .i64 s, .int .i64 (n : Int)]] W fun e w' => e = .returned (.agg #[.int .i64 (X : Int), .int .i64 0]) ∧ Below W.heap.size W w') := fun W => by
      have := spec_Instalment p r b s (n : Int) ((X : Int), 0) (Or.inr ⟨n, X, rfl, HOK.out, HX.out, rfl⟩) W
      exact this
    go_upto_region 9 with fail
    go_region_held3 (fun V => V.cell? ⟨P, 0, none⟩ = some (.int .i64 (X : Int)) ∧ V.cell? ⟨P, 1, none⟩ = some (.slice (some ⟨g, 0, none⟩) n cp) ∧ V.cell? ⟨Q, 0, none⟩ = some (.int .i64 p) ∧ V.cell? ⟨Q, 1, none⟩ = some (.int .i64 r) ∧ V.cell? ⟨Q, 2, none⟩ = some (.int .i64 b) ∧ V.cell? ⟨Q, 3, none⟩ = some (.int .i64 s) ∧ V.cell? ⟨Q, 4, none⟩ = some (.int .i64 (n : Int))) (go_keep) (first | (go_at_call 11; refine (HI.out _).mono ?_; rintro e w4 ⟨rfl, hb⟩; have x0 : w4.cell? ⟨P, 0, none⟩ = some (.int .i64 (X : Int)) := (hb.cell (p := ⟨P, 0, none⟩) hPl).trans d0; have x1 : w4.cell? ⟨P, 1, none⟩ = some (.slice (some ⟨g, 0, none⟩) n cp) := (hb.cell (p := ⟨P, 1, none⟩) hPl).trans d1; have y0 : w4.cell? ⟨Q, 0, none⟩ = some (.int .i64 p) := (hb.cell (p := ⟨Q, 0, none⟩) hQl).trans c0; have y1 : w4.cell? ⟨Q, 1, none⟩ = some (.int .i64 r) := (hb.cell (p := ⟨Q, 1, none⟩) hQl).trans c1; have y2 : w4.cell? ⟨Q, 2, none⟩ = some (.int .i64 b) := (hb.cell (p := ⟨Q, 2, none⟩) hQl).trans c2; have y3 : w4.cell? ⟨Q, 3, none⟩ = some (.int .i64 s) := (hb.cell (p := ⟨Q, 3, none⟩) hQl).trans c3; have y4 : w4.cell? ⟨Q, 4, none⟩ = some (.int .i64 (n : Int)) := (hb.cell (p := ⟨Q, 4, none⟩) hQl).trans c4))
    have hb : Below w3.heap.size w3 w4 := (Below.refl _ _).drew.trans hb
    have HB4 : Hid (Below w.heap.size w w4) := HB3.out.trans (hb.mono HB3.out.size)
    have KP4 : Hid (Blk w4 P #[.int .i64 (X : Int), .slice (some ⟨g, 0, none⟩) n cp, .int .i64 0]) := KP3.out.next hb
    have KL4 : Hid (Blk w4 Q #[.int .i64 p, .int .i64 r, .int .i64 b, .int .i64 s, .int .i64 (n : Int)]) := KL3.out.next hb
    have HR4 : Hid (RowsIs w4 g n (rowF p r b s X)) := HR3.out.below hb
    clear hb KP3 KL3 HR3 HB3 d0 d1 d2 c0 c1 c2 c3 c4 x0 x1 y0 y1 y2 y3 y4 hPl hQl fld fldm HI HS
    have e0 := KL4.out.cell 0
    simp at e0
    go_wp2_with fail
    go_loopw [5, 6, 7] (fun l m i wr => ∃ k : Nat, i = .int .i64 (k : Int) ∧ k ≤ n ∧ l = .int .i64 (leftI p r b s X k) ∧ m = .int .i64 (p - leftI p r b s X k) ∧ Hid (Below w4.heap.size w4 wr)) (fun _ _ i _ => n - (intOf i).toNat)
    case atStart => exact ⟨0, rfl, by omega, by rw [leftI_zero], by rw [leftI_zero, Int.sub_self], Below.refl _ _⟩
    case round =>
      obtain ⟨k, rfl, hk, rfl, rfl, HBr⟩ := hrel
      have KP5 : Hid (Blk wr P #[.int .i64 (X : Int), .slice (some ⟨g, 0, none⟩) n cp, .int .i64 0]) := KP4.out.next HBr.out
      have KL5 : Hid (Blk wr Q #[.int .i64 p, .int .i64 r, .int .i64 b, .int .i64 s, .int .i64 (n : Int)]) := KL4.out.next HBr.out
      have d0 := KP5.out.cell 0
      have d1 := KP5.out.cell 1
      have c0 := KL5.out.cell 0
      have c3 := KL5.out.cell 3
      simp at d0 d1 c0 c3
      by_cases hkn : k < n
      · have p0 : decide (k < n) = true := by simpa using hkn
        have p1 : decide ((k : Int) < (n : Int)) = true := by simpa using hkn
        have hR := HR4.out.below HBr.out
        have a0 : wr.cell? ⟨g, k * 4, none⟩ = some (.int .i64 (rowI p r b s X k 0)) := (hR.2 (k * 4) (by omega)).trans (by rw [rowF, show k * 4 / 4 = k by omega, show k * 4 % 4 = 0 by omega])
        have a1 : wr.cell? ⟨g, k * 4 + 1, none⟩ = some (.int .i64 (rowI p r b s X k 1)) := (hR.2 (k * 4 + 1) (by omega)).trans (by rw [rowF, show (k * 4 + 1) / 4 = k by omega, show (k * 4 + 1) % 4 = 1 by omega])
        have a2 : wr.cell? ⟨g, k * 4 + 2, none⟩ = some (.int .i64 (rowI p r b s X k 2)) := (hR.2 (k * 4 + 2) (by omega)).trans (by rw [rowF, show (k * 4 + 2) / 4 = k by omega, show (k * 4 + 2) % 4 = 2 by omega])
        have a3 : wr.cell? ⟨g, k * 4 + 3, none⟩ = some (.int .i64 (rowI p r b s X k 3)) := (hR.2 (k * 4 + 3) (by omega)).trans (by rw [rowF, show (k * 4 + 3) / 4 = k by omega, show (k * 4 + 3) % 4 = 3 by omega])
        rw [show rowI p r b s X k 0 = dueI s (k + 1) from rfl] at a0
        rw [show rowI p r b s X k 1 = intN r b s k (leftI p r b s X k) from rfl] at a1
        rw [show rowI p r b s X k 2 = min (X : Int) (leftI p r b s X k + intN r b s k (leftI p r b s X k)) from rfl] at a2
        rw [show rowI p r b s X k 3 = leftI p r b s X (k + 1) from rfl] at a3
        have i0 := intN_nonneg r b s k (leftI p r b s X k)
        obtain ⟨l0, l1⟩ := HOK.out.small (pay := (X : Int)) (by omega) k (by omega)
        obtain ⟨m0, m1⟩ := HOK.out.small (pay := (X : Int)) (by omega) (k + 1) (by omega)
        have hst := leftI_succ p r b s X k
        unfold payI at hst
        have i1 : intN r b s k (leftI p r b s X k) ≤ 600000000000 := by omega
        have HD : Hid (∀ W, Calls Tryd.prog 18 #[.int .i64 s, .int .i64 ((k : Int) + 1)] W fun e w' => e = .returned (.agg #[.int .i64 (dueI s (k + 1)), .int .i64 0]) ∧ Below W.heap.size W w') := fun W => by
          have := spec_dayAdd s ((k + 1 : Nat) : Int) W
          rw [HOK.out.due (k + 1) (by omega)] at this
          exact this
        have HNX : Hid (∃ z, leftI p r b s X (k + 1) = z) := ⟨_, rfl⟩
        obtain ⟨z, hz⟩ := HNX.out
        have HZ : Hid (leftI p r b s X (k + 1) = z) := hz
        rw [hz] at a3 m0 m1 hst
        obtain ⟨a, ha⟩ : ∃ a, leftI p r b s X k = a := ⟨_, rfl⟩
        rw [ha] at a1 a2 l0 l1 hst i0 i1 ⊢
        clear ha hz HNX hR
        obtain ⟨i, hi⟩ : ∃ i, intN r b s k a = i := ⟨_, rfl⟩
        rw [hi] at a1 a2 hst i0 i1
        obtain ⟨m, hm⟩ : ∃ m, min (X : Int) (a + i) = m := ⟨_, rfl⟩
        rw [hm] at a2 hst
        have hm0 : 0 ≤ m := by omega
        have hm1 : m ≤ X := by omega
        clear hi hm
        obtain ⟨y, hy⟩ : ∃ y, dueI s (k + 1) = y := ⟨_, rfl⟩
        rw [hy] at a0 HD
        clear hy
        have t0 : decide (i < 0) = false := by simp; omega
        have t1 : decide (m < 0) = false := by simp; omega
        have t2 : decide ((X : Int) < m) = false := by simp; omega
        have t3 : decide (z < 0) = false := by simp; omega
        have t4 : a + i - m = z := hst.symm
        have u0 : IntKind.i64.wrap ((k : Int) + 1) = (k : Int) + 1 := IntWalk.i64_in _ (by omega)
        have u1 : IntKind.i64.wrap (a + i) = a + i := IntWalk.i64_in _ (by omega)
        have u2 : IntKind.i64.wrap z = z := IntWalk.i64_in _ (by omega)
        have u3 : IntKind.i64.wrap (p - a + m) = p - a + m := IntWalk.i64_in _ (by have := HOK.out.p0; have := HOK.out.p1; omega)
        have fld : ∀ w, (Instr.field 39 (.agg #[.int .i64 y, .int .i64 0]) 0).run Tryd.prog w = .ok (.int .i64 y) w := fun w => by kernel_rfl
        clear hst
        have hPl := KP5.out.lt
        have hQl := KL5.out.lt
        have hPn : wr.heap.size ≠ P := by omega
        have hQn : wr.heap.size ≠ Q := by omega
        go_upto_region 17 with fail
        obtain ⟨V, hV⟩ : ∃ V, V = wr.alloc (.cells #[.int .i64 y, .int .i64 i, .int .i64 m, .int .i64 z] 37) := ⟨_, rfl⟩
        have HBV : Hid (Below w4.heap.size w4 V) := by rw [Hid, hV]; exact HBr.out.alloc HBr.out.size _
        have KR : Hid (Blk V wr.heap.size #[.int .i64 y, .int .i64 i, .int .i64 m, .int .i64 z]) := by rw [Hid, hV]; exact blk_new _ _ _
        have KPV : Hid (Blk V P #[.int .i64 (X : Int), .slice (some ⟨g, 0, none⟩) n cp, .int .i64 0]) := by rw [Hid, hV]; exact KP5.out.alloc _
        have KLV : Hid (Blk V Q #[.int .i64 p, .int .i64 r, .int .i64 b, .int .i64 s, .int .i64 (n : Int)]) := by rw [Hid, hV]; exact KL5.out.alloc _
        rw [← hV]
        clear hV a0 a1 a2 a3 d0 d1 c0 c3 hPl hQl hPn hQn KP5 KL5 HBr
        obtain ⟨R, hRR⟩ : ∃ R, R = wr.heap.size := ⟨_, rfl⟩
        rw [← hRR] at KR ⊢
        clear hRR
        have r0 := KR.out.cell 0
        have r1 := KR.out.cell 1
        have r2 := KR.out.cell 2
        have r3 := KR.out.cell 3
        have d0 := KPV.out.cell 0
        have c3 := KLV.out.cell 3
        simp at r0 r1 r2 r3 d0 c3
        have hRl := KR.out.lt
        have hPl := KPV.out.lt
        have hQl := KLV.out.lt
        go_region_held3 (fun V => V.cell? ⟨R, 0, none⟩ = some (.int .i64 y) ∧ V.cell? ⟨R, 1, none⟩ = some (.int .i64 i) ∧ V.cell? ⟨R, 2, none⟩ = some (.int .i64 m) ∧ V.cell? ⟨R, 3, none⟩ = some (.int .i64 z) ∧ V.cell? ⟨P, 0, none⟩ = some (.int .i64 (X : Int)) ∧ V.cell? ⟨Q, 3, none⟩ = some (.int .i64 s)) (go_keep) (first | (go_at_call 18; refine (HD.out _).mono ?_; rintro e w5 ⟨rfl, hb⟩; have s0 : w5.cell? ⟨R, 0, none⟩ = some (.int .i64 y) := (hb.cell (p := ⟨R, 0, none⟩) hRl).trans r0; have s1 : w5.cell? ⟨R, 1, none⟩ = some (.int .i64 i) := (hb.cell (p := ⟨R, 1, none⟩) hRl).trans r1; have s2 : w5.cell? ⟨R, 2, none⟩ = some (.int .i64 m) := (hb.cell (p := ⟨R, 2, none⟩) hRl).trans r2; have s3 : w5.cell? ⟨R, 3, none⟩ = some (.int .i64 z) := (hb.cell (p := ⟨R, 3, none⟩) hRl).trans r3; have s4 : w5.cell? ⟨P, 0, none⟩ = some (.int .i64 (X : Int)) := (hb.cell (p := ⟨P, 0, none⟩) hPl).trans d0; have s5 : w5.cell? ⟨Q, 3, none⟩ = some (.int .i64 s) := (hb.cell (p := ⟨Q, 3, none⟩) hQl).trans c3))
        have hb : Below V.heap.size V w5 := (Below.refl _ _).drew.trans hb
        have HB5 : Hid (Below w4.heap.size w4 w5) := HBV.out.trans (hb.mono HBV.out.size)
        clear hb KPV KLV KR HBV r0 r1 r2 r3 d0 c3 hRl hPl hQl
        have hsum : p - a + m - i = p - z := by omega
        have u5 : wrap64 (p - z) = p - z := by have := HOK.out.p0; have := HOK.out.p1; unfold wrap64; omega
        have u4 : IntKind.i64.wrap (p - a + m - i) = p - z := by rw [IntWalk.i64_in _ (by have := HOK.out.p0; have := HOK.out.p1; omega)]; omega
        go_wp2_with fail
        go_roundw
        case rel => exact ⟨k + 1, by go_num, by omega, by rw [HZ.out], by rw [HZ.out]; first | rfl | rw [u5], HB5⟩
        case measure => simp [intOf]; omega
      · have p0 : decide (k < n) = false := by simpa using hkn
        have p1 : decide ((k : Int) < (n : Int)) = false := by simpa using hkn
        obtain rfl : k = n := by omega
        have hz0 : leftI p r b s X k = 0 := (HX.out.iff X).2 (Nat.le_refl _)
        have HB5 : Hid (Below w.heap.size w wr) := HB4.out.trans (HBr.out.mono HB4.out.size)
        rw [hz0]
        have hp0 : p - 0 = p := by omega
        have hpp : (p == p) = true := by simp
        have h00 : ((0 : Int) == 0) = true := by simp
        clear hz0
        go_wp2_with fail
        go_ret
        exact ⟨rfl, HB5.out⟩
end Go.Proofs.YtmeffdggpdojhaaDoor
