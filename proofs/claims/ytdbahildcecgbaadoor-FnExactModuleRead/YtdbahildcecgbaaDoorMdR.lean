/- Numbers read one behind the other: what the readers' calls do. -/
import Derived.Test.YtdbahildcecgbaaDoorMrS
import Derived.Test.YtdbahildcecgbaaDoorGetLaw
namespace Go.Proofs.YtdbahildcecgbaaDoor
open Go.RowKit
open Go.Proofs.YtdbahildcecgbaaDoor.Draw

theorem getF_okM (s : ByteArray) (a : Nat) : ∀ (f i u : Nat), (getF s a f i u).2.2 = 0 → 0 ≤ (getF s a f i u).2.1 ∧ (getF s a f i u).2.1 ≤ s.size
  | 0, i, u => by simp [getF]
  | f + 1, i, u => by
    unfold getF
    split
    · simp
    split
    · simp
    split
    · split
      · simp
      · simp; omega
    · exact getF_okM s a f _ _
theorem getB_okM (s : ByteArray) (a : Int) (h : (getB s a).2.2 = 0) : s.size ≤ 20000 ∧ 0 ≤ (getB s a).2.1 ∧ (getB s a).2.1 ≤ s.size := by
  unfold getB at h ⊢
  split at h
  · rename_i hs
    refine ⟨hs, ?_⟩
    rw [if_pos hs]
    split at h
    · simp at h
    · rename_i h0
      split at h
      · simp at h
      · rename_i h1
        rw [if_neg h0, if_neg h1]
        exact getF_okM s _ 10 0 0 h
  · simp at h
/-- The places of the numbers, the numbers, and what is told of them. -/
def plc (s : ByteArray) : Nat → Int
  | 0 => 0
  | k + 1 => (getB s (plc s k)).2.1
def num (s : ByteArray) (k : Nat) : Int := (getB s (plc s k)).1
def cod (s : ByteArray) (k : Nat) : Int := (getB s (plc s k)).2.2
/-- A reader's state, when k numbers were asked for. -/
def RdSt (s : ByteArray) (k : Nat) (p c : Int) : Prop := (p = plc s k ∧ c = 0 ∧ ∀ i, i < k → cod s i = 0) ∨ (∃ f, f < k ∧ (∀ i, i < f → cod s i = 0) ∧ cod s f ≠ 0 ∧ p = plc s f ∧ c = cod s f)
def vlu (s : ByteArray) (k : Nat) : Int := if (∀ i, i < k + 1 → cod s i = 0) then num s k else 0
theorem plc_in (s : ByteArray) : ∀ k, (∀ i, i < k → cod s i = 0) → 0 ≤ plc s k ∧ plc s k ≤ s.size
  | 0, _ => by simp [plc]
  | k + 1, h => (getB_okM s _ (h k (by omega))).2
theorem RdSt.zero (s : ByteArray) : RdSt s 0 0 0 := Or.inl ⟨rfl, rfl, fun i h => by omega⟩
theorem RdSt.place {s : ByteArray} {k : Nat} {p c : Int} (h : RdSt s k p c) : 0 ≤ p ∧ p ≤ s.size := by
  rcases h with ⟨rfl, _, h⟩ | ⟨f, _, h, _, rfl, _⟩
  · exact plc_in s k h
  · exact plc_in s f h
theorem RdSt.next {s : ByteArray} {k : Nat} {p c N P C : Int} (h : RdSt s k p c) (e : getB s p = (N, P, C)) : RdSt s (k + 1) (if C = 0 then P else p) (if C = 0 then c else C) ∧ (if C = 0 then N else 0) = vlu s k := by
  rcases h with ⟨rfl, rfl, h⟩ | ⟨f, hf, h, hc, rfl, rfl⟩
  · have ec : cod s k = C := by unfold cod; rw [e]
    have ep : plc s (k + 1) = P := by rw [plc, e]
    have en : num s k = N := by unfold num; rw [e]
    by_cases hC : C = 0
    · have ha : ∀ i, i < k + 1 → cod s i = 0 := fun i hi => by
        rcases (by omega : i < k ∨ i = k) with h1 | rfl
        · exact h i h1
        · rw [ec]; exact hC
      rw [if_pos hC, if_pos hC, if_pos hC]
      exact ⟨Or.inl ⟨ep.symm, rfl, ha⟩, by unfold vlu; rw [if_pos ha, en]⟩
    · rw [if_neg hC, if_neg hC, if_neg hC]
      refine ⟨Or.inr ⟨k, by omega, h, by rw [ec]; exact hC, rfl, ec.symm⟩, ?_⟩
      unfold vlu
      rw [if_neg (fun ha => hC (by rw [← ec]; exact ha k (by omega)))]
  · have ec : cod s f = C := by unfold cod; rw [e]
    have hC : C ≠ 0 := fun e' => hc (by rw [ec, e'])
    rw [if_neg hC, if_neg hC, if_neg hC]
    refine ⟨Or.inr ⟨f, by omega, h, hc, rfl, ec.symm⟩, ?_⟩
    unfold vlu
    rw [if_neg (fun ha => hc (ha f (by omega)))]
theorem RdSt.good {s : ByteArray} {k : Nat} {p c : Int} (h : RdSt s k p c) : c = 0 ↔ ∀ i, i < k → cod s i = 0 := by
  rcases h with ⟨_, h1, h⟩ | ⟨f, hf, h, hc, _, rfl⟩
  · exact ⟨fun _ => h, fun _ => h1⟩
  · exact ⟨fun e => absurd e hc, fun e => e f hf⟩
/-- A state is the only one. -/
theorem RdSt.one {s : ByteArray} {k : Nat} {p c p' c' : Int} (h : RdSt s k p c) (h' : RdSt s k p' c') : p = p' ∧ c = c' := by
  rcases h with ⟨a1, a2, a3⟩ | ⟨f, b1, b2, b3, b4, b5⟩ <;> rcases h' with ⟨d1, d2, d3⟩ | ⟨f', e1, e2, e3, e4, e5⟩
  · exact ⟨a1.trans d1.symm, a2.trans d2.symm⟩
  · exact absurd (a3 f' e1) e3
  · exact absurd (d3 f b1) b3
  · obtain rfl : f = f' := by
      rcases Nat.lt_trichotomy f f' with h | h | h
      · exact absurd (e2 f h) b3
      · exact h
      · exact absurd (b2 f' h) e3
    exact ⟨b4.trans e4.symm, b5.trans e5.symm⟩
/-- One block's cells may have turned, and blocks may have come. -/
structure Tn (b : Nat) (w w' : World) : Prop where
  low : Below 0 w w'
  block : ∀ j, j < w.heap.size → j ≠ b → w'.heap[j]? = w.heap[j]?
theorem Tn.size {b : Nat} {w w' : World} (h : Tn b w w') : w.heap.size ≤ w'.heap.size := h.low.size
theorem Tn.refl (b : Nat) (w : World) : Tn b w w := ⟨Below.refl _ _, fun _ _ _ => rfl⟩
theorem Tn.trans {b : Nat} {w w' w'' : World} (h : Tn b w w') (h' : Tn b w' w'') : Tn b w w'' := ⟨h.low.trans h'.low, fun j hj hne => (h'.block j (Nat.lt_of_lt_of_le hj h.size) hne).trans (h.block j hj hne)⟩
theorem Tn.of {b : Nat} {w w' : World} (h : Below w.heap.size w w') : Tn b w w' := ⟨h.mono (Nat.zero_le _), fun j hj _ => h.block j hj⟩
theorem Tn.next {b : Nat} {w w' w'' : World} (h : Tn b w w') (hb : Below w'.heap.size w' w'') : Tn b w w'' := h.trans (Tn.of hb)
theorem Tn.set {b : Nat} {w w' : World} (h : Tn b w w') (j : Nat) (v : Value) : Tn b w (w'.setCell ⟨b, j, none⟩ v) := ⟨h.low.setCell (Nat.zero_le _) _, fun k hk hne => (heap_setCell_other _ _ _ _ (by simpa using hne)).trans (h.block k hk hne)⟩
theorem Tn.setNew {b R : Nat} {w w' : World} (h : Tn b w w') (hR : w.heap.size ≤ R) (j : Nat) (v : Value) : Tn b w (w'.setCell ⟨R, j, none⟩ v) := ⟨h.low.setCell (Nat.zero_le _) _, fun k hk hne => (heap_setCell_other _ _ _ _ (by simp; omega)).trans (h.block k hk hne)⟩
theorem Tn.drew {b : Nat} {w w' : World} (h : Tn b w w') : Tn b w w'.drew := h.next ((Below.refl _ _).drew)
theorem Tn.alloc {b : Nat} {w w' : World} (h : Tn b w w') (o : Obj) : Tn b w (w'.alloc o) := h.next ((Below.refl _ _).alloc (Nat.le_refl _) _)
theorem Tn.to {b B : Nat} {w w' : World} (h : Tn b w w') (h1 : B ≤ b) (h2 : B ≤ w.heap.size) : Below B w w' := ⟨h.low.os, h.low.tape, h.low.output, h.size, fun k hk => h.block k (by omega) (by omega)⟩
theorem Tn.bx {b j : Nat} {w w' : World} {cs : Array Value} {t : TypeId} (h : Tn b w w') (hx : Bxs w j cs t) (hne : j ≠ b) : Bxs w' j cs t := (h.block j hx.lt hne).trans hx
theorem Bxs.set {w : World} {j : Nat} {cs : Array Value} {t : TypeId} (h : Bxs w j cs t) (i : Nat) (v : Value) : Bxs (w.setCell ⟨j, i, none⟩ v) j (cs.setIfInBounds i v) t := by
  have hlt : j < w.heap.size := (Array.getElem?_eq_some_iff.1 h).1
  have hv : w.heap[j] = .cells cs t (0, 0) := (Array.getElem?_eq_some_iff.1 h).2
  unfold Bxs World.setCell
  rw [Array.getElem?_eq_getElem (by simpa using hlt), Array.getElem_modify]
  simp [hv]
theorem Bxs.other {w : World} {j R : Nat} {cs : Array Value} {t : TypeId} (h : Bxs w j cs t) (hne : j ≠ R) (i : Nat) (v : Value) : Bxs (w.setCell ⟨R, i, none⟩ v) j cs t := (heap_setCell_other _ _ _ _ (by simpa using hne)).trans h
theorem Bxs.fz {w : World} {j : Nat} {cs : Array Value} {t : TypeId} (h : Bxs w j cs t) (i : Nat) : w.frozen? ⟨j, i, none⟩ = false := Lib.frozen_of_heap h i
theorem Bxs.put3 {w : World} {j : Nat} {x y z u v t' : Value} {t : TypeId} (h : Bxs w j #[x, y, z] t) : Bxs (((w.setCell ⟨j, 0, none⟩ u).setCell ⟨j, 1, none⟩ v).setCell ⟨j, 2, none⟩ t') j #[u, v, t'] t := ((h.set 0 u).set 1 v).set 2 t'
theorem Bxs.drew {w : World} {j : Nat} {cs : Array Value} {t : TypeId} (h : Bxs w j cs t) : Bxs w.drew j cs t := h
/-- What a number's call does with its reader. -/
def NumOut (b : Nat) (s : ByteArray) (p c N P C : Int) (t : TypeId) (w : World) (e : Ending) (w' : World) : Prop := e = .returned (.int .i64 (if C = 0 then N else 0)) ∧ Bxs w' b #[.string s, .int .i64 (if C = 0 then P else p), .int .i64 (if C = 0 then c else C)] t ∧ Tn b w w'
set_option maxRecDepth 100000 in
set_option maxHeartbeats 16000000 in
theorem impl_number0 (s : ByteArray) (p c N P C : Int) (hs : s.size ≤ maxLen) (hp0 : -9223372036854775808 ≤ p) (hp1 : p ≤ 9223372036854775807) (hg : getB s p = (N, P, C)) (b : Nat) (w : World) (hx : Bxs w b #[.string s, .int .i64 p, .int .i64 c] 41) :
    Calls Tryd.prog 25 #[.pointer (some ⟨b, 0, none⟩)] w (NumOut b s p c N P C 41 w) := by
  have HG : Hid (∀ W, Calls Tryd.prog 36 #[.string s, .int .i64 p] W fun e w' => e = .returned (.agg #[.int .i64 N, .int .i64 P, .int .i64 C]) ∧ Below W.heap.size W w') := fun W => by have := impl_get s p W hs hp0 hp1; rw [hg] at this; exact this
  have c0 : w.cell? ⟨b, 0, none⟩ = some (.string s) := hx.cell 0
  have c1 : w.cell? ⟨b, 1, none⟩ = some (.int .i64 p) := hx.cell 1
  have blt := hx.lt
  have HX : Hid (Bxs w b #[.string s, .int .i64 p, .int .i64 c] 41) := hx
  have ne : w.heap.size ≠ b := by omega
  clear hx hs hg
  go_enter Tryd.func25, Tryd.ntmps25
  go_upto_region 1 with fail
  go_cut [3] (fun r wx => ∃ X, r = .pointer (some ⟨X, 0, none⟩) ∧ Hid (Bxs wx X #[.int .i64 N, .int .i64 P, .int .i64 C] 59 ∧ X ≠ b ∧ Bxs wx b #[.string s, .int .i64 p, .int .i64 c] 41 ∧ Tn b w wx))
  case first =>
    go_region_held3 (fun W => W.cell? ⟨b, 0, none⟩ = some (.string s) ∧ W.cell? ⟨b, 1, none⟩ = some (.int .i64 p)) (go_keep) (first | (go_at_call 36; refine (HG.out _).mono ?_; rintro e w2 ⟨rfl, hb2⟩; have hx2 : Below w.heap.size w w2 := (by first | exact hb2 | exact (Below.refl _ w).drew.trans hb2 | exact ((Below.refl _ w).alloc (Nat.le_refl _) _).trans (hb2.mono (by simp)) | exact (((Below.refl _ w).alloc (Nat.le_refl _) _).drew).trans (hb2.mono (by first | (simp; done) | (show w.heap.size ≤ (w.alloc _).heap.size; simp)))); have X2 := HX.out.below hx2; have k0 : w2.cell? ⟨b, 0, none⟩ = some (.string s) := X2.cell 0; have k1 : w2.cell? ⟨b, 1, none⟩ = some (.int .i64 p) := X2.cell 1; (first | (have z2 : Bxs w2 w.heap.size #[.int .i64 0, .int .i64 0, .int .i64 0] 59 := (Bxs.new w _ _).below hb2) | (have z2 : Bxs w2 w.heap.size #[.int .i64 0, .int .i64 0, .int .i64 0] 59 := (Bxs.new w _ _).drew.below hb2) | skip); (try (have zc0 : w2.cell? ⟨w.heap.size, 0, none⟩ = some (.int .i64 0) := z2.cell 0; have zc1 : w2.cell? ⟨w.heap.size, 1, none⟩ = some (.int .i64 0) := z2.cell 1; have zc2 : w2.cell? ⟨w.heap.size, 2, none⟩ = some (.int .i64 0) := z2.cell 2; have zf : ∀ j, w2.frozen? ⟨w.heap.size, j, none⟩ = false := fun j => z2.fz j)); (have nb : w2.heap.size ≠ b := (by have := hx2.size; omega))))
    all_goals go_wp2_with fail
    all_goals go_meet
    all_goals first
      | exact ⟨_, rfl, Bxs.new _ _ _, nb, X2.below ((Below.refl _ _).alloc (Nat.le_refl _) _), (Tn.of hx2).alloc _⟩
      | exact ⟨_, rfl, Bxs.new _ _ _, nb, (X2.below ((Below.refl _ _).alloc (Nat.le_refl _) _)).drew, ((Tn.of hx2).alloc _).drew⟩
      | exact ⟨_, rfl, z2.put3, ne, ((X2.other (Ne.symm ne) 0 _).other (Ne.symm ne) 1 _).other (Ne.symm ne) 2 _, (((Tn.of hx2).setNew (Nat.le_refl _) 0 _).setNew (Nat.le_refl _) 1 _).setNew (Nat.le_refl _) 2 _⟩
  case rest =>
    obtain ⟨X, rfl, HW⟩ := hcut
    have hne := HW.out.2.1
    have n0 : wc.cell? ⟨X, 0, none⟩ = some (.int .i64 N) := HW.out.1.cell 0
    have n1 : wc.cell? ⟨X, 1, none⟩ = some (.int .i64 P) := HW.out.1.cell 1
    have n2 : wc.cell? ⟨X, 2, none⟩ = some (.int .i64 C) := HW.out.1.cell 2
    have b1 : wc.cell? ⟨b, 1, none⟩ = some (.int .i64 p) := HW.out.2.2.1.cell 1
    have b2 : wc.cell? ⟨b, 2, none⟩ = some (.int .i64 c) := HW.out.2.2.1.cell 2
    have f1 : wc.frozen? ⟨b, 1, none⟩ = false := HW.out.2.2.1.fz 1
    have f2 : wc.frozen? ⟨b, 2, none⟩ = false := HW.out.2.2.1.fz 2
    by_cases hC : C = 0
    · subst hC
      have HR : Hid (NumOut b s p c N P 0 41 w (.returned (.int .i64 N)) (wc.setCell ⟨b, 1, none⟩ (.int .i64 P))) := ⟨rfl, HW.out.2.2.1.set 1 _, HW.out.2.2.2.set 1 _⟩
      clear HX HG HW c0 c1
      go_wp2_with fail
      go_ret
      exact HR.out
    · have hq : (C != 0) = true := by simpa using hC
      have HR : Hid (NumOut b s p c N P C 41 w (.returned (.int .i64 0)) (wc.setCell ⟨b, 2, none⟩ (.int .i64 C))) := ⟨by rw [if_neg hC], by rw [if_neg hC, if_neg hC]; exact HW.out.2.2.1.set 2 _, HW.out.2.2.2.set 2 _⟩
      clear HX HG HW c0 c1
      go_wp2_with fail
      go_ret
      exact HR.out
end Go.Proofs.YtdbahildcecgbaaDoor
