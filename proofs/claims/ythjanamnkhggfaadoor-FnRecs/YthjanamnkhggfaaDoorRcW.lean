/- Records read one behind the other (impl.RecsOf): what the call does. -/
import Derived.Test.YthjanamnkhggfaaDoorRcV
namespace Go.Proofs.YthjanamnkhggfaaDoor
open Go.RowKit Go.Shelf
open Go.Proofs.YthjanamnkhggfaaDoor.Draw
attribute [local go_sem] Oper.semAt_some

theorem own_not {W : World} {B n g : Nat} {v : Value} {xs : List Value} {cs : Array Value} {t : TypeId} {q : Nat × Nat} (h : W.ownsRow B 9 1 v n xs) (hb : W.heap[g]? = some (.cells cs t q)) (ht : t ≠ 9) : some g ≠ v.ownBlock := by
  rcases h.2 with ⟨rfl, _⟩ | ⟨g', cap, cur, rfl, _, hgb, _⟩
  · simp [Value.ownBlock]
  · intro e'
    obtain rfl : g = g' := by simpa [Value.ownBlock] using e'
    rw [hgb] at hb; cases hb; exact ht rfl
theorem Kr.app {Bs B n : Nat} {W W' : World} {v : Value} {xs : List Value} (hB : Bs < W.heap.size) (h : W.ownsRow B 9 1 v n xs) (hlt : Bs < B) (hg : W.grownBy W' v.ownBlock) : Kr Bs W W' :=
  ⟨hg.size, hg.block Bs hB (fun e => by have := (h.lt Bs e.symm).1; omega), fun g _ e => (hg.block g (Array.getElem?_eq_some_iff.1 e).1 (own_not h e (by decide))).trans e⟩
theorem keeps_app {B n : Nat} {W W' : World} {v : Value} {xs : List Value} (h : W.ownsRow B 9 1 v n xs) (hg : W.grownBy W' v.ownBlock) : KeepsOthers W W' := by
  refine KeepsOthers.of_grownBy hg fun j o ej hj => ?_
  rcases h.2 with ⟨rfl, _⟩ | ⟨g, cap, cur, rfl, _, hgb, _⟩
  · simp [Value.ownBlock] at ej
  · obtain rfl : g = j := by simpa [Value.ownBlock] using ej
    rw [hgb] at hj; cases hj; rfl
set_option maxRecDepth 100000 in
set_option maxHeartbeats 4000000 in
theorem impl_recsOf (s : ByteArray) (hs : s.size ≤ 20000) (w : World) (hL : Lay w) :
    Calls Tryd.prog 22 #[.string s] w fun e w' => RecsPost s w e w' := by
  obtain ⟨i0, hi, hz0, hz1, hz2⟩ := info_parts info9
  have p0 : decide (20000 < s.size) = false := by simp; omega
  have p1 : decide ((20000 : Int) < (s.size : Int)) = false := by simp; omega
  have HL : Hid (Lay w) := hL
  clear hL
  have HR : Hid (∀ W, CallsIn Fence.wide 5 Tryd.prog 67 #[.string s] W fun e w' => e = .returned (.func (.func 99) #[] #[.pointer (some ⟨W.heap.size, 0, none⟩)]) ∧ w' = W.alloc (.cells #[.string s] 9)) := fun W => callsIn_wide.2 (impl_records s W)
  have HR0 : Hid (Rc w (((w.alloc (.cells #[.slice none 0 0, .int .i64 0, .int .i64 0] 50)).alloc (.cells #[.slice none 0 0, .int .i64 0, .int .i64 0] 50)).alloc (.cells #[.string s] 9)) (.slice none 0 0) 0 0) := by
    have T0 := two_now w #[.slice none 0 0, .int .i64 0, .int .i64 0] #[.slice none 0 0, .int .i64 0, .int .i64 0] 50 50
    have b0 := T0.box 0
    have b1 := T0.box 1
    have b2 := T0.box 2
    have r0 := T0.res 0
    have r1 := T0.res 1
    have r2 := T0.res 2
    simp only [List.getElem?_toArray, List.getElem?_cons_zero, List.getElem?_cons_succ] at b0 b1 b2 r0 r1 r2
    have hlt := T0.size
    have l0 : w.heap.size < ((w.alloc (.cells #[.slice none 0 0, .int .i64 0, .int .i64 0] 50)).alloc (.cells #[.slice none 0 0, .int .i64 0, .int .i64 0] 50)).heap.size := by omega
    have l1 : w.heap.size + 1 < ((w.alloc (.cells #[.slice none 0 0, .int .i64 0, .int .i64 0] 50)).alloc (.cells #[.slice none 0 0, .int .i64 0, .int .i64 0] 50)).heap.size := by omega
    have hn := World.alloc_heap_new (w.alloc (.cells #[.slice none 0 0, .int .i64 0, .int .i64 0] 50)) (.cells #[.slice none 0 0, .int .i64 0, .int .i64 0] 50)
    rw [World.size_alloc] at hn
    exact ⟨(World.cell?_alloc_past _ _ _ l1).trans r0, (World.cell?_alloc_past _ _ _ l1).trans r1, (World.cell?_alloc_past _ _ _ l1).trans r2, fun j => by rw [World.frozen?_alloc_past _ _ _ l1]; exact fnew' (by simp) j,
      ⟨_, _, (Below.heap_alloc _ _ _ l1).trans hn⟩, (World.cell?_alloc_past _ _ _ l0).trans b0, (World.cell?_alloc_past _ _ _ l0).trans b1, (World.cell?_alloc_past _ _ _ l0).trans b2, fun j => by rw [World.frozen?_alloc_past _ _ _ l0, World.frozen?_alloc_past _ _ _ (by simp)]; exact fnew' rfl j, by simp, T0.bel.alloc T0.bel.size _⟩
  refine (callsIn_wide (n := 6)).1 ?_
  refine callsIn_of_wp_marks Tryd.func22 rfl trivial ?_ rfl
  simp only [Tryd.ntmps22, List.size_toArray, List.length_cons, List.length_nil, Nat.reduceAdd, Nat.reduceSub, Array.replicate_succ, Array.replicate_zero, List.push_toArray, List.append_toArray, List.nil_append, List.cons_append]
  gi_wp2_with (first | (gi_at_call 67; refine (HR.out _).mono ?_; rintro e w1 ⟨rfl, rfl⟩) | (refine ⟨trivial, ?_⟩; gi_at_call 67; refine (HR.out _).mono ?_; rintro e w1 ⟨rfl, rfl⟩))
  have hcs : (((w.alloc (.cells #[.slice none 0 0, .int .i64 0, .int .i64 0] 50)).alloc (.cells #[.slice none 0 0, .int .i64 0, .int .i64 0] 50)).alloc (.cells #[.string s] 9)).cell? ⟨w.heap.size + 1 + 1, 0, none⟩ = some (.string s) := by
    have := (Boxed.new ((w.alloc (.cells #[.slice none 0 0, .int .i64 0, .int .i64 0] 50)).alloc (.cells #[.slice none 0 0, .int .i64 0, .int .i64 0] 50)) 9 (.string s)).cell
    simpa only [World.size_alloc] using this
  have hsz : (((w.alloc (.cells #[.slice none 0 0, .int .i64 0, .int .i64 0] 50)).alloc (.cells #[.slice none 0 0, .int .i64 0, .int .i64 0] 50)).alloc (.cells #[.string s] 9)).heap.size = w.heap.size + 3 := by simp
  obtain ⟨W0, hW0⟩ : ∃ W0, ((w.alloc (.cells #[.slice none 0 0, .int .i64 0, .int .i64 0] 50)).alloc (.cells #[.slice none 0 0, .int .i64 0, .int .i64 0] 50)).alloc (.cells #[.string s] 9) = W0 := ⟨_, rfl⟩
  rw [hW0] at HR0 hcs hsz ⊢
  clear hW0 HR
  refine wpIn_rangeFunc_ownH rfl (by omega) (gf := 99) (lb := #[.pointer (some ⟨w.heap.size + 1 + 1, 0, none⟩)]) rfl trivial (enters_of Tryd.func99 (by kernel_rfl) rfl)
    (recs_stops _ (by omega) (w.heap.size + 1 + 1) s hs W0 (by omega) hcs) Kr.trans (fun W l o o' h1 h2 h3 _ => Kr.put (B := W0.heap.size) (by omega) W l o o' h1 h2 h3) (Below.refl _ _) (fun _ => rfl)
    (Ib s w) (Ibx s w) (Ib.own s w _ (by omega)) (Ibx.own s w _ (by omega)) ⟨_, HR0.out, World.ownsRow_nil _ _ _ _, by simp⟩ (Axb s w) (Axb.own s w _) ?assign ?body ?done ?stop
  case assign =>
    rintro l pre x W K ⟨v, h1, h2, h3⟩ hK
    have hlt := h1.lt
    simp only [encR]
    gi_wp2
    exact hK _ _ ((KeepsOthers.alloc _ _).from _) (Kr.alloc (by omega) _) ⟨v, h1.next ((Below.refl _ W).alloc (Nat.le_refl _) _), h2.alloc _, h3⟩ ⟨W.heap.size, by omega, World.alloc_heap_new _ _, rfl⟩
  case body =>
    rintro l pre x a' W hl - ⟨v, h1, h2, h3⟩ ⟨Bx, hBx, bX, rfl⟩ hlt
    obtain ⟨av, cv, hv⟩ := own_slice h2
    subst hv
    have HLW : Hid (Lay W) := HL.out.below h1.bel
    have HRc : Hid (Rc w W (.slice av pre.length cv) (usedOf s pre : Int) 0) := h1
    have HO : Hid (W.ownsRow (w.heap.size + 3) 9 1 (.slice av pre.length cv) pre.length (pre.map (bodyV s))) := h2
    have cX0 : W.cell? ⟨Bx, 0, none⟩ = some (.string (readR s x).1) := by simp [World.cell?, bX]
    have cX1 : W.cell? ⟨Bx, 1, none⟩ = some (.int .i64 ((readR s x).2.1 : Int)) := by simp [World.cell?, bX]
    have HIB : Hid (∀ W' v', Rc w W' v' ((readR s x).2.1 : Int) 0 → W'.ownsRow (w.heap.size + 3) 9 1 v' (pre.length + 1) (pre.map (bodyV s) ++ [.string (readR s x).1]) → (readR s x).2.2 = 0 → Ib s w (pre ++ [x]) W') := fun W' v' g1 g2 g3 => by
      refine ⟨v', by rw [usedOf_snoc]; exact g1, ?_, fun a ha => ?_⟩
      · rw [List.length_append, List.map_append]; exact g2
      · rcases List.mem_append.1 ha with h | h
        · exact h3 a h
        · rw [List.mem_singleton.1 h]; exact g3
    have HIX : Hid (∀ W', Rc w W' (.slice av pre.length cv) (usedOf s pre : Int) (readR s x).2.2 → W'.ownsRow (w.heap.size + 3) 9 1 (.slice av pre.length cv) pre.length (pre.map (bodyV s)) → (readR s x).2.2 ≠ 0 → Ibx s w (.exit 0) (pre ++ [x]) W') := fun W' g1 g2 g3 => ⟨rfl, pre, x, _, rfl, g3, g1, g2⟩
    have HBX : Hid (∃ cs, W.heap[Bx]? = some (.cells cs 105)) := ⟨_, bX⟩
    have hbl : Bx < W.heap.size := (Array.getElem?_eq_some_iff.1 bX).1
    clear h1 h2 h3 bX
    obtain ⟨⟨bd, r, c⟩, hrd⟩ : ∃ y, readR s x = y := ⟨_, rfl⟩
    rw [hrd] at cX0 cX1 HIB HIX ⊢
    dsimp only at cX0 cX1 HIB HIX ⊢
    clear hrd
    obtain ⟨o0, o1, o2, ofz, ot, x0, x1, x2, xf, xlt, xbel⟩ := HRc.out
    by_cases hc : c = 0
    · subst hc
      have hee : errOf 0 = .nilIface := rfl
      rw [hee]
      clear hee
      have HNB : Hid (some Bx ≠ (Value.slice av pre.length cv).ownBlock) := by
        obtain ⟨cs, hcs'⟩ := HBX.out
        exact own_not HO.out hcs' (by decide)
      have hal : Below W.heap.size W (W.alloc (.cells #[.string bd] 9)) := (Below.refl _ _).alloc (Nat.le_refl _) _
      have HR1 : Hid (∀ w1, (W.alloc (.cells #[.string bd] 9)).grownBy w1 (Value.slice av pre.length cv).ownBlock → Rc w w1 (.slice av pre.length cv) (usedOf s pre : Int) 0 ∧ w1.cell? ⟨Bx, 1, none⟩ = some (.int .i64 (r : Int))) := fun w1 hg => ⟨(HRc.out.next hal).grown hg (fun b e => by have := (HO.out.lt b e).1; omega), (World.cell?_of_block (a := ⟨Bx, 1, none⟩) (hg.block Bx (by simp; omega) HNB.out)).trans ((World.cell?_alloc_past _ _ _ hbl).trans cX1)⟩
      have nB : Bx ≠ w.heap.size + 1 := by omega
      have nB' : w.heap.size + 1 ≠ Bx := by omega
      gi_wp2_with (gi_at_builtin; refine wpListIn_append_own _ rfl _ _ 24 rfl (w.heap.size + 3) 9 i0 (.string ⟨#[]⟩) 1 16 Tryd.underlying24 hi hz0 hz1 hz2 rfl (by decide) _ _ _ rfl (HO.out.alloc _) ⟨W.heap.size, 0, none⟩ 1 1 [.string bd] rfl rfl (cell_one_new _ _ _) (by simp [Value.oneCell']) (by unfold maxLen; omega) (by omega) (by simp; omega) ?_; intro v' w1 hown1 hg1 _; have hz := ownsRow_succ hown1; obtain ⟨g', cap', rfl⟩ := hz; have hz := HR1.out w1 hg1; obtain ⟨R1, d1⟩ := hz; have e0 := R1.o0; have e1 := R1.o1; have ef := R1.of)
      exact ⟨((((KeepsOthers.alloc _ _).trans (keeps_app (HO.out.alloc _) hg1)).trans (KeepsOthers.setCell _ _ _)).trans (KeepsOthers.setCell _ _ _)).from _,
        (((Kr.alloc (by omega) _).trans (Kr.app (by simp; omega) (HO.out.alloc _) (by omega) hg1)).trans (Kr.set (by have := R1.lt; omega) (by omega) R1.ot)).trans (Kr.set (by have := R1.lt; simp; omega) (by omega) (typed R1.ot)),
        HIB.out _ _ R1.set (own_cell (own_cell hown1 (by omega)) (by omega)) trivial⟩
    · have hee : errOf c = errV c := if_neg hc
      rw [hee]
      clear hee
      simp only [errV]
      have HCE : Hid (∀ W, Lay W → Calls Tryd.prog 68 #[.iface 124 (.agg #[.int .i64 c])] W fun e w' => e = .returned (.int .i64 c) ∧ Below W.heap.size W w') := fun W h => code_err c W h
      gi_wp2_with (refine ⟨trivial, ?_⟩; gi_at_call 68; refine (CallsIn.inRound l (callsIn_wide.2 (HCE.out _ HLW.out))).mono ?_; rintro e w2 ⟨rfl, hb2⟩; have R2 := HRc.out.next hb2; have e2 := R2.o2; have ef := R2.of)
      exact ⟨((KeepsOthers.of_grownBy (quietly hb2) (fun _ _ e _ => by cases e)).trans (KeepsOthers.setCell _ _ _)).from _, HIX.out _ R2.code (own_cell (own_below HO.out hb2) (by omega)) hc⟩
  case done =>
    rintro D xs W hD ⟨k, HK, ⟨hle, rfl⟩ | ⟨hlt, hne, rfl⟩⟩ ⟨v, h1, h2, h3⟩ hK
    · obtain ⟨av, cv, hv⟩ := own_slice h2
      subst hv
      rw [usedOf_upto] at h1
      rw [uptoA_length, bodyV_upto] at h2
      rw [uptoA_length] at h1
      obtain ⟨o0, o1, o2, ofz, ot, x0, x1, x2, xf, xlt, xbel⟩ := h1
      have hK3 : (((W.setCell ⟨w.heap.size, 0, none⟩ (.slice av k cv)).setCell ⟨w.heap.size, 1, none⟩ (.int .i64 (seqA s k : Int))).setCell ⟨w.heap.size, 2, none⟩ (.int .i64 0)).heap[D]? = some (.deferred (some [])) := (((KeepsOthers.setCell W _ _).trans (KeepsOthers.setCell _ _ _)).trans (KeepsOthers.setCell _ _ _)).same D _ hK rfl
      gi_wp2
      refine ⟨by simp, .inl ⟨_, _, rfl, run_takeDeferred hK3, ?_⟩⟩
      have hg := grownBy_putObj' (((W.setCell ⟨w.heap.size, 0, none⟩ (.slice av k cv)).setCell ⟨w.heap.size, 1, none⟩ (.int .i64 (seqA s k : Int))).setCell ⟨w.heap.size, 2, none⟩ (.int .i64 0)) D (.deferred none)
      have hbl := hg.block w.heap.size (by simp; omega) (fun e => by cases e; omega)
      have f0 := (World.cell?_of_block (a := ⟨w.heap.size, 0, none⟩) hbl).trans (show _ = some (.slice av k cv) by simp [go_sem, x0])
      have f1 := (World.cell?_of_block (a := ⟨w.heap.size, 1, none⟩) hbl).trans (show _ = some (.int .i64 (seqA s k : Int)) by simp [go_sem, x1])
      have f2 := (World.cell?_of_block (a := ⟨w.heap.size, 2, none⟩) hbl).trans (show _ = some (.int .i64 0) by simp [go_sem, x2])
      refine ⟨.agg #[.slice av k cv, .int .i64 (seqA s k : Int), .int .i64 0], ?_, ⟨k, 0, _, rfl, ⟨HK, Or.inl ⟨hle, rfl⟩⟩, ?_, ?_⟩⟩
      · simp [results, Tryd.results22, go_sem, f0, f1, f2]
      · exact own_base (ownsRow_putObj (own_cell (own_cell (own_cell h2 (by omega)) (by omega)) (by omega)) _ hK3 rfl) (by omega)
      · exact (((xbel.setCell (Nat.le_refl _) _).setCell (Nat.le_refl _) _).setCell (Nat.le_refl _) _).grown hg (by simp; omega) (fun b e => by cases e; omega)
    · exact absurd (h3 (seqA s k) (by rw [uptoA_succ]; simp)) hne
  case stop =>
    rintro D c pre W hD ⟨k, HK, hlt, rfl⟩ ⟨rfl, pre', x, v, h1, h2, h3, h4⟩ hK
    rw [uptoA_succ] at h1
    obtain ⟨e1, e2⟩ := List.append_inj' h1 rfl
    obtain rfl : seqA s k = x := by simpa using e2
    subst e1
    · obtain ⟨av, cv, hv⟩ := own_slice h4
      subst hv
      rw [usedOf_upto] at h3
      rw [uptoA_length, bodyV_upto] at h4
      rw [uptoA_length] at h3
      have HRI : Hid (RecsIs s k (readR s (seqA s k)).2.2) := ⟨HK, Or.inr ⟨hlt, rfl, h2⟩⟩
      clear h1 e2
      generalize (readR s (seqA s k)).2.2 = c at *
      obtain ⟨o0, o1, o2, ofz, ot, x0, x1, x2, xf, xlt, xbel⟩ := h3
      have hK3 : (((W.setCell ⟨w.heap.size, 0, none⟩ (.slice av k cv)).setCell ⟨w.heap.size, 1, none⟩ (.int .i64 (seqA s k : Int))).setCell ⟨w.heap.size, 2, none⟩ (.int .i64 c)).heap[D]? = some (.deferred (some [])) := (((KeepsOthers.setCell W _ _).trans (KeepsOthers.setCell _ _ _)).trans (KeepsOthers.setCell _ _ _)).same D _ hK rfl
      gi_wp2
      refine ⟨by simp, .inl ⟨_, _, rfl, run_takeDeferred hK3, ?_⟩⟩
      have hg := grownBy_putObj' (((W.setCell ⟨w.heap.size, 0, none⟩ (.slice av k cv)).setCell ⟨w.heap.size, 1, none⟩ (.int .i64 (seqA s k : Int))).setCell ⟨w.heap.size, 2, none⟩ (.int .i64 c)) D (.deferred none)
      have hbl := hg.block w.heap.size (by simp; omega) (fun e => by cases e; omega)
      have f0 := (World.cell?_of_block (a := ⟨w.heap.size, 0, none⟩) hbl).trans (show _ = some (.slice av k cv) by simp [go_sem, x0])
      have f1 := (World.cell?_of_block (a := ⟨w.heap.size, 1, none⟩) hbl).trans (show _ = some (.int .i64 (seqA s k : Int)) by simp [go_sem, x1])
      have f2 := (World.cell?_of_block (a := ⟨w.heap.size, 2, none⟩) hbl).trans (show _ = some (.int .i64 c) by simp [go_sem, x2])
      refine ⟨.agg #[.slice av k cv, .int .i64 (seqA s k : Int), .int .i64 c], ?_, ⟨k, c, _, rfl, HRI.out, ?_, ?_⟩⟩
      · simp [results, Tryd.results22, go_sem, f0, f1, f2]
      · exact own_base (ownsRow_putObj (own_cell (own_cell (own_cell h4 (by omega)) (by omega)) (by omega)) _ hK3 rfl) (by omega)
      · exact (((xbel.setCell (Nat.le_refl _) _).setCell (Nat.le_refl _) _).setCell (Nat.le_refl _) _).grown hg (by simp; omega) (fun b e => by cases e; omega)
end Go.Proofs.YthjanamnkhggfaaDoor
