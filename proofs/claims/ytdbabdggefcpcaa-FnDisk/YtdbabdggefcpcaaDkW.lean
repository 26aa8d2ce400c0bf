/- Disks written to (DiskWrite of spec and impl): what each call does; the law. -/
import Derived.Test.YtdbabdggefcpcaaDkL
namespace Go.Proofs.Ytdbabdggefcpcaa
open Go.RowKit


def writeS (s t : ByteArray) : ByteArray := if 20000 < t.size then ⟨#[]⟩ else s
def writeN (s : ByteArray) (n : Nat) (I : Nat → Tx) (t : ByteArray) : Nat := if 20000 < t.size then 0 else if diskB s (n + 1) (snocT I n t) = true then n + 1 else n
theorem writeN_le (s : ByteArray) (n : Nat) (I : Nat → Tx) (t : ByteArray) (h : n ≤ 1048576) : writeN s n I t ≤ 1048576 := by
  unfold writeN
  split
  · omega
  · split
    · rename_i e; have := ((diskB_iff _ _ _).1 e).1; omega
    · exact h
theorem textsC_congr {I J : Nat → Tx} (k : Nat) (h : ∀ i, i < k → I i = J i) : textsC I k = textsC J k := by
  induction k with
  | zero => rfl
  | succ k ih => rw [textsC, textsC, ih (fun i hi => h i (by omega)), h k (by omega)]
theorem textsC_snoc0 (I : Nat → Tx) (n : Nat) (t : ByteArray) : textsC (snocT I n t) n = textsC I n := textsC_congr n (fun i hi => by unfold snocT; rw [if_neg (by omega)])
theorem textsC_snoc (I : Nat → Tx) (n : Nat) (t : ByteArray) : textsC (snocT I n t) (n + 1) = textsC I n ++ [.string t] := by
  rw [textsC, textsC_snoc0]; unfold snocT; simp
theorem snoc_small {I : Nat → Tx} {n : Nat} {t : ByteArray} (h : ∀ i, i < n → (I i).small) (ht : t.size ≤ 1048576) : ∀ i, i < n + 1 → (snocT I n t i).small := by
  intro i hi
  unfold snocT
  split
  · exact ht
  · exact h i (by omega)
theorem Fr.grown {w W W' : World} {s : ByteArray} {v : Value} {row : Option Nat} (h : Fr w W s v) (hg : W.grownBy W' row) (h0 : some w.heap.size ≠ row) (h1 : some (w.heap.size + 1) ≠ row) (hB : Below w.heap.size w W') : Fr w W' s v := by
  have hs := h.size
  have hb := hg.block (w.heap.size + 1) (by omega) h1
  exact ⟨h.box.grown hg h0, (World.cell?_of_block (a := ⟨w.heap.size + 1, 0, none⟩) hb).trans h.r0, (World.cell?_of_block (a := ⟨w.heap.size + 1, 1, none⟩) hb).trans h.r1,
    fun j => (World.frozen?_of_block (a := ⟨w.heap.size + 1, j, none⟩) hb).trans (h.rf j), Nat.le_trans hs hg.size, hB⟩
theorem own_cell2 {w : World} {B e size n r j : Nat} {v u : Value} {xs : List Value} (h : w.ownsRow B e size v n xs) (hr : v.ownBlock ≠ some r) : (w.setCell ⟨r, j, none⟩ u).ownsRow B e size v n xs :=
  h.kept (setGrown (World.grownBy.refl _ _)) (Or.inr hr)
/-- Behind the append to the new disk's texts. -/
theorem app_tail2 {w wr w2 w3 : World} {Q k g2 cap2 : Nat} {s : ByteArray} {v v0 : Value} {xs ys : List Value} {o : Obj} (hF : Fr w wr s v0) (hX : Bx wr Q s v) (hf : ∀ j, wr.frozen? ⟨Q, j, none⟩ = false) (hO : wr.ownsRow (w.heap.size + 2) 9 1 v k xs) (hne : v.ownBlock ≠ some Q)
    (hb2 : Below wr.drew.heap.size wr.drew w2) (hown : w3.ownsRow (w.heap.size + 2) 9 1 (.slice (some ⟨g2, 0, none⟩) (k + 1) cap2) (k + 1) ys) (hg : (w2.alloc o).grownBy w3 v.ownBlock) (hat : v.ownBlock = some g2 ∨ g2 = w2.heap.size + 1) :
    w3.cell? ⟨Q, 0, none⟩ = some (.string s) ∧ w3.cell? ⟨Q, 1, none⟩ = some v ∧ Q < w3.heap.size ∧ (∀ j, w3.frozen? ⟨Q, j, none⟩ = false) ∧ Hid (Fr w w3 s v0) ∧ Hid (w3.ownsRow (w.heap.size + 2) 9 1 (.slice (some ⟨g2, 0, none⟩) (k + 1) cap2) (k + 1) ys ∧ (Value.slice (some ⟨g2, 0, none⟩) (k + 1) cap2).ownBlock ≠ some Q) := by
  have hb : Below wr.heap.size wr w2 := (Below.refl _ wr).drew.trans hb2
  have hsz := hb.size
  have hlt := hX.lt
  have hb' : Below wr.heap.size wr (w2.alloc o) := hb.alloc hsz o
  have X2 := hX.below hb'
  have F2 := hF.next hb'
  have hlow : ∀ j, v.ownBlock = some j → w.heap.size + 2 ≤ j := fun j e => (hO.lt j e).1
  have hblk := hg.block Q X2.lt (fun e => hne e.symm)
  refine ⟨(X2.grown hg (fun e => hne e.symm)).c0, (X2.grown hg (fun e => hne e.symm)).c1, (X2.grown hg (fun e => hne e.symm)).lt, fun j => ?_, ?_, hown, fun e => ?_⟩
  · rw [World.frozen?_of_block (a := ⟨Q, j, none⟩) hblk]
    exact (hb'.frozen (p := ⟨Q, j, none⟩) hlt).trans (hf j)
  · exact F2.grown hg (fun e => by have := hlow _ e.symm; omega) (fun e => by have := hlow _ e.symm; omega) (F2.bel.grown hg F2.bel.size (fun j e => by have := hlow j e; omega))
  · simp [Value.ownBlock] at e
    subst e
    rcases hat with e | e
    · exact hne e
    · omega
theorem emp_is {x : ByteArray} (h : x.size = 0) : x.toList.isEmpty = true ∧ (x.toList == []) = true := by
  rw [emp_yes h, Lib.toList_data]; exact ⟨rfl, rfl⟩
theorem undrew {w : World} (h : Below w.heap.size w w) : Below w.drew.heap.size w.drew w := ⟨h.os, h.tape, h.output, h.size, h.block⟩
set_option maxRecDepth 100000 in
set_option maxHeartbeats 4000000 in
theorem impl_dright2 (s : ByteArray) (a : Option Addr) (n cap : Nat) (I : Nat → Tx) (hs : s.size ≤ 1048576) (hsm : ∀ i, i < n → (I i).small) (w : World) (h : TextsAt w a n I) (hn : n ≤ 1048577) :
    Calls Try.prog 14 #[.agg #[.string s, .slice a n cap]] w fun e w' => e = .returned (.bool (diskB s n I)) ∧ Below w.heap.size w w' := by
  by_cases h100 : 100 < n
  · have p0 : decide (100 < n) = true := by simpa using h100
    have p1 : decide ((100 : Int) < (n : Int)) = true := by simp; omega
    have HR : Hid (diskB s n I = false) := diskB_no (fun e => by have := e.1; omega)
    go_enter Try.func14, Try.ntmps14
    go_wp2_with fail
    go_ret
    exact ⟨by rw [HR.out]; rfl, (Below.refl _ _).alloc (Nat.le_refl _) _⟩
  · exact impl_dright s a n cap I hs hsm w h (by omega)
set_option maxRecDepth 100000 in
set_option maxHeartbeats 4000000 in
theorem spec_dright2 (s : ByteArray) (a : Option Addr) (n cap : Nat) (I : Nat → Tx) (hs : s.size ≤ 1048576) (hsm : ∀ i, i < n → (I i).small) (w : World) (h : TextsAt w a n I) (hn : n ≤ 1048577) :
    Calls Try.prog 13 #[.agg #[.string s, .slice a n cap]] w fun e w' => e = .returned (.bool (diskB s n I)) ∧ Below w.heap.size w w' := by
  by_cases h100 : 100 < n
  · have p0 : decide (100 < n) = true := by simpa using h100
    have p1 : decide ((100 : Int) < (n : Int)) = true := by simp; omega
    have HR : Hid (diskB s n I = false) := diskB_no (fun e => by have := e.1; omega)
    go_enter Try.func13, Try.ntmps13
    go_wp2_with fail
    go_ret
    exact ⟨by rw [HR.out]; rfl, (Below.refl _ _).alloc (Nat.le_refl _) _⟩
  · exact spec_dright s a n cap I hs hsm w h (by omega)
set_option maxRecDepth 100000 in
set_option maxHeartbeats 8000000 in
theorem impl_write (s : ByteArray) (a : Option Addr) (n cap : Nat) (I : Nat → Tx) (t : ByteArray) (ht : t.size ≤ 1048576) (hs : s.size ≤ 1048576) (hsm : ∀ i, i < n → (I i).small) (w : World) (h : TextsAt w a n I) (hn : n ≤ 1048576) :
    Calls Try.prog 29 #[.agg #[.string s, .slice a n cap], .string t] w fun e w' => ∃ v, e = .returned (.agg #[.string (writeS s t), v]) ∧ w'.ownsRow w.heap.size 9 1 v (writeN s n I t) (textsC (snocT I n t) (writeN s n I t)) ∧ Below w.heap.size w w' := by
  obtain ⟨i0, hi, hz0, hz1, hz2⟩ := info_parts info9
  have HV : Hid (writeS s t = (if 20000 < t.size then ⟨#[]⟩ else s) ∧ writeN s n I t = (if 20000 < t.size then 0 else if diskB s (n + 1) (snocT I n t) = true then n + 1 else n)) := ⟨rfl, rfl⟩
  have HL : Hid (TextsAt w a n I) := h
  have HM : Hid (∀ i, i < n → (I i).small) := hsm
  have HF0 : Hid (Fr w ((w.alloc (.cells #[.string s, .slice a n cap] 25)).alloc (.cells #[.string ⟨#[]⟩, .slice none 0 0] 25)) s (.slice a n cap)) := Fr.new _ _ _ _ _
  have HC : Hid (∀ W, TextsAt W a n I → Calls Try.prog 43 #[.agg #[.string s, .slice a n cap]] W fun e w' => ∃ v, e = .returned (.agg #[.string s, v]) ∧ w'.ownsRow W.heap.size 9 1 v n (textsC I n) ∧ Below W.heap.size W w') := fun W hW => impl_apart s a n cap I hs HM.out W hW hn
  clear h hsm
  by_cases hbig : 20000 < t.size
  · have p0 : decide (20000 < t.size) = true := by simpa using hbig
    have p1 : decide ((20000 : Int) < (t.size : Int)) = true := by simp; omega
    have HV' : Hid (writeS s t = ⟨#[]⟩ ∧ writeN s n I t = 0) := by rw [HV.out.1, HV.out.2, if_pos hbig, if_pos hbig]; exact ⟨rfl, rfl⟩
    have r0 := HF0.out.r0
    have r1 := HF0.out.r1
    have rf := HF0.out.rf
    go_enter Try.func29, Try.ntmps29
    go_wp2_with fail
    refine bodyPost_ret (v := .agg #[.string ⟨#[]⟩, .slice none 0 0]) ?_ rfl ⟨_, by rw [HV'.out.1], by rw [HV'.out.2]; exact World.ownsRow_nil _ _ _ _, ?_⟩
    · simp [results, Try.results29, go_sem]
    · exact (HF0.out.bel)
  have p0 : decide (20000 < t.size) = false := by simpa using hbig
  have p1 : decide ((20000 : Int) < (t.size : Int)) = false := by simp; omega
  obtain ⟨B, hB⟩ : ∃ B, diskB s (n + 1) (snocT I n t) = B := ⟨_, rfl⟩
  have HR2 : Hid (∀ x c W, TextsAt W (some x) (n + 1) (snocT I n t) → Calls Try.prog 14 #[.agg #[.string s, .slice (some x) (n + 1) c]] W fun e w' => e = .returned (.bool B) ∧ Below W.heap.size W w') := fun x c W hW => by
    rw [← hB]; exact impl_dright2 s _ (n + 1) c _ hs (snoc_small HM.out (by omega)) W hW (by omega)
  have HBD : Hid (diskB s (n + 1) (snocT I n t) = B) := hB
  clear hB
  go_enter Try.func29, Try.ntmps29
  go_wp2_with fail
  refine (HC.out _ (HL.out.below HF0.out.bel)).mono ?_
  rintro e w1 ⟨v, rfl, hown, hb1⟩
  have F1 := HF0.out.next hb1
  have HO1 : Hid (w1.ownsRow (w.heap.size + 2) 9 1 v n (textsC I n)) := own_base hown HF0.out.size
  obtain ⟨av, cv, hv⟩ := own_slice hown
  subst hv
  have HNE1 : Hid ((Value.slice av n cv).ownBlock ≠ some w1.heap.size) := fun e => by have := (hown.lt _ e).2; omega
  have HF1 : Hid (Fr w w1 s (.slice a n cap)) := F1
  clear hown hb1 F1
  have HF3' : Hid (Fr w (w1.alloc (.cells #[.string s, .slice av n cv] 25)) s (.slice a n cap)) := HF1.out.next ((Below.refl _ _).alloc (Nat.le_refl _) _)
  have HX' : Hid (Bx (w1.alloc (.cells #[.string s, .slice av n cv] 25)) w1.heap.size s (.slice av n cv)) := Bx.new _ _ _ _
  have HFz' : Hid (∀ j, (w1.alloc (.cells #[.string s, .slice av n cv] 25)).frozen? ⟨w1.heap.size, j, none⟩ = false) := fun j => fnew' rfl j
  have HO' : Hid ((w1.alloc (.cells #[.string s, .slice av n cv] 25)).ownsRow (w.heap.size + 2) 9 1 (.slice av n cv) n (textsC I n)) := HO1.out.alloc _
  have hq2' : w.heap.size + 2 ≤ w1.heap.size := HF1.out.size
  go_upto_region 4 with fail
  obtain ⟨W3, hW3⟩ : ∃ W, W = w1.alloc (.cells #[.string s, .slice av n cv] 25) := ⟨_, rfl⟩
  obtain ⟨Q, hQ⟩ : ∃ Q, Q = w1.heap.size := ⟨_, rfl⟩
  rw [← hW3] at HF3' HX' HFz' HO' ⊢
  rw [← hQ] at HX' HFz' HNE1 hq2' ⊢
  have HF3 : Hid (Fr w W3 s (.slice a n cap)) := HF3'.out
  have HX : Hid (Bx W3 Q s (.slice av n cv)) := HX'.out
  have HFz : Hid (∀ j, W3.frozen? ⟨Q, j, none⟩ = false) := HFz'.out
  have HO : Hid (W3.ownsRow (w.heap.size + 2) 9 1 (.slice av n cv) n (textsC I n)) := HO'.out
  have HNE : Hid ((Value.slice av n cv).ownBlock ≠ some Q) := HNE1.out
  obtain ⟨c0, c1, clt⟩ := HX.out
  have hts : t.size ≤ 2097152 := by omega
  clear hW3 hQ HF3' HX' HFz' HO' HNE1 HO1 HF1 HF0
  refine wp_region_any (by kernel_rfl) ?_
  try (change wpAny _ _ _ _ _ _ _ (World.drew _))
  refine wpAny_take (i := 0) (v := ?_) rfl (by kernel_rfl) (by kernel_rfl) (by kernel_rfl) (fun _ _ _ h => h) (Or.inl ⟨by rfl, ?_⟩) ?_
  rotate_left 1
  · first | (intro w; go_simp; done) | (intro w; go_simp; with_reducible rfl)
  try go_simp
  refine wpAny_take (i := 2) (v := ?_) rfl (by kernel_rfl) (by kernel_rfl) (by kernel_rfl) (fun _ _ _ h => h) (Or.inl ⟨by rfl, ?_⟩) ?_
  rotate_left 1
  · first | (intro w; go_simp; done) | (intro w; go_simp; with_reducible rfl)
  try go_simp
  refine wpAny_ready (rs := [1, 3]) (by kernel_rfl) (by simp) ?_
  refine AllReady.cons rfl (fun K hK => ?_) (AllReady.cons rfl (fun K hK => ?_) AllReady.nil)
  · go_simp
    refine hK _ _ ?_
    clear hK K
    try go_simp
    refine wpAny_ready (rs := [3]) (by kernel_rfl) (by simp) ?_
    refine AllReady.cons rfl (fun K hK => ?_) AllReady.nil
    · go_simp
      refine hK _ _ ?_
      clear hK K
      try go_simp
      refine wpAny_ready (rs := [4]) (by kernel_rfl) (by simp) ?_
      refine AllReady.cons rfl (fun K hK => ?_) AllReady.nil
      · go_simp
        go_wp2_with (first | (go_at_call 42; refine (join_one t hts W3.drew _ rfl).mono ?_; rintro e w2 ⟨rfl, hb2⟩; have e1 : w2.cell? ⟨Q, 1, none⟩ = some (.slice av n cv) := (hb2.cell (p := ⟨Q, 1, none⟩) clt).trans c1; have clt2 : Q < w2.heap.size := Nat.lt_of_lt_of_le clt hb2.size))
        try go_simp
        refine wpAny_ready (rs := [5]) (by kernel_rfl) (by simp) ?_
        refine AllReady.cons rfl (fun K hK => ?_) AllReady.nil
        · go_simp
          refine hK _ _ ?_
          clear hK K
          try go_simp
          refine wpAny_ready (rs := [6]) (by kernel_rfl) (by simp) ?_
          refine AllReady.cons rfl (fun K hK => ?_) AllReady.nil
          · refine step_append_lies _ (by rfl) _ _ _ (by rfl) (w.heap.size + 2) 9 i0 (.string ⟨#[]⟩) 1 16 Try.underlying23 hi hz0 hz1 hz2 (by rfl) (by decide) (.slice av n cv) n (textsC I n) (by rfl) ((own_below HO.out ((Below.refl _ W3).drew.trans hb2)).alloc _) ⟨w2.heap.size, 0, none⟩ 1 1 [.string t] (by rfl) (by rfl) (news1 _ rfl) (ones1 _) (by omega) (by unfold maxLen; omega) (by omega) (by have := hb2.size; have : w.heap.size + 2 ≤ W3.heap.size := HF3.out.size; have : W3.heap.size ≤ w2.heap.size := hb2.size; simp; omega) (w2.heap.size + 1) (by simp) ?_
            intro g2 cap2 w3 hown3 hg3 hat hlt
            obtain ⟨f0, f1, flt, ff, HFa, HOa⟩ := app_tail2 HF3.out HX.out HFz.out HO.out HNE.out hb2 hown3 hg3 hat
            refine hK _ _ ?_
            clear hK K
            try go_simp
            refine wpAny_take (i := 7) (v := ?_) rfl (by kernel_rfl) (by kernel_rfl) (by kernel_rfl) (fun _ _ _ h => h) (Or.inl ⟨by rfl, ?_⟩) ?_
            rotate_left 1
            · first | (intro w; go_simp; done) | (intro w; go_simp; with_reducible rfl)
            try go_simp
            refine wpAny_ready (rs := [8]) (by kernel_rfl) (by simp) ?_
            refine AllReady.cons rfl (fun K hK => ?_) AllReady.nil
            · go_simp
              refine hK _ _ ?_
              clear hK K
              try go_simp
              refine wpAny_done (by kernel_rfl) ?_ _
              have HFb : Hid (Fr w (w3.setCell ⟨Q, 1, none⟩ (.slice (some ⟨g2, 0, none⟩) (n + 1) cap2)) s (.slice a n cap)) := HFa.out.grown (setGrown (World.grownBy.refl _ _)) (by simp; omega) (by simp; omega) (HFa.out.bel.setCell (by show w.heap.size ≤ Q; omega) _)
              have HXb : Hid (Bx (w3.setCell ⟨Q, 1, none⟩ (.slice (some ⟨g2, 0, none⟩) (n + 1) cap2)) Q s (.slice (some ⟨g2, 0, none⟩) (n + 1) cap2)) := Bx.set ⟨f0, f1, flt⟩ _
              have HOb : Hid ((w3.setCell ⟨Q, 1, none⟩ (.slice (some ⟨g2, 0, none⟩) (n + 1) cap2)).ownsRow (w.heap.size + 2) 9 1 (.slice (some ⟨g2, 0, none⟩) (n + 1) cap2) (n + 1) (textsC (snocT I n t) (n + 1))) := by rw [textsC_snoc]; exact own_cell2 HOa.out.1 HOa.out.2
              have HTX : Hid (TextsAt (w3.setCell ⟨Q, 1, none⟩ (.slice (some ⟨g2, 0, none⟩) (n + 1) cap2)) (some ⟨g2, 0, none⟩) (n + 1) (snocT I n t)) := by
                obtain ⟨a', c', e, hO, _⟩ := own_texts HOb.out
                simp at e
                obtain ⟨rfl, rfl⟩ := e
                exact hO.texts
              have b0 := HXb.out.c0
              have b1 := HXb.out.c1
              have blt := HXb.out.lt
              obtain ⟨W4, hW4⟩ : ∃ W, W = w3.setCell ⟨Q, 1, none⟩ (.slice (some ⟨g2, 0, none⟩) (n + 1) cap2) := ⟨_, rfl⟩
              rw [← hW4] at HFb HXb HOb HTX b0 b1 blt ⊢
              clear hW4 hown3 hg3 hat hlt f0 f1 flt ff HFa HOa
              go_wp2_with fail
              refine (HR2.out _ _ _ HTX.out).mono ?_
              rintro e w5 ⟨rfl, hb5⟩
              have F5 := HFb.out.next hb5
              have X5 := HXb.out.below hb5
              obtain ⟨c0, c1, clt⟩ := X5
              have HF5 : Hid (Fr w w5 s (.slice a n cap)) := F5
              obtain ⟨a0, a1, alt⟩ := F5.box
              have HO5 : Hid (w5.ownsRow (w.heap.size + 2) 9 1 (.slice (some ⟨g2, 0, none⟩) (n + 1) cap2) (n + 1) (textsC (snocT I n t) (n + 1))) := own_below HOb.out hb5
              clear hb5 F5 HR2 HTX HFb HXb HOb
              cases B
              · have HV' : Hid (writeS s t = s ∧ writeN s n I t = n) := by rw [HV.out.1, HV.out.2, if_neg hbig, if_neg hbig, HBD.out]; exact ⟨rfl, rfl⟩
                go_wp2_with fail
                refine (HC.out _ (HL.out.below HF5.out.bel)).mono ?_
                rintro e w6 ⟨v2, rfl, hown2, hb6⟩
                have F6 := HF5.out.next hb6
                have HO2 : Hid (w6.ownsRow (w.heap.size + 2) 9 1 v2 n (textsC (snocT I n t) n)) := by rw [textsC_snoc0]; exact own_base hown2 HF5.out.size
                obtain ⟨av2, cv2, hv2⟩ := own_slice hown2
                subst hv2
                have r0 := F6.r0
                have r1 := F6.r1
                have rf := F6.rf
                have HB6 : Hid (Below w.heap.size w w6) := F6.bel
                clear hown2 hb6 F6
                go_wp2_with fail
                refine bodyPost_ret (v := .agg #[.string s, .slice av2 n cv2]) ?_ rfl ⟨_, by rw [HV'.out.1], by rw [HV'.out.2]; exact own_base (own_cell (own_cell HO2.out (by omega)) (by omega)) (by omega), ?_⟩
                · simp [results, Try.results29, go_sem, r0, r1]
                · exact (HB6.out.setCell (by show w.heap.size ≤ w.heap.size + 1; omega) _).setCell (by show w.heap.size ≤ w.heap.size + 1; omega) _
              · have HV' : Hid (writeS s t = s ∧ writeN s n I t = n + 1) := by rw [HV.out.1, HV.out.2, if_neg hbig, if_neg hbig, HBD.out]; exact ⟨rfl, rfl⟩
                have r0 := HF5.out.r0
                have r1 := HF5.out.r1
                have rf := HF5.out.rf
                go_wp2_with fail
                refine bodyPost_ret (v := .agg #[.string s, .slice (some ⟨g2, 0, none⟩) (n + 1) cap2]) ?_ rfl ⟨_, by rw [HV'.out.1], by rw [HV'.out.2]; exact own_base (own_cell (own_cell HO5.out (by omega)) (by omega)) (by omega), ?_⟩
                · simp [results, Try.results29, go_sem, r0, r1]
                · exact (HF5.out.bel.setCell (by show w.heap.size ≤ w.heap.size + 1; omega) _).setCell (by show w.heap.size ≤ w.heap.size + 1; omega) _
  · go_simp
    refine hK _ _ ?_
    clear hK K
    try go_simp
    refine wpAny_ready (rs := [1, 4]) (by kernel_rfl) (by simp) ?_
    refine AllReady.cons rfl (fun K hK => ?_) (AllReady.cons rfl (fun K hK => ?_) AllReady.nil)
    · go_simp
      refine hK _ _ ?_
      clear hK K
      try go_simp
      refine wpAny_ready (rs := [4]) (by kernel_rfl) (by simp) ?_
      refine AllReady.cons rfl (fun K hK => ?_) AllReady.nil
      · go_simp
        go_wp2_with (first | (go_at_call 42; refine (join_one t hts W3.drew _ rfl).mono ?_; rintro e w2 ⟨rfl, hb2⟩; have e1 : w2.cell? ⟨Q, 1, none⟩ = some (.slice av n cv) := (hb2.cell (p := ⟨Q, 1, none⟩) clt).trans c1; have clt2 : Q < w2.heap.size := Nat.lt_of_lt_of_le clt hb2.size))
        try go_simp
        refine wpAny_ready (rs := [5]) (by kernel_rfl) (by simp) ?_
        refine AllReady.cons rfl (fun K hK => ?_) AllReady.nil
        · go_simp
          refine hK _ _ ?_
          clear hK K
          try go_simp
          refine wpAny_ready (rs := [6]) (by kernel_rfl) (by simp) ?_
          refine AllReady.cons rfl (fun K hK => ?_) AllReady.nil
          · refine step_append_lies _ (by rfl) _ _ _ (by rfl) (w.heap.size + 2) 9 i0 (.string ⟨#[]⟩) 1 16 Try.underlying23 hi hz0 hz1 hz2 (by rfl) (by decide) (.slice av n cv) n (textsC I n) (by rfl) ((own_below HO.out ((Below.refl _ W3).drew.trans hb2)).alloc _) ⟨w2.heap.size, 0, none⟩ 1 1 [.string t] (by rfl) (by rfl) (news1 _ rfl) (ones1 _) (by omega) (by unfold maxLen; omega) (by omega) (by have := hb2.size; have : w.heap.size + 2 ≤ W3.heap.size := HF3.out.size; have : W3.heap.size ≤ w2.heap.size := hb2.size; simp; omega) (w2.heap.size + 1) (by simp) ?_
            intro g2 cap2 w3 hown3 hg3 hat hlt
            obtain ⟨f0, f1, flt, ff, HFa, HOa⟩ := app_tail2 HF3.out HX.out HFz.out HO.out HNE.out hb2 hown3 hg3 hat
            refine hK _ _ ?_
            clear hK K
            try go_simp
            refine wpAny_take (i := 7) (v := ?_) rfl (by kernel_rfl) (by kernel_rfl) (by kernel_rfl) (fun _ _ _ h => h) (Or.inl ⟨by rfl, ?_⟩) ?_
            rotate_left 1
            · first | (intro w; go_simp; done) | (intro w; go_simp; with_reducible rfl)
            try go_simp
            refine wpAny_ready (rs := [8]) (by kernel_rfl) (by simp) ?_
            refine AllReady.cons rfl (fun K hK => ?_) AllReady.nil
            · go_simp
              refine hK _ _ ?_
              clear hK K
              try go_simp
              refine wpAny_done (by kernel_rfl) ?_ _
              have HFb : Hid (Fr w (w3.setCell ⟨Q, 1, none⟩ (.slice (some ⟨g2, 0, none⟩) (n + 1) cap2)) s (.slice a n cap)) := HFa.out.grown (setGrown (World.grownBy.refl _ _)) (by simp; omega) (by simp; omega) (HFa.out.bel.setCell (by show w.heap.size ≤ Q; omega) _)
              have HXb : Hid (Bx (w3.setCell ⟨Q, 1, none⟩ (.slice (some ⟨g2, 0, none⟩) (n + 1) cap2)) Q s (.slice (some ⟨g2, 0, none⟩) (n + 1) cap2)) := Bx.set ⟨f0, f1, flt⟩ _
              have HOb : Hid ((w3.setCell ⟨Q, 1, none⟩ (.slice (some ⟨g2, 0, none⟩) (n + 1) cap2)).ownsRow (w.heap.size + 2) 9 1 (.slice (some ⟨g2, 0, none⟩) (n + 1) cap2) (n + 1) (textsC (snocT I n t) (n + 1))) := by rw [textsC_snoc]; exact own_cell2 HOa.out.1 HOa.out.2
              have HTX : Hid (TextsAt (w3.setCell ⟨Q, 1, none⟩ (.slice (some ⟨g2, 0, none⟩) (n + 1) cap2)) (some ⟨g2, 0, none⟩) (n + 1) (snocT I n t)) := by
                obtain ⟨a', c', e, hO, _⟩ := own_texts HOb.out
                simp at e
                obtain ⟨rfl, rfl⟩ := e
                exact hO.texts
              have b0 := HXb.out.c0
              have b1 := HXb.out.c1
              have blt := HXb.out.lt
              obtain ⟨W4, hW4⟩ : ∃ W, W = w3.setCell ⟨Q, 1, none⟩ (.slice (some ⟨g2, 0, none⟩) (n + 1) cap2) := ⟨_, rfl⟩
              rw [← hW4] at HFb HXb HOb HTX b0 b1 blt ⊢
              clear hW4 hown3 hg3 hat hlt f0 f1 flt ff HFa HOa
              go_wp2_with fail
              refine (HR2.out _ _ _ HTX.out).mono ?_
              rintro e w5 ⟨rfl, hb5⟩
              have F5 := HFb.out.next hb5
              have X5 := HXb.out.below hb5
              obtain ⟨c0, c1, clt⟩ := X5
              have HF5 : Hid (Fr w w5 s (.slice a n cap)) := F5
              obtain ⟨a0, a1, alt⟩ := F5.box
              have HO5 : Hid (w5.ownsRow (w.heap.size + 2) 9 1 (.slice (some ⟨g2, 0, none⟩) (n + 1) cap2) (n + 1) (textsC (snocT I n t) (n + 1))) := own_below HOb.out hb5
              clear hb5 F5 HR2 HTX HFb HXb HOb
              cases B
              · have HV' : Hid (writeS s t = s ∧ writeN s n I t = n) := by rw [HV.out.1, HV.out.2, if_neg hbig, if_neg hbig, HBD.out]; exact ⟨rfl, rfl⟩
                go_wp2_with fail
                refine (HC.out _ (HL.out.below HF5.out.bel)).mono ?_
                rintro e w6 ⟨v2, rfl, hown2, hb6⟩
                have F6 := HF5.out.next hb6
                have HO2 : Hid (w6.ownsRow (w.heap.size + 2) 9 1 v2 n (textsC (snocT I n t) n)) := by rw [textsC_snoc0]; exact own_base hown2 HF5.out.size
                obtain ⟨av2, cv2, hv2⟩ := own_slice hown2
                subst hv2
                have r0 := F6.r0
                have r1 := F6.r1
                have rf := F6.rf
                have HB6 : Hid (Below w.heap.size w w6) := F6.bel
                clear hown2 hb6 F6
                go_wp2_with fail
                refine bodyPost_ret (v := .agg #[.string s, .slice av2 n cv2]) ?_ rfl ⟨_, by rw [HV'.out.1], by rw [HV'.out.2]; exact own_base (own_cell (own_cell HO2.out (by omega)) (by omega)) (by omega), ?_⟩
                · simp [results, Try.results29, go_sem, r0, r1]
                · exact (HB6.out.setCell (by show w.heap.size ≤ w.heap.size + 1; omega) _).setCell (by show w.heap.size ≤ w.heap.size + 1; omega) _
              · have HV' : Hid (writeS s t = s ∧ writeN s n I t = n + 1) := by rw [HV.out.1, HV.out.2, if_neg hbig, if_neg hbig, HBD.out]; exact ⟨rfl, rfl⟩
                have r0 := HF5.out.r0
                have r1 := HF5.out.r1
                have rf := HF5.out.rf
                go_wp2_with fail
                refine bodyPost_ret (v := .agg #[.string s, .slice (some ⟨g2, 0, none⟩) (n + 1) cap2]) ?_ rfl ⟨_, by rw [HV'.out.1], by rw [HV'.out.2]; exact own_base (own_cell (own_cell HO5.out (by omega)) (by omega)) (by omega), ?_⟩
                · simp [results, Try.results29, go_sem, r0, r1]
                · exact (HF5.out.bel.setCell (by show w.heap.size ≤ w.heap.size + 1; omega) _).setCell (by show w.heap.size ≤ w.heap.size + 1; omega) _
    · go_simp
      go_wp2_with (first | (go_at_call 42; refine (join_one t hts W3.drew _ rfl).mono ?_; rintro e w2 ⟨rfl, hb2⟩; have e1 : w2.cell? ⟨Q, 1, none⟩ = some (.slice av n cv) := (hb2.cell (p := ⟨Q, 1, none⟩) clt).trans c1; have clt2 : Q < w2.heap.size := Nat.lt_of_lt_of_le clt hb2.size))
      try go_simp
      refine wpAny_ready (rs := [1, 5]) (by kernel_rfl) (by simp) ?_
      refine AllReady.cons rfl (fun K hK => ?_) (AllReady.cons rfl (fun K hK => ?_) AllReady.nil)
      · go_simp
        refine hK _ _ ?_
        clear hK K
        try go_simp
        refine wpAny_ready (rs := [5]) (by kernel_rfl) (by simp) ?_
        refine AllReady.cons rfl (fun K hK => ?_) AllReady.nil
        · go_simp
          refine hK _ _ ?_
          clear hK K
          try go_simp
          refine wpAny_ready (rs := [6]) (by kernel_rfl) (by simp) ?_
          refine AllReady.cons rfl (fun K hK => ?_) AllReady.nil
          · refine step_append_lies _ (by rfl) _ _ _ (by rfl) (w.heap.size + 2) 9 i0 (.string ⟨#[]⟩) 1 16 Try.underlying23 hi hz0 hz1 hz2 (by rfl) (by decide) (.slice av n cv) n (textsC I n) (by rfl) ((own_below HO.out ((Below.refl _ W3).drew.trans hb2)).alloc _) ⟨w2.heap.size, 0, none⟩ 1 1 [.string t] (by rfl) (by rfl) (news1 _ rfl) (ones1 _) (by omega) (by unfold maxLen; omega) (by omega) (by have := hb2.size; have : w.heap.size + 2 ≤ W3.heap.size := HF3.out.size; have : W3.heap.size ≤ w2.heap.size := hb2.size; simp; omega) (w2.heap.size + 1) (by simp) ?_
            intro g2 cap2 w3 hown3 hg3 hat hlt
            obtain ⟨f0, f1, flt, ff, HFa, HOa⟩ := app_tail2 HF3.out HX.out HFz.out HO.out HNE.out hb2 hown3 hg3 hat
            refine hK _ _ ?_
            clear hK K
            try go_simp
            refine wpAny_take (i := 7) (v := ?_) rfl (by kernel_rfl) (by kernel_rfl) (by kernel_rfl) (fun _ _ _ h => h) (Or.inl ⟨by rfl, ?_⟩) ?_
            rotate_left 1
            · first | (intro w; go_simp; done) | (intro w; go_simp; with_reducible rfl)
            try go_simp
            refine wpAny_ready (rs := [8]) (by kernel_rfl) (by simp) ?_
            refine AllReady.cons rfl (fun K hK => ?_) AllReady.nil
            · go_simp
              refine hK _ _ ?_
              clear hK K
              try go_simp
              refine wpAny_done (by kernel_rfl) ?_ _
              have HFb : Hid (Fr w (w3.setCell ⟨Q, 1, none⟩ (.slice (some ⟨g2, 0, none⟩) (n + 1) cap2)) s (.slice a n cap)) := HFa.out.grown (setGrown (World.grownBy.refl _ _)) (by simp; omega) (by simp; omega) (HFa.out.bel.setCell (by show w.heap.size ≤ Q; omega) _)
              have HXb : Hid (Bx (w3.setCell ⟨Q, 1, none⟩ (.slice (some ⟨g2, 0, none⟩) (n + 1) cap2)) Q s (.slice (some ⟨g2, 0, none⟩) (n + 1) cap2)) := Bx.set ⟨f0, f1, flt⟩ _
              have HOb : Hid ((w3.setCell ⟨Q, 1, none⟩ (.slice (some ⟨g2, 0, none⟩) (n + 1) cap2)).ownsRow (w.heap.size + 2) 9 1 (.slice (some ⟨g2, 0, none⟩) (n + 1) cap2) (n + 1) (textsC (snocT I n t) (n + 1))) := by rw [textsC_snoc]; exact own_cell2 HOa.out.1 HOa.out.2
              have HTX : Hid (TextsAt (w3.setCell ⟨Q, 1, none⟩ (.slice (some ⟨g2, 0, none⟩) (n + 1) cap2)) (some ⟨g2, 0, none⟩) (n + 1) (snocT I n t)) := by
                obtain ⟨a', c', e, hO, _⟩ := own_texts HOb.out
                simp at e
                obtain ⟨rfl, rfl⟩ := e
                exact hO.texts
              have b0 := HXb.out.c0
              have b1 := HXb.out.c1
              have blt := HXb.out.lt
              obtain ⟨W4, hW4⟩ : ∃ W, W = w3.setCell ⟨Q, 1, none⟩ (.slice (some ⟨g2, 0, none⟩) (n + 1) cap2) := ⟨_, rfl⟩
              rw [← hW4] at HFb HXb HOb HTX b0 b1 blt ⊢
              clear hW4 hown3 hg3 hat hlt f0 f1 flt ff HFa HOa
              go_wp2_with fail
              refine (HR2.out _ _ _ HTX.out).mono ?_
              rintro e w5 ⟨rfl, hb5⟩
              have F5 := HFb.out.next hb5
              have X5 := HXb.out.below hb5
              obtain ⟨c0, c1, clt⟩ := X5
              have HF5 : Hid (Fr w w5 s (.slice a n cap)) := F5
              obtain ⟨a0, a1, alt⟩ := F5.box
              have HO5 : Hid (w5.ownsRow (w.heap.size + 2) 9 1 (.slice (some ⟨g2, 0, none⟩) (n + 1) cap2) (n + 1) (textsC (snocT I n t) (n + 1))) := own_below HOb.out hb5
              clear hb5 F5 HR2 HTX HFb HXb HOb
              cases B
              · have HV' : Hid (writeS s t = s ∧ writeN s n I t = n) := by rw [HV.out.1, HV.out.2, if_neg hbig, if_neg hbig, HBD.out]; exact ⟨rfl, rfl⟩
                go_wp2_with fail
                refine (HC.out _ (HL.out.below HF5.out.bel)).mono ?_
                rintro e w6 ⟨v2, rfl, hown2, hb6⟩
                have F6 := HF5.out.next hb6
                have HO2 : Hid (w6.ownsRow (w.heap.size + 2) 9 1 v2 n (textsC (snocT I n t) n)) := by rw [textsC_snoc0]; exact own_base hown2 HF5.out.size
                obtain ⟨av2, cv2, hv2⟩ := own_slice hown2
                subst hv2
                have r0 := F6.r0
                have r1 := F6.r1
                have rf := F6.rf
                have HB6 : Hid (Below w.heap.size w w6) := F6.bel
                clear hown2 hb6 F6
                go_wp2_with fail
                refine bodyPost_ret (v := .agg #[.string s, .slice av2 n cv2]) ?_ rfl ⟨_, by rw [HV'.out.1], by rw [HV'.out.2]; exact own_base (own_cell (own_cell HO2.out (by omega)) (by omega)) (by omega), ?_⟩
                · simp [results, Try.results29, go_sem, r0, r1]
                · exact (HB6.out.setCell (by show w.heap.size ≤ w.heap.size + 1; omega) _).setCell (by show w.heap.size ≤ w.heap.size + 1; omega) _
              · have HV' : Hid (writeS s t = s ∧ writeN s n I t = n + 1) := by rw [HV.out.1, HV.out.2, if_neg hbig, if_neg hbig, HBD.out]; exact ⟨rfl, rfl⟩
                have r0 := HF5.out.r0
                have r1 := HF5.out.r1
                have rf := HF5.out.rf
                go_wp2_with fail
                refine bodyPost_ret (v := .agg #[.string s, .slice (some ⟨g2, 0, none⟩) (n + 1) cap2]) ?_ rfl ⟨_, by rw [HV'.out.1], by rw [HV'.out.2]; exact own_base (own_cell (own_cell HO5.out (by omega)) (by omega)) (by omega), ?_⟩
                · simp [results, Try.results29, go_sem, r0, r1]
                · exact (HF5.out.bel.setCell (by show w.heap.size ≤ w.heap.size + 1; omega) _).setCell (by show w.heap.size ≤ w.heap.size + 1; omega) _
      · go_simp
        refine hK _ _ ?_
        clear hK K
        try go_simp
        refine wpAny_ready (rs := [1]) (by kernel_rfl) (by simp) ?_
        refine AllReady.cons rfl (fun K hK => ?_) AllReady.nil
        · go_simp
          refine hK _ _ ?_
          clear hK K
          try go_simp
          refine wpAny_ready (rs := [6]) (by kernel_rfl) (by simp) ?_
          refine AllReady.cons rfl (fun K hK => ?_) AllReady.nil
          · refine step_append_lies _ (by rfl) _ _ _ (by rfl) (w.heap.size + 2) 9 i0 (.string ⟨#[]⟩) 1 16 Try.underlying23 hi hz0 hz1 hz2 (by rfl) (by decide) (.slice av n cv) n (textsC I n) (by rfl) ((own_below HO.out ((Below.refl _ W3).drew.trans hb2)).alloc _) ⟨w2.heap.size, 0, none⟩ 1 1 [.string t] (by rfl) (by rfl) (news1 _ rfl) (ones1 _) (by omega) (by unfold maxLen; omega) (by omega) (by have := hb2.size; have : w.heap.size + 2 ≤ W3.heap.size := HF3.out.size; have : W3.heap.size ≤ w2.heap.size := hb2.size; simp; omega) (w2.heap.size + 1) (by simp) ?_
            intro g2 cap2 w3 hown3 hg3 hat hlt
            obtain ⟨f0, f1, flt, ff, HFa, HOa⟩ := app_tail2 HF3.out HX.out HFz.out HO.out HNE.out hb2 hown3 hg3 hat
            refine hK _ _ ?_
            clear hK K
            try go_simp
            refine wpAny_take (i := 7) (v := ?_) rfl (by kernel_rfl) (by kernel_rfl) (by kernel_rfl) (fun _ _ _ h => h) (Or.inl ⟨by rfl, ?_⟩) ?_
            rotate_left 1
            · first | (intro w; go_simp; done) | (intro w; go_simp; with_reducible rfl)
            try go_simp
            refine wpAny_ready (rs := [8]) (by kernel_rfl) (by simp) ?_
            refine AllReady.cons rfl (fun K hK => ?_) AllReady.nil
            · go_simp
              refine hK _ _ ?_
              clear hK K
              try go_simp
              refine wpAny_done (by kernel_rfl) ?_ _
              have HFb : Hid (Fr w (w3.setCell ⟨Q, 1, none⟩ (.slice (some ⟨g2, 0, none⟩) (n + 1) cap2)) s (.slice a n cap)) := HFa.out.grown (setGrown (World.grownBy.refl _ _)) (by simp; omega) (by simp; omega) (HFa.out.bel.setCell (by show w.heap.size ≤ Q; omega) _)
              have HXb : Hid (Bx (w3.setCell ⟨Q, 1, none⟩ (.slice (some ⟨g2, 0, none⟩) (n + 1) cap2)) Q s (.slice (some ⟨g2, 0, none⟩) (n + 1) cap2)) := Bx.set ⟨f0, f1, flt⟩ _
              have HOb : Hid ((w3.setCell ⟨Q, 1, none⟩ (.slice (some ⟨g2, 0, none⟩) (n + 1) cap2)).ownsRow (w.heap.size + 2) 9 1 (.slice (some ⟨g2, 0, none⟩) (n + 1) cap2) (n + 1) (textsC (snocT I n t) (n + 1))) := by rw [textsC_snoc]; exact own_cell2 HOa.out.1 HOa.out.2
              have HTX : Hid (TextsAt (w3.setCell ⟨Q, 1, none⟩ (.slice (some ⟨g2, 0, none⟩) (n + 1) cap2)) (some ⟨g2, 0, none⟩) (n + 1) (snocT I n t)) := by
                obtain ⟨a', c', e, hO, _⟩ := own_texts HOb.out
                simp at e
                obtain ⟨rfl, rfl⟩ := e
                exact hO.texts
              have b0 := HXb.out.c0
              have b1 := HXb.out.c1
              have blt := HXb.out.lt
              obtain ⟨W4, hW4⟩ : ∃ W, W = w3.setCell ⟨Q, 1, none⟩ (.slice (some ⟨g2, 0, none⟩) (n + 1) cap2) := ⟨_, rfl⟩
              rw [← hW4] at HFb HXb HOb HTX b0 b1 blt ⊢
              clear hW4 hown3 hg3 hat hlt f0 f1 flt ff HFa HOa
              go_wp2_with fail
              refine (HR2.out _ _ _ HTX.out).mono ?_
              rintro e w5 ⟨rfl, hb5⟩
              have F5 := HFb.out.next hb5
              have X5 := HXb.out.below hb5
              obtain ⟨c0, c1, clt⟩ := X5
              have HF5 : Hid (Fr w w5 s (.slice a n cap)) := F5
              obtain ⟨a0, a1, alt⟩ := F5.box
              have HO5 : Hid (w5.ownsRow (w.heap.size + 2) 9 1 (.slice (some ⟨g2, 0, none⟩) (n + 1) cap2) (n + 1) (textsC (snocT I n t) (n + 1))) := own_below HOb.out hb5
              clear hb5 F5 HR2 HTX HFb HXb HOb
              cases B
              · have HV' : Hid (writeS s t = s ∧ writeN s n I t = n) := by rw [HV.out.1, HV.out.2, if_neg hbig, if_neg hbig, HBD.out]; exact ⟨rfl, rfl⟩
                go_wp2_with fail
                refine (HC.out _ (HL.out.below HF5.out.bel)).mono ?_
                rintro e w6 ⟨v2, rfl, hown2, hb6⟩
                have F6 := HF5.out.next hb6
                have HO2 : Hid (w6.ownsRow (w.heap.size + 2) 9 1 v2 n (textsC (snocT I n t) n)) := by rw [textsC_snoc0]; exact own_base hown2 HF5.out.size
                obtain ⟨av2, cv2, hv2⟩ := own_slice hown2
                subst hv2
                have r0 := F6.r0
                have r1 := F6.r1
                have rf := F6.rf
                have HB6 : Hid (Below w.heap.size w w6) := F6.bel
                clear hown2 hb6 F6
                go_wp2_with fail
                refine bodyPost_ret (v := .agg #[.string s, .slice av2 n cv2]) ?_ rfl ⟨_, by rw [HV'.out.1], by rw [HV'.out.2]; exact own_base (own_cell (own_cell HO2.out (by omega)) (by omega)) (by omega), ?_⟩
                · simp [results, Try.results29, go_sem, r0, r1]
                · exact (HB6.out.setCell (by show w.heap.size ≤ w.heap.size + 1; omega) _).setCell (by show w.heap.size ≤ w.heap.size + 1; omega) _
              · have HV' : Hid (writeS s t = s ∧ writeN s n I t = n + 1) := by rw [HV.out.1, HV.out.2, if_neg hbig, if_neg hbig, HBD.out]; exact ⟨rfl, rfl⟩
                have r0 := HF5.out.r0
                have r1 := HF5.out.r1
                have rf := HF5.out.rf
                go_wp2_with fail
                refine bodyPost_ret (v := .agg #[.string s, .slice (some ⟨g2, 0, none⟩) (n + 1) cap2]) ?_ rfl ⟨_, by rw [HV'.out.1], by rw [HV'.out.2]; exact own_base (own_cell (own_cell HO5.out (by omega)) (by omega)) (by omega), ?_⟩
                · simp [results, Try.results29, go_sem, r0, r1]
                · exact (HF5.out.bel.setCell (by show w.heap.size ≤ w.heap.size + 1; omega) _).setCell (by show w.heap.size ≤ w.heap.size + 1; omega) _
set_option maxRecDepth 100000 in
set_option maxHeartbeats 8000000 in
theorem spec_write (s : ByteArray) (a : Option Addr) (n cap : Nat) (I : Nat → Tx) (t : ByteArray) (ht : t.size ≤ 1048576) (hs : s.size ≤ 1048576) (hsm : ∀ i, i < n → (I i).small) (w : World) (h : TextsAt w a n I) (hn : n ≤ 1048576) :
    Calls Try.prog 28 #[.agg #[.string s, .slice a n cap], .string t] w fun e w' => ∃ v, e = .returned (.agg #[.string (writeS s t), v]) ∧ w'.ownsRow w.heap.size 9 1 v (writeN s n I t) (textsC (snocT I n t) (writeN s n I t)) ∧ Below w.heap.size w w' := by
  obtain ⟨i0, hi, hz0, hz1, hz2⟩ := info_parts info9
  have HV : Hid (writeS s t = (if 20000 < t.size then ⟨#[]⟩ else s) ∧ writeN s n I t = (if 20000 < t.size then 0 else if diskB s (n + 1) (snocT I n t) = true then n + 1 else n)) := ⟨rfl, rfl⟩
  have HL : Hid (TextsAt w a n I) := h
  have HM : Hid (∀ i, i < n → (I i).small) := hsm
  have HF0 : Hid (Fr w ((w.alloc (.cells #[.string s, .slice a n cap] 25)).alloc (.cells #[.string ⟨#[]⟩, .slice none 0 0] 25)) s (.slice a n cap)) := Fr.new _ _ _ _ _
  have HC : Hid (∀ W, TextsAt W a n I → Calls Try.prog 56 #[.agg #[.string s, .slice a n cap]] W fun e w' => ∃ v, e = .returned (.agg #[.string s, v]) ∧ w'.ownsRow W.heap.size 9 1 v n (textsC I n) ∧ Below W.heap.size W w') := fun W hW => spec_copy s a n cap I W hW hn
  clear h hsm
  by_cases hbig : 20000 < t.size
  · have p0 : decide (20000 < t.size) = true := by simpa using hbig
    have p1 : decide ((20000 : Int) < (t.size : Int)) = true := by simp; omega
    have HV' : Hid (writeS s t = ⟨#[]⟩ ∧ writeN s n I t = 0) := by rw [HV.out.1, HV.out.2, if_pos hbig, if_pos hbig]; exact ⟨rfl, rfl⟩
    have r0 := HF0.out.r0
    have r1 := HF0.out.r1
    have rf := HF0.out.rf
    go_enter Try.func28, Try.ntmps28
    go_wp2_with fail
    refine bodyPost_ret (v := .agg #[.string ⟨#[]⟩, .slice none 0 0]) ?_ rfl ⟨_, by rw [HV'.out.1], by rw [HV'.out.2]; exact World.ownsRow_nil _ _ _ _, ?_⟩
    · simp [results, Try.results28, go_sem]
    · exact (HF0.out.bel)
  have p0 : decide (20000 < t.size) = false := by simpa using hbig
  have p1 : decide ((20000 : Int) < (t.size : Int)) = false := by simp; omega
  obtain ⟨B, hB⟩ : ∃ B, diskB s (n + 1) (snocT I n t) = B := ⟨_, rfl⟩
  have HR2 : Hid (∀ x c W, TextsAt W (some x) (n + 1) (snocT I n t) → Calls Try.prog 13 #[.agg #[.string s, .slice (some x) (n + 1) c]] W fun e w' => e = .returned (.bool B) ∧ Below W.heap.size W w') := fun x c W hW => by
    rw [← hB]; exact spec_dright2 s _ (n + 1) c _ hs (snoc_small HM.out (by omega)) W hW (by omega)
  have HBD : Hid (diskB s (n + 1) (snocT I n t) = B) := hB
  clear hB
  obtain ⟨b, hb⟩ : ∃ b, diskB s n I = b := ⟨_, rfl⟩
  have HR : Hid (∀ W, TextsAt W a n I → Calls Try.prog 13 #[.agg #[.string s, .slice a n cap]] W fun e w' => e = .returned (.bool b) ∧ Below W.heap.size W w') := fun W hW => by rw [← hb]; exact spec_dright s a n cap I hs HM.out W hW hn
  have HIMP : Hid ((b = false ∨ t.size = 0) → B = false) := fun e => by
    cases hB : B
    · rfl
    · have ok := snoc_ok ((diskB_iff _ _ _).1 (HBD.out.trans hB))
      rcases e with e | e
      · rw [(diskB_iff _ _ _).2 ok.1] at hb; rw [← hb] at e; cases e
      · exact absurd e ok.2
  clear hb
  go_enter Try.func28, Try.ntmps28
  go_wp2_with fail
  refine (HC.out _ (HL.out.below HF0.out.bel)).mono ?_
  rintro e w1 ⟨v, rfl, hown, hb1⟩
  have F1 := HF0.out.next hb1
  have HO1 : Hid (w1.ownsRow (w.heap.size + 2) 9 1 v n (textsC I n)) := own_base hown HF0.out.size
  obtain ⟨av, cv, hv⟩ := own_slice hown
  subst hv
  have HNE1 : Hid ((Value.slice av n cv).ownBlock ≠ some w1.heap.size) := fun e => by have := (hown.lt _ e).2; omega
  have HF1 : Hid (Fr w w1 s (.slice a n cap)) := F1
  clear hown hb1 F1
  have HF3' : Hid (Fr w (w1.alloc (.cells #[.string s, .slice av n cv] 25)) s (.slice a n cap)) := HF1.out.next ((Below.refl _ _).alloc (Nat.le_refl _) _)
  have HX' : Hid (Bx (w1.alloc (.cells #[.string s, .slice av n cv] 25)) w1.heap.size s (.slice av n cv)) := Bx.new _ _ _ _
  have HFz' : Hid (∀ j, (w1.alloc (.cells #[.string s, .slice av n cv] 25)).frozen? ⟨w1.heap.size, j, none⟩ = false) := fun j => fnew' rfl j
  have HO' : Hid ((w1.alloc (.cells #[.string s, .slice av n cv] 25)).ownsRow (w.heap.size + 2) 9 1 (.slice av n cv) n (textsC I n)) := HO1.out.alloc _
  have hq2' : w.heap.size + 2 ≤ w1.heap.size := HF1.out.size
  obtain ⟨d0, d1, dlt⟩ := HF1.out.box
  have n0 : w1.heap.size ≠ w.heap.size := by omega
  go_wp2_with fail
  refine (HR.out _ (HL.out.below HF3'.out.bel)).mono ?_
  rintro e w2 ⟨rfl, hb2⟩
  have HF2 : Hid (Fr w w2 s (.slice a n cap)) := HF3'.out.next hb2
  have HX2 : Hid (Bx w2 w1.heap.size s (.slice av n cv)) := HX'.out.below hb2
  have HFz2 : Hid (∀ j, w2.frozen? ⟨w1.heap.size, j, none⟩ = false) := fun j => (hb2.frozen (p := ⟨w1.heap.size, j, none⟩) HX'.out.lt).trans (HFz'.out j)
  have HO2' : Hid (w2.ownsRow (w.heap.size + 2) 9 1 (.slice av n cv) n (textsC I n)) := own_below HO'.out hb2
  obtain ⟨Q, hQ⟩ : ∃ Q, Q = w1.heap.size := ⟨_, rfl⟩
  rw [← hQ] at HX2 HFz2 HNE1 hq2' ⊢
  clear hb2 HF3' HX' HFz' HO' HO1 HF1 HF0 hQ d0 d1 dlt n0
  obtain ⟨c0, c1, clt⟩ := HX2.out
  have r0 := HF2.out.r0
  have r1 := HF2.out.r1
  have rf := HF2.out.rf
  by_cases hno : b = false ∨ t.size = 0
  · have HV' : Hid (writeS s t = s ∧ writeN s n I t = n) := by rw [HV.out.1, HV.out.2, if_neg hbig, if_neg hbig, HBD.out, HIMP.out hno]; exact ⟨rfl, rfl⟩
    have HOn : Hid (w2.ownsRow (w.heap.size + 2) 9 1 (.slice av n cv) n (textsC (snocT I n t) n)) := by rw [textsC_snoc0]; exact HO2'.out
    cases b
    · clear hno
      go_wp2_with fail
      refine bodyPost_ret (v := .agg #[.string s, .slice av n cv]) ?_ rfl ⟨_, by rw [HV'.out.1], by rw [HV'.out.2]; exact own_base (own_cell (own_cell HOn.out (by omega)) (by omega)) (by omega), ?_⟩
      · simp [results, Try.results28, go_sem, r0, r1]
      · exact (HF2.out.bel.setCell (by show w.heap.size ≤ w.heap.size + 1; omega) _).setCell (by show w.heap.size ≤ w.heap.size + 1; omega) _

    · have h0 : t.size = 0 := by rcases hno with e | e; · cases e
                                 · exact e
      obtain ⟨h3, h4⟩ := emp_is h0
      clear hno h0
      go_wp2_with fail
      refine bodyPost_ret (v := .agg #[.string s, .slice av n cv]) ?_ rfl ⟨_, by rw [HV'.out.1], by rw [HV'.out.2]; exact own_base (own_cell (own_cell HOn.out (by omega)) (by omega)) (by omega), ?_⟩
      · simp [results, Try.results28, go_sem, r0, r1]
      · exact (HF2.out.bel.setCell (by show w.heap.size ≤ w.heap.size + 1; omega) _).setCell (by show w.heap.size ≤ w.heap.size + 1; omega) _

  obtain rfl : b = true := by cases hb : b
                              · exact absurd (Or.inl hb) hno
                              · rfl
  have h0 : t.size ≠ 0 := fun e => hno (Or.inr e)
  obtain ⟨e0, e1⟩ := emp_no h0
  clear hno h0 HIMP
  go_wp2_with (refine wpList_append_lies _ rfl (.tmp 21) (.tmp 23) 23 rfl (w.heap.size + 2) 9 i0 (.string ⟨#[]⟩) 1 16 Try.underlying23 hi hz0 hz1 hz2 rfl (by decide) (.slice av n cv) n (textsC I n) rfl (HO2'.out.alloc _) ⟨w2.heap.size, 0, none⟩ 1 1 [.string t] rfl rfl (news1 _ rfl) (ones1 _) (by omega) (by unfold maxLen; omega) (by omega) (by have := HF2.out.size; simp; omega) (w2.heap.size + 1) (by simp) ?_)
  intro g2 cap2 w3 hown3 hg3 hat hlt
  obtain ⟨f0, f1, flt, ff, HFa, HOa⟩ := app_tail2 HF2.out HX2.out HFz2.out HO2'.out HNE1.out (undrew (Below.refl _ _)) hown3 hg3 hat
  clear c0 c1 clt r0 r1 rf e0 e1
  go_upto_region 7 with fail
  have HFb : Hid (Fr w (w3.setCell ⟨Q, 1, none⟩ (.slice (some ⟨g2, 0, none⟩) (n + 1) cap2)) s (.slice a n cap)) := HFa.out.grown (setGrown (World.grownBy.refl _ _)) (by simp; omega) (by simp; omega) (HFa.out.bel.setCell (by show w.heap.size ≤ Q; omega) _)
  have HXb : Hid (Bx (w3.setCell ⟨Q, 1, none⟩ (.slice (some ⟨g2, 0, none⟩) (n + 1) cap2)) Q s (.slice (some ⟨g2, 0, none⟩) (n + 1) cap2)) := Bx.set ⟨f0, f1, flt⟩ _
  have HOb : Hid ((w3.setCell ⟨Q, 1, none⟩ (.slice (some ⟨g2, 0, none⟩) (n + 1) cap2)).ownsRow (w.heap.size + 2) 9 1 (.slice (some ⟨g2, 0, none⟩) (n + 1) cap2) (n + 1) (textsC (snocT I n t) (n + 1))) := by rw [textsC_snoc]; exact own_cell2 HOa.out.1 HOa.out.2
  have HTX : Hid (TextsAt (w3.setCell ⟨Q, 1, none⟩ (.slice (some ⟨g2, 0, none⟩) (n + 1) cap2)) (some ⟨g2, 0, none⟩) (n + 1) (snocT I n t)) := by
    obtain ⟨a', c', e, hO, _⟩ := own_texts HOb.out
    simp at e
    obtain ⟨rfl, rfl⟩ := e
    exact hO.texts
  have b0 := HXb.out.c0
  have b1 := HXb.out.c1
  have blt := HXb.out.lt
  obtain ⟨W4, hW4⟩ : ∃ W, W = w3.setCell ⟨Q, 1, none⟩ (.slice (some ⟨g2, 0, none⟩) (n + 1) cap2) := ⟨_, rfl⟩
  rw [← hW4] at HFb HXb HOb HTX b0 b1 blt ⊢
  clear hW4 hown3 hg3 hat hlt f0 f1 flt ff HFa HOa
  go_wp2_with fail
  refine (HR2.out _ _ _ HTX.out).mono ?_
  rintro e w5 ⟨rfl, hb5⟩
  have F5 := HFb.out.next hb5
  have X5 := HXb.out.below hb5
  obtain ⟨c0, c1, clt⟩ := X5
  have HF5 : Hid (Fr w w5 s (.slice a n cap)) := F5
  obtain ⟨a0, a1, alt⟩ := F5.box
  have HO5 : Hid (w5.ownsRow (w.heap.size + 2) 9 1 (.slice (some ⟨g2, 0, none⟩) (n + 1) cap2) (n + 1) (textsC (snocT I n t) (n + 1))) := own_below HOb.out hb5
  clear hb5 F5 HR2 HTX HFb HXb HOb
  cases B
  · have HV' : Hid (writeS s t = s ∧ writeN s n I t = n) := by rw [HV.out.1, HV.out.2, if_neg hbig, if_neg hbig, HBD.out]; exact ⟨rfl, rfl⟩
    go_wp2_with fail
    refine (HC.out _ (HL.out.below HF5.out.bel)).mono ?_
    rintro e w6 ⟨v2, rfl, hown2, hb6⟩
    have F6 := HF5.out.next hb6
    have HO2 : Hid (w6.ownsRow (w.heap.size + 2) 9 1 v2 n (textsC (snocT I n t) n)) := by rw [textsC_snoc0]; exact own_base hown2 HF5.out.size
    obtain ⟨av2, cv2, hv2⟩ := own_slice hown2
    subst hv2
    have r0 := F6.r0
    have r1 := F6.r1
    have rf := F6.rf
    have HB6 : Hid (Below w.heap.size w w6) := F6.bel
    clear hown2 hb6 F6
    go_wp2_with fail
    refine bodyPost_ret (v := .agg #[.string s, .slice av2 n cv2]) ?_ rfl ⟨_, by rw [HV'.out.1], by rw [HV'.out.2]; exact own_base (own_cell (own_cell HO2.out (by omega)) (by omega)) (by omega), ?_⟩
    · simp [results, Try.results28, go_sem, r0, r1]
    · exact (HB6.out.setCell (by show w.heap.size ≤ w.heap.size + 1; omega) _).setCell (by show w.heap.size ≤ w.heap.size + 1; omega) _
  · have HV' : Hid (writeS s t = s ∧ writeN s n I t = n + 1) := by rw [HV.out.1, HV.out.2, if_neg hbig, if_neg hbig, HBD.out]; exact ⟨rfl, rfl⟩
    have r0 := HF5.out.r0
    have r1 := HF5.out.r1
    have rf := HF5.out.rf
    go_wp2_with fail
    refine bodyPost_ret (v := .agg #[.string s, .slice (some ⟨g2, 0, none⟩) (n + 1) cap2]) ?_ rfl ⟨_, by rw [HV'.out.1], by rw [HV'.out.2]; exact own_base (own_cell (own_cell HO5.out (by omega)) (by omega)) (by omega), ?_⟩
    · simp [results, Try.results28, go_sem, r0, r1]
    · exact (HF5.out.bel.setCell (by show w.heap.size ≤ w.heap.size + 1; omega) _).setCell (by show w.heap.size ≤ w.heap.size + 1; omega) _
set_option maxRecDepth 100000 in
set_option maxHeartbeats 16000000 in
theorem law_write (s : ByteArray) (hs : s.size ≤ maxLen) (a : Option Addr) (n cap : Nat) (I : Nat → Tx) (hn : n ≤ maxLen) (hfit : ∀ i, i < n → (I i).fits) (t : ByteArray) (htm : t.size ≤ maxLen) (w : World) (h : TextsAt w a n I) :
    Calls Try.prog 7 #[.agg #[.string s, .slice a n cap], .string t] w fun e w' => e = .returned (.bool true) ∧ Below w.heap.size w w' := by
  unfold maxLen at htm
  by_cases hbig : 1048576 < t.size
  · have p0 : decide (1048576 < t.size) = true := by simpa using hbig
    have p1 : decide ((1048576 : Int) < (t.size : Int)) = true := by simp; omega
    go_enter Try.func7, Try.ntmps7
    go_wp2_with fail
    go_ret
    exact ⟨rfl, (Below.refl _ _).alloc (Nat.le_refl _) _⟩
  have pt0 : decide (1048576 < t.size) = false := by simpa using hbig
  have pt1 : decide ((1048576 : Int) < (t.size : Int)) = false := by simp; omega
  have htt : t.size ≤ 1048576 := by omega
  have HNB := writeN_le s n I t
  have HL : Hid (TextsAt w a n I) := h
  have HF : Hid (∀ i, i < n → (I i).fits) := hfit
  have HN : Hid (s.size ≤ maxLen ∧ n ≤ maxLen) := ⟨hs, hn⟩
  have HX0 : Hid (Bx (w.alloc (.cells #[.string s, .slice a n cap] 44)) w.heap.size s (.slice a n cap)) := Bx.new _ _ _ _
  have HB0 : Hid (Below w.heap.size w (w.alloc (.cells #[.string s, .slice a n cap] 44))) := (Below.refl _ _).alloc (Nat.le_refl _) _
  have hm0 : n ≤ 1048576 → writeN s n I t ≤ 1048576 := fun h => HNB h
  obtain ⟨S, hS⟩ : ∃ S, S = writeS s t := ⟨_, rfl⟩
  obtain ⟨m, hm⟩ : ∃ m, m = writeN s n I t := ⟨_, rfl⟩
  obtain ⟨J, hJ⟩ : ∃ J, J = (snocT I n t) := ⟨_, rfl⟩
  have HS : Hid (∀ g W, s.size ≤ 1048576 → n ≤ 1048576 → (∀ i, i < n → (I i).small) → TextsAt W (some ⟨g, 0, none⟩) n I → Calls Try.prog 28 #[.agg #[.string s, .slice (some ⟨g, 0, none⟩) n n], .string t] W fun e w' => ∃ a' c', e = .returned (.agg #[.string S, .slice a' m c']) ∧ OwnR w' a' m 1 (textF J) ∧ (∀ k, a'.map Addr.block = some k → W.heap.size ≤ k ∧ k < w'.heap.size) ∧ Below W.heap.size W w') := fun g W h1 h2 h3 h4 => by
    refine (spec_write s _ n n I t htt h1 h3 W h4 h2).mono ?_
    rintro e w' ⟨v, rfl, ho, hb⟩
    rw [← hS, ← hm] at *
    rw [← hJ] at ho
    obtain ⟨a', c', rfl, hO, hl⟩ := own_texts ho
    exact ⟨a', c', rfl, hO, hl, hb⟩
  have HI : Hid (∀ g W, s.size ≤ 1048576 → n ≤ 1048576 → (∀ i, i < n → (I i).small) → TextsAt W (some ⟨g, 0, none⟩) n I → Calls Try.prog 29 #[.agg #[.string s, .slice (some ⟨g, 0, none⟩) n n], .string t] W fun e w' => ∃ a' c', e = .returned (.agg #[.string S, .slice a' m c']) ∧ OwnR w' a' m 1 (textF J) ∧ (∀ k, a'.map Addr.block = some k → W.heap.size ≤ k ∧ k < w'.heap.size) ∧ Below W.heap.size W w') := fun g W h1 h2 h3 h4 => by
    refine (impl_write s _ n n I t htt h1 h3 W h4 h2).mono ?_
    rintro e w' ⟨v, rfl, ho, hb⟩
    rw [← hS, ← hm] at *
    rw [← hJ] at ho
    obtain ⟨a', c', rfl, hO, hl⟩ := own_texts ho
    exact ⟨a', c', rfl, hO, hl, hb⟩
  rw [← hm] at hm0
  clear h hfit hn hs hS hm hJ
  go_enter Try.func7, Try.ntmps7
  go_wp2_with fail
  refine (sz_disk s a n cap I HN.out.1 HN.out.2 HF.out 1048576 (by omega) _ (HL.out.below HB0.out)).mono ?_
  rintro e w1 ⟨he, hb1⟩
  have HB1 : Hid (Below w.heap.size w w1) := HB0.out.trans (hb1.mono HB0.out.size)
  have HP1 : Hid (Bx w1 w.heap.size s (.slice a n cap)) := HX0.out.below hb1
  obtain ⟨c0, c1, clt⟩ := HP1.out
  clear hb1 HX0 HB0
  rcases he with rfl | ⟨r, rfl, hr, hsl, hnl, hsm⟩
  · have q' : decide ((-1 : Int) < 0) = true := rfl
    go_wp2_with fail
    go_ret
    exact ⟨rfl, HB1.out⟩
  have HM : Hid (∀ i, i < n → (I i).small) := hsm
  have hmm := hm0 hnl
  clear hsm hm0
  have q' : decide ((r : Int) < 0) = false := by simp
  go_wp2_with fail
  refine (to_disk s a n cap I hnl _ (HL.out.below HB1.out)).mono ?_
  rintro e w2 ⟨g, rfl, _, hO, hb2⟩
  have HB2 : Hid (Below w.heap.size w w2) := HB1.out.trans (hb2.mono HB1.out.size)
  have HP2 : Hid (Bx w2 w.heap.size s (.slice a n cap)) := HP1.out.below hb2
  have HO : Hid (Own w2 g n (textF I)) := hO
  clear hO hb2 c0 c1 clt HP1 HB1
  go_wp2_with fail
  refine (HS.out g _ hsl hnl HM.out HO.out.texts).mono ?_
  rintro e w3 ⟨sa, cs, rfl, hOs, hls, hb3⟩
  have HB3 : Hid (Below w.heap.size w w3) := HB2.out.trans (hb3.mono HB2.out.size)
  have HP3 : Hid (Bx w3 w.heap.size s (.slice a n cap)) := HP2.out.below hb3
  have HOs3 : Hid (OwnR w3 sa m 1 (textF J)) := hOs
  have HLs : Hid (∀ k, sa.map Addr.block = some k → w.heap.size < k ∧ k < w3.heap.size) := fun k e => ⟨Nat.lt_of_lt_of_le HP2.out.lt (hls k e).1, (hls k e).2⟩
  obtain ⟨c0, c1, clt⟩ := HP3.out
  have n0 : w3.heap.size ≠ w.heap.size := by omega
  have HL3 : Hid (Below w3.heap.size w3 (w3.alloc (.cells #[.string S, .slice sa m cs] 25))) := (Below.refl _ _).alloc (Nat.le_refl _) _
  clear hb3 HO hOs hls HP2 HB2
  go_wp2_with fail
  refine (to_disk s a n cap I hnl _ ((HL.out.below HB3.out).below HL3.out)).mono ?_
  rintro e w4 ⟨x, rfl, hx, hO, hb4⟩
  have hbt : Below w3.heap.size w3 w4 := HL3.out.trans (hb4.mono HL3.out.size)
  have HB4 : Hid (Below w.heap.size w w4) := HB3.out.trans (hbt.mono HB3.out.size)
  have HP4 : Hid (Bx w4 w.heap.size s (.slice a n cap)) := HP3.out.below hbt
  have HA4 : Hid (Bx w4 w3.heap.size S (.slice sa m cs)) := (Bx.new _ _ _ _).below hb4
  have HOs4 : Hid (OwnR w4 sa m 1 (textF J)) := HOs3.out.below hbt
  have HX4 : Hid (Own w4 x n (textF I)) := hO
  have hxb : w3.heap.size < x ∧ x < w4.heap.size := ⟨by simp at hx; omega, hO.1⟩
  have HPA : Hid (w.heap.size < w3.heap.size) := clt
  have n0 : w4.heap.size ≠ w.heap.size := by have := hbt.size; omega
  have HL4 : Hid (Below w4.heap.size w4 (w4.alloc (.cells #[.string s, .slice (some ⟨x, 0, none⟩) n n] 25))) := (Below.refl _ _).alloc (Nat.le_refl _) _
  clear hb4 hO hx hbt HL3 HP3 HB3 HOs3 c0 c1 clt
  go_wp2_with fail
  refine (HI.out x _ hsl hnl HM.out (HX4.out.below HL4.out).texts).mono ?_
  rintro e w5 ⟨ga, cg, rfl, hOg, hlg, hb5⟩
  have hbt : Below w4.heap.size w4 w5 := HL4.out.trans (hb5.mono HL4.out.size)
  have HB5 : Hid (Below w.heap.size w w5) := HB4.out.trans (hbt.mono HB4.out.size)
  have HP5 : Hid (Bx w5 w.heap.size s (.slice a n cap)) := HP4.out.below hbt
  have HA5 : Hid (Bx w5 w3.heap.size S (.slice sa m cs)) := HA4.out.below hbt
  have HOs5 : Hid (OwnR w5 sa m 1 (textF J)) := HOs4.out.below hbt
  have HX5 : Hid (Own w5 x n (textF I)) := HX4.out.below hbt
  have HY5 : Hid (Bx w5 w4.heap.size s (.slice (some ⟨x, 0, none⟩) n n)) := (Bx.new _ _ _ _).below hb5
  have HOg5 : Hid (OwnR w5 ga m 1 (textF J)) := hOg
  have HNG : Hid (∀ k, ga.map Addr.block = some k → w4.heap.size < k ∧ k < w5.heap.size) := fun k e => ⟨by have := (hlg k e).1; simp at this; omega, (hlg k e).2⟩
  obtain ⟨d0, d1, dlt⟩ := HA5.out
  have n1 : w5.heap.size ≠ w3.heap.size := by omega
  have hX5 : w4.heap.size < w5.heap.size := HY5.out.lt
  have HL5 : Hid (Below w5.heap.size w5 (w5.alloc (.cells #[.string S, .slice ga m cg] 25))) := (Below.refl _ _).alloc (Nat.le_refl _) _
  clear hb5 hOg hlg hbt HL4 HP4 HA4 HB4 HOs4 HX4 n0
  go_wp2_with fail
  refine (eq_disk S ga sa m cg cs J (by omega) _ (HOg5.out.texts.below HL5.out) (HOs5.out.texts.below HL5.out)).mono ?_
  rintro e w6 ⟨rfl, hb6⟩
  have hbt : Below w5.heap.size w5 w6 := HL5.out.trans (hb6.mono HL5.out.size)
  have HB6 : Hid (Below w.heap.size w w6) := HB5.out.trans (hbt.mono HB5.out.size)
  have HP6 : Hid (Bx w6 w.heap.size s (.slice a n cap)) := HP5.out.below hbt
  have HA6 : Hid (Bx w6 w3.heap.size S (.slice sa m cs)) := HA5.out.below hbt
  have HY6 : Hid (Bx w6 w4.heap.size s (.slice (some ⟨x, 0, none⟩) n n)) := HY5.out.below hbt
  have HG6 : Hid (Bx w6 w5.heap.size S (.slice ga m cg)) := (Bx.new _ _ _ _).below hb6
  have HOs6 : Hid (OwnR w6 sa m 1 (textF J)) := HOs5.out.below hbt
  have HOg6 : Hid (OwnR w6 ga m 1 (textF J)) := HOg5.out.below hbt
  have HX6 : Hid (Own w6 x n (textF I)) := HX5.out.below hbt
  have HAX : Hid (w3.heap.size < x ∧ x < w4.heap.size ∧ w4.heap.size < w5.heap.size) := ⟨hxb.1, hxb.2, hX5⟩
  clear hb6 hbt HL5 HP5 HA5 HY5 HB5 HOs5 HOg5 HX5 d0 d1 dlt n1 hxb hX5
  obtain ⟨PA, hPA⟩ : ∃ P, P = w3.heap.size := ⟨_, rfl⟩
  obtain ⟨PX, hPX⟩ : ∃ P, P = w4.heap.size := ⟨_, rfl⟩
  obtain ⟨PG, hPG⟩ : ∃ P, P = w5.heap.size := ⟨_, rfl⟩
  rw [← hPA] at HA6 HLs HAX HPA
  rw [← hPX] at HY6 HNG HAX
  rw [← hPG] at HG6 HNG HAX
  rw [← hPA, ← hPX, ← hPG]
  clear hPA hPX hPG
  obtain ⟨c0, c1, clt⟩ := HP6.out
  obtain ⟨d0, d1, dlt⟩ := HY6.out
  go_upto_region 12 with fail
  go_region_held3 (fun W => W.cell? ⟨w.heap.size, 0, none⟩ = some (.string s) ∧ W.cell? ⟨w.heap.size, 1, none⟩ = some (.slice a n cap) ∧ W.cell? ⟨PX, 0, none⟩ = some (.string s) ∧ W.cell? ⟨PX, 1, none⟩ = some (.slice (some ⟨x, 0, none⟩) n n)) (go_keep) (first | (go_at_call 26; refine (to_disk s a n cap I hnl _ (HL.out.below HB6.out.drew)).mono ?_; rintro e w7 ⟨y, rfl, hy, hO, hb7⟩; have e0 := (hb7.cell (p := ⟨w.heap.size, 0, none⟩) clt).trans c0; have e1 := (hb7.cell (p := ⟨w.heap.size, 1, none⟩) clt).trans c1; have f0 := (hb7.cell (p := ⟨PX, 0, none⟩) dlt).trans d0; have f1 := (hb7.cell (p := ⟨PX, 1, none⟩) dlt).trans d1; have hbu : Below w6.heap.size w6 w7 := (Below.refl _ w6).drew.trans hb7; have HX7 : Hid (Own w7 x n (textF I)) := HX6.out.below hbu; have HY7 : Hid (Own w7 y n (textF I)) := hO; clear hy hO) | (go_at_call 27; refine (eq_disk s _ _ n _ _ I hnl _ HX7.out.texts HY7.out.texts).mono ?_; rintro e w8 ⟨rfl, hb8⟩; have g0 := (hb8.cell (p := ⟨w.heap.size, 0, none⟩) (Nat.lt_of_lt_of_le clt hb7.size)).trans e0; have g1 := (hb8.cell (p := ⟨w.heap.size, 1, none⟩) (Nat.lt_of_lt_of_le clt hb7.size)).trans e1; have h0 := (hb8.cell (p := ⟨PX, 0, none⟩) (Nat.lt_of_lt_of_le dlt hb7.size)).trans f0; have h1 := (hb8.cell (p := ⟨PX, 1, none⟩) (Nat.lt_of_lt_of_le dlt hb7.size)).trans f1))
  have hbt : Below w6.heap.size w6 w8 := hbu.trans (hb8.mono hbu.size)
  have HB8 : Hid (Below w.heap.size w w8) := HB6.out.trans (hbt.mono HB6.out.size)
  have HP8 : Hid (Bx w8 w.heap.size s (.slice a n cap)) := HP6.out.below hbt
  have HA8 : Hid (Bx w8 PA S (.slice sa m cs)) := HA6.out.below hbt
  have HG8 : Hid (Bx w8 PG S (.slice ga m cg)) := HG6.out.below hbt
  have HOs8 : Hid (OwnR w8 sa m 1 (textF J)) := HOs6.out.below hbt
  have HOg8 : Hid (OwnR w8 ga m 1 (textF J)) := HOg6.out.below hbt
  have HX8 : Hid (Own w8 x n (textF I)) := HX6.out.below hbt
  clear hbt hbu hb7 hb8 c0 c1 d0 d1 clt dlt e0 e1 f0 f1 g0 g1 HX7 HY7 HP6 HA6 HY6 HG6 HOs6 HOg6 HX6 HB6
  go_wp2_with fail
  refine (mark_disk s (some ⟨x, 0, none⟩) n n (textF I) hnl 1 (by omega) (by omega) _ (Or.inr ⟨x, rfl, by rw [Nat.mul_one]; exact HX8.out⟩)).mono ?_
  rintro e w9 ⟨rfl, _, hg9⟩
  have ax := HAX.out
  have pa := HPA.out
  have hg9 : w8.grownBy w9 (some x) := hg9
  have HB9 : Hid (Below w.heap.size w w9) := HB8.out.grown hg9 HB8.out.size (fun k hk => by simp at hk; omega)
  have HP9 : Hid (Bx w9 w.heap.size s (.slice a n cap)) := HP8.out.grown hg9 (by simp; omega)
  have HA9 : Hid (Bx w9 PA S (.slice sa m cs)) := HA8.out.grown hg9 (by simp; omega)
  have HG9 : Hid (Bx w9 PG S (.slice ga m cg)) := HG8.out.grown hg9 (by simp; omega)
  have HOs9 : Hid (OwnR w9 sa m 1 (textF J)) := HOs8.out.grown hg9 (fun k e => by have := (HLs.out k e).2; simp; omega)
  have HOg9 : Hid (OwnR w9 ga m 1 (textF J)) := HOg8.out.grown hg9 (fun k e => by have := (HNG.out k e).1; simp; omega)
  obtain ⟨c0, c1, clt⟩ := HA9.out
  obtain ⟨d0, d1, dlt⟩ := HG9.out
  clear hg9 HP8 HA8 HG8 HOs8 HOg8 HX8 HB8 ax pa h0 h1
  have q9 : decide (((1 + n : Nat) : Int) < 0) = false := by simp; omega
  have q9' : decide ((1 : Int) + (n : Int) < 0) = false := by simp; omega
  go_wp2_with fail
  refine (eq_disk S ga sa m cg cs J (by omega) _ HOg9.out.texts HOs9.out.texts).mono ?_
  rintro e wa ⟨rfl, hba⟩
  have HBa : Hid (Below w.heap.size w wa) := HB9.out.trans (hba.mono HB9.out.size)
  have HPa : Hid (Bx wa w.heap.size s (.slice a n cap)) := HP9.out.below hba
  have HAa : Hid (Bx wa PA S (.slice sa m cs)) := HA9.out.below hba
  have HGa : Hid (Bx wa PG S (.slice ga m cg)) := HG9.out.below hba
  have HOsa : Hid (OwnR wa sa m 1 (textF J)) := HOs9.out.below hba
  have HOga : Hid (OwnR wa ga m 1 (textF J)) := HOg9.out.below hba
  clear hba HP9 HA9 HG9 HOs9 HOg9 HB9 c0 c1 clt d0 d1 dlt
  obtain ⟨d0, d1, dlt⟩ := HGa.out
  go_wp2_with fail
  refine (mark_disk S ga m cg (textF J) (by omega) 1 (by omega) (by omega) _ HOga.out).mono ?_
  rintro e wb ⟨rfl, hOb, hgb⟩
  have ax := HAX.out
  have pa := HPA.out
  have HBb : Hid (Below w.heap.size w wb) := HBa.out.grown hgb HBa.out.size (fun k hk => by have := (HNG.out k hk).1; omega)
  have HPb : Hid (Bx wb w.heap.size s (.slice a n cap)) := HPa.out.grown hgb (fun e => by have := (HNG.out _ e.symm).1; omega)
  have HAb : Hid (Bx wb PA S (.slice sa m cs)) := HAa.out.grown hgb (fun e => by have := (HNG.out _ e.symm).1; omega)
  have HGb : Hid (Bx wb PG S (.slice ga m cg)) := HGa.out.grown hgb (fun e => by have := (HNG.out _ e.symm).2; omega)
  have HOsb : Hid (OwnR wb sa m 1 (textF J)) := HOsa.out.grown hgb (fun k e e' => by have := (HLs.out k e).2; have := (HNG.out k e'.symm).1; omega)
  have HOgb : Hid (OwnR wb ga m 1 (mkT 1)) := hOb
  clear hgb hOb HPa HAa HGa HOsa HOga HBa d0 d1 dlt ax pa
  obtain ⟨d0, d1, dlt⟩ := HGb.out
  go_wp2_with fail
  refine (held_disk S ga m cg (by omega) 1 (by omega) (by omega) _ HOgb.out).mono ?_
  rintro e wc ⟨rfl, hbc⟩
  have HBc : Hid (Below w.heap.size w wc) := HBb.out.trans (hbc.mono HBb.out.size)
  have HPc : Hid (Bx wc w.heap.size s (.slice a n cap)) := HPb.out.below hbc
  have HAc : Hid (Bx wc PA S (.slice sa m cs)) := HAb.out.below hbc
  have HGc : Hid (Bx wc PG S (.slice ga m cg)) := HGb.out.below hbc
  have HOsc : Hid (OwnR wc sa m 1 (textF J)) := HOsb.out.below hbc
  have HOgc : Hid (OwnR wc ga m 1 (mkT 1)) := HOgb.out.below hbc
  clear hbc HPb HAb HGb HOsb HOgb HBb d0 d1 dlt
  have qc : decide (((1 + m : Nat) : Int) < 0) = false := by simp; omega
  have qc' : decide ((1 : Int) + (m : Int) < 0) = false := by simp; omega
  have qq : ∀ z : Int, (z != z) = false := fun z => by simp
  obtain ⟨c0, c1, clt⟩ := HPc.out
  go_wp2_with fail
  refine (to_disk s a n cap I hnl _ (HL.out.below HBc.out)).mono ?_
  rintro e wd ⟨h, rfl, _, hO', hbd⟩
  have HBd : Hid (Below w.heap.size w wd) := HBc.out.trans (hbd.mono HBc.out.size)
  have HAd : Hid (Bx wd PA S (.slice sa m cs)) := HAc.out.below hbd
  have HGd : Hid (Bx wd PG S (.slice ga m cg)) := HGc.out.below hbd
  have HOsd : Hid (OwnR wd sa m 1 (textF J)) := HOsc.out.below hbd
  have HOgd : Hid (OwnR wd ga m 1 (mkT 1)) := HOgc.out.below hbd
  have HOh : Hid (Own wd h n (textF I)) := hO'
  clear hbd hO' HPc HAc HGc HOsc HOgc HBc c0 c1 clt
  go_wp2_with fail
  refine (HI.out h _ hsl hnl HM.out HOh.out.texts).mono ?_
  rintro e we ⟨ah, ch, rfl, hOh, _, hbe⟩
  have HBe : Hid (Below w.heap.size w we) := HBd.out.trans (hbe.mono HBd.out.size)
  have HAe : Hid (Bx we PA S (.slice sa m cs)) := HAd.out.below hbe
  have HGe : Hid (Bx we PG S (.slice ga m cg)) := HGd.out.below hbe
  have HOse : Hid (OwnR we sa m 1 (textF J)) := HOsd.out.below hbe
  have HOge : Hid (OwnR we ga m 1 (mkT 1)) := HOgd.out.below hbe
  have HOhe : Hid (OwnR we ah m 1 (textF J)) := hOh
  obtain ⟨c0, c1, clt⟩ := HAe.out
  have n0 : we.heap.size ≠ PA := by omega
  have HLe : Hid (Below we.heap.size we (we.alloc (.cells #[.string S, .slice ah m ch] 25))) := (Below.refl _ _).alloc (Nat.le_refl _) _
  clear hbe hOh HAd HGd HOsd HOgd HOh HBd
  go_wp2_with fail
  refine (eq_disk S ah sa m ch cs J (by omega) _ (HOhe.out.texts.below HLe.out) (HOse.out.texts.below HLe.out)).mono ?_
  rintro e wf ⟨rfl, hbf⟩
  have hbt : Below we.heap.size we wf := HLe.out.trans (hbf.mono HLe.out.size)
  have HBf : Hid (Below w.heap.size w wf) := HBe.out.trans (hbt.mono HBe.out.size)
  have HGf : Hid (Bx wf PG S (.slice ga m cg)) := HGe.out.below hbt
  have HOgf : Hid (OwnR wf ga m 1 (mkT 1)) := HOge.out.below hbt
  clear hbf hbt HGe HAe HOge HOse HOhe HBe c0 c1 clt n0
  obtain ⟨d0, d1, dlt⟩ := HGf.out
  go_wp2_with fail
  refine (held_disk S ga m cg (by omega) 1 (by omega) (by omega) _ HOgf.out).mono ?_
  rintro e wg ⟨rfl, hbg⟩
  have HBg : Hid (Below w.heap.size w wg) := HBf.out.trans (hbg.mono HBf.out.size)
  clear hbg HOgf HGf d0 d1 dlt
  go_wp2_with fail
  go_ret
  exact ⟨rfl, HBg.out⟩
end Go.Proofs.Ytdbabdggefcpcaa
