/- Disks synced and cut (DiskSync, DiskCut of spec and impl): what each call does. -/
import Derived.Test.YtdbabdggefcpcaaDkA
namespace Go.Proofs.Ytdbabdggefcpcaa
open Go.RowKit


/-- A call's two first blocks: its argument's and its result's. -/
structure Fr (w W : World) (s : ByteArray) (v : Value) : Prop where
  box : Bx W w.heap.size s v
  r0 : W.cell? ⟨w.heap.size + 1, 0, none⟩ = some (.string ⟨#[]⟩)
  r1 : W.cell? ⟨w.heap.size + 1, 1, none⟩ = some (.slice none 0 0)
  rf : ∀ j, W.frozen? ⟨w.heap.size + 1, j, none⟩ = false
  size : w.heap.size + 2 ≤ W.heap.size
  bel : Below w.heap.size w W
theorem Fr.next {w W W' : World} {s : ByteArray} {v : Value} (h : Fr w W s v) (hb : Below W.heap.size W W') : Fr w W' s v := by
  have hs := h.size
  exact ⟨h.box.below hb, (hb.cell (p := ⟨w.heap.size + 1, 0, none⟩) (by show w.heap.size + 1 < _; omega)).trans h.r0, (hb.cell (p := ⟨w.heap.size + 1, 1, none⟩) (by show w.heap.size + 1 < _; omega)).trans h.r1,
    fun j => (hb.frozen (p := ⟨w.heap.size + 1, j, none⟩) (by show w.heap.size + 1 < _; omega)).trans (h.rf j), Nat.le_trans hs hb.size, h.bel.trans (hb.mono h.bel.size)⟩
theorem Fr.new (w : World) (s : ByteArray) (v : Value) (t t' : TypeId) : Fr w ((w.alloc (.cells #[.string s, v] t)).alloc (.cells #[.string ⟨#[]⟩, .slice none 0 0] t')) s v := by
  have T0 := two_now w #[.string s, v] #[.string ⟨#[]⟩, .slice none 0 0] t t'
  have b0 := T0.box 0
  have b1 := T0.box 1
  have r0 := T0.res 0
  have r1 := T0.res 1
  simp only [List.getElem?_toArray, List.getElem?_cons_zero, List.getElem?_cons_succ] at b0 b1 r0 r1
  exact ⟨⟨b0, b1, by have := T0.size; omega⟩, r0, r1, fun j => fnew' (by simp) j, T0.size, T0.bel⟩
def syncS (s : ByteArray) (n : Nat) (I : Nat → Tx) : ByteArray := if diskB s n I = true then s ++ catT I n else s
def syncN (s : ByteArray) (n : Nat) (I : Nat → Tx) : Nat := if diskB s n I = true then 0 else n
def cutS (s : ByteArray) (n : Nat) (I : Nat → Tx) (z : Int) : ByteArray := if diskB s n I = true ∧ 0 ≤ z ∧ z ≤ ((textB s n I).size : Int) then (textB s n I).extract 0 z.toNat else s
def cutN (s : ByteArray) (n : Nat) (I : Nat → Tx) (z : Int) : Nat := if diskB s n I = true ∧ 0 ≤ z ∧ z ≤ ((textB s n I).size : Int) then 0 else n
set_option maxRecDepth 100000 in
set_option maxHeartbeats 8000000 in
theorem impl_sync (s : ByteArray) (a : Option Addr) (n cap : Nat) (I : Nat → Tx) (hs : s.size ≤ 1048576) (hsm : ∀ i, i < n → (I i).small) (w : World) (h : TextsAt w a n I) (hn : n ≤ 1048576) :
    Calls Try.prog 18 #[.agg #[.string s, .slice a n cap]] w fun e w' => ∃ v, e = .returned (.agg #[.string (syncS s n I), v]) ∧ w'.ownsRow w.heap.size 9 1 v (syncN s n I) (textsC I (syncN s n I)) ∧ Below w.heap.size w w' := by
  have HV : Hid (syncS s n I = (if diskB s n I = true then s ++ catT I n else s) ∧ syncN s n I = (if diskB s n I = true then 0 else n)) := ⟨rfl, rfl⟩
  have HTX : Hid (∀ W, TextsAt W a n I → Calls Try.prog 15 #[.agg #[.string s, .slice a n cap]] W fun e w' => e = .returned (.string (textB s n I)) ∧ Below W.heap.size W w') := fun W hW => impl_dtext s a n cap I hs hsm W hW hn
  have HTB : Hid (textB s n I = if diskB s n I = true then s ++ catT I n else ⟨#[]⟩) := rfl
  have HL : Hid (TextsAt w a n I) := h
  have HM : Hid (∀ i, i < n → (I i).small) := hsm
  have HF0 : Hid (Fr w ((w.alloc (.cells #[.string s, .slice a n cap] 25)).alloc (.cells #[.string ⟨#[]⟩, .slice none 0 0] 25)) s (.slice a n cap)) := Fr.new _ _ _ _ _
  obtain ⟨b, hb⟩ : ∃ b, diskB s n I = b := ⟨_, rfl⟩
  have HBD : Hid (diskB s n I = b) := hb
  have HOK : Hid (b = true → s.size + lenT I n ≤ 20000 ∧ n ≤ 100) := fun e => ⟨((diskB_iff _ _ _).1 (hb.trans e)).2.2, ((diskB_iff _ _ _).1 (hb.trans e)).1⟩
  have HR : Hid (∀ W, TextsAt W a n I → Calls Try.prog 14 #[.agg #[.string s, .slice a n cap]] W fun e w' => e = .returned (.bool b) ∧ Below W.heap.size W w') := fun W hW => by rw [← hb]; exact impl_dright s a n cap I hs HM.out W hW hn
  have HC : Hid (∀ W, TextsAt W a n I → Calls Try.prog 43 #[.agg #[.string s, .slice a n cap]] W fun e w' => ∃ v, e = .returned (.agg #[.string s, v]) ∧ w'.ownsRow W.heap.size 9 1 v n (textsC I n) ∧ Below W.heap.size W w') := fun W hW => impl_apart s a n cap I hs HM.out W hW hn
  clear hb h hsm
  go_enter Try.func18, Try.ntmps18
  go_wp2_with fail
  refine (HR.out _ (HL.out.below HF0.out.bel)).mono ?_
  rintro e w1 ⟨rfl, hb1⟩
  have F1 : Fr w w1 s (.slice a n cap) := HF0.out.next hb1
  obtain ⟨c0, c1, clt⟩ := F1.box
  have HF1 : Hid (Fr w w1 s (.slice a n cap)) := F1
  clear hb1 F1 HF0
  cases b
  · have HV' : Hid (syncS s n I = s ∧ syncN s n I = n) := by rw [HV.out.1, HV.out.2, HBD.out]; exact ⟨rfl, rfl⟩
    go_wp2_with fail
    refine (HC.out _ (HL.out.below HF1.out.bel)).mono ?_
    rintro e w2 ⟨v, rfl, hown, hb2⟩
    have F2 := HF1.out.next hb2
    have HO : Hid (w2.ownsRow (w.heap.size + 2) 9 1 v n (textsC I n)) := own_base hown HF1.out.size
    obtain ⟨av, cv, hv⟩ := own_slice hown
    subst hv
    have r0 := F2.r0
    have r1 := F2.r1
    have rf := F2.rf
    have HB2 : Hid (Below w.heap.size w w2) := F2.bel
    clear hown hb2 F2 c0 c1 clt
    go_wp2_with fail
    refine bodyPost_ret (v := .agg #[.string s, .slice av n cv]) ?_ rfl ⟨_, by rw [HV'.out.1], by rw [HV'.out.2]; exact own_base (own_cell (own_cell HO.out (by omega)) (by omega)) (by omega), ?_⟩
    · simp [results, Try.results18, go_sem, r0, r1]
    · exact (HB2.out.setCell (by show w.heap.size ≤ w.heap.size + 1; omega) _).setCell (by show w.heap.size ≤ w.heap.size + 1; omega) _

  · have HV' : Hid (syncS s n I = textB s n I ∧ syncN s n I = 0) := by rw [HV.out.1, HV.out.2, HTB.out, HBD.out]; exact ⟨rfl, rfl⟩
    obtain ⟨T, hT⟩ : ∃ T, textB s n I = T := ⟨_, rfl⟩
    rw [hT] at HV' HTX
    clear HTB hT
    go_wp2_with fail
    refine (HTX.out _ (HL.out.below HF1.out.bel)).mono ?_
    rintro e w2 ⟨rfl, hb2⟩
    have F2 := HF1.out.next hb2
    have r0 := F2.r0
    have r1 := F2.r1
    have rf := F2.rf
    have HF2 : Hid (Fr w w2 s (.slice a n cap)) := F2
    clear hb2 F2 c0 c1 clt
    go_wp2_with fail
    refine bodyPost_ret (v := .agg #[.string T, .slice none 0 0]) ?_ rfl ⟨_, by rw [HV'.out.1], by rw [HV'.out.2]; exact World.ownsRow_nil _ _ _ _, ?_⟩
    · simp [results, Try.results18, go_sem, r0, r1]
    · exact (HF2.out.bel.setCell (by show w.heap.size ≤ w.heap.size + 1; omega) _).setCell (by show w.heap.size ≤ w.heap.size + 1; omega) _

set_option maxRecDepth 100000 in
set_option maxHeartbeats 8000000 in
theorem spec_sync (s : ByteArray) (a : Option Addr) (n cap : Nat) (I : Nat → Tx) (hs : s.size ≤ 1048576) (hsm : ∀ i, i < n → (I i).small) (w : World) (h : TextsAt w a n I) (hn : n ≤ 1048576) :
    Calls Try.prog 32 #[.agg #[.string s, .slice a n cap]] w fun e w' => ∃ v, e = .returned (.agg #[.string (syncS s n I), v]) ∧ w'.ownsRow w.heap.size 9 1 v (syncN s n I) (textsC I (syncN s n I)) ∧ Below w.heap.size w w' := by
  have HV : Hid (syncS s n I = (if diskB s n I = true then s ++ catT I n else s) ∧ syncN s n I = (if diskB s n I = true then 0 else n)) := ⟨rfl, rfl⟩
  have HTX : Hid (∀ W, TextsAt W a n I → Calls Try.prog 17 #[.agg #[.string s, .slice a n cap]] W fun e w' => e = .returned (.string (textB s n I)) ∧ Below W.heap.size W w') := fun W hW => spec_dtext s a n cap I hs hsm W hW hn
  have HTB : Hid (textB s n I = if diskB s n I = true then s ++ catT I n else ⟨#[]⟩) := rfl
  have HL : Hid (TextsAt w a n I) := h
  have HM : Hid (∀ i, i < n → (I i).small) := hsm
  have HF0 : Hid (Fr w ((w.alloc (.cells #[.string s, .slice a n cap] 25)).alloc (.cells #[.string ⟨#[]⟩, .slice none 0 0] 25)) s (.slice a n cap)) := Fr.new _ _ _ _ _
  obtain ⟨b, hb⟩ : ∃ b, diskB s n I = b := ⟨_, rfl⟩
  have HBD : Hid (diskB s n I = b) := hb
  have HOK : Hid (b = true → s.size + lenT I n ≤ 20000 ∧ n ≤ 100) := fun e => ⟨((diskB_iff _ _ _).1 (hb.trans e)).2.2, ((diskB_iff _ _ _).1 (hb.trans e)).1⟩
  have HR : Hid (∀ W, TextsAt W a n I → Calls Try.prog 13 #[.agg #[.string s, .slice a n cap]] W fun e w' => e = .returned (.bool b) ∧ Below W.heap.size W w') := fun W hW => by rw [← hb]; exact spec_dright s a n cap I hs HM.out W hW hn
  have HC : Hid (∀ W, TextsAt W a n I → Calls Try.prog 56 #[.agg #[.string s, .slice a n cap]] W fun e w' => ∃ v, e = .returned (.agg #[.string s, v]) ∧ w'.ownsRow W.heap.size 9 1 v n (textsC I n) ∧ Below W.heap.size W w') := fun W hW => spec_copy s a n cap I W hW hn
  clear hb h hsm
  go_enter Try.func32, Try.ntmps32
  go_wp2_with fail
  refine (HR.out _ (HL.out.below HF0.out.bel)).mono ?_
  rintro e w1 ⟨rfl, hb1⟩
  have F1 : Fr w w1 s (.slice a n cap) := HF0.out.next hb1
  obtain ⟨c0, c1, clt⟩ := F1.box
  have HF1 : Hid (Fr w w1 s (.slice a n cap)) := F1
  clear hb1 F1 HF0
  cases b
  · have HV' : Hid (syncS s n I = s ∧ syncN s n I = n) := by rw [HV.out.1, HV.out.2, HBD.out]; exact ⟨rfl, rfl⟩
    go_wp2_with fail
    refine (HC.out _ (HL.out.below HF1.out.bel)).mono ?_
    rintro e w2 ⟨v, rfl, hown, hb2⟩
    have F2 := HF1.out.next hb2
    have HO : Hid (w2.ownsRow (w.heap.size + 2) 9 1 v n (textsC I n)) := own_base hown HF1.out.size
    obtain ⟨av, cv, hv⟩ := own_slice hown
    subst hv
    have r0 := F2.r0
    have r1 := F2.r1
    have rf := F2.rf
    have HB2 : Hid (Below w.heap.size w w2) := F2.bel
    clear hown hb2 F2 c0 c1 clt
    go_wp2_with fail
    refine bodyPost_ret (v := .agg #[.string s, .slice av n cv]) ?_ rfl ⟨_, by rw [HV'.out.1], by rw [HV'.out.2]; exact own_base (own_cell (own_cell HO.out (by omega)) (by omega)) (by omega), ?_⟩
    · simp [results, Try.results32, go_sem, r0, r1]
    · exact (HB2.out.setCell (by show w.heap.size ≤ w.heap.size + 1; omega) _).setCell (by show w.heap.size ≤ w.heap.size + 1; omega) _

  · have HV' : Hid (syncS s n I = textB s n I ∧ syncN s n I = 0) := by rw [HV.out.1, HV.out.2, HTB.out, HBD.out]; exact ⟨rfl, rfl⟩
    obtain ⟨T, hT⟩ : ∃ T, textB s n I = T := ⟨_, rfl⟩
    rw [hT] at HV' HTX
    clear HTB hT
    go_wp2_with fail
    refine (HTX.out _ (HL.out.below HF1.out.bel)).mono ?_
    rintro e w2 ⟨rfl, hb2⟩
    have F2 := HF1.out.next hb2
    have r0 := F2.r0
    have r1 := F2.r1
    have rf := F2.rf
    have HF2 : Hid (Fr w w2 s (.slice a n cap)) := F2
    clear hb2 F2 c0 c1 clt
    go_wp2_with fail
    refine bodyPost_ret (v := .agg #[.string T, .slice none 0 0]) ?_ rfl ⟨_, by rw [HV'.out.1], by rw [HV'.out.2]; exact World.ownsRow_nil _ _ _ _, ?_⟩
    · simp [results, Try.results32, go_sem, r0, r1]
    · exact (HF2.out.bel.setCell (by show w.heap.size ≤ w.heap.size + 1; omega) _).setCell (by show w.heap.size ≤ w.heap.size + 1; omega) _

set_option maxRecDepth 100000 in
set_option maxHeartbeats 8000000 in
theorem impl_cut (s : ByteArray) (a : Option Addr) (n cap : Nat) (I : Nat → Tx) (z : Int) (hz : -9223372036854775808 ≤ z ∧ z ≤ 9223372036854775807) (hs : s.size ≤ 1048576) (hsm : ∀ i, i < n → (I i).small) (w : World) (h : TextsAt w a n I) (hn : n ≤ 1048576) :
    Calls Try.prog 19 #[.agg #[.string s, .slice a n cap], .int .i64 z] w fun e w' => ∃ v, e = .returned (.agg #[.string (cutS s n I z), v]) ∧ w'.ownsRow w.heap.size 9 1 v (cutN s n I z) (textsC I (cutN s n I z)) ∧ Below w.heap.size w w' := by
  have HV : Hid (cutS s n I z = (if diskB s n I = true ∧ 0 ≤ z ∧ z ≤ ((textB s n I).size : Int) then (textB s n I).extract 0 z.toNat else s) ∧ cutN s n I z = (if diskB s n I = true ∧ 0 ≤ z ∧ z ≤ ((textB s n I).size : Int) then 0 else n)) := ⟨rfl, rfl⟩
  have HTX : Hid (∀ W, TextsAt W a n I → Calls Try.prog 15 #[.agg #[.string s, .slice a n cap]] W fun e w' => e = .returned (.string (textB s n I)) ∧ Below W.heap.size W w') := fun W hW => impl_dtext s a n cap I hs hsm W hW hn
  have hts : (textB s n I).size ≤ 2097152 := by
    unfold textB
    split
    · rename_i e
      have := ((diskB_iff _ _ _).1 e).2.2
      rw [ByteArray.size_append, catT_size]; omega
    · exact Nat.zero_le _
  obtain ⟨T, hT⟩ : ∃ T, textB s n I = T := ⟨_, rfl⟩
  rw [hT] at HV HTX hts
  clear hT
  have HL : Hid (TextsAt w a n I) := h
  have HM : Hid (∀ i, i < n → (I i).small) := hsm
  have HF0 : Hid (Fr w ((w.alloc (.cells #[.string s, .slice a n cap] 25)).alloc (.cells #[.string ⟨#[]⟩, .slice none 0 0] 25)) s (.slice a n cap)) := Fr.new _ _ _ _ _
  obtain ⟨b, hb⟩ : ∃ b, diskB s n I = b := ⟨_, rfl⟩
  have HBD : Hid (diskB s n I = b) := hb
  have HOK : Hid (b = true → s.size + lenT I n ≤ 20000 ∧ n ≤ 100) := fun e => ⟨((diskB_iff _ _ _).1 (hb.trans e)).2.2, ((diskB_iff _ _ _).1 (hb.trans e)).1⟩
  have HR : Hid (∀ W, TextsAt W a n I → Calls Try.prog 14 #[.agg #[.string s, .slice a n cap]] W fun e w' => e = .returned (.bool b) ∧ Below W.heap.size W w') := fun W hW => by rw [← hb]; exact impl_dright s a n cap I hs HM.out W hW hn
  have HC : Hid (∀ W, TextsAt W a n I → Calls Try.prog 43 #[.agg #[.string s, .slice a n cap]] W fun e w' => ∃ v, e = .returned (.agg #[.string s, v]) ∧ w'.ownsRow W.heap.size 9 1 v n (textsC I n) ∧ Below W.heap.size W w') := fun W hW => impl_apart s a n cap I hs HM.out W hW hn
  clear hb h hsm
  go_enter Try.func19, Try.ntmps19
  go_wp2_with fail
  refine (HTX.out _ (HL.out.below HF0.out.bel)).mono ?_
  rintro e w1 ⟨rfl, hb1⟩
  have F1 : Fr w w1 s (.slice a n cap) := HF0.out.next hb1
  obtain ⟨c0, c1, clt⟩ := F1.box
  have HF1 : Hid (Fr w w1 s (.slice a n cap)) := F1
  clear hb1 F1 HF0
  go_wp2_with fail
  refine (HR.out _ (HL.out.below HF1.out.bel)).mono ?_
  rintro e w2 ⟨rfl, hb2⟩
  clear c0 c1 clt
  have F2 : Fr w w2 s (.slice a n cap) := HF1.out.next hb2
  obtain ⟨c0, c1, clt⟩ := F2.box
  have HF2 : Hid (Fr w w2 s (.slice a n cap)) := F2
  clear hb2 F2 HF1
  rw [HBD.out] at HV
  cases b
  · have HNO : ¬ (false = true ∧ 0 ≤ z ∧ z ≤ (T.size : Int)) := fun e => by cases e.1
    have HV' : Hid (cutS s n I z = s ∧ cutN s n I z = n) := by
      have hno := HNO
      rw [HV.out.1, HV.out.2, if_neg hno, if_neg hno]; exact ⟨rfl, rfl⟩
    clear HNO
    go_wp2_with fail
    refine (HC.out _ (HL.out.below HF2.out.bel)).mono ?_
    rintro e w3 ⟨v, rfl, hown, hb3⟩
    have F3 := HF2.out.next hb3
    have HO : Hid (w3.ownsRow (w.heap.size + 2) 9 1 v n (textsC I n)) := own_base hown HF2.out.size
    obtain ⟨av, cv, hv⟩ := own_slice hown
    subst hv
    have r0 := F3.r0
    have r1 := F3.r1
    have rf := F3.rf
    have HB3 : Hid (Below w.heap.size w w3) := F3.bel
    clear hown hb3 F3 c0 c1 clt
    go_wp2_with fail
    refine bodyPost_ret (v := .agg #[.string s, .slice av n cv]) ?_ rfl ⟨_, by rw [HV'.out.1], by rw [HV'.out.2]; exact own_base (own_cell (own_cell HO.out (by omega)) (by omega)) (by omega), ?_⟩
    · simp [results, Try.results19, go_sem, r0, r1]
    · exact (HB3.out.setCell (by show w.heap.size ≤ w.heap.size + 1; omega) _).setCell (by show w.heap.size ≤ w.heap.size + 1; omega) _

  by_cases hz0 : z < 0
  · have p0 : decide (z < 0) = true := by simpa using hz0
    have HNO : ¬ (true = true ∧ 0 ≤ z ∧ z ≤ (T.size : Int)) := fun e => by have := e.2.1; omega
    have HV' : Hid (cutS s n I z = s ∧ cutN s n I z = n) := by
      have hno := HNO
      rw [HV.out.1, HV.out.2, if_neg hno, if_neg hno]; exact ⟨rfl, rfl⟩
    clear HNO
    go_wp2_with fail
    refine (HC.out _ (HL.out.below HF2.out.bel)).mono ?_
    rintro e w3 ⟨v, rfl, hown, hb3⟩
    have F3 := HF2.out.next hb3
    have HO : Hid (w3.ownsRow (w.heap.size + 2) 9 1 v n (textsC I n)) := own_base hown HF2.out.size
    obtain ⟨av, cv, hv⟩ := own_slice hown
    subst hv
    have r0 := F3.r0
    have r1 := F3.r1
    have rf := F3.rf
    have HB3 : Hid (Below w.heap.size w w3) := F3.bel
    clear hown hb3 F3 c0 c1 clt
    go_wp2_with fail
    refine bodyPost_ret (v := .agg #[.string s, .slice av n cv]) ?_ rfl ⟨_, by rw [HV'.out.1], by rw [HV'.out.2]; exact own_base (own_cell (own_cell HO.out (by omega)) (by omega)) (by omega), ?_⟩
    · simp [results, Try.results19, go_sem, r0, r1]
    · exact (HB3.out.setCell (by show w.heap.size ≤ w.heap.size + 1; omega) _).setCell (by show w.heap.size ≤ w.heap.size + 1; omega) _

  have p0 : decide (z < 0) = false := by simpa using hz0
  by_cases hz1 : (T.size : Int) < z
  · have p1 : decide ((T.size : Int) < z) = true := by simpa using hz1
    have HNO : ¬ (true = true ∧ 0 ≤ z ∧ z ≤ (T.size : Int)) := fun e => by have := e.2.2; omega
    have HV' : Hid (cutS s n I z = s ∧ cutN s n I z = n) := by
      have hno := HNO
      rw [HV.out.1, HV.out.2, if_neg hno, if_neg hno]; exact ⟨rfl, rfl⟩
    clear HNO
    go_wp2_with fail
    refine (HC.out _ (HL.out.below HF2.out.bel)).mono ?_
    rintro e w3 ⟨v, rfl, hown, hb3⟩
    have F3 := HF2.out.next hb3
    have HO : Hid (w3.ownsRow (w.heap.size + 2) 9 1 v n (textsC I n)) := own_base hown HF2.out.size
    obtain ⟨av, cv, hv⟩ := own_slice hown
    subst hv
    have r0 := F3.r0
    have r1 := F3.r1
    have rf := F3.rf
    have HB3 : Hid (Below w.heap.size w w3) := F3.bel
    clear hown hb3 F3 c0 c1 clt
    go_wp2_with fail
    refine bodyPost_ret (v := .agg #[.string s, .slice av n cv]) ?_ rfl ⟨_, by rw [HV'.out.1], by rw [HV'.out.2]; exact own_base (own_cell (own_cell HO.out (by omega)) (by omega)) (by omega), ?_⟩
    · simp [results, Try.results19, go_sem, r0, r1]
    · exact (HB3.out.setCell (by show w.heap.size ≤ w.heap.size + 1; omega) _).setCell (by show w.heap.size ≤ w.heap.size + 1; omega) _

  have p1 : decide ((T.size : Int) < z) = false := by simpa using hz1
  have HV' : Hid (cutS s n I z = T.extract 0 z.toNat ∧ cutN s n I z = 0) := by
    have hyes : true = true ∧ 0 ≤ z ∧ z ≤ (T.size : Int) := ⟨rfl, by omega, by omega⟩
    rw [HV.out.1, HV.out.2, if_pos hyes, if_pos hyes]; exact ⟨rfl, rfl⟩
  obtain ⟨Z, rfl⟩ : ∃ Z : Nat, z = (Z : Int) := ⟨z.toNat, by omega⟩
  rw [Int.toNat_natCast] at HV'
  have hsl : ∀ W : World, (Instr.slice 9 (.string T) none (some (.int .i64 (Z : Int))) none).run Try.prog W = .ok (.string (T.extract 0 Z)) W := fun W => by
    rw [run_slice_string_h (P := Try.prog) W 9 T Try.underlying9 .i64 (Z : Int) (by omega) (by omega), Int.toNat_natCast]
  have hes : (T.extract 0 Z).size ≤ 2097152 := by rw [ByteArray.size_extract]; omega
  generalize T.extract 0 Z = E at *
  go_wp2_with fail
  refine (join_one E hes _ _ (by first | rfl | simp)).mono ?_
  rintro e w3 ⟨rfl, hb3⟩
  have F3 := HF2.out.next hb3
  have r0 := F3.r0
  have r1 := F3.r1
  have rf := F3.rf
  have HF3 : Hid (Fr w w3 s (.slice a n cap)) := F3
  clear hb3 F3 c0 c1 clt
  go_wp2_with fail
  refine bodyPost_ret (v := .agg #[.string E, .slice none 0 0]) ?_ rfl ⟨_, by rw [HV'.out.1], by rw [HV'.out.2]; exact World.ownsRow_nil _ _ _ _, ?_⟩
  · simp [results, Try.results19, go_sem, r0, r1]
  · exact (HF3.out.bel.setCell (by show w.heap.size ≤ w.heap.size + 1; omega) _).setCell (by show w.heap.size ≤ w.heap.size + 1; omega) _
set_option maxRecDepth 100000 in
set_option maxHeartbeats 8000000 in
theorem spec_cut (s : ByteArray) (a : Option Addr) (n cap : Nat) (I : Nat → Tx) (z : Int) (hz : -9223372036854775808 ≤ z ∧ z ≤ 9223372036854775807) (hs : s.size ≤ 1048576) (hsm : ∀ i, i < n → (I i).small) (w : World) (h : TextsAt w a n I) (hn : n ≤ 1048576) :
    Calls Try.prog 34 #[.agg #[.string s, .slice a n cap], .int .i64 z] w fun e w' => ∃ v, e = .returned (.agg #[.string (cutS s n I z), v]) ∧ w'.ownsRow w.heap.size 9 1 v (cutN s n I z) (textsC I (cutN s n I z)) ∧ Below w.heap.size w w' := by
  have HV : Hid (cutS s n I z = (if diskB s n I = true ∧ 0 ≤ z ∧ z ≤ ((textB s n I).size : Int) then (textB s n I).extract 0 z.toNat else s) ∧ cutN s n I z = (if diskB s n I = true ∧ 0 ≤ z ∧ z ≤ ((textB s n I).size : Int) then 0 else n)) := ⟨rfl, rfl⟩
  have HTX : Hid (∀ W, TextsAt W a n I → Calls Try.prog 17 #[.agg #[.string s, .slice a n cap]] W fun e w' => e = .returned (.string (textB s n I)) ∧ Below W.heap.size W w') := fun W hW => spec_dtext s a n cap I hs hsm W hW hn
  have hts : (textB s n I).size ≤ 2097152 := by
    unfold textB
    split
    · rename_i e
      have := ((diskB_iff _ _ _).1 e).2.2
      rw [ByteArray.size_append, catT_size]; omega
    · exact Nat.zero_le _
  obtain ⟨T, hT⟩ : ∃ T, textB s n I = T := ⟨_, rfl⟩
  rw [hT] at HV HTX hts
  clear hT
  have HL : Hid (TextsAt w a n I) := h
  have HM : Hid (∀ i, i < n → (I i).small) := hsm
  have HF0 : Hid (Fr w ((w.alloc (.cells #[.string s, .slice a n cap] 25)).alloc (.cells #[.string ⟨#[]⟩, .slice none 0 0] 25)) s (.slice a n cap)) := Fr.new _ _ _ _ _
  obtain ⟨b, hb⟩ : ∃ b, diskB s n I = b := ⟨_, rfl⟩
  have HBD : Hid (diskB s n I = b) := hb
  have HOK : Hid (b = true → s.size + lenT I n ≤ 20000 ∧ n ≤ 100) := fun e => ⟨((diskB_iff _ _ _).1 (hb.trans e)).2.2, ((diskB_iff _ _ _).1 (hb.trans e)).1⟩
  have HR : Hid (∀ W, TextsAt W a n I → Calls Try.prog 13 #[.agg #[.string s, .slice a n cap]] W fun e w' => e = .returned (.bool b) ∧ Below W.heap.size W w') := fun W hW => by rw [← hb]; exact spec_dright s a n cap I hs HM.out W hW hn
  have HC : Hid (∀ W, TextsAt W a n I → Calls Try.prog 56 #[.agg #[.string s, .slice a n cap]] W fun e w' => ∃ v, e = .returned (.agg #[.string s, v]) ∧ w'.ownsRow W.heap.size 9 1 v n (textsC I n) ∧ Below W.heap.size W w') := fun W hW => spec_copy s a n cap I W hW hn
  clear hb h hsm
  go_enter Try.func34, Try.ntmps34
  go_wp2_with fail
  refine (HTX.out _ (HL.out.below HF0.out.bel)).mono ?_
  rintro e w1 ⟨rfl, hb1⟩
  have F1 : Fr w w1 s (.slice a n cap) := HF0.out.next hb1
  obtain ⟨c0, c1, clt⟩ := F1.box
  have HF1 : Hid (Fr w w1 s (.slice a n cap)) := F1
  clear hb1 F1 HF0
  go_wp2_with fail
  refine (HR.out _ (HL.out.below HF1.out.bel)).mono ?_
  rintro e w2 ⟨rfl, hb2⟩
  clear c0 c1 clt
  have F2 : Fr w w2 s (.slice a n cap) := HF1.out.next hb2
  obtain ⟨c0, c1, clt⟩ := F2.box
  have HF2 : Hid (Fr w w2 s (.slice a n cap)) := F2
  clear hb2 F2 HF1
  rw [HBD.out] at HV
  cases b
  · have HNO : ¬ (false = true ∧ 0 ≤ z ∧ z ≤ (T.size : Int)) := fun e => by cases e.1
    have HV' : Hid (cutS s n I z = s ∧ cutN s n I z = n) := by
      have hno := HNO
      rw [HV.out.1, HV.out.2, if_neg hno, if_neg hno]; exact ⟨rfl, rfl⟩
    clear HNO
    go_wp2_with fail
    refine (HC.out _ (HL.out.below HF2.out.bel)).mono ?_
    rintro e w3 ⟨v, rfl, hown, hb3⟩
    have F3 := HF2.out.next hb3
    have HO : Hid (w3.ownsRow (w.heap.size + 2) 9 1 v n (textsC I n)) := own_base hown HF2.out.size
    obtain ⟨av, cv, hv⟩ := own_slice hown
    subst hv
    have r0 := F3.r0
    have r1 := F3.r1
    have rf := F3.rf
    have HB3 : Hid (Below w.heap.size w w3) := F3.bel
    clear hown hb3 F3 c0 c1 clt
    go_wp2_with fail
    refine bodyPost_ret (v := .agg #[.string s, .slice av n cv]) ?_ rfl ⟨_, by rw [HV'.out.1], by rw [HV'.out.2]; exact own_base (own_cell (own_cell HO.out (by omega)) (by omega)) (by omega), ?_⟩
    · simp [results, Try.results34, go_sem, r0, r1]
    · exact (HB3.out.setCell (by show w.heap.size ≤ w.heap.size + 1; omega) _).setCell (by show w.heap.size ≤ w.heap.size + 1; omega) _

  by_cases hz0 : z < 0
  · have p0 : decide (z < 0) = true := by simpa using hz0
    have HNO : ¬ (true = true ∧ 0 ≤ z ∧ z ≤ (T.size : Int)) := fun e => by have := e.2.1; omega
    have HV' : Hid (cutS s n I z = s ∧ cutN s n I z = n) := by
      have hno := HNO
      rw [HV.out.1, HV.out.2, if_neg hno, if_neg hno]; exact ⟨rfl, rfl⟩
    clear HNO
    go_wp2_with fail
    refine (HC.out _ (HL.out.below HF2.out.bel)).mono ?_
    rintro e w3 ⟨v, rfl, hown, hb3⟩
    have F3 := HF2.out.next hb3
    have HO : Hid (w3.ownsRow (w.heap.size + 2) 9 1 v n (textsC I n)) := own_base hown HF2.out.size
    obtain ⟨av, cv, hv⟩ := own_slice hown
    subst hv
    have r0 := F3.r0
    have r1 := F3.r1
    have rf := F3.rf
    have HB3 : Hid (Below w.heap.size w w3) := F3.bel
    clear hown hb3 F3 c0 c1 clt
    go_wp2_with fail
    refine bodyPost_ret (v := .agg #[.string s, .slice av n cv]) ?_ rfl ⟨_, by rw [HV'.out.1], by rw [HV'.out.2]; exact own_base (own_cell (own_cell HO.out (by omega)) (by omega)) (by omega), ?_⟩
    · simp [results, Try.results34, go_sem, r0, r1]
    · exact (HB3.out.setCell (by show w.heap.size ≤ w.heap.size + 1; omega) _).setCell (by show w.heap.size ≤ w.heap.size + 1; omega) _

  have p0 : decide (z < 0) = false := by simpa using hz0
  by_cases hz1 : (T.size : Int) < z
  · have p1 : decide ((T.size : Int) < z) = true := by simpa using hz1
    have HNO : ¬ (true = true ∧ 0 ≤ z ∧ z ≤ (T.size : Int)) := fun e => by have := e.2.2; omega
    have HV' : Hid (cutS s n I z = s ∧ cutN s n I z = n) := by
      have hno := HNO
      rw [HV.out.1, HV.out.2, if_neg hno, if_neg hno]; exact ⟨rfl, rfl⟩
    clear HNO
    go_wp2_with fail
    refine (HC.out _ (HL.out.below HF2.out.bel)).mono ?_
    rintro e w3 ⟨v, rfl, hown, hb3⟩
    have F3 := HF2.out.next hb3
    have HO : Hid (w3.ownsRow (w.heap.size + 2) 9 1 v n (textsC I n)) := own_base hown HF2.out.size
    obtain ⟨av, cv, hv⟩ := own_slice hown
    subst hv
    have r0 := F3.r0
    have r1 := F3.r1
    have rf := F3.rf
    have HB3 : Hid (Below w.heap.size w w3) := F3.bel
    clear hown hb3 F3 c0 c1 clt
    go_wp2_with fail
    refine bodyPost_ret (v := .agg #[.string s, .slice av n cv]) ?_ rfl ⟨_, by rw [HV'.out.1], by rw [HV'.out.2]; exact own_base (own_cell (own_cell HO.out (by omega)) (by omega)) (by omega), ?_⟩
    · simp [results, Try.results34, go_sem, r0, r1]
    · exact (HB3.out.setCell (by show w.heap.size ≤ w.heap.size + 1; omega) _).setCell (by show w.heap.size ≤ w.heap.size + 1; omega) _

  have p1 : decide ((T.size : Int) < z) = false := by simpa using hz1
  have HV' : Hid (cutS s n I z = T.extract 0 z.toNat ∧ cutN s n I z = 0) := by
    have hyes : true = true ∧ 0 ≤ z ∧ z ≤ (T.size : Int) := ⟨rfl, by omega, by omega⟩
    rw [HV.out.1, HV.out.2, if_pos hyes, if_pos hyes]; exact ⟨rfl, rfl⟩
  obtain ⟨Z, rfl⟩ : ∃ Z : Nat, z = (Z : Int) := ⟨z.toNat, by omega⟩
  rw [Int.toNat_natCast] at HV'
  have hsl : ∀ W : World, (Instr.slice 9 (.string T) none (some (.int .i64 (Z : Int))) none).run Try.prog W = .ok (.string (T.extract 0 Z)) W := fun W => by
    rw [run_slice_string_h (P := Try.prog) W 9 T Try.underlying9 .i64 (Z : Int) (by omega) (by omega), Int.toNat_natCast]
  have hes : (T.extract 0 Z).size ≤ 2097152 := by rw [ByteArray.size_extract]; omega
  generalize T.extract 0 Z = E at *
  have r0 := HF2.out.r0
  have r1 := HF2.out.r1
  have rf := HF2.out.rf
  clear c0 c1 clt
  go_wp2_with fail
  refine bodyPost_ret (v := .agg #[.string E, .slice none 0 0]) ?_ rfl ⟨_, by rw [HV'.out.1], by rw [HV'.out.2]; exact World.ownsRow_nil _ _ _ _, ?_⟩
  · simp [results, Try.results34, go_sem, r0, r1]
  · exact (HF2.out.bel.setCell (by show w.heap.size ≤ w.heap.size + 1; omega) _).setCell (by show w.heap.size ≤ w.heap.size + 1; omega) _
end Go.Proofs.Ytdbabdggefcpcaa
