/- What stands on a disk (spec.DiskText, impl.DiskText): what each call does; the law. -/
import Derived.Test.YtdbabdggefcpcaaDkR
namespace Go.Proofs.Ytdbabdggefcpcaa
open Go.RowKit


def oneT (s : ByteArray) (_ : Nat) : Tx := ⟨s⟩
def pairT (s t : ByteArray) (j : Nat) : Tx := if j = 0 then ⟨s⟩ else ⟨t⟩
theorem nil_cat (t : ByteArray) : (⟨#[]⟩ : ByteArray) ++ t = t := bytes_eq (by rw [bytes_cat]; rfl)
theorem catT_one (s : ByteArray) : catT (oneT s) 1 = s := nil_cat s
theorem catT_pair (s t : ByteArray) : catT (pairT s t) 2 = s ++ t := by
  show (⟨#[]⟩ ++ s) ++ t = s ++ t
  rw [nil_cat]
theorem lenT_one' (s : ByteArray) : lenT (oneT s) 1 = s.size := Nat.zero_add _
theorem lenT_pair (s t : ByteArray) : lenT (pairT s t) 2 = s.size + t.size := by
  show 0 + s.size + t.size = _
  rw [Nat.zero_add]
theorem texts_one (w : World) (s : ByteArray) : TextsAt (w.alloc (.cells #[.string s] 9)) (some ⟨w.heap.size, 0, none⟩) 1 (oneT s) :=
  Or.inr ⟨_, 0, rfl, by simp, fun i hi => by obtain rfl : i = 0 := by omega
                                             simp [oneT]⟩
theorem texts_pair (w : World) (s t : ByteArray) : TextsAt (w.alloc (.cells #[.string s, .string t] 9)) (some ⟨w.heap.size, 0, none⟩) 2 (pairT s t) :=
  Or.inr ⟨_, 0, rfl, by simp, fun i hi => by
    rcases (by omega : i = 0 ∨ i = 1) with rfl | rfl
    · simp [pairT]
    · simp [pairT]⟩
/-- One text, or two, joined. -/
theorem join_one (s : ByteArray) (hs : s.size ≤ 2097152) (w : World) (b : Nat) (hb : b = w.heap.size) :
    Calls Try.prog 42 #[.slice (some ⟨b, 0, none⟩) 1 1] (w.alloc (.cells #[.string s] 9)) fun e w' => e = .returned (.string s) ∧ Below w.heap.size w w' := by
  subst hb
  refine (impl_joined _ 1 1 (oneT s) (by omega) (by rw [lenT_one']; omega) _ (texts_one w s)).mono ?_
  rintro e w' ⟨rfl, hb⟩
  exact ⟨by rw [catT_one], ((Below.refl _ _).alloc (Nat.le_refl _) _).trans (hb.mono (by simp))⟩
theorem join_pair (s t : ByteArray) (hs : s.size ≤ 2097152) (ht : t.size ≤ 2097152) (w : World) (b : Nat) (hb : b = w.heap.size) :
    Calls Try.prog 42 #[.slice (some ⟨b, 0, none⟩) 2 2] (w.alloc (.cells #[.string s, .string t] 9)) fun e w' => e = .returned (.string (s ++ t)) ∧ Below w.heap.size w w' := by
  subst hb
  refine (impl_joined _ 2 2 (pairT s t) (by omega) (by rw [lenT_pair]; omega) _ (texts_pair w s t)).mono ?_
  rintro e w' ⟨rfl, hb⟩
  exact ⟨by rw [catT_pair], ((Below.refl _ _).alloc (Nat.le_refl _) _).trans (hb.mono (by simp))⟩
def textB (s : ByteArray) (n : Nat) (I : Nat → Tx) : ByteArray := if diskB s n I = true then s ++ catT I n else ⟨#[]⟩
set_option maxRecDepth 100000 in
set_option maxHeartbeats 4000000 in
theorem impl_dtext (s : ByteArray) (a : Option Addr) (n cap : Nat) (I : Nat → Tx) (hs : s.size ≤ 1048576) (hsm : ∀ i, i < n → (I i).small) (w : World) (h : TextsAt w a n I) (hn : n ≤ 1048576) :
    Calls Try.prog 15 #[.agg #[.string s, .slice a n cap]] w fun e w' => e = .returned (.string (textB s n I)) ∧ Below w.heap.size w w' := by
  have HL : Hid (TextsAt w a n I) := h
  have HB0 : Hid (Below w.heap.size w (w.alloc (.cells #[.string s, .slice a n cap] 25))) := (Below.refl _ _).alloc (Nat.le_refl _) _
  have HX0 : Hid (Bx (w.alloc (.cells #[.string s, .slice a n cap] 25)) w.heap.size s (.slice a n cap)) := Bx.new _ _ _ _
  have HR := impl_dright s a n cap I hs hsm _ (h.below HB0.out) hn
  have HTB : Hid (textB s n I = if diskB s n I = true then s ++ catT I n else ⟨#[]⟩) := rfl
  have HOK : Hid (diskB s n I = true → s.size + lenT I n ≤ 20000 ∧ n ≤ 100) := fun e => ⟨((diskB_iff _ _ _).1 e).2.2, ((diskB_iff _ _ _).1 e).1⟩
  generalize diskB s n I = b at *
  have HR : Hid (Calls Try.prog 14 _ _ _) := HR
  clear h hsm
  go_enter Try.func15, Try.ntmps15
  go_wp2_with fail
  refine HR.out.mono ?_
  rintro e w1 ⟨rfl, hb1⟩
  have HB1 : Hid (Below w.heap.size w w1) := HB0.out.trans (hb1.mono HB0.out.size)
  obtain ⟨c0, c1, clt⟩ := HX0.out.below hb1
  clear hb1 HR HX0 HB0
  cases b
  · go_wp2_with fail
    go_ret
    exact ⟨by rw [HTB.out]; rfl, HB1.out⟩
  obtain ⟨h2, hn1⟩ := HOK.out rfl
  have HJ : Hid (∀ W, TextsAt W a n I → Calls Try.prog 42 #[.slice a n cap] W fun e w' => e = .returned (.string (catT I n)) ∧ Below W.heap.size W w') := fun W hW => impl_joined a n cap I hn (by omega) W hW
  have hcs : (catT I n).size ≤ 2097152 := by rw [catT_size]; omega
  have hss : s.size ≤ 2097152 := by omega
  obtain ⟨T, hT⟩ : ∃ T, catT I n = T := ⟨_, rfl⟩
  have HT : Hid (catT I n = T) := hT
  rw [hT] at HJ hcs
  clear HOK h2 hT
  go_upto_region 3 with fail
  go_region_held3 (fun W => W.cell? ⟨w.heap.size, 0, none⟩ = some (.string s) ∧ W.cell? ⟨w.heap.size, 1, none⟩ = some (.slice a n cap)) (go_keep) (first | (go_at_call_of 42 a; refine (HJ.out _ (HL.out.below HB1.out.drew)).mono ?_; rintro e w2 ⟨rfl, hb2⟩; have d0 : w2.cell? ⟨w.heap.size, 0, none⟩ = some (.string s) := (hb2.cell (p := ⟨w.heap.size, 0, none⟩) clt).trans c0; have d1 : w2.cell? ⟨w.heap.size, 1, none⟩ = some (.slice a n cap) := (hb2.cell (p := ⟨w.heap.size, 1, none⟩) clt).trans c1; have dlt : w.heap.size < w2.heap.size := Nat.lt_of_lt_of_le clt hb2.size) | (go_at_call 42; refine (join_pair s T hss hcs _ _ (by rfl)).mono ?_; rintro e w3 ⟨rfl, hb3⟩; have e0 : w3.cell? ⟨w.heap.size, 0, none⟩ = some (.string s) := (hb3.cell (p := ⟨w.heap.size, 0, none⟩) dlt).trans d0; have e1 : w3.cell? ⟨w.heap.size, 1, none⟩ = some (.slice a n cap) := (hb3.cell (p := ⟨w.heap.size, 1, none⟩) dlt).trans d1))
  all_goals
    have HB3 : Hid (Below w.heap.size w w3) := (HB1.out.drew.trans (hb2.mono HB1.out.size)).trans (hb3.mono (Nat.le_trans HB1.out.size hb2.size))
    go_wp2_with fail
    go_ret
    exact ⟨by rw [HTB.out, HT.out]; rfl, HB3.out⟩
set_option maxRecDepth 100000 in
set_option maxHeartbeats 4000000 in
theorem spec_dtext (s : ByteArray) (a : Option Addr) (n cap : Nat) (I : Nat → Tx) (hs : s.size ≤ 1048576) (hsm : ∀ i, i < n → (I i).small) (w : World) (h : TextsAt w a n I) (hn : n ≤ 1048576) :
    Calls Try.prog 17 #[.agg #[.string s, .slice a n cap]] w fun e w' => e = .returned (.string (textB s n I)) ∧ Below w.heap.size w w' := by
  have HL : Hid (TextsAt w a n I) := h
  have HB0 : Hid (Below w.heap.size w (w.alloc (.cells #[.string s, .slice a n cap] 25))) := (Below.refl _ _).alloc (Nat.le_refl _) _
  have HX0 : Hid (Bx (w.alloc (.cells #[.string s, .slice a n cap] 25)) w.heap.size s (.slice a n cap)) := Bx.new _ _ _ _
  have HR := spec_dright s a n cap I hs hsm _ (h.below HB0.out) hn
  have HTB : Hid (textB s n I = if diskB s n I = true then s ++ catT I n else ⟨#[]⟩) := rfl
  have HOK : Hid (diskB s n I = true → s.size + lenT I n ≤ 20000 ∧ n ≤ 100) := fun e => ⟨((diskB_iff _ _ _).1 e).2.2, ((diskB_iff _ _ _).1 e).1⟩
  generalize diskB s n I = b at *
  have HR : Hid (Calls Try.prog 13 _ _ _) := HR
  clear h hsm
  go_enter Try.func17, Try.ntmps17
  go_wp2_with fail
  refine HR.out.mono ?_
  rintro e w1 ⟨rfl, hb1⟩
  have HB1 : Hid (Below w.heap.size w w1) := HB0.out.trans (hb1.mono HB0.out.size)
  obtain ⟨c0, c1, clt⟩ := HX0.out.below hb1
  clear hb1 HR HX0 HB0
  cases b
  · go_wp2_with fail
    go_ret
    exact ⟨by rw [HTB.out]; rfl, HB1.out⟩
  obtain ⟨h2, hn1⟩ := HOK.out rfl
  have HJ : Hid (∀ W, TextsAt W a n I → Calls Try.prog 44 #[.agg #[.string s, .slice a n cap]] W fun e w' => e = .returned (.string (catT I n)) ∧ Below W.heap.size W w') := fun W hW => spec_loose s a n cap I hn (by omega) W hW
  have hcs : (catT I n).size ≤ 2097152 := by rw [catT_size]; omega
  obtain ⟨T, hT⟩ : ∃ T, catT I n = T := ⟨_, rfl⟩
  have HT : Hid (catT I n = T) := hT
  rw [hT] at HJ hcs
  clear HOK h2 hT
  have hcat : ¬ 9223372036854775807 < s.size + T.size := by omega
  go_upto_region 3 with fail
  go_region_held3 (fun W => W.cell? ⟨w.heap.size, 0, none⟩ = some (.string s) ∧ W.cell? ⟨w.heap.size, 1, none⟩ = some (.slice a n cap)) (go_keep) (first | (go_at_call 44; refine (HJ.out _ (HL.out.below HB1.out.drew)).mono ?_; rintro e w2 ⟨rfl, hb2⟩; have d0 : w2.cell? ⟨w.heap.size, 0, none⟩ = some (.string s) := (hb2.cell (p := ⟨w.heap.size, 0, none⟩) clt).trans c0; have d1 : w2.cell? ⟨w.heap.size, 1, none⟩ = some (.slice a n cap) := (hb2.cell (p := ⟨w.heap.size, 1, none⟩) clt).trans c1))
  all_goals
    have HB2 : Hid (Below w.heap.size w w2) := HB1.out.drew.trans (hb2.mono HB1.out.size)
    go_wp2_with fail
    go_ret
    exact ⟨by rw [HTB.out, HT.out]; rfl, HB2.out⟩
set_option maxRecDepth 100000 in
set_option maxHeartbeats 4000000 in
theorem law_diskText (s : ByteArray) (hs : s.size ≤ maxLen) (a : Option Addr) (n cap : Nat) (I : Nat → Tx) (hn : n ≤ maxLen) (hfit : ∀ i, i < n → (I i).fits) (w : World) (h : TextsAt w a n I) :
    Calls Try.prog 6 #[.agg #[.string s, .slice a n cap]] w fun e w' => e = .returned (.bool true) ∧ Below w.heap.size w w' := by
  have HL : Hid (TextsAt w a n I) := h
  have HF : Hid (∀ i, i < n → (I i).fits) := hfit
  have HN : Hid (s.size ≤ maxLen ∧ n ≤ maxLen) := ⟨hs, hn⟩
  have HX0 : Hid (Bx (w.alloc (.cells #[.string s, .slice a n cap] 44)) w.heap.size s (.slice a n cap)) := Bx.new _ _ _ _
  have HB0 : Hid (Below w.heap.size w (w.alloc (.cells #[.string s, .slice a n cap] 44))) := (Below.refl _ _).alloc (Nat.le_refl _) _
  obtain ⟨b, hb⟩ : ∃ b, b = textB s n I := ⟨_, rfl⟩
  have HS : Hid (∀ g W, s.size ≤ 1048576 → n ≤ 1048576 → (∀ i, i < n → (I i).small) → TextsAt W (some ⟨g, 0, none⟩) n I → Calls Try.prog 17 #[.agg #[.string s, .slice (some ⟨g, 0, none⟩) n n]] W fun e w' => e = .returned (.string b) ∧ Below W.heap.size W w') := fun g W h1 h2 h3 h4 => by rw [hb]; exact spec_dtext s _ n n I h1 h3 W h4 h2
  have HI : Hid (∀ g W, s.size ≤ 1048576 → n ≤ 1048576 → (∀ i, i < n → (I i).small) → TextsAt W (some ⟨g, 0, none⟩) n I → Calls Try.prog 15 #[.agg #[.string s, .slice (some ⟨g, 0, none⟩) n n]] W fun e w' => e = .returned (.string b) ∧ Below W.heap.size W w') := fun g W h1 h2 h3 h4 => by rw [hb]; exact impl_dtext s _ n n I h1 h3 W h4 h2
  clear h hfit hn hs hb
  go_enter Try.func6, Try.ntmps6
  go_wp2_with fail
  refine (sz_disk s a n cap I HN.out.1 HN.out.2 HF.out 1048576 (by omega) _ (HL.out.below HB0.out)).mono ?_
  rintro e w1 ⟨he, hb1⟩
  have HB1 : Hid (Below w.heap.size w w1) := HB0.out.trans (hb1.mono HB0.out.size)
  have X1 := HX0.out.below hb1
  have c0 := X1.c0
  have c1 := X1.c1
  have HX1 : Hid (Bx w1 w.heap.size s (.slice a n cap)) := X1
  clear hb1 X1 HX0 HB0
  rcases he with rfl | ⟨r, rfl, hr, hsl, hnl, hsm⟩
  · have q' : decide ((-1 : Int) < 0) = true := rfl
    go_wp2_with fail
    go_ret
    exact ⟨rfl, HB1.out⟩
  have HM : Hid (∀ i, i < n → (I i).small) := hsm
  clear hsm
  have q' : decide ((r : Int) < 0) = false := by simp
  go_wp2_with fail
  refine (to_disk s a n cap I hnl _ (HL.out.below HB1.out)).mono ?_
  rintro e w2 ⟨g, rfl, hg, hO, hb2⟩
  have HB2 : Hid (Below w.heap.size w w2) := HB1.out.trans (hb2.mono HB1.out.size)
  have HX2 : Hid (Bx w2 w.heap.size s (.slice a n cap)) := HX1.out.below hb2
  have HO : Hid (Own w2 g n (textF I)) := hO
  clear hg hO hb2 c0 c1 HX1
  go_wp2_with fail
  refine (HS.out g _ hsl hnl HM.out HO.out.texts).mono ?_
  rintro e w3 ⟨rfl, hb3⟩
  have HB3 : Hid (Below w.heap.size w w3) := HB2.out.trans (hb3.mono HB2.out.size)
  have X3 := HX2.out.below hb3
  have c0 := X3.c0
  have c1 := X3.c1
  have HX3 : Hid (Bx w3 w.heap.size s (.slice a n cap)) := X3
  clear hb3 HO X3 HX2
  go_wp2_with fail
  refine (to_disk s a n cap I hnl _ (HL.out.below HB3.out)).mono ?_
  rintro e w4 ⟨x, rfl, hx, hO, hb4⟩
  have HX4 : Hid (Bx (w4.alloc (.cells #[.string s, .slice (some ⟨x, 0, none⟩) n n] 25)) w.heap.size s (.slice a n cap)) := (HX3.out.below hb4).below ((Below.refl _ _).alloc (Nat.le_refl _) _)
  have HY4 : Hid (Bx (w4.alloc (.cells #[.string s, .slice (some ⟨x, 0, none⟩) n n] 25)) w4.heap.size s (.slice (some ⟨x, 0, none⟩) n n)) := Bx.new _ _ _ _
  have HO4 : Hid (Own (w4.alloc (.cells #[.string s, .slice (some ⟨x, 0, none⟩) n n] 25)) x n (textF I)) := hO.below ((Below.refl _ _).alloc (Nat.le_refl _) _)
  have HB4 : Hid (Below w.heap.size w (w4.alloc (.cells #[.string s, .slice (some ⟨x, 0, none⟩) n n] 25))) := (HB3.out.trans (hb4.mono HB3.out.size)).alloc (Nat.le_trans HB3.out.size hb4.size) _
  clear hx hO hb4 c0 c1 HX3
  go_wp2_with fail
  refine (HI.out x _ hsl hnl HM.out HO4.out.texts).mono ?_
  rintro e w5 ⟨rfl, hb5⟩
  have HB5 : Hid (Below w.heap.size w w5) := HB4.out.trans (hb5.mono HB4.out.size)
  have HO5 : Hid (Own w5 x n (textF I)) := HO4.out.below hb5
  obtain ⟨c0, c1, clt⟩ := HX4.out.below hb5
  obtain ⟨d0, d1, dlt⟩ := HY4.out.below hb5
  clear hb5 HX4 HY4 HO4 HB4
  have hbb : ∀ x : List UInt8, (x == x) = true := fun x => by simp
  obtain ⟨P, hP⟩ : ∃ P, P = w4.heap.size := ⟨_, rfl⟩
  rw [← hP] at d0 d1 dlt ⊢
  clear hP
  go_upto_region 10 with fail
  go_region_held3 (fun W => W.cell? ⟨w.heap.size, 0, none⟩ = some (.string s) ∧ W.cell? ⟨w.heap.size, 1, none⟩ = some (.slice a n cap) ∧ W.cell? ⟨P, 0, none⟩ = some (.string s) ∧ W.cell? ⟨P, 1, none⟩ = some (.slice (some ⟨x, 0, none⟩) n n)) (go_keep) (first | (go_at_call 26; refine (to_disk s a n cap I hnl _ (HL.out.below HB5.out.drew)).mono ?_; rintro e w6 ⟨y, rfl, hy, hO, hb6⟩; have e0 := (hb6.cell (p := ⟨w.heap.size, 0, none⟩) clt).trans c0; have e1 := (hb6.cell (p := ⟨w.heap.size, 1, none⟩) clt).trans c1; have f0 := (hb6.cell (p := ⟨P, 0, none⟩) dlt).trans d0; have f1 := (hb6.cell (p := ⟨P, 1, none⟩) dlt).trans d1; have HO6 : Hid (Own w6 x n (textF I)) := HO5.out.below ((Below.refl _ w5).drew.trans hb6); have HY6 : Hid (Own w6 y n (textF I)) := hO; clear hy hO) | (go_at_call 27; refine (eq_disk s _ _ n _ _ I hnl _ HO6.out.texts HY6.out.texts).mono ?_; rintro e w7 ⟨rfl, hb7⟩; have g0 := (hb7.cell (p := ⟨w.heap.size, 0, none⟩) (Nat.lt_of_lt_of_le clt hb6.size)).trans e0; have g1 := (hb7.cell (p := ⟨w.heap.size, 1, none⟩) (Nat.lt_of_lt_of_le clt hb6.size)).trans e1; have h0 := (hb7.cell (p := ⟨P, 0, none⟩) (Nat.lt_of_lt_of_le dlt hb6.size)).trans f0; have h1 := (hb7.cell (p := ⟨P, 1, none⟩) (Nat.lt_of_lt_of_le dlt hb6.size)).trans f1))
  have HB7 : Hid (Below w.heap.size w w7) := (HB5.out.drew.trans (hb6.mono HB5.out.size)).trans (hb7.mono (Nat.le_trans HB5.out.size hb6.size))
  clear hb6 hb7 c0 c1 d0 d1 e0 e1 f0 f1 g0 g1 h0 h1
  go_wp2_with fail
  go_ret
  exact ⟨rfl, HB7.out⟩
end Go.Proofs.Ytdbabdggefcpcaa
