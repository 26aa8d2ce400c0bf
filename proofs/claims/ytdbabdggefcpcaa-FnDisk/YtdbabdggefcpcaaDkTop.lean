/- FnDisk: what stands on a drawn disk behind a crash, a sync, a cut. -/
import Derived.Test.YtdbabdggefcpcaaDrK
import Derived.Test.YtdbabdggefcpcaaDkC
namespace Go.Proofs.Ytdbabdggefcpcaa
open Go.RowKit


theorem cat_nil (t : ByteArray) : t ++ (⟨#[]⟩ : ByteArray) = t := bytes_eq (by rw [bytes_cat]; simp)
theorem textB_zero (x : ByteArray) (I : Nat → Tx) (h : x.size ≤ 20000) : textB x 0 I = x := by
  have hb : diskB x 0 I = true := (diskB_iff _ _ _).2 ⟨by omega, fun i hi => by omega, by show x.size + 0 ≤ 20000; omega⟩
  unfold textB
  rw [if_pos hb]
  exact cat_nil x
theorem ext_list (x : ByteArray) (q : Nat) : (x.extract 0 q).data.toList = x.data.toList.take q := by
  obtain ⟨⟨l⟩⟩ := x
  show ((ByteArray.mk l.toArray).extract 0 q).data.toList = l.take q
  rw [ByteArray.extract_mk]; simp
theorem ext_cat (s T : ByteArray) (q : Nat) : (s ++ T).extract 0 (s.size + q) = s ++ T.extract 0 q := by
  apply bytes_eq
  have hl : s.data.toList.length = s.size := by rw [← Lib.size_eq]
  rw [ext_list, bytes_cat, bytes_cat, ext_list, List.take_append, List.take_of_length_le (by omega), hl, Nat.add_sub_cancel_left]
theorem ext_nil (q : Nat) : (⟨#[]⟩ : ByteArray).extract 0 q = ⟨#[]⟩ := by
  apply bytes_eq; rw [ext_list]; simp
/-- A right disk: its text, and what a crash leaves. -/
theorem disk_facts {s : ByteArray} {n : Nat} {I : Nat → Tx} (z : Int) (h : diskB s n I = true) :
    textB s n I = s ++ catT I n ∧ (s ++ catT I n).size ≤ 20000 ∧ (crashS s n I z).size ≤ (s ++ catT I n).size ∧ s.size ≤ (crashS s n I z).size ∧ (s ++ catT I n).extract 0 (crashS s n I z).size = crashS s n I z := by
  obtain ⟨h1, h2, h3⟩ := (diskB_iff _ _ _).1 h
  have hc : crashS s n I z = s ++ (catT I n).extract 0 (crashQ z (catT I n).size) := by unfold crashS; rw [if_pos h]
  obtain ⟨hq, _⟩ := crash_facts z (catT I n).size _ rfl
  have hes : ((catT I n).extract 0 (crashQ z (catT I n).size)).size = crashQ z (catT I n).size := by rw [ByteArray.size_extract]; omega
  refine ⟨by unfold textB; rw [if_pos h], by rw [ByteArray.size_append, catT_size]; omega, ?_, ?_, ?_⟩
  · rw [hc, ByteArray.size_append, ByteArray.size_append, hes]; omega
  · rw [hc, ByteArray.size_append]; omega
  · rw [hc, ByteArray.size_append, hes, ext_cat]
/-- A result's block that is still zero. -/
structure Rz (w W : World) : Prop where
  r0 : W.cell? ⟨w.heap.size, 0, none⟩ = some (.string ⟨#[]⟩)
  r1 : W.cell? ⟨w.heap.size, 1, none⟩ = some (.slice none 0 0)
  rf : ∀ j, W.frozen? ⟨w.heap.size, j, none⟩ = false
  rl : w.heap.size < W.heap.size
theorem own_txset {W : World} {B R n cv : Nat} {av : Option Addr} {u0 u1 : Value} {I : Nat → Tx} (h : W.ownsRow B 9 1 (.slice av n cv) n (textsC I n)) (hR : R < B) : TextsAt ((W.setCell ⟨R, 0, none⟩ u0).setCell ⟨R, 1, none⟩ u1) av n I := by
  obtain ⟨a', c', e, hO, _⟩ := own_texts (own_cell (j := 1) (u := u1) (own_cell (j := 0) (u := u0) h hR) hR)
  simp at e
  obtain ⟨rfl, rfl⟩ := e
  exact hO.texts
set_option maxRecDepth 100000 in
set_option maxHeartbeats 8000000 in
theorem draw_crash {w : World} {a : Option Addr} {len cap : Nat} {zs : List Int} (hrow : IsRow .u8 w a len cap zs) (hsm : len ≤ 1048576) :
    Calls Try.prog 12 #[.slice a len cap] w fun e w' => ∃ s av cv n I z, e = .returned (.tuple #[.agg #[.string s, .slice av n cv], .int .i64 z]) ∧ (-9223372036854775808 ≤ z ∧ z ≤ 9223372036854775807) ∧ s.size ≤ 1048576 ∧ n ≤ 1048576 ∧ (∀ i, i < n → (I i).small) ∧ TextsAt w' av n I ∧ Below w.heap.size w w' := by
  have HW : Hid (Below w.heap.size w (w.alloc (.cells #[.string ⟨#[]⟩, .slice none 0 0] 25))) := (Below.refl _ _).alloc (Nat.le_refl _) _
  have HRow : Hid (IsRow .u8 w a len cap zs) := hrow
  have HR : Hid (∀ W, (∀ S, S ≠ w.heap.size → (w.alloc (.cells #[.string ⟨#[]⟩, .slice none 0 0] 25)).grownBy W (some S) → Rz w W)) := fun W S hne hg => by
    have hb := hg.block w.heap.size (by simp) (by simpa using fun e => hne e.symm)
    exact ⟨(World.cell?_of_block (a := ⟨w.heap.size, 0, none⟩) hb).trans (by simp), (World.cell?_of_block (a := ⟨w.heap.size, 1, none⟩) hb).trans (by simp), fun j => (World.frozen?_of_block (a := ⟨w.heap.size, j, none⟩) hb).trans (fnew' rfl j), by have := hg.size; simp at this; omega⟩
  clear hrow
  go_enter Try.func12, Try.ntmps12
  go_wp2_with fail
  refine (draw_source HRow.out hsm _ HW.out).mono ?_
  rintro e w1 ⟨S, rfl, hS0, hS1, hg1⟩
  have hSne : S ≠ w.heap.size := by simp at hS0; omega
  have HG1 : Hid ((w.alloc (.cells #[.string ⟨#[]⟩, .slice none 0 0] 25)).grownBy w1 (some S)) := ⟨hg1.os, hg1.tape, hg1.output, hg1.size, fun k hk _ => hg1.block k hk (by simp)⟩
  have hw0 : w.heap.size < w1.heap.size := by have := HG1.out.size; simp at this; omega
  have HS1 : Hid (Src w a len cap zs w1 S) := hS1
  clear hg1 hS1 hS0 HW
  go_wp2_with fail
  refine (draw_disk HS1.out).mono ?_
  rintro e w2 hd
  obtain ⟨s, v, n, I, rfl, hs, hn, hm, hown, hS2, hg2⟩ := hd
  obtain ⟨av, cv, hv⟩ := own_slice hown
  subst hv
  have HG2 : Hid ((w.alloc (.cells #[.string ⟨#[]⟩, .slice none 0 0] 25)).grownBy w2 (some S)) := grown_trans HG1.out hg2
  have HS2 : Hid (Src w a len cap zs (w2.alloc (.cells #[.string s, .slice av n cv] 25)) S) := hS2.alloc _
  have HX2 : Hid (Bx (w2.alloc (.cells #[.string s, .slice av n cv] 25)) w2.heap.size s (.slice av n cv)) := Bx.new _ _ _ _
  have HO2 : Hid ((w2.alloc (.cells #[.string s, .slice av n cv] 25)).ownsRow w1.heap.size 9 1 (.slice av n cv) n (textsC I n)) := hown.alloc _
  have HM : Hid (∀ i, i < n → (I i).small) := hm
  have hS1lt : S < w1.heap.size := HS1.out.lt
  have hP : w1.heap.size ≤ w2.heap.size := hg2.size
  have HG3 : Hid ((w.alloc (.cells #[.string ⟨#[]⟩, .slice none 0 0] 25)).grownBy (w2.alloc (.cells #[.string s, .slice av n cv] 25)) (some S)) := grown_trans HG2.out (World.grownBy_alloc _ _ _)
  have hw1 : w.heap.size < w2.heap.size := by have := HG2.out.size; simp at this; omega
  clear hown hS2 hg2 hm HG1 HS1 HG2
  go_wp2_with fail
  refine (draw_one HS2.out 10 (by omega) (by omega)).mono ?_
  rintro e w3 ⟨b, rfl, hS3, hg3⟩
  have HX3 : Hid (Bx w3 w2.heap.size s (.slice av n cv)) := HX2.out.grown hg3 (by simp; omega)
  have HO3 : Hid (w3.ownsRow w1.heap.size 9 1 (.slice av n cv) n (textsC I n)) := HO2.out.kept hg3 (Or.inr (fun e => by have := (HO2.out.lt S e).1; omega))
  have HG4 : Hid ((w.alloc (.cells #[.string ⟨#[]⟩, .slice none 0 0] 25)).grownBy w3 (some S)) := grown_trans HG3.out hg3
  have HS3 : Hid (Src w a len cap zs w3.drew S) := hS3.kept (grown_drew (World.grownBy.refl _ none)) (fun k e => by cases e) (by simp)
  obtain ⟨P, hPP⟩ : ∃ P, P = w2.heap.size := ⟨_, rfl⟩
  rw [← hPP] at HX3 hP hw1 ⊢
  obtain ⟨c0, c1, clt⟩ := HX3.out
  have n1 : P ≠ w.heap.size := by omega
  have n2 : w.heap.size ≠ P := by omega
  clear hS3 hg3 HX2 HO2 HG3 HS2 hPP
  cases b
  · go_upto_region 5 with fail
    go_region_held3 (fun W => W.cell? ⟨P, 0, none⟩ = some (.string s) ∧ W.cell? ⟨P, 1, none⟩ = some (.slice av n cv)) (go_keep) (first | (go_at_call 41; refine (draw_n HS3.out 40 (by omega) (by omega)).mono ?_; rintro e w4 ⟨r, rfl, hr0, hr1, hS4, hg4⟩; have hg4' : w3.grownBy w4 (some S) := ⟨hg4.os, hg4.tape, hg4.output, hg4.size, hg4.block⟩; have X4 := HX3.out.grown hg4' (by simp; omega); have d0 := X4.c0; have d1 := X4.c1; obtain ⟨r0, r1, rf, rl⟩ := HR.out _ S hSne (grown_trans HG4.out hg4'); have HO4 : Hid (w4.ownsRow w1.heap.size 9 1 (.slice av n cv) n (textsC I n)) := HO3.out.kept hg4' (Or.inr (fun e => by have := (HO3.out.lt S e).1; omega)); have HS4 : Hid (Below w.heap.size w w4) := hS4.below; clear hS4 hg4 hg4' X4; have hwr : IntKind.i64.wrap (r - 3) = r - 3 := IntWalk.i64_in _ (by omega)))
    all_goals
      go_wp2_with fail
      refine bodyPost_ret (v := .tuple #[.agg #[.string s, .slice av n cv], .int .i64 (r - 3)]) ?_ rfl ⟨s, av, cv, n, I, r - 3, rfl, by omega, hs, hn, HM.out, ?_, ?_⟩
      · simp [results, Try.results12, go_sem, r0, r1]
      · exact own_txset HO4.out (by omega)
      · exact (HS4.out.setCell (Nat.le_refl _) _).setCell (Nat.le_refl _) _
  · go_upto_region 4 with fail
    go_region_held3 (fun W => W.cell? ⟨P, 0, none⟩ = some (.string s) ∧ W.cell? ⟨P, 1, none⟩ = some (.slice av n cv)) (go_keep) (first | (go_at_call 40; refine (draw_edge HS3.out).mono ?_; rintro e w4 ⟨r, rfl, hr0, hr1, hS4, hg4⟩; have hg4' : w3.grownBy w4 (some S) := ⟨hg4.os, hg4.tape, hg4.output, hg4.size, hg4.block⟩; have X4 := HX3.out.grown hg4' (by simp; omega); have d0 := X4.c0; have d1 := X4.c1; obtain ⟨r0, r1, rf, rl⟩ := HR.out _ S hSne (grown_trans HG4.out hg4'); have HO4 : Hid (w4.ownsRow w1.heap.size 9 1 (.slice av n cv) n (textsC I n)) := HO3.out.kept hg4' (Or.inr (fun e => by have := (HO3.out.lt S e).1; omega)); have HS4 : Hid (Below w.heap.size w w4) := hS4.below; clear hS4 hg4 hg4' X4))
    all_goals
      go_wp2_with fail
      refine bodyPost_ret (v := .tuple #[.agg #[.string s, .slice av n cv], .int .i64 r]) ?_ rfl ⟨s, av, cv, n, I, r, rfl, ⟨hr0, hr1⟩, hs, hn, HM.out, ?_, ?_⟩
      · simp [results, Try.results12, go_sem, r0, r1]
      · exact own_txset HO4.out (by omega)
      · exact (HS4.out.setCell (Nat.le_refl _) _).setCell (Nat.le_refl _) _
set_option maxRecDepth 100000 in
set_option maxHeartbeats 16000000 in
theorem law_disk (a : Option Addr) (len cap : Nat) (zs : List Int) (w : World) (hrow : IsRow .u8 w a len cap zs) :
    Calls Try.prog 3 #[.slice a len cap] w fun e w' => e = .returned (.bool true) ∧ Below w.heap.size w w' := by
  have hlm : len ≤ 9223372036854775807 := by
    rcases hrow with ⟨_, rfl, _⟩ | ⟨x, _, hl, hm, _⟩
    · omega
    · unfold maxLen at hm; omega
  by_cases hbig : 1048576 < len
  · have p0 : decide (1048576 < len) = true := by simpa using hbig
    have p1 : decide ((1048576 : Int) < (len : Int)) = true := by simp; omega
    go_enter Try.func3, Try.ntmps3
    go_wp2_with fail
    go_ret
    exact ⟨rfl, Below.refl _ _⟩
  have p0 : decide (1048576 < len) = false := by simpa using hbig
  have p1 : decide ((1048576 : Int) < (len : Int)) = false := by simp; omega
  have HD := draw_crash hrow (by omega)
  have HD : Hid (Calls Try.prog 12 _ _ _) := HD
  clear hrow
  go_enter Try.func3, Try.ntmps3
  go_wp2_with fail
  refine HD.out.mono ?_
  rintro e w1 ⟨s, av, cv, n, I, z, rfl, hz, hs, hn, hm, hT, hb1⟩
  have HT1 : Hid (TextsAt (w1.alloc (.cells #[.string s, .slice av n cv] 25)) av n I) := hT.below ((Below.refl _ _).alloc (Nat.le_refl _) _)
  have HX1 : Hid (Bx (w1.alloc (.cells #[.string s, .slice av n cv] 25)) w1.heap.size s (.slice av n cv)) := Bx.new _ _ _ _
  have HB1 : Hid (Below w.heap.size w (w1.alloc (.cells #[.string s, .slice av n cv] 25))) := hb1.alloc hb1.size _
  have HM : Hid (∀ i, i < n → (I i).small) := hm
  clear hT hb1 hm HD
  obtain ⟨B, hB⟩ : ∃ B, diskB s n I = B := ⟨_, rfl⟩
  have HSR : Hid (∀ W, TextsAt W av n I → Calls Try.prog 13 #[.agg #[.string s, .slice av n cv]] W fun e w' => e = .returned (.bool B) ∧ Below W.heap.size W w') := fun W hW => by rw [← hB]; exact spec_dright s av n cv I hs HM.out W hW hn
  have HIR : Hid (∀ W, TextsAt W av n I → Calls Try.prog 14 #[.agg #[.string s, .slice av n cv]] W fun e w' => e = .returned (.bool B) ∧ Below W.heap.size W w') := fun W hW => by rw [← hB]; exact impl_dright s av n cv I hs HM.out W hW hn
  have HBD : Hid (diskB s n I = B) := hB
  clear hB
  go_wp2_with fail
  refine (HSR.out _ HT1.out).mono ?_
  rintro e w2 ⟨rfl, hb2⟩
  have HT2 : Hid (TextsAt w2 av n I) := HT1.out.below hb2
  have HX2 : Hid (Bx w2 w1.heap.size s (.slice av n cv)) := HX1.out.below hb2
  have HB2 : Hid (Below w.heap.size w w2) := HB1.out.trans (hb2.mono HB1.out.size)
  obtain ⟨P, hP⟩ : ∃ P, P = w1.heap.size := ⟨_, rfl⟩
  rw [← hP] at HX2 ⊢
  clear hb2 HT1 HX1 HB1 HSR hP
  obtain ⟨c0, c1, clt⟩ := HX2.out
  cases B
  · go_wp2_with fail
    refine (HIR.out _ HT2.out).mono ?_
    rintro e w3 ⟨rfl, hb3⟩
    have HB3 : Hid (Below w.heap.size w w3) := HB2.out.trans (hb3.mono HB2.out.size)
    clear hb3
    go_wp2_with fail
    go_ret
    exact ⟨rfl, HB3.out⟩
  obtain ⟨f1, f2, f3, f4, f5⟩ := disk_facts z HBD.out
  have HIT : Hid (∀ W, TextsAt W av n I → Calls Try.prog 15 #[.agg #[.string s, .slice av n cv]] W fun e w' => e = .returned (.string (s ++ catT I n)) ∧ Below W.heap.size W w') := fun W hW => by rw [← f1]; exact impl_dtext s av n cv I hs HM.out W hW hn
  have HST : Hid (∀ W, TextsAt W av n I → Calls Try.prog 17 #[.agg #[.string s, .slice av n cv]] W fun e w' => e = .returned (.string (s ++ catT I n)) ∧ Below W.heap.size W w') := fun W hW => by rw [← f1]; exact spec_dtext s av n cv I hs HM.out W hW hn
  have hs0 : syncN s n I = 0 := by unfold syncN; rw [if_pos HBD.out]
  have hs1 : syncS s n I = s ++ catT I n := by unfold syncS; rw [if_pos HBD.out]
  have HCR : Hid (∀ W, TextsAt W av n I → Calls Try.prog 16 #[.agg #[.string s, .slice av n cv], .int .i64 z] W fun e w' => ∃ a' c', e = .returned (.agg #[.string (crashS s n I z), .slice a' 0 c']) ∧ Below W.heap.size W w') := fun W hW => by
    refine (impl_crash s av n cv I z hz hs HM.out W hW hn).mono ?_
    rintro e w' ⟨v, rfl, ho, hb⟩
    rw [hs0] at ho
    obtain ⟨a', c', rfl⟩ := own_slice ho
    exact ⟨a', c', rfl, hb⟩
  have HSY : Hid (∀ W, TextsAt W av n I → Calls Try.prog 18 #[.agg #[.string s, .slice av n cv]] W fun e w' => ∃ a' c', e = .returned (.agg #[.string (s ++ catT I n), .slice a' 0 c']) ∧ Below W.heap.size W w') := fun W hW => by
    refine (impl_sync s av n cv I hs HM.out W hW hn).mono ?_
    rintro e w' ⟨v, rfl, ho, hb⟩
    rw [hs0] at ho
    rw [hs1]
    obtain ⟨a', c', rfl⟩ := own_slice ho
    exact ⟨a', c', rfl, hb⟩
  have HCU : Hid (∀ W, TextsAt W av n I → Calls Try.prog 19 #[.agg #[.string s, .slice av n cv], .int .i64 ((crashS s n I z).size : Int)] W fun e w' => ∃ a' c', e = .returned (.agg #[.string (crashS s n I z), .slice a' 0 c']) ∧ Below W.heap.size W w') := fun W hW => by
    refine (impl_cut s av n cv I ((crashS s n I z).size : Int) (by omega) hs HM.out W hW hn).mono ?_
    rintro e w' ⟨v, rfl, ho, hb⟩
    have hyes : diskB s n I = true ∧ (0 : Int) ≤ ((crashS s n I z).size : Int) ∧ ((crashS s n I z).size : Int) ≤ ((textB s n I).size : Int) := ⟨HBD.out, by omega, by rw [f1]; omega⟩
    have e0 : cutN s n I ((crashS s n I z).size : Int) = 0 := by unfold cutN; rw [if_pos hyes]
    have e1 : cutS s n I ((crashS s n I z).size : Int) = crashS s n I z := by unfold cutS; rw [if_pos hyes, f1, Int.toNat_natCast, f5]
    rw [e0] at ho
    rw [e1]
    obtain ⟨a', c', rfl⟩ := own_slice ho
    exact ⟨a', c', rfl, hb⟩
  generalize crashS s n I z = U at *
  generalize s ++ catT I n = T at *
  have HTX : Hid (∀ x a' c' W, x.size ≤ 20000 → Calls Try.prog 15 #[.agg #[.string x, .slice a' 0 c']] W fun e w' => e = .returned (.string x) ∧ Below W.heap.size W w') := fun x a' c' W hx => by
    refine (impl_dtext x a' 0 c' (fun _ => ⟨⟨#[]⟩⟩) (by omega) (fun i hi => by omega) W (Or.inl rfl) (by omega)).mono ?_
    rintro e w' ⟨rfl, hb⟩
    exact ⟨by rw [textB_zero _ _ hx], hb⟩
  have HC0 : Hid (∀ x a' c' W, x.size ≤ 20000 → Calls Try.prog 16 #[.agg #[.string x, .slice a' 0 c'], .int .i64 z] W fun e w' => ∃ a'' c'', e = .returned (.agg #[.string x, .slice a'' 0 c'']) ∧ Below W.heap.size W w') := fun x a' c' W hx => by
    refine (impl_crash x a' 0 c' (fun _ => ⟨⟨#[]⟩⟩) z hz (by omega) (fun i hi => by omega) W (Or.inl rfl) (by omega)).mono ?_
    rintro e w' ⟨v, rfl, ho, hb⟩
    have hb0 : diskB x 0 (fun _ => ⟨⟨#[]⟩⟩) = true := (diskB_iff _ _ _).2 ⟨by omega, fun i hi => by omega, by show x.size + 0 ≤ 20000; omega⟩
    have e0 : syncN x 0 (fun _ => ⟨⟨#[]⟩⟩) = 0 := by unfold syncN; rw [if_pos hb0]
    have e1 : crashS x 0 (fun _ => ⟨⟨#[]⟩⟩) z = x := by unfold crashS; rw [if_pos hb0]; show x ++ (⟨#[]⟩ : ByteArray).extract 0 _ = x; rw [ext_nil, cat_nil]
    rw [e0] at ho
    rw [e1]
    obtain ⟨a'', c'', rfl⟩ := own_slice ho
    exact ⟨a'', c'', rfl, hb⟩
  have hxx : ∀ x : List UInt8, (x == x) = true := fun x => by simp
  have g0 : decide (T.size < U.size) = false := by simp; omega
  have g1 : decide ((T.size : Int) < (U.size : Int)) = false := by simp; omega
  have g2 : decide (U.size < s.size) = false := by simp; omega
  have g3 : decide ((U.size : Int) < (s.size : Int)) = false := by simp; omega
  have hsl : ∀ W : World, (Instr.slice 9 (.string T) none (some (.int .i64 (U.size : Int))) none).run Try.prog W = .ok (.string U) W := fun W => by
    rw [run_slice_string_h (P := Try.prog) W 9 T Try.underlying9 .i64 (U.size : Int) (by omega) (by omega), Int.toNat_natCast, f5]
  have HU : Hid (U.size ≤ 20000 ∧ T.size ≤ 20000) := ⟨by omega, f2⟩
  have hub : U.size ≤ 20000 := HU.out.1
  have htb : T.size ≤ 20000 := f2
  clear f1 f2 f3 f4 f5 hs0 hs1 HIR HBD
  go_wp2_with fail
  refine (HIT.out _ HT2.out).mono ?_
  rintro e w3 ⟨rfl, hb3⟩
  have HT3 : Hid (TextsAt w3 av n I) := HT2.out.below hb3
  have HX3 : Hid (Bx w3 P s (.slice av n cv)) := HX2.out.below hb3
  have HB3 : Hid (Below w.heap.size w w3) := HB2.out.trans (hb3.mono HB2.out.size)
  clear hb3 HT2 HX2 HB2 c0 c1 clt
  obtain ⟨c0, c1, clt⟩ := HX3.out
  go_wp2_with fail
  refine (HCR.out _ HT3.out).mono ?_
  rintro e w4 ⟨a4, c4, rfl, hb4⟩
  have HT4 : Hid (TextsAt w4 av n I) := HT3.out.below hb4
  have HX4 : Hid (Bx w4 P s (.slice av n cv)) := HX3.out.below hb4
  have HB4 : Hid (Below w.heap.size w w4) := HB3.out.trans (hb4.mono HB3.out.size)
  clear hb4 HT3 HX3 HB3 c0 c1 clt
  obtain ⟨c0, c1, clt⟩ := HX4.out
  go_wp2_with fail
  refine (HTX.out U a4 c4 _ HU.out.1).mono ?_
  rintro e w5 ⟨rfl, hb5⟩
  have HT5 : Hid (TextsAt w5 av n I) := HT4.out.below hb5
  have HX5 : Hid (Bx w5 P s (.slice av n cv)) := HX4.out.below hb5
  have HB5 : Hid (Below w.heap.size w w5) := HB4.out.trans (hb5.mono HB4.out.size)
  clear hb5 HT4 HX4 HB4 c0 c1 clt
  obtain ⟨c0, c1, clt⟩ := HX5.out
  go_wp2_with fail
  refine (HST.out _ HT5.out).mono ?_
  rintro e w6 ⟨rfl, hb6⟩
  have HT6 : Hid (TextsAt w6 av n I) := HT5.out.below hb6
  have HX6 : Hid (Bx w6 P s (.slice av n cv)) := HX5.out.below hb6
  have HB6 : Hid (Below w.heap.size w w6) := HB5.out.trans (hb6.mono HB5.out.size)
  clear hb6 HT5 HX5 HB5 c0 c1 clt
  obtain ⟨c0, c1, clt⟩ := HX6.out
  go_wp2_with fail
  refine (HSY.out _ HT6.out).mono ?_
  rintro e w7 ⟨a7, c7, rfl, hb7⟩
  have HT7 : Hid (TextsAt w7 av n I) := HT6.out.below hb7
  have HX7 : Hid (Bx w7 P s (.slice av n cv)) := HX6.out.below hb7
  have HB7 : Hid (Below w.heap.size w w7) := HB6.out.trans (hb7.mono HB6.out.size)
  clear hb7 HT6 HX6 HB6 c0 c1 clt
  go_wp2_with fail
  refine (HC0.out T a7 c7 _ HU.out.2).mono ?_
  rintro e w8 ⟨a8, c8, rfl, hb8⟩
  have HT8 : Hid (TextsAt w8 av n I) := HT7.out.below hb8
  have HX8 : Hid (Bx w8 P s (.slice av n cv)) := HX7.out.below hb8
  have HB8 : Hid (Below w.heap.size w w8) := HB7.out.trans (hb8.mono HB7.out.size)
  clear hb8 HT7 HX7 HB7
  go_wp2_with fail
  refine (HTX.out T a8 c8 _ HU.out.2).mono ?_
  rintro e w9 ⟨rfl, hb9⟩
  have HT9 : Hid (TextsAt w9 av n I) := HT8.out.below hb9
  have HX9 : Hid (Bx w9 P s (.slice av n cv)) := HX8.out.below hb9
  have HB9 : Hid (Below w.heap.size w w9) := HB8.out.trans (hb9.mono HB8.out.size)
  clear hb9 HT8 HX8 HB8
  obtain ⟨c0, c1, clt⟩ := HX9.out
  go_wp2_with fail
  refine (HCU.out _ HT9.out).mono ?_
  rintro e wa ⟨aa, ca, rfl, hba⟩
  have HBa : Hid (Below w.heap.size w wa) := HB9.out.trans (hba.mono HB9.out.size)
  clear hba HT9 HX9 HB9 c0 c1 clt
  go_wp2_with fail
  refine (HTX.out U aa ca _ HU.out.1).mono ?_
  rintro e wb ⟨rfl, hbb⟩
  have HBb : Hid (Below w.heap.size w wb) := HBa.out.trans (hbb.mono HBa.out.size)
  clear hbb
  go_wp2_with fail
  go_ret
  exact ⟨rfl, HBb.out⟩
end Go.Proofs.Ytdbabdggefcpcaa
