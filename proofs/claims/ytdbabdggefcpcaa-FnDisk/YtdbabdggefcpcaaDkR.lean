/- Right disks (spec.DiskRight, impl.DiskRight): what each call does; the law. -/
import Derived.Test.YtdbabdggefcpcaaDk1
import Derived.Test.YtdbabdggefcpcaaDk2
namespace Go.Proofs.Ytdbabdggefcpcaa
open Go.RowKit


theorem emp_no {x : ByteArray} (h : x.size ≠ 0) : x.toList.isEmpty = false ∧ (x.toList == []) = false := by
  have e : x.toList ≠ [] := by
    intro e
    apply h
    have := congrArg List.length e
    rw [Lib.toList_data] at this
    rw [Lib.size_eq]; exact this
  constructor
  · cases hx : x.toList
    · exact absurd hx e
    · rfl
  · rw [beq_eq_false_iff_ne]; exact e
theorem emp_yes {x : ByteArray} (h : x.size = 0) : x = ⟨#[]⟩ := bytes_eq (by
  have : x.data.toList.length = 0 := by rw [← Lib.size_eq, h]
  rw [List.length_eq_zero_iff.1 this])
/-- A disk's box in memory. -/
theorem box_disk (w : World) (s : ByteArray) (a : Option Addr) (n cap : Nat) : ∀ W, Below (w.heap.size + 1) (w.alloc (.cells #[.string s, .slice a n cap] 25)) W → Below w.heap.size w W ∧ W.cell? ⟨w.heap.size, 0, none⟩ = some (.string s) ∧ W.cell? ⟨w.heap.size, 1, none⟩ = some (.slice a n cap) := fun W hb =>
  ⟨((Below.refl _ _).alloc (Nat.le_refl _) _).trans (hb.mono (by omega)), (hb.cell (p := ⟨w.heap.size, 0, none⟩) (by show w.heap.size < _; simp)).trans (by simp), (hb.cell (p := ⟨w.heap.size, 1, none⟩) (by show w.heap.size < _; simp)).trans (by simp)⟩
set_option maxRecDepth 100000 in
set_option maxHeartbeats 4000000 in
theorem impl_dright (s : ByteArray) (a : Option Addr) (n cap : Nat) (I : Nat → Tx) (hs : s.size ≤ 1048576) (hsm : ∀ i, i < n → (I i).small) (w : World) (h : TextsAt w a n I) (hn : n ≤ 1048576) :
    Calls Try.prog 14 #[.agg #[.string s, .slice a n cap]] w fun e w' => e = .returned (.bool (diskB s n I)) ∧ Below w.heap.size w w' := by
  have HL : Hid (TextsAt w a n I) := h
  have HM : Hid (∀ i, i < n → (I i).small) := hsm
  have HW : Hid (∀ W, _) := box_disk w s a n cap
  clear h hsm
  by_cases h100 : 100 < n
  · have p0 : decide (100 < n) = true := by simpa using h100
    have p1 : decide ((100 : Int) < (n : Int)) = true := by simp; omega
    have HR : Hid (diskB s n I = false) := diskB_no (fun e => by have := e.1; omega)
    go_enter Try.func14, Try.ntmps14
    go_wp2_with fail
    go_ret
    exact ⟨by rw [HR.out]; rfl, (Below.refl _ _).alloc (Nat.le_refl _) _⟩
  have p0 : decide (100 < n) = false := by simpa using h100
  have p1 : decide ((100 : Int) < (n : Int)) = false := by simp; omega
  go_enter Try.func14, Try.ntmps14
  go_wp2_with fail
  go_loopw [3, 16] (fun x i wr => ∃ k S : Nat, x = .int .i64 (S : Int) ∧ i = .int .i64 (k : Int) ∧ k ≤ n ∧ Hid (S = s.size + lenT I k) ∧ Hid (∀ j, j < k → (I j).t.size ≠ 0) ∧ Hid (Below (w.heap.size + 1) (w.alloc (.cells #[.string s, .slice a n cap] 25)) wr)) (fun _ i _ => n - (intOf i).toNat)
  case atStart => exact ⟨0, s.size, rfl, rfl, by omega, rfl, fun j hj => by omega, Below.refl _ _⟩
  case round =>
    obtain ⟨k, S, rfl, rfl, hk, HS, HE, HB⟩ := hrel
    obtain ⟨hbw, hbox0, hbox⟩ := HW.out _ HB.out
    have HBW : Hid (Below w.heap.size w wr) := hbw
    clear hbw hbox0
    by_cases hkn : k < n
    · have q0 : decide (k < n) = true := by simpa using hkn
      have q1 : decide ((k : Int) < (n : Int)) = true := by simpa using hkn
      rcases HL.out with h0 | ⟨g, o, rfl, hg, hc⟩
      · omega
      have c0 := (HBW.out.cell (p := ⟨g, o + k, none⟩) hg).trans (hc k hkn)
      by_cases h0 : (I k).t.size = 0
      · have hx := emp_yes h0
        have HR : Hid (diskB s n I = false) := diskB_no (fun e => e.2.1 k hkn h0)
        clear hc
        generalize (I k).t = x0 at *
        subst hx
        go_wp2_with fail
        go_ret
        exact ⟨by rw [HR.out]; rfl, HBW.out⟩
      · obtain ⟨e0, e1⟩ := emp_no h0
        have HS' : Hid (S + (I k).t.size = s.size + lenT I (k + 1)) := by rw [HS.out, lenT]; exact Nat.add_assoc _ _ _
        have HE' : Hid (∀ j, j < k + 1 → (I j).t.size ≠ 0) := fun j hj => by
          by_cases e : j = k
          · rw [e]; exact h0
          · exact HE.out j (by omega)
        have hle : S + (I k).t.size ≤ 209715200 := by
          have h1 := lenT_small I (k + 1) (fun i hi => HM.out i (by omega))
          have h2 := HS'.out
          omega
        clear hc h0 HS HE
        generalize (I k).t = x0 at *
        go_wp2_with fail
        go_roundw
        case rel => exact ⟨k + 1, S + x0.size, by go_num, by go_num, by omega, HS', HE', HB⟩
        case measure => simp [intOf]; omega
    · have q0 : decide (k < n) = false := by simpa using hkn
      have q1 : decide ((k : Int) < (n : Int)) = false := by simpa using hkn
      obtain rfl : k = n := by omega
      have HR : Hid (diskB s k I = decide ((S : Int) ≤ 20000)) := by
        rw [diskB_end (by omega) HE.out, ← HS.out]; congr 1; apply propext; omega
      clear HS HE
      go_wp2_with fail
      go_ret
      exact ⟨by rw [HR.out]; rfl, HBW.out⟩
set_option maxRecDepth 100000 in
set_option maxHeartbeats 4000000 in
theorem spec_dright (s : ByteArray) (a : Option Addr) (n cap : Nat) (I : Nat → Tx) (hs : s.size ≤ 1048576) (hsm : ∀ i, i < n → (I i).small) (w : World) (h : TextsAt w a n I) (hn : n ≤ 1048576) :
    Calls Try.prog 13 #[.agg #[.string s, .slice a n cap]] w fun e w' => e = .returned (.bool (diskB s n I)) ∧ Below w.heap.size w w' := by
  have HL : Hid (TextsAt w a n I) := h
  have HM : Hid (∀ i, i < n → (I i).small) := hsm
  have HW : Hid (∀ W, _) := box_disk w s a n cap
  clear h hsm
  by_cases h100 : 100 < n
  · have p0 : decide (100 < n) = true := by simpa using h100
    have p1 : decide ((100 : Int) < (n : Int)) = true := by simp; omega
    have HR : Hid (diskB s n I = false) := diskB_no (fun e => by have := e.1; omega)
    go_enter Try.func13, Try.ntmps13
    go_wp2_with fail
    go_ret
    exact ⟨by rw [HR.out]; rfl, (Below.refl _ _).alloc (Nat.le_refl _) _⟩
  have p0 : decide (100 < n) = false := by simpa using h100
  have p1 : decide ((100 : Int) < (n : Int)) = false := by simp; omega
  by_cases h20 : 20000 < s.size
  · have r0 : decide (20000 < s.size) = true := by simpa using h20
    have r1 : decide ((20000 : Int) < (s.size : Int)) = true := by simp; omega
    have HR : Hid (diskB s n I = false) := diskB_no (fun e => by have := e.2.2; omega)
    go_enter Try.func13, Try.ntmps13
    go_wp2_with fail
    go_ret
    exact ⟨by rw [HR.out]; rfl, (Below.refl _ _).alloc (Nat.le_refl _) _⟩
  have r0 : decide (20000 < s.size) = false := by simpa using h20
  have r1 : decide ((20000 : Int) < (s.size : Int)) = false := by simp; omega
  go_enter Try.func13, Try.ntmps13
  go_wp2_with fail
  go_loopw [3, 4] (fun x i wr => ∃ k S : Nat, x = .int .i64 (S : Int) ∧ i = .int .i64 (k : Int) ∧ k ≤ n ∧ Hid (S = s.size + lenT I k) ∧ Hid (∀ j, j < k → (I j).t.size ≠ 0) ∧ Hid (Below (w.heap.size + 1) (w.alloc (.cells #[.string s, .slice a n cap] 25)) wr)) (fun _ i _ => n - (intOf i).toNat)
  case atStart => exact ⟨0, s.size, rfl, rfl, by omega, rfl, fun j hj => by omega, Below.refl _ _⟩
  case round =>
    obtain ⟨k, S, rfl, rfl, hk, HS, HE, HB⟩ := hrel
    obtain ⟨hbw, hbox0, hbox⟩ := HW.out _ HB.out
    have HBW : Hid (Below w.heap.size w wr) := hbw
    clear hbw hbox0
    by_cases hkn : k < n
    · have q0 : decide (k < n) = true := by simpa using hkn
      have q1 : decide ((k : Int) < (n : Int)) = true := by simpa using hkn
      rcases HL.out with h0 | ⟨g, o, rfl, hg, hc⟩
      · omega
      have c0 := (HBW.out.cell (p := ⟨g, o + k, none⟩) hg).trans (hc k hkn)
      by_cases h0 : (I k).t.size = 0
      · have hx := emp_yes h0
        have HR : Hid (diskB s n I = false) := diskB_no (fun e => e.2.1 k hkn h0)
        clear hc
        generalize (I k).t = x0 at *
        subst hx
        go_wp2_with fail
        go_ret
        exact ⟨by rw [HR.out]; rfl, HBW.out⟩
      · obtain ⟨e0, e1⟩ := emp_no h0
        by_cases hbig : 20000 < (I k).t.size
        · have t0 : decide (20000 < (I k).t.size) = true := by simpa using hbig
          have t1 : decide ((20000 : Int) < ((I k).t.size : Int)) = true := by simp; omega
          have HR : Hid (diskB s n I = false) := diskB_no (fun e => by have := e.2.2; have := lenT_one I hkn; omega)
          clear hc h0 hbig
          generalize (I k).t = x0 at *
          go_wp2_with fail
          go_ret
          exact ⟨by rw [HR.out]; rfl, HBW.out⟩
        have t0 : decide (20000 < (I k).t.size) = false := by simpa using hbig
        have t1 : decide ((20000 : Int) < ((I k).t.size : Int)) = false := by simp; omega
        have HS' : Hid (S + (I k).t.size = s.size + lenT I (k + 1)) := by rw [HS.out, lenT]; exact Nat.add_assoc _ _ _
        have HE' : Hid (∀ j, j < k + 1 → (I j).t.size ≠ 0) := fun j hj => by
          by_cases e : j = k
          · rw [e]; exact h0
          · exact HE.out j (by omega)
        have hle : S + (I k).t.size ≤ 209715200 := by
          have h1 := lenT_small I (k + 1) (fun i hi => HM.out i (by omega))
          have h2 := HS'.out
          omega
        clear hc h0 HS HE hbig
        generalize (I k).t = x0 at *
        go_wp2_with fail
        go_roundw
        case rel => exact ⟨k + 1, S + x0.size, by go_num, by go_num, by omega, HS', HE', HB⟩
        case measure => simp [intOf]; omega
    · have q0 : decide (k < n) = false := by simpa using hkn
      have q1 : decide ((k : Int) < (n : Int)) = false := by simpa using hkn
      obtain rfl : k = n := by omega
      have HR : Hid (diskB s k I = decide ((S : Int) ≤ 20000)) := by
        rw [diskB_end (by omega) HE.out, ← HS.out]; congr 1; apply propext; omega
      clear HS HE
      go_wp2_with fail
      go_ret
      exact ⟨by rw [HR.out]; rfl, HBW.out⟩
/-- A disk in a block. -/
structure Bx (W : World) (b : Nat) (s : ByteArray) (v : Value) : Prop where
  c0 : W.cell? ⟨b, 0, none⟩ = some (.string s)
  c1 : W.cell? ⟨b, 1, none⟩ = some v
  lt : b < W.heap.size
theorem Bx.below {W W' : World} {b : Nat} {s : ByteArray} {v : Value} (h : Bx W b s v) (hb : Below W.heap.size W W') : Bx W' b s v :=
  ⟨(hb.cell (p := ⟨b, 0, none⟩) h.lt).trans h.c0, (hb.cell (p := ⟨b, 1, none⟩) h.lt).trans h.c1, Nat.lt_of_lt_of_le h.lt hb.size⟩
theorem Bx.new (w : World) (s : ByteArray) (v : Value) (t : TypeId) : Bx (w.alloc (.cells #[.string s, v] t)) w.heap.size s v := ⟨by simp, by simp, by simp⟩
theorem Bx.grown {W W' : World} {b : Nat} {r : Option Nat} {s : ByteArray} {v : Value} (h : Bx W b s v) (hg : W.grownBy W' r) (hne : some b ≠ r) : Bx W' b s v := by
  have hb := hg.block b h.lt hne
  exact ⟨(World.cell?_of_block (a := ⟨b, 0, none⟩) hb).trans h.c0, (World.cell?_of_block (a := ⟨b, 1, none⟩) hb).trans h.c1, Nat.lt_of_lt_of_le h.lt hg.size⟩
set_option maxRecDepth 100000 in
set_option maxHeartbeats 4000000 in
theorem law_diskRight (s : ByteArray) (hs : s.size ≤ maxLen) (a : Option Addr) (n cap : Nat) (I : Nat → Tx) (hn : n ≤ maxLen) (hfit : ∀ i, i < n → (I i).fits) (w : World) (h : TextsAt w a n I) :
    Calls Try.prog 5 #[.agg #[.string s, .slice a n cap]] w fun e w' => e = .returned (.bool true) ∧ Below w.heap.size w w' := by
  have HL : Hid (TextsAt w a n I) := h
  have HF : Hid (∀ i, i < n → (I i).fits) := hfit
  have HN : Hid (s.size ≤ maxLen ∧ n ≤ maxLen) := ⟨hs, hn⟩
  have HX0 : Hid (Bx (w.alloc (.cells #[.string s, .slice a n cap] 44)) w.heap.size s (.slice a n cap)) := Bx.new _ _ _ _
  have HB0 : Hid (Below w.heap.size w (w.alloc (.cells #[.string s, .slice a n cap] 44))) := (Below.refl _ _).alloc (Nat.le_refl _) _
  obtain ⟨b, hb⟩ : ∃ b, b = diskB s n I := ⟨_, rfl⟩
  have HS : Hid (∀ g W, s.size ≤ 1048576 → n ≤ 1048576 → (∀ i, i < n → (I i).small) → TextsAt W (some ⟨g, 0, none⟩) n I → Calls Try.prog 13 #[.agg #[.string s, .slice (some ⟨g, 0, none⟩) n n]] W fun e w' => e = .returned (.bool b) ∧ Below W.heap.size W w') := fun g W h1 h2 h3 h4 => by rw [hb]; exact spec_dright s _ n n I h1 h3 W h4 h2
  have HI : Hid (∀ g W, s.size ≤ 1048576 → n ≤ 1048576 → (∀ i, i < n → (I i).small) → TextsAt W (some ⟨g, 0, none⟩) n I → Calls Try.prog 14 #[.agg #[.string s, .slice (some ⟨g, 0, none⟩) n n]] W fun e w' => e = .returned (.bool b) ∧ Below W.heap.size W w') := fun g W h1 h2 h3 h4 => by rw [hb]; exact impl_dright s _ n n I h1 h3 W h4 h2
  clear h hfit hn hs hb
  go_enter Try.func5, Try.ntmps5
  go_wp2_with fail
  refine (sz_disk s a n cap I HN.out.1 HN.out.2 HF.out 1048576 (by omega) _ (HL.out.below HB0.out)).mono ?_
  rintro e w1 ⟨he, hb1⟩
  have HB1 : Hid (Below w.heap.size w w1) := HB0.out.trans (hb1.mono HB0.out.size)
  have X1 := HX0.out.below hb1
  have c0 := X1.c0
  have c1 := X1.c1
  have HX1 : Hid (Bx w1 w.heap.size s (.slice a n cap)) := X1
  clear hb1 X1 HX0 HB0
  rcases he with rfl | ⟨r, rfl, hr, hsl, hnl, hsm⟩
  · have q' : decide ((-1 : Int) < 0) = true := rfl
    go_wp2_with fail
    go_ret
    exact ⟨rfl, HB1.out⟩
  have HM : Hid (∀ i, i < n → (I i).small) := hsm
  clear hsm
  have q' : decide ((r : Int) < 0) = false := by simp
  go_wp2_with fail
  refine (to_disk s a n cap I hnl _ (HL.out.below HB1.out)).mono ?_
  rintro e w2 ⟨g, rfl, hg, hO, hb2⟩
  have HB2 : Hid (Below w.heap.size w w2) := HB1.out.trans (hb2.mono HB1.out.size)
  have HX2 : Hid (Bx w2 w.heap.size s (.slice a n cap)) := HX1.out.below hb2
  have HO : Hid (Own w2 g n (textF I)) := hO
  clear hg hO hb2 c0 c1 HX1
  go_wp2_with fail
  refine (HS.out g _ hsl hnl HM.out HO.out.texts).mono ?_
  rintro e w3 ⟨rfl, hb3⟩
  have HB3 : Hid (Below w.heap.size w w3) := HB2.out.trans (hb3.mono HB2.out.size)
  have X3 := HX2.out.below hb3
  have c0 := X3.c0
  have c1 := X3.c1
  have HX3 : Hid (Bx w3 w.heap.size s (.slice a n cap)) := X3
  clear hb3 HO X3 HX2
  go_wp2_with fail
  refine (to_disk s a n cap I hnl _ (HL.out.below HB3.out)).mono ?_
  rintro e w4 ⟨x, rfl, hx, hO, hb4⟩
  have HX4 : Hid (Bx (w4.alloc (.cells #[.string s, .slice (some ⟨x, 0, none⟩) n n] 25)) w.heap.size s (.slice a n cap)) := (HX3.out.below hb4).below ((Below.refl _ _).alloc (Nat.le_refl _) _)
  have HY4 : Hid (Bx (w4.alloc (.cells #[.string s, .slice (some ⟨x, 0, none⟩) n n] 25)) w4.heap.size s (.slice (some ⟨x, 0, none⟩) n n)) := Bx.new _ _ _ _
  have HO4 : Hid (Own (w4.alloc (.cells #[.string s, .slice (some ⟨x, 0, none⟩) n n] 25)) x n (textF I)) := hO.below ((Below.refl _ _).alloc (Nat.le_refl _) _)
  have HB4 : Hid (Below w.heap.size w (w4.alloc (.cells #[.string s, .slice (some ⟨x, 0, none⟩) n n] 25))) := (HB3.out.trans (hb4.mono HB3.out.size)).alloc (Nat.le_trans HB3.out.size hb4.size) _
  clear hx hO hb4 c0 c1 HX3
  go_wp2_with fail
  refine (HI.out x _ hsl hnl HM.out HO4.out.texts).mono ?_
  rintro e w5 ⟨rfl, hb5⟩
  have HB5 : Hid (Below w.heap.size w w5) := HB4.out.trans (hb5.mono HB4.out.size)
  have HO5 : Hid (Own w5 x n (textF I)) := HO4.out.below hb5
  obtain ⟨c0, c1, clt⟩ := HX4.out.below hb5
  obtain ⟨d0, d1, dlt⟩ := HY4.out.below hb5
  clear hb5 HX4 HY4 HO4 HB4
  have hbb : ∀ b : Bool, (b != b) = false := fun b => by simp
  obtain ⟨P, hP⟩ : ∃ P, P = w4.heap.size := ⟨_, rfl⟩
  rw [← hP] at d0 d1 dlt ⊢
  clear hP
  go_upto_region 10 with fail
  go_region_held3 (fun W => W.cell? ⟨w.heap.size, 0, none⟩ = some (.string s) ∧ W.cell? ⟨w.heap.size, 1, none⟩ = some (.slice a n cap) ∧ W.cell? ⟨P, 0, none⟩ = some (.string s) ∧ W.cell? ⟨P, 1, none⟩ = some (.slice (some ⟨x, 0, none⟩) n n)) (go_keep) (first | (go_at_call 26; refine (to_disk s a n cap I hnl _ (HL.out.below HB5.out.drew)).mono ?_; rintro e w6 ⟨y, rfl, hy, hO, hb6⟩; have e0 := (hb6.cell (p := ⟨w.heap.size, 0, none⟩) clt).trans c0; have e1 := (hb6.cell (p := ⟨w.heap.size, 1, none⟩) clt).trans c1; have f0 := (hb6.cell (p := ⟨P, 0, none⟩) dlt).trans d0; have f1 := (hb6.cell (p := ⟨P, 1, none⟩) dlt).trans d1; have HO6 : Hid (Own w6 x n (textF I)) := HO5.out.below ((Below.refl _ w5).drew.trans hb6); have HY6 : Hid (Own w6 y n (textF I)) := hO; clear hy hO) | (go_at_call 27; refine (eq_disk s _ _ n _ _ I hnl _ HO6.out.texts HY6.out.texts).mono ?_; rintro e w7 ⟨rfl, hb7⟩; have g0 := (hb7.cell (p := ⟨w.heap.size, 0, none⟩) (Nat.lt_of_lt_of_le clt hb6.size)).trans e0; have g1 := (hb7.cell (p := ⟨w.heap.size, 1, none⟩) (Nat.lt_of_lt_of_le clt hb6.size)).trans e1; have h0 := (hb7.cell (p := ⟨P, 0, none⟩) (Nat.lt_of_lt_of_le dlt hb6.size)).trans f0; have h1 := (hb7.cell (p := ⟨P, 1, none⟩) (Nat.lt_of_lt_of_le dlt hb6.size)).trans f1))
  have HB7 : Hid (Below w.heap.size w w7) := (HB5.out.drew.trans (hb6.mono HB5.out.size)).trans (hb7.mono (Nat.le_trans HB5.out.size hb6.size))
  clear hb6 hb7 c0 c1 d0 d1 e0 e1 f0 f1 g0 g1 h0 h1
  go_wp2_with fail
  go_ret
  exact ⟨rfl, HB7.out⟩
end Go.Proofs.Ytdbabdggefcpcaa
