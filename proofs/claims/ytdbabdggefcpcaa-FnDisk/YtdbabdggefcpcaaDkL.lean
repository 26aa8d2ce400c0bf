/- The laws of DiskSync and DiskCut. -/
import Derived.Test.YtdbabdggefcpcaaDkS
namespace Go.Proofs.Ytdbabdggefcpcaa
open Go.RowKit


theorem i64_bd {z : Int} (h : (Lit.int .i64 z).wf = true) : -9223372036854775808 ≤ z ∧ z ≤ 9223372036854775807 := by
  simpa [Lit.wf, IntKind.min, IntKind.max, IntKind.signed, IntKind.bits] using h
theorem syncN_le (s : ByteArray) (n : Nat) (I : Nat → Tx) : syncN s n I ≤ n := by unfold syncN; split <;> omega
theorem cutN_le (s : ByteArray) (n : Nat) (I : Nat → Tx) (z : Int) : cutN s n I z ≤ n := by unfold cutN; split <;> omega
set_option maxRecDepth 100000 in
set_option maxHeartbeats 16000000 in
theorem law_sync (s : ByteArray) (hs : s.size ≤ maxLen) (a : Option Addr) (n cap : Nat) (I : Nat → Tx) (hn : n ≤ maxLen) (hfit : ∀ i, i < n → (I i).fits)  (w : World) (h : TextsAt w a n I) :
    Calls Try.prog 8 #[.agg #[.string s, .slice a n cap]] w fun e w' => e = .returned (.bool true) ∧ Below w.heap.size w w' := by
  have HL : Hid (TextsAt w a n I) := h
  have HF : Hid (∀ i, i < n → (I i).fits) := hfit
  have HN : Hid (s.size ≤ maxLen ∧ n ≤ maxLen) := ⟨hs, hn⟩
  have HX0 : Hid (Bx (w.alloc (.cells #[.string s, .slice a n cap] 44)) w.heap.size s (.slice a n cap)) := Bx.new _ _ _ _
  have HB0 : Hid (Below w.heap.size w (w.alloc (.cells #[.string s, .slice a n cap] 44))) := (Below.refl _ _).alloc (Nat.le_refl _) _
  have hm0 : n ≤ 1048576 → syncN s n I ≤ 1048576 := fun h => by have := syncN_le s n I; omega
  obtain ⟨S, hS⟩ : ∃ S, S = syncS s n I := ⟨_, rfl⟩
  obtain ⟨m, hm⟩ : ∃ m, m = syncN s n I := ⟨_, rfl⟩
  obtain ⟨J, hJ⟩ : ∃ J, J = I := ⟨_, rfl⟩
  have HS : Hid (∀ g W, s.size ≤ 1048576 → n ≤ 1048576 → (∀ i, i < n → (I i).small) → TextsAt W (some ⟨g, 0, none⟩) n I → Calls Try.prog 32 #[.agg #[.string s, .slice (some ⟨g, 0, none⟩) n n]] W fun e w' => ∃ a' c', e = .returned (.agg #[.string S, .slice a' m c']) ∧ OwnR w' a' m 1 (textF J) ∧ (∀ k, a'.map Addr.block = some k → W.heap.size ≤ k ∧ k < w'.heap.size) ∧ Below W.heap.size W w') := fun g W h1 h2 h3 h4 => by
    refine (spec_sync s _ n n I h1 h3 W h4 h2).mono ?_
    rintro e w' ⟨v, rfl, ho, hb⟩
    rw [← hS, ← hm] at *
    rw [← hJ] at ho
    obtain ⟨a', c', rfl, hO, hl⟩ := own_texts ho
    exact ⟨a', c', rfl, hO, hl, hb⟩
  have HI : Hid (∀ g W, s.size ≤ 1048576 → n ≤ 1048576 → (∀ i, i < n → (I i).small) → TextsAt W (some ⟨g, 0, none⟩) n I → Calls Try.prog 18 #[.agg #[.string s, .slice (some ⟨g, 0, none⟩) n n]] W fun e w' => ∃ a' c', e = .returned (.agg #[.string S, .slice a' m c']) ∧ OwnR w' a' m 1 (textF J) ∧ (∀ k, a'.map Addr.block = some k → W.heap.size ≤ k ∧ k < w'.heap.size) ∧ Below W.heap.size W w') := fun g W h1 h2 h3 h4 => by
    refine (impl_sync s _ n n I h1 h3 W h4 h2).mono ?_
    rintro e w' ⟨v, rfl, ho, hb⟩
    rw [← hS, ← hm] at *
    rw [← hJ] at ho
    obtain ⟨a', c', rfl, hO, hl⟩ := own_texts ho
    exact ⟨a', c', rfl, hO, hl, hb⟩
  rw [← hm] at hm0
  clear h hfit hn hs hS hm hJ
  go_enter Try.func8, Try.ntmps8
  go_wp2_with fail
  refine (sz_disk s a n cap I HN.out.1 HN.out.2 HF.out 1048576 (by omega) _ (HL.out.below HB0.out)).mono ?_
  rintro e w1 ⟨he, hb1⟩
  have HB1 : Hid (Below w.heap.size w w1) := HB0.out.trans (hb1.mono HB0.out.size)
  have HP1 : Hid (Bx w1 w.heap.size s (.slice a n cap)) := HX0.out.below hb1
  obtain ⟨c0, c1, clt⟩ := HP1.out
  clear hb1 HX0 HB0
  rcases he with rfl | ⟨r, rfl, hr, hsl, hnl, hsm⟩
  · have q' : decide ((-1 : Int) < 0) = true := rfl
    go_wp2_with fail
    go_ret
    exact ⟨rfl, HB1.out⟩
  have HM : Hid (∀ i, i < n → (I i).small) := hsm
  have hmm := hm0 hnl
  clear hsm hm0
  have q' : decide ((r : Int) < 0) = false := by simp
  go_wp2_with fail
  refine (to_disk s a n cap I hnl _ (HL.out.below HB1.out)).mono ?_
  rintro e w2 ⟨g, rfl, _, hO, hb2⟩
  have HB2 : Hid (Below w.heap.size w w2) := HB1.out.trans (hb2.mono HB1.out.size)
  have HP2 : Hid (Bx w2 w.heap.size s (.slice a n cap)) := HP1.out.below hb2
  have HO : Hid (Own w2 g n (textF I)) := hO
  clear hO hb2 c0 c1 clt HP1 HB1
  go_wp2_with fail
  refine (HS.out g _ hsl hnl HM.out HO.out.texts).mono ?_
  rintro e w3 ⟨sa, cs, rfl, hOs, hls, hb3⟩
  have HB3 : Hid (Below w.heap.size w w3) := HB2.out.trans (hb3.mono HB2.out.size)
  have HP3 : Hid (Bx w3 w.heap.size s (.slice a n cap)) := HP2.out.below hb3
  have HOs3 : Hid (OwnR w3 sa m 1 (textF J)) := hOs
  have HLs : Hid (∀ k, sa.map Addr.block = some k → w.heap.size < k ∧ k < w3.heap.size) := fun k e => ⟨Nat.lt_of_lt_of_le HP2.out.lt (hls k e).1, (hls k e).2⟩
  obtain ⟨c0, c1, clt⟩ := HP3.out
  have n0 : w3.heap.size ≠ w.heap.size := by omega
  have HL3 : Hid (Below w3.heap.size w3 (w3.alloc (.cells #[.string S, .slice sa m cs] 25))) := (Below.refl _ _).alloc (Nat.le_refl _) _
  clear hb3 HO hOs hls HP2 HB2
  go_wp2_with fail
  refine (to_disk s a n cap I hnl _ ((HL.out.below HB3.out).below HL3.out)).mono ?_
  rintro e w4 ⟨x, rfl, hx, hO, hb4⟩
  have hbt : Below w3.heap.size w3 w4 := HL3.out.trans (hb4.mono HL3.out.size)
  have HB4 : Hid (Below w.heap.size w w4) := HB3.out.trans (hbt.mono HB3.out.size)
  have HP4 : Hid (Bx w4 w.heap.size s (.slice a n cap)) := HP3.out.below hbt
  have HA4 : Hid (Bx w4 w3.heap.size S (.slice sa m cs)) := (Bx.new _ _ _ _).below hb4
  have HOs4 : Hid (OwnR w4 sa m 1 (textF J)) := HOs3.out.below hbt
  have HX4 : Hid (Own w4 x n (textF I)) := hO
  have hxb : w3.heap.size < x ∧ x < w4.heap.size := ⟨by simp at hx; omega, hO.1⟩
  have HPA : Hid (w.heap.size < w3.heap.size) := clt
  have n0 : w4.heap.size ≠ w.heap.size := by have := hbt.size; omega
  have HL4 : Hid (Below w4.heap.size w4 (w4.alloc (.cells #[.string s, .slice (some ⟨x, 0, none⟩) n n] 25))) := (Below.refl _ _).alloc (Nat.le_refl _) _
  clear hb4 hO hx hbt HL3 HP3 HB3 HOs3 c0 c1 clt
  go_wp2_with fail
  refine (HI.out x _ hsl hnl HM.out (HX4.out.below HL4.out).texts).mono ?_
  rintro e w5 ⟨ga, cg, rfl, hOg, hlg, hb5⟩
  have hbt : Below w4.heap.size w4 w5 := HL4.out.trans (hb5.mono HL4.out.size)
  have HB5 : Hid (Below w.heap.size w w5) := HB4.out.trans (hbt.mono HB4.out.size)
  have HP5 : Hid (Bx w5 w.heap.size s (.slice a n cap)) := HP4.out.below hbt
  have HA5 : Hid (Bx w5 w3.heap.size S (.slice sa m cs)) := HA4.out.below hbt
  have HOs5 : Hid (OwnR w5 sa m 1 (textF J)) := HOs4.out.below hbt
  have HX5 : Hid (Own w5 x n (textF I)) := HX4.out.below hbt
  have HY5 : Hid (Bx w5 w4.heap.size s (.slice (some ⟨x, 0, none⟩) n n)) := (Bx.new _ _ _ _).below hb5
  have HOg5 : Hid (OwnR w5 ga m 1 (textF J)) := hOg
  have HNG : Hid (∀ k, ga.map Addr.block = some k → w4.heap.size < k ∧ k < w5.heap.size) := fun k e => ⟨by have := (hlg k e).1; simp at this; omega, (hlg k e).2⟩
  obtain ⟨d0, d1, dlt⟩ := HA5.out
  have n1 : w5.heap.size ≠ w3.heap.size := by omega
  have hX5 : w4.heap.size < w5.heap.size := HY5.out.lt
  have HL5 : Hid (Below w5.heap.size w5 (w5.alloc (.cells #[.string S, .slice ga m cg] 25))) := (Below.refl _ _).alloc (Nat.le_refl _) _
  clear hb5 hOg hlg hbt HL4 HP4 HA4 HB4 HOs4 HX4 n0
  go_wp2_with fail
  refine (eq_disk S ga sa m cg cs J (by omega) _ (HOg5.out.texts.below HL5.out) (HOs5.out.texts.below HL5.out)).mono ?_
  rintro e w6 ⟨rfl, hb6⟩
  have hbt : Below w5.heap.size w5 w6 := HL5.out.trans (hb6.mono HL5.out.size)
  have HB6 : Hid (Below w.heap.size w w6) := HB5.out.trans (hbt.mono HB5.out.size)
  have HP6 : Hid (Bx w6 w.heap.size s (.slice a n cap)) := HP5.out.below hbt
  have HA6 : Hid (Bx w6 w3.heap.size S (.slice sa m cs)) := HA5.out.below hbt
  have HY6 : Hid (Bx w6 w4.heap.size s (.slice (some ⟨x, 0, none⟩) n n)) := HY5.out.below hbt
  have HG6 : Hid (Bx w6 w5.heap.size S (.slice ga m cg)) := (Bx.new _ _ _ _).below hb6
  have HOs6 : Hid (OwnR w6 sa m 1 (textF J)) := HOs5.out.below hbt
  have HOg6 : Hid (OwnR w6 ga m 1 (textF J)) := HOg5.out.below hbt
  have HX6 : Hid (Own w6 x n (textF I)) := HX5.out.below hbt
  have HAX : Hid (w3.heap.size < x ∧ x < w4.heap.size ∧ w4.heap.size < w5.heap.size) := ⟨hxb.1, hxb.2, hX5⟩
  clear hb6 hbt HL5 HP5 HA5 HY5 HB5 HOs5 HOg5 HX5 d0 d1 dlt n1 hxb hX5
  obtain ⟨PA, hPA⟩ : ∃ P, P = w3.heap.size := ⟨_, rfl⟩
  obtain ⟨PX, hPX⟩ : ∃ P, P = w4.heap.size := ⟨_, rfl⟩
  obtain ⟨PG, hPG⟩ : ∃ P, P = w5.heap.size := ⟨_, rfl⟩
  rw [← hPA] at HA6 HLs HAX HPA
  rw [← hPX] at HY6 HNG HAX
  rw [← hPG] at HG6 HNG HAX
  rw [← hPA, ← hPX, ← hPG]
  clear hPA hPX hPG
  obtain ⟨c0, c1, clt⟩ := HP6.out
  obtain ⟨d0, d1, dlt⟩ := HY6.out
  go_upto_region 10 with fail
  go_region_held3 (fun W => W.cell? ⟨w.heap.size, 0, none⟩ = some (.string s) ∧ W.cell? ⟨w.heap.size, 1, none⟩ = some (.slice a n cap) ∧ W.cell? ⟨PX, 0, none⟩ = some (.string s) ∧ W.cell? ⟨PX, 1, none⟩ = some (.slice (some ⟨x, 0, none⟩) n n)) (go_keep) (first | (go_at_call 26; refine (to_disk s a n cap I hnl _ (HL.out.below HB6.out.drew)).mono ?_; rintro e w7 ⟨y, rfl, hy, hO, hb7⟩; have e0 := (hb7.cell (p := ⟨w.heap.size, 0, none⟩) clt).trans c0; have e1 := (hb7.cell (p := ⟨w.heap.size, 1, none⟩) clt).trans c1; have f0 := (hb7.cell (p := ⟨PX, 0, none⟩) dlt).trans d0; have f1 := (hb7.cell (p := ⟨PX, 1, none⟩) dlt).trans d1; have hbu : Below w6.heap.size w6 w7 := (Below.refl _ w6).drew.trans hb7; have HX7 : Hid (Own w7 x n (textF I)) := HX6.out.below hbu; have HY7 : Hid (Own w7 y n (textF I)) := hO; clear hy hO) | (go_at_call 27; refine (eq_disk s _ _ n _ _ I hnl _ HX7.out.texts HY7.out.texts).mono ?_; rintro e w8 ⟨rfl, hb8⟩; have g0 := (hb8.cell (p := ⟨w.heap.size, 0, none⟩) (Nat.lt_of_lt_of_le clt hb7.size)).trans e0; have g1 := (hb8.cell (p := ⟨w.heap.size, 1, none⟩) (Nat.lt_of_lt_of_le clt hb7.size)).trans e1; have h0 := (hb8.cell (p := ⟨PX, 0, none⟩) (Nat.lt_of_lt_of_le dlt hb7.size)).trans f0; have h1 := (hb8.cell (p := ⟨PX, 1, none⟩) (Nat.lt_of_lt_of_le dlt hb7.size)).trans f1))
  have hbt : Below w6.heap.size w6 w8 := hbu.trans (hb8.mono hbu.size)
  have HB8 : Hid (Below w.heap.size w w8) := HB6.out.trans (hbt.mono HB6.out.size)
  have HP8 : Hid (Bx w8 w.heap.size s (.slice a n cap)) := HP6.out.below hbt
  have HA8 : Hid (Bx w8 PA S (.slice sa m cs)) := HA6.out.below hbt
  have HG8 : Hid (Bx w8 PG S (.slice ga m cg)) := HG6.out.below hbt
  have HOs8 : Hid (OwnR w8 sa m 1 (textF J)) := HOs6.out.below hbt
  have HOg8 : Hid (OwnR w8 ga m 1 (textF J)) := HOg6.out.below hbt
  have HX8 : Hid (Own w8 x n (textF I)) := HX6.out.below hbt
  clear hbt hbu hb7 hb8 c0 c1 d0 d1 clt dlt e0 e1 f0 f1 g0 g1 HX7 HY7 HP6 HA6 HY6 HG6 HOs6 HOg6 HX6 HB6
  go_wp2_with fail
  refine (mark_disk s (some ⟨x, 0, none⟩) n n (textF I) hnl 1 (by omega) (by omega) _ (Or.inr ⟨x, rfl, by rw [Nat.mul_one]; exact HX8.out⟩)).mono ?_
  rintro e w9 ⟨rfl, _, hg9⟩
  have ax := HAX.out
  have pa := HPA.out
  have hg9 : w8.grownBy w9 (some x) := hg9
  have HB9 : Hid (Below w.heap.size w w9) := HB8.out.grown hg9 HB8.out.size (fun k hk => by simp at hk; omega)
  have HP9 : Hid (Bx w9 w.heap.size s (.slice a n cap)) := HP8.out.grown hg9 (by simp; omega)
  have HA9 : Hid (Bx w9 PA S (.slice sa m cs)) := HA8.out.grown hg9 (by simp; omega)
  have HG9 : Hid (Bx w9 PG S (.slice ga m cg)) := HG8.out.grown hg9 (by simp; omega)
  have HOs9 : Hid (OwnR w9 sa m 1 (textF J)) := HOs8.out.grown hg9 (fun k e => by have := (HLs.out k e).2; simp; omega)
  have HOg9 : Hid (OwnR w9 ga m 1 (textF J)) := HOg8.out.grown hg9 (fun k e => by have := (HNG.out k e).1; simp; omega)
  obtain ⟨c0, c1, clt⟩ := HA9.out
  obtain ⟨d0, d1, dlt⟩ := HG9.out
  clear hg9 HP8 HA8 HG8 HOs8 HOg8 HX8 HB8 ax pa h0 h1
  have q9 : decide (((1 + n : Nat) : Int) < 0) = false := by simp; omega
  have q9' : decide ((1 : Int) + (n : Int) < 0) = false := by simp; omega
  go_wp2_with fail
  refine (eq_disk S ga sa m cg cs J (by omega) _ HOg9.out.texts HOs9.out.texts).mono ?_
  rintro e wa ⟨rfl, hba⟩
  have HBa : Hid (Below w.heap.size w wa) := HB9.out.trans (hba.mono HB9.out.size)
  have HPa : Hid (Bx wa w.heap.size s (.slice a n cap)) := HP9.out.below hba
  have HAa : Hid (Bx wa PA S (.slice sa m cs)) := HA9.out.below hba
  have HGa : Hid (Bx wa PG S (.slice ga m cg)) := HG9.out.below hba
  have HOsa : Hid (OwnR wa sa m 1 (textF J)) := HOs9.out.below hba
  have HOga : Hid (OwnR wa ga m 1 (textF J)) := HOg9.out.below hba
  clear hba HP9 HA9 HG9 HOs9 HOg9 HB9 c0 c1 clt d0 d1 dlt
  obtain ⟨d0, d1, dlt⟩ := HGa.out
  go_wp2_with fail
  refine (mark_disk S ga m cg (textF J) (by omega) 1 (by omega) (by omega) _ HOga.out).mono ?_
  rintro e wb ⟨rfl, hOb, hgb⟩
  have ax := HAX.out
  have pa := HPA.out
  have HBb : Hid (Below w.heap.size w wb) := HBa.out.grown hgb HBa.out.size (fun k hk => by have := (HNG.out k hk).1; omega)
  have HPb : Hid (Bx wb w.heap.size s (.slice a n cap)) := HPa.out.grown hgb (fun e => by have := (HNG.out _ e.symm).1; omega)
  have HAb : Hid (Bx wb PA S (.slice sa m cs)) := HAa.out.grown hgb (fun e => by have := (HNG.out _ e.symm).1; omega)
  have HGb : Hid (Bx wb PG S (.slice ga m cg)) := HGa.out.grown hgb (fun e => by have := (HNG.out _ e.symm).2; omega)
  have HOsb : Hid (OwnR wb sa m 1 (textF J)) := HOsa.out.grown hgb (fun k e e' => by have := (HLs.out k e).2; have := (HNG.out k e'.symm).1; omega)
  have HOgb : Hid (OwnR wb ga m 1 (mkT 1)) := hOb
  clear hgb hOb HPa HAa HGa HOsa HOga HBa d0 d1 dlt ax pa
  obtain ⟨d0, d1, dlt⟩ := HGb.out
  go_wp2_with fail
  refine (held_disk S ga m cg (by omega) 1 (by omega) (by omega) _ HOgb.out).mono ?_
  rintro e wc ⟨rfl, hbc⟩
  have HBc : Hid (Below w.heap.size w wc) := HBb.out.trans (hbc.mono HBb.out.size)
  have HPc : Hid (Bx wc w.heap.size s (.slice a n cap)) := HPb.out.below hbc
  have HAc : Hid (Bx wc PA S (.slice sa m cs)) := HAb.out.below hbc
  have HGc : Hid (Bx wc PG S (.slice ga m cg)) := HGb.out.below hbc
  have HOsc : Hid (OwnR wc sa m 1 (textF J)) := HOsb.out.below hbc
  have HOgc : Hid (OwnR wc ga m 1 (mkT 1)) := HOgb.out.below hbc
  clear hbc HPb HAb HGb HOsb HOgb HBb d0 d1 dlt
  have qc : decide (((1 + m : Nat) : Int) < 0) = false := by simp; omega
  have qc' : decide ((1 : Int) + (m : Int) < 0) = false := by simp; omega
  have qq : ∀ z : Int, (z != z) = false := fun z => by simp
  obtain ⟨c0, c1, clt⟩ := HPc.out
  go_wp2_with fail
  refine (to_disk s a n cap I hnl _ (HL.out.below HBc.out)).mono ?_
  rintro e wd ⟨h, rfl, _, hO', hbd⟩
  have HBd : Hid (Below w.heap.size w wd) := HBc.out.trans (hbd.mono HBc.out.size)
  have HAd : Hid (Bx wd PA S (.slice sa m cs)) := HAc.out.below hbd
  have HGd : Hid (Bx wd PG S (.slice ga m cg)) := HGc.out.below hbd
  have HOsd : Hid (OwnR wd sa m 1 (textF J)) := HOsc.out.below hbd
  have HOgd : Hid (OwnR wd ga m 1 (mkT 1)) := HOgc.out.below hbd
  have HOh : Hid (Own wd h n (textF I)) := hO'
  clear hbd hO' HPc HAc HGc HOsc HOgc HBc c0 c1 clt
  go_wp2_with fail
  refine (HI.out h _ hsl hnl HM.out HOh.out.texts).mono ?_
  rintro e we ⟨ah, ch, rfl, hOh, _, hbe⟩
  have HBe : Hid (Below w.heap.size w we) := HBd.out.trans (hbe.mono HBd.out.size)
  have HAe : Hid (Bx we PA S (.slice sa m cs)) := HAd.out.below hbe
  have HGe : Hid (Bx we PG S (.slice ga m cg)) := HGd.out.below hbe
  have HOse : Hid (OwnR we sa m 1 (textF J)) := HOsd.out.below hbe
  have HOge : Hid (OwnR we ga m 1 (mkT 1)) := HOgd.out.below hbe
  have HOhe : Hid (OwnR we ah m 1 (textF J)) := hOh
  obtain ⟨c0, c1, clt⟩ := HAe.out
  have n0 : we.heap.size ≠ PA := by omega
  have HLe : Hid (Below we.heap.size we (we.alloc (.cells #[.string S, .slice ah m ch] 25))) := (Below.refl _ _).alloc (Nat.le_refl _) _
  clear hbe hOh HAd HGd HOsd HOgd HOh HBd
  go_wp2_with fail
  refine (eq_disk S ah sa m ch cs J (by omega) _ (HOhe.out.texts.below HLe.out) (HOse.out.texts.below HLe.out)).mono ?_
  rintro e wf ⟨rfl, hbf⟩
  have hbt : Below we.heap.size we wf := HLe.out.trans (hbf.mono HLe.out.size)
  have HBf : Hid (Below w.heap.size w wf) := HBe.out.trans (hbt.mono HBe.out.size)
  have HGf : Hid (Bx wf PG S (.slice ga m cg)) := HGe.out.below hbt
  have HOgf : Hid (OwnR wf ga m 1 (mkT 1)) := HOge.out.below hbt
  clear hbf hbt HGe HAe HOge HOse HOhe HBe c0 c1 clt n0
  obtain ⟨d0, d1, dlt⟩ := HGf.out
  go_wp2_with fail
  refine (held_disk S ga m cg (by omega) 1 (by omega) (by omega) _ HOgf.out).mono ?_
  rintro e wg ⟨rfl, hbg⟩
  have HBg : Hid (Below w.heap.size w wg) := HBf.out.trans (hbg.mono HBf.out.size)
  clear hbg HOgf HGf d0 d1 dlt
  go_wp2_with fail
  go_ret
  exact ⟨rfl, HBg.out⟩
set_option maxRecDepth 100000 in
set_option maxHeartbeats 16000000 in
theorem law_cut (s : ByteArray) (hs : s.size ≤ maxLen) (a : Option Addr) (n cap : Nat) (I : Nat → Tx) (hn : n ≤ maxLen) (hfit : ∀ i, i < n → (I i).fits) (z : Int) (hzw : (Lit.int .i64 z).wf = true) (w : World) (h : TextsAt w a n I) :
    Calls Try.prog 10 #[.agg #[.string s, .slice a n cap], .int .i64 z] w fun e w' => e = .returned (.bool true) ∧ Below w.heap.size w w' := by
  have HL : Hid (TextsAt w a n I) := h
  have HF : Hid (∀ i, i < n → (I i).fits) := hfit
  have HN : Hid (s.size ≤ maxLen ∧ n ≤ maxLen) := ⟨hs, hn⟩
  have HX0 : Hid (Bx (w.alloc (.cells #[.string s, .slice a n cap] 44)) w.heap.size s (.slice a n cap)) := Bx.new _ _ _ _
  have HB0 : Hid (Below w.heap.size w (w.alloc (.cells #[.string s, .slice a n cap] 44))) := (Below.refl _ _).alloc (Nat.le_refl _) _
  have hm0 : n ≤ 1048576 → cutN s n I z ≤ 1048576 := fun h => by have := cutN_le s n I z; omega
  obtain ⟨S, hS⟩ : ∃ S, S = cutS s n I z := ⟨_, rfl⟩
  obtain ⟨m, hm⟩ : ∃ m, m = cutN s n I z := ⟨_, rfl⟩
  obtain ⟨J, hJ⟩ : ∃ J, J = I := ⟨_, rfl⟩
  have HS : Hid (∀ g W, s.size ≤ 1048576 → n ≤ 1048576 → (∀ i, i < n → (I i).small) → TextsAt W (some ⟨g, 0, none⟩) n I → Calls Try.prog 34 #[.agg #[.string s, .slice (some ⟨g, 0, none⟩) n n], .int .i64 z] W fun e w' => ∃ a' c', e = .returned (.agg #[.string S, .slice a' m c']) ∧ OwnR w' a' m 1 (textF J) ∧ (∀ k, a'.map Addr.block = some k → W.heap.size ≤ k ∧ k < w'.heap.size) ∧ Below W.heap.size W w') := fun g W h1 h2 h3 h4 => by
    refine (spec_cut s _ n n I z (i64_bd hzw) h1 h3 W h4 h2).mono ?_
    rintro e w' ⟨v, rfl, ho, hb⟩
    rw [← hS, ← hm] at *
    rw [← hJ] at ho
    obtain ⟨a', c', rfl, hO, hl⟩ := own_texts ho
    exact ⟨a', c', rfl, hO, hl, hb⟩
  have HI : Hid (∀ g W, s.size ≤ 1048576 → n ≤ 1048576 → (∀ i, i < n → (I i).small) → TextsAt W (some ⟨g, 0, none⟩) n I → Calls Try.prog 19 #[.agg #[.string s, .slice (some ⟨g, 0, none⟩) n n], .int .i64 z] W fun e w' => ∃ a' c', e = .returned (.agg #[.string S, .slice a' m c']) ∧ OwnR w' a' m 1 (textF J) ∧ (∀ k, a'.map Addr.block = some k → W.heap.size ≤ k ∧ k < w'.heap.size) ∧ Below W.heap.size W w') := fun g W h1 h2 h3 h4 => by
    refine (impl_cut s _ n n I z (i64_bd hzw) h1 h3 W h4 h2).mono ?_
    rintro e w' ⟨v, rfl, ho, hb⟩
    rw [← hS, ← hm] at *
    rw [← hJ] at ho
    obtain ⟨a', c', rfl, hO, hl⟩ := own_texts ho
    exact ⟨a', c', rfl, hO, hl, hb⟩
  rw [← hm] at hm0
  clear h hfit hn hs hS hm hJ
  go_enter Try.func10, Try.ntmps10
  go_wp2_with fail
  refine (sz_disk s a n cap I HN.out.1 HN.out.2 HF.out 1048576 (by omega) _ (HL.out.below HB0.out)).mono ?_
  rintro e w1 ⟨he, hb1⟩
  have HB1 : Hid (Below w.heap.size w w1) := HB0.out.trans (hb1.mono HB0.out.size)
  have HP1 : Hid (Bx w1 w.heap.size s (.slice a n cap)) := HX0.out.below hb1
  obtain ⟨c0, c1, clt⟩ := HP1.out
  clear hb1 HX0 HB0
  rcases he with rfl | ⟨r, rfl, hr, hsl, hnl, hsm⟩
  · have q' : decide ((-1 : Int) < 0) = true := rfl
    go_wp2_with fail
    go_ret
    exact ⟨rfl, HB1.out⟩
  have HM : Hid (∀ i, i < n → (I i).small) := hsm
  have hmm := hm0 hnl
  clear hsm hm0
  have q' : decide ((r : Int) < 0) = false := by simp
  go_wp2_with fail
  refine (to_disk s a n cap I hnl _ (HL.out.below HB1.out)).mono ?_
  rintro e w2 ⟨g, rfl, _, hO, hb2⟩
  have HB2 : Hid (Below w.heap.size w w2) := HB1.out.trans (hb2.mono HB1.out.size)
  have HP2 : Hid (Bx w2 w.heap.size s (.slice a n cap)) := HP1.out.below hb2
  have HO : Hid (Own w2 g n (textF I)) := hO
  clear hO hb2 c0 c1 clt HP1 HB1
  go_wp2_with fail
  refine (HS.out g _ hsl hnl HM.out HO.out.texts).mono ?_
  rintro e w3 ⟨sa, cs, rfl, hOs, hls, hb3⟩
  have HB3 : Hid (Below w.heap.size w w3) := HB2.out.trans (hb3.mono HB2.out.size)
  have HP3 : Hid (Bx w3 w.heap.size s (.slice a n cap)) := HP2.out.below hb3
  have HOs3 : Hid (OwnR w3 sa m 1 (textF J)) := hOs
  have HLs : Hid (∀ k, sa.map Addr.block = some k → w.heap.size < k ∧ k < w3.heap.size) := fun k e => ⟨Nat.lt_of_lt_of_le HP2.out.lt (hls k e).1, (hls k e).2⟩
  obtain ⟨c0, c1, clt⟩ := HP3.out
  have n0 : w3.heap.size ≠ w.heap.size := by omega
  have HL3 : Hid (Below w3.heap.size w3 (w3.alloc (.cells #[.string S, .slice sa m cs] 25))) := (Below.refl _ _).alloc (Nat.le_refl _) _
  clear hb3 HO hOs hls HP2 HB2
  go_wp2_with fail
  refine (to_disk s a n cap I hnl _ ((HL.out.below HB3.out).below HL3.out)).mono ?_
  rintro e w4 ⟨x, rfl, hx, hO, hb4⟩
  have hbt : Below w3.heap.size w3 w4 := HL3.out.trans (hb4.mono HL3.out.size)
  have HB4 : Hid (Below w.heap.size w w4) := HB3.out.trans (hbt.mono HB3.out.size)
  have HP4 : Hid (Bx w4 w.heap.size s (.slice a n cap)) := HP3.out.below hbt
  have HA4 : Hid (Bx w4 w3.heap.size S (.slice sa m cs)) := (Bx.new _ _ _ _).below hb4
  have HOs4 : Hid (OwnR w4 sa m 1 (textF J)) := HOs3.out.below hbt
  have HX4 : Hid (Own w4 x n (textF I)) := hO
  have hxb : w3.heap.size < x ∧ x < w4.heap.size := ⟨by simp at hx; omega, hO.1⟩
  have HPA : Hid (w.heap.size < w3.heap.size) := clt
  have n0 : w4.heap.size ≠ w.heap.size := by have := hbt.size; omega
  have HL4 : Hid (Below w4.heap.size w4 (w4.alloc (.cells #[.string s, .slice (some ⟨x, 0, none⟩) n n] 25))) := (Below.refl _ _).alloc (Nat.le_refl _) _
  clear hb4 hO hx hbt HL3 HP3 HB3 HOs3 c0 c1 clt
  go_wp2_with fail
  refine (HI.out x _ hsl hnl HM.out (HX4.out.below HL4.out).texts).mono ?_
  rintro e w5 ⟨ga, cg, rfl, hOg, hlg, hb5⟩
  have hbt : Below w4.heap.size w4 w5 := HL4.out.trans (hb5.mono HL4.out.size)
  have HB5 : Hid (Below w.heap.size w w5) := HB4.out.trans (hbt.mono HB4.out.size)
  have HP5 : Hid (Bx w5 w.heap.size s (.slice a n cap)) := HP4.out.below hbt
  have HA5 : Hid (Bx w5 w3.heap.size S (.slice sa m cs)) := HA4.out.below hbt
  have HOs5 : Hid (OwnR w5 sa m 1 (textF J)) := HOs4.out.below hbt
  have HX5 : Hid (Own w5 x n (textF I)) := HX4.out.below hbt
  have HY5 : Hid (Bx w5 w4.heap.size s (.slice (some ⟨x, 0, none⟩) n n)) := (Bx.new _ _ _ _).below hb5
  have HOg5 : Hid (OwnR w5 ga m 1 (textF J)) := hOg
  have HNG : Hid (∀ k, ga.map Addr.block = some k → w4.heap.size < k ∧ k < w5.heap.size) := fun k e => ⟨by have := (hlg k e).1; simp at this; omega, (hlg k e).2⟩
  obtain ⟨d0, d1, dlt⟩ := HA5.out
  have n1 : w5.heap.size ≠ w3.heap.size := by omega
  have hX5 : w4.heap.size < w5.heap.size := HY5.out.lt
  have HL5 : Hid (Below w5.heap.size w5 (w5.alloc (.cells #[.string S, .slice ga m cg] 25))) := (Below.refl _ _).alloc (Nat.le_refl _) _
  clear hb5 hOg hlg hbt HL4 HP4 HA4 HB4 HOs4 HX4 n0
  go_wp2_with fail
  refine (eq_disk S ga sa m cg cs J (by omega) _ (HOg5.out.texts.below HL5.out) (HOs5.out.texts.below HL5.out)).mono ?_
  rintro e w6 ⟨rfl, hb6⟩
  have hbt : Below w5.heap.size w5 w6 := HL5.out.trans (hb6.mono HL5.out.size)
  have HB6 : Hid (Below w.heap.size w w6) := HB5.out.trans (hbt.mono HB5.out.size)
  have HP6 : Hid (Bx w6 w.heap.size s (.slice a n cap)) := HP5.out.below hbt
  have HA6 : Hid (Bx w6 w3.heap.size S (.slice sa m cs)) := HA5.out.below hbt
  have HY6 : Hid (Bx w6 w4.heap.size s (.slice (some ⟨x, 0, none⟩) n n)) := HY5.out.below hbt
  have HG6 : Hid (Bx w6 w5.heap.size S (.slice ga m cg)) := (Bx.new _ _ _ _).below hb6
  have HOs6 : Hid (OwnR w6 sa m 1 (textF J)) := HOs5.out.below hbt
  have HOg6 : Hid (OwnR w6 ga m 1 (textF J)) := HOg5.out.below hbt
  have HX6 : Hid (Own w6 x n (textF I)) := HX5.out.below hbt
  have HAX : Hid (w3.heap.size < x ∧ x < w4.heap.size ∧ w4.heap.size < w5.heap.size) := ⟨hxb.1, hxb.2, hX5⟩
  clear hb6 hbt HL5 HP5 HA5 HY5 HB5 HOs5 HOg5 HX5 d0 d1 dlt n1 hxb hX5
  obtain ⟨PA, hPA⟩ : ∃ P, P = w3.heap.size := ⟨_, rfl⟩
  obtain ⟨PX, hPX⟩ : ∃ P, P = w4.heap.size := ⟨_, rfl⟩
  obtain ⟨PG, hPG⟩ : ∃ P, P = w5.heap.size := ⟨_, rfl⟩
  rw [← hPA] at HA6 HLs HAX HPA
  rw [← hPX] at HY6 HNG HAX
  rw [← hPG] at HG6 HNG HAX
  rw [← hPA, ← hPX, ← hPG]
  clear hPA hPX hPG
  obtain ⟨c0, c1, clt⟩ := HP6.out
  obtain ⟨d0, d1, dlt⟩ := HY6.out
  go_upto_region 10 with fail
  go_region_held3 (fun W => W.cell? ⟨w.heap.size, 0, none⟩ = some (.string s) ∧ W.cell? ⟨w.heap.size, 1, none⟩ = some (.slice a n cap) ∧ W.cell? ⟨PX, 0, none⟩ = some (.string s) ∧ W.cell? ⟨PX, 1, none⟩ = some (.slice (some ⟨x, 0, none⟩) n n)) (go_keep) (first | (go_at_call 26; refine (to_disk s a n cap I hnl _ (HL.out.below HB6.out.drew)).mono ?_; rintro e w7 ⟨y, rfl, hy, hO, hb7⟩; have e0 := (hb7.cell (p := ⟨w.heap.size, 0, none⟩) clt).trans c0; have e1 := (hb7.cell (p := ⟨w.heap.size, 1, none⟩) clt).trans c1; have f0 := (hb7.cell (p := ⟨PX, 0, none⟩) dlt).trans d0; have f1 := (hb7.cell (p := ⟨PX, 1, none⟩) dlt).trans d1; have hbu : Below w6.heap.size w6 w7 := (Below.refl _ w6).drew.trans hb7; have HX7 : Hid (Own w7 x n (textF I)) := HX6.out.below hbu; have HY7 : Hid (Own w7 y n (textF I)) := hO; clear hy hO) | (go_at_call 27; refine (eq_disk s _ _ n _ _ I hnl _ HX7.out.texts HY7.out.texts).mono ?_; rintro e w8 ⟨rfl, hb8⟩; have g0 := (hb8.cell (p := ⟨w.heap.size, 0, none⟩) (Nat.lt_of_lt_of_le clt hb7.size)).trans e0; have g1 := (hb8.cell (p := ⟨w.heap.size, 1, none⟩) (Nat.lt_of_lt_of_le clt hb7.size)).trans e1; have h0 := (hb8.cell (p := ⟨PX, 0, none⟩) (Nat.lt_of_lt_of_le dlt hb7.size)).trans f0; have h1 := (hb8.cell (p := ⟨PX, 1, none⟩) (Nat.lt_of_lt_of_le dlt hb7.size)).trans f1))
  have hbt : Below w6.heap.size w6 w8 := hbu.trans (hb8.mono hbu.size)
  have HB8 : Hid (Below w.heap.size w w8) := HB6.out.trans (hbt.mono HB6.out.size)
  have HP8 : Hid (Bx w8 w.heap.size s (.slice a n cap)) := HP6.out.below hbt
  have HA8 : Hid (Bx w8 PA S (.slice sa m cs)) := HA6.out.below hbt
  have HG8 : Hid (Bx w8 PG S (.slice ga m cg)) := HG6.out.below hbt
  have HOs8 : Hid (OwnR w8 sa m 1 (textF J)) := HOs6.out.below hbt
  have HOg8 : Hid (OwnR w8 ga m 1 (textF J)) := HOg6.out.below hbt
  have HX8 : Hid (Own w8 x n (textF I)) := HX6.out.below hbt
  clear hbt hbu hb7 hb8 c0 c1 d0 d1 clt dlt e0 e1 f0 f1 g0 g1 HX7 HY7 HP6 HA6 HY6 HG6 HOs6 HOg6 HX6 HB6
  go_wp2_with fail
  refine (mark_disk s (some ⟨x, 0, none⟩) n n (textF I) hnl 1 (by omega) (by omega) _ (Or.inr ⟨x, rfl, by rw [Nat.mul_one]; exact HX8.out⟩)).mono ?_
  rintro e w9 ⟨rfl, _, hg9⟩
  have ax := HAX.out
  have pa := HPA.out
  have hg9 : w8.grownBy w9 (some x) := hg9
  have HB9 : Hid (Below w.heap.size w w9) := HB8.out.grown hg9 HB8.out.size (fun k hk => by simp at hk; omega)
  have HP9 : Hid (Bx w9 w.heap.size s (.slice a n cap)) := HP8.out.grown hg9 (by simp; omega)
  have HA9 : Hid (Bx w9 PA S (.slice sa m cs)) := HA8.out.grown hg9 (by simp; omega)
  have HG9 : Hid (Bx w9 PG S (.slice ga m cg)) := HG8.out.grown hg9 (by simp; omega)
  have HOs9 : Hid (OwnR w9 sa m 1 (textF J)) := HOs8.out.grown hg9 (fun k e => by have := (HLs.out k e).2; simp; omega)
  have HOg9 : Hid (OwnR w9 ga m 1 (textF J)) := HOg8.out.grown hg9 (fun k e => by have := (HNG.out k e).1; simp; omega)
  obtain ⟨c0, c1, clt⟩ := HA9.out
  obtain ⟨d0, d1, dlt⟩ := HG9.out
  clear hg9 HP8 HA8 HG8 HOs8 HOg8 HX8 HB8 ax pa h0 h1
  have q9 : decide (((1 + n : Nat) : Int) < 0) = false := by simp; omega
  have q9' : decide ((1 : Int) + (n : Int) < 0) = false := by simp; omega
  go_wp2_with fail
  refine (eq_disk S ga sa m cg cs J (by omega) _ HOg9.out.texts HOs9.out.texts).mono ?_
  rintro e wa ⟨rfl, hba⟩
  have HBa : Hid (Below w.heap.size w wa) := HB9.out.trans (hba.mono HB9.out.size)
  have HPa : Hid (Bx wa w.heap.size s (.slice a n cap)) := HP9.out.below hba
  have HAa : Hid (Bx wa PA S (.slice sa m cs)) := HA9.out.below hba
  have HGa : Hid (Bx wa PG S (.slice ga m cg)) := HG9.out.below hba
  have HOsa : Hid (OwnR wa sa m 1 (textF J)) := HOs9.out.below hba
  have HOga : Hid (OwnR wa ga m 1 (textF J)) := HOg9.out.below hba
  clear hba HP9 HA9 HG9 HOs9 HOg9 HB9 c0 c1 clt d0 d1 dlt
  obtain ⟨d0, d1, dlt⟩ := HGa.out
  go_wp2_with fail
  refine (mark_disk S ga m cg (textF J) (by omega) 1 (by omega) (by omega) _ HOga.out).mono ?_
  rintro e wb ⟨rfl, hOb, hgb⟩
  have ax := HAX.out
  have pa := HPA.out
  have HBb : Hid (Below w.heap.size w wb) := HBa.out.grown hgb HBa.out.size (fun k hk => by have := (HNG.out k hk).1; omega)
  have HPb : Hid (Bx wb w.heap.size s (.slice a n cap)) := HPa.out.grown hgb (fun e => by have := (HNG.out _ e.symm).1; omega)
  have HAb : Hid (Bx wb PA S (.slice sa m cs)) := HAa.out.grown hgb (fun e => by have := (HNG.out _ e.symm).1; omega)
  have HGb : Hid (Bx wb PG S (.slice ga m cg)) := HGa.out.grown hgb (fun e => by have := (HNG.out _ e.symm).2; omega)
  have HOsb : Hid (OwnR wb sa m 1 (textF J)) := HOsa.out.grown hgb (fun k e e' => by have := (HLs.out k e).2; have := (HNG.out k e'.symm).1; omega)
  have HOgb : Hid (OwnR wb ga m 1 (mkT 1)) := hOb
  clear hgb hOb HPa HAa HGa HOsa HOga HBa d0 d1 dlt ax pa
  obtain ⟨d0, d1, dlt⟩ := HGb.out
  go_wp2_with fail
  refine (held_disk S ga m cg (by omega) 1 (by omega) (by omega) _ HOgb.out).mono ?_
  rintro e wc ⟨rfl, hbc⟩
  have HBc : Hid (Below w.heap.size w wc) := HBb.out.trans (hbc.mono HBb.out.size)
  have HPc : Hid (Bx wc w.heap.size s (.slice a n cap)) := HPb.out.below hbc
  have HAc : Hid (Bx wc PA S (.slice sa m cs)) := HAb.out.below hbc
  have HGc : Hid (Bx wc PG S (.slice ga m cg)) := HGb.out.below hbc
  have HOsc : Hid (OwnR wc sa m 1 (textF J)) := HOsb.out.below hbc
  have HOgc : Hid (OwnR wc ga m 1 (mkT 1)) := HOgb.out.below hbc
  clear hbc HPb HAb HGb HOsb HOgb HBb d0 d1 dlt
  have qc : decide (((1 + m : Nat) : Int) < 0) = false := by simp; omega
  have qc' : decide ((1 : Int) + (m : Int) < 0) = false := by simp; omega
  have qq : ∀ z : Int, (z != z) = false := fun z => by simp
  obtain ⟨c0, c1, clt⟩ := HPc.out
  go_wp2_with fail
  refine (to_disk s a n cap I hnl _ (HL.out.below HBc.out)).mono ?_
  rintro e wd ⟨h, rfl, _, hO', hbd⟩
  have HBd : Hid (Below w.heap.size w wd) := HBc.out.trans (hbd.mono HBc.out.size)
  have HAd : Hid (Bx wd PA S (.slice sa m cs)) := HAc.out.below hbd
  have HGd : Hid (Bx wd PG S (.slice ga m cg)) := HGc.out.below hbd
  have HOsd : Hid (OwnR wd sa m 1 (textF J)) := HOsc.out.below hbd
  have HOgd : Hid (OwnR wd ga m 1 (mkT 1)) := HOgc.out.below hbd
  have HOh : Hid (Own wd h n (textF I)) := hO'
  clear hbd hO' HPc HAc HGc HOsc HOgc HBc c0 c1 clt
  go_wp2_with fail
  refine (HI.out h _ hsl hnl HM.out HOh.out.texts).mono ?_
  rintro e we ⟨ah, ch, rfl, hOh, _, hbe⟩
  have HBe : Hid (Below w.heap.size w we) := HBd.out.trans (hbe.mono HBd.out.size)
  have HAe : Hid (Bx we PA S (.slice sa m cs)) := HAd.out.below hbe
  have HGe : Hid (Bx we PG S (.slice ga m cg)) := HGd.out.below hbe
  have HOse : Hid (OwnR we sa m 1 (textF J)) := HOsd.out.below hbe
  have HOge : Hid (OwnR we ga m 1 (mkT 1)) := HOgd.out.below hbe
  have HOhe : Hid (OwnR we ah m 1 (textF J)) := hOh
  obtain ⟨c0, c1, clt⟩ := HAe.out
  have n0 : we.heap.size ≠ PA := by omega
  have HLe : Hid (Below we.heap.size we (we.alloc (.cells #[.string S, .slice ah m ch] 25))) := (Below.refl _ _).alloc (Nat.le_refl _) _
  clear hbe hOh HAd HGd HOsd HOgd HOh HBd
  go_wp2_with fail
  refine (eq_disk S ah sa m ch cs J (by omega) _ (HOhe.out.texts.below HLe.out) (HOse.out.texts.below HLe.out)).mono ?_
  rintro e wf ⟨rfl, hbf⟩
  have hbt : Below we.heap.size we wf := HLe.out.trans (hbf.mono HLe.out.size)
  have HBf : Hid (Below w.heap.size w wf) := HBe.out.trans (hbt.mono HBe.out.size)
  have HGf : Hid (Bx wf PG S (.slice ga m cg)) := HGe.out.below hbt
  have HOgf : Hid (OwnR wf ga m 1 (mkT 1)) := HOge.out.below hbt
  clear hbf hbt HGe HAe HOge HOse HOhe HBe c0 c1 clt n0
  obtain ⟨d0, d1, dlt⟩ := HGf.out
  go_wp2_with fail
  refine (held_disk S ga m cg (by omega) 1 (by omega) (by omega) _ HOgf.out).mono ?_
  rintro e wg ⟨rfl, hbg⟩
  have HBg : Hid (Below w.heap.size w wg) := HBf.out.trans (hbg.mono HBf.out.size)
  clear hbg HOgf HGf d0 d1 dlt
  go_wp2_with fail
  go_ret
  exact ⟨rfl, HBg.out⟩
end Go.Proofs.Ytdbabdggefcpcaa
