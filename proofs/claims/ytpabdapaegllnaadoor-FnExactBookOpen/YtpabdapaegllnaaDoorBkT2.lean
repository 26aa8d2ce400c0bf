/- A line opened in a right book, where it is opened: what the model's call does. -/
import Derived.Test.YtpabdapaegllnaaDoorBkT1
import Derived.Deep.RegionHeld3
import Derived.Deep.DeepCutAuto
import Derived.BigQuiet
namespace Go.Proofs.YtpabdapaegllnaaDoor
open Go.RowKit
open Go.Proofs.YtpabdapaegllnaaDoor.Draw

theorem row_first {w : World} {B e size N c l b d : Nat} {ad a : Option Addr} {xs : List Value} {z : ByteArray} (h : w.ownsRow B e size (.slice ad N c) N xs) (h0 : xs[0]? = some (.string z)) (hc : w.cell? ⟨l, 0, none⟩ = some (.slice a b d)) (k : Nat) (e' : ad.map Addr.block = some k) : k ≠ l := by
  rintro rfl
  have h1 := h.cells (g := k) (by rw [ownBlock_map]; exact e') 0 _ h0
  rw [add_off, hc] at h1
  simp at h1
theorem first_lines (L : Nat → Ln) (K : Nat) (x y : ByteArray) (xs : List Value) : ∃ z, (linesC L K ++ [.string x, .string y, .int .i64 0] ++ xs)[0]? = some (.string z) := by
  cases K with
  | zero => exact ⟨x, rfl⟩
  | succ K => exact ⟨(L 0).a, by rw [List.append_assoc, List.getElem?_append_left (by rw [linesC_len]; omega), linesC_at L (K + 1) 0 (by omega)]; rfl⟩

set_option maxRecDepth 100000 in
set_option maxHeartbeats 16000000 in
theorem spec_open_ok (g g' n m : Nat) (L : Nat → Ln) (I : Nat → Tx) (hn : n < 60) (hm : m ≤ 100) (x y : ByteArray) (k : Nat) (hk : IsPlace L x y n k) (hf : findB L x y n = none) (w : World) (h : LinesAt w (some ⟨g, 0, none⟩) n L) (h' : TextsAt w (some ⟨g', 0, none⟩) m I) :
    Calls Tryd.prog 47 #[.agg #[.slice (some ⟨g, 0, none⟩) n n, .slice (some ⟨g', 0, none⟩) m m], .agg #[.string x, .string y]] w (BkOut w (n + 1) m (insL L k x y) I 0 0) := by
  obtain ⟨i0, hi, hz0, hz1, hz2⟩ := info_parts infoLn
  obtain ⟨i1, hi', hz0', hz1', hz2'⟩ := info_parts infoTx
  have T0 := three_new w #[.slice (some ⟨g, 0, none⟩) n n, .slice (some ⟨g', 0, none⟩) m m] #[.string x, .string y] #[.slice none 0 0, .slice none 0 0, .int .i64 0, .int .i64 0] 26 38 31
  have HT0 : Hid (Three w (((w.alloc (.cells #[.slice (some ⟨g, 0, none⟩) n n, .slice (some ⟨g', 0, none⟩) m m] 26)).alloc (.cells #[.string x, .string y] 38)).alloc (.cells #[.slice none 0 0, .slice none 0 0, .int .i64 0, .int .i64 0] 31)) #[.slice (some ⟨g, 0, none⟩) n n, .slice (some ⟨g', 0, none⟩) m m] #[.string x, .string y] #[.slice none 0 0, .slice none 0 0, .int .i64 0, .int .i64 0]) := T0
  have s2 : w.heap.size ≤ w.heap.size + 1 + 1 := by omega
  have HFI := spec_find (some ⟨g, 0, none⟩) n n (.slice (some ⟨g', 0, none⟩) m m) L (by omega) x y (((w.alloc (.cells #[.slice (some ⟨g, 0, none⟩) n n, .slice (some ⟨g', 0, none⟩) m m] 26)).alloc (.cells #[.string x, .string y] 38)).alloc (.cells #[.slice none 0 0, .slice none 0 0, .int .i64 0, .int .i64 0] 31)) (h.below T0.bel)
  have hI : findI L x y n = -1 := by unfold findI; rw [hf]
  rw [hI] at HFI
  have HFI : Hid (Calls Tryd.prog 75 _ _ _) := HFI
  have HL : Hid (LinesAt w (some ⟨g, 0, none⟩) n L) := h
  have HI : Hid (TextsAt w (some ⟨g', 0, none⟩) m I) := h'
  have HK : Hid (IsPlace L x y n k) := hk
  have hkn : k ≤ n := hk.1
  have q0 : decide ((0 : Int) ≤ -1) = false := rfl
  have q1 : decide (60 ≤ n) = false := by simp; omega
  have q2 : decide ((60 : Int) ≤ (n : Int)) = false := by simp; omega
  clear hf hI h h' T0 hk
  go_enter Tryd.func47, Tryd.ntmps47
  go_wp2_with fail
  refine HFI.out.mono ?_
  rintro e w1 ⟨rfl, hb⟩
  have HT1 : Hid (Three w w1 #[.slice (some ⟨g, 0, none⟩) n n, .slice (some ⟨g', 0, none⟩) m m] #[.string x, .string y] #[.slice none 0 0, .slice none 0 0, .int .i64 0, .int .i64 0]) := HT0.out.next hb
  have b0 := HT1.out.box 0
  have b1 := HT1.out.box 1
  simp at b0 b1
  have hw1 : w.heap.size + 3 ≤ w1.heap.size := HT1.out.size
  have n0 : w.heap.size < w1.heap.size := by omega
  have HIa : Hid (TextsAt (w1.alloc (.cells #[] 9)) (some ⟨g', 0, none⟩) m I) := (HI.out.below HT1.out.bel).below ((Below.refl _ _).alloc (Nat.le_refl _) _)
  clear hb HT0 HFI
  go_wp2_with (at_builtin; refine wpList_append_own _ rfl (.tmp 17) (.tmp 19) 24 rfl w1.heap.size 9 i1 (.string ⟨#[]⟩) 1 16 Tryd.underlying24 hi' hz0' hz1' hz2' rfl (by decide) (.slice (some ⟨w1.heap.size, 0, none⟩) 0 0) 0 [] rfl (own_new0 rfl (Nat.le_refl _)) ⟨g', 0, none⟩ m m (textsC I m) rfl (textsC_len I m) ?c1 ?c2 ?c3 ?c4 ?c5 ?_)
  case c1 => exact news_texts HIa.out
  case c2 => exact ones_texts I m
  case c3 => unfold maxLen; omega
  case c4 => omega
  case c5 => simp
  intro v1 w2 hown1 hg1 _
  obtain ⟨b2, d2, rfl, _, hbk⟩ := own_texts hown1
  have hb2 : Below w1.heap.size w1 w2 := ((Below.refl _ _).alloc (Nat.le_refl _) _).grown hg1 (by simp) (fun k e => by simp [Value.ownBlock] at e; omega)
  have hal : Below w2.heap.size w2 (w2.alloc (.cells #[.slice none 0 0, .slice b2 m d2] 26)) := (Below.refl _ _).alloc (Nat.le_refl _) _
  have HT2 : Hid (Three w (w2.alloc (.cells #[.slice none 0 0, .slice b2 m d2] 26)) #[.slice (some ⟨g, 0, none⟩) n n, .slice (some ⟨g', 0, none⟩) m m] #[.string x, .string y] #[.slice none 0 0, .slice none 0 0, .int .i64 0, .int .i64 0]) := (HT1.out.next hb2).next hal
  have HX2 : Hid (Ox (w2.alloc (.cells #[.slice none 0 0, .slice b2 m d2] 26)) w2.heap.size (.slice none 0 0) (.slice b2 m d2)) := Ox.new _ _ _ _
  have HR2 : Hid ((w2.alloc (.cells #[.slice none 0 0, .slice b2 m d2] 26)).ownsRow (w.heap.size + 3) 9 1 (.slice b2 m d2) m (textsC I m)) := own_below (own_low (B := w1.heap.size) hw1 (by simpa using hown1)) hal
  have HN2 : Hid (∀ k, b2.map Addr.block = some k → k < w2.heap.size) := fun k e => (hbk k e).2
  have hw2 : w.heap.size + 3 ≤ w2.heap.size := by have := hb2.size; omega
  clear hown1 hg1 hb2 hal HT1 HIa b0 b1 hbk
  go_upto_region 6 with fail
  obtain ⟨X, hX⟩ : ∃ X, X = w2.heap.size := ⟨_, rfl⟩
  obtain ⟨W2, hW2⟩ : ∃ W, W = w2.alloc (.cells #[.slice none 0 0, .slice b2 m d2] 26) := ⟨_, rfl⟩
  rw [← hW2] at HT2 HX2 HR2 ⊢
  rw [← hX] at HX2 HN2 hw2 ⊢
  clear hX hW2
  go_wp2_with fail
  go_loopw [6] (fun v wr => ∃ K : Nat, v = .int .i64 (K : Int) ∧ K ≤ k ∧ Hid (Three w wr #[.slice (some ⟨g, 0, none⟩) n n, .slice (some ⟨g', 0, none⟩) m m] #[.string x, .string y] #[.slice none 0 0, .slice none 0 0, .int .i64 0, .int .i64 0]) ∧ Hid (Ox wr X (.slice none 0 0) (.slice b2 m d2)) ∧ Hid (wr.ownsRow (w.heap.size + 3) 9 1 (.slice b2 m d2) m (textsC I m))) (fun v _ => k - (intOf v).toNat)
  case atStart => exact ⟨0, rfl, by omega, HT2, HX2, HR2⟩
  case round =>
    clear HT2 HX2 HR2
    obtain ⟨K, rfl, hKk, HT, HX, HR⟩ := hrel
    have b0 := HT.out.box 0
    have p0 := HT.out.res 0
    have p1 := HT.out.res 1
    simp at b0 p0 p1
    have hsz := HT.out.size
    have m0 : wr.heap.size ≠ w.heap.size := by omega
    have m1 : wr.heap.size ≠ w.heap.size + 1 := by omega
    go_upto_region 7 with fail
    go_cut [36] (fun v wx => v = .bool (decide (K < k)) ∧ Hid (Three w wx #[.slice (some ⟨g, 0, none⟩) n n, .slice (some ⟨g', 0, none⟩) m m] #[.string x, .string y] #[.slice none 0 0, .slice none 0 0, .int .i64 0, .int .i64 0]) ∧ Hid (Ox wx X (.slice none 0 0) (.slice b2 m d2)) ∧ Hid (wx.ownsRow (w.heap.size + 3) 9 1 (.slice b2 m d2) m (textsC I m)))
    case first =>
      by_cases hKn : K < n
      · have r0 : decide (K < n) = true := by simpa using hKn
        have r1 : decide ((K : Int) < (n : Int)) = true := by simpa using hKn
        rcases HL.out with h0 | ⟨g1, o1, he, hg, hc⟩
        · omega
        simp at he
        obtain ⟨rfl, rfl⟩ := he
        obtain ⟨e0, e1, e2⟩ := hc K hKn
        have a0 := (HT.out.bel.cell (p := ⟨g, _, none⟩) hg).trans e0
        have a1 := (HT.out.bel.cell (p := ⟨g, _, none⟩) hg).trans e1
        simp only [Nat.zero_add] at a0 a1
        have hgl : g < wr.heap.size := by omega
        have HSL : Hid (∀ W, Calls Tryd.prog 45 #[.agg #[.string (L K).a, .string (L K).s], .agg #[.string x, .string y]] W fun e w' => e = .returned (.bool (lessP (L K).a (L K).s x y)) ∧ Below W.heap.size W w') := fun W => spec_less _ _ _ _ W
        have HLK : Hid (lessP (L K).a (L K).s x y = decide (K < k)) := by
          by_cases e : K < k
          · rw [decide_eq_true e]; exact HK.out.2.1 K e
          · rw [decide_eq_false e]; exact HK.out.2.2 K (by omega) hKn
        rw [HLK.out] at HSL
        clear hc e0 e1 e2 HLK
        generalize (L K).a = l0 at *
        generalize (L K).s = l1 at *
        go_region_held3 (fun W => W.cell? ⟨w.heap.size, 0, none⟩ = some (.slice (some ⟨g, 0, none⟩) n n) ∧ W.cell? ⟨g, K * 3, none⟩ = some (.string l0) ∧ W.cell? ⟨g, K * 3 + 1, none⟩ = some (.string l1) ∧ W.cell? ⟨w.heap.size + 1, 0, none⟩ = some (.string x) ∧ W.cell? ⟨w.heap.size + 1, 1, none⟩ = some (.string y)) (go_keep) (first | (go_at_call 45; refine (HSL.out _).mono ?_; rintro e wa ⟨rfl, hba⟩; have hz : Below wr.heap.size wr wa := (by first | exact hba | exact (Below.refl _ _).drew.trans hba); have Ta := HT.out.next hz; have f0 := Ta.box 0; have f1 := (hz.cell (p := ⟨g, K * 3, none⟩) hgl).trans a0; have f2 := (hz.cell (p := ⟨g, K * 3 + 1, none⟩) hgl).trans a1; have f3 := Ta.res 0; have f4 := Ta.res 1; simp at f0 f3 f4; have z0 := hz.size; have m0 : wa.heap.size ≠ w.heap.size := (by omega); have m1 : wa.heap.size ≠ w.heap.size + 1 := (by omega); have m2 : wa.heap.size ≠ g := (by omega)))
        all_goals go_wp2_with fail
        all_goals go_meet
        all_goals exact ⟨rfl, Ta, HX.out.below hz, own_below HR.out hz⟩
      · have r0 : decide (K < n) = false := by simpa using hKn
        have r1 : decide ((K : Int) < (n : Int)) = false := by simpa using hKn
        have r2 : decide (K < k) = false := by simp; omega
        have hd : ∀ d, Below wr.heap.size wr (wr.drewN d) := fun d => ⟨rfl, rfl, rfl, Nat.le_refl _, fun _ _ => rfl⟩
        have HDr : Hid (∀ d, Three w (wr.drewN d) #[.slice (some ⟨g, 0, none⟩) n n, .slice (some ⟨g', 0, none⟩) m m] #[.string x, .string y] #[.slice none 0 0, .slice none 0 0, .int .i64 0, .int .i64 0] ∧ Ox (wr.drewN d) X (.slice none 0 0) (.slice b2 m d2) ∧ (wr.drewN d).ownsRow (w.heap.size + 3) 9 1 (.slice b2 m d2) m (textsC I m)) := fun d => ⟨HT.out.next (hd d), HX.out.below (hd d), own_below HR.out (hd d)⟩
        go_quiet (fail)
        go_wp2_with fail
        go_meet
        exact ⟨by rw [r2], (HDr.out _).1, (HDr.out _).2.1, (HDr.out _).2.2⟩
    case rest =>
      obtain ⟨rfl, HTc, HXc, HRc⟩ := hcut
      clear HT HX HR b0 p0 p1 m0 m1 hsz
      by_cases hKk' : K < k
      · have r0 : decide (K < k) = true := decide_eq_true hKk'
        go_wp2_with fail
        go_roundw
        case rel => exact ⟨K + 1, by go_num, by omega, HTc, HXc, HRc⟩
        case measure => simp [intOf]; omega
      · obtain rfl : K = k := by omega
        have r0 : decide (K < K) = false := by simp
        go_upto_region 9 with fail
        have hXw : w.heap.size + 3 ≤ X := hw2
        have hnb : ∀ W W' : World, W.grownBy W' (some X) → W.ownsRow (w.heap.size + 3) 9 1 (.slice b2 m d2) m (textsC I m) → W'.ownsRow (w.heap.size + 3) 9 1 (.slice b2 m d2) m (textsC I m) := fun W W' hg h => h.kept hg (by
          rw [ownBlock_map]
          cases e : b2.map Addr.block with
          | none => exact Or.inl rfl
          | some j => exact Or.inr (by have := HN2.out j e; simp; omega))
        have HNB : Hid (∀ W W' : World, W.grownBy W' (some X) → W.ownsRow (w.heap.size + 3) 9 1 (.slice b2 m d2) m (textsC I m) → W'.ownsRow (w.heap.size + 3) 9 1 (.slice b2 m d2) m (textsC I m)) := hnb
        clear hnb
        go_cut [] (fun wx => ∃ a3 c3, Three w wx #[.slice (some ⟨g, 0, none⟩) n n, .slice (some ⟨g', 0, none⟩) m m] #[.string x, .string y] #[.slice none 0 0, .slice none 0 0, .int .i64 0, .int .i64 0] ∧ Ox wx X (.slice a3 K c3) (.slice b2 m d2) ∧ wx.ownsRow (w.heap.size + 3) 46 3 (.slice a3 K c3) K (linesC L K) ∧ wx.ownsRow (w.heap.size + 3) 9 1 (.slice b2 m d2) m (textsC I m) ∧ ∀ k, a3.map Addr.block = some k → k ≠ X)
        case first =>
          have mixed : Tryd.prog.follows Departure.mixedOrders = true := by kernel_rfl
          have hB3 : w.heap.size + 3 ≤ wc.heap.size := HTc.out.size
          have hdr : Below wc.heap.size wc wc.drew := (Below.refl _ _).drew
          have hL3 : LinesAt wc.drew (some ⟨g, 0, none⟩) n L := (HL.out.below HTc.out.bel).below hdr
          obtain ⟨v3, w3, hr3, hown3, hg3, hiff3⟩ := run_append_own (P := Tryd.prog) wc.drew (w.heap.size + 3) 23 23 46 i0 (.agg #[.string ⟨#[]⟩, .string ⟨#[]⟩, .int .i64 0]) 3 40 Tryd.underlying23 hi hz0 hz1 hz2 rfl (by decide) (.slice none 0 0) 0 [] (World.ownsRow_nil _ _ _ _) ⟨g, 0, none⟩ K n (linesC L K) (linesC_len L K) (news_lines (hL3.less hkn)) (ones_lines L K) (by unfold maxLen; omega) (by omega) hB3
          rw [Nat.zero_add, List.nil_append] at hown3
          obtain ⟨a3, c3, rfl⟩ := owns_slice hown3
          have hb3 : Below wc.heap.size wc w3 := hdr.trans ((Below.refl wc.heap.size wc.drew).grown hg3 (Nat.le_refl _) (fun k e => by simp [Value.ownBlock] at e))
          have X3 := HXc.out.below hb3
          have hX3 : ∀ k, a3.map Addr.block = some k → k ≠ X := by
            cases K with
            | zero => have := hiff3.2 ⟨rfl, rfl⟩; simp at this; rw [this.1]; intro k e; simp at e
            | succ K => exact fun k e => row_first hown3 (linesC_at L (K + 1) 0 (by omega)) X3.c0 k e
          obtain ⟨x30, x31, x3f, x3l⟩ := id X3
          have hXw : w.heap.size + 3 ≤ X := hw2
          have HT4 : Hid (Three w (w3.setCell ⟨X, 0, none⟩ (.slice a3 K c3)) #[.slice (some ⟨g, 0, none⟩) n n, .slice (some ⟨g', 0, none⟩) m m] #[.string x, .string y] #[.slice none 0 0, .slice none 0 0, .int .i64 0, .int .i64 0]) := (HTc.out.next hb3).low ((Below.refl _ _).setCell (by exact hXw) _)
          have HX4 : Hid (Ox (w3.setCell ⟨X, 0, none⟩ (.slice a3 K c3)) X (.slice a3 K c3) (.slice b2 m d2)) := X3.set0 _
          have HO4 : Hid ((w3.setCell ⟨X, 0, none⟩ (.slice a3 K c3)).ownsRow (w.heap.size + 3) 46 3 (.slice a3 K c3) K (linesC L K)) := hown3.kept (row := some X) (setGrown (World.grownBy.refl _ _)) (by
            rw [ownBlock_map]
            cases e : a3.map Addr.block with
            | none => exact Or.inl rfl
            | some j => exact Or.inr (by have := hX3 j e; simpa using this))
          have HR4 : Hid ((w3.setCell ⟨X, 0, none⟩ (.slice a3 K c3)).ownsRow (w.heap.size + 3) 9 1 (.slice b2 m d2) m (textsC I m)) := HNB.out _ _ (setGrown (World.grownBy.refl _ _)) (own_below HRc.out hb3)
          obtain ⟨x0, x1, xf, xl⟩ := HXc.out
          have b0 := HTc.out.box 0
          simp at b0
          have hKn0 : (0 : Int) ≤ (K : Int) := by omega
          have hKn1 : (K : Int) ≤ (n : Int) := by omega
          have HX3n : Hid (∀ k, a3.map Addr.block = some k → k ≠ X) := hX3
          clear hown3 hg3 hiff3 hb3 X3 hX3 HTc HXc HRc hL3 hdr
          go_region_law_o (refine step_appl rfl (.tmp 40) (.tmp 44) 23 rfl _ _ (by simp [Act.eval, Act.put]) (by simp [Act.eval, Act.put]) hr3 ?_)
          all_goals go_wp2_with fail
          all_goals go_meet
          all_goals exact ⟨a3, c3, HT4.out, HX4.out, HO4.out, HR4.out, HX3n.out⟩
        case rest =>
          obtain ⟨a3, c3, T4, X4, O4, R4, hXn⟩ := hcut
          have HXn : Hid (∀ k, a3.map Addr.block = some k → k ≠ X) := hXn
          clear hXn
          have HT4 : Hid (Three w wc #[.slice (some ⟨g, 0, none⟩) n n, .slice (some ⟨g', 0, none⟩) m m] #[.string x, .string y] #[.slice none 0 0, .slice none 0 0, .int .i64 0, .int .i64 0]) := T4
          have HX4 : Hid (Ox wc X (.slice a3 K c3) (.slice b2 m d2)) := X4
          have HO4 : Hid (wc.ownsRow (w.heap.size + 3) 46 3 (.slice a3 K c3) K (linesC L K)) := O4
          have HR4 : Hid (wc.ownsRow (w.heap.size + 3) 9 1 (.slice b2 m d2) m (textsC I m)) := R4
          have HA4 : Hid (∀ k, a3.map Addr.block = some k → k < wc.heap.size) := fun k e => (O4.lt k (by rw [ownBlock_map]; exact e)).2
          clear T4 X4 O4 R4
          obtain ⟨x0, x1, xf, xl⟩ := HX4.out
          have p0 := HT4.out.res 0
          have p1 := HT4.out.res 1
          simp at p0 p1
          have hB4 : w.heap.size + 3 ≤ wc.heap.size := HT4.out.size
          have hal4 : Below wc.heap.size wc (wc.alloc (.cells #[.string x, .string y, .int .i64 0] 46)) := (Below.refl _ _).alloc (Nat.le_refl _) _
          have HO5 : Hid ((wc.alloc (.cells #[.string x, .string y, .int .i64 0] 46)).ownsRow (w.heap.size + 3) 46 3 (.slice a3 K c3) K (linesC L K)) := own_below HO4.out hal4
          have HX5 : Hid (Ox (wc.alloc (.cells #[.string x, .string y, .int .i64 0] 46)) X (.slice a3 K c3) (.slice b2 m d2)) := HX4.out.below hal4
          have HT5 : Hid (Three w (wc.alloc (.cells #[.string x, .string y, .int .i64 0] 46)) #[.slice (some ⟨g, 0, none⟩) n n, .slice (some ⟨g', 0, none⟩) m m] #[.string x, .string y] #[.slice none 0 0, .slice none 0 0, .int .i64 0, .int .i64 0]) := HT4.out.next hal4
          have HR5 : Hid ((wc.alloc (.cells #[.string x, .string y, .int .i64 0] 46)).ownsRow (w.heap.size + 3) 9 1 (.slice b2 m d2) m (textsC I m)) := own_below HR4.out hal4
          have hnew : ∀ (j : Nat) (u : Value), ([.string x, .string y, .int .i64 0] : List Value)[j]? = some u → (wc.alloc (.cells #[.string x, .string y, .int .i64 0] 46)).cell? ((⟨wc.heap.size, 0, none⟩ : Addr).add j) = some u := fun j u hj => by rw [add_off, cnew' rfl, Nat.zero_add, ← Array.getElem?_toList]; exact hj
          have HNW : Hid (∀ (j : Nat) (u : Value), ([.string x, .string y, .int .i64 0] : List Value)[j]? = some u → (wc.alloc (.cells #[.string x, .string y, .int .i64 0] 46)).cell? ((⟨wc.heap.size, 0, none⟩ : Addr).add j) = some u) := hnew
          clear hal4 hnew HT4 HX4 HO4 HR4
          go_wp2_with (at_builtin; refine wpList_append_own _ rfl (.tmp 48) (.tmp 51) 23 rfl (w.heap.size + 3) 46 i0 (.agg #[.string ⟨#[]⟩, .string ⟨#[]⟩, .int .i64 0]) 3 40 Tryd.underlying23 hi hz0 hz1 hz2 rfl (by decide) (.slice a3 K c3) K (linesC L K) rfl HO5.out ⟨wc.heap.size, 0, none⟩ 1 1 [.string x, .string y, .int .i64 0] rfl rfl ?f1 ?f2 ?f3 ?f4 ?f5 ?_)
          case f1 => exact HNW.out
          case f2 => intro u hu; simp at hu; rcases hu with rfl | rfl | rfl <;> rfl
          case f3 => unfold maxLen; omega
          case f4 => omega
          case f5 => simp; omega
          intro v6 w6 hown6 hg6 _
          obtain ⟨a6, c6, rfl⟩ := owns_slice hown6
          rw [ownBlock_map] at hg6
          have X6 := HX5.out.grown hg6 (fun e => HXn.out X e.symm rfl)
          have hne6 : ∀ k, a6.map Addr.block = some k → k ≠ X := fun k e => by
            obtain ⟨z, hz⟩ := first_lines L K x y []
            rw [List.append_nil] at hz
            exact row_first hown6 hz X6.c0 k e
          have hlow : Below (w.heap.size + 3) (wc.alloc (.cells #[.string x, .string y, .int .i64 0] 46)) w6 := (Below.refl _ _).grown hg6 (by simp; omega) (fun k e => (HO5.out.lt k (by rw [ownBlock_map]; exact e)).1)
          have HT7 : Hid (Three w (w6.setCell ⟨X, 0, none⟩ (.slice a6 (K + 1) c6)) #[.slice (some ⟨g, 0, none⟩) n n, .slice (some ⟨g', 0, none⟩) m m] #[.string x, .string y] #[.slice none 0 0, .slice none 0 0, .int .i64 0, .int .i64 0]) := HT5.out.low (hlow.setCell (by exact hXw) _)
          have HX7 : Hid (Ox (w6.setCell ⟨X, 0, none⟩ (.slice a6 (K + 1) c6)) X (.slice a6 (K + 1) c6) (.slice b2 m d2)) := X6.set0 _
          have HO7 : Hid ((w6.setCell ⟨X, 0, none⟩ (.slice a6 (K + 1) c6)).ownsRow (w.heap.size + 3) 46 3 (.slice a6 (K + 1) c6) (K + 1) (linesC L K ++ [.string x, .string y, .int .i64 0])) := hown6.kept (row := some X) (setGrown (World.grownBy.refl _ _)) (by
            rw [ownBlock_map]
            cases e : a6.map Addr.block with
            | none => exact Or.inl rfl
            | some j => exact Or.inr (by have := hne6 j e; simpa using this))
          have HR7 : Hid ((w6.setCell ⟨X, 0, none⟩ (.slice a6 (K + 1) c6)).ownsRow (w.heap.size + 3) 9 1 (.slice b2 m d2) m (textsC I m)) := HNB.out _ _ (setGrown (World.grownBy.refl _ _)) (HR5.out.kept hg6 (by
            rw [ownBlock_map]
            cases e : b2.map Addr.block with
            | none => exact Or.inl rfl
            | some j => exact Or.inr (fun e' => rows_apart HO5.out HR5.out j e'.symm e)))
          have HN7 : Hid (∀ k, a6.map Addr.block = some k → k ≠ X) := hne6
          obtain ⟨x60, x61, x6f, x6l⟩ := id X6
          clear hown6 hg6 X6 hne6 hlow HT5 HX5 HO5 HR5 HXn HA4 HNW x0 x1 xf xl p0 p1 hB4
          go_upto_region 11 with fail
          obtain ⟨W7, hW7⟩ : ∃ W, W = w6.setCell ⟨X, 0, none⟩ (.slice a6 (K + 1) c6) := ⟨_, rfl⟩
          rw [← hW7] at HT7 HX7 HO7 HR7 ⊢
          clear hW7 x60 x61 x6f x6l
          go_cut [] (fun wx => ∃ a3 c3, Three w wx #[.slice (some ⟨g, 0, none⟩) n n, .slice (some ⟨g', 0, none⟩) m m] #[.string x, .string y] #[.slice none 0 0, .slice none 0 0, .int .i64 0, .int .i64 0] ∧ Ox wx X (.slice a3 (n + 1) c3) (.slice b2 m d2) ∧ wx.ownsRow (w.heap.size + 3) 46 3 (.slice a3 (n + 1) c3) (n + 1) (linesC (insL L K x y) (n + 1)) ∧ wx.ownsRow (w.heap.size + 3) 9 1 (.slice b2 m d2) m (textsC I m))
          case first =>
            have mixed : Tryd.prog.follows Departure.mixedOrders = true := by kernel_rfl
            have hB3 : w.heap.size + 3 ≤ W7.heap.size := HT7.out.size
            have hdr : Below W7.heap.size W7 W7.drew := (Below.refl _ _).drew
            have hL3 : LinesAt W7.drew (some ⟨g, 0, none⟩) n L := (HL.out.below HT7.out.bel).below hdr
            obtain ⟨o7, ho7⟩ : ∃ o7, o7 = if n = K then 0 else K * 3 := ⟨_, rfl⟩
            have hnews : ∀ j u, ((linesC L n).drop (K * 3))[j]? = some u → W7.drew.cell? ((⟨g, o7, none⟩ : Addr).add j) = some u := fun j u hj => by
              have hlt : K * 3 + j < n * 3 := by
                rw [List.getElem?_drop] at hj
                have := (List.getElem?_eq_some_iff.1 hj).1
                rwa [linesC_len] at this
              rw [List.getElem?_drop] at hj
              have := news_lines hL3 (K * 3 + j) u hj
              rw [add_off, Nat.zero_add] at this
              rw [add_off, ho7, if_neg (by omega)]
              exact this
            obtain ⟨v8, w8, hr8, hown8, hg8, _⟩ := run_append_own (P := Tryd.prog) W7.drew (w.heap.size + 3) 23 23 46 i0 (.agg #[.string ⟨#[]⟩, .string ⟨#[]⟩, .int .i64 0]) 3 40 Tryd.underlying23 hi hz0 hz1 hz2 rfl (by decide) (.slice a6 (K + 1) c6) (K + 1) _ (own_below HO7.out hdr) ⟨g, o7, none⟩ (n - K) (n - K) ((linesC L n).drop (K * 3)) (by rw [List.length_drop, linesC_len]; omega) hnews (ones_drop L n _) (by unfold maxLen; omega) (by omega) hB3
            rw [ownBlock_map] at hg8
            obtain ⟨a9, c9, rfl⟩ := owns_slice hown8
            have h1n : K + 1 + (n - K) = n + 1 := by omega
            rw [h1n] at hr8 hown8
            have X8 := (HX7.out.below hdr).grown hg8 (fun e => HN7.out X e.symm rfl)
            have hne8 : ∀ k, a9.map Addr.block = some k → k ≠ X := fun k e => by
              obtain ⟨z, hz⟩ := first_lines L K x y ((linesC L n).drop (K * 3))
              exact row_first hown8 hz X8.c0 k e
            have hlow : Below (w.heap.size + 3) W7 w8 := (hdr.mono hB3).grown hg8 (by simpa using hB3) (fun k e => (HO7.out.lt k (by rw [ownBlock_map]; exact e)).1)
            have hins : linesC (insL L K x y) (n + 1) = linesC L K ++ [.string x, .string y, .int .i64 0] ++ (linesC L n).drop (K * 3) := by rw [ins_lines L K x y n hkn, take_lines L K n hkn]
            have HT8 : Hid (Three w (w8.setCell ⟨X, 0, none⟩ (.slice a9 (n + 1) c9)) #[.slice (some ⟨g, 0, none⟩) n n, .slice (some ⟨g', 0, none⟩) m m] #[.string x, .string y] #[.slice none 0 0, .slice none 0 0, .int .i64 0, .int .i64 0]) := HT7.out.low (hlow.setCell (by exact hXw) _)
            have HX8 : Hid (Ox (w8.setCell ⟨X, 0, none⟩ (.slice a9 (n + 1) c9)) X (.slice a9 (n + 1) c9) (.slice b2 m d2)) := X8.set0 _
            have HO8 : Hid ((w8.setCell ⟨X, 0, none⟩ (.slice a9 (n + 1) c9)).ownsRow (w.heap.size + 3) 46 3 (.slice a9 (n + 1) c9) (n + 1) (linesC (insL L K x y) (n + 1))) := by
              rw [hins]
              exact hown8.kept (row := some X) (setGrown (World.grownBy.refl _ _)) (by
                rw [ownBlock_map]
                cases e : a9.map Addr.block with
                | none => exact Or.inl rfl
                | some j => exact Or.inr (by have := hne8 j e; simpa using this))
            have HR8 : Hid ((w8.setCell ⟨X, 0, none⟩ (.slice a9 (n + 1) c9)).ownsRow (w.heap.size + 3) 9 1 (.slice b2 m d2) m (textsC I m)) := HNB.out _ _ (setGrown (World.grownBy.refl _ _)) ((own_below HR7.out hdr).kept hg8 (by
              rw [ownBlock_map]
              cases e : b2.map Addr.block with
              | none => exact Or.inl rfl
              | some j => exact Or.inr (fun e' => rows_apart HO7.out HR7.out j e'.symm e)))
            obtain ⟨x80, x81, x8f, x8l⟩ := id X8
            obtain ⟨x0, x1, xf, xl⟩ := HX7.out
            have b0 := HT7.out.box 0
            simp at b0
            have hKn0 : (0 : Int) ≤ (K : Int) := by omega
            have hKn1 : (K : Int) ≤ (n : Int) := by omega
            clear hown8 hg8 X8 hne8 hlow hins hnews hL3 hdr hB3 HT7 HX7 HO7 HR7 HN7
            by_cases hnK : n = K
            · rw [if_pos hnK] at ho7
              subst ho7
              subst hnK
              have hz0K : n - n = 0 := by omega
              rw [hz0K] at hr8
              go_region_law_o (refine step_appl rfl (.tmp 55) (.tmp 59) 23 rfl _ _ (by simp [Act.eval, Act.put]) (by simp [Act.eval, Act.put]) hr8 ?_)
              all_goals go_wp2_with fail
              all_goals go_meet
              all_goals exact ⟨a9, c9, HT8.out, HX8.out, HO8.out, HR8.out⟩
            · rw [if_neg hnK] at ho7
              subst ho7
              have hnK' : ¬ K = n := fun e => hnK e.symm
              go_region_law_o (refine step_appl rfl (.tmp 55) (.tmp 59) 23 rfl _ _ (by simp [Act.eval, Act.put]) (by simp [Act.eval, Act.put]) hr8 ?_)
              all_goals go_wp2_with fail
              all_goals go_meet
              all_goals exact ⟨a9, c9, HT8.out, HX8.out, HO8.out, HR8.out⟩
          case rest =>
            obtain ⟨a9, c9, T9, X9, O9, R9⟩ := hcut
            have HO9 : Hid (wc.ownsRow (w.heap.size + 3) 46 3 (.slice a9 (n + 1) c9) (n + 1) (linesC (insL L K x y) (n + 1))) := O9
            have HR9 : Hid (wc.ownsRow (w.heap.size + 3) 9 1 (.slice b2 m d2) m (textsC I m)) := R9
            have HB9 : Hid (Below w.heap.size w wc) := T9.bel
            obtain ⟨x0, x1, xf, xl⟩ := X9
            have o0 := T9.out 0
            have o1 := T9.out 1
            have o2 := T9.out 2
            have o3 := T9.out 3
            have of := T9.ofr
            simp at o0 o1 o2 o3
            have hB9 := T9.size
            clear O9 R9 T9 HT7 HX7 HO7 HR7 HN7
            go_wp2_with fail
            refine bodyPost_ret (v := .agg #[.slice a9 (n + 1) c9, .slice b2 m d2, .int .i64 0, .int .i64 0]) ?_ rfl ?_
            · simp [results, Tryd.results47, go_sem, o0, o1, o2, o3]
            · have l1 : ∀ j, a9.map Addr.block = some j → w.heap.size + 3 ≤ j ∧ j < wc.heap.size := fun j e => HO9.out.lt j (by rw [ownBlock_map]; exact e)
              have l2 : ∀ j, b2.map Addr.block = some j → w.heap.size + 3 ≤ j ∧ j < wc.heap.size := fun j e => HR9.out.lt j (by rw [ownBlock_map]; exact e)
              have q1 : ∀ j, a9.map Addr.block = some j → j ≠ w.heap.size + 1 + 1 := fun j e => by have := (l1 j e).1; omega
              have q2 : ∀ j, b2.map Addr.block = some j → j ≠ w.heap.size + 1 + 1 := fun j e => by have := (l2 j e).1; omega
              exact ⟨a9, c9, b2, d2, rfl, ((((own_linesR HO9.out).set4 q1).set4 q1).set4 q1).set4 q1, ((((own_textsR HR9.out).set4 q2).set4 q2).set4 q2).set4 q2, fun j e => by have := l1 j e; simp; omega, fun j e => by have := l2 j e; simp; omega, fun j e e' => rows_apart HO9.out HR9.out j e e', (((HB9.out.setCell s2 _).setCell s2 _).setCell s2 _).setCell s2 _⟩
end Go.Proofs.YtpabdapaegllnaaDoor
