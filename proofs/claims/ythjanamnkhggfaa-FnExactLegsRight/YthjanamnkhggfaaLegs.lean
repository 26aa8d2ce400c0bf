/- Lists of legs: their sizes, copies, comparison, marks: what the laws' helpers do. -/
import Derived.Test.YthjanamnkhggfaaRec
import Derived.Deep.RegionHeld3
import Derived.BigQuiet
import Derived.Deep.DeepCutAuto
import Derived.Deep.CutRange
namespace Go.Proofs.Ythjanamnkhggfaa
open Go.RowKit


structure Lg where
  fa : ByteArray
  fs : ByteArray
  ta : ByteArray
  ts : ByteArray
  m : Int
def Lg.fits (x : Lg) : Prop := x.fa.size ≤ maxLen ∧ x.fs.size ≤ maxLen ∧ x.ta.size ≤ maxLen ∧ x.ts.size ≤ maxLen
def Lg.small (x : Lg) : Prop := x.fa.size ≤ 1048576 ∧ x.fs.size ≤ 1048576 ∧ x.ta.size ≤ 1048576 ∧ x.ts.size ≤ 1048576
theorem Lg.small.fits {x : Lg} (h : x.small) : x.fits := by
  obtain ⟨h0, h1, h2, h3⟩ := h; unfold Lg.fits maxLen; omega
/-- n legs in memory. -/
def LegsAt (w : World) (a : Option Addr) (n : Nat) (L : Nat → Lg) : Prop := n = 0 ∨ ∃ g o, a = some ⟨g, o, none⟩ ∧ g < w.heap.size ∧ ∀ i, i < n → w.cell? ⟨g, o + i * 5, none⟩ = some (.string (L i).fa) ∧ w.cell? ⟨g, o + i * 5 + 1, none⟩ = some (.string (L i).fs) ∧ w.cell? ⟨g, o + i * 5 + 2, none⟩ = some (.string (L i).ta) ∧ w.cell? ⟨g, o + i * 5 + 3, none⟩ = some (.string (L i).ts) ∧ w.cell? ⟨g, o + i * 5 + 4, none⟩ = some (.int .i64 (L i).m)
theorem LegsAt.below {w w' : World} {a : Option Addr} {n : Nat} {L : Nat → Lg} (h : LegsAt w a n L) (hb : Below w.heap.size w w') : LegsAt w' a n L := by
  rcases h with h | ⟨g, o, rfl, hg, hc⟩
  · exact Or.inl h
  · refine Or.inr ⟨g, o, rfl, Nat.lt_of_lt_of_le hg hb.size, fun i hi => ?_⟩
    obtain ⟨c0, c1, c2, c3, c4⟩ := hc i hi
    exact ⟨(hb.cell (p := ⟨g, _, none⟩) hg).trans c0, (hb.cell (p := ⟨g, _, none⟩) hg).trans c1, (hb.cell (p := ⟨g, _, none⟩) hg).trans c2, (hb.cell (p := ⟨g, _, none⟩) hg).trans c3, (hb.cell (p := ⟨g, _, none⟩) hg).trans c4⟩
/-- The cells of legs by number. -/
def legF (L : Nat → Lg) (j : Nat) : Value := if j % 5 = 0 then .string (L (j / 5)).fa else if j % 5 = 1 then .string (L (j / 5)).fs else if j % 5 = 2 then .string (L (j / 5)).ta else if j % 5 = 3 then .string (L (j / 5)).ts else .int .i64 (L (j / 5)).m
theorem legF_at (L : Nat → Lg) (i : Nat) : legF L (i * 5) = .string (L i).fa ∧ legF L (i * 5 + 1) = .string (L i).fs ∧ legF L (i * 5 + 2) = .string (L i).ta ∧ legF L (i * 5 + 3) = .string (L i).ts ∧ legF L (i * 5 + 4) = .int .i64 (L i).m := by
  refine ⟨?_, ?_, ?_, ?_, ?_⟩
  · rw [legF, if_pos (by omega), show i * 5 / 5 = i by omega]
  · rw [legF, if_neg (by omega), if_pos (by omega), show (i * 5 + 1) / 5 = i by omega]
  · rw [legF, if_neg (by omega), if_neg (by omega), if_pos (by omega), show (i * 5 + 2) / 5 = i by omega]
  · rw [legF, if_neg (by omega), if_neg (by omega), if_neg (by omega), if_pos (by omega), show (i * 5 + 3) / 5 = i by omega]
  · rw [legF, if_neg (by omega), if_neg (by omega), if_neg (by omega), if_neg (by omega), show (i * 5 + 4) / 5 = i by omega]
theorem Own.legs {w : World} {g n : Nat} {L : Nat → Lg} (h : Own w g (n * 5) (legF L)) : LegsAt w (some ⟨g, 0, none⟩) n L := by
  refine Or.inr ⟨g, 0, rfl, h.1, fun i hi => ?_⟩
  obtain ⟨e0, e1, e2, e3, e4⟩ := legF_at L i
  rw [Nat.zero_add, ← e0, ← e1, ← e2, ← e3, ← e4]
  exact ⟨h.2.1 _ (by omega), h.2.1 _ (by omega), h.2.1 _ (by omega), h.2.1 _ (by omega), h.2.1 _ (by omega)⟩
/-- One leg more is written. -/
theorem five_step {w : World} {g n I : Nat} {F G : Nat → Value} (h : Own w g (n * 5) (fun j => if j < I * 5 then G j else F j)) (hI : I < n) {v0 v1 v2 v3 v4 : Value} (e0 : G (I * 5) = v0) (e1 : G (I * 5 + 1) = v1) (e2 : G (I * 5 + 2) = v2) (e3 : G (I * 5 + 3) = v3) (e4 : G (I * 5 + 4) = v4) :
    Own (((((w.setCell ⟨g, I * 5, none⟩ v0).setCell ⟨g, I * 5 + 1, none⟩ v1).setCell ⟨g, I * 5 + 2, none⟩ v2).setCell ⟨g, I * 5 + 3, none⟩ v3).setCell ⟨g, I * 5 + 4, none⟩ v4) g (n * 5) (fun j => if j < (I + 1) * 5 then G j else F j) := by
  refine (((((h.set (i := I * 5) (by omega) v0).set (i := I * 5 + 1) (by omega) v1).set (i := I * 5 + 2) (by omega) v2).set (i := I * 5 + 3) (by omega) v3).set (i := I * 5 + 4) (by omega) v4).congr fun j _ => ?_
  show (if j = I * 5 + 4 then v4 else if j = I * 5 + 3 then v3 else if j = I * 5 + 2 then v2 else if j = I * 5 + 1 then v1 else if j = I * 5 then v0 else if j < I * 5 then G j else F j) = if j < (I + 1) * 5 then G j else F j
  by_cases c4 : j = I * 5 + 4
  · rw [if_pos c4, if_pos (by omega), c4, e4]
  rw [if_neg c4]
  by_cases c3 : j = I * 5 + 3
  · rw [if_pos c3, if_pos (by omega), c3, e3]
  rw [if_neg c3]
  by_cases c2 : j = I * 5 + 2
  · rw [if_pos c2, if_pos (by omega), c2, e2]
  rw [if_neg c2]
  by_cases c1 : j = I * 5 + 1
  · rw [if_pos c1, if_pos (by omega), c1, e1]
  rw [if_neg c1]
  by_cases c0 : j = I * 5
  · rw [if_pos c0, if_pos (by omega), c0, e0]
  rw [if_neg c0]
  by_cases c : j < I * 5
  · rw [if_pos c, if_pos (by omega)]
  · rw [if_neg c, if_neg (by omega)]

set_option maxRecDepth 100000 in
set_option maxHeartbeats 4000000 in
theorem sz_leg (x0 x1 x2 x3 : ByteArray) (x4 : Int) (h0 : x0.size ≤ maxLen) (h1 : x1.size ≤ maxLen) (h2 : x2.size ≤ maxLen) (h3 : x3.size ≤ maxLen) (left : Nat) (hl : left ≤ 1048576) (w : World) :
    Calls Try.prog 31 #[.agg #[.string x0, .string x1, .string x2, .string x3, .int .i64 x4], .int .i64 (left : Int)] w fun e w' => (e = .returned (.int .i64 (-1)) ∨ ∃ r : Nat, e = .returned (.int .i64 (r : Int)) ∧ r ≤ left ∧ x0.size ≤ left ∧ x1.size ≤ left ∧ x2.size ≤ left ∧ x3.size ≤ left) ∧ Below w.heap.size w w' := by
  have H0 : Hid (x0.size ≤ maxLen ∧ x1.size ≤ maxLen ∧ x2.size ≤ maxLen ∧ x3.size ≤ maxLen) := ⟨h0, h1, h2, h3⟩
  clear h0 h1 h2 h3
  go_enter Try.func31, Try.ntmps31
  go_wp2_with fail
  refine (sz_spot x0 x1 H0.out.1 H0.out.2.1 left hl _).mono ?_
  rintro e w1 ⟨he, hb1⟩
  have HB1 : Hid (Below w.heap.size w w1) := ((Below.refl _ _).alloc (Nat.le_refl _) _).trans (hb1.mono (by simp))
  have cc : ∀ j, w1.cell? ⟨w.heap.size, j, none⟩ = (#[.string x0, .string x1, .string x2, .string x3, .int .i64 x4] : Array Value)[j]? := fun j => (hb1.cell (p := ⟨w.heap.size, j, none⟩) (by simp)).trans (cnew _ _ _ j)
  have c2 := cc 2
  have c3 := cc 3
  simp at c2 c3
  clear hb1 cc
  rcases he with ⟨rfl, _⟩ | ⟨rfl, hs1⟩
  · have q : decide ((-1 : Int) < 0) = true := rfl
    go_wp2_with fail
    go_ret
    exact ⟨Or.inl rfl, HB1.out⟩
  · obtain ⟨r, hr⟩ : ∃ r, r = left - (x0.size + x1.size) := ⟨_, rfl⟩
    rw [← hr]
    have HR : Hid (r + x0.size + x1.size = left) := (by omega : r + x0.size + x1.size = left)
    have hrl : r ≤ left := by omega
    clear hs1 hr
    have q : decide ((r : Int) < 0) = false := by simp
    go_wp2_with fail
    refine (sz_spot x2 x3 H0.out.2.2.1 H0.out.2.2.2 r (by omega) _).mono ?_
    rintro e w2 ⟨he, hb2⟩
    have HB2 : Hid (Below w.heap.size w w2) := HB1.out.trans (hb2.mono HB1.out.size)
    clear hb2 c2 c3
    rcases he with ⟨rfl, _⟩ | ⟨rfl, hs2⟩
    · have q' : decide ((-1 : Int) < 0) = true := rfl
      go_wp2_with fail
      go_ret
      exact ⟨Or.inl rfl, HB2.out⟩
    · obtain ⟨t, ht⟩ : ∃ t, t = r - (x2.size + x3.size) := ⟨_, rfl⟩
      rw [← ht]
      have HT : Hid (t + x2.size + x3.size = r) := (by omega : t + x2.size + x3.size = r)
      clear hs2 ht
      have q' : decide ((t : Int) < 0) = false := by simp
      go_wp2_with fail
      go_ret
      have := HR.out
      have := HT.out
      exact ⟨Or.inr ⟨t, rfl, by omega, by omega, by omega, by omega, by omega⟩, HB2.out⟩
set_option maxRecDepth 100000 in
set_option maxHeartbeats 4000000 in
theorem sz_legs (a : Option Addr) (n cap : Nat) (L : Nat → Lg) (hn : n ≤ maxLen) (hfit : ∀ i, i < n → (L i).fits) (left : Nat) (hl : left ≤ 1048576) (w : World) (h : LegsAt w a n L) :
    Calls Try.prog 11 #[.slice a n cap, .int .i64 (left : Int)] w fun e w' => (e = .returned (.int .i64 (-1)) ∨ ∃ r : Nat, e = .returned (.int .i64 (r : Int)) ∧ r ≤ left ∧ n ≤ left ∧ ∀ i, i < n → (L i).small) ∧ Below w.heap.size w w' := by
  have HL : Hid (LegsAt w a n L) := h
  have HF : Hid (∀ i, i < n → (L i).fits) := hfit
  clear h hfit
  have hn' : n ≤ 9223372036854775807 := by unfold maxLen at hn; omega
  clear hn
  by_cases hnl : n ≤ left
  · have q0 : decide ((left : Int) - (n : Int) < 0) = false := by simp; omega
    go_enter Try.func11, Try.ntmps11
    go_wp2_with fail
    go_loopw [1, 5] (fun x i wr => ∃ (k r : Nat), x = .int .i64 (r : Int) ∧ i = .int .i64 (k : Int) ∧ k ≤ n ∧ r ≤ left ∧ Hid (∀ j, j < k → (L j).small) ∧ Hid (Below w.heap.size w wr)) (fun _ i _ => n - (intOf i).toNat)
    case atStart => exact ⟨0, left - n, by go_num, rfl, by omega, by omega, fun j hj => by omega, Below.refl _ _⟩
    case round =>
      obtain ⟨k, r, rfl, rfl, hk, hr, HS, HB⟩ := hrel
      by_cases hkn : k < n
      · have p0 : decide (k < n) = true := by simpa using hkn
        have p1 : decide ((k : Int) < (n : Int)) = true := by simpa using hkn
        rcases HL.out.below HB.out with h0 | ⟨g, o, rfl, hg, hc⟩
        · omega
        obtain ⟨c0, c1, c2, c3, c4⟩ := hc k hkn
        obtain ⟨f0, f1, f2, f3⟩ := HF.out k hkn
        have HS' : Hid ((L k).small → ∀ j, j < k + 1 → (L j).small) := fun hsm j hj => by
          by_cases e : j = k
          · rw [e]; exact hsm
          · exact HS.out j (by omega)
        have HSm : Hid ((L k).fa.size ≤ left → (L k).fs.size ≤ left → (L k).ta.size ≤ left → (L k).ts.size ≤ left → (L k).small) := fun a b c d => ⟨by omega, by omega, by omega, by omega⟩
        have H1 := fun W => sz_leg (L k).fa (L k).fs (L k).ta (L k).ts (L k).m f0 f1 f2 f3 r (by omega) W
        have H1 : Hid (∀ W, _) := H1
        clear hc HS f0 f1 f2 f3
        generalize (L k).fa = x0 at *
        generalize (L k).fs = x1 at *
        generalize (L k).ta = x2 at *
        generalize (L k).ts = x3 at *
        generalize (L k).m = x4 at *
        go_wp2_with fail
        refine (H1.out _).mono ?_
        rintro e w1 ⟨he, hb1⟩
        have HB1 : Hid (Below w.heap.size w w1) := HB.out.trans (hb1.mono HB.out.size)
        clear hb1 c0 c1 c2 c3 c4 H1
        rcases he with rfl | ⟨t, rfl, ht, s0, s1, s2, s3⟩
        · have q' : decide ((-1 : Int) < 0) = true := rfl
          go_wp2_with fail
          go_ret
          exact ⟨Or.inl rfl, HB1.out⟩
        · have q' : decide ((t : Int) < 0) = false := by simp
          have HS2 : Hid (∀ j, j < k + 1 → (L j).small) := HS'.out (HSm.out (by omega) (by omega) (by omega) (by omega))
          clear HS' HSm s0 s1 s2 s3
          go_wp2_with fail
          go_roundw
          case rel => exact ⟨k + 1, t, rfl, by go_num, by omega, by omega, HS2, HB1⟩
          case measure => simp [intOf]; omega
      · have p0 : decide (k < n) = false := by simpa using hkn
        have p1 : decide ((k : Int) < (n : Int)) = false := by simpa using hkn
        obtain rfl : k = n := by omega
        go_wp2_with fail
        go_ret
        exact ⟨Or.inr ⟨r, rfl, hr, hnl, HS.out⟩, HB.out⟩
  · have q0 : decide ((left : Int) - (n : Int) < 0) = true := by simp; omega
    go_enter Try.func11, Try.ntmps11
    go_wp2_with fail
    go_ret
    exact ⟨Or.inl rfl, Below.refl _ _⟩
end Go.Proofs.Ythjanamnkhggfaa
