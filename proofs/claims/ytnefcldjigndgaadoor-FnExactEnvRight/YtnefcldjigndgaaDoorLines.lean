/- Lists of lines and of texts: their sizes, copies and comparison: what the laws' helpers do. -/
import Derived.Test.YtnefcldjigndgaaDoorRec
import Derived.Deep.RegionHeld3
import Derived.BigQuiet
import Derived.Deep.DeepCutAuto
import Derived.Deep.CutRange
namespace Go.Proofs.YtnefcldjigndgaaDoor
open Go.RowKit
open Go.Proofs.YtnefcldjigndgaaDoor.Draw

structure Ln where
  a : ByteArray
  s : ByteArray
  m : Int
def Ln.fits (x : Ln) : Prop := x.a.size ≤ maxLen ∧ x.s.size ≤ maxLen
def Ln.small (x : Ln) : Prop := x.a.size ≤ 1048576 ∧ x.s.size ≤ 1048576
theorem Ln.small.fits {x : Ln} (h : x.small) : x.fits := by
  obtain ⟨h0, h1⟩ := h; unfold Ln.fits maxLen; omega
/-- n lines in memory. -/
def LinesAt (w : World) (a : Option Addr) (n : Nat) (L : Nat → Ln) : Prop := n = 0 ∨ ∃ g o, a = some ⟨g, o, none⟩ ∧ g < w.heap.size ∧ ∀ i, i < n → w.cell? ⟨g, o + i * 3, none⟩ = some (.string (L i).a) ∧ w.cell? ⟨g, o + i * 3 + 1, none⟩ = some (.string (L i).s) ∧ w.cell? ⟨g, o + i * 3 + 2, none⟩ = some (.int .i64 (L i).m)
theorem LinesAt.below {w w' : World} {a : Option Addr} {n : Nat} {L : Nat → Ln} (h : LinesAt w a n L) (hb : Below w.heap.size w w') : LinesAt w' a n L := by
  rcases h with h | ⟨g, o, rfl, hg, hc⟩
  · exact Or.inl h
  · refine Or.inr ⟨g, o, rfl, Nat.lt_of_lt_of_le hg hb.size, fun i hi => ?_⟩
    obtain ⟨c0, c1, c2⟩ := hc i hi
    exact ⟨(hb.cell (p := ⟨g, _, none⟩) hg).trans c0, (hb.cell (p := ⟨g, _, none⟩) hg).trans c1, (hb.cell (p := ⟨g, _, none⟩) hg).trans c2⟩
theorem LinesAt.grown {w w' : World} {a : Option Addr} {n : Nat} {row : Option Nat} {L : Nat → Ln} (h : LinesAt w a n L) (hg : w.grownBy w' row) (hne : ∀ k, a.map Addr.block = some k → some k ≠ row) : LinesAt w' a n L := by
  rcases h with h | ⟨g, o, rfl, hl, hc⟩
  · exact Or.inl h
  · have hb := hg.block g hl (hne g rfl)
    refine Or.inr ⟨g, o, rfl, Nat.lt_of_lt_of_le hl hg.size, fun i hi => ?_⟩
    obtain ⟨c0, c1, c2⟩ := hc i hi
    exact ⟨(World.cell?_of_block (a := ⟨g, _, none⟩) hb).trans c0, (World.cell?_of_block (a := ⟨g, _, none⟩) hb).trans c1, (World.cell?_of_block (a := ⟨g, _, none⟩) hb).trans c2⟩
/-- Their cells by number. -/
def lineF (L : Nat → Ln) (j : Nat) : Value := if j % 3 = 0 then .string (L (j / 3)).a else if j % 3 = 1 then .string (L (j / 3)).s else .int .i64 (L (j / 3)).m
theorem lineF_at (L : Nat → Ln) (i : Nat) : lineF L (i * 3) = .string (L i).a ∧ lineF L (i * 3 + 1) = .string (L i).s ∧ lineF L (i * 3 + 2) = .int .i64 (L i).m := by
  refine ⟨?_, ?_, ?_⟩
  · rw [lineF, if_pos (by omega), show (i * 3) / 3 = i by omega]
  · rw [lineF, if_neg (by omega), if_pos (by omega), show (i * 3 + 1) / 3 = i by omega]
  · rw [lineF, if_neg (by omega), if_neg (by omega), show (i * 3 + 2) / 3 = i by omega]
theorem Own.lines {w : World} {g n : Nat} {L : Nat → Ln} (h : Own w g (n * 3) (lineF L)) : LinesAt w (some ⟨g, 0, none⟩) n L := by
  refine Or.inr ⟨g, 0, rfl, h.1, fun i hi => ?_⟩
  obtain ⟨e0, e1, e2⟩ := lineF_at L i
  rw [Nat.zero_add, ← e0, ← e1, ← e2]
  exact ⟨h.2.1 _ (by omega), h.2.1 _ (by omega), h.2.1 _ (by omega)⟩
/-- One more is written. -/
theorem line_step {w : World} {g n I : Nat} {F G : Nat → Value} (h : Own w g (n * 3) (fun j => if j < I * 3 then G j else F j)) (hI : I < n) {v0 v1 v2 : Value} (e0 : G (I * 3) = v0) (e1 : G (I * 3 + 1) = v1) (e2 : G (I * 3 + 2) = v2) :
    Own (((w.setCell ⟨g, I * 3, none⟩ v0).setCell ⟨g, I * 3 + 1, none⟩ v1).setCell ⟨g, I * 3 + 2, none⟩ v2) g (n * 3) (fun j => if j < (I + 1) * 3 then G j else F j) := by
  refine (((h.set (i := I * 3) (by omega) v0).set (i := I * 3 + 1) (by omega) v1).set (i := I * 3 + 2) (by omega) v2).congr fun j _ => ?_
  show (if j = I * 3 + 2 then v2 else if j = I * 3 + 1 then v1 else if j = I * 3 then v0 else if j < I * 3 then G j else F j) = if j < (I + 1) * 3 then G j else F j
  by_cases c2 : j = I * 3 + 2
  · rw [if_pos c2, if_pos (by omega), c2, e2]
  rw [if_neg c2]
  by_cases c1 : j = I * 3 + 1
  · rw [if_pos c1, if_pos (by omega), c1, e1]
  rw [if_neg c1]
  by_cases c0 : j = I * 3
  · rw [if_pos c0, if_pos (by omega), c0, e0]
  rw [if_neg c0]
  by_cases c : j < I * 3
  · rw [if_pos c, if_pos (by omega)]
  · rw [if_neg c, if_neg (by omega)]
structure Tx where
  t : ByteArray
def Tx.fits (x : Tx) : Prop := x.t.size ≤ maxLen
def Tx.small (x : Tx) : Prop := x.t.size ≤ 1048576
theorem Tx.small.fits {x : Tx} (h : x.small) : x.fits := by
  have h0 : x.t.size ≤ 1048576 := h; unfold Tx.fits maxLen; omega
/-- n texts in memory. -/
def TextsAt (w : World) (a : Option Addr) (n : Nat) (L : Nat → Tx) : Prop := n = 0 ∨ ∃ g o, a = some ⟨g, o, none⟩ ∧ g < w.heap.size ∧ ∀ i, i < n → w.cell? ⟨g, o + i, none⟩ = some (.string (L i).t)
theorem TextsAt.below {w w' : World} {a : Option Addr} {n : Nat} {L : Nat → Tx} (h : TextsAt w a n L) (hb : Below w.heap.size w w') : TextsAt w' a n L := by
  rcases h with h | ⟨g, o, rfl, hg, hc⟩
  · exact Or.inl h
  · refine Or.inr ⟨g, o, rfl, Nat.lt_of_lt_of_le hg hb.size, fun i hi => ?_⟩
    have c0 := hc i hi
    exact (hb.cell (p := ⟨g, _, none⟩) hg).trans c0
theorem TextsAt.grown {w w' : World} {a : Option Addr} {n : Nat} {row : Option Nat} {L : Nat → Tx} (h : TextsAt w a n L) (hg : w.grownBy w' row) (hne : ∀ k, a.map Addr.block = some k → some k ≠ row) : TextsAt w' a n L := by
  rcases h with h | ⟨g, o, rfl, hl, hc⟩
  · exact Or.inl h
  · have hb := hg.block g hl (hne g rfl)
    refine Or.inr ⟨g, o, rfl, Nat.lt_of_lt_of_le hl hg.size, fun i hi => ?_⟩
    have c0 := hc i hi
    exact (World.cell?_of_block (a := ⟨g, _, none⟩) hb).trans c0
/-- Their cells by number. -/
def textF (L : Nat → Tx) (j : Nat) : Value := .string (L j).t
theorem textF_at (L : Nat → Tx) (i : Nat) : textF L (i) = .string (L i).t := by
  rw [textF]
theorem Own.texts {w : World} {g n : Nat} {L : Nat → Tx} (h : Own w g (n) (textF L)) : TextsAt w (some ⟨g, 0, none⟩) n L := by
  refine Or.inr ⟨g, 0, rfl, h.1, fun i hi => ?_⟩
  have e0 := textF_at L i
  rw [Nat.zero_add, ← e0]
  exact h.2.1 _ (by omega)
/-- One more is written. -/
theorem text_step {w : World} {g n I : Nat} {F G : Nat → Value} (h : Own w g (n) (fun j => if j < I then G j else F j)) (hI : I < n) {v0 : Value} (e0 : G (I) = v0) :
    Own (w.setCell ⟨g, I, none⟩ v0) g (n) (fun j => if j < (I + 1) then G j else F j) := by
  refine (h.set (i := I) (by omega) v0).congr fun j _ => ?_
  show (if j = I then v0 else if j < I then G j else F j) = if j < (I + 1) then G j else F j
  by_cases c0 : j = I
  · rw [if_pos c0, if_pos (by omega), c0, e0]
  rw [if_neg c0]
  by_cases c : j < I
  · rw [if_pos c, if_pos (by omega)]
  · rw [if_neg c, if_neg (by omega)]
set_option maxRecDepth 100000 in
set_option maxHeartbeats 4000000 in
theorem sz_texts (a : Option Addr) (n cap : Nat) (L : Nat → Tx) (hn : n ≤ maxLen) (hfit : ∀ i, i < n → (L i).fits) (left : Nat) (hl : left ≤ 1048576) (w : World) (h : TextsAt w a n L) :
    Calls Tryd.prog 33 #[.slice a n cap, .int .i64 (left : Int)] w fun e w' => (e = .returned (.int .i64 (-1)) ∨ ∃ r : Nat, e = .returned (.int .i64 (r : Int)) ∧ r ≤ left ∧ n ≤ left ∧ ∀ i, i < n → (L i).small) ∧ Below w.heap.size w w' := by
  have HL : Hid (TextsAt w a n L) := h
  have HF : Hid (∀ i, i < n → (L i).fits) := hfit
  clear h hfit
  have hn' : n ≤ 9223372036854775807 := by unfold maxLen at hn; omega
  clear hn
  by_cases hnl : n ≤ left
  · have q0 : decide ((left : Int) - (n : Int) < 0) = false := by simp; omega
    go_enter Tryd.func33, Tryd.ntmps33
    go_wp2_with fail
    go_loopw [1, 5] (fun x i wr => ∃ (k r : Nat), x = .int .i64 (r : Int) ∧ i = .int .i64 (k : Int) ∧ k ≤ n ∧ r ≤ left ∧ Hid (∀ j, j < k → (L j).small) ∧ Hid (Below w.heap.size w wr)) (fun _ i _ => n - (intOf i).toNat)
    case atStart => exact ⟨0, left - n, by go_num, rfl, by omega, by omega, fun j hj => by omega, Below.refl _ _⟩
    case round =>
      obtain ⟨k, r, rfl, rfl, hk, hr, HS, HB⟩ := hrel
      by_cases hkn : k < n
      · have p0 : decide (k < n) = true := by simpa using hkn
        have p1 : decide ((k : Int) < (n : Int)) = true := by simpa using hkn
        rcases HL.out.below HB.out with h0 | ⟨g, o, rfl, hg, hc⟩
        · omega
        have c0 := hc k hkn
        have f0 : (L k).t.size ≤ maxLen := HF.out k hkn
        have HS' : Hid ((L k).small → ∀ j, j < k + 1 → (L j).small) := fun hsm j hj => by
          by_cases e : j = k
          · rw [e]; exact hsm
          · exact HS.out j (by omega)
        have HSm : Hid ((L k).t.size ≤ left → (L k).small) := fun a => (by show (L k).t.size ≤ 1048576; omega)
        clear hc HS
        generalize (L k).t = x0 at *
        by_cases hx : x0.size ≤ r
        · have q' : decide ((r : Int) - (x0.size : Int) < 0) = false := by simp; omega
          have HS2 : Hid (∀ j, j < k + 1 → (L j).small) := HS'.out (HSm.out (by omega))
          clear HS' HSm
          unfold maxLen at f0
          go_wp2_with fail
          go_roundw
          case rel => exact ⟨k + 1, r - x0.size, by go_num, by go_num, by omega, by omega, HS2, HB⟩
          case measure => simp [intOf]; omega
        · have q' : decide ((r : Int) - (x0.size : Int) < 0) = true := by simp; omega
          unfold maxLen at f0
          go_wp2_with fail
          go_ret
          exact ⟨Or.inl rfl, HB.out⟩
      · have p0 : decide (k < n) = false := by simpa using hkn
        have p1 : decide ((k : Int) < (n : Int)) = false := by simpa using hkn
        obtain rfl : k = n := by omega
        go_wp2_with fail
        go_ret
        exact ⟨Or.inr ⟨r, rfl, hr, hnl, HS.out⟩, HB.out⟩
  · have q0 : decide ((left : Int) - (n : Int) < 0) = true := by simp; omega
    go_enter Tryd.func33, Tryd.ntmps33
    go_wp2_with fail
    go_ret
    exact ⟨Or.inl rfl, Below.refl _ _⟩
theorem infoText : (Tryd.prog.info? 9).map (fun i => (i.zero, i.size, i.bytes)) = some (some (.string ⟨#[]⟩), 1, 16) := by kernel_rfl
set_option maxRecDepth 100000 in
set_option maxHeartbeats 4000000 in
theorem to_texts (a : Option Addr) (n cap : Nat) (L : Nat → Tx) (hn : n ≤ 1048576) (w : World) (h : TextsAt w a n L) :
    Calls Tryd.prog 37 #[.slice a n cap] w fun e w' => ∃ g, e = .returned (.slice (some ⟨g, 0, none⟩) n n) ∧ w.heap.size ≤ g ∧ Own w' g (n) (textF L) ∧ Below w.heap.size w w' := by
  obtain ⟨i0, hi, hz0, hz1, hz2⟩ := info_parts infoText
  have HL : Hid (TextsAt w a n L) := h
  clear h
  go_enter Tryd.func37, Tryd.ntmps37
  go_wp2_with (refine wpList_make_full _ rfl (.tmp 6) (.tmp 6) 30 rfl w.heap.size 9 i0 (.string ⟨#[]⟩) 1 Tryd.underlying30 hi hz0 hz1 .i64 .i64 _ _ n rfl rfl rfl rfl (by rw [hz2]; omega) (by unfold maxLen; omega) (Nat.le_refl _) ?_)
  intro w1 hown hg1
  have HB1 : Hid (Below w.heap.size w w1) := (Below.refl _ _).grown hg1 (Nat.le_refl _) (fun k hk => by cases hk)
  obtain ⟨F0, hO⟩ := own_some hown
  rw [Nat.mul_one] at hO
  have HO : Hid (Own w1 w.heap.size (n) F0) := hO
  clear hO
  clear hg1 hown
  go_wp2_with fail
  go_loopw [4] (fun i wr => ∃ k : Nat, i = .int .i64 (k : Int) ∧ k ≤ n ∧ Hid (Own wr w.heap.size (n) (fun j => if j < k then textF L j else F0 j)) ∧ Hid (Below w.heap.size w wr)) (fun i _ => n - (intOf i).toNat)
  case atStart => exact ⟨0, rfl, by omega, HO.out.congr (fun j _ => by rw [if_neg (by omega)]), HB1⟩
  case round =>
    obtain ⟨k, rfl, hk, HOr, HB⟩ := hrel
    by_cases hkn : k < n
    · have p0 : decide (k < n) = true := by simpa using hkn
      have p1 : decide ((k : Int) < (n : Int)) = true := by simpa using hkn
      rcases HL.out with h0 | ⟨g, o, rfl, hg, hc⟩
      · omega
      have c0 := hc k hkn
      have d0 := (HB.out.cell (p := ⟨g, _, none⟩) hg).trans c0
      have HE : Hid (textF L (k) = .string (L k).t) := textF_at L k
      clear hc c0
      generalize (L k).t = x0 at *
      have HO2 : Hid (Own wr w.heap.size (n) (fun j => if j < k then textF L j else F0 j)) := HOr.out
      have HB2 : Hid (Below w.heap.size w wr) := HB.out
      have a0 := HO2.out.2.1 (k) (by omega)
      have hf := HO2.out.2.2
      simp only [show ¬ k < k by omega, if_false] at a0
      generalize F0 (k) = y0 at a0
      have HN := fun (_ : Unit) => text_step HO2.out hkn HE.out
      have HN : Hid (Unit → _) := HN
      skip
      go_wp2_with fail
      go_roundw
      case rel =>
        have s := Nat.le_refl w.heap.size
        exact ⟨k + 1, by go_num, by omega, HN.out (), (HB2.out.setCell s _)⟩
      case measure => simp [intOf]; omega
    · have p0 : decide (k < n) = false := by simpa using hkn
      have p1 : decide ((k : Int) < (n : Int)) = false := by simpa using hkn
      obtain rfl : k = n := by omega
      go_wp2_with fail
      go_ret
      exact ⟨w.heap.size, rfl, Nat.le_refl _, HOr.out.congr (fun j hj => by rw [if_pos hj]), HB.out⟩
set_option maxRecDepth 100000 in
set_option maxHeartbeats 4000000 in
theorem eq_texts (a a' : Option Addr) (n cap cap' : Nat) (L : Nat → Tx) (hn : n ≤ 1048576) (w : World) (h : TextsAt w a n L) (h' : TextsAt w a' n L) :
    Calls Tryd.prog 40 #[.slice a n cap, .slice a' n cap'] w fun e w' => e = .returned (.bool true) ∧ Below w.heap.size w w' := by
  have HR : Hid (TextsAt w a n L) := h
  have HR' : Hid (TextsAt w a' n L) := h'
  clear h h'
  have hnn : ((n : Int) != (n : Int)) = false := by simp
  have hxx : ∀ x : List UInt8, (x == x) = true := fun x => by simp
  go_enter Tryd.func40, Tryd.ntmps40
  go_wp2_with fail
  go_loopw [5] (fun i wr => ∃ k : Nat, i = .int .i64 k ∧ k ≤ n ∧ Below w.heap.size w wr) (fun i _ => n - (intOf i).toNat)
  case atStart => exact ⟨0, rfl, by omega, Below.refl _ _⟩
  case round =>
    obtain ⟨k, rfl, hk, hb⟩ := hrel
    have HB : Hid (Below w.heap.size w wr) := hb
    have hsr := hb.size
    clear hb
    by_cases hkn : k < n
    · have q0 : decide (k < n) = true := by simpa using hkn
      have q1 : decide ((k : Int) < (n : Int)) = true := by simpa using hkn
      rcases HR.out with h0 | ⟨g, o, rfl, hg, hc⟩
      · omega
      rcases HR'.out with h0 | ⟨g', o', rfl, hg', hc'⟩
      · omega
      have c0 := hc k hkn
      have d0 := hc' k hkn
      have a0 := (HB.out.cell (p := ⟨g, _, none⟩) hg).trans c0
      have b0 := (HB.out.cell (p := ⟨g', _, none⟩) hg').trans d0
      clear hc hc' c0 d0
      generalize (L k).t = x0 at *
      skip
      have hgr : g < wr.heap.size := by omega
      have hgr' : g' < wr.heap.size := by omega
      go_upto_region 6 with fail
      go_region_held3 (fun W => W.cell? ⟨g, o + k, none⟩ = some (.string x0) ∧ W.cell? ⟨g', o' + k, none⟩ = some (.string x0)) (go_keep) (fail)
      have HB2 : Hid (Below w.heap.size w wr.drew) := HB.out.drew
      go_wp2
      go_roundw
      case rel => exact ⟨k + 1, by go_num, by omega, HB2.out⟩
      case measure => simp [intOf]; omega
    · have q0 : decide (k < n) = false := by simpa using hkn
      have q1 : decide ((k : Int) < (n : Int)) = false := by simpa using hkn
      go_wp2_with fail
      go_ret
      exact ⟨rfl, HB.out⟩
end Go.Proofs.YtnefcldjigndgaaDoor
