/- Lists of lines and of texts: their sizes, copies and comparison: what the laws' helpers do. -/
import Derived.Test.YtdbahildcecgbaaDoorRec
import Derived.Deep.RegionHeld3
import Derived.BigQuiet
import Derived.Deep.DeepCutAuto
import Derived.Deep.CutRange
namespace Go.Proofs.YtdbahildcecgbaaDoor
open Go.RowKit
open Go.Proofs.YtdbahildcecgbaaDoor.Draw

structure Ln where
  a : ByteArray
  s : ByteArray
  m : Int
def Ln.fits (x : Ln) : Prop := x.a.size ≤ maxLen ∧ x.s.size ≤ maxLen
def Ln.small (x : Ln) : Prop := x.a.size ≤ 1048576 ∧ x.s.size ≤ 1048576
theorem Ln.small.fits {x : Ln} (h : x.small) : x.fits := by
  obtain ⟨h0, h1⟩ := h; unfold Ln.fits maxLen; omega
/-- n lines in memory. -/
def LinesAt (w : World) (a : Option Addr) (n : Nat) (L : Nat → Ln) : Prop := n = 0 ∨ ∃ g o, a = some ⟨g, o, none⟩ ∧ g < w.heap.size ∧ ∀ i, i < n → w.cell? ⟨g, o + i * 3, none⟩ = some (.string (L i).a) ∧ w.cell? ⟨g, o + i * 3 + 1, none⟩ = some (.string (L i).s) ∧ w.cell? ⟨g, o + i * 3 + 2, none⟩ = some (.int .i64 (L i).m)
theorem LinesAt.below {w w' : World} {a : Option Addr} {n : Nat} {L : Nat → Ln} (h : LinesAt w a n L) (hb : Below w.heap.size w w') : LinesAt w' a n L := by
  rcases h with h | ⟨g, o, rfl, hg, hc⟩
  · exact Or.inl h
  · refine Or.inr ⟨g, o, rfl, Nat.lt_of_lt_of_le hg hb.size, fun i hi => ?_⟩
    obtain ⟨c0, c1, c2⟩ := hc i hi
    exact ⟨(hb.cell (p := ⟨g, _, none⟩) hg).trans c0, (hb.cell (p := ⟨g, _, none⟩) hg).trans c1, (hb.cell (p := ⟨g, _, none⟩) hg).trans c2⟩
theorem LinesAt.grown {w w' : World} {a : Option Addr} {n : Nat} {row : Option Nat} {L : Nat → Ln} (h : LinesAt w a n L) (hg : w.grownBy w' row) (hne : ∀ k, a.map Addr.block = some k → some k ≠ row) : LinesAt w' a n L := by
  rcases h with h | ⟨g, o, rfl, hl, hc⟩
  · exact Or.inl h
  · have hb := hg.block g hl (hne g rfl)
    refine Or.inr ⟨g, o, rfl, Nat.lt_of_lt_of_le hl hg.size, fun i hi => ?_⟩
    obtain ⟨c0, c1, c2⟩ := hc i hi
    exact ⟨(World.cell?_of_block (a := ⟨g, _, none⟩) hb).trans c0, (World.cell?_of_block (a := ⟨g, _, none⟩) hb).trans c1, (World.cell?_of_block (a := ⟨g, _, none⟩) hb).trans c2⟩
/-- Their cells by number. -/
def lineF (L : Nat → Ln) (j : Nat) : Value := if j % 3 = 0 then .string (L (j / 3)).a else if j % 3 = 1 then .string (L (j / 3)).s else .int .i64 (L (j / 3)).m
theorem lineF_at (L : Nat → Ln) (i : Nat) : lineF L (i * 3) = .string (L i).a ∧ lineF L (i * 3 + 1) = .string (L i).s ∧ lineF L (i * 3 + 2) = .int .i64 (L i).m := by
  refine ⟨?_, ?_, ?_⟩
  · rw [lineF, if_pos (by omega), show (i * 3) / 3 = i by omega]
  · rw [lineF, if_neg (by omega), if_pos (by omega), show (i * 3 + 1) / 3 = i by omega]
  · rw [lineF, if_neg (by omega), if_neg (by omega), show (i * 3 + 2) / 3 = i by omega]
theorem Own.lines {w : World} {g n : Nat} {L : Nat → Ln} (h : Own w g (n * 3) (lineF L)) : LinesAt w (some ⟨g, 0, none⟩) n L := by
  refine Or.inr ⟨g, 0, rfl, h.1, fun i hi => ?_⟩
  obtain ⟨e0, e1, e2⟩ := lineF_at L i
  rw [Nat.zero_add, ← e0, ← e1, ← e2]
  exact ⟨h.2.1 _ (by omega), h.2.1 _ (by omega), h.2.1 _ (by omega)⟩
/-- One more is written. -/
theorem line_step {w : World} {g n I : Nat} {F G : Nat → Value} (h : Own w g (n * 3) (fun j => if j < I * 3 then G j else F j)) (hI : I < n) {v0 v1 v2 : Value} (e0 : G (I * 3) = v0) (e1 : G (I * 3 + 1) = v1) (e2 : G (I * 3 + 2) = v2) :
    Own (((w.setCell ⟨g, I * 3, none⟩ v0).setCell ⟨g, I * 3 + 1, none⟩ v1).setCell ⟨g, I * 3 + 2, none⟩ v2) g (n * 3) (fun j => if j < (I + 1) * 3 then G j else F j) := by
  refine (((h.set (i := I * 3) (by omega) v0).set (i := I * 3 + 1) (by omega) v1).set (i := I * 3 + 2) (by omega) v2).congr fun j _ => ?_
  show (if j = I * 3 + 2 then v2 else if j = I * 3 + 1 then v1 else if j = I * 3 then v0 else if j < I * 3 then G j else F j) = if j < (I + 1) * 3 then G j else F j
  by_cases c2 : j = I * 3 + 2
  · rw [if_pos c2, if_pos (by omega), c2, e2]
  rw [if_neg c2]
  by_cases c1 : j = I * 3 + 1
  · rw [if_pos c1, if_pos (by omega), c1, e1]
  rw [if_neg c1]
  by_cases c0 : j = I * 3
  · rw [if_pos c0, if_pos (by omega), c0, e0]
  rw [if_neg c0]
  by_cases c : j < I * 3
  · rw [if_pos c, if_pos (by omega)]
  · rw [if_neg c, if_neg (by omega)]
structure Tx where
  t : ByteArray
def Tx.fits (x : Tx) : Prop := x.t.size ≤ maxLen
def Tx.small (x : Tx) : Prop := x.t.size ≤ 1048576
theorem Tx.small.fits {x : Tx} (h : x.small) : x.fits := by
  have h0 : x.t.size ≤ 1048576 := h; unfold Tx.fits maxLen; omega
/-- n texts in memory. -/
def TextsAt (w : World) (a : Option Addr) (n : Nat) (L : Nat → Tx) : Prop := n = 0 ∨ ∃ g o, a = some ⟨g, o, none⟩ ∧ g < w.heap.size ∧ ∀ i, i < n → w.cell? ⟨g, o + i, none⟩ = some (.string (L i).t)
theorem TextsAt.below {w w' : World} {a : Option Addr} {n : Nat} {L : Nat → Tx} (h : TextsAt w a n L) (hb : Below w.heap.size w w') : TextsAt w' a n L := by
  rcases h with h | ⟨g, o, rfl, hg, hc⟩
  · exact Or.inl h
  · refine Or.inr ⟨g, o, rfl, Nat.lt_of_lt_of_le hg hb.size, fun i hi => ?_⟩
    have c0 := hc i hi
    exact (hb.cell (p := ⟨g, _, none⟩) hg).trans c0
theorem TextsAt.grown {w w' : World} {a : Option Addr} {n : Nat} {row : Option Nat} {L : Nat → Tx} (h : TextsAt w a n L) (hg : w.grownBy w' row) (hne : ∀ k, a.map Addr.block = some k → some k ≠ row) : TextsAt w' a n L := by
  rcases h with h | ⟨g, o, rfl, hl, hc⟩
  · exact Or.inl h
  · have hb := hg.block g hl (hne g rfl)
    refine Or.inr ⟨g, o, rfl, Nat.lt_of_lt_of_le hl hg.size, fun i hi => ?_⟩
    have c0 := hc i hi
    exact (World.cell?_of_block (a := ⟨g, _, none⟩) hb).trans c0
/-- Their cells by number. -/
def textF (L : Nat → Tx) (j : Nat) : Value := .string (L j).t
theorem textF_at (L : Nat → Tx) (i : Nat) : textF L (i) = .string (L i).t := by
  rw [textF]
theorem Own.texts {w : World} {g n : Nat} {L : Nat → Tx} (h : Own w g (n) (textF L)) : TextsAt w (some ⟨g, 0, none⟩) n L := by
  refine Or.inr ⟨g, 0, rfl, h.1, fun i hi => ?_⟩
  have e0 := textF_at L i
  rw [Nat.zero_add, ← e0]
  exact h.2.1 _ (by omega)
/-- One more is written. -/
theorem text_step {w : World} {g n I : Nat} {F G : Nat → Value} (h : Own w g (n) (fun j => if j < I then G j else F j)) (hI : I < n) {v0 : Value} (e0 : G (I) = v0) :
    Own (w.setCell ⟨g, I, none⟩ v0) g (n) (fun j => if j < (I + 1) then G j else F j) := by
  refine (h.set (i := I) (by omega) v0).congr fun j _ => ?_
  show (if j = I then v0 else if j < I then G j else F j) = if j < (I + 1) then G j else F j
  by_cases c0 : j = I
  · rw [if_pos c0, if_pos (by omega), c0, e0]
  rw [if_neg c0]
  by_cases c : j < I
  · rw [if_pos c, if_pos (by omega)]
  · rw [if_neg c, if_neg (by omega)]
end Go.Proofs.YtdbahildcecgbaaDoor
