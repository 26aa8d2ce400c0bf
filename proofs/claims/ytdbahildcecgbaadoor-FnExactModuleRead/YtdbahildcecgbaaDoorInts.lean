/- Lists of whole numbers in memory: their sizes and copies. -/
import Derived.Test.YtdbahildcecgbaaDoorTyC
namespace Go.Proofs.YtdbahildcecgbaaDoor
open Go.RowKit
open Go.Proofs.YtdbahildcecgbaaDoor.Draw

/-- n whole numbers in memory. -/
def IntsAt (w : World) (a : Option Addr) (n : Nat) (T : Nat → Int) : Prop := n = 0 ∨ ∃ g o, a = some ⟨g, o, none⟩ ∧ g < w.heap.size ∧ ∀ i, i < n → w.cell? ⟨g, o + i, none⟩ = some (.int .i64 (T i))
theorem IntsAt.below {w w' : World} {a : Option Addr} {n : Nat} {T : Nat → Int} (h : IntsAt w a n T) (hb : Below w.heap.size w w') : IntsAt w' a n T := by
  rcases h with h | ⟨g, o, rfl, hg, hc⟩
  · exact Or.inl h
  · refine Or.inr ⟨g, o, rfl, Nat.lt_of_lt_of_le hg hb.size, fun i hi => ?_⟩
    have c0 := hc i hi
    exact (hb.cell (p := ⟨g, _, none⟩) hg).trans c0
theorem IntsAt.grown {w w' : World} {a : Option Addr} {n : Nat} {row : Option Nat} {T : Nat → Int} (h : IntsAt w a n T) (hg : w.grownBy w' row) (hne : ∀ k, a.map Addr.block = some k → some k ≠ row) : IntsAt w' a n T := by
  rcases h with h | ⟨g, o, rfl, hl, hc⟩
  · exact Or.inl h
  · have hb := hg.block g hl (hne g rfl)
    refine Or.inr ⟨g, o, rfl, Nat.lt_of_lt_of_le hl hg.size, fun i hi => ?_⟩
    have c0 := hc i hi
    exact (World.cell?_of_block (a := ⟨g, _, none⟩) hb).trans c0
/-- Their cells by number. -/
def numF (T : Nat → Int) (j : Nat) : Value := .int .i64 (T j)
theorem numF_at (T : Nat → Int) (i : Nat) : numF T (i) = .int .i64 (T i) := by
  rw [numF]
theorem Own.ints {w : World} {g n : Nat} {T : Nat → Int} (h : Own w g (n) (numF T)) : IntsAt w (some ⟨g, 0, none⟩) n T := by
  refine Or.inr ⟨g, 0, rfl, h.1, fun i hi => ?_⟩
  have e0 := numF_at T i
  rw [Nat.zero_add, ← e0]
  exact h.2.1 _ (by omega)
/-- One more is written. -/
theorem num_step {w : World} {g n I : Nat} {F G : Nat → Value} (h : Own w g (n) (fun j => if j < I then G j else F j)) (hI : I < n) {v0 : Value} (e0 : G (I) = v0) :
    Own (w.setCell ⟨g, I, none⟩ v0) g (n) (fun j => if j < (I + 1) then G j else F j) := by
  refine (h.set (i := I) (by omega) v0).congr fun j _ => ?_
  show (if j = I then v0 else if j < I then G j else F j) = if j < (I + 1) then G j else F j
  by_cases c0 : j = I
  · rw [if_pos c0, if_pos (by omega), c0, e0]
  rw [if_neg c0]
  by_cases c : j < I
  · rw [if_pos c, if_pos (by omega)]
  · rw [if_neg c, if_neg (by omega)]
theorem OwnR.ints {w : World} {a : Option Addr} {n : Nat} {T : Nat → Int} (h : OwnR w a n 1 (numF T)) : IntsAt w a n T := by
  rcases h with h | ⟨g, rfl, h⟩
  · exact Or.inl h
  · rw [Nat.mul_one] at h; exact h.ints
theorem Own.nums {w : World} {g n : Nat} {T : Nat → Int} (h : Own w g n (numF T)) : OwnR w (some ⟨g, 0, none⟩) n 1 (numF T) := Or.inr ⟨g, rfl, by rw [Nat.mul_one]; exact h⟩
end Go.Proofs.YtdbahildcecgbaaDoor
