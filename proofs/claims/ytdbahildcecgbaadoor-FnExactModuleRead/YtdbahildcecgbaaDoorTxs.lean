/- Lists of texts: their cells in a row; marked and looked at again: what the laws' helpers do. -/
import Derived.Test.YtdbahildcecgbaaDoorLines
namespace Go.Proofs.YtdbahildcecgbaaDoor
open Go.RowKit
open Go.Proofs.YtdbahildcecgbaaDoor.Draw

def textsC (I : Nat → Tx) : Nat → List Value
  | 0 => []
  | k + 1 => textsC I k ++ [.string (I k).t]
theorem textsC_len (I : Nat → Tx) (k : Nat) : (textsC I k).length = k * 1 := by
  induction k with
  | zero => rfl
  | succ k ih => rw [textsC, List.length_append, ih]; simp
theorem textsC_at (I : Nat → Tx) (k j : Nat) (h : j < k) : (textsC I k)[j]? = some (textF I j) := by
  induction k with
  | zero => omega
  | succ k ih =>
    rw [textsC]
    by_cases hj : j < k
    · rw [List.getElem?_append_left (by rw [textsC_len]; omega)]; exact ih hj
    · obtain rfl : j = k := by omega
      rw [List.getElem?_append_right (by rw [textsC_len]; omega), textsC_len, show j - j * 1 = 0 by omega, textF_at]; rfl
theorem news_texts {w : World} {g o n : Nat} {I : Nat → Tx} (h : TextsAt w (some ⟨g, o, none⟩) n I) : ∀ j u, (textsC I n)[j]? = some u → w.cell? ((⟨g, o, none⟩ : Addr).add j) = some u := by
  intro j u hj
  have hlt : j < n := by have := (List.getElem?_eq_some_iff.1 hj).1; rw [textsC_len] at this; omega
  rw [textsC_at I n j hlt] at hj
  rw [add_off, ← hj]
  rcases h with h0 | ⟨g', o', e, _, hc⟩
  · omega
  · simp at e
    obtain ⟨rfl, rfl⟩ := e
    rw [textF_at]; exact hc j hlt
theorem ones_texts (I : Nat → Tx) (n : Nat) : ∀ u ∈ textsC I n, u.oneCell' = true := by
  induction n with
  | zero => intro u hu; simp [textsC] at hu
  | succ n ih =>
    intro u hu
    rw [textsC, List.mem_append] at hu
    rcases hu with hu | hu
    · exact ih u hu
    · simp at hu; subst hu; rfl
/-- An owned row of texts. -/
theorem own_texts {w : World} {B n : Nat} {v : Value} {I : Nat → Tx} (h : w.ownsRow B 9 1 v n (textsC I n)) : ∃ a cap, v = .slice a n cap ∧ OwnR w a n 1 (textF I) ∧ ∀ k, a.map Addr.block = some k → B ≤ k ∧ k < w.heap.size := by
  obtain ⟨_, ⟨rfl, rfl⟩ | ⟨g, cap, cur, rfl, hB, hblk, _⟩⟩ := id h
  · exact ⟨none, 0, rfl, Or.inl rfl, fun k e => by cases e⟩
  · refine ⟨_, cap, rfl, Or.inr ⟨g, rfl, (own_row h (fun j hj => textsC_at I n j (by omega))).1⟩, fun k e => ?_⟩
    simp at e
    subst e
    exact ⟨hB, (Array.getElem?_eq_some_iff.1 hblk).1⟩
theorem OwnR.texts {w : World} {a : Option Addr} {n : Nat} {I : Nat → Tx} (h : OwnR w a n 1 (textF I)) : TextsAt w a n I := by
  rcases h with h | ⟨g, rfl, hO⟩
  · exact Or.inl h
  · rw [Nat.mul_one] at hO; exact hO.texts
/-- What marked texts' cells read. -/
def mkT (k0 : Nat) (j : Nat) : Value := .string (mtx (k0 + j))
end Go.Proofs.YtdbahildcecgbaaDoor
