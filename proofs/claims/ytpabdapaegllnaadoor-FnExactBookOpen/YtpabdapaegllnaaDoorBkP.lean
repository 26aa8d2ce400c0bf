/- The place of a line among others: no program in it. -/
import Derived.Test.YtpabdapaegllnaaDoorBkH2
import Derived.Test.YtpabdapaegllnaaDoorBbM
namespace Go.Proofs.YtpabdapaegllnaaDoor
open Go.RowKit
open Go.Proofs.YtpabdapaegllnaaDoor.Draw

/-- Where a line at a spot belongs. -/
def IsPlace (L : Nat → Ln) (x y : ByteArray) (n k : Nat) : Prop := k ≤ n ∧ (∀ j, j < k → lessP (L j).a (L j).s x y = true) ∧ ∀ j, k ≤ j → j < n → lessP (L j).a (L j).s x y = false
theorem first_not (p : Nat → Bool) : ∀ n : Nat, ∃ k, k ≤ n ∧ (∀ j, j < k → p j = true) ∧ (k < n → p k = false)
  | 0 => ⟨0, Nat.le_refl _, fun j hj => by omega, fun h => by omega⟩
  | n + 1 => by
    obtain ⟨k, h1, h2, h3⟩ := first_not p n
    by_cases hk : k < n
    · exact ⟨k, by omega, h2, fun _ => h3 hk⟩
    · obtain rfl : k = n := by omega
      cases hp : p k with
      | false => exact ⟨k, by omega, h2, fun _ => hp⟩
      | true => exact ⟨k + 1, by omega, fun j hj => by
          by_cases e : j = k
          · rw [e]; exact hp
          · exact h2 j (by omega), fun h => by omega⟩
theorem not_less_up {L : Nat → Ln} {n : Nat} (hok : ∀ j, j < n → okLine L j = true) {x y : ByteArray} {k : Nat} (h : lessP (L k).a (L k).s x y = false) {j : Nat} (hkj : k ≤ j) (hj : j < n) : lessP (L j).a (L j).s x y = false := by
  by_cases e : j = k
  · rw [e]; exact h
  · cases hl : lessP (L j).a (L j).s x y with
    | false => rfl
    | true =>
      have := lines_less hok k (j - k - 1) (by omega)
      rw [show k + (j - k - 1) + 1 = j by omega] at this
      rw [lessP_trans this hl] at h
      cases h
theorem less_down {L : Nat → Ln} {n : Nat} (hok : ∀ j, j < n → okLine L j = true) {x y : ByteArray} {k : Nat} (hk : k < n) (h : lessP (L k).a (L k).s x y = true) {j : Nat} (hkj : j ≤ k) : lessP (L j).a (L j).s x y = true := by
  cases hl : lessP (L j).a (L j).s x y with
  | true => rfl
  | false => rw [not_less_up hok hl hkj hk] at h; cases h
theorem place_is {L : Nat → Ln} {n : Nat} (hok : ∀ j, j < n → okLine L j = true) (x y : ByteArray) : ∃ k, IsPlace L x y n k := by
  obtain ⟨k, h1, h2, h3⟩ := first_not (fun j => lessP (L j).a (L j).s x y) n
  exact ⟨k, h1, h2, fun j hkj hj => not_less_up hok (h3 (by omega)) hkj hj⟩
/-- One line more. -/
def insL (L : Nat → Ln) (k : Nat) (x y : ByteArray) (i : Nat) : Ln := if i < k then L i else if i = k then ⟨x, y, 0⟩ else L (i - 1)
theorem ins_lines (L : Nat → Ln) (k : Nat) (x y : ByteArray) (n : Nat) (hk : k ≤ n) : linesC (insL L k x y) (n + 1) = (linesC L n).take (k * 3) ++ [.string x, .string y, .int .i64 0] ++ (linesC L n).drop (k * 3) := by
  apply List.ext_getElem?
  intro j
  by_cases hj : j < (n + 1) * 3
  · rw [linesC_at _ _ _ hj]
    by_cases h1 : j < k * 3
    · rw [List.append_assoc, List.getElem?_append_left (by rw [List.length_take, linesC_len]; omega), List.getElem?_take, if_pos h1, linesC_at _ _ _ (by omega)]
      have : insL L k x y (j / 3) = L (j / 3) := by unfold insL; rw [if_pos (by omega)]
      simp only [lineF, this]
    · by_cases h2 : j < k * 3 + 3
      · rw [List.append_assoc, List.getElem?_append_right (by rw [List.length_take, linesC_len]; omega), List.length_take, linesC_len, show j - min (k * 3) (n * 3) = j - k * 3 by omega]
        have hI : insL L k x y (j / 3) = ⟨x, y, 0⟩ := by unfold insL; rw [if_neg (by omega), if_pos (by omega)]
        simp only [lineF, hI]
        rcases (by omega : j = k * 3 ∨ j = k * 3 + 1 ∨ j = k * 3 + 2) with rfl | rfl | rfl
        · rw [if_pos (by omega), show k * 3 - k * 3 = 0 by omega]; rfl
        · rw [if_neg (by omega), if_pos (by omega), show k * 3 + 1 - k * 3 = 1 by omega]; rfl
        · rw [if_neg (by omega), if_neg (by omega), show k * 3 + 2 - k * 3 = 2 by omega]; rfl
      · rw [List.getElem?_append_right (by simp [linesC_len]; omega), List.getElem?_drop]
        simp only [List.length_append, List.length_take, linesC_len, List.length_cons, List.length_nil]
        rw [show k * 3 + (j - (min (k * 3) (n * 3) + (0 + 1 + 1 + 1))) = j - 3 by omega, linesC_at _ _ _ (by omega)]
        have hI : insL L k x y (j / 3) = L ((j - 3) / 3) := by unfold insL; rw [if_neg (by omega), if_neg (by omega), show j / 3 - 1 = (j - 3) / 3 by omega]
        simp only [lineF, hI, show (j - 3) % 3 = j % 3 by omega]
  · rw [List.getElem?_eq_none (by rw [linesC_len]; omega), List.getElem?_eq_none (by simp [linesC_len]; omega)]
theorem insL_fits {L : Nat → Ln} {k n : Nat} {x y : ByteArray} (hx : x.size ≤ maxLen) (hy : y.size ≤ maxLen) (hf : ∀ i, i < n → (L i).fits) (i : Nat) (hi : i < n + 1) (hk : k ≤ n) : (insL L k x y i).fits := by
  unfold insL
  split
  · exact hf i (by omega)
  · split
    · exact ⟨hx, hy⟩
    · exact hf _ (by omega)
end Go.Proofs.YtpabdapaegllnaaDoor
