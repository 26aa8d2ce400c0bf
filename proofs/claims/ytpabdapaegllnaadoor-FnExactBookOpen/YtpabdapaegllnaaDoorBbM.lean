/- Lines of a right book by their spots: no program. -/
import Derived.Test.YtpabdapaegllnaaDoorBkH
import Derived.Maps.Views
import Derived.ChangeKeys
namespace Go.Proofs.YtpabdapaegllnaaDoor
open Go.RowKit
open Go.Proofs.YtpabdapaegllnaaDoor.Draw

theorem bl_irrefl : ∀ x : List UInt8, Op.bytesLess x x = false
  | [] => rfl
  | a :: x => by
    rw [Op.bytesLess]
    have := bl_irrefl x
    simp [this, UInt8.lt_irrefl]
theorem bl_cons (a b : UInt8) (x y : List UInt8) : Op.bytesLess (a :: x) (b :: y) = true ↔ a < b ∨ a = b ∧ Op.bytesLess x y = true := by
  rw [Op.bytesLess]
  by_cases h : a < b
  · simp [h]
  · by_cases e : a = b
    · subst e; simp [h]
    · simp [h, e]
theorem bl_trans : ∀ x y z : List UInt8, Op.bytesLess x y = true → Op.bytesLess y z = true → Op.bytesLess x z = true
  | [], [], _, h, _ => by simp [Op.bytesLess] at h
  | [], _ :: _, [], _, h => by simp [Op.bytesLess] at h
  | [], _ :: _, _ :: _, _, _ => by simp [Op.bytesLess]
  | _ :: _, [], _, h, _ => by simp [Op.bytesLess] at h
  | _ :: _, _ :: _, [], _, h => by simp [Op.bytesLess] at h
  | a :: x, b :: y, c :: z, h, h' => by
    rw [bl_cons] at h h' ⊢
    rcases h with h | ⟨rfl, h⟩
    · rcases h' with h' | ⟨rfl, h'⟩
      · exact Or.inl (UInt8.lt_trans h h')
      · exact Or.inl h
    · rcases h' with h' | ⟨rfl, h'⟩
      · exact Or.inl h'
      · exact Or.inr ⟨rfl, bl_trans x y z h h'⟩
theorem lessP_iff (a s a' s' : ByteArray) : lessP a s a' s' = true ↔ ltS a a' = true ∨ a.toList = a'.toList ∧ ltS s s' = true := by
  unfold lessP; simp
theorem lessP_irrefl (a s : ByteArray) : lessP a s a s = false := by
  cases h : lessP a s a s
  · rfl
  · rcases (lessP_iff _ _ _ _).1 h with h | ⟨_, h⟩
    · unfold ltS at h; rw [bl_irrefl] at h; cases h
    · unfold ltS at h; rw [bl_irrefl] at h; cases h
theorem lessP_trans {a s b t c u : ByteArray} (h : lessP a s b t = true) (h' : lessP b t c u = true) : lessP a s c u = true := by
  rw [lessP_iff] at h h' ⊢
  unfold ltS at h h' ⊢
  rcases h with h | ⟨e, h⟩
  · rcases h' with h' | ⟨e', h'⟩
    · exact Or.inl (bl_trans _ _ _ h h')
    · rw [e'] at h; exact Or.inl h
  · rcases h' with h' | ⟨e', h'⟩
    · rw [← e] at h'; exact Or.inl h'
    · exact Or.inr ⟨e.trans e', bl_trans _ _ _ h h'⟩
theorem okLine_less {L : Nat → Ln} {j : Nat} (h : okLine L (j + 1) = true) : lessP (L j).a (L j).s (L (j + 1)).a (L (j + 1)).s = true := by
  simp only [okLine, Bool.and_eq_true] at h
  have := h.2
  simpa using this
theorem lines_less {L : Nat → Ln} {n : Nat} (h : ∀ j, j < n → okLine L j = true) (i : Nat) : ∀ k, i + k + 1 < n → lessP (L i).a (L i).s (L (i + k + 1)).a (L (i + k + 1)).s = true
  | 0, hk => okLine_less (h _ hk)
  | k + 1, hk => lessP_trans (lines_less h i k (by omega)) (okLine_less (h _ hk))
theorem lines_apart {L : Nat → Ln} {n i k : Nat} (h : ∀ j, j < n → okLine L j = true) (hi : i < k) (hk : k < n) : ¬ ((L i).a = (L k).a ∧ (L i).s = (L k).s) := by
  rintro ⟨e, e'⟩
  have := lines_less h i (k - i - 1) (by omega)
  rw [show i + (k - i - 1) + 1 = k by omega, e, e', lessP_irrefl] at this
  cases this
/-- The first line at a spot. -/
def findB (L : Nat → Ln) (a s : ByteArray) : Nat → Option Nat
  | 0 => none
  | k + 1 => (findB L a s k).orElse fun _ => if (L k).a = a ∧ (L k).s = s then some k else none
theorem findB_some {L : Nat → Ln} {a s : ByteArray} : ∀ {k i : Nat}, findB L a s k = some i → i < k ∧ (L i).a = a ∧ (L i).s = s
  | 0, _, h => by simp [findB] at h
  | k + 1, i, h => by
    unfold findB at h
    cases hf : findB L a s k with
    | some j =>
      rw [hf] at h; simp at h; subst h
      have := findB_some hf
      exact ⟨by omega, this.2⟩
    | none =>
      rw [hf] at h
      simp at h
      exact ⟨by omega, by rw [← h.2]; exact h.1⟩
theorem findB_stay {L : Nat → Ln} {a s : ByteArray} {i k : Nat} (h : findB L a s k = some i) : ∀ d, findB L a s (k + d) = some i
  | 0 => h
  | d + 1 => by rw [← Nat.add_assoc, findB, findB_stay h d]; rfl
theorem findB_hit {L : Nat → Ln} {a s : ByteArray} {k n : Nat} (h0 : findB L a s k = none) (h : (L k).a = a ∧ (L k).s = s) (hn : k < n) : findB L a s n = some k := by
  have h1 : findB L a s (k + 1) = some k := by unfold findB; rw [h0]; simp [h]
  have := findB_stay h1 (n - (k + 1))
  rwa [show k + 1 + (n - (k + 1)) = n by omega] at this
theorem findB_miss {L : Nat → Ln} {a s : ByteArray} {k : Nat} (h0 : findB L a s k = none) (h : ¬ ((L k).a = a ∧ (L k).s = s)) : findB L a s (k + 1) = none := by
  unfold findB; rw [h0]; simp only [Option.orElse, h, if_false]
theorem spotK_inj {a s a' s' : ByteArray} (ha : a.size ≤ maxLen) (hs : s.size ≤ maxLen) (ha' : a'.size ≤ maxLen) (hs' : s'.size ≤ maxLen) (h : spotK a s = spotK a' s') : a = a' ∧ s = s' := by
  unfold spotK at h
  have hl : ∀ x : ByteArray, x.size ≤ maxLen → x.data.toList.length ≤ maxLen := fun x hx => by rw [← Lib.size_eq]; exact hx
  have wf : ∀ x y : ByteArray, x.size ≤ maxLen → y.size ≤ maxLen → ∀ c ∈ [Lit.string x.data.toList, Lit.string y.data.toList], c.keyWf := fun x y hx hy c hc => by
    simp at hc
    rcases hc with rfl | rfl
    · exact hl _ hx
    · exact hl _ hy
  have := keyBytes_inj (l := [.string a.data.toList, .string s.data.toList]) (l' := [.string a'.data.toList, .string s'.data.toList]) ⟨trivial, trivial, trivial⟩ (wf a s ha hs) (wf a' s' ha' hs') (by simpa using h)
  simp at this
  obtain ⟨e1, e2⟩ := this
  exact ⟨by cases a; cases a'; simp at e1; rw [e1], by cases s; cases s'; simp at e2; rw [e2]⟩
theorem places_isMap (L : Nat → Ln) : ∀ n, Maps.IsMap (placesD L n)
  | 0 => Maps.isMap_empty
  | n + 1 => (places_isMap L n).put _ _
theorem places_find {L : Nat → Ln} {n : Nat} {a s : ByteArray} (hok : ∀ j, j < n → okLine L j = true) (hf : ∀ j, j < n → (L j).fits) (ha : a.size ≤ maxLen) (hs : s.size ≤ maxLen) : ∀ k, k ≤ n →
    Maps.has (placesD L k) (spotK a s) = (findB L a s k).isSome ∧ ∀ i, findB L a s k = some i → (placesD L k).atKey (spotK a s) (.lit (.int .i64 0)) = .lit (.int .i64 (i : Int))
  | 0, _ => ⟨rfl, fun i h => by cases h⟩
  | k + 1, hk => by
    have ih := places_find hok hf ha hs k (by omega)
    have hkey : WideAt.IsKeyLit (spotK a s) := trivial
    by_cases h : (L k).a = a ∧ (L k).s = s
    · have h0 : findB L a s k = none := by
        cases hc : findB L a s k with
        | none => rfl
        | some i =>
          obtain ⟨h1, h2, h3⟩ := findB_some hc
          exact absurd ⟨h2.trans h.1.symm, h3.trans h.2.symm⟩ (lines_apart hok h1 (by omega))
      have h1 : findB L a s (k + 1) = some k := findB_hit h0 h (by omega)
      have e : spotK (L k).a (L k).s = spotK a s := by rw [h.1, h.2]
      rw [placesD, e, h1]
      refine ⟨Maps.has_put_same (places_isMap L k) hkey _, fun i hi => ?_⟩
      rw [Maps.atKey_put_same (places_isMap L k) hkey]
      simp at hi; rw [hi]
    · have hne : spotK a s ≠ spotK (L k).a (L k).s := fun e => by
        have := spotK_inj ha hs (hf k (by omega)).1 (hf k (by omega)).2 e
        exact h ⟨this.1.symm, this.2.symm⟩
      have e : findB L a s (k + 1) = findB L a s k := by
        cases hc : findB L a s k with
        | none => exact findB_miss hc h
        | some i => exact findB_stay hc 1
      rw [placesD, e]
      exact ⟨(Maps.has_put_other hne _).trans ih.1, fun i hi => (Maps.atKey_put_other hne _ _).trans (ih.2 i hi)⟩
end Go.Proofs.YtpabdapaegllnaaDoor
