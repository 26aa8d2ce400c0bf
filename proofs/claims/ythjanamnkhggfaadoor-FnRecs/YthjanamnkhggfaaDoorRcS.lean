/- Records read one behind the other (spec.RecsOf): what the call does. -/
import Derived.Test.YthjanamnkhggfaaDoorRcR
import Derived.Test.YthjanamnkhggfaaDoorDkA
namespace Go.Proofs.YthjanamnkhggfaaDoor
open Go.RowKit
open Go.Proofs.YthjanamnkhggfaaDoor.Draw

/-- The places of the records. -/
def seqA (s : ByteArray) : Nat → Nat
  | 0 => 0
  | k + 1 => (readR s (seqA s k)).2.1
def recT (s : ByteArray) (k : Nat) : Tx := ⟨(readR s (seqA s k)).1⟩
def OkTo (s : ByteArray) (k : Nat) : Prop := ∀ j, j < k → seqA s j < s.size ∧ (readR s (seqA s j)).2.2 = 0
def RecsIs (s : ByteArray) (k : Nat) (c : Int) : Prop := OkTo s k ∧ (s.size ≤ seqA s k ∧ c = 0 ∨ seqA s k < s.size ∧ c = (readR s (seqA s k)).2.2 ∧ c ≠ 0)
theorem RecsIs.same {s : ByteArray} {k k' : Nat} {c c' : Int} (h : RecsIs s k c) (h' : RecsIs s k' c') : k = k' ∧ c = c' := by
  have hk : ∀ {k k' : Nat} {c c' : Int}, RecsIs s k c → RecsIs s k' c' → ¬ k < k' := fun {k k' c c'} h h' hlt => by
    obtain ⟨h1, h2⟩ := h'.1 k hlt
    rcases h.2 with ⟨h3, _⟩ | ⟨_, h4, h5⟩
    · omega
    · exact h5 (h4.trans h2)
  have e : k = k' := by have := hk h h'; have := hk h' h; omega
  subst e
  refine ⟨rfl, ?_⟩
  rcases h.2 with ⟨h1, h2⟩ | ⟨h1, h2, _⟩
  · rcases h'.2 with ⟨_, h4⟩ | ⟨h3, _⟩
    · rw [h2, h4]
    · omega
  · rcases h'.2 with ⟨h3, _⟩ | ⟨_, h4, _⟩
    · omega
    · rw [h2, h4]
/-- What was read well lies further on, within the text. -/
theorem readR_ok {s : ByteArray} {a : Nat} (hs : s.size ≤ 20000) (h : (readR s a).2.2 = 0) : a < (readR s a).2.1 ∧ (readR s a).2.1 ≤ s.size ∧ (readR s a).1.size ≤ 10000 := by
  unfold readR at h ⊢
  obtain ⟨N, P, C, hg1⟩ : ∃ N P C, getB s a = (N, P, C) := ⟨_, _, _, rfl⟩
  rw [hg1] at h ⊢
  dsimp only at h ⊢
  by_cases h1 : C ≠ 0
  · rw [if_pos h1] at h; exact absurd h h1
  rw [if_neg h1] at h ⊢
  by_cases h2 : ¬ (1 ≤ N ∧ N ≤ 10000)
  · rw [if_pos h2] at h; simp at h
  rw [if_neg h2] at h ⊢
  have hC : C = 0 := by omega
  rw [hC] at hg1
  obtain ⟨_, b2, b3⟩ := getB_back hs hg1
  obtain ⟨N2, P2, C2, hg2⟩ : ∃ N P' C, getB s P = (N, P', C) := ⟨_, _, _, rfl⟩
  rw [hg2] at h ⊢
  dsimp only at h ⊢
  by_cases h3 : C2 ≠ 0
  · rw [if_pos h3] at h; exact absurd h h3
  rw [if_neg h3] at h ⊢
  have hC2 : C2 = 0 := by omega
  rw [hC2, show P = ((P.toNat : Nat) : Int) by omega] at hg2
  obtain ⟨_, c2, c3⟩ := getB_back hs hg2
  by_cases h4 : (s.size : Int) < P2 + N
  · rw [if_pos h4] at h; simp at h
  rw [if_neg h4] at h ⊢
  by_cases h5 : recSum (s.extract P2.toNat (P2 + N).toNat) ≠ N2
  · rw [if_pos h5] at h; simp at h
  rw [if_neg h5]
  refine ⟨by show a < (P2 + N).toNat; omega, by show (P2 + N).toNat ≤ s.size; omega, ?_⟩
  show (s.extract P2.toNat (P2 + N).toNat).size ≤ 10000
  rw [ByteArray.size_extract]; omega
theorem okTo_le {s : ByteArray} (hs : s.size ≤ 20000) : ∀ k, OkTo s k → k ≤ seqA s k ∧ seqA s k ≤ 20000
  | 0, _ => ⟨Nat.le_refl _, Nat.zero_le _⟩
  | k + 1, h => by
    have ih := okTo_le hs k (fun j hj => h j (by omega))
    have := readR_ok hs (h k (by omega)).2
    show k + 1 ≤ (readR s (seqA s k)).2.1 ∧ (readR s (seqA s k)).2.1 ≤ 20000
    omega
theorem okTo_succ {s : ByteArray} {k : Nat} (h : OkTo s k) (h1 : seqA s k < s.size) (h2 : (readR s (seqA s k)).2.2 = 0) : OkTo s (k + 1) := fun j hj => by
  by_cases e : j = k
  · rw [e]; exact ⟨h1, h2⟩
  · exact h j (by omega)
end Go.Proofs.YthjanamnkhggfaaDoor
