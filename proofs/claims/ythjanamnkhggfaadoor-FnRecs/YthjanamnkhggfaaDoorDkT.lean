/- What stands on a disk (spec.DiskText, impl.DiskText): what each call does; the law. -/
import Derived.Test.YthjanamnkhggfaaDoorDkR
namespace Go.Proofs.YthjanamnkhggfaaDoor
open Go.RowKit
open Go.Proofs.YthjanamnkhggfaaDoor.Draw

def oneT (s : ByteArray) (_ : Nat) : Tx := ⟨s⟩
def pairT (s t : ByteArray) (j : Nat) : Tx := if j = 0 then ⟨s⟩ else ⟨t⟩
theorem nil_cat (t : ByteArray) : (⟨#[]⟩ : ByteArray) ++ t = t := bytes_eq (by rw [bytes_cat]; rfl)
theorem catT_one (s : ByteArray) : catT (oneT s) 1 = s := nil_cat s
theorem catT_pair (s t : ByteArray) : catT (pairT s t) 2 = s ++ t := by
  show (⟨#[]⟩ ++ s) ++ t = s ++ t
  rw [nil_cat]
theorem lenT_one' (s : ByteArray) : lenT (oneT s) 1 = s.size := Nat.zero_add _
theorem lenT_pair (s t : ByteArray) : lenT (pairT s t) 2 = s.size + t.size := by
  show 0 + s.size + t.size = _
  rw [Nat.zero_add]
theorem texts_one (w : World) (s : ByteArray) : TextsAt (w.alloc (.cells #[.string s] 9)) (some ⟨w.heap.size, 0, none⟩) 1 (oneT s) :=
  Or.inr ⟨_, 0, rfl, by simp, fun i hi => by obtain rfl : i = 0 := by omega
                                             simp [oneT]⟩
theorem texts_pair (w : World) (s t : ByteArray) : TextsAt (w.alloc (.cells #[.string s, .string t] 9)) (some ⟨w.heap.size, 0, none⟩) 2 (pairT s t) :=
  Or.inr ⟨_, 0, rfl, by simp, fun i hi => by
    rcases (by omega : i = 0 ∨ i = 1) with rfl | rfl
    · simp [pairT]
    · simp [pairT]⟩
/-- One text, or two, joined. -/
theorem join_one (s : ByteArray) (hs : s.size ≤ 2097152) (w : World) (b : Nat) (hb : b = w.heap.size) :
    Calls Tryd.prog 64 #[.slice (some ⟨b, 0, none⟩) 1 1] (w.alloc (.cells #[.string s] 9)) fun e w' => e = .returned (.string s) ∧ Below w.heap.size w w' := by
  subst hb
  refine (impl_joined _ 1 1 (oneT s) (by omega) (by rw [lenT_one']; omega) _ (texts_one w s)).mono ?_
  rintro e w' ⟨rfl, hb⟩
  exact ⟨by rw [catT_one], ((Below.refl _ _).alloc (Nat.le_refl _) _).trans (hb.mono (by simp))⟩
theorem join_pair (s t : ByteArray) (hs : s.size ≤ 2097152) (ht : t.size ≤ 2097152) (w : World) (b : Nat) (hb : b = w.heap.size) :
    Calls Tryd.prog 64 #[.slice (some ⟨b, 0, none⟩) 2 2] (w.alloc (.cells #[.string s, .string t] 9)) fun e w' => e = .returned (.string (s ++ t)) ∧ Below w.heap.size w w' := by
  subst hb
  refine (impl_joined _ 2 2 (pairT s t) (by omega) (by rw [lenT_pair]; omega) _ (texts_pair w s t)).mono ?_
  rintro e w' ⟨rfl, hb⟩
  exact ⟨by rw [catT_pair], ((Below.refl _ _).alloc (Nat.le_refl _) _).trans (hb.mono (by simp))⟩
def textB (s : ByteArray) (n : Nat) (I : Nat → Tx) : ByteArray := if diskB s n I = true then s ++ catT I n else ⟨#[]⟩
end Go.Proofs.YthjanamnkhggfaaDoor
