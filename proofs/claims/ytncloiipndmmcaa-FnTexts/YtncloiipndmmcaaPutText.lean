/- The two ways to put a text (spec.PutText, impl.PutText): what each call does. -/
import Derived.Test.YtncloiipndmmcaaPut
import Derived.Test.YtncloiipndmmcaaPlain
namespace Go.Proofs.Ytncloiipndmmcaa
open Go.RowKit

def putB (s : ByteArray) : ByteArray := if s.size ≤ 200 then (if plainB s then ⟨(encN s.size).toArray⟩ ++ s else ⟨#[]⟩) else ⟨#[]⟩
theorem ret_str {a b : ByteArray} (h : a = b) : Ending.returned (.string a) = .returned (.string b) := by rw [h]

theorem encN_size (n : Int) : (⟨(encN n).toArray⟩ : ByteArray).size ≤ 10 := by
  have := encF_len 10 (foldZ n).toNat
  simpa [encN, ByteArray.size] using this
theorem spec_plain' (s : ByteArray) (w : World) (hs : s.size ≤ maxLen) :
    Calls Try.prog 27 #[.string s] w fun e w' => e = .returned (.bool (plainB s)) ∧ Below w.heap.size w w' := by
  refine (spec_plain s w hs).mono ?_
  rintro e w' ⟨rfl, rfl⟩
  exact ⟨rfl, Below.refl _ _⟩

set_option maxHeartbeats 400000 in
theorem spec_putText (s : ByteArray) (w : World) (hs : s.size ≤ maxLen) :
    Calls Try.prog 11 #[.string s] w fun e w' => e = .returned (.string (putB s)) ∧ Below w.heap.size w w' := by
  have hs' := hs
  unfold maxLen at hs
  by_cases h1 : s.size ≤ 200
  · have b1 : decide (200 < (s.size : Int)) = false := by simp; omega
    cases hp : plainB s
    · have Hp : Hid (plainB s = false) := hp
      clear hp
      go_enter Try.func11, Try.ntmps11
      go_wp2_with fail
      refine (spec_plain' _ _ hs').mono ?_
      rintro e w1 ⟨rfl, hb1⟩
      rw [Hp.out]
      go_wp2_with fail
      go_ret
      exact ⟨ret_str (by simp [putB, h1, Hp.out]), hb1⟩
    · have Hp : Hid (plainB s = true) := hp
      clear hp
      go_enter Try.func11, Try.ntmps11
      go_wp2_with fail
      refine (spec_plain' _ _ hs').mono ?_
      rintro e w1 ⟨rfl, hb1⟩
      rw [Hp.out]
      go_wp2_with fail
      refine (spec_put _ _ (by omega) (by omega)).mono ?_
      rintro e w2 ⟨rfl, hb2⟩
      obtain ⟨E, hE⟩ : ∃ E, E = (⟨(encN s.size).toArray⟩ : ByteArray) := ⟨_, rfl⟩
      rw [← hE]
      have hl : E.size ≤ 10 := by rw [hE]; exact encN_size _
      have HE : Hid (E = (⟨(encN s.size).toArray⟩ : ByteArray)) := hE
      clear hE
      go_wp2_with fail
      go_ret
      exact ⟨ret_str (by simp [putB, h1, Hp.out, HE.out]), hb1.trans (hb2.mono hb1.size)⟩
  · have b1 : decide (200 < (s.size : Int)) = true := by simp; omega
    go_enter Try.func11, Try.ntmps11
    go_wp2_with fail
    go_ret
    exact ⟨ret_str (by simp [putB, h1]), Below.refl _ _⟩

set_option maxHeartbeats 400000 in
theorem impl_putText (s : ByteArray) (w : World) (hs : s.size ≤ maxLen) :
    Calls Try.prog 12 #[.string s] w fun e w' => e = .returned (.string (putB s)) ∧ Below w.heap.size w w' := by
  unfold maxLen at hs
  by_cases h1 : s.size ≤ 200
  · have b1 : decide (200 < (s.size : Int)) = false := by simp; omega
    cases hp : plainB s
    · have Hp : Hid (plainB s = false) := hp
      clear hp
      go_enter Try.func12, Try.ntmps12
      go_wp2_with fail
      refine (impl_plain _ _).mono ?_
      rintro e w1 ⟨rfl, hb1⟩
      rw [Hp.out]
      go_wp2_with fail
      go_ret
      exact ⟨ret_str (by simp [putB, h1, Hp.out]), hb1⟩
    · have Hp : Hid (plainB s = true) := hp
      clear hp
      go_enter Try.func12, Try.ntmps12
      go_wp2_with fail
      refine (impl_plain _ _).mono ?_
      rintro e w1 ⟨rfl, hb1⟩
      rw [Hp.out]
      go_wp2_with fail
      refine (impl_put _ _ (by omega) (by omega)).mono ?_
      rintro e w2 ⟨rfl, hb2⟩
      obtain ⟨E, hE⟩ : ∃ E, E = (⟨(encN s.size).toArray⟩ : ByteArray) := ⟨_, rfl⟩
      rw [← hE]
      have hl : E.size ≤ 10 := by rw [hE]; exact encN_size _
      have HE : Hid (E = (⟨(encN s.size).toArray⟩ : ByteArray)) := hE
      clear hE
      go_wp2_with fail
      go_ret
      exact ⟨ret_str (by simp [putB, h1, Hp.out, HE.out]), hb1.trans (hb2.mono hb1.size)⟩
  · have b1 : decide (200 < (s.size : Int)) = true := by simp; omega
    go_enter Try.func12, Try.ntmps12
    go_wp2_with fail
    go_ret
    exact ⟨ret_str (by simp [putB, h1]), Below.refl _ _⟩


end Go.Proofs.Ytncloiipndmmcaa
