/- The two tests of a text's bytes (spec.l01Plain, impl.printable): what each call does. -/
import Derived.Test.YtncloiipndmmcaaBase
namespace Go.Proofs.Ytncloiipndmmcaa
open Go.RowKit

def plainAt (s : ByteArray) (i : Nat) : Bool := decide (32 ≤ (s.data.toList.getD i 0).toNat) && decide ((s.data.toList.getD i 0).toNat ≤ 126)
def plainB (s : ByteArray) : Bool := (List.range s.size).all (plainAt s)
theorem plainB_at_false (s : ByteArray) (k : Nat) (hk : k < s.size) (h : plainAt s k = false) : plainB s = false := by
  unfold plainB
  rw [List.all_eq_false]
  exact ⟨k, by simpa using hk, by simp [h]⟩
theorem plainB_true (s : ByteArray) (h : ∀ j, j < s.size → plainAt s j = true) : plainB s = true := by
  unfold plainB
  rw [List.all_eq_true]
  intro x hx
  exact h x (by simpa using hx)
theorem plainAt_yes (s : ByteArray) (k : Nat) (h : k < s.size) (h1 : 32 ≤ (s[k].toNat : Int)) (h2 : (s[k].toNat : Int) ≤ 126) : plainAt s k = true := by
  unfold plainAt
  rw [getD_at s k h]
  simp
  omega
theorem plainAt_no (s : ByteArray) (k : Nat) (h : k < s.size) (h1 : (s[k].toNat : Int) < 32 ∨ 126 < (s[k].toNat : Int)) : plainAt s k = false := by
  unfold plainAt
  rw [getD_at s k h]
  simp
  omega
theorem plain_succ (s : ByteArray) (k : Nat) (h : ∀ j, j < k → plainAt s j = true) (hk : plainAt s k = true) : ∀ j, j < k + 1 → plainAt s j = true := by
  intro j hj
  by_cases e : j = k
  · rw [e]; exact hk
  · exact h j (by omega)

set_option maxHeartbeats 400000 in
theorem spec_plain (s : ByteArray) (w : World) (hs : s.size ≤ maxLen) :
    Calls Try.prog 27 #[.string s] w fun e w' => e = .returned (.bool (plainB s)) ∧ w' = w := by
  unfold maxLen at hs
  go_enter Try.func27, Try.ntmps27
  go_wp2
  go_loop [3] (fun i => ∃ k : Nat, k ≤ s.size ∧ i = .int .i64 k ∧ Hid (∀ j, j < k → plainAt s j = true)) (fun i => s.size - (intOf i).toNat)
  case atStart => exact ⟨0, Nat.zero_le _, rfl, fun j hj => by omega⟩
  case round =>
    obtain ⟨k, hk, rfl, H⟩ := hrel
    by_cases hlt : k < s.size
    · by_cases h1 : (s[k].toNat : Int) < 32
      · have t1 : decide ((s[k].toNat : Int) < 32) = true := by simp; omega
        go_wp2
        go_ret
        exact ⟨ret_bool (plainB_at_false s k hlt (plainAt_no s k hlt (Or.inl h1))).symm, rfl⟩
      · have t1 : decide ((s[k].toNat : Int) < 32) = false := by simp; omega
        by_cases h2 : 126 < (s[k].toNat : Int)
        · have t2 : decide (126 < (s[k].toNat : Int)) = true := by simp; omega
          go_wp2
          go_ret
          exact ⟨ret_bool (plainB_at_false s k hlt (plainAt_no s k hlt (Or.inr h2))).symm, rfl⟩
        · have t2 : decide (126 < (s[k].toNat : Int)) = false := by simp; omega
          go_wp2
          go_round
          case rel => exact ⟨k + 1, by omega, by go_num, plain_succ s k H (plainAt_yes s k hlt (by omega) (by omega))⟩
          case measure => simp [intOf]; omega
    · go_wp2
      go_ret
      have : k = s.size := by omega
      subst this
      exact ⟨ret_bool (plainB_true s H).symm, rfl⟩

set_option maxHeartbeats 400000 in
theorem impl_plain (s : ByteArray) (w : World) :
    Calls Try.prog 28 #[.string s] w fun e w' => e = .returned (.bool (plainB s)) ∧ Below w.heap.size w w' := by
  go_enter Try.func28, Try.ntmps28
  go_wp2
  go_loopw [4] (fun _ w' => ∃ k : Nat, k ≤ s.size ∧ w' = w.iter s k ∧ Hid (∀ j, j < k → plainAt s j = true)) (fun _ w' => s.size - w'.iterPos w.heap.size)
  case atStart => exact ⟨0, Nat.zero_le _, rfl, fun j hj => by omega⟩
  case round =>
    obtain ⟨k, hk, rfl, H⟩ := hrel
    by_cases hlt : k < s.size
    · by_cases hlo : s[k].toNat < 128
      · have hnx : ∀ ty, (Instr.next (.pointer (some ⟨w.heap.size, 0, none⟩)) true ty).run Try.prog (w.iter s k) = _ := fun ty => run_next_ascii w s k ty hlt hlo
        by_cases h1 : (s[k].toNat : Int) < 32
        · have t1 : decide ((s[k].toNat : Int) < 32) = true := by simp; omega
          go_wp2
          go_ret
          exact ⟨ret_bool (plainB_at_false s k hlt (plainAt_no s k hlt (Or.inl h1))).symm, below_iter _ _ _⟩
        · have t1 : decide ((s[k].toNat : Int) < 32) = false := by simp; omega
          by_cases h2 : 126 < (s[k].toNat : Int)
          · have t2 : decide (126 < (s[k].toNat : Int)) = true := by simp; omega
            go_wp2
            go_ret
            exact ⟨ret_bool (plainB_at_false s k hlt (plainAt_no s k hlt (Or.inr h2))).symm, below_iter _ _ _⟩
          · have t2 : decide (126 < (s[k].toNat : Int)) = false := by simp; omega
            go_wp2
            go_roundw
            case rel => exact ⟨k + 1, by omega, rfl, plain_succ s k H (plainAt_yes s k hlt (by omega) (by omega))⟩
            case measure => simp; omega
      · have hd := decode_high s k hlt (by omega)
        have Hf : Hid (plainAt s k = false) := plainAt_no s k hlt (Or.inr (by omega))
        generalize hdc : (Utf8.decode s k).1 = r at hd
        generalize hdw : (Utf8.decode s k).2 = wd at hd
        have hnx : ∀ ty, (Instr.next (.pointer (some ⟨w.heap.size, 0, none⟩)) true ty).run Try.prog (w.iter s k) = .ok (.tuple #[.bool true, .int .i64 k, .int .i32 r]) (w.iter s (k + wd)) := fun ty => by rw [← hdc, ← hdw]; exact run_next_any w s k ty hlt
        clear hdc hdw hlo
        have t1 : decide ((r : Int) < 32) = false := by simp; omega
        have t2 : decide (126 < (r : Int)) = true := by simp; omega
        go_wp2
        go_ret
        exact ⟨ret_bool (plainB_at_false s k hlt Hf.out).symm, below_iter _ _ _⟩
    · have hnx : ∀ ty, (Instr.next (.pointer (some ⟨w.heap.size, 0, none⟩)) true ty).run Try.prog (w.iter s k) = _ := fun ty => run_next_end w s k ty hlt
      go_wp2
      go_ret
      have : k = s.size := by omega
      subst this
      exact ⟨ret_bool (plainB_true s H).symm, below_iter _ _ _⟩

end Go.Proofs.Ytncloiipndmmcaa
