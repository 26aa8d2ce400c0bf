/- The two sums (spec.Sum, impl.Sum) answer alike: what each call does. No condition. -/
import Derived.Test.YthjanamnkhggfaaDoorBase
namespace Go.Proofs.YthjanamnkhggfaaDoor.Draw
open Go.RowKit


def sumStep (n : Int) (b : UInt8) : Int := (257 * n + (b.toNat : Int)) % 4294967291
def sumL (l : List UInt8) : Int := l.foldl sumStep 7
def sumB (s : ByteArray) : Int := if s.size ≤ 20000 then sumL s.data.toList else 0
theorem sumL_snoc (l : List UInt8) (b : UInt8) : sumL (l ++ [b]) = (257 * sumL l + b.toNat) % 4294967291 := by
  simp [sumL, sumStep, List.foldl_append]
theorem sum_bd : ∀ (l : List UInt8) (n : Int), 0 ≤ n → n < 4294967291 → 0 ≤ l.foldl sumStep n ∧ l.foldl sumStep n < 4294967291
  | [], n, h0, h1 => ⟨h0, h1⟩
  | b :: l, n, h0, h1 => by rw [List.foldl_cons]; exact sum_bd l _ (by unfold sumStep; omega) (by unfold sumStep; omega)
theorem sumL_bd (l : List UInt8) : 0 ≤ sumL l ∧ sumL l < 4294967291 := sum_bd l 7 (by omega) (by omega)



set_option maxHeartbeats 400000 in
theorem spec_sum (s : ByteArray) (w : World) (hs : s.size ≤ maxLen) :
    Calls Tryd.prog 62 #[.string s] w fun e w' => e = .returned (.int .i64 (sumB s)) ∧ w' = w := by
  unfold maxLen at hs
  by_cases h1 : s.size ≤ 20000
  · have b1 : decide (20000 < (s.size : Int)) = false := by simp; omega
    go_enter Tryd.func62, Tryd.ntmps62
    go_wp2
    go_loop [3, 4] (fun n i => ∃ k : Nat, k ≤ s.size ∧ i = .int .i64 k ∧ n = .int .i64 (sumL (s.data.toList.take k))) (fun _ i => s.size - (intOf i).toNat)
    case atStart => exact ⟨0, Nat.zero_le _, rfl, rfl⟩
    case round =>
      obtain ⟨k, hk, rfl, rfl⟩ := hrel
      have hd := sumL_bd (s.data.toList.take k)
      by_cases hlt : k < s.size
      · have hsn : Hid (sumL (s.data.toList.take (k + 1)) = (257 * sumL (s.data.toList.take k) + s[k].toNat) % 4294967291) := by rw [take_snoc s k hlt]; exact sumL_snoc _ _
        have hby := byte_lt s[k]
        generalize hy : sumL (s.data.toList.take k) = y at *
        clear hy
        go_wp2
        go_round
        case rel => exact ⟨k + 1, by omega, by go_num, by rw [hsn.out]⟩
        case measure => simp [intOf]; omega
      · go_wp2
        go_ret
        refine ⟨ret_int ?_, rfl⟩
        rw [List.take_of_length_le (by simp; omega)]
        simp [sumB, h1]
  · have b1 : decide (20000 < (s.size : Int)) = true := by simp; omega
    go_enter Tryd.func62, Tryd.ntmps62
    go_wp2
    go_ret
    exact ⟨ret_int (by simp [sumB, h1]), rfl⟩

theorem bytes_of (s : ByteArray) (w : World) : ∃ (cap : Nat) (W : World), s.size ≤ cap ∧ (convert 9 22 (.string s)).run Tryd.prog w = .ok (.slice (some ⟨w.heap.size, 0, none⟩) s.size cap) W ∧
    Below w.heap.size w W ∧ ∀ j (h : j < s.size), W.cell? ⟨w.heap.size, j, none⟩ = some (.int .u8 s[j].toNat) := by
  refine ⟨_, _, grownCap_ge w s.size 0 5, run_bytes_of_string w 9 22 5 s Tryd.underlying9 Tryd.underlying22 Tryd.underlying5, ?_, ?_⟩
  · exact ((Below.refl _ _).drew).alloc (Nat.le_refl _) _
  · intro j hj
    have := World.cell?_alloc_mark w.drew (bytesRow s (grownCap w s.size 0 5)) 5 ((bytesRow s (grownCap w s.size 0 5)).size, (bytesRow s (grownCap w s.size 0 5)).size + 1) j
    refine Eq.trans this ?_
    exact bytesRow_at s _ j hj

set_option maxHeartbeats 400000 in
theorem impl_sum (s : ByteArray) (w : World) (hs : s.size ≤ maxLen) :
    Calls Tryd.prog 98 #[.string s] w fun e w' => e = .returned (.int .i64 (sumB s)) ∧ Below w.heap.size w w' := by
  unfold maxLen at hs
  by_cases h1 : s.size ≤ 20000
  · have b1 : decide (20000 < (s.size : Int)) = false := by simp; omega
    obtain ⟨cap, W, hcap, hcv, hb, hcell⟩ := bytes_of s w
    go_enter Tryd.func98, Tryd.ntmps98
    go_wp2
    go_loop [3, 12] (fun n i => ∃ k : Nat, k ≤ s.size ∧ i = .int .i64 k ∧ n = .int .i64 (sumL (s.data.toList.take k))) (fun _ i => s.size - (intOf i).toNat)
    case atStart => exact ⟨0, Nat.zero_le _, rfl, rfl⟩
    case round =>
      obtain ⟨k, hk, rfl, rfl⟩ := hrel
      have hd := sumL_bd (s.data.toList.take k)
      by_cases hlt : k < s.size
      · have hsn : Hid (sumL (s.data.toList.take (k + 1)) = (257 * sumL (s.data.toList.take k) + s[k].toNat) % 4294967291) := by rw [take_snoc s k hlt]; exact sumL_snoc _ _
        have hby := byte_lt s[k]
        have hck := hcell k hlt
        generalize hy : sumL (s.data.toList.take k) = y at *
        clear hy hcv hcell
        go_wp2
        go_round
        case rel => exact ⟨k + 1, by omega, by go_num, by rw [hsn.out, Int.mul_comm 257 y]⟩
        case measure => simp [intOf]; omega
      · clear hcv hcell
        go_wp2
        go_ret
        refine ⟨ret_int ?_, hb⟩
        rw [List.take_of_length_le (by simp; omega)]
        simp [sumB, h1]
  · have b1 : decide (20000 < (s.size : Int)) = true := by simp; omega
    go_enter Tryd.func98, Tryd.ntmps98
    go_wp2
    go_ret
    exact ⟨ret_int (by simp [sumB, h1]), Below.refl _ _⟩


end Go.Proofs.YthjanamnkhggfaaDoor.Draw
