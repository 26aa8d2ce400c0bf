/- The digits of a text, whatever stands between them (spec.l02Plain, impl.readDigits): what each call does. -/
import Derived.Test.YtgbkpifkmkjbaaaDoorTexts
import Derived.Laws.RangeAny
namespace Go.Proofs.YtgbkpifkmkjbaaaDoor
open Go.RowKit

def bytesOf (s : ByteArray) : List UInt8 := s.data.toList
theorem bytesOf_len (s : ByteArray) : (bytesOf s).length = s.size := by unfold bytesOf; rw [Array.length_toList]; rfl
theorem strB_bytesOf (s : ByteArray) : strB (bytesOf s) = s := by
  apply ByteArray.ext
  simp [strB, bytesOf]
theorem bytesOf_strB (l : List UInt8) : bytesOf (strB l) = l := by simp [strB, bytesOf]
theorem bytesOf_take (s : ByteArray) (k : Nat) (h : k < s.size) : (bytesOf s).take (k + 1) = (bytesOf s).take k ++ [s[k]] := by
  unfold bytesOf
  rw [List.take_succ_eq_append_getElem (by simpa using h)]; rfl
theorem below_iter (w : World) (s : ByteArray) (p : Nat) : Below w.heap.size w (w.iter s p) := (Below.refl _ _).alloc (Nat.le_refl _) _
theorem dval_yes (s : ByteArray) (k : Nat) (h : k < s.size) (h1 : 48 ≤ (s[k].toNat : Int)) (h2 : (s[k].toNat : Int) ≤ 57) : (dval ((bytesOf s).take (k + 1)) : Int) = 10 * dval ((bytesOf s).take k) + (s[k].toNat - 48) := by
  rw [bytesOf_take s k h, dval_snoc, dstep_yes _ _ (by simp [isD]; omega)]
  omega
theorem dval_no (s : ByteArray) (k : Nat) (h : k < s.size) (h1 : (s[k].toNat : Int) < 48 ∨ 57 < (s[k].toNat : Int)) : dval ((bytesOf s).take (k + 1)) = dval ((bytesOf s).take k) := by
  rw [bytesOf_take s k h, dval_snoc, dstep_no _ _ (by simp [isD]; omega)]
theorem dcount_yes (s : ByteArray) (k : Nat) (h : k < s.size) (h1 : 48 ≤ (s[k].toNat : Int)) (h2 : (s[k].toNat : Int) ≤ 57) : dcount ((bytesOf s).take (k + 1)) = dcount ((bytesOf s).take k) + 1 := by
  rw [bytesOf_take s k h, dcount_snoc, if_pos (by simp [isD]; omega)]
theorem dcount_no (s : ByteArray) (k : Nat) (h : k < s.size) (h1 : (s[k].toNat : Int) < 48 ∨ 57 < (s[k].toNat : Int)) : dcount ((bytesOf s).take (k + 1)) = dcount ((bytesOf s).take k) := by
  rw [bytesOf_take s k h, dcount_snoc, if_neg (by simp [isD]; omega)]; rfl
theorem take_all (s : ByteArray) : (bytesOf s).take s.size = bytesOf s := List.take_of_length_le (by rw [bytesOf_len]; exact Nat.le_refl _)
theorem dcount_take (l : List UInt8) (k : Nat) : dcount (l.take k) ≤ dcount l := by
  have : dcount l = dcount (l.take k) + dcount (l.drop k) := by
    unfold dcount
    rw [← List.length_append, ← List.filter_append, List.take_append_drop]
  omega

theorem get_in (s : ByteArray) (i : Nat) (h : i < s.size) : s.get! i = s[i]'h := by
  simp [ByteArray.get!, getElem!_pos, h]
  rfl
/-- Every byte of a rune that begins with a high byte is a high one. -/
theorem decode_bytes (s : ByteArray) (k : Nat) (h : k < s.size) (ha : 128 ≤ (s[k]'h).toNat) : ∀ j, j < (Utf8.decode s k).2 → ∃ hj : k + j < s.size, 128 ≤ (s[k + j]'hj).toNat := by
  have hn : ¬ (s[k]'h).toNat < 128 := by omega
  have c : ∀ j, (decide (k + j < s.size) && (s.get! (k + j)).toNat / 64 == 2) = true → ∃ hj : k + j < s.size, 128 ≤ (s[k + j]'hj).toNat := by
    intro j hj
    simp only [Bool.and_eq_true, decide_eq_true_eq, beq_iff_eq] at hj
    refine ⟨hj.1, ?_⟩
    rw [← get_in s (k + j) hj.1]
    omega
  have c0 : ∃ hj : k + 0 < s.size, 128 ≤ (s[k + 0]'hj).toNat := ⟨h, ha⟩
  have one : ∀ j, j < 1 → ∃ hj : k + j < s.size, 128 ≤ (s[k + j]'hj).toNat := by
    intro j hj
    have : j = 0 := by omega
    subst this
    exact c0
  simp only [Utf8.decode, get_at s k h, hn, if_false]
  split
  · rename_i h1
    simp only [Bool.and_eq_true] at h1
    split
    · intro j hj
      match j, hj with
      | 0, _ => exact c0
      | 1, _ => exact c 1 (by simpa using h1.2)
    · exact one
  split
  · rename_i h1
    simp only [Bool.and_eq_true] at h1
    split
    · intro j hj
      match j, hj with
      | 0, _ => exact c0
      | 1, _ => exact c 1 (by simpa using h1.1.2)
      | 2, _ => exact c 2 (by simpa using h1.2)
    · exact one
  split
  · rename_i h1
    simp only [Bool.and_eq_true] at h1
    split
    · intro j hj
      match j, hj with
      | 0, _ => exact c0
      | 1, _ => exact c 1 (by simpa using h1.1.1.2)
      | 2, _ => exact c 2 (by simpa using h1.1.2)
      | 3, _ => exact c 3 (by simpa using h1.2)
    · exact one
  · exact one
theorem dval_skip (s : ByteArray) (k : Nat) : ∀ d, (∀ j, j < d → ∃ hj : k + j < s.size, 128 ≤ (s[k + j]'hj).toNat) → dval ((bytesOf s).take (k + d)) = dval ((bytesOf s).take k) ∧ (d = 0 ∨ k + d ≤ s.size)
  | 0, _ => ⟨rfl, Or.inl rfl⟩
  | d + 1, h => by
    obtain ⟨hj, hb⟩ := h d (by omega)
    obtain ⟨e, _⟩ := dval_skip s k d (fun j hj => h j (by omega))
    refine ⟨?_, Or.inr (by omega)⟩
    rw [← Nat.add_assoc, dval_no s (k + d) hj (Or.inr (by omega)), e]

def digB (s : ByteArray) : Int × Int := if 20000 < s.size then (0, 2) else if dval (bytesOf s) ≤ 1000000000000 then ((dval (bytesOf s) : Int), 0) else (0, 3)

set_option maxHeartbeats 1000000 in
theorem impl_digits (s : ByteArray) (w : World) (hs : s.size ≤ maxLen) :
    Calls Tryd.prog 96 #[.string s] w fun e w' => e = .returned (tupV (digB s)) ∧ Below w.heap.size w w' := by
  unfold maxLen at hs
  by_cases hsz : 20000 < s.size
  · have HR : Hid (digB s = (0, 2)) := by unfold Hid digB; rw [if_pos hsz]
    have t0 : decide (20000 < (s.size : Int)) = true := by simp; omega
    go_enter Tryd.func96, Tryd.ntmps96
    go_wp2
    go_ret2
    refine ⟨?_, Below.refl _ _⟩
    rw [HR.out, tupV_err _ _ (by decide)]; rfl
  have t0 : decide (20000 < (s.size : Int)) = false := by simp; omega
  have HD : Hid (digB s = if dval (bytesOf s) ≤ 1000000000000 then ((dval (bytesOf s) : Int), 0) else (0, 3)) := by unfold Hid digB; rw [if_neg hsz]
  go_enter Tryd.func96, Tryd.ntmps96
  go_wp2
  go_loopw [4] (fun x w' => ∃ k v : Nat, k ≤ s.size ∧ w' = w.iter s k ∧ x = .int .i64 v ∧ v ≤ 1000000000000 ∧ Hid (v = dval ((bytesOf s).take k))) (fun _ w' => s.size - w'.iterPos w.heap.size)
  case atStart => exact ⟨0, 0, Nat.zero_le _, rfl, rfl, by omega, rfl⟩
  case round =>
    obtain ⟨k, v, hk, rfl, rfl, hv, H⟩ := hrel
    by_cases hlt : k < s.size
    · by_cases hlo : s[k].toNat < 128
      · have hnx : ∀ ty, (Instr.next (.pointer (some ⟨w.heap.size, 0, none⟩)) true ty).run Tryd.prog (w.iter s k) = _ := fun ty => run_next_ascii w s k ty hlt hlo
        by_cases h1 : (s[k].toNat : Int) < 48
        · have t1 : decide ((s[k].toNat : Int) < 48) = true := by simp; omega
          have HN : Hid (v = dval ((bytesOf s).take (k + 1))) := by rw [Hid, dval_no s k hlt (Or.inl h1)]; exact H.out
          go_wp2
          go_roundw
          case rel => exact ⟨k + 1, v, by omega, rfl, rfl, hv, HN⟩
          case measure => simp; omega
        have t1 : decide ((s[k].toNat : Int) < 48) = false := by simp; omega
        by_cases h2 : 57 < (s[k].toNat : Int)
        · have t2 : decide (57 < (s[k].toNat : Int)) = true := by simp; omega
          have HN : Hid (v = dval ((bytesOf s).take (k + 1))) := by rw [Hid, dval_no s k hlt (Or.inr h2)]; exact H.out
          go_wp2
          go_roundw
          case rel => exact ⟨k + 1, v, by omega, rfl, rfl, hv, HN⟩
          case measure => simp; omega
        have t2 : decide (57 < (s[k].toNat : Int)) = false := by simp; omega
        have hstep := dval_yes s k hlt (by omega) (by omega)
        rw [← H.out] at hstep
        by_cases h3 : 1000000000000 < 10 * (v : Int) + ((s[k].toNat : Int) - 48)
        · have t3 : decide (1000000000000 < 10 * (v : Int) + ((s[k].toNat : Int) - 48)) = true := by simp; omega
          have HR : Hid (digB s = (0, 3)) := by
            rw [Hid, HD.out, if_neg]
            have := dval_take (bytesOf s) (k + 1)
            omega
          clear hstep
          go_wp2
          go_ret2
          refine ⟨?_, below_iter _ _ _⟩
          rw [HR.out, tupV_err _ _ (by decide)]; rfl
        · have t3 : decide (1000000000000 < 10 * (v : Int) + ((s[k].toNat : Int) - 48)) = false := by simp; omega
          have HN : Hid ((dval ((bytesOf s).take (k + 1)) : Int) = 10 * v + (s[k].toNat - 48)) := hstep
          clear hstep
          go_wp2
          go_roundw
          case rel =>
            have hn := HN.out
            refine ⟨k + 1, dval ((bytesOf s).take (k + 1)), by omega, rfl, ?_, by omega, rfl⟩
            rw [hn]
          case measure => simp; omega
      · have hd := decode_high s k hlt (by omega)
        have hsk := dval_skip s k _ (decode_bytes s k hlt (by omega))
        generalize hdc : (Utf8.decode s k).1 = r at hd
        generalize hdw : (Utf8.decode s k).2 = wd at hd hsk
        have hnx : ∀ ty, (Instr.next (.pointer (some ⟨w.heap.size, 0, none⟩)) true ty).run Tryd.prog (w.iter s k) = .ok (.tuple #[.bool true, .int .i64 k, .int .i32 r]) (w.iter s (k + wd)) := fun ty => by rw [← hdc, ← hdw]; exact run_next_any w s k ty hlt
        clear hdc hdw hlo
        have t1 : decide ((r : Int) < 48) = false := by simp; omega
        have t2 : decide (57 < (r : Int)) = true := by simp; omega
        have HN : Hid (v = dval ((bytesOf s).take (k + wd))) := by rw [Hid, hsk.1]; exact H.out
        have hkw : k + wd ≤ s.size := by rcases hsk.2 with h | h <;> omega
        clear hsk
        go_wp2
        go_roundw
        case rel => exact ⟨k + wd, v, hkw, rfl, rfl, hv, HN⟩
        case measure => simp; omega
    · have hnx : ∀ ty, (Instr.next (.pointer (some ⟨w.heap.size, 0, none⟩)) true ty).run Tryd.prog (w.iter s k) = _ := fun ty => run_next_end w s k ty hlt
      have HR : Hid (digB s = ((v : Int), 0)) := by
        have hks : k = s.size := by omega
        have h := H.out
        rw [hks, take_all] at h
        rw [Hid, HD.out, ← h, if_pos hv]
      go_wp2
      go_ret2
      refine ⟨?_, below_iter _ _ _⟩
      rw [HR.out, tupV_ok]; rfl

set_option maxRecDepth 100000 in
set_option maxHeartbeats 1000000 in
theorem spec_plain_yes (s : ByteArray) (w : World) (hs : s.size ≤ maxLen) (hc : dcount (bytesOf s) ≤ 17) :
    Calls Tryd.prog 66 #[.string s] w fun e w' => e = .returned (.tuple #[.int .i64 (dval (bytesOf s) : Int), .bool true]) ∧ w' = w := by
  unfold maxLen at hs
  have HC : Hid (dcount (bytesOf s) ≤ 17) := hc
  clear hc
  go_enter Tryd.func66, Tryd.ntmps66
  go_wp2
  go_loop [4, 5, 6] (fun x y i => ∃ k v m : Nat, k ≤ s.size ∧ i = .int .i64 k ∧ x = .int .i64 v ∧ y = .int .i64 m ∧ v ≤ 100000000000000000 ∧ m ≤ 17 ∧ Hid (v = dval ((bytesOf s).take k) ∧ m = dcount ((bytesOf s).take k))) (fun _ _ i => s.size - (intOf i).toNat)
  case atStart => exact ⟨0, 0, 0, Nat.zero_le _, rfl, rfl, rfl, by omega, by omega, rfl, rfl⟩
  case round =>
    obtain ⟨k, v, m, hk, rfl, rfl, rfl, hv, hm, H⟩ := hrel
    by_cases hlt : k < s.size
    · have hb8 : (s[k].toNat : Int) < 256 := by have := s[k].toNat_lt; omega
      by_cases h1 : (s[k].toNat : Int) < 48
      · have t1 : decide (48 ≤ (s[k].toNat : Int)) = false := by simp; omega
        have HN : Hid (v = dval ((bytesOf s).take (k + 1)) ∧ m = dcount ((bytesOf s).take (k + 1))) := by
          rw [Hid, dval_no s k hlt (Or.inl h1), dcount_no s k hlt (Or.inl h1)]; exact H.out
        go_wp2
        go_round
        case rel => exact ⟨k + 1, v, m, by omega, by go_num, rfl, rfl, hv, hm, HN⟩
        case measure => simp [intOf]; omega
      have t1 : decide (48 ≤ (s[k].toNat : Int)) = true := by simp; omega
      by_cases h2 : 57 < (s[k].toNat : Int)
      · have t2 : decide ((s[k].toNat : Int) ≤ 57) = false := by simp; omega
        have HN : Hid (v = dval ((bytesOf s).take (k + 1)) ∧ m = dcount ((bytesOf s).take (k + 1))) := by
          rw [Hid, dval_no s k hlt (Or.inr h2), dcount_no s k hlt (Or.inr h2)]; exact H.out
        go_wp2
        go_round
        case rel => exact ⟨k + 1, v, m, by omega, by go_num, rfl, rfl, hv, hm, HN⟩
        case measure => simp [intOf]; omega
      have t2 : decide ((s[k].toNat : Int) ≤ 57) = true := by simp; omega
      have hstep := dval_yes s k hlt (by omega) (by omega)
      have hcnt := dcount_yes s k hlt (by omega) (by omega)
      rw [← H.out.1] at hstep
      rw [← H.out.2] at hcnt
      have hle := dcount_take (bytesOf s) (k + 1)
      have hm17 : m + 1 ≤ 17 := by have := HC.out; omega
      have hlt17 : dval ((bytesOf s).take (k + 1)) < 100000000000000000 := by
        have h := dval_bd ((bytesOf s).take (k + 1))
        have h' := Nat.pow_le_pow_right (n := 10) (by omega) (show dcount ((bytesOf s).take (k + 1)) ≤ 17 by omega)
        omega
      have HN : Hid ((dval ((bytesOf s).take (k + 1)) : Int) = 10 * v + (s[k].toNat - 48) ∧ dcount ((bytesOf s).take (k + 1)) = m + 1 ∧ dval ((bytesOf s).take (k + 1)) < 100000000000000000) := ⟨hstep, hcnt, hlt17⟩
      clear hstep hcnt hle hlt17
      go_wp2
      go_round
      case rel =>
        obtain ⟨hn, hc1, h17⟩ := HN.out
        refine ⟨k + 1, dval ((bytesOf s).take (k + 1)), m + 1, by omega, by go_num, ?_, by go_num, by omega, by omega, rfl, hc1.symm⟩
        rw [hn]
      case measure => simp [intOf]; omega
    · have HR : Hid (v = dval (bytesOf s)) := by
        have hks : k = s.size := by omega
        have h := H.out.1
        rw [hks, take_all] at h
        exact h
      go_wp2
      go_ret2
      refine ⟨?_, rfl⟩
      rw [← HR.out]; rfl
set_option maxRecDepth 100000 in
set_option maxHeartbeats 1000000 in
theorem spec_plain_no (s : ByteArray) (w : World) (hs : s.size ≤ maxLen) (hc : 17 < dcount (bytesOf s)) :
    Calls Tryd.prog 66 #[.string s] w fun e w' => e = .returned (.tuple #[.int .i64 0, .bool false]) ∧ w' = w := by
  unfold maxLen at hs
  have HC : Hid (17 < dcount (bytesOf s)) := hc
  clear hc
  go_enter Tryd.func66, Tryd.ntmps66
  go_wp2
  go_loop [4, 5, 6] (fun x y i => ∃ k v m : Nat, k ≤ s.size ∧ i = .int .i64 k ∧ x = .int .i64 v ∧ y = .int .i64 m ∧ v ≤ 100000000000000000 ∧ m ≤ 17 ∧ Hid (v = dval ((bytesOf s).take k) ∧ m = dcount ((bytesOf s).take k))) (fun _ _ i => s.size - (intOf i).toNat)
  case atStart => exact ⟨0, 0, 0, Nat.zero_le _, rfl, rfl, rfl, by omega, by omega, rfl, rfl⟩
  case round =>
    obtain ⟨k, v, m, hk, rfl, rfl, rfl, hv, hm, H⟩ := hrel
    by_cases hlt : k < s.size
    · have hb8 : (s[k].toNat : Int) < 256 := by have := s[k].toNat_lt; omega
      by_cases h1 : (s[k].toNat : Int) < 48
      · have t1 : decide (48 ≤ (s[k].toNat : Int)) = false := by simp; omega
        have HN : Hid (v = dval ((bytesOf s).take (k + 1)) ∧ m = dcount ((bytesOf s).take (k + 1))) := by
          rw [Hid, dval_no s k hlt (Or.inl h1), dcount_no s k hlt (Or.inl h1)]; exact H.out
        go_wp2
        go_round
        case rel => exact ⟨k + 1, v, m, by omega, by go_num, rfl, rfl, hv, hm, HN⟩
        case measure => simp [intOf]; omega
      have t1 : decide (48 ≤ (s[k].toNat : Int)) = true := by simp; omega
      by_cases h2 : 57 < (s[k].toNat : Int)
      · have t2 : decide ((s[k].toNat : Int) ≤ 57) = false := by simp; omega
        have HN : Hid (v = dval ((bytesOf s).take (k + 1)) ∧ m = dcount ((bytesOf s).take (k + 1))) := by
          rw [Hid, dval_no s k hlt (Or.inr h2), dcount_no s k hlt (Or.inr h2)]; exact H.out
        go_wp2
        go_round
        case rel => exact ⟨k + 1, v, m, by omega, by go_num, rfl, rfl, hv, hm, HN⟩
        case measure => simp [intOf]; omega
      have t2 : decide ((s[k].toNat : Int) ≤ 57) = true := by simp; omega
      have hstep := dval_yes s k hlt (by omega) (by omega)
      have hcnt := dcount_yes s k hlt (by omega) (by omega)
      rw [← H.out.1] at hstep
      rw [← H.out.2] at hcnt
      by_cases hm17 : m + 1 ≤ 17
      · have hlt17 : dval ((bytesOf s).take (k + 1)) < 100000000000000000 := by
          have h := dval_bd ((bytesOf s).take (k + 1))
          have h' := Nat.pow_le_pow_right (n := 10) (by omega) (show dcount ((bytesOf s).take (k + 1)) ≤ 17 by omega)
          omega
        have HN : Hid ((dval ((bytesOf s).take (k + 1)) : Int) = 10 * v + (s[k].toNat - 48) ∧ dcount ((bytesOf s).take (k + 1)) = m + 1 ∧ dval ((bytesOf s).take (k + 1)) < 100000000000000000) := ⟨hstep, hcnt, hlt17⟩
        clear hstep hcnt hlt17
        go_wp2
        go_round
        case rel =>
          obtain ⟨hn, hc1, h17⟩ := HN.out
          refine ⟨k + 1, dval ((bytesOf s).take (k + 1)), m + 1, by omega, by go_num, ?_, by go_num, by omega, by omega, rfl, hc1.symm⟩
          rw [hn]
        case measure => simp [intOf]; omega
      · have hm : m = 17 := by omega
        subst hm
        clear hstep hcnt
        go_wp2
        go_ret2
        exact ⟨rfl, rfl⟩
    · exfalso
      have hks : k = s.size := by omega
      have h := H.out.2
      rw [hks, take_all] at h
      have := HC.out
      omega
end Go.Proofs.YtgbkpifkmkjbaaaDoor
