/- Numbers in digits in the model (spec.l01Dec, from 0 on; spec.l02Digits): what each call does. -/
import Derived.Test.YtgbkpifkmkjbaaaDoorPoint
namespace Go.Proofs.YtgbkpifkmkjbaaaDoor
open Go.RowKit
open Go.Lib (decDigits)

theorem str_digit (W : World) (d : Nat) (h : d < 10) :
    (convert 22 9 (.slice (some ⟨W.heap.size, 0, none⟩) 1 1)).run Tryd.prog (W.alloc (.cells #[.int .u8 (48 + (d : Int))] 5)) = .ok (.string (strB [UInt8.ofNat (48 + d)])) (W.alloc (.cells #[.int .u8 (48 + (d : Int))] 5)) := by
  have hb : ((UInt8.ofNat (48 + d)).toNat : Int) = 48 + (d : Int) := by rw [digit_toNat d h]; omega
  have h := run_convert_bytes_back (P := Tryd.prog) (W.alloc (.cells #[.int .u8 (48 + (d : Int))] 5)) 22 9 5 ⟨W.heap.size, 0, none⟩ 1 [UInt8.ofNat (48 + d)] Tryd.underlying22 Tryd.underlying5 Tryd.underlying9 (fun j hj => by
    have hj0 : j = 0 := by simp at hj; omega
    subst hj0
    simp only [List.getElem_cons_zero, hb]
    simp [Addr.add])
  exact h
/-- What holds at the head of each round: what is left, and what is written. -/
def Left (n m : Nat) (l : List UInt8) : Prop := (if m = 0 then [] else decDigits m) ++ l = decDigits n
theorem left_step {n m : Nat} {l : List UInt8} (h : Left n m l) (hm : m ≠ 0) : Left n (m / 10) (UInt8.ofNat (48 + m % 10) :: l) := by
  unfold Left at *
  rw [if_neg hm] at h
  rw [← h]
  by_cases h10 : m < 10
  · rw [if_pos (by omega), dec_small m h10, show m % 10 = m by omega]; rfl
  · rw [if_neg (by omega), dec_big m h10, List.append_assoc]; rfl
theorem left_end {n : Nat} {l : List UInt8} (h : Left n 0 l) : l = decDigits n := by simpa [Left] using h
theorem left_len {n m : Nat} {l : List UInt8} (h : Left n m l) : l.length ≤ (decDigits n).length := by
  rw [← h, List.length_append]; omega

set_option maxHeartbeats 1000000 in
theorem spec_dec (n : Nat) (h : n ≤ 9223372036854775807) (w : World) :
    Calls Tryd.prog 60 #[.int .i64 n] w fun e w' => e = .returned (.string (strB (decDigits n))) ∧ Below w.heap.size w w' := by
  have hl20 : (decDigits n).length ≤ 20 := dec_len 19 n (by omega)
  by_cases h0 : n = 0
  · subst h0
    rw [dec_zero]
    go_enter Tryd.func60, Tryd.ntmps60
    go_wp2
    go_ret
    exact ⟨rfl, Below.refl _ _⟩
  have t0 : ((n : Int) == 0) = false := beq_eq_false_iff_ne.2 (by omega)
  have t1 : decide ((n : Int) < 0) = false := by simp
  go_enter Tryd.func60, Tryd.ntmps60
  go_wp2
  go_loopw [0, 4] (fun x v wr => ∃ (m : Nat) (l : List UInt8), x = .int .i64 m ∧ v = .string (strB l) ∧ m ≤ n ∧ (strB l).size ≤ 20 ∧ Hid (Left n m l) ∧ Below w.heap.size w wr) (fun x _ _ => (intOf x).toNat)
  case atStart => exact ⟨n, [], rfl, rfl, Nat.le_refl _, by rw [strB_size]; simp, by simp [Hid, Left, h0], Below.refl _ _⟩
  case round =>
    obtain ⟨m, l, rfl, rfl, hm, hl, H, hb⟩ := hrel
    by_cases hz : m = 0
    · subst hz
      have HE : Hid (l = decDigits n) := left_end H.out
      go_wp2
      go_ret
      exact ⟨ret_str (by rw [HE.out]), hb⟩
    · have t2 : ((m : Int) != 0) = true := by rw [bne_iff_ne]; omega
      have t3 : decide ((m : Int) % 10 < 0) = false := by simp; omega
      have H' := left_step H.out hz
      have hlen := left_len H'
      have hcv := str_digit wr (m % 10) (by omega)
      rw [show 48 + ((m % 10 : Nat) : Int) = 48 + (m : Int) % 10 by omega] at hcv
      have HL : Hid (Left n (m / 10) (UInt8.ofNat (48 + m % 10) :: l)) := H'
      have hsz : (strB [UInt8.ofNat (48 + m % 10)]).size = 1 := by rw [strB_size]; rfl
      obtain ⟨E, hE⟩ : ∃ E, E = strB [UInt8.ofNat (48 + m % 10)] := ⟨_, rfl⟩
      rw [← hE] at hcv hsz
      have HE : Hid (E = strB [UInt8.ofNat (48 + m % 10)]) := hE
      clear hE H'
      go_wp2
      go_roundw
      case rel =>
        refine ⟨m / 10, UInt8.ofNat (48 + m % 10) :: l, by go_num, ?_, by omega, by rw [strB_size]; omega, HL, hb.alloc hb.size _⟩
        rw [HE.out]
        exact congrArg Value.string (strB_append [_] l)
      case measure => simp [intOf]; omega

set_option maxHeartbeats 1000000 in
theorem spec_digits (n k : Nat) (h : n ≤ 9223372036854775807) (hk : k ≤ 8) (w : World) :
    Calls Tryd.prog 61 #[.int .i64 n, .int .i64 k] w fun e w' => e = .returned (.string (strB (padN k (decDigits n)))) ∧ Below w.heap.size w w' := by
  have hl20 : (decDigits n).length ≤ 20 := dec_len 19 n (by omega)
  go_enter Tryd.func61, Tryd.ntmps61
  go_wp2_with fail
  refine (spec_dec n h _).mono ?_
  rintro e w1 ⟨rfl, hb⟩
  go_wp2_with fail
  go_loop [5] (fun v => ∃ l : List UInt8, v = .string (strB l) ∧ (strB l).size ≤ 30 ∧ Hid (padN k l = padN k (decDigits n))) (fun v => k - lenOf v)
  case atStart => exact ⟨_, rfl, by rw [strB_size]; omega, rfl⟩
  case round =>
    obtain ⟨l, rfl, hl, HP⟩ := hrel
    by_cases hle : ((strB l).size : Int) < (k : Int)
    · go_wp2
      go_round
      case rel =>
        have hs := strB_size l
        refine ⟨48 :: l, ?_, by rw [strB_size] at *; simp at *; omega, (padN_cons _ _ (by omega)).trans HP.out⟩
        exact congrArg Value.string (strB_append [48] l)
      case measure =>
        have hs := strB_size l
        have hs2 : (({ data := #[48] } : ByteArray) ++ strB l).size = (strB l).size + 1 := by rw [ByteArray.size_append, Nat.add_comm]; rfl
        simp only [lenOf, hs2]
        omega
    · have hgt : k ≤ (strB l).size := by omega
      go_wp2_with fail
      go_ret
      refine ⟨ret_str (a := strB l) ?_, hb⟩
      rw [← HP.out, padN_done _ _ (by rw [← strB_size]; exact hgt)]
end Go.Proofs.YtgbkpifkmkjbaaaDoor
