/- DateText, of the program and of its model: what each call does. -/
import Derived.Test.YtgbkpifkmkjbaaaDoorTexts
import Derived.Test.YtgbkpifkmkjbaaaDoorDayTop
namespace Go.Proofs.YtgbkpifkmkjbaaaDoor
open Go.RowKit
open Go.Lib (decDigits)

/-- The text of a Date. -/
def dtN (y m d : Nat) : List UInt8 := decDigits y ++ 45 :: (padN 2 (decDigits m) ++ 45 :: padN 2 (decDigits d))
/-- DateText's answer. -/
def dateT (day : Int) : List UInt8 := if dayRB day then dtN (dateB day).1.toNat (dateB day).2.1.toNat (dateB day).2.2.toNat else []

theorem pad_small (n : Nat) (h : n < 10) : (48 :: decDigits n) = padN 2 (decDigits n) := by
  have hl : (decDigits n).length = 1 := by rw [dec_small n h]; rfl
  unfold padN
  rw [hl]
  rfl
theorem pad_two (n : Nat) (h : 10 ≤ n) : decDigits n = padN 2 (decDigits n) := by
  rw [padN_done]
  rw [dec_big n (by omega), List.length_append]
  have := dec_pos (n / 10)
  simp; omega
theorem un_drew {B : Nat} {w w' : World} (h : Below B w.drew w') : Below B w w' := ⟨h.os, h.tape, h.output, h.size, h.block⟩
theorem read3 {w2 w3 : World} {a b c : Value} {t : TypeId} (hb : Below (w2.alloc (.cells #[a, b, c] t)).drew.heap.size (w2.alloc (.cells #[a, b, c] t)).drew w3) :
    w2.heap.size < w3.heap.size ∧ w3.cell? ⟨w2.heap.size, 1, none⟩ = some b ∧ w3.cell? ⟨w2.heap.size, 2, none⟩ = some c := by
  have hb' : Below (w2.alloc (.cells #[a, b, c] t)).heap.size (w2.alloc (.cells #[a, b, c] t)) w3 := un_drew hb
  refine ⟨by have h := hb'.size; simp at h; omega, ?_, ?_⟩
  · rw [hb'.cell (p := ⟨w2.heap.size, 1, none⟩) (by simp)]; simp
  · rw [hb'.cell (p := ⟨w2.heap.size, 2, none⟩) (by simp)]; simp
theorem tab_drew {w w' : World} (h : Tab w) (hb : Below w.drew.heap.size w.drew w') : Tab w' := h.below (un_drew hb)
theorem read4 {w2 w3 w4 : World} {c : Value} (hb : Below w3.heap.size w3 w4) (z : w2.heap.size < w3.heap.size) (x : w3.cell? ⟨w2.heap.size, 2, none⟩ = some c) : w4.cell? ⟨w2.heap.size, 2, none⟩ = some c := by
  rw [hb.cell (p := ⟨w2.heap.size, 2, none⟩) z]; exact x
theorem str_zero (l : List UInt8) : ({ data := #[48] } : ByteArray) ++ strB l = strB (48 :: l) := strB_append [48] l
theorem str_date (a b c : List UInt8) : strB a ++ { data := #[45] } ++ strB b ++ { data := #[45] } ++ strB c = strB (a ++ 45 :: (b ++ 45 :: c)) := by
  have e : ({ data := #[45] } : ByteArray) = strB [45] := rfl
  rw [e, strB_append, strB_append, strB_append, strB_append]
  congr 1
  simp [List.append_assoc]

set_option maxHeartbeats 1000000 in
theorem impl_two (n : Nat) (hn : n < 100) (w : World) (hT : Tab w) :
    Calls Tryd.prog 81 #[.int .i64 n] w fun e w' => e = .returned (.string (strB (padN 2 (decDigits n)))) ∧ Below w.heap.size w w' := by
  have HT : Hid (Tab w) := hT
  clear hT
  have hs := dec_fits n (by omega)
  by_cases h : n < 10
  · have t : decide ((n : Int) < 10) = true := by simp; omega
    have HR : Hid (padN 2 (decDigits n) = 48 :: decDigits n) := (pad_small n h).symm
    go_enter Tryd.func81, Tryd.ntmps81
    go_wp2_with fail
    refine (dec_any n (by omega) _ HT.out).mono ?_
    rintro e w2 ⟨rfl, hb⟩
    generalize hE : strB (decDigits n) = E at *
    have HE : Hid (strB (decDigits n) = E) := hE
    clear hE
    go_wp2_with fail
    go_ret
    refine ⟨ret_str (a := ({ data := #[48] } : ByteArray) ++ E) ?_, hb⟩
    rw [HR.out, ← HE.out, str_zero]
  · have t : decide ((n : Int) < 10) = false := by simp; omega
    have HR : Hid (padN 2 (decDigits n) = decDigits n) := (pad_two n (by omega)).symm
    go_enter Tryd.func81, Tryd.ntmps81
    go_wp2_with fail
    refine (dec_any n (by omega) _ HT.out).mono ?_
    rintro e w2 ⟨rfl, hb⟩
    go_wp2_with fail
    go_ret
    refine ⟨ret_str ?_, hb⟩
    rw [HR.out]

end Go.Proofs.YtgbkpifkmkjbaaaDoor
