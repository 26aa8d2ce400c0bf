/- Numbers with a point (impl.pointText, over strconv.FormatInt): what the call does. -/
import Derived.Test.YtgbkpifkmkjbaaaDoorDig
import Derived.Test.YtgbkpifkmkjbaaaDoorCash
import Derived.Test.YtgbkpifkmkjbaaaDoorLaid
import Derived.Test.YtgbkpifkmkjbaaaDoorLayDec
import Derived.Shelf.Strconv.Itoa4
import Derived.Deep.QuietTactic
import Derived.BigQuiet
namespace Go.Proofs.YtgbkpifkmkjbaaaDoor
open Go.RowKit
open Go.Lib (decDigits)

def strB (l : List UInt8) : ByteArray := ⟨l.toArray⟩
theorem strB_size (l : List UInt8) : (strB l).size = l.length := by simp [strB, ByteArray.size]
theorem strB_append (a b : List UInt8) : strB a ++ strB b = strB (a ++ b) := by
  apply ByteArray.ext
  simp [strB]
theorem strB_extract (l : List UInt8) (a b : Nat) : (strB l).extract a b = strB ((l.drop a).take (b - a)) := ByteArray.extract_mk l a b
theorem ret_str {a b : ByteArray} (h : a = b) : Ending.returned (.string a) = .returned (.string b) := by rw [h]
def lenOf : Value → Nat | .string s => s.size | _ => 0
theorem below_grow (w : World) (k : Nat) (os : Array Obj) : Below w.heap.size w (Sort.grow (w.drewN k) os) := by
  have h1 : (w.drewN k).heap = w.heap := rfl
  refine ⟨rfl, rfl, rfl, ?_, fun j hj => ?_⟩
  · simp [Sort.grow]
  · simp only [Sort.grow, h1]
    rw [Array.getElem?_append_left hj]
theorem below_drawn (w : World) (k : Nat) : Below w.heap.size w (w.drewN k) := ⟨rfl, rfl, rfl, Nat.le_refl _, fun _ _ => rfl⟩

theorem dec_any (n : Nat) (h : n ≤ 9223372036854775807) (w : World) (hT : Tab w) :
    Calls Tryd.prog 80 #[.int .i64 n, .int .i64 10] w fun e w' => e = .returned (.string (strB (decDigits n))) ∧ Below w.heap.size w w' := by
  refine (Any.strconv_FormatInt_10 lays173 (n : Int) (by omega) (by omega) w hT).mono ?_
  rintro e w' ⟨rfl, k, os, rfl⟩
  refine ⟨?_, below_grow w k os⟩
  rw [Lib.itoa_nonneg]
  rfl

theorem padN_cons (k : Nat) (l : List UInt8) (h : l.length < k) : padN k (48 :: l) = padN k l := by
  unfold padN
  rw [List.length_cons]
  obtain ⟨m, hm⟩ : ∃ m, k - l.length = m + 1 := ⟨k - l.length - 1, by omega⟩
  rw [hm, show k - (l.length + 1) = m by omega, List.replicate_succ', List.append_assoc]
  rfl

theorem cut_str (n p : Nat) (l : List UInt8) (h : p < l.length) (hp : padN (p + 1) l = padN (p + 1) (decDigits n)) :
    (strB l).extract 0 ((strB l).size - p) ++ { data := #[46] } ++ (strB l).extract ((strB l).size - p) (strB l).size = strB (pointT p n) := by
  rw [padN_done _ _ (by omega)] at hp
  obtain ⟨_, hc⟩ := point_cut p n l hp
  have e46 : ({ data := #[46] } : ByteArray) = strB [46] := rfl
  rw [strB_size, strB_extract, strB_extract, e46, strB_append, strB_append, ← hc, List.append_assoc]
  congr 1
  rw [List.drop_zero, Nat.sub_zero, List.take_of_length_le (l := l.drop (l.length - p)) (by simp)]
  rfl

set_option maxHeartbeats 1000000 in
theorem impl_point (n p : Nat) (h : n ≤ 9223372036854775807) (hp : p ≤ 8) (w : World) (hT : Tab w) :
    Calls Tryd.prog 58 #[.int .i64 n, .int .i64 p] w fun e w' => e = .returned (.string (strB (pointT p n))) ∧ Below w.heap.size w w' := by
  have hl20 : (decDigits n).length ≤ 20 := dec_len 19 n (by omega)
  have HT : Hid (Tab w) := hT
  clear hT
  go_enter Tryd.func58, Tryd.ntmps58
  go_wp2_with fail
  refine (dec_any n h _ HT.out).mono ?_
  rintro e w1 ⟨rfl, hb⟩
  go_wp2_with fail
  go_loop [5] (fun v => ∃ l : List UInt8, v = .string (strB l) ∧ (strB l).size ≤ 30 ∧ Hid (padN (p + 1) l = padN (p + 1) (decDigits n))) (fun v => p + 1 - lenOf v)
  case atStart => exact ⟨_, rfl, by rw [strB_size]; omega, rfl⟩
  case round =>
    obtain ⟨l, rfl, hl, HP⟩ := hrel
    by_cases hle : ((strB l).size : Int) ≤ (p : Int)
    · go_wp2
      go_round
      case rel =>
        have hs := strB_size l
        refine ⟨48 :: l, ?_, by rw [strB_size] at *; simp at *; omega, (padN_cons _ _ (by omega)).trans HP.out⟩
        exact congrArg Value.string (strB_append [48] l)
      case measure =>
        have hs := strB_size l
        have hs2 : (({ data := #[48] } : ByteArray) ++ strB l).size = (strB l).size + 1 := by rw [ByteArray.size_append, Nat.add_comm]; rfl
        simp only [lenOf, hs2]
        omega
    · have hgt : p < (strB l).size := by omega
      go_wp2_with fail
      go_quiet (fail)
      go_wp2_with fail
      go_ret
      refine ⟨?_, ?_⟩
      · refine ret_str (a := (strB l).extract 0 ((strB l).size - p) ++ { data := #[46] } ++ (strB l).extract ((strB l).size - p) (strB l).size) ?_
        exact cut_str n p l (by rw [← strB_size]; exact hgt) HP.out
      · exact hb.trans ((below_drawn _ _).mono hb.size)
end Go.Proofs.YtgbkpifkmkjbaaaDoor
