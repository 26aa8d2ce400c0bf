/- What a pay leaves behind the due days, and the rows of them: of the program (rows, left) and of its model (l04Left): what each call does. -/
import Derived.Test.YtnefcldjigndgaaGreatDoorPlanRow
namespace Go.Proofs.YtnefcldjigndgaaGreatDoor
open Go.RowKit

/-- The four cells of row k (the due day k + 1) where so much is paid. -/
def rowC (p r b s pay : Int) (k : Nat) : List Value := [.int .i64 (dueI s (k + 1)), .int .i64 (intN r b s k (leftI p r b s pay k)), .int .i64 (min pay (leftI p r b s pay k + intN r b s k (leftI p r b s pay k))), .int .i64 (leftI p r b s pay (k + 1))]
def rowsC (p r b s pay : Int) : Nat → List Value
  | 0 => []
  | k + 1 => rowsC p r b s pay k ++ rowC p r b s pay k
theorem rowsC_len (p r b s pay : Int) : ∀ n, (rowsC p r b s pay n).length = n * 4
  | 0 => rfl
  | k + 1 => by rw [rowsC, List.length_append, rowsC_len p r b s pay k]; simp [rowC]; omega
theorem rowsC_at (p r b s pay : Int) (k j : Nat) (hj : j < 4) : ∀ n, k < n → (rowsC p r b s pay n)[k * 4 + j]? = (rowC p r b s pay k)[j]?
  | 0, h => by omega
  | n + 1, h => by
    rw [rowsC]
    have hl := rowsC_len p r b s pay n
    rcases (by omega : k < n ∨ k = n) with hk | rfl
    · rw [List.getElem?_append_left (by omega)]
      exact rowsC_at p r b s pay k j hj n hk
    · rw [List.getElem?_append_right (by omega), hl]
      congr 1
      omega
theorem rowV_at (p r b s pay : Int) (k : Nat) : rowV (dueI s (k + 1)) (intN r b s k (leftI p r b s pay k)) (leftI p r b s pay k) pay = .agg #[.int .i64 (dueI s (k + 1)), .int .i64 (intN r b s k (leftI p r b s pay k)), .int .i64 (min pay (leftI p r b s pay k + intN r b s k (leftI p r b s pay k))), .int .i64 (leftI p r b s pay (k + 1))] := by
  rw [rowV, ← leftI_succ]

set_option maxRecDepth 100000 in
set_option maxHeartbeats 4000000 in
theorem spec_left {p r b s : Int} {n : Nat} (h : LoanOk p r b s n) {pay : Int} (y0 : 0 ≤ pay) (y1 : pay ≤ 20000000000) (v : Value) (w : World) (hv : Due w v s (n + 1)) :
    Calls Tryz.prog 43 #[.agg #[.int .i64 p, .int .i64 r, .int .i64 b, .int .i64 s, .int .i64 (n : Int)], v, .int .i64 pay] w fun e w' => e = .returned (.int .i64 (leftI p r b s pay n)) ∧ Below w.heap.size w w' := by
  have t1 := h.t1
  have HD : Hid (∀ k : Nat, k < n → ∀ w, Due w v s (n + 1) → Calls Tryz.prog 59 #[.agg #[.int .i64 p, .int .i64 r, .int .i64 b, .int .i64 s, .int .i64 (n : Int)], v, .int .i64 ((k + 1 : Nat) : Int), .int .i64 (leftI p r b s pay k), .int .i64 pay] w fun e w' => e = .returned (.agg #[.int .i64 (dueI s (k + 1)), .int .i64 (intN r b s k (leftI p r b s pay k)), .int .i64 (min pay (leftI p r b s pay k + intN r b s k (leftI p r b s pay k))), .int .i64 (leftI p r b s pay (k + 1))]) ∧ Below w.heap.size w w') := fun k hk w hv => by
    obtain ⟨l0, l1⟩ := h.small y0 k (by omega)
    have := spec_row h k (k + 1) rfl (by omega) l0 l1 y0 y1 n rfl v w hv
    rw [rowV_at] at this
    exact this
  have fld : ∀ (x1 x2 x3 x4 : Int) w, (Instr.field 79 (.agg #[.int .i64 x1, .int .i64 x2, .int .i64 x3, .int .i64 x4]) 3).run Tryz.prog w = .ok (.int .i64 x4) w := fun _ _ _ _ w => by kernel_rfl
  have HV : Hid (Due w v s (n + 1)) := hv
  have HL0 : Hid (leftI p r b s pay 0 = p) := leftI_zero p r b s pay
  clear h hv
  generalize hF : leftI p r b s pay = F at *
  have HF : Hid (leftI p r b s pay = F) := hF
  clear hF
  go_enter Tryz.func43, Tryz.ntmps43
  go_wp2_with fail
  go_loopw [7, 8] (fun l i wr => ∃ K : Nat, i = .int .i64 K ∧ 1 ≤ K ∧ K ≤ n + 1 ∧ l = .int .i64 (F (K - 1)) ∧ Below (w.heap.size + 1) (w.alloc (.cells #[.int .i64 p, .int .i64 r, .int .i64 b, .int .i64 s, .int .i64 (n : Int)] 34)) wr) (fun _ i _ => n + 1 - (intOf i).toNat)
  case atStart => exact ⟨1, rfl, by omega, by omega, by rw [HL0.out], Below.refl _ _⟩
  case round =>
    obtain ⟨K, rfl, K0, K1, rfl, hb⟩ := hrel
    have cB : ∀ j, wr.cell? ⟨w.heap.size, j, none⟩ = (#[.int .i64 p, .int .i64 r, .int .i64 b, .int .i64 s, .int .i64 (n : Int)] : Array Value)[j]? := fun j => (hb.cell (p := ⟨w.heap.size, j, none⟩) (by simp)).trans (cell_new_at rfl j)
    have HBr : Hid (Below w.heap.size w wr) := ((Below.refl _ _).alloc (Nat.le_refl _) _).trans (hb.mono (by omega))
    have hsr : w.heap.size + 1 ≤ wr.heap.size := by have := hb.size; simpa using this
    by_cases hk : K ≤ n
    · have q0 : decide (K ≤ n) = true := by simpa using hk
      have q1 : decide ((K : Int) ≤ (n : Int)) = true := by simpa using hk
      obtain ⟨k, rfl⟩ : ∃ k, K = k + 1 := ⟨K - 1, by omega⟩
      have H := HD.out k (by omega)
      have HH : Hid (∀ w, Due w v s (n + 1) → Calls Tryz.prog 59 #[.agg #[.int .i64 p, .int .i64 r, .int .i64 b, .int .i64 s, .int .i64 (n : Int)], v, .int .i64 ((k + 1 : Nat) : Int), .int .i64 (F k), .int .i64 pay] w fun e w' => e = .returned (.agg #[.int .i64 (dueI s (k + 1)), .int .i64 (intN r b s k (F k)), .int .i64 (min pay (F k + intN r b s k (F k))), .int .i64 (F (k + 1))]) ∧ Below w.heap.size w w') := H
      clear H
      generalize hK : k + 1 = K at *
      have hKk : K - 1 = k := by omega
      have HK : Hid (k + 1 = K) := hK
      rw [hKk]
      clear hK hKk
      go_wp2_with fail
      refine (HH.out _ (by exact HV.out.below HBr.out)).mono ?_
      rintro e w1 ⟨rfl, hb1⟩
      have HB1 : Hid (Below (w.heap.size + 1) (w.alloc (.cells #[.int .i64 p, .int .i64 r, .int .i64 b, .int .i64 s, .int .i64 (n : Int)] 34)) w1) := hb.trans (hb1.mono hsr)
      clear hb1 hb cB
      go_wp2
      go_roundw
      case rel => exact ⟨K + 1, by go_num, by omega, by omega, by rw [Nat.add_sub_cancel], HB1.out⟩
      case measure => simp [intOf]; omega
    · have q0 : decide (K ≤ n) = false := by simpa using hk
      have q1 : decide ((K : Int) ≤ (n : Int)) = false := by simpa using hk
      obtain rfl : K = n + 1 := by omega
      go_wp2_with fail
      go_ret
      exact ⟨by rw [Nat.add_sub_cancel]; rfl, HBr.out⟩
end Go.Proofs.YtnefcldjigndgaaGreatDoor
