/- DateRead of the model: what the call does. -/
import Derived.Test.YtgbkpifkmkjbaaaDoorDRead
import Derived.Test.YtgbkpifkmkjbaaaDoorDTextS
namespace Go.Proofs.YtgbkpifkmkjbaaaDoor
open Go.RowKit
open Go.Lib (decDigits)


set_option maxRecDepth 100000 in
set_option maxHeartbeats 2000000 in
theorem spec_dateRead (s : ByteArray) (w : World) (hs : s.size ≤ maxLen) :
    Calls Tryd.prog 39 #[.string s] w fun e w' => e = .returned (moneyV (readDt (bytesOf s))) ∧ Below w.heap.size w w' := by
  have hs' := hs
  unfold maxLen at hs'
  have hlen := bytesOf_len s
  by_cases hsz : 20000 < s.size
  · have HR : Hid (readDt (bytesOf s) = (0, 2)) := readDt_size _ (by omega)
    have t0 : decide (20000 < (s.size : Int)) = true := by simp; omega
    clear hlen
    go_enter Tryd.func39, Tryd.ntmps39
    go_wp2_with fail
    refine bodyPost_ret (v := moneyV (readDt (bytesOf s))) ?_ rfl ⟨rfl, ?_⟩
    · rw [HR.out]
      simp [results, Tryd.results39, go_sem, moneyV]
    · repeat (first | exact Below.refl _ _ | refine Below.setCell ?_ (by simp) _ | refine Below.alloc ?_ (by simp) _)
  have t0 : decide (20000 < (s.size : Int)) = false := by simp; omega
  have hl : ¬ 20000 < (bytesOf s).length := by omega
  by_cases h10 : s.size = 10
  case neg =>
    have HR : Hid (readDt (bytesOf s) = (0, 3)) := readDt_ten _ hl (by omega)
    have t1 : ((s.size : Int) != 10) = true := by rw [bne_iff_ne]; omega
    clear hlen hl h10
    go_enter Tryd.func39, Tryd.ntmps39
    go_wp2_with fail
    refine bodyPost_ret (v := moneyV (readDt (bytesOf s))) ?_ rfl ⟨rfl, ?_⟩
    · rw [HR.out]
      simp [results, Tryd.results39, go_sem, moneyV]
    · repeat (first | exact Below.refl _ _ | refine Below.setCell ?_ (by simp) _ | refine Below.alloc ?_ (by simp) _)
  have t1 : ((s.size : Int) != 10) = false := by simp; omega
  have hdc := dcount_le (bytesOf s)
  have hv17 := dval_bd (bytesOf s)
  have hvb : dval (bytesOf s) < 10000000000 := by
    have h' := Nat.pow_le_pow_right (n := 10) (by omega) (show dcount (bytesOf s) ≤ 10 by omega)
    omega
  have HP : Hid (∀ w, Calls Tryd.prog 66 #[.string s] w fun e w' => e = .returned (.tuple #[.int .i64 (dval (bytesOf s) : Int), .bool true]) ∧ w' = w) := fun w => spec_plain_yes s w hs (by omega)
  have HRok := readDt_ok (bytesOf s) hl
  have HRbad := readDt_bad (bytesOf s) hl
  obtain ⟨v, hv⟩ : ∃ v, dval (bytesOf s) = v := ⟨_, rfl⟩
  have HV : Hid (dval (bytesOf s) = v) := hv
  rw [hv] at HP hvb
  clear hlen hl hsz hv h10 hdc hv17
  obtain ⟨A, hA⟩ : ∃ A, (v : Int) / 10000 = A := ⟨_, rfl⟩
  obtain ⟨B1, hB1⟩ : ∃ B1, (v : Int) / 100 = B1 := ⟨_, rfl⟩
  obtain ⟨B, hB⟩ : ∃ B, B1 % 100 = B := ⟨_, rfl⟩
  obtain ⟨C, hC⟩ : ∃ C, (v : Int) % 100 = C := ⟨_, rfl⟩
  have hB0 : 0 ≤ B1 := by omega
  have HN : Hid (dnum (bytesOf s) = dayOfB A B C) := by rw [Hid, dnum, ← hA, ← hB, ← hB1, ← hC, HV.out]
  rw [HN.out] at HRok HRbad
  have H1 : Hid (∀ w, Calls Tryd.prog 83 #[.agg #[.int .i64 A, .int .i64 B, .int .i64 C]] w fun e w' => e = .returned (moneyV (dayOfB A B C)) ∧ Below w.heap.size w w') := fun w => spec_dayOf A B C w
  clear HN
  generalize dayOfB A B C = r at *
  obtain ⟨N, c⟩ := r
  simp only at HRok HRbad
  have HRok : Hid (c = 0 → dateT N = bytesOf s → readDt (bytesOf s) = (N, 0)) := HRok
  have HRbad : Hid (¬ (c = 0 ∧ dateT N = bytesOf s) → readDt (bytesOf s) = (0, 3)) := HRbad
  by_cases hc : c = 0
  case neg =>
    have HR : Hid (readDt (bytesOf s) = (0, 3)) := HRbad.out (fun h => hc h.1)
    have t2 : (c != 0) = true := by rw [bne_iff_ne]; exact hc
    clear hc HRok HRbad
    go_enter Tryd.func39, Tryd.ntmps39
    go_wp2_with fail
    refine (HP.out _).mono ?_
    rintro e w1 ⟨rfl, hw1⟩
    subst hw1
    go_wp2_with fail
    refine (H1.out _).mono ?_
    rintro e w2 ⟨rfl, hb2⟩
    simp only [moneyV]
    have hs2 : w.heap.size < w2.heap.size := by have := hb2.size; simp at this; omega
    have r2 : ∀ j, w2.cell? ⟨w.heap.size, j, none⟩ = (#[Value.int .i64 0, .int .i64 0] : Array Value)[j]? := fun j =>
      (hb2.cell (p := ⟨w.heap.size, j, none⟩) (by simp; omega)).trans (cell_at rfl j)
    have f2 : ∀ j, w2.frozen? ⟨w.heap.size, j, none⟩ = false := fun j =>
      (hb2.frozen (p := ⟨w.heap.size, j, none⟩) (by simp; omega)).trans (frozen_at rfl j)
    have HB2 : Hid (Below w.heap.size w w2) := Below.trans (by repeat (first | exact Below.refl _ _ | refine Below.alloc ?_ (by simp) _)) (hb2.mono (by simp <;> omega))
    clear hb2
    go_wp2_with fail
    refine bodyPost_ret (v := moneyV (readDt (bytesOf s))) ?_ rfl ⟨rfl, ?_⟩
    · rw [HR.out]
      simp [results, Tryd.results39, go_sem, r2, hs2, moneyV]
    · repeat (first | exact HB2.out | refine Below.setCell ?_ (by simp) _ | refine Below.alloc ?_ (by first | omega | (simp [World.setCell]; omega)) _)
  subst hc
  by_cases heq : dateT N = bytesOf s
  · have HR : Hid (readDt (bytesOf s) = (N, 0)) := HRok.out rfl heq
    have HX : Hid (∀ w, Calls Tryd.prog 82 #[.int .i64 N] w fun e w' => e = .returned (.string s) ∧ Below w.heap.size w w') := fun w => by
      have h := spec_dateText N w
      rw [heq, strB_bytesOf] at h
      exact h
    clear heq HRok HRbad
    go_enter Tryd.func39, Tryd.ntmps39
    go_wp2_with fail
    refine (HP.out _).mono ?_
    rintro e w1 ⟨rfl, hw1⟩
    subst hw1
    go_wp2_with fail
    refine (H1.out _).mono ?_
    rintro e w2 ⟨rfl, hb2⟩
    simp only [moneyV]
    have hs2 : w.heap.size < w2.heap.size := by have := hb2.size; simp at this; omega
    have r2 : ∀ j, w2.cell? ⟨w.heap.size, j, none⟩ = (#[Value.int .i64 0, .int .i64 0] : Array Value)[j]? := fun j =>
      (hb2.cell (p := ⟨w.heap.size, j, none⟩) (by simp; omega)).trans (cell_at rfl j)
    have f2 : ∀ j, w2.frozen? ⟨w.heap.size, j, none⟩ = false := fun j =>
      (hb2.frozen (p := ⟨w.heap.size, j, none⟩) (by simp; omega)).trans (frozen_at rfl j)
    have HB2 : Hid (Below w.heap.size w w2) := Below.trans (by repeat (first | exact Below.refl _ _ | refine Below.alloc ?_ (by simp) _)) (hb2.mono (by simp <;> omega))
    clear hb2
    go_wp2_with fail
    refine (HX.out _).mono ?_
    rintro e w3 ⟨rfl, hb3⟩
    have z3 : w2.heap.size < w3.heap.size := by have := hb3.size; simp at this; omega
    have hs3 : w.heap.size < w3.heap.size := by omega
    have y3 : ∀ j, w3.cell? ⟨w2.heap.size, j, none⟩ = (#[Value.int .i64 N, .int .i64 0] : Array Value)[j]? := fun j => by
      rw [hb3.cell (p := ⟨w2.heap.size, j, none⟩) (by simp), World.cell?_alloc_new]
    have r3 : ∀ j, w3.cell? ⟨w.heap.size, j, none⟩ = (#[Value.int .i64 0, .int .i64 0] : Array Value)[j]? := fun j => by
      rw [hb3.cell (p := ⟨w.heap.size, j, none⟩) (by simp; omega), World.cell?_alloc_past _ _ _ hs2]; exact r2 j
    have f3 : ∀ j, w3.frozen? ⟨w.heap.size, j, none⟩ = false := fun j => by
      rw [hb3.frozen (p := ⟨w.heap.size, j, none⟩) (by simp; omega), World.frozen?_alloc_past _ _ _ hs2]; exact f2 j
    have HB3 : Hid (Below w.heap.size w w3) := (HB2.out.alloc HB2.out.size _).trans (hb3.mono (by have := HB2.out.size; simp; omega))
    clear hb3 r2 f2
    go_wp2_with fail
    refine bodyPost_ret (v := moneyV (readDt (bytesOf s))) ?_ rfl ⟨rfl, ?_⟩
    · rw [HR.out]
      simp [results, Tryd.results39, go_sem, r3, moneyV]
    · repeat (first | exact HB3.out | refine Below.setCell ?_ (by simp) _)
  · have HR : Hid (readDt (bytesOf s) = (0, 3)) := HRbad.out (fun h => heq h.2)
    have HX : Hid (∀ w, Calls Tryd.prog 82 #[.int .i64 N] w fun e w' => e = .returned (.string (strB (dateT N))) ∧ Below w.heap.size w w') := fun w => spec_dateText N w
    have hEs : ¬ strB (dateT N) = s := by rw [strB_eq]; exact heq
    generalize strB (dateT N) = E at *
    have HE : Hid (¬ E = s) := hEs
    clear heq hEs HRok HRbad
    go_enter Tryd.func39, Tryd.ntmps39
    go_wp2_with fail
    refine (HP.out _).mono ?_
    rintro e w1 ⟨rfl, hw1⟩
    subst hw1
    go_wp2_with fail
    refine (H1.out _).mono ?_
    rintro e w2 ⟨rfl, hb2⟩
    simp only [moneyV]
    have hs2 : w.heap.size < w2.heap.size := by have := hb2.size; simp at this; omega
    have r2 : ∀ j, w2.cell? ⟨w.heap.size, j, none⟩ = (#[Value.int .i64 0, .int .i64 0] : Array Value)[j]? := fun j =>
      (hb2.cell (p := ⟨w.heap.size, j, none⟩) (by simp; omega)).trans (cell_at rfl j)
    have f2 : ∀ j, w2.frozen? ⟨w.heap.size, j, none⟩ = false := fun j =>
      (hb2.frozen (p := ⟨w.heap.size, j, none⟩) (by simp; omega)).trans (frozen_at rfl j)
    have HB2 : Hid (Below w.heap.size w w2) := Below.trans (by repeat (first | exact Below.refl _ _ | refine Below.alloc ?_ (by simp) _)) (hb2.mono (by simp <;> omega))
    clear hb2
    go_wp2_with fail
    refine (HX.out _).mono ?_
    rintro e w3 ⟨rfl, hb3⟩
    have z3 : w2.heap.size < w3.heap.size := by have := hb3.size; simp at this; omega
    have hs3 : w.heap.size < w3.heap.size := by omega
    have y3 : ∀ j, w3.cell? ⟨w2.heap.size, j, none⟩ = (#[Value.int .i64 N, .int .i64 0] : Array Value)[j]? := fun j => by
      rw [hb3.cell (p := ⟨w2.heap.size, j, none⟩) (by simp), World.cell?_alloc_new]
    have r3 : ∀ j, w3.cell? ⟨w.heap.size, j, none⟩ = (#[Value.int .i64 0, .int .i64 0] : Array Value)[j]? := fun j => by
      rw [hb3.cell (p := ⟨w.heap.size, j, none⟩) (by simp; omega), World.cell?_alloc_past _ _ _ hs2]; exact r2 j
    have f3 : ∀ j, w3.frozen? ⟨w.heap.size, j, none⟩ = false := fun j => by
      rw [hb3.frozen (p := ⟨w.heap.size, j, none⟩) (by simp; omega), World.frozen?_alloc_past _ _ _ hs2]; exact f2 j
    have HB3 : Hid (Below w.heap.size w w3) := (HB2.out.alloc HB2.out.size _).trans (hb3.mono (by have := HB2.out.size; simp; omega))
    clear hb3 r2 f2
    have hn := neq_str HE.out
    go_wp2_with fail
    refine bodyPost_ret (v := moneyV (readDt (bytesOf s))) ?_ rfl ⟨rfl, ?_⟩
    · rw [HR.out]
      simp [results, Tryd.results39, go_sem, r3, moneyV]
    · repeat (first | exact HB3.out | refine Below.setCell ?_ (by simp) _)

end Go.Proofs.YtgbkpifkmkjbaaaDoor
