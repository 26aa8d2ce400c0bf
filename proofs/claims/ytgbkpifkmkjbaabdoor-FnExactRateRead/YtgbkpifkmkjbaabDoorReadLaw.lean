/- Reading texts as money and rates in the model (spec.MoneyRead, spec.RateRead), and the laws that hold the program's reading against it. -/
import Derived.Test.YtgbkpifkmkjbaabDoorReadF
namespace Go.Proofs.YtgbkpifkmkjbaabDoor
open Go.RowKit


set_option maxRecDepth 100000 in
set_option maxHeartbeats 2000000 in
theorem spec_rateRead (s : ByteArray) (w : World) (hs : s.size ≤ maxLen) :
    Calls Tryd.prog 11 #[.string s] w fun e w' => e = .returned (moneyV (readR (bytesOf s))) ∧ Below w.heap.size w w' := by
  have hs' := hs
  unfold maxLen at hs'
  have hlen := bytesOf_len s
  by_cases hsz : 20000 < s.size
  · have HR : Hid (readR (bytesOf s) = (0, 2)) := readR_size _ (by omega)
    have t0 : decide (20000 < (s.size : Int)) = true := by simp; omega
    clear hlen
    go_enter Tryd.func11, Tryd.ntmps11
    go_wp2_with fail
    refine bodyPost_ret (v := moneyV (readR (bytesOf s))) ?_ rfl ⟨rfl, ?_⟩
    · rw [HR.out]
      simp [results, Tryd.results11, go_sem, moneyV]
    · repeat (first | exact Below.refl _ _ | refine Below.setCell ?_ (by exact Nat.le_refl _) _ | refine Below.alloc ?_ (by simp) _)
  have t0 : decide (20000 < (s.size : Int)) = false := by simp; omega
  have hl : ¬ 20000 < (bytesOf s).length := by omega
  by_cases hcn : 17 < dcount (bytesOf s)
  · have HR : Hid (readR (bytesOf s) = (0, 3)) := readR_many _ hl hcn
    have HC : Hid (17 < dcount (bytesOf s)) := hcn
    clear hlen hl hcn
    go_enter Tryd.func11, Tryd.ntmps11
    go_wp2_with fail
    refine (spec_plain_no s _ hs HC.out).mono ?_
    rintro e w1 ⟨rfl, rfl⟩
    go_wp2_with fail
    refine bodyPost_ret (v := moneyV (readR (bytesOf s))) ?_ rfl ⟨rfl, ?_⟩
    · rw [HR.out]
      simp [results, Tryd.results11, go_sem, moneyV]
    · repeat (first | exact Below.refl _ _ | refine Below.setCell ?_ (by exact Nat.le_refl _) _ | refine Below.alloc ?_ (by simp) _)
  have HC : Hid (dcount (bytesOf s) ≤ 17) := by rw [Hid]; omega
  have hv17 : dval (bytesOf s) < 100000000000000000 := by
    have h := dval_bd (bytesOf s)
    have h' := Nat.pow_le_pow_right (n := 10) (by omega) HC.out
    omega
  by_cases hz : s.size = 0
  · have hse := empty_of hz
    subst hse
    have HR : Hid (readR (bytesOf { data := #[] }) = (0, 3)) := readR_bad _ hl (Or.inr rfl)
    have HV : Hid (dval (bytesOf { data := #[] }) = 0) := rfl
    clear hlen hl hcn hz hv17
    go_enter Tryd.func11, Tryd.ntmps11
    go_wp2_with fail
    refine (spec_plain_yes _ _ hs HC.out).mono ?_
    rintro e w1 ⟨rfl, rfl⟩
    rw [HV.out]
    go_wp2_with fail
    refine bodyPost_ret (v := moneyV (readR (bytesOf { data := #[] }))) ?_ rfl ⟨rfl, ?_⟩
    · rw [HR.out]
      simp [results, Tryd.results11, go_sem, moneyV]
    · repeat (first | exact Below.refl _ _ | refine Below.setCell ?_ (by exact Nat.le_refl _) _ | refine Below.alloc ?_ (by simp) _)
  have hpos : 0 < s.size := by omega
  have hne0 : ¬ s = { data := #[] } := by
    intro e
    rw [e] at hpos
    exact absurd hpos (by decide)
  have hne := neq_str hne0
  have hne' := neq_nil hne0
  clear hne0
  have hnil := bytes_ne hpos
  by_cases heq : rateT ((dval (bytesOf s) : Int)) = bytesOf s
  · have HR : Hid (readR (bytesOf s) = ((dval (bytesOf s) : Int), 0)) := readR_ok _ hl heq hnil
    have HM : Hid (∀ w, Calls Tryd.prog 32 #[.int .i64 ((dval (bytesOf s) : Int))] w fun e w' => e = .returned (.string s) ∧ Below w.heap.size w w') := fun w => by
      have h := spec_rateText ((dval (bytesOf s) : Int)) w
      rw [heq, strB_bytesOf] at h
      exact h
    have HP : Hid (∀ w, Calls Tryd.prog 31 #[.string s] w fun e w' => e = .returned (.tuple #[.int .i64 (dval (bytesOf s) : Int), .bool true]) ∧ w' = w) := fun w => spec_plain_yes s w hs HC.out
    clear heq hlen hl hcn hnil
    generalize dval (bytesOf s) = v at *
    go_enter Tryd.func11, Tryd.ntmps11
    go_wp2_with fail
    refine (HP.out _).mono ?_
    rintro e w1 ⟨rfl, rfl⟩
    go_wp2_with fail
    refine (HM.out _).mono ?_
    rintro e w2 ⟨rfl, hb2⟩
    obtain ⟨hc, hf⟩ := bcell hb2
    have hz : w.heap.size < w2.heap.size := by have := hb2.size; simp at this; omega
    go_wp2_with fail
    refine bodyPost_ret (v := moneyV (readR (bytesOf s))) ?_ rfl ⟨rfl, ?_⟩
    · rw [HR.out]
      simp [results, Tryd.results11, go_sem, hc, moneyV]
    · have hbb : Below w.heap.size w w2 := ((Below.refl w.heap.size w).alloc (Nat.le_refl _) _).trans (hb2.mono (by simp))
      repeat (first | exact hbb | refine Below.setCell ?_ (by exact Nat.le_refl _) _ | refine Below.alloc ?_ (by simp [World.setCell]; omega) _)
  · have HR : Hid (readR (bytesOf s) = (0, 3)) := readR_bad _ hl (Or.inl heq)
    have HM : Hid (∀ w, Calls Tryd.prog 32 #[.int .i64 ((dval (bytesOf s) : Int))] w fun e w' => e = .returned (.string (strB (rateT ((dval (bytesOf s) : Int))))) ∧ Below w.heap.size w w') := fun w => spec_rateText ((dval (bytesOf s) : Int)) w
    have hEs : ¬ strB (rateT ((dval (bytesOf s) : Int))) = s := by rw [strB_eq]; exact heq
    have HP : Hid (∀ w, Calls Tryd.prog 31 #[.string s] w fun e w' => e = .returned (.tuple #[.int .i64 (dval (bytesOf s) : Int), .bool true]) ∧ w' = w) := fun w => spec_plain_yes s w hs HC.out
    generalize strB (rateT ((dval (bytesOf s) : Int))) = E at *
    have HE : Hid (¬ E = s) := hEs
    clear heq hlen hl hcn hnil hEs
    generalize dval (bytesOf s) = v at *
    go_enter Tryd.func11, Tryd.ntmps11
    go_wp2_with fail
    refine (HP.out _).mono ?_
    rintro e w1 ⟨rfl, rfl⟩
    go_wp2_with fail
    refine (HM.out _).mono ?_
    rintro e w2 ⟨rfl, hb2⟩
    have hn := neq_str HE.out
    obtain ⟨hc, hf⟩ := bcell hb2
    have hz : w.heap.size < w2.heap.size := by have := hb2.size; simp at this; omega
    go_wp2_with fail
    refine bodyPost_ret (v := moneyV (readR (bytesOf s))) ?_ rfl ⟨rfl, ?_⟩
    · rw [HR.out]
      simp [results, Tryd.results11, go_sem, hc, moneyV]
    · have hbb : Below w.heap.size w w2 := ((Below.refl w.heap.size w).alloc (Nat.le_refl _) _).trans (hb2.mono (by simp))
      repeat (first | exact hbb | refine Below.setCell ?_ (by exact Nat.le_refl _) _ | refine Below.alloc ?_ (by simp [World.setCell]; omega) _)


set_option maxHeartbeats 400000 in
theorem law_rateRead (s : ByteArray) (hs : s.size ≤ maxLen) (w : World) (hT : Tab w) (hL : Lay w) :
    Calls Tryd.prog 3 #[.string s] w fun e w' => e = .returned (.bool true) ∧ Below w.heap.size w w' := by
  have hs' := hs
  unfold maxLen at hs'
  by_cases hbig : 1048576 < (s.size : Int)
  · go_enter Tryd.func3, Tryd.ntmps3
    go_wp2_with fail
    go_ret
    exact ⟨rfl, Below.refl _ _⟩
  have H1 := fun w => spec_rateRead s w hs
  have H2 := fun w hT hL => impl_rateRead s w hs hT hL
  generalize readR (bytesOf s) = r at *
  have HL : Hid (Lay w) := hL
  have HT : Hid (Tab w) := hT
  clear hL hT
  have H1 : Hid (∀ w, Calls Tryd.prog 11 #[.string s] w fun e w' => e = .returned (moneyV r) ∧ Below w.heap.size w w') := H1
  have H2 : Hid (∀ w, Tab w → Lay w → Calls Tryd.prog 12 #[.string s] w fun e w' => e = .returned (moneyV r) ∧ Below w.heap.size w w') := H2
  obtain ⟨n, c⟩ := r
  go_enter Tryd.func3, Tryd.ntmps3
  go_wp2_with fail
  refine (H1.out _).mono ?_
  rintro e w1 ⟨rfl, hb1⟩
  simp only [moneyV]
  go_wp2_with fail
  refine (H2.out _ (by exact HT.out.below (hb1.alloc hb1.size _)) (by exact HL.out.below (hb1.alloc hb1.size _))).mono ?_
  rintro e w2 ⟨rfl, hb2⟩
  simp only [moneyV]
  have hz2 : w1.heap.size + 1 ≤ w2.heap.size := by have := hb2.size; simp at this; omega
  have hc0 : ∀ o, (w2.alloc o).cell? ⟨w1.heap.size, 0, none⟩ = some (.int .i64 n) := fun o => by
    rw [World.cell?_alloc_past _ _ _ (by omega), hb2.cell (by simp)]; simp
  have hc1 : ∀ o, (w2.alloc o).cell? ⟨w1.heap.size, 1, none⟩ = some (.int .i64 c) := fun o => by
    rw [World.cell?_alloc_past _ _ _ (by omega), hb2.cell (by simp)]; simp
  go_wp2_with fail
  refine (eq_money n c _).mono ?_
  rintro e w3 ⟨rfl, hb3⟩
  have hb : Below w.heap.size w w3 := by
    have hs1 := hb1.size
    exact (((hb1.alloc hs1 _).trans (hb2.mono (by simp; omega))).alloc (by omega) _).trans (hb3.mono (by simp; omega))
  clear hb1 hb2 hb3 hc0 hc1
  go_wp2_with fail
  go_ret
  exact ⟨rfl, hb⟩

end Go.Proofs.YtgbkpifkmkjbaabDoor
