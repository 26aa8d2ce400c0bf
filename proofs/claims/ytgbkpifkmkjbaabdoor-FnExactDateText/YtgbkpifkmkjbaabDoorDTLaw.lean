/- The laws that hold DateText and DateRead against their models. -/
import Derived.Test.YtgbkpifkmkjbaabDoorDReadS
import Derived.Test.YtgbkpifkmkjbaabDoorDayLaw
namespace Go.Proofs.YtgbkpifkmkjbaabDoor
open Go.RowKit
open Go.Lib (decDigits)


set_option maxHeartbeats 1000000 in
theorem law_dateRead (s : ByteArray) (hs : s.size ≤ maxLen) (w : World) (hM : Mon w) (hT : Tab w) (hL : Lay w) :
    Calls Tryd.prog 10 #[.string s] w fun e w' => e = .returned (.bool true) ∧ Below w.heap.size w w' := by
  have hs' := hs
  unfold maxLen at hs'
  by_cases hbig : 1048576 < (s.size : Int)
  · go_enter Tryd.func10, Tryd.ntmps10
    go_wp2_with fail
    go_ret
    exact ⟨rfl, Below.refl _ _⟩
  have H1 := fun w => spec_dateRead s w hs
  have H2 := fun w hM hT hL => impl_dateRead s w hs hM hT hL
  generalize readDt (bytesOf s) = r at *
  have HL : Hid (Lay w) := hL
  have HT : Hid (Tab w) := hT
  have HM : Hid (Mon w) := hM
  clear hL hT hM
  have H1 : Hid (∀ w, Calls Tryd.prog 29 #[.string s] w fun e w' => e = .returned (moneyV r) ∧ Below w.heap.size w w') := H1
  have H2 : Hid (∀ w, Mon w → Tab w → Lay w → Calls Tryd.prog 30 #[.string s] w fun e w' => e = .returned (moneyV r) ∧ Below w.heap.size w w') := H2
  obtain ⟨n, c⟩ := r
  go_enter Tryd.func10, Tryd.ntmps10
  go_wp2_with fail
  refine (H1.out _).mono ?_
  rintro e w1 ⟨rfl, hb1⟩
  simp only [moneyV]
  go_wp2_with fail
  refine (H2.out _ (by exact HM.out.below (hb1.alloc hb1.size _)) (by exact HT.out.below (hb1.alloc hb1.size _)) (by exact HL.out.below (hb1.alloc hb1.size _))).mono ?_
  rintro e w2 ⟨rfl, hb2⟩
  simp only [moneyV]
  have hz2 : w1.heap.size + 1 ≤ w2.heap.size := by have := hb2.size; simp at this; omega
  have hc0 : ∀ o, (w2.alloc o).cell? ⟨w1.heap.size, 0, none⟩ = some (.int .i64 n) := fun o => by
    rw [World.cell?_alloc_past _ _ _ (by omega), hb2.cell (by simp)]; simp
  have hc1 : ∀ o, (w2.alloc o).cell? ⟨w1.heap.size, 1, none⟩ = some (.int .i64 c) := fun o => by
    rw [World.cell?_alloc_past _ _ _ (by omega), hb2.cell (by simp)]; simp
  go_wp2_with fail
  refine (eq_day n c _).mono ?_
  rintro e w3 ⟨rfl, hb3⟩
  have hb : Below w.heap.size w w3 := by
    have hs1 := hb1.size
    exact (((hb1.alloc hs1 _).trans (hb2.mono (by simp; omega))).alloc (by omega) _).trans (hb3.mono (by simp; omega))
  clear hb1 hb2 hb3 hc0 hc1
  go_wp2_with fail
  go_ret
  exact ⟨rfl, hb⟩

set_option maxHeartbeats 1000000 in
theorem law_dateText (n : Int) (_hn : (Lit.int .i64 n).wf = true) (w : World) (hM : Mon w) (hT : Tab w) :
    Calls Tryd.prog 9 #[.int .i64 n] w fun e w' => e = .returned (.bool true) ∧ Below w.heap.size w w' := by
  have H1 := fun w => spec_dateText n w
  have H2 := fun w hM hT => impl_dateText n w hM hT
  generalize strB (dateT n) = r at *
  have HT : Hid (Tab w) := hT
  have HM : Hid (Mon w) := hM
  clear hT hM
  have H1 : Hid (∀ w, Calls Tryd.prog 27 #[.int .i64 n] w fun e w' => e = .returned (.string r) ∧ Below w.heap.size w w') := H1
  have H2 : Hid (∀ w, Mon w → Tab w → Calls Tryd.prog 28 #[.int .i64 n] w fun e w' => e = .returned (.string r) ∧ Below w.heap.size w w') := H2
  go_enter Tryd.func9, Tryd.ntmps9
  go_wp2_with fail
  refine (H1.out _).mono ?_
  rintro e w1 ⟨rfl, hb1⟩
  go_wp2_with fail
  refine (H2.out _ (by exact HM.out.below hb1) (by exact HT.out.below hb1)).mono ?_
  rintro e w2 ⟨rfl, hb2⟩
  have hb : Below w.heap.size w w2 := hb1.trans (hb2.mono hb1.size)
  clear hb1 hb2
  go_wp2_with fail
  go_ret
  exact ⟨rfl, hb⟩

end Go.Proofs.YtgbkpifkmkjbaabDoor
