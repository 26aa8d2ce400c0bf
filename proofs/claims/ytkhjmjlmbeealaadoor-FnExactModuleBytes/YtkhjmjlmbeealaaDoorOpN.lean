/- The names of the ops: what the program's and the model's calls answer, and the law. -/
import Derived.Test.YtkhjmjlmbeealaaDoorFw
namespace Go.Proofs.YtkhjmjlmbeealaaDoor
open Go.RowKit
open Go.Proofs.YtkhjmjlmbeealaaDoor.Draw

def opS (op : Int) : ByteArray := if 1 ≤ op ∧ op ≤ 26 then nameO op.toNat else ⟨#[]⟩
set_option maxRecDepth 100000 in
set_option maxHeartbeats 8000000 in
theorem impl_isOp (op : Int) (w : World) :
    Calls Tryd.prog 36 #[.int .i64 op] w fun e w' => e = .returned (.bool (decide (1 ≤ op) && decide (op ≤ 26))) ∧ w' = w := by
  by_cases h1 : 1 ≤ op
  · have p1 : decide (1 ≤ op) = true := by simpa using h1
    go_enter Tryd.func36, Tryd.ntmps36
    go_wp2_with fail
    go_ret
    exact ⟨ret_bool (by simp [h1]), rfl⟩
  · have p1 : decide (1 ≤ op) = false := by simpa using h1
    go_enter Tryd.func36, Tryd.ntmps36
    go_wp2_with fail
    go_ret
    exact ⟨ret_bool (by simp), rfl⟩
set_option maxRecDepth 100000 in
set_option maxHeartbeats 8000000 in
theorem impl_opName (op : Int) (w : World) (hS : ShaW w) :
    Calls Tryd.prog 11 #[.int .i64 op] w fun e w' => e = .returned (.string (opS op)) ∧ w' = w := by
  have H := impl_isOp op w
  by_cases h : 1 ≤ op ∧ op ≤ 26
  · have hd : (decide (1 ≤ op) && decide (op ≤ 26)) = true := by simp [h.1, h.2]
    rw [hd] at H
    have H : Hid (Calls Tryd.prog 36 _ _ _) := H
    obtain ⟨k, rfl⟩ : ∃ k : Nat, op = (k : Int) := ⟨op.toNat, by omega⟩
    have hk : k < 27 := by omega
    obtain ⟨c0, _⟩ := hS k hk
    have HE : Hid (opS (k : Int) = nameO k) := by unfold Hid opS; rw [if_pos h]; rfl
    clear h hd hS
    generalize nameO k = X at *
    go_enter Tryd.func11, Tryd.ntmps11
    go_wp2_with fail
    refine H.out.mono ?_
    rintro e w1 ⟨rfl, rfl⟩
    go_wp2_with fail
    go_ret
    exact ⟨by rw [HE.out]; rfl, rfl⟩
  · have hd : (decide (1 ≤ op) && decide (op ≤ 26)) = false := by
      rcases (by omega : ¬ 1 ≤ op ∨ ¬ op ≤ 26) with h1 | h1 <;> simp [h1]
    rw [hd] at H
    have H : Hid (Calls Tryd.prog 36 _ _ _) := H
    have HE : Hid (opS op = ⟨#[]⟩) := by unfold Hid opS; rw [if_neg h]
    clear h hd hS
    go_enter Tryd.func11, Tryd.ntmps11
    go_wp2_with fail
    refine H.out.mono ?_
    rintro e w1 ⟨rfl, rfl⟩
    go_wp2_with fail
    go_ret
    exact ⟨by rw [HE.out]; rfl, rfl⟩
def nameL : List (List UInt8) := [[103, 97, 115], [112, 117, 115, 104], [108, 111, 97, 100], [115, 116, 111, 114, 101], [112, 97, 114, 97, 109], [98, 97, 108], [116, 111, 100, 97, 121], [115, 105, 110, 99, 101], [99, 111, 117, 110, 116], [97, 109, 111, 117, 110, 116], [97, 100, 100], [115, 117, 98], [109, 117, 108], [108, 101, 115, 115], [97, 116, 109, 111, 115, 116], [115, 97, 109, 101], [97, 110, 100], [111, 114], [110, 111, 116], [99, 97, 108, 108], [106, 122], [106, 117, 109, 112], [112, 111, 115, 116], [114, 101, 106, 101, 99, 116], [110, 101, 120, 116], [101, 110, 100]]
theorem name_cell (w : World) (k : Nat) (hk : k < 26) : (w.alloc (.cells (nameL.map fun l => Value.string ⟨l.toArray⟩).toArray 9)).cell? ⟨w.heap.size, k, none⟩ = some (.string (nameO (k + 1))) := by
  rw [World.cell?_alloc_new, List.getElem?_toArray, List.getElem?_map, List.getElem?_eq_getElem (show k < nameL.length from hk)]
  rcases (by omega : k = 0 ∨ k = 1 ∨ k = 2 ∨ k = 3 ∨ k = 4 ∨ k = 5 ∨ k = 6 ∨ k = 7 ∨ k = 8 ∨ k = 9 ∨ k = 10 ∨ k = 11 ∨ k = 12 ∨ k = 13 ∨ k = 14 ∨ k = 15 ∨ k = 16 ∨ k = 17 ∨ k = 18 ∨ k = 19 ∨ k = 20 ∨ k = 21 ∨ k = 22 ∨ k = 23 ∨ k = 24 ∨ k = 25) with rfl | rfl | rfl | rfl | rfl | rfl | rfl | rfl | rfl | rfl | rfl | rfl | rfl | rfl | rfl | rfl | rfl | rfl | rfl | rfl | rfl | rfl | rfl | rfl | rfl | rfl <;> rfl
set_option maxRecDepth 100000 in
set_option maxHeartbeats 8000000 in
theorem spec_opNames (w : World) :
    Calls Tryd.prog 37 #[] w fun e w' => e = .returned (.slice (some ⟨w.heap.size, 0, none⟩) 26 26) ∧ (∀ k, k < 26 → w'.cell? ⟨w.heap.size, k, none⟩ = some (.string (nameO (k + 1)))) ∧ Below w.heap.size w w' := by
  have HT : Hid (∀ k, k < 26 → (w.alloc (.cells #[.string ⟨#[103, 97, 115]⟩, .string ⟨#[112, 117, 115, 104]⟩, .string ⟨#[108, 111, 97, 100]⟩, .string ⟨#[115, 116, 111, 114, 101]⟩, .string ⟨#[112, 97, 114, 97, 109]⟩, .string ⟨#[98, 97, 108]⟩, .string ⟨#[116, 111, 100, 97, 121]⟩, .string ⟨#[115, 105, 110, 99, 101]⟩, .string ⟨#[99, 111, 117, 110, 116]⟩, .string ⟨#[97, 109, 111, 117, 110, 116]⟩, .string ⟨#[97, 100, 100]⟩, .string ⟨#[115, 117, 98]⟩, .string ⟨#[109, 117, 108]⟩, .string ⟨#[108, 101, 115, 115]⟩, .string ⟨#[97, 116, 109, 111, 115, 116]⟩, .string ⟨#[115, 97, 109, 101]⟩, .string ⟨#[97, 110, 100]⟩, .string ⟨#[111, 114]⟩, .string ⟨#[110, 111, 116]⟩, .string ⟨#[99, 97, 108, 108]⟩, .string ⟨#[106, 122]⟩, .string ⟨#[106, 117, 109, 112]⟩, .string ⟨#[112, 111, 115, 116]⟩, .string ⟨#[114, 101, 106, 101, 99, 116]⟩, .string ⟨#[110, 101, 120, 116]⟩, .string ⟨#[101, 110, 100]⟩] 9)).cell? ⟨w.heap.size, k, none⟩ = some (.string (nameO (k + 1)))) := fun k hk => name_cell w k hk
  go_enter Tryd.func37, Tryd.ntmps37
  go_wp2_with fail
  go_ret
  exact ⟨rfl, HT.out, (Below.refl _ _).alloc (Nat.le_refl _) _⟩
set_option maxRecDepth 100000 in
set_option maxHeartbeats 8000000 in
theorem spec_opName (op : Int) (w : World) :
    Calls Tryd.prog 12 #[.int .i64 op] w fun e w' => e = .returned (.string (opS op)) ∧ Below w.heap.size w w' := by
  have H := spec_opNames w
  have H : Hid (Calls Tryd.prog 37 _ _ _) := H
  by_cases h1 : 1 ≤ op
  rotate_left
  · have p1 : decide (op < 1) = true := by simp; omega
    have HE : Hid (opS op = ⟨#[]⟩) := by unfold Hid opS; rw [if_neg (by omega)]
    go_enter Tryd.func12, Tryd.ntmps12
    go_wp2_with fail
    go_ret
    exact ⟨by rw [HE.out]; rfl, Below.refl _ _⟩
  have p1 : decide (op < 1) = false := by simp; omega
  by_cases h2 : op ≤ 26
  rotate_left
  · have p2 : decide (26 < op) = true := by simp; omega
    have HE : Hid (opS op = ⟨#[]⟩) := by unfold Hid opS; rw [if_neg (by omega)]
    go_enter Tryd.func12, Tryd.ntmps12
    go_wp2_with fail
    go_ret
    exact ⟨by rw [HE.out]; rfl, Below.refl _ _⟩
  have p2 : decide (26 < op) = false := by simp; omega
  obtain ⟨k, rfl⟩ : ∃ k : Nat, op = (k : Int) + 1 := ⟨op.toNat - 1, by omega⟩
  have hk : k < 26 := by omega
  have hw : IntKind.i64.wrap ((k : Int) + 1 - 1) = (k : Int) := by rw [IntWalk.i64_in _ (by omega)]; omega
  have HE : Hid (opS ((k : Int) + 1) = nameO (k + 1)) := by
    unfold Hid opS
    rw [if_pos ⟨h1, h2⟩]
    rfl
  go_enter Tryd.func12, Tryd.ntmps12
  go_wp2_with fail
  refine H.out.mono ?_
  rintro e w1 ⟨rfl, hc, hb⟩
  have c0 := hc k hk
  have HB : Hid (Below w.heap.size w w1) := hb
  clear hc hb
  go_wp2_with fail
  go_ret
  exact ⟨by rw [HE.out]; rfl, HB.out⟩
set_option maxRecDepth 100000 in
set_option maxHeartbeats 8000000 in
theorem law_opName (op : Int) (_hop : (Lit.int .i64 op).wf = true) (w : World) (hS : ShaW w) :
    Calls Tryd.prog 4 #[.int .i64 op] w fun e w' => e = .returned (.bool true) ∧ Below w.heap.size w w' := by
  have HS : Hid (ShaW w) := hS
  have H1 := spec_opName op w
  have H1 : Hid (Calls Tryd.prog 12 _ _ _) := H1
  have H2 : Hid (∀ W, ShaW W → Calls Tryd.prog 11 #[.int .i64 op] W fun e w' => e = .returned (.string (opS op)) ∧ w' = W) := fun W h => impl_opName op W h
  have hxx : ∀ x : List UInt8, (x != x) = false := fun x => by simp
  clear hS
  generalize opS op = X at *
  go_enter Tryd.func4, Tryd.ntmps4
  go_wp2_with fail
  refine H1.out.mono ?_
  rintro e w1 ⟨rfl, hb⟩
  have HB : Hid (Below w.heap.size w w1) := hb
  have HS1 : Hid (ShaW w1) := HS.out.below hb
  clear hb
  go_wp2_with fail
  refine (H2.out _ HS1.out).mono ?_
  rintro e w2 ⟨rfl, rfl⟩
  go_wp2_with fail
  go_ret
  exact ⟨rfl, HB.out⟩
end Go.Proofs.YtkhjmjlmbeealaaDoor
