/- A product's names, Contras, Slots and Params together: what the program's look at them does. -/
import Derived.Test.YtnefcldjigndgaaDoorPrB
namespace Go.Proofs.YtnefcldjigndgaaDoor
open Go.RowKit Go.Maps
open Go.Proofs.YtnefcldjigndgaaDoor.Draw

/-- The names of Contras, Slots and Params, one behind the other. -/
def namJ (d : Pd) (i : Nat) : Tx := if i < d.nc then d.C i else if i < d.nc + d.ns then d.S (i - d.nc) else ⟨(d.P (i - (d.nc + d.ns))).a⟩
def nameOk (J : Nat → Tx) (i : Nat) : Bool := namR (J i).t && !inB J i (J i).t
def namesB (J : Nat → Tx) (n : Nat) : Bool := (List.range n).all (nameOk J)
theorem namesB_false {J : Nat → Tx} {n k : Nat} (hk : k < n) (h : nameOk J k = false) : namesB J n = false := by
  unfold namesB; rw [List.all_eq_false]; exact ⟨k, by simpa using hk, by simp [h]⟩
theorem namesB_true {J : Nat → Tx} {n : Nat} (h : ∀ j, j < n → nameOk J j = true) : namesB J n = true := by
  unfold namesB; rw [List.all_eq_true]; intro j hj; exact h j (by simpa using hj)
theorem textsC_congr {I I' : Nat → Tx} : ∀ n, (∀ j, j < n → I j = I' j) → textsC I n = textsC I' n
  | 0, _ => rfl
  | n + 1, h => by rw [textsC, textsC, textsC_congr n (fun j hj => h j (by omega)), h n (by omega)]
theorem textsC_add (I : Nat → Tx) (n : Nat) : ∀ m, textsC I (n + m) = textsC I n ++ textsC (fun j => I (n + j)) m
  | 0 => by simp [textsC]
  | m + 1 => by rw [← Nat.add_assoc, textsC, textsC_add I n m, textsC, List.append_assoc]
theorem names_two (d : Pd) : textsC d.C d.nc ++ textsC d.S d.ns = textsC (namJ d) (d.nc + d.ns) := by
  rw [textsC_add]
  congr 1
  · exact textsC_congr _ (fun j hj => by unfold namJ; rw [if_pos hj])
  · exact textsC_congr _ (fun j hj => by
      show d.S j = namJ d (d.nc + j)
      unfold namJ
      rw [if_neg (by omega), if_pos (by omega), Nat.add_sub_cancel_left])
theorem name_param (d : Pd) (k : Nat) : (namJ d (d.nc + d.ns + k)).t = (d.P k).a := by
  unfold namJ
  rw [if_neg (by omega), if_neg (by omega), Nat.add_sub_cancel_left]
theorem name_small {d : Pd} (hs : d.small) (i : Nat) (hi : i < d.nc + d.ns + d.np) : (namJ d i).t.size ≤ maxLen := by
  obtain ⟨_, ⟨_, s0⟩, ⟨_, s1⟩, ⟨_, s2⟩, _⟩ := hs
  unfold namJ
  by_cases h0 : i < d.nc
  · rw [if_pos h0]; have h : (d.C i).t.size ≤ 1048576 := s0 i h0; unfold maxLen; omega
  · rw [if_neg h0]
    by_cases h1 : i < d.nc + d.ns
    · rw [if_pos h1]; have h : (d.S (i - d.nc)).t.size ≤ 1048576 := s1 _ (by omega); unfold maxLen; omega
    · rw [if_neg h1]; have h : (d.P (i - (d.nc + d.ns))).a.size ≤ 1048576 := s2 _ (by omega); show (d.P (i - (d.nc + d.ns))).a.size ≤ maxLen; unfold maxLen; omega
theorem news1 (w : World) (x : Value) (t : TypeId) : ∀ j u, [x][j]? = some u → (w.alloc (.cells #[x] t)).cell? ((⟨w.heap.size, 0, none⟩ : Addr).add j) = some u := by
  intro j u hj
  rw [add_off, Nat.zero_add, World.cell?_alloc_new, ← hj]
  simp
end Go.Proofs.YtnefcldjigndgaaDoor
