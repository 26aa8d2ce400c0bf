/- Right disks (spec.DiskRight, impl.DiskRight): what each call does; the law. -/
import Derived.Test.YthjanamnkhggfaaDoorDk1
import Derived.Test.YthjanamnkhggfaaDoorDk2
namespace Go.Proofs.YthjanamnkhggfaaDoor
open Go.RowKit
open Go.Proofs.YthjanamnkhggfaaDoor.Draw

theorem emp_no {x : ByteArray} (h : x.size ≠ 0) : x.toList.isEmpty = false ∧ (x.toList == []) = false := by
  have e : x.toList ≠ [] := by
    intro e
    apply h
    have := congrArg List.length e
    rw [Lib.toList_data] at this
    rw [Lib.size_eq]; exact this
  constructor
  · cases hx : x.toList
    · exact absurd hx e
    · rfl
  · rw [beq_eq_false_iff_ne]; exact e
theorem emp_yes {x : ByteArray} (h : x.size = 0) : x = ⟨#[]⟩ := bytes_eq (by
  have : x.data.toList.length = 0 := by rw [← Lib.size_eq, h]
  rw [List.length_eq_zero_iff.1 this])
/-- A disk in a block. -/
structure Bx (W : World) (b : Nat) (s : ByteArray) (v : Value) : Prop where
  c0 : W.cell? ⟨b, 0, none⟩ = some (.string s)
  c1 : W.cell? ⟨b, 1, none⟩ = some v
  lt : b < W.heap.size
theorem Bx.below {W W' : World} {b : Nat} {s : ByteArray} {v : Value} (h : Bx W b s v) (hb : Below W.heap.size W W') : Bx W' b s v :=
  ⟨(hb.cell (p := ⟨b, 0, none⟩) h.lt).trans h.c0, (hb.cell (p := ⟨b, 1, none⟩) h.lt).trans h.c1, Nat.lt_of_lt_of_le h.lt hb.size⟩
theorem Bx.new (w : World) (s : ByteArray) (v : Value) (t : TypeId) : Bx (w.alloc (.cells #[.string s, v] t)) w.heap.size s v := ⟨by simp, by simp, by simp⟩
theorem Bx.grown {W W' : World} {b : Nat} {r : Option Nat} {s : ByteArray} {v : Value} (h : Bx W b s v) (hg : W.grownBy W' r) (hne : some b ≠ r) : Bx W' b s v := by
  have hb := hg.block b h.lt hne
  exact ⟨(World.cell?_of_block (a := ⟨b, 0, none⟩) hb).trans h.c0, (World.cell?_of_block (a := ⟨b, 1, none⟩) hb).trans h.c1, Nat.lt_of_lt_of_le h.lt hg.size⟩
end Go.Proofs.YthjanamnkhggfaaDoor
