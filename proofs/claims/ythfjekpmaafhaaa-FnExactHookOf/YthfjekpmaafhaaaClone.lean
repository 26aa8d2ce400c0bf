/- A text told anew (strings.Clone and what it calls): the same bytes, in memory of their own. -/
import Derived.Test.YthfjekpmaafhaaaBase
import Derived.Lib.BufferWrite
import Derived.Lib.UnsafeStr
namespace Go.Proofs.Ythfjekpmaafhaaa
open Go.RowKit

theorem info5b : (Try.prog.info? 5).map (fun i => (i.zero, i.size, i.bytes)) = some (some (.int .u8 0), 1, 1) := by kernel_rfl
theorem cells5 : Try.prog.cellsOf 5 = 1 := by kernel_rfl

/-- make, copy and the text made of the bytes, of a text that is not empty, one behind the other; the worlds between are what they are. -/
theorem clone_steps (s : ByteArray) (w : World) (h0 : 0 < s.size) (hs : s.size ≤ 281474976710656) :
    ∃ W1 W2 W3 : World,
      (Instr.makeSlice 65 (.int .i64 (s.size : Int)) (.int .i64 (s.size : Int))).run Try.prog w = .ok (.slice (some ⟨w.heap.size, 0, none⟩) s.size s.size) W1 ∧
      (Builtin.copy_ #[65, 9] 3 #[.slice (some ⟨w.heap.size, 0, none⟩) s.size s.size, .string s]).run Try.prog W1 = .ok (goInt s.size) W2 ∧
      (Builtin.unsafeString_ #[66, 3] 9 #[.pointer (some ⟨w.heap.size, 0, none⟩), .int .i64 (s.size : Int)]).run Try.prog W2 = .ok (.string s) W3 ∧
      Below w.heap.size w W3 := by
  obtain ⟨i0, hi, hz0, hz1, hz2⟩ := info_parts info5b
  have hmk := run_make (P := Try.prog) w 65 5 i0 (.int .u8 0) Try.underlying65 hi hz0 .i64 .i64 (s.size : Int) (s.size : Int) (by omega) (by omega) (by rw [hz2]; omega) (by omega)
  simp only [Int.toNat_natCast, hz1, Nat.mul_one] at hmk
  generalize hM : madeCells (Value.int .u8 0).cells s.size = M at hmk
  have hMs : M.size = s.size := by rw [← hM, size_madeCells]
  have hcp := Lib.run_copy_row_string (P := Try.prog) (w.alloc (.cells M 5)) 65 9 3 5 w.heap.size 0 s.size s.size s M 5 Try.underlying65 (by rw [hi]; simp [hz1]) (heap_alloc_new w _) (Nat.le_refl _) (by omega)
  generalize hY : (M.toList.take 0 ++ Lib.byteCells s.data.toList ++ M.toList.drop (0 + s.size)).toArray = Y at hcp
  have hYl : Y.toList = Lib.byteCells s.data.toList := by
    rw [← hY]
    simp
    omega
  have hlen : Y.size = s.size := by
    have := congrArg List.length hYl
    rw [Array.length_toList, Lib.byteCells_length] at this
    rw [this, Lib.size_eq]
  have hg : ((w.alloc (.cells M 5)).setRow w.heap.size Y).heap[w.heap.size]? = some (.cells Y 5 (0, 0)) := setRow_heap _ _ M _ 5 (0, 0) (heap_alloc_new w _)
  have hne : s.data.toList ≠ [] := fun e => by
    have hz := Lib.size_eq s
    rw [e] at hz
    rw [List.length_nil] at hz
    omega
  have hun := Lib.run_unsafeString_row (P := Try.prog) ((w.alloc (.cells M 5)).setRow w.heap.size Y) 66 3 9 5 Try.underlying66 cells5 w.heap.size Y.size (by unfold World.shape?; rw [hg]) s.data.toList hne (by rw [← Lib.size_eq]; omega) (by rw [← Lib.size_eq]; omega)
    (fun j x hx => by
      have hc := cell_setRow_same (w.alloc (.cells M 5)) w.heap.size j M Y 5 (0, 0) (heap_alloc_new w _)
      rw [Addr.add_lit, Nat.zero_add, hc, ← Array.getElem?_toList, hYl]
      simp [Lib.byteCells, hx])
  rw [← Lib.size_eq] at hun
  refine ⟨_, _, _, hmk, hcp, hun, Lib.below_freeze (p := ⟨w.heap.size, 0, none⟩) ?_ (Nat.le_refl _) _⟩
  exact ((Below.refl _ _).alloc (Nat.le_refl _) _).trans ⟨rfl, rfl, rfl, by simp [World.setRow], fun k hk => setRow_other _ _ _ _ (by omega)⟩

set_option maxHeartbeats 400000 in
theorem lite_clone (s : ByteArray) (w : World) (hs : s.size ≤ 281474976710656) :
    Calls Try.prog 44 #[.string s] w fun e w' => e = .returned (.string s) ∧ Below w.heap.size w w' := by
  by_cases h0 : s.size = 0
  · have hs : s = ⟨#[]⟩ := by
      apply ByteArray.ext
      exact Array.eq_empty_of_size_eq_zero h0
    subst hs
    go_enter Try.func44, Try.ntmps44
    go_wp2
    go_ret
    exact ⟨rfl, Below.refl _ _⟩
  · obtain ⟨W1, W2, W3, h1, h2, h3, hb⟩ := clone_steps s w (by omega) hs
    have b1 : ((s.size : Int) == 0) = false := beq_eq_false_iff_ne.2 (by omega)
    go_enter Try.func44, Try.ntmps44
    go_wp2
    go_ret
    exact ⟨rfl, hb⟩

set_option maxHeartbeats 400000 in
theorem str_clone (s : ByteArray) (w : World) (hs : s.size ≤ 281474976710656) :
    Calls Try.prog 43 #[.string s] w fun e w' => e = .returned (.string s) ∧ Below w.heap.size w w' := by
  go_enter Try.func43, Try.ntmps43
  go_wp2_with fail
  refine (lite_clone s _ hs).mono ?_
  rintro e w1 ⟨rfl, hb⟩
  go_wp2_with fail
  go_ret
  exact ⟨rfl, hb⟩

end Go.Proofs.Ythfjekpmaafhaaa
