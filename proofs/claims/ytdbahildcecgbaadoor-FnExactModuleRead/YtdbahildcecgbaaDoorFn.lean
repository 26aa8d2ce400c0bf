/- The functions of the language by number: what the program's look at its table answers. -/
import Derived.Test.YtdbahildcecgbaaDoorFw
import Derived.Test.YtdbahildcecgbaaDoorName
namespace Go.Proofs.YtdbahildcecgbaaDoor
open Go.RowKit
open Go.Proofs.YtdbahildcecgbaaDoor.Draw

def callB (s : ByteArray) : Bool := (s.toList == [105, 110, 116, 101, 114, 101, 115, 116]) || ((s.toList == [105, 110, 115, 116, 97, 108, 109, 101, 110, 116]) || ((s.toList == [108, 97, 116, 101, 114]) || ((s.toList == [100, 97, 121, 115]) || ((s.toList == [108, 101, 97, 115, 116]) || ((s.toList == [109, 111, 115, 116]) || ((s.toList == [115, 104, 97, 114, 101])))))))
/-- A number that is told of a word. -/
def FnIs (s : ByteArray) (r : Int) : Prop := (∃ k : Nat, k < 8 ∧ r = (k : Int) ∧ ((funS k).toList == s.toList) = true ∧ ∀ j, j < k → ((funS j).toList == s.toList) = false) ∨ (r = 0 ∧ ∀ j, j < 8 → ((funS j).toList == s.toList) = false)
theorem funS_list (k : Nat) : (funS k).toList = funT.getD k [] := by
  unfold funS
  show (ByteArray.mk (funT.getD k []).toArray).toList = _
  rw [ByteArray.toList_eq]
theorem callB_of {s : ByteArray} {r : Int} (h : FnIs s r) : callB s = (r != 0) := by
  unfold callB
  rcases h with ⟨k, hk, rfl, he, hn⟩ | ⟨rfl, hn⟩
  · rw [funS_list] at he
    have hs : s.toList = funT.getD k [] := (by simpa using he : funT.getD k [] = s.toList).symm
    rw [hs]
    rcases (by omega : k = 0 ∨ k = 1 ∨ k = 2 ∨ k = 3 ∨ k = 4 ∨ k = 5 ∨ k = 6 ∨ k = 7) with rfl | rfl | rfl | rfl | rfl | rfl | rfl | rfl <;> decide
  · have h1 : ∀ j, j < 8 → (s.toList == funT.getD j []) = false := fun j hj => by
      have := hn j hj
      rw [funS_list] at this
      rw [Bool.eq_false_iff] at this ⊢
      intro hc
      apply this
      simp at hc ⊢
      exact hc.symm
    have a1 := h1 1 (by omega)
    have a2 := h1 2 (by omega)
    have a3 := h1 3 (by omega)
    have a4 := h1 4 (by omega)
    have a5 := h1 5 (by omega)
    have a6 := h1 6 (by omega)
    have a7 := h1 7 (by omega)
    simp only [funT, List.getD_cons_succ, List.getD_cons_zero] at a1 a2 a3 a4 a5 a6 a7
    rw [a1, a2, a3, a4, a5, a6, a7]
    rfl
set_option maxRecDepth 100000 in
set_option maxHeartbeats 8000000 in
theorem impl_fnum (s : ByteArray) (w : World) (hF : FunW w) :
    Calls Tryd.prog 20 #[.string s] w fun e w' => (∃ r, e = .returned (.int .i64 r) ∧ FnIs s r) ∧ w' = w := by
  have c0 := hF 0 (by omega)
  have c1 := hF 1 (by omega)
  have c2 := hF 2 (by omega)
  have c3 := hF 3 (by omega)
  have c4 := hF 4 (by omega)
  have c5 := hF 5 (by omega)
  have c6 := hF 6 (by omega)
  have c7 := hF 7 (by omega)
  clear hF
  obtain ⟨f0, hf0⟩ : ∃ f, f = funS 0 := ⟨_, rfl⟩
  rw [← hf0] at c0
  have H0 : Hid (f0 = funS 0) := hf0
  clear hf0
  obtain ⟨f1, hf1⟩ : ∃ f, f = funS 1 := ⟨_, rfl⟩
  rw [← hf1] at c1
  have H1 : Hid (f1 = funS 1) := hf1
  clear hf1
  obtain ⟨f2, hf2⟩ : ∃ f, f = funS 2 := ⟨_, rfl⟩
  rw [← hf2] at c2
  have H2 : Hid (f2 = funS 2) := hf2
  clear hf2
  obtain ⟨f3, hf3⟩ : ∃ f, f = funS 3 := ⟨_, rfl⟩
  rw [← hf3] at c3
  have H3 : Hid (f3 = funS 3) := hf3
  clear hf3
  obtain ⟨f4, hf4⟩ : ∃ f, f = funS 4 := ⟨_, rfl⟩
  rw [← hf4] at c4
  have H4 : Hid (f4 = funS 4) := hf4
  clear hf4
  obtain ⟨f5, hf5⟩ : ∃ f, f = funS 5 := ⟨_, rfl⟩
  rw [← hf5] at c5
  have H5 : Hid (f5 = funS 5) := hf5
  clear hf5
  obtain ⟨f6, hf6⟩ : ∃ f, f = funS 6 := ⟨_, rfl⟩
  rw [← hf6] at c6
  have H6 : Hid (f6 = funS 6) := hf6
  clear hf6
  obtain ⟨f7, hf7⟩ : ∃ f, f = funS 7 := ⟨_, rfl⟩
  rw [← hf7] at c7
  have H7 : Hid (f7 = funS 7) := hf7
  clear hf7
  have i0 : ∀ w, (Instr.index 57 (.agg #[.string f0, .string f1, .string f2, .string f3, .string f4, .string f5, .string f6, .string f7]) (.int .i64 0)).run Tryd.prog w = .ok (.string f0) w := fun _ => by kernel_rfl
  have i1 : ∀ w, (Instr.index 57 (.agg #[.string f0, .string f1, .string f2, .string f3, .string f4, .string f5, .string f6, .string f7]) (.int .i64 1)).run Tryd.prog w = .ok (.string f1) w := fun _ => by kernel_rfl
  have i2 : ∀ w, (Instr.index 57 (.agg #[.string f0, .string f1, .string f2, .string f3, .string f4, .string f5, .string f6, .string f7]) (.int .i64 2)).run Tryd.prog w = .ok (.string f2) w := fun _ => by kernel_rfl
  have i3 : ∀ w, (Instr.index 57 (.agg #[.string f0, .string f1, .string f2, .string f3, .string f4, .string f5, .string f6, .string f7]) (.int .i64 3)).run Tryd.prog w = .ok (.string f3) w := fun _ => by kernel_rfl
  have i4 : ∀ w, (Instr.index 57 (.agg #[.string f0, .string f1, .string f2, .string f3, .string f4, .string f5, .string f6, .string f7]) (.int .i64 4)).run Tryd.prog w = .ok (.string f4) w := fun _ => by kernel_rfl
  have i5 : ∀ w, (Instr.index 57 (.agg #[.string f0, .string f1, .string f2, .string f3, .string f4, .string f5, .string f6, .string f7]) (.int .i64 5)).run Tryd.prog w = .ok (.string f5) w := fun _ => by kernel_rfl
  have i6 : ∀ w, (Instr.index 57 (.agg #[.string f0, .string f1, .string f2, .string f3, .string f4, .string f5, .string f6, .string f7]) (.int .i64 6)).run Tryd.prog w = .ok (.string f6) w := fun _ => by kernel_rfl
  have i7 : ∀ w, (Instr.index 57 (.agg #[.string f0, .string f1, .string f2, .string f3, .string f4, .string f5, .string f6, .string f7]) (.int .i64 7)).run Tryd.prog w = .ok (.string f7) w := fun _ => by kernel_rfl
  go_enter Tryd.func20, Tryd.ntmps20
  go_wp2_with fail
  go_loopw [6] (fun i wr => ∃ (k : Nat) (z : Int), i = .int .i64 z ∧ z = (k : Int) ∧ k ≤ 8 ∧ Hid (∀ j, j < k → ((funS j).toList == s.toList) = false) ∧ wr = w) (fun i _ => 8 - (intOf i).toNat)
  case atStart => exact ⟨0, 0, rfl, rfl, by omega, fun j hj => by omega, rfl⟩
  case round =>
    obtain ⟨k, z, rfl, hz, hk, HN, rfl⟩ := hrel
    by_cases h8 : k < 8
    · rcases (by omega : k = 0 ∨ k = 1 ∨ k = 2 ∨ k = 3 ∨ k = 4 ∨ k = 5 ∨ k = 6 ∨ k = 7) with rfl | rfl | rfl | rfl | rfl | rfl | rfl | rfl
      · obtain rfl : z = 0 := by omega
        clear hz hk h8
        cases he : (f0.toList == s.toList)
        · have HN2 : Hid (∀ j, j < 1 → ((funS j).toList == s.toList) = false) := fun j hj => by
            by_cases e : j = 0
            · subst e; rw [← H0.out]; exact he
            · exact HN.out j (by omega)
          go_wp2_with fail
          go_roundw
          case rel => exact ⟨1, 1, by go_num, rfl, by omega, HN2, by first | rfl | trivial⟩
          case measure => simp [intOf]
        · have HR : Hid (FnIs s ((0 : Nat) : Int)) := Or.inl ⟨0, by omega, rfl, by rw [← H0.out]; exact he, HN.out⟩
          go_wp2_with fail
          go_ret
          exact ⟨⟨_, rfl, HR.out⟩, rfl⟩
      · obtain rfl : z = 1 := by omega
        clear hz hk h8
        cases he : (f1.toList == s.toList)
        · have HN2 : Hid (∀ j, j < 2 → ((funS j).toList == s.toList) = false) := fun j hj => by
            by_cases e : j = 1
            · subst e; rw [← H1.out]; exact he
            · exact HN.out j (by omega)
          go_wp2_with fail
          go_roundw
          case rel => exact ⟨2, 2, by go_num, rfl, by omega, HN2, by first | rfl | trivial⟩
          case measure => simp [intOf]
        · have HR : Hid (FnIs s ((1 : Nat) : Int)) := Or.inl ⟨1, by omega, rfl, by rw [← H1.out]; exact he, HN.out⟩
          go_wp2_with fail
          go_ret
          exact ⟨⟨_, rfl, HR.out⟩, rfl⟩
      · obtain rfl : z = 2 := by omega
        clear hz hk h8
        cases he : (f2.toList == s.toList)
        · have HN2 : Hid (∀ j, j < 3 → ((funS j).toList == s.toList) = false) := fun j hj => by
            by_cases e : j = 2
            · subst e; rw [← H2.out]; exact he
            · exact HN.out j (by omega)
          go_wp2_with fail
          go_roundw
          case rel => exact ⟨3, 3, by go_num, rfl, by omega, HN2, by first | rfl | trivial⟩
          case measure => simp [intOf]
        · have HR : Hid (FnIs s ((2 : Nat) : Int)) := Or.inl ⟨2, by omega, rfl, by rw [← H2.out]; exact he, HN.out⟩
          go_wp2_with fail
          go_ret
          exact ⟨⟨_, rfl, HR.out⟩, rfl⟩
      · obtain rfl : z = 3 := by omega
        clear hz hk h8
        cases he : (f3.toList == s.toList)
        · have HN2 : Hid (∀ j, j < 4 → ((funS j).toList == s.toList) = false) := fun j hj => by
            by_cases e : j = 3
            · subst e; rw [← H3.out]; exact he
            · exact HN.out j (by omega)
          go_wp2_with fail
          go_roundw
          case rel => exact ⟨4, 4, by go_num, rfl, by omega, HN2, by first | rfl | trivial⟩
          case measure => simp [intOf]
        · have HR : Hid (FnIs s ((3 : Nat) : Int)) := Or.inl ⟨3, by omega, rfl, by rw [← H3.out]; exact he, HN.out⟩
          go_wp2_with fail
          go_ret
          exact ⟨⟨_, rfl, HR.out⟩, rfl⟩
      · obtain rfl : z = 4 := by omega
        clear hz hk h8
        cases he : (f4.toList == s.toList)
        · have HN2 : Hid (∀ j, j < 5 → ((funS j).toList == s.toList) = false) := fun j hj => by
            by_cases e : j = 4
            · subst e; rw [← H4.out]; exact he
            · exact HN.out j (by omega)
          go_wp2_with fail
          go_roundw
          case rel => exact ⟨5, 5, by go_num, rfl, by omega, HN2, by first | rfl | trivial⟩
          case measure => simp [intOf]
        · have HR : Hid (FnIs s ((4 : Nat) : Int)) := Or.inl ⟨4, by omega, rfl, by rw [← H4.out]; exact he, HN.out⟩
          go_wp2_with fail
          go_ret
          exact ⟨⟨_, rfl, HR.out⟩, rfl⟩
      · obtain rfl : z = 5 := by omega
        clear hz hk h8
        cases he : (f5.toList == s.toList)
        · have HN2 : Hid (∀ j, j < 6 → ((funS j).toList == s.toList) = false) := fun j hj => by
            by_cases e : j = 5
            · subst e; rw [← H5.out]; exact he
            · exact HN.out j (by omega)
          go_wp2_with fail
          go_roundw
          case rel => exact ⟨6, 6, by go_num, rfl, by omega, HN2, by first | rfl | trivial⟩
          case measure => simp [intOf]
        · have HR : Hid (FnIs s ((5 : Nat) : Int)) := Or.inl ⟨5, by omega, rfl, by rw [← H5.out]; exact he, HN.out⟩
          go_wp2_with fail
          go_ret
          exact ⟨⟨_, rfl, HR.out⟩, rfl⟩
      · obtain rfl : z = 6 := by omega
        clear hz hk h8
        cases he : (f6.toList == s.toList)
        · have HN2 : Hid (∀ j, j < 7 → ((funS j).toList == s.toList) = false) := fun j hj => by
            by_cases e : j = 6
            · subst e; rw [← H6.out]; exact he
            · exact HN.out j (by omega)
          go_wp2_with fail
          go_roundw
          case rel => exact ⟨7, 7, by go_num, rfl, by omega, HN2, by first | rfl | trivial⟩
          case measure => simp [intOf]
        · have HR : Hid (FnIs s ((6 : Nat) : Int)) := Or.inl ⟨6, by omega, rfl, by rw [← H6.out]; exact he, HN.out⟩
          go_wp2_with fail
          go_ret
          exact ⟨⟨_, rfl, HR.out⟩, rfl⟩
      · obtain rfl : z = 7 := by omega
        clear hz hk h8
        cases he : (f7.toList == s.toList)
        · have HN2 : Hid (∀ j, j < 8 → ((funS j).toList == s.toList) = false) := fun j hj => by
            by_cases e : j = 7
            · subst e; rw [← H7.out]; exact he
            · exact HN.out j (by omega)
          go_wp2_with fail
          go_roundw
          case rel => exact ⟨8, 8, by go_num, rfl, by omega, HN2, by first | rfl | trivial⟩
          case measure => simp [intOf]
        · have HR : Hid (FnIs s ((7 : Nat) : Int)) := Or.inl ⟨7, by omega, rfl, by rw [← H7.out]; exact he, HN.out⟩
          go_wp2_with fail
          go_ret
          exact ⟨⟨_, rfl, HR.out⟩, rfl⟩
    · obtain rfl : k = 8 := by omega
      obtain rfl : z = 8 := by omega
      clear hz hk h8
      have HR : Hid (FnIs s 0) := Or.inr ⟨rfl, HN.out⟩
      go_wp2_with fail
      go_ret
      exact ⟨⟨_, rfl, HR.out⟩, rfl⟩
end Go.Proofs.YtdbahildcecgbaaDoor
