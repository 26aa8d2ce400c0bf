/- The two name tests (spec.NameRight, impl.NameRight) answer alike: what each call does. No condition. -/
import Derived.Test.YtnefcldjigndgaaDoorBase
namespace Go.Proofs.YtnefcldjigndgaaDoor.Draw
open Go.RowKit
set_option linter.unusedSimpArgs false

def okAt (s : ByteArray) (i : Nat) : Bool :=
  (decide (97 ≤ (s.data.toList.getD i 0).toNat) && decide ((s.data.toList.getD i 0).toNat ≤ 122)) ||
  (!decide (i = 0) && ((decide (48 ≤ (s.data.toList.getD i 0).toNat) && decide ((s.data.toList.getD i 0).toNat ≤ 57)) || decide ((s.data.toList.getD i 0).toNat = 95)))
def nameB (s : ByteArray) : Bool := decide (1 ≤ s.size) && decide (s.size ≤ 20) && (List.range s.size).all (okAt s)


/-- The tests on one byte, decided. -/
structure Tests (c : Int) (a z n m u : Bool) : Prop where
  a97 : decide (97 ≤ c) = a
  z122 : decide (c ≤ 122) = z
  n48 : decide (48 ≤ c) = n
  m57 : decide (c ≤ 57) = m
  u95 : (c == 95) = u
  v95 : (c != 95) = !u
theorem byte_ranges (b : UInt8) : (Tests b.toNat false true false true false ∧ (b.toNat : Int) < 48) ∨ (Tests b.toNat false true true true false ∧ 48 ≤ (b.toNat : Int) ∧ (b.toNat : Int) ≤ 57) ∨
    (Tests b.toNat false true true false false ∧ 58 ≤ (b.toNat : Int) ∧ (b.toNat : Int) ≤ 96 ∧ ¬ (b.toNat : Int) = 95) ∨ (Tests b.toNat false true true false true ∧ 95 ≤ (b.toNat : Int) ∧ (b.toNat : Int) ≤ 95) ∨
    (Tests b.toNat true true true false false ∧ 97 ≤ (b.toNat : Int) ∧ (b.toNat : Int) ≤ 122) ∨ (Tests b.toNat true false true false false ∧ 123 ≤ (b.toNat : Int)) := by
  have e (x y : Int) : decide (x ≤ y) = true ↔ x ≤ y := decide_eq_true_iff
  have e' (x y : Int) : decide (x ≤ y) = false ↔ ¬ x ≤ y := decide_eq_false_iff_not
  by_cases h1 : (b.toNat : Int) < 48
  · exact Or.inl ⟨⟨by simp; omega, by simp; omega, by simp; omega, by simp; omega, beq_eq_false_iff_ne.2 (by omega), by rw [Bool.not_false, bne_iff_ne]; omega⟩, h1⟩
  by_cases h2 : (b.toNat : Int) ≤ 57
  · exact Or.inr (Or.inl ⟨⟨by simp; omega, by simp; omega, by simp; omega, by simp; omega, beq_eq_false_iff_ne.2 (by omega), by rw [Bool.not_false, bne_iff_ne]; omega⟩, by omega, h2⟩)
  by_cases h3 : (b.toNat : Int) = 95
  · exact Or.inr (Or.inr (Or.inr (Or.inl ⟨⟨by simp; omega, by simp; omega, by simp; omega, by simp; omega, by simpa using h3, by rw [Bool.not_true, bne_eq_false_iff_eq]; exact h3⟩, by omega, by omega⟩)))
  by_cases h4 : (b.toNat : Int) ≤ 96
  · exact Or.inr (Or.inr (Or.inl ⟨⟨by simp; omega, by simp; omega, by simp; omega, by simp; omega, beq_eq_false_iff_ne.2 (by omega), by rw [Bool.not_false, bne_iff_ne]; omega⟩, by omega, h4, h3⟩))
  by_cases h5 : (b.toNat : Int) ≤ 122
  · exact Or.inr (Or.inr (Or.inr (Or.inr (Or.inl ⟨⟨by simp; omega, by simp; omega, by simp; omega, by simp; omega, beq_eq_false_iff_ne.2 (by omega), by rw [Bool.not_false, bne_iff_ne]; omega⟩, by omega, h5⟩))))
  · exact Or.inr (Or.inr (Or.inr (Or.inr (Or.inr ⟨⟨by simp; omega, by simp; omega, by simp; omega, by simp; omega, beq_eq_false_iff_ne.2 (by omega), by rw [Bool.not_false, bne_iff_ne]; omega⟩, by omega⟩))))


theorem nameB_at_false (s : ByteArray) (k : Nat) (hk : k < s.size) (h : okAt s k = false) : nameB s = false := by
  unfold nameB
  have : (List.range s.size).all (okAt s) = false := by
    rw [List.all_eq_false]
    exact ⟨k, by simpa using hk, by simp [h]⟩
  simp [this]
theorem nameB_true (s : ByteArray) (h1 : 1 ≤ s.size) (h2 : s.size ≤ 20) (h : ∀ j, j < s.size → okAt s j = true) : nameB s = true := by
  unfold nameB
  have : (List.range s.size).all (okAt s) = true := by
    rw [List.all_eq_true]
    intro x hx
    exact h x (by simpa using hx)
  simp [this, h1, h2]

theorem okAt_iff (s : ByteArray) (k : Nat) (h : k < s.size) : okAt s k = true ↔ (97 ≤ (s[k].toNat : Int) ∧ (s[k].toNat : Int) ≤ 122) ∨ (¬ k = 0 ∧ ((48 ≤ (s[k].toNat : Int) ∧ (s[k].toNat : Int) ≤ 57) ∨ (s[k].toNat : Int) = 95)) := by
  unfold okAt
  rw [getD_at s k h]
  simp
  omega
theorem okAt_no (s : ByteArray) (k : Nat) (h : k < s.size) (hn : ¬ ((97 ≤ (s[k].toNat : Int) ∧ (s[k].toNat : Int) ≤ 122) ∨ (¬ k = 0 ∧ ((48 ≤ (s[k].toNat : Int) ∧ (s[k].toNat : Int) ≤ 57) ∨ (s[k].toNat : Int) = 95)))) : okAt s k = false := by
  rw [← Bool.not_eq_true, okAt_iff s k h]; exact hn
theorem upto_succ (s : ByteArray) (k : Nat) (h : ∀ j, j < k → okAt s j = true) (hk : okAt s k = true) : ∀ j, j < k + 1 → okAt s j = true := by
  intro j hj
  by_cases e : j = k
  · rw [e]; exact hk
  · exact h j (by omega)

set_option maxHeartbeats 400000 in
theorem spec_name (s : ByteArray) (w : World) (hs : s.size ≤ maxLen) :
    Calls Tryd.prog 53 #[.string s] w fun e w' => e = .returned (.bool (nameB s)) ∧ w' = w := by
  unfold maxLen at hs
  by_cases h1 : 1 ≤ s.size
  · by_cases h2 : s.size ≤ 20
    · have b1 : decide ((s.size : Int) < 1) = false := by simp; omega
      have b2 : decide (20 < (s.size : Int)) = false := by simp; omega
      go_enter Tryd.func53, Tryd.ntmps53
      go_wp2
      go_loop [3] (fun i => ∃ k : Nat, k ≤ s.size ∧ i = .int .i64 k ∧ Hid (∀ j, j < k → okAt s j = true)) (fun i => s.size - (intOf i).toNat)
      case atStart => exact ⟨0, Nat.zero_le _, rfl, fun j hj => by omega⟩
      case round =>
        obtain ⟨k, hk, rfl, H⟩ := hrel
        by_cases hlt : k < s.size
        · rcases Nat.eq_zero_or_pos k with hz | hz
          · subst hz
            rcases byte_ranges s[0] with ⟨⟨t1, t2, t3, t4, t5, t6⟩, hc⟩ | ⟨⟨t1, t2, t3, t4, t5, t6⟩, hc⟩ | ⟨⟨t1, t2, t3, t4, t5, t6⟩, hc⟩ | ⟨⟨t1, t2, t3, t4, t5, t6⟩, hc⟩ | ⟨⟨t1, t2, t3, t4, t5, t6⟩, hc⟩ | ⟨⟨t1, t2, t3, t4, t5, t6⟩, hc⟩
            all_goals go_wp2
            all_goals first
              | (go_ret; exact ⟨ret_bool (nameB_at_false s 0 hlt (okAt_no s 0 hlt (by omega))).symm, rfl⟩)
              | (go_round
                 case rel => exact ⟨0 + 1, by omega, by go_num, upto_succ s 0 H ((okAt_iff s 0 hlt).2 (by omega))⟩
                 case measure => simp [intOf]; omega)
          · have hz' : ((k : Int) == 0) = false := beq_eq_false_iff_ne.2 (by omega)
            rcases byte_ranges s[k] with ⟨⟨t1, t2, t3, t4, t5, t6⟩, hc⟩ | ⟨⟨t1, t2, t3, t4, t5, t6⟩, hc⟩ | ⟨⟨t1, t2, t3, t4, t5, t6⟩, hc⟩ | ⟨⟨t1, t2, t3, t4, t5, t6⟩, hc⟩ | ⟨⟨t1, t2, t3, t4, t5, t6⟩, hc⟩ | ⟨⟨t1, t2, t3, t4, t5, t6⟩, hc⟩
            all_goals go_wp2
            all_goals first
              | (go_ret; exact ⟨ret_bool (nameB_at_false s k hlt (okAt_no s k hlt (by omega))).symm, rfl⟩)
              | (go_round
                 case rel => exact ⟨k + 1, by omega, by go_num, upto_succ s k H ((okAt_iff s k hlt).2 (by omega))⟩
                 case measure => simp [intOf]; omega)
        · go_wp2
          go_ret
          have : k = s.size := by omega
          subst this
          exact ⟨ret_bool (nameB_true s h1 h2 H).symm, rfl⟩
    · go_enter Tryd.func53, Tryd.ntmps53
      go_wp2
      go_ret
      refine ⟨?_, rfl⟩
      simp [nameB, h2]
  · go_enter Tryd.func53, Tryd.ntmps53
    go_wp2
    go_ret
    refine ⟨?_, rfl⟩
    simp [nameB, h1]

theorem nameB_big (s : ByteArray) (h : ¬ s.size ≤ 20) : nameB s = false := by simp [nameB, h]
theorem nameB_none (s : ByteArray) (h : ¬ 1 ≤ s.size) : nameB s = false := by simp [nameB, h]


def likeB (s : ByteArray) : Bool := decide (1 ≤ s.size) && (List.range s.size).all (okAt s)
theorem likeB_at_false (s : ByteArray) (k : Nat) (hk : k < s.size) (h : okAt s k = false) : likeB s = false := by
  unfold likeB
  have : (List.range s.size).all (okAt s) = false := by
    rw [List.all_eq_false]
    exact ⟨k, by simpa using hk, by simp [h]⟩
  simp [this]
theorem likeB_true (s : ByteArray) (h1 : 1 ≤ s.size) (h : ∀ j, j < s.size → okAt s j = true) : likeB s = true := by
  unfold likeB
  have : (List.range s.size).all (okAt s) = true := by
    rw [List.all_eq_true]
    intro x hx
    exact h x (by simpa using hx)
  simp [this, h1]
theorem likeB_none (s : ByteArray) (h : ¬ 1 ≤ s.size) : likeB s = false := by simp [likeB, h]
theorem nameB_like (s : ByteArray) (h2 : s.size ≤ 20) : nameB s = likeB s := by simp [nameB, likeB, h2]
theorem like_ne (s : ByteArray) (h1 : 1 ≤ s.size) : (s.toList == []) = false := by
  rw [beq_eq_false_iff_ne, ByteArray.toList_eq]
  intro h
  have h2 : s.data.toList.length = 0 := by rw [h]; rfl
  have h3 : s.data.size = s.size := rfl
  rw [Array.length_toList] at h2
  omega
theorem like_e (s : ByteArray) (h1 : ¬ 1 ≤ s.size) : (s.toList == []) = true := by
  rw [beq_iff_eq, ByteArray.toList_eq]
  have h3 : s.data.size = s.size := rfl
  exact List.eq_nil_of_length_eq_zero (by rw [Array.length_toList]; omega)

set_option maxHeartbeats 400000 in
theorem impl_like (s : ByteArray) (w : World) (hs : s.size ≤ maxLen) :
    Calls Tryd.prog 82 #[.string s] w fun e w' => e = .returned (.bool (likeB s)) ∧ Below w.heap.size w w' := by
  unfold maxLen at hs
  go_enter Tryd.func82, Tryd.ntmps82
  go_wp2
  go_loopw [3] (fun _ w' => ∃ k : Nat, k ≤ s.size ∧ w' = w.iter s k ∧ Hid (∀ j, j < k → okAt s j = true)) (fun _ w' => s.size - w'.iterPos w.heap.size)
  case atStart => exact ⟨0, Nat.zero_le _, rfl, fun j hj => by omega⟩
  case round =>
    obtain ⟨k, hk, rfl, H⟩ := hrel
    by_cases hlt : k < s.size
    · by_cases hlo : s[k].toNat < 128
      · have hnx : ∀ ty, (Instr.next (.pointer (some ⟨w.heap.size, 0, none⟩)) true ty).run Tryd.prog (w.iter s k) = _ := fun ty => run_next_ascii w s k ty hlt hlo
        rcases Nat.eq_zero_or_pos k with hz | hz
        · subst hz
          rcases byte_ranges s[0] with ⟨⟨t1, t2, t3, t4, t5, t6⟩, hc⟩ | ⟨⟨t1, t2, t3, t4, t5, t6⟩, hc⟩ | ⟨⟨t1, t2, t3, t4, t5, t6⟩, hc⟩ | ⟨⟨t1, t2, t3, t4, t5, t6⟩, hc⟩ | ⟨⟨t1, t2, t3, t4, t5, t6⟩, hc⟩ | ⟨⟨t1, t2, t3, t4, t5, t6⟩, hc⟩
          all_goals go_wp2
          all_goals first
            | (go_ret; exact ⟨ret_bool (likeB_at_false s 0 hlt (okAt_no s 0 hlt (by omega))).symm, below_iter _ _ _⟩)
            | (go_roundw
               case rel => exact ⟨0 + 1, by omega, rfl, upto_succ s 0 H ((okAt_iff s 0 hlt).2 (by omega))⟩
               case measure => simp; omega)
        · have hz' : ((k : Int) == 0) = false := beq_eq_false_iff_ne.2 (by omega)
          rcases byte_ranges s[k] with ⟨⟨t1, t2, t3, t4, t5, t6⟩, hc⟩ | ⟨⟨t1, t2, t3, t4, t5, t6⟩, hc⟩ | ⟨⟨t1, t2, t3, t4, t5, t6⟩, hc⟩ | ⟨⟨t1, t2, t3, t4, t5, t6⟩, hc⟩ | ⟨⟨t1, t2, t3, t4, t5, t6⟩, hc⟩ | ⟨⟨t1, t2, t3, t4, t5, t6⟩, hc⟩
          all_goals go_wp2
          all_goals first
            | (go_ret; exact ⟨ret_bool (likeB_at_false s k hlt (okAt_no s k hlt (by omega))).symm, below_iter _ _ _⟩)
            | (go_roundw
               case rel => exact ⟨k + 1, by omega, rfl, upto_succ s k H ((okAt_iff s k hlt).2 (by omega))⟩
               case measure => simp; omega)
      · have hd := decode_high s k hlt (by omega)
        have hf := okAt_no s k hlt (by omega)
        generalize hdc : (Utf8.decode s k).1 = r at hd
        generalize hdw : (Utf8.decode s k).2 = wd at hd
        have hnx : ∀ ty, (Instr.next (.pointer (some ⟨w.heap.size, 0, none⟩)) true ty).run Tryd.prog (w.iter s k) = .ok (.tuple #[.bool true, .int .i64 k, .int .i32 r]) (w.iter s (k + wd)) := fun ty => by rw [← hdc, ← hdw]; exact run_next_any w s k ty hlt
        clear hdc hdw hlo
        have Hf : Hid (okAt s k = false) := hf
        clear hf
        have t1 : decide (97 ≤ (r : Int)) = true := by simp; omega
        have t2 : decide ((r : Int) ≤ 122) = false := by simp; omega
        have t3 : decide (48 ≤ (r : Int)) = true := by simp; omega
        have t4 : decide ((r : Int) ≤ 57) = false := by simp; omega
        have t5 : ((r : Int) == 95) = false := beq_eq_false_iff_ne.2 (by omega)
        rcases Nat.eq_zero_or_pos k with hz | hz
        · subst hz
          go_wp2
          go_ret
          exact ⟨ret_bool (likeB_at_false s 0 hlt Hf.out).symm, below_iter _ _ _⟩
        · have hz' : ((k : Int) == 0) = false := beq_eq_false_iff_ne.2 (by omega)
          go_wp2
          go_ret
          exact ⟨ret_bool (likeB_at_false s k hlt Hf.out).symm, below_iter _ _ _⟩
    · have hnx : ∀ ty, (Instr.next (.pointer (some ⟨w.heap.size, 0, none⟩)) true ty).run Tryd.prog (w.iter s k) = _ := fun ty => run_next_end w s k ty hlt
      by_cases h1 : 1 ≤ s.size
      · have hne : (s.toList == []) = false := like_ne s h1
        have hne' : (s.toList != []) = true := by simp only [bne, hne, Bool.not_false]
        go_wp2
        go_ret
        have : k = s.size := by omega
        subst this
        exact ⟨ret_bool (likeB_true s h1 H).symm, below_iter _ _ _⟩
      · have hne : (s.toList == []) = true := like_e s h1
        have hne' : (s.toList != []) = false := by simp only [bne, hne, Bool.not_true]
        go_wp2
        go_ret
        exact ⟨ret_bool (likeB_none s h1).symm, below_iter _ _ _⟩

set_option maxHeartbeats 400000 in
theorem impl_name (s : ByteArray) (w : World) (hs : s.size ≤ maxLen) :
    Calls Tryd.prog 74 #[.string s] w fun e w' => e = .returned (.bool (nameB s)) ∧ Below w.heap.size w w' := by
  have hs' := hs
  unfold maxLen at hs'
  by_cases h2 : s.size ≤ 20
  · have b2 : decide ((s.size : Int) ≤ 20) = true := by simp; omega
    have hL := nameB_like s h2
    have HL : Hid (nameB s = likeB s) := hL
    clear hL
    have c1 := fun (w : World) => impl_like s w hs
    generalize likeB s = r at c1 HL
    go_enter Tryd.func74, Tryd.ntmps74
    go_wp2_with (go_at_call 82; refine (c1 _).mono ?_; rintro e w' ⟨rfl, hb⟩)
    go_ret
    exact ⟨ret_bool HL.out.symm, hb⟩
  · have b2 : decide ((s.size : Int) ≤ 20) = false := by simp; omega
    go_enter Tryd.func74, Tryd.ntmps74
    go_wp2_with fail
    go_ret
    exact ⟨ret_bool (nameB_big s h2).symm, Below.refl _ _⟩


end Go.Proofs.YtnefcldjigndgaaDoor.Draw
