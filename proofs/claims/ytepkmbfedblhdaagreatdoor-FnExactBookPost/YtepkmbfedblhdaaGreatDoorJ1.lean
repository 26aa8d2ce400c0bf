/- Common ground of this seat's walks: plain facts on bytes, numbers and lists. · The two name tests (spec.NameRight, impl.NameRight) answer alike: what each call does. No condition. · errors.As at a target of the program's own struct type 'refusal' (after the guide's worked toy 'toyas', there at a pointer's type): a nil error is not found, and a refusal is found and its code stored. · Money's bounds, sums, and the face of a refusal (moneyOut): what each call does, of the program and of its model. · Cells of a block by number; the laws' mark texts; spots (two texts) handed over: what each call does. · Lists of lines and of texts: their sizes, copies and comparison: what the laws' helpers do. · Books handed over: their sizes, copies and comparison; what makes a book right, without a program. · The order of lines and of ids, what makes a book right: no program. · The shelf's bodies laid at this seat's program: the library's functions stand there as the shelf's contracts have them. -/
import Derived.Test.YtepkmbfedblhdaaGreatDoorRows
import Derived.WalkKit
import Derived.ProofKit
import Derived.WalkLawsBesides
import Derived.LaidEql
import Derived.Stop.Asserts
import Derived.RowKitTokens
import Derived.Below
import Derived.OwnWalk
import Derived.OwnWalkIn
import Derived.Laws.OwnMore
import Derived.Laws.IdiomStrings
import Derived.Deep.RegionHeld3
import Derived.BigQuiet
import Derived.Deep.DeepCutAuto
import Derived.Deep.CutRange
import Derived.Lib.Bytealg
import Derived.Test.YtepkmbfedblhdaaGreatDoorChecked
import Derived.Shelf.LaysM
import Derived.KernelRfl
namespace Go.Proofs.YtepkmbfedblhdaaGreatDoor.Draw
open Go.RowKit

theorem ret_int {k : IntKind} {a b : Int} (h : a = b) : Ending.returned (.int k a) = .returned (.int k b) := by rw [h]
theorem ret_bool {a b : Bool} (h : a = b) : Ending.returned (.bool a) = .returned (.bool b) := by rw [h]
theorem byte_lt (b : UInt8) : (b.toNat : Int) < 256 := by have := b.toNat_lt; omega
theorem take_snoc (s : ByteArray) (k : Nat) (h : k < s.size) : s.data.toList.take (k + 1) = s.data.toList.take k ++ [s[k]] := by
  rw [List.take_succ_eq_append_getElem (by simpa using h)]; rfl
theorem getD_at (s : ByteArray) (k : Nat) (h : k < s.size) : s.data.toList.getD k 0 = s[k] := by
  rw [List.getD_eq_getElem?_getD, List.getElem?_eq_getElem (by simpa using h)]; rfl
theorem below_iter (w : World) (s : ByteArray) (p : Nat) : Below w.heap.size w (w.iter s p) := (Below.refl _ _).alloc (Nat.le_refl _) _

/-- The bytes of a number, seven bits each; the fuel stands for 'at most so many bytes'. -/
def encF : Nat → Nat → List UInt8
  | 0, _ => []
  | f + 1, u => if u < 128 then [UInt8.ofNat u] else UInt8.ofNat (u % 128 + 128) :: encF f (u / 128)
theorem encF_len : ∀ (f u : Nat), (encF f u).length ≤ f
  | 0, _ => by simp [encF]
  | f + 1, u => by
    unfold encF
    split
    · simp
    · have := encF_len f (u / 128); simp; omega
theorem encF_small (f u : Nat) (h : u < 128) : encF (f + 1) u = [UInt8.ofNat u] := by simp [encF, h]
theorem encF_big (f u : Nat) (h : ¬ u < 128) : encF (f + 1) u = UInt8.ofNat (u % 128 + 128) :: encF f (u / 128) := by simp [encF, h]
def foldZ (n : Int) : Int := if n < 0 then -2 * n - 1 else 2 * n
def encN (n : Int) : List UInt8 := encF 10 (foldZ n).toNat
end Go.Proofs.YtepkmbfedblhdaaGreatDoor.Draw
namespace Go.Proofs.YtepkmbfedblhdaaGreatDoor.Draw
open Go.RowKit
set_option linter.unusedSimpArgs false

def okAt (s : ByteArray) (i : Nat) : Bool :=
  (decide (97 ≤ (s.data.toList.getD i 0).toNat) && decide ((s.data.toList.getD i 0).toNat ≤ 122)) ||
  (!decide (i = 0) && ((decide (48 ≤ (s.data.toList.getD i 0).toNat) && decide ((s.data.toList.getD i 0).toNat ≤ 57)) || decide ((s.data.toList.getD i 0).toNat = 95)))
def nameB (s : ByteArray) : Bool := decide (1 ≤ s.size) && decide (s.size ≤ 20) && (List.range s.size).all (okAt s)


/-- The tests on one byte, decided. -/
structure Tests (c : Int) (a z n m u : Bool) : Prop where
  a97 : decide (97 ≤ c) = a
  z122 : decide (c ≤ 122) = z
  n48 : decide (48 ≤ c) = n
  m57 : decide (c ≤ 57) = m
  u95 : (c == 95) = u
  v95 : (c != 95) = !u
theorem byte_ranges (b : UInt8) : (Tests b.toNat false true false true false ∧ (b.toNat : Int) < 48) ∨ (Tests b.toNat false true true true false ∧ 48 ≤ (b.toNat : Int) ∧ (b.toNat : Int) ≤ 57) ∨
    (Tests b.toNat false true true false false ∧ 58 ≤ (b.toNat : Int) ∧ (b.toNat : Int) ≤ 96 ∧ ¬ (b.toNat : Int) = 95) ∨ (Tests b.toNat false true true false true ∧ 95 ≤ (b.toNat : Int) ∧ (b.toNat : Int) ≤ 95) ∨
    (Tests b.toNat true true true false false ∧ 97 ≤ (b.toNat : Int) ∧ (b.toNat : Int) ≤ 122) ∨ (Tests b.toNat true false true false false ∧ 123 ≤ (b.toNat : Int)) := by
  have e (x y : Int) : decide (x ≤ y) = true ↔ x ≤ y := decide_eq_true_iff
  have e' (x y : Int) : decide (x ≤ y) = false ↔ ¬ x ≤ y := decide_eq_false_iff_not
  by_cases h1 : (b.toNat : Int) < 48
  · exact Or.inl ⟨⟨by simp; omega, by simp; omega, by simp; omega, by simp; omega, beq_eq_false_iff_ne.2 (by omega), by rw [Bool.not_false, bne_iff_ne]; omega⟩, h1⟩
  by_cases h2 : (b.toNat : Int) ≤ 57
  · exact Or.inr (Or.inl ⟨⟨by simp; omega, by simp; omega, by simp; omega, by simp; omega, beq_eq_false_iff_ne.2 (by omega), by rw [Bool.not_false, bne_iff_ne]; omega⟩, by omega, h2⟩)
  by_cases h3 : (b.toNat : Int) = 95
  · exact Or.inr (Or.inr (Or.inr (Or.inl ⟨⟨by simp; omega, by simp; omega, by simp; omega, by simp; omega, by simpa using h3, by rw [Bool.not_true, bne_eq_false_iff_eq]; exact h3⟩, by omega, by omega⟩)))
  by_cases h4 : (b.toNat : Int) ≤ 96
  · exact Or.inr (Or.inr (Or.inl ⟨⟨by simp; omega, by simp; omega, by simp; omega, by simp; omega, beq_eq_false_iff_ne.2 (by omega), by rw [Bool.not_false, bne_iff_ne]; omega⟩, by omega, h4, h3⟩))
  by_cases h5 : (b.toNat : Int) ≤ 122
  · exact Or.inr (Or.inr (Or.inr (Or.inr (Or.inl ⟨⟨by simp; omega, by simp; omega, by simp; omega, by simp; omega, beq_eq_false_iff_ne.2 (by omega), by rw [Bool.not_false, bne_iff_ne]; omega⟩, by omega, h5⟩))))
  · exact Or.inr (Or.inr (Or.inr (Or.inr (Or.inr ⟨⟨by simp; omega, by simp; omega, by simp; omega, by simp; omega, beq_eq_false_iff_ne.2 (by omega), by rw [Bool.not_false, bne_iff_ne]; omega⟩, by omega⟩))))


theorem nameB_at_false (s : ByteArray) (k : Nat) (hk : k < s.size) (h : okAt s k = false) : nameB s = false := by
  unfold nameB
  have : (List.range s.size).all (okAt s) = false := by
    rw [List.all_eq_false]
    exact ⟨k, by simpa using hk, by simp [h]⟩
  simp [this]
theorem nameB_true (s : ByteArray) (h1 : 1 ≤ s.size) (h2 : s.size ≤ 20) (h : ∀ j, j < s.size → okAt s j = true) : nameB s = true := by
  unfold nameB
  have : (List.range s.size).all (okAt s) = true := by
    rw [List.all_eq_true]
    intro x hx
    exact h x (by simpa using hx)
  simp [this, h1, h2]

theorem okAt_iff (s : ByteArray) (k : Nat) (h : k < s.size) : okAt s k = true ↔ (97 ≤ (s[k].toNat : Int) ∧ (s[k].toNat : Int) ≤ 122) ∨ (¬ k = 0 ∧ ((48 ≤ (s[k].toNat : Int) ∧ (s[k].toNat : Int) ≤ 57) ∨ (s[k].toNat : Int) = 95)) := by
  unfold okAt
  rw [getD_at s k h]
  simp
  omega
theorem okAt_no (s : ByteArray) (k : Nat) (h : k < s.size) (hn : ¬ ((97 ≤ (s[k].toNat : Int) ∧ (s[k].toNat : Int) ≤ 122) ∨ (¬ k = 0 ∧ ((48 ≤ (s[k].toNat : Int) ∧ (s[k].toNat : Int) ≤ 57) ∨ (s[k].toNat : Int) = 95)))) : okAt s k = false := by
  rw [← Bool.not_eq_true, okAt_iff s k h]; exact hn
theorem upto_succ (s : ByteArray) (k : Nat) (h : ∀ j, j < k → okAt s j = true) (hk : okAt s k = true) : ∀ j, j < k + 1 → okAt s j = true := by
  intro j hj
  by_cases e : j = k
  · rw [e]; exact hk
  · exact h j (by omega)

set_option maxHeartbeats 400000 in
theorem spec_name (s : ByteArray) (w : World) (hs : s.size ≤ maxLen) :
    Calls Tryz.prog 21 #[.string s] w fun e w' => e = .returned (.bool (nameB s)) ∧ w' = w := by
  unfold maxLen at hs
  by_cases h1 : 1 ≤ s.size
  · by_cases h2 : s.size ≤ 20
    · have b1 : decide ((s.size : Int) < 1) = false := by simp; omega
      have b2 : decide (20 < (s.size : Int)) = false := by simp; omega
      go_enter Tryz.func21, Tryz.ntmps21
      go_wp2
      go_loop [3] (fun i => ∃ k : Nat, k ≤ s.size ∧ i = .int .i64 k ∧ Hid (∀ j, j < k → okAt s j = true)) (fun i => s.size - (intOf i).toNat)
      case atStart => exact ⟨0, Nat.zero_le _, rfl, fun j hj => by omega⟩
      case round =>
        obtain ⟨k, hk, rfl, H⟩ := hrel
        by_cases hlt : k < s.size
        · rcases Nat.eq_zero_or_pos k with hz | hz
          · subst hz
            rcases byte_ranges s[0] with ⟨⟨t1, t2, t3, t4, t5, t6⟩, hc⟩ | ⟨⟨t1, t2, t3, t4, t5, t6⟩, hc⟩ | ⟨⟨t1, t2, t3, t4, t5, t6⟩, hc⟩ | ⟨⟨t1, t2, t3, t4, t5, t6⟩, hc⟩ | ⟨⟨t1, t2, t3, t4, t5, t6⟩, hc⟩ | ⟨⟨t1, t2, t3, t4, t5, t6⟩, hc⟩
            all_goals go_wp2
            all_goals first
              | (go_ret; exact ⟨ret_bool (nameB_at_false s 0 hlt (okAt_no s 0 hlt (by omega))).symm, rfl⟩)
              | (go_round
                 case rel => exact ⟨0 + 1, by omega, by go_num, upto_succ s 0 H ((okAt_iff s 0 hlt).2 (by omega))⟩
                 case measure => simp [intOf]; omega)
          · have hz' : ((k : Int) == 0) = false := beq_eq_false_iff_ne.2 (by omega)
            rcases byte_ranges s[k] with ⟨⟨t1, t2, t3, t4, t5, t6⟩, hc⟩ | ⟨⟨t1, t2, t3, t4, t5, t6⟩, hc⟩ | ⟨⟨t1, t2, t3, t4, t5, t6⟩, hc⟩ | ⟨⟨t1, t2, t3, t4, t5, t6⟩, hc⟩ | ⟨⟨t1, t2, t3, t4, t5, t6⟩, hc⟩ | ⟨⟨t1, t2, t3, t4, t5, t6⟩, hc⟩
            all_goals go_wp2
            all_goals first
              | (go_ret; exact ⟨ret_bool (nameB_at_false s k hlt (okAt_no s k hlt (by omega))).symm, rfl⟩)
              | (go_round
                 case rel => exact ⟨k + 1, by omega, by go_num, upto_succ s k H ((okAt_iff s k hlt).2 (by omega))⟩
                 case measure => simp [intOf]; omega)
        · go_wp2
          go_ret
          have : k = s.size := by omega
          subst this
          exact ⟨ret_bool (nameB_true s h1 h2 H).symm, rfl⟩
    · go_enter Tryz.func21, Tryz.ntmps21
      go_wp2
      go_ret
      refine ⟨?_, rfl⟩
      simp [nameB, h2]
  · go_enter Tryz.func21, Tryz.ntmps21
    go_wp2
    go_ret
    refine ⟨?_, rfl⟩
    simp [nameB, h1]

theorem nameB_big (s : ByteArray) (h : ¬ s.size ≤ 20) : nameB s = false := by simp [nameB, h]
theorem nameB_none (s : ByteArray) (h : ¬ 1 ≤ s.size) : nameB s = false := by simp [nameB, h]


def likeB (s : ByteArray) : Bool := decide (1 ≤ s.size) && (List.range s.size).all (okAt s)
theorem likeB_at_false (s : ByteArray) (k : Nat) (hk : k < s.size) (h : okAt s k = false) : likeB s = false := by
  unfold likeB
  have : (List.range s.size).all (okAt s) = false := by
    rw [List.all_eq_false]
    exact ⟨k, by simpa using hk, by simp [h]⟩
  simp [this]
theorem likeB_true (s : ByteArray) (h1 : 1 ≤ s.size) (h : ∀ j, j < s.size → okAt s j = true) : likeB s = true := by
  unfold likeB
  have : (List.range s.size).all (okAt s) = true := by
    rw [List.all_eq_true]
    intro x hx
    exact h x (by simpa using hx)
  simp [this, h1]
theorem likeB_none (s : ByteArray) (h : ¬ 1 ≤ s.size) : likeB s = false := by simp [likeB, h]
theorem nameB_like (s : ByteArray) (h2 : s.size ≤ 20) : nameB s = likeB s := by simp [nameB, likeB, h2]
theorem like_ne (s : ByteArray) (h1 : 1 ≤ s.size) : (s.toList == []) = false := by
  rw [beq_eq_false_iff_ne, ByteArray.toList_eq]
  intro h
  have h2 : s.data.toList.length = 0 := by rw [h]; rfl
  have h3 : s.data.size = s.size := rfl
  rw [Array.length_toList] at h2
  omega
theorem like_e (s : ByteArray) (h1 : ¬ 1 ≤ s.size) : (s.toList == []) = true := by
  rw [beq_iff_eq, ByteArray.toList_eq]
  have h3 : s.data.size = s.size := rfl
  exact List.eq_nil_of_length_eq_zero (by rw [Array.length_toList]; omega)

set_option maxHeartbeats 400000 in
theorem impl_like (s : ByteArray) (w : World) (hs : s.size ≤ maxLen) :
    Calls Tryz.prog 50 #[.string s] w fun e w' => e = .returned (.bool (likeB s)) ∧ Below w.heap.size w w' := by
  unfold maxLen at hs
  go_enter Tryz.func50, Tryz.ntmps50
  go_wp2
  go_loopw [3] (fun _ w' => ∃ k : Nat, k ≤ s.size ∧ w' = w.iter s k ∧ Hid (∀ j, j < k → okAt s j = true)) (fun _ w' => s.size - w'.iterPos w.heap.size)
  case atStart => exact ⟨0, Nat.zero_le _, rfl, fun j hj => by omega⟩
  case round =>
    obtain ⟨k, hk, rfl, H⟩ := hrel
    by_cases hlt : k < s.size
    · by_cases hlo : s[k].toNat < 128
      · have hnx : ∀ ty, (Instr.next (.pointer (some ⟨w.heap.size, 0, none⟩)) true ty).run Tryz.prog (w.iter s k) = _ := fun ty => run_next_ascii w s k ty hlt hlo
        rcases Nat.eq_zero_or_pos k with hz | hz
        · subst hz
          rcases byte_ranges s[0] with ⟨⟨t1, t2, t3, t4, t5, t6⟩, hc⟩ | ⟨⟨t1, t2, t3, t4, t5, t6⟩, hc⟩ | ⟨⟨t1, t2, t3, t4, t5, t6⟩, hc⟩ | ⟨⟨t1, t2, t3, t4, t5, t6⟩, hc⟩ | ⟨⟨t1, t2, t3, t4, t5, t6⟩, hc⟩ | ⟨⟨t1, t2, t3, t4, t5, t6⟩, hc⟩
          all_goals go_wp2
          all_goals first
            | (go_ret; exact ⟨ret_bool (likeB_at_false s 0 hlt (okAt_no s 0 hlt (by omega))).symm, below_iter _ _ _⟩)
            | (go_roundw
               case rel => exact ⟨0 + 1, by omega, rfl, upto_succ s 0 H ((okAt_iff s 0 hlt).2 (by omega))⟩
               case measure => simp; omega)
        · have hz' : ((k : Int) == 0) = false := beq_eq_false_iff_ne.2 (by omega)
          rcases byte_ranges s[k] with ⟨⟨t1, t2, t3, t4, t5, t6⟩, hc⟩ | ⟨⟨t1, t2, t3, t4, t5, t6⟩, hc⟩ | ⟨⟨t1, t2, t3, t4, t5, t6⟩, hc⟩ | ⟨⟨t1, t2, t3, t4, t5, t6⟩, hc⟩ | ⟨⟨t1, t2, t3, t4, t5, t6⟩, hc⟩ | ⟨⟨t1, t2, t3, t4, t5, t6⟩, hc⟩
          all_goals go_wp2
          all_goals first
            | (go_ret; exact ⟨ret_bool (likeB_at_false s k hlt (okAt_no s k hlt (by omega))).symm, below_iter _ _ _⟩)
            | (go_roundw
               case rel => exact ⟨k + 1, by omega, rfl, upto_succ s k H ((okAt_iff s k hlt).2 (by omega))⟩
               case measure => simp; omega)
      · have hd := decode_high s k hlt (by omega)
        have hf := okAt_no s k hlt (by omega)
        generalize hdc : (Utf8.decode s k).1 = r at hd
        generalize hdw : (Utf8.decode s k).2 = wd at hd
        have hnx : ∀ ty, (Instr.next (.pointer (some ⟨w.heap.size, 0, none⟩)) true ty).run Tryz.prog (w.iter s k) = .ok (.tuple #[.bool true, .int .i64 k, .int .i32 r]) (w.iter s (k + wd)) := fun ty => by rw [← hdc, ← hdw]; exact run_next_any w s k ty hlt
        clear hdc hdw hlo
        have Hf : Hid (okAt s k = false) := hf
        clear hf
        have t1 : decide (97 ≤ (r : Int)) = true := by simp; omega
        have t2 : decide ((r : Int) ≤ 122) = false := by simp; omega
        have t3 : decide (48 ≤ (r : Int)) = true := by simp; omega
        have t4 : decide ((r : Int) ≤ 57) = false := by simp; omega
        have t5 : ((r : Int) == 95) = false := beq_eq_false_iff_ne.2 (by omega)
        rcases Nat.eq_zero_or_pos k with hz | hz
        · subst hz
          go_wp2
          go_ret
          exact ⟨ret_bool (likeB_at_false s 0 hlt Hf.out).symm, below_iter _ _ _⟩
        · have hz' : ((k : Int) == 0) = false := beq_eq_false_iff_ne.2 (by omega)
          go_wp2
          go_ret
          exact ⟨ret_bool (likeB_at_false s k hlt Hf.out).symm, below_iter _ _ _⟩
    · have hnx : ∀ ty, (Instr.next (.pointer (some ⟨w.heap.size, 0, none⟩)) true ty).run Tryz.prog (w.iter s k) = _ := fun ty => run_next_end w s k ty hlt
      by_cases h1 : 1 ≤ s.size
      · have hne : (s.toList == []) = false := like_ne s h1
        have hne' : (s.toList != []) = true := by simp only [bne, hne, Bool.not_false]
        go_wp2
        go_ret
        have : k = s.size := by omega
        subst this
        exact ⟨ret_bool (likeB_true s h1 H).symm, below_iter _ _ _⟩
      · have hne : (s.toList == []) = true := like_e s h1
        have hne' : (s.toList != []) = false := by simp only [bne, hne, Bool.not_true]
        go_wp2
        go_ret
        exact ⟨ret_bool (likeB_none s h1).symm, below_iter _ _ _⟩

set_option maxHeartbeats 400000 in
theorem impl_name (s : ByteArray) (w : World) (hs : s.size ≤ maxLen) :
    Calls Tryz.prog 27 #[.string s] w fun e w' => e = .returned (.bool (nameB s)) ∧ Below w.heap.size w w' := by
  have hs' := hs
  unfold maxLen at hs'
  by_cases h2 : s.size ≤ 20
  · have b2 : decide ((s.size : Int) ≤ 20) = true := by simp; omega
    have hL := nameB_like s h2
    have HL : Hid (nameB s = likeB s) := hL
    clear hL
    have c1 := fun (w : World) => impl_like s w hs
    generalize likeB s = r at c1 HL
    go_enter Tryz.func27, Tryz.ntmps27
    go_wp2_with (go_at_call 50; refine (c1 _).mono ?_; rintro e w' ⟨rfl, hb⟩)
    go_ret
    exact ⟨ret_bool HL.out.symm, hb⟩
  · have b2 : decide ((s.size : Int) ≤ 20) = false := by simp; omega
    go_enter Tryz.func27, Tryz.ntmps27
    go_wp2_with fail
    go_ret
    exact ⟨ret_bool (nameB_big s h2).symm, Below.refl _ _⟩


end Go.Proofs.YtepkmbfedblhdaaGreatDoor.Draw
namespace Go.Proofs.YtepkmbfedblhdaaGreatDoor
open Go.RowKit Go.Extern.Stop Go.Stop Go.Extern

/-- errors.As(nil, target). -/
theorem as_nil (t : Value) (w : World) :
    Calls Tryz.prog 73 #[.nilIface, t] w fun e w' => e = .returned (.bool false) ∧ w' = w := by
  go_enter Tryz.func73, Tryz.ntmps73
  go_wp2
  go_ret
  exact ⟨rfl, rfl⟩

namespace AsAt
theorem valueOfP (t : Addr) (w : World) : (ReflectliteValue.unpack (.iface 113 (.pointer (some t)))).run Tryz.prog w
    = .ok (.agg #[.pointer (some ⟨2, 113, none⟩), .pointer (some ⟨w.heap.size, 0, none⟩), .int .u64 150]) (w.alloc (.cells #[.pointer (some t)] 113)) := by kernel_rfl
theorem typeP (a : Addr) (w : World) : (ReflectliteValue.methodAny (ReflectliteValue.valueError "reflectlite.Value.Type" 0) (fun t _ _ _ => ReflectliteType.toType t) #[.agg #[.pointer (some ⟨2, 113, none⟩), .pointer (some a), .int .u64 150]]).run Tryz.prog w
    = .ok (.iface 134 (.agg #[.pointer (some ⟨2, 113, none⟩)])) w := by kernel_rfl
theorem methodKind (h : Value) (w : World) : (Go.method 277 134 (.agg #[h]) "Kind").run Tryz.prog w = .ok (105, h) w := by kernel_rfl
theorem kindP (w : World) : ((ReflectliteType.abiMethod fun t => (fun a : Nat => Value.int IntKind.u8 (a : Int)) <$> Rtype.kind t) #[.pointer (some ⟨2, 113, none⟩)]).run Tryz.prog w = .ok (.int .u8 22) w := by kernel_rfl
theorem kindS (w : World) : ((ReflectliteType.abiMethod fun t => (fun a : Nat => Value.int IntKind.u8 (a : Int)) <$> Rtype.kind t) #[.pointer (some ⟨2, 94, none⟩)]).run Tryz.prog w = .ok (.int .u8 25) w := by kernel_rfl
theorem rlm (z : Sem Value) (f : TypeId → Addr → Nat → Nat → Sem Value) (v : Value) :
    ReflectliteValue.method z f #[v] = (do match ← ReflectliteValue.parts v with | none => z | some (t, a, fl) => f t a fl (fl % 32)) := rfl
theorem partsP (a : Addr) (w : World) : (ReflectliteValue.parts (.agg #[.pointer (some ⟨2, 113, none⟩), .pointer (some a), .int .u64 150])).run Tryz.prog w = .ok (some (113, a, 150)) w := by kernel_rfl
theorem isNilP (a p : Addr) (W : World) (ha : W.cell? a = some (.pointer (some p))) :
    (ReflectliteValue.method (ReflectliteValue.valueError "reflectlite.Value.IsNil" 0) ReflectliteValue.isNil #[.agg #[.pointer (some ⟨2, 113, none⟩), .pointer (some a), .int .u64 150]]).run Tryz.prog W = .ok (.bool false) W := by
  rw [rlm]
  simp only [Sem.run_bind, partsP, Result.andThen]
  simp [ReflectliteValue.isNil, loadVar, isAgg, underlying, Tryz.underlying113, ha, Result.andThen]
theorem methodElem (h : Value) (w : World) : (Go.method 277 134 (.agg #[h]) "Elem").run Tryz.prog w = .ok (115, .agg #[h]) w := by kernel_rfl
theorem methodImplements (h : Value) (w : World) : (Go.method 277 134 (.agg #[h]) "Implements").run Tryz.prog w = .ok (116, .agg #[h]) w := by kernel_rfl
theorem methodAssignableTo (h : Value) (w : World) : (Go.method 277 134 (.agg #[h]) "AssignableTo").run Tryz.prog w = .ok (113, .agg #[h]) w := by kernel_rfl
theorem elemP (w : World) : (ReflectliteType.method ReflectliteType.elem #[.agg #[.pointer (some ⟨2, 113, none⟩)]]).run Tryz.prog w = .ok (.iface 134 (.agg #[.pointer (some ⟨2, 94, none⟩)])) w := by kernel_rfl
theorem implementsS (w : World) : (ReflectliteType.relation "Implements" ReflectliteType.implements_ #[.agg #[.pointer (some ⟨2, 94, none⟩)], .iface 134 (.agg #[.pointer (some ⟨2, 66, none⟩)])]).run Tryz.prog w = .ok (.bool true) w := by kernel_rfl
theorem typeOfS (v : Value) (w : World) : (ReflectliteType.typeOf #[.iface 94 v]).run Tryz.prog w = .ok (.iface 134 (.agg #[.pointer (some ⟨2, 94, none⟩)])) w := by kernel_rfl
theorem assignableS (w : World) : (ReflectliteType.relation "AssignableTo" ReflectliteType.assignableTo #[.agg #[.pointer (some ⟨2, 94, none⟩)], .iface 134 (.agg #[.pointer (some ⟨2, 94, none⟩)])]).run Tryz.prog w = .ok (.bool true) w := by kernel_rfl
theorem valueOfS (c : Int) (w : World) : (ReflectliteValue.unpack (.iface 94 (.agg #[.int .i64 c]))).run Tryz.prog w
    = .ok (.agg #[.pointer (some ⟨2, 94, none⟩), .pointer (some ⟨w.heap.size, 0, none⟩), .int .u64 153]) (w.alloc (.cells #[.int .i64 c] 94)) := by kernel_rfl
theorem elemOfP (w : World) : (Rtype.elem? 113).run Tryz.prog w = .ok (some 94) w := by kernel_rfl
theorem mkS (p : Addr) (w : World) : (ReflectliteValue.mk 94 p ReflectliteValue.flagAddr).run Tryz.prog w = .ok (.agg #[.pointer (some ⟨2, 94, none⟩), .pointer (some p), .int .u64 409]) w := by kernel_rfl
theorem elemVP (a p : Addr) (W : World) (ha : W.cell? a = some (.pointer (some p))) :
    (ReflectliteValue.method (ReflectliteValue.valueError "reflectlite.Value.Elem" 0) ReflectliteValue.elem #[.agg #[.pointer (some ⟨2, 113, none⟩), .pointer (some a), .int .u64 150]]).run Tryz.prog W
      = .ok (.agg #[.pointer (some ⟨2, 94, none⟩), .pointer (some p), .int .u64 409]) W := by
  rw [rlm]
  simp only [Sem.run_bind, partsP, Result.andThen]
  simp [ReflectliteValue.elem, loadVar, isAgg, underlying, Tryz.underlying113, ha, Result.andThen, elemOfP, mkS]
theorem rls (v x : Value) : ReflectliteValue.set #[v, x] = (do
    let (some (dst, a, fl), some (src, b, _)) := (← ReflectliteValue.parts v, ← ReflectliteValue.parts x)
      | unsupported (.noEntry "extern/(internal/reflectlite.Value).Set.zeroValue")
    if fl / ReflectliteValue.flagAddr % 2 == 0 then unsupported (.noEntry "extern/(internal/reflectlite.Value).Set.unaddressable")
    let val ← loadVar src b
    if ← Rtype.directlyAssignable dst src then storeVar dst a val
    else if ← Rtype.implements dst src then
      if (← Rtype.kind src) == 20 then
        match val with
        | .nilIface => unsupported (.noEntry "extern/reflectlite: a nil value of one interface type handed on as a value of another")
        | _ => storeVar dst a val
      else storeVar dst a (.iface src val)
    else panicString ("reflectlite.Set: value of type " ++ (← Rtype.spelt src) ++ " is not assignable to type " ++ (← Rtype.spelt dst))
    pure (.tuple #[])) := rfl
theorem partsSa (a : Addr) (w : World) : (ReflectliteValue.parts (.agg #[.pointer (some ⟨2, 94, none⟩), .pointer (some a), .int .u64 409])).run Tryz.prog w = .ok (some (94, a, 409)) w := by kernel_rfl
theorem partsS (a : Addr) (w : World) : (ReflectliteValue.parts (.agg #[.pointer (some ⟨2, 94, none⟩), .pointer (some a), .int .u64 153])).run Tryz.prog w = .ok (some (94, a, 153)) w := by kernel_rfl
theorem directS (w : World) : (Rtype.directlyAssignable 94 94).run Tryz.prog w = .ok true w := by kernel_rfl
theorem loadS (b : Addr) (c : Int) (W : World) (hb : W.cell? b = some (.int .i64 c)) : (loadVar 94 b).run Tryz.prog W = .ok (.agg #[.int .i64 c]) W := by
  simp [loadVar, isAgg, underlying, Tryz.underlying94, Sem.run_bind, Result.andThen, loadCells, loadCellsFrom, Addr.add, hb]
theorem storeS (t : Addr) (c : Int) (old : Value) (W : World) (ht : W.cell? t = some old) (hf : W.frozen? t = false) : (storeVar 94 t (.agg #[.int .i64 c])).run Tryz.prog W = .ok () (W.setCell t (.int .i64 c)) := by
  simp [storeVar, Sem.run_bind, Result.andThen, Value.cells, storeCells, Addr.add]
  rw [run_store Tryz.prog W t _ _ (by rfl)]
  simp [ht, hf]
theorem setS (t b : Addr) (c : Int) (old : Value) (W : World) (hb : W.cell? b = some (.int .i64 c)) (ht : W.cell? t = some old) (hf : W.frozen? t = false) :
    (ReflectliteValue.set #[.agg #[.pointer (some ⟨2, 94, none⟩), .pointer (some t), .int .u64 409], .agg #[.pointer (some ⟨2, 94, none⟩), .pointer (some b), .int .u64 153]]).run Tryz.prog W
      = .ok (.tuple #[]) (W.setCell t (.int .i64 c)) := by
  rw [rls]
  simp only [Sem.run_bind, partsSa, partsS, Result.andThen]
  simp [ReflectliteValue.flagAddr, Sem.run_bind, Result.andThen, loadS b c W hb, directS, storeS t c old W ht hf]
end AsAt

/-- The variable errors.errorType as the program's text lays it: the handle of the type 'error'. -/
def Lay (w : World) : Prop := w.cell? ⟨0, 0, none⟩ = some (.iface 134 (.agg #[.pointer (some ⟨2, 66, none⟩)]))
theorem Lay.lt {w : World} (h : Lay w) : 0 < w.heap.size := by
  rcases Nat.lt_or_ge 0 w.heap.size with h0 | h0
  · exact h0
  · simp [Lay, World.cell?, Array.getElem?_eq_none h0] at h
theorem Lay.below {w w' : World} (h : Lay w) (hb : Below w.heap.size w w') : Lay w' := by
  have := hb.cell (p := ⟨0, 0, none⟩) h.lt
  unfold Lay at *
  rw [this]; exact h

open AsAt in
set_option maxRecDepth 100000 in
set_option maxHeartbeats 4000000 in
/-- errors.As of a refusal: it is found, and stored into the target. -/
theorem as_hit (c : Int) (t : Addr) (old : Value) (w : World) (hL : Lay w) (ht0 : w.cell? t = some old) (hf0 : w.frozen? t = false) :
    Calls Tryz.prog 73 #[.iface 94 (.agg #[.int .i64 c]), .iface 113 (.pointer (some t))] w fun ev w' => ev = .returned (.bool true) ∧ w' = ((((w.alloc (.cells #[.pointer (some t)] 113)).alloc (.cells #[.pointer (some ⟨2, 113, none⟩), .pointer (some ⟨w.heap.size, 0, none⟩), .int .u64 150] 120)).alloc (.cells #[.pointer (some ⟨2, 113, none⟩), .pointer (some ⟨w.heap.size, 0, none⟩), .int .u64 150] 120)).alloc (.cells #[.int .i64 c] 94)).setCell t (.int .i64 c) := by
  have hlt := hL.lt
  have hg : w.cell? ⟨0, 0, none⟩ = some (.iface 134 (.agg #[.pointer (some ⟨2, 66, none⟩)])) := hL
  have h6 := @run_callFunc_extern Tryz.prog 79 _ (fun args => ReflectliteValue.unpack (args.getD 0 (.tuple #[]))) Tryz.func79 (by kernel_rfl) (by kernel_rfl) (by kernel_rfl) (by kernel_rfl)
  have h7 := @run_callFunc_extern Tryz.prog 80 _ (ReflectliteValue.methodAny (ReflectliteValue.valueError "reflectlite.Value.Type" 0) (fun t _ _ _ => ReflectliteType.toType t)) Tryz.func80 (by kernel_rfl) (by kernel_rfl) (by kernel_rfl) (by kernel_rfl)
  have h8 := @run_callFunc_extern Tryz.prog 81 _ (ReflectliteValue.method (ReflectliteValue.valueError "reflectlite.Value.IsNil" 0) ReflectliteValue.isNil) Tryz.func81 (by kernel_rfl) (by kernel_rfl) (by kernel_rfl) (by kernel_rfl)
  have h27 := @run_callFunc_extern Tryz.prog 105 _ (ReflectliteType.abiMethod fun t => do pure (.int .u8 (← Rtype.kind t))) Tryz.func105 (by kernel_rfl) (by kernel_rfl) (by kernel_rfl) (by kernel_rfl)
  have h37 := @run_callFunc_extern Tryz.prog 115 _ (ReflectliteType.method ReflectliteType.elem) Tryz.func115 (by kernel_rfl) (by kernel_rfl) (by kernel_rfl) (by kernel_rfl)
  have h38 := @run_callFunc_extern Tryz.prog 116 _ (ReflectliteType.relation "Implements" ReflectliteType.implements_) Tryz.func116 (by kernel_rfl) (by kernel_rfl) (by kernel_rfl) (by kernel_rfl)
  have h10 := @run_callFunc_extern Tryz.prog 86 _ ReflectliteType.typeOf Tryz.func86 (by kernel_rfl) (by kernel_rfl) (by kernel_rfl) (by kernel_rfl)
  have h35 := @run_callFunc_extern Tryz.prog 113 _ (ReflectliteType.relation "AssignableTo" ReflectliteType.assignableTo) Tryz.func113 (by kernel_rfl) (by kernel_rfl) (by kernel_rfl) (by kernel_rfl)
  have h11 := @run_callFunc_extern Tryz.prog 87 _ (ReflectliteValue.method (ReflectliteValue.valueError "reflectlite.Value.Elem" 0) ReflectliteValue.elem) Tryz.func87 (by kernel_rfl) (by kernel_rfl) (by kernel_rfl) (by kernel_rfl)
  have h12 := @run_callFunc_extern Tryz.prog 88 _ ReflectliteValue.set Tryz.func88 (by kernel_rfl) (by kernel_rfl) (by kernel_rfl) (by kernel_rfl)
  have tO := typeOfS
  have mA := methodAssignableTo
  have a25 := assignableS
  have v25 := valueOfS
  have f6 := valueOfP
  have f7 := typeP
  have mK := methodKind
  have mE := methodElem
  have mI := methodImplements
  have k27 := kindP
  have k25 := kindS
  have e27 := elemP
  have i25 := implementsS
  have n8 := isNilP ⟨w.heap.size, 0, none⟩ t ((w.alloc (.cells #[.pointer (some t)] 113)).alloc (.cells #[.pointer (some ⟨2, 113, none⟩), .pointer (some ⟨w.heap.size, 0, none⟩), .int .u64 150] 120)) (by simp)
  have hg2 : ((w.alloc (.cells #[.pointer (some t)] 113)).alloc (.cells #[.pointer (some ⟨2, 113, none⟩), .pointer (some ⟨w.heap.size, 0, none⟩), .int .u64 150] 120)).cell? ⟨0, 0, none⟩ = some (.iface 134 (.agg #[.pointer (some ⟨2, 66, none⟩)])) := by
    rw [World.cell?_alloc_lt _ _ ⟨0, 0, none⟩ (by rw [World.size_alloc]; exact Nat.lt_succ_of_lt hlt), World.cell?_alloc_lt _ _ ⟨0, 0, none⟩ hlt]; exact hg
  have htl : t.block < w.heap.size := by
    rcases Nat.lt_or_ge t.block w.heap.size with h | h
    · exact h
    · simp [World.cell?, Array.getElem?_eq_none h] at ht0
  have el := elemVP ⟨w.heap.size, 0, none⟩ t (((w.alloc (.cells #[.pointer (some t)] 113)).alloc (.cells #[.pointer (some ⟨2, 113, none⟩), .pointer (some ⟨w.heap.size, 0, none⟩), .int .u64 150] 120)).alloc (.cells #[.pointer (some ⟨2, 113, none⟩), .pointer (some ⟨w.heap.size, 0, none⟩), .int .u64 150] 120)) (by rw [World.cell?_alloc_lt _ _ ⟨w.heap.size, 0, none⟩ (by simp; omega)]; simp)
  have st := setS t ⟨w.heap.size + 1 + 1 + 1, 0, none⟩ c old ((((w.alloc (.cells #[.pointer (some t)] 113)).alloc (.cells #[.pointer (some ⟨2, 113, none⟩), .pointer (some ⟨w.heap.size, 0, none⟩), .int .u64 150] 120)).alloc (.cells #[.pointer (some ⟨2, 113, none⟩), .pointer (some ⟨w.heap.size, 0, none⟩), .int .u64 150] 120)).alloc (.cells #[.int .i64 c] 94))
    (by rw [World.cell?_alloc_at _ _ _ _ (by simp)]; rfl)
    (by rw [World.cell?_alloc_lt _ _ t (by simp; omega), World.cell?_alloc_lt _ _ t (by simp; omega), World.cell?_alloc_lt _ _ t (by simp; omega), World.cell?_alloc_lt _ _ t htl]; exact ht0)
    (by rw [World.frozen?_alloc_old _ _ t (by simp; omega), World.frozen?_alloc_old _ _ t (by simp; omega), World.frozen?_alloc_old _ _ t (by simp; omega), World.frozen?_alloc_old _ _ t (Nat.ne_of_lt htl)]; exact hf0)
  clear hL
  go_enter Tryz.func73, Tryz.ntmps73
  go_wp2
  refine wp_loop_rounds 1 ?_
  rw [rounds_succ]
  go_wp2
  go_ret
  exact ⟨rfl, rfl⟩
end Go.Proofs.YtepkmbfedblhdaaGreatDoor
namespace Go.Proofs.YtepkmbfedblhdaaGreatDoor
open Go.RowKit

theorem bcell {W w1 : World} (hb : Below W.heap.size W w1) : (∀ b o, b < W.heap.size → w1.cell? ⟨b, o, none⟩ = W.cell? ⟨b, o, none⟩) ∧ (∀ b o, b < W.heap.size → w1.frozen? ⟨b, o, none⟩ = W.frozen? ⟨b, o, none⟩) :=
  ⟨fun b o h => hb.cell (p := ⟨b, o, none⟩) h, fun b o h => hb.frozen (p := ⟨b, o, none⟩) h⟩
def rightB (n : Int) : Bool := decide (-1000000000000 ≤ n) && decide (n ≤ 1000000000000)
theorem rightB_yes {n : Int} (h0 : -1000000000000 ≤ n) (h1 : n ≤ 1000000000000) : rightB n = true := by simp [rightB, h0, h1]
theorem rightB_no {n : Int} (h : n < -1000000000000 ∨ 1000000000000 < n) : rightB n = false := by
  simp [rightB]; omega
theorem rightB_iff (n : Int) : rightB n = true ↔ (-1000000000000 ≤ n ∧ n ≤ 1000000000000) := by simp [rightB]
def moneyV (r : Int × Int) : Value := .agg #[.int .i64 r.1, .int .i64 r.2]
def errV (c : Int) : Value := .iface 94 (.agg #[.int .i64 c])

theorem spec_right (n : Int) (w : World) :
    Calls Tryz.prog 44 #[.int .i64 n] w fun e w' => e = .returned (.bool (rightB n)) ∧ w' = w := by
  by_cases h0 : -1000000000000 ≤ n
  · have t0 : decide (-1000000000000 ≤ n) = true := by simpa using h0
    by_cases h1 : n ≤ 1000000000000
    · have t1 : decide (n ≤ 1000000000000) = true := by simpa using h1
      rw [rightB_yes h0 h1]
      go_enter Tryz.func44, Tryz.ntmps44
      go_wp2
      go_ret
      exact ⟨rfl, rfl⟩
    · have t1 : decide (n ≤ 1000000000000) = false := by simpa using h1
      rw [rightB_no (Or.inr (by omega))]
      go_enter Tryz.func44, Tryz.ntmps44
      go_wp2
      go_ret
      exact ⟨rfl, rfl⟩
  · have t0 : decide (-1000000000000 ≤ n) = false := by simpa using h0
    rw [rightB_no (Or.inl (by omega))]
    go_enter Tryz.func44, Tryz.ntmps44
    go_wp2
    go_ret
    exact ⟨rfl, rfl⟩

theorem impl_right (n : Int) (w : World) :
    Calls Tryz.prog 52 #[.int .i64 n] w fun e w' => e = .returned (.bool (rightB n)) ∧ w' = w := by
  by_cases h0 : -1000000000000 ≤ n
  · have t0 : decide (-1000000000000 ≤ n) = true := by simpa using h0
    by_cases h1 : n ≤ 1000000000000
    · have t1 : decide (n ≤ 1000000000000) = true := by simpa using h1
      rw [rightB_yes h0 h1]
      go_enter Tryz.func52, Tryz.ntmps52
      go_wp2
      go_ret
      exact ⟨rfl, rfl⟩
    · have t1 : decide (n ≤ 1000000000000) = false := by simpa using h1
      rw [rightB_no (Or.inr (by omega))]
      go_enter Tryz.func52, Tryz.ntmps52
      go_wp2
      go_ret
      exact ⟨rfl, rfl⟩
  · have t0 : decide (-1000000000000 ≤ n) = false := by simpa using h0
    rw [rightB_no (Or.inl (by omega))]
    go_enter Tryz.func52, Tryz.ntmps52
    go_wp2
    go_ret
    exact ⟨rfl, rfl⟩

set_option maxRecDepth 100000 in
set_option maxHeartbeats 1000000 in
theorem code_nil (w : World) :
    Calls Tryz.prog 60 #[.nilIface] w fun e w' => e = .returned (.int .i64 0) ∧ Below w.heap.size w w' := by
  go_enter Tryz.func60, Tryz.ntmps60
  go_wp2_with fail
  refine (as_nil _ _).mono ?_
  rintro e w1 ⟨rfl, rfl⟩
  go_wp2_with fail
  go_ret
  refine ⟨rfl, ?_⟩
  repeat (first | exact Below.refl _ _ | refine Below.setCell ?_ (by simp) _ | refine Below.alloc ?_ (by simp) _)
set_option maxRecDepth 100000 in
set_option maxHeartbeats 1000000 in
theorem code_err (c : Int) (w : World) (hL : Lay w) :
    Calls Tryz.prog 60 #[errV c] w fun e w' => e = .returned (.int .i64 c) ∧ Below w.heap.size w w' := by
  simp only [errV]
  have H : Hid (Lay w) := hL
  clear hL
  go_enter Tryz.func60, Tryz.ntmps60
  go_wp2_with fail
  refine (as_hit _ _ (.int .i64 0) _ (by exact H.out.below (by repeat (first | exact Below.refl _ _ | refine Below.alloc ?_ (by simp) _))) (by simp) (by simp)).mono ?_
  rintro e w1 ⟨rfl, rfl⟩
  go_wp2_with fail
  go_ret
  refine ⟨rfl, ?_⟩
  repeat (first | exact Below.refl _ _ | refine Below.setCell ?_ (by simp) _ | refine Below.alloc ?_ (by simp <;> omega) _)



end Go.Proofs.YtepkmbfedblhdaaGreatDoor
namespace Go.Proofs.YtepkmbfedblhdaaGreatDoor
open Go.RowKit
open Go.Proofs.YtepkmbfedblhdaaGreatDoor.Draw

/-- N cells of a block, read by number; none frozen. -/
def Own (w : World) (g N : Nat) (F : Nat → Value) : Prop := g < w.heap.size ∧ (∀ j, j < N → w.cell? ⟨g, j, none⟩ = some (F j)) ∧ ∀ j, w.frozen? ⟨g, j, none⟩ = false
theorem Own.below {w w' : World} {g N : Nat} {F : Nat → Value} (h : Own w g N F) (hb : Below w.heap.size w w') : Own w' g N F :=
  ⟨Nat.lt_of_lt_of_le h.1 hb.size, fun j hj => (hb.cell (p := ⟨g, j, none⟩) h.1).trans (h.2.1 j hj), fun j => (hb.frozen (p := ⟨g, j, none⟩) h.1).trans (h.2.2 j)⟩
theorem Own.grown {w w' : World} {g N q : Nat} {F : Nat → Value} (h : Own w g N F) (hg : w.grownBy w' (some q)) (hne : g ≠ q) : Own w' g N F := by
  have hb := hg.block g h.1 (by simpa using hne)
  exact ⟨Nat.lt_of_lt_of_le h.1 hg.size, fun j hj => (World.cell?_of_block (a := ⟨g, j, none⟩) hb).trans (h.2.1 j hj), fun j => (World.frozen?_of_block (a := ⟨g, j, none⟩) hb).trans (h.2.2 j)⟩
theorem Own.set {w : World} {g N i : Nat} {F : Nat → Value} (h : Own w g N F) (hi : i < N) (v : Value) : Own (w.setCell ⟨g, i, none⟩ v) g N (fun j => if j = i then v else F j) := by
  refine ⟨by simpa using h.1, fun j hj => ?_, fun j => by simp [h.2.2]⟩
  by_cases e : j = i
  · subst e
    have a0 := h.2.1 j hj
    simp [go_sem, a0]
  · show _ = some (if j = i then v else F j)
    rw [World.cell?_setCell_other _ _ _ _ (by first | (simp; done) | (simp; omega)), h.2.1 j hj, if_neg e]
theorem Own.congr {w : World} {g N : Nat} {F G : Nat → Value} (h : Own w g N F) (e : ∀ j, j < N → F j = G j) : Own w g N G := ⟨h.1, fun j hj => (h.2.1 j hj).trans (by rw [e j hj]), h.2.2⟩
theorem Own.less {w : World} {g N M : Nat} {F : Nat → Value} (h : Own w g N F) (e : M ≤ N) : Own w g M F := ⟨h.1, fun j hj => h.2.1 j (by omega), h.2.2⟩
theorem setGrown {w wr : World} {g j : Nat} {u : Value} (h : w.grownBy wr (some g)) : w.grownBy (wr.setCell ⟨g, j, none⟩ u) (some g) := by
  refine ⟨h.os, h.tape, h.output, by simpa using h.size, fun k hk hne => ?_⟩
  rw [heap_setCell_other _ _ _ _ (by simpa using hne)]
  exact h.block k hk hne
theorem below_grown {w w1 w2 : World} {g : Nat} (h : w.grownBy w1 (some g)) (hb : Below w1.heap.size w1 w2) : w.grownBy w2 (some g) :=
  ⟨hb.os.trans h.os, hb.tape.trans h.tape, hb.output.trans h.output, Nat.le_trans h.size hb.size, fun k hk hne => (hb.block k (Nat.lt_of_lt_of_le hk h.size)).trans (h.block k hk hne)⟩
theorem cnew (w : World) (cs : Array Value) (t : TypeId) (j : Nat) : (w.alloc (.cells cs t)).cell? ⟨w.heap.size, j, none⟩ = cs[j]? := by simp
/-- Three blocks that a call makes first: its argument's, its result's, one of its own. -/
structure Three (w W : World) (cs rs os : Array Value) : Prop where
  box : ∀ j, W.cell? ⟨w.heap.size, j, none⟩ = cs[j]?
  res : ∀ j, W.cell? ⟨w.heap.size + 1, j, none⟩ = rs[j]?
  out : ∀ j, W.cell? ⟨w.heap.size + 1 + 1, j, none⟩ = os[j]?
  rfr : ∀ j, W.frozen? ⟨w.heap.size + 1, j, none⟩ = false
  ofr : ∀ j, W.frozen? ⟨w.heap.size + 1 + 1, j, none⟩ = false
  size : w.heap.size + 3 ≤ W.heap.size
  bel : Below w.heap.size w W
theorem Three.next {w W W' : World} {cs rs os : Array Value} (h : Three w W cs rs os) (hb : Below W.heap.size W W') : Three w W' cs rs os := by
  have hs := h.size
  exact ⟨fun j => (hb.cell (p := ⟨w.heap.size, j, none⟩) (by show w.heap.size < _; omega)).trans (h.box j), fun j => (hb.cell (p := ⟨w.heap.size + 1, j, none⟩) (by show w.heap.size + 1 < _; omega)).trans (h.res j),
    fun j => (hb.cell (p := ⟨w.heap.size + 1 + 1, j, none⟩) (by show w.heap.size + 1 + 1 < _; omega)).trans (h.out j), fun j => (hb.frozen (p := ⟨w.heap.size + 1, j, none⟩) (by show w.heap.size + 1 < _; omega)).trans (h.rfr j),
    fun j => (hb.frozen (p := ⟨w.heap.size + 1 + 1, j, none⟩) (by show w.heap.size + 1 + 1 < _; omega)).trans (h.ofr j), Nat.le_trans hs hb.size, h.bel.trans (hb.mono h.bel.size)⟩
theorem cnew' {w : World} {cs : Array Value} {t : TypeId} {b : Nat} (hb : b = w.heap.size) (j : Nat) : (w.alloc (.cells cs t)).cell? ⟨b, j, none⟩ = cs[j]? := by
  subst hb; rw [World.cell?_alloc_new]
theorem fnew' {w : World} {cs : Array Value} {t : TypeId} {b : Nat} (hb : b = w.heap.size) (j : Nat) : (w.alloc (.cells cs t)).frozen? ⟨b, j, none⟩ = false := by
  subst hb; rw [World.frozen?_alloc_new]
theorem three_new (w : World) (cs rs os : Array Value) (t t' t'' : TypeId) : Three w (((w.alloc (.cells cs t)).alloc (.cells rs t')).alloc (.cells os t'')) cs rs os :=
  ⟨fun j => by rw [World.cell?_alloc_past _ _ _ (by simp; omega), World.cell?_alloc_past _ _ _ (by simp), cnew], fun j => by rw [World.cell?_alloc_past _ _ _ (by simp)]; exact cnew' (by simp) j,
   fun j => cnew' (by simp) j, fun j => by rw [World.frozen?_alloc_past _ _ _ (by simp)]; exact fnew' (by simp) j, fun j => fnew' (by simp) j, by simp, (((Below.refl _ _).alloc (Nat.le_refl _) _).alloc (by simp) _).alloc (by simp; omega) _⟩
theorem Three.set {w W : World} {cs rs os : Array Value} (h : Three w W cs rs os) (i : Nat) (hi : i < os.size) (v : Value) : Three w (W.setCell ⟨w.heap.size + 1 + 1, i, none⟩ v) cs rs (os.setIfInBounds i v) := by
  have hs := h.size
  refine ⟨fun j => ?_, fun j => ?_, fun j => ?_, fun j => by simp [h.rfr], fun j => by simp [h.ofr], by simpa using hs, h.bel.setCell (by show w.heap.size ≤ w.heap.size + 1 + 1; omega) _⟩
  · rw [World.cell?_setCell_other _ _ _ _ (by first | (simp; done) | (simp; omega))]; exact h.box j
  · rw [World.cell?_setCell_other _ _ _ _ (by first | (simp; done) | (simp; omega))]; exact h.res j
  · by_cases e : j = i
    · subst e
      have a0 := h.out j
      rw [Array.getElem?_eq_getElem hi] at a0
      rw [Array.getElem?_setIfInBounds, if_pos rfl, if_pos hi]
      simp [go_sem, a0]
    · rw [World.cell?_setCell_other _ _ _ _ (by first | (simp; done) | (simp; omega)), Array.getElem?_setIfInBounds, if_neg (fun e' => e e'.symm)]
      exact h.out j
/-- Two blocks that a call makes first, of its arguments. -/
structure Both (w W : World) (cs rs : Array Value) : Prop where
  box : ∀ j, W.cell? ⟨w.heap.size, j, none⟩ = cs[j]?
  res : ∀ j, W.cell? ⟨w.heap.size + 1, j, none⟩ = rs[j]?
  size : w.heap.size + 2 ≤ W.heap.size
  bel : Below w.heap.size w W
theorem two_now (w : World) (cs rs : Array Value) (t t' : TypeId) : Both w ((w.alloc (.cells cs t)).alloc (.cells rs t')) cs rs :=
  ⟨fun j => by rw [World.cell?_alloc_past _ _ _ (by simp), cnew], fun j => cnew' (by simp) j, by simp, ((Below.refl _ _).alloc (Nat.le_refl _) _).alloc (by simp) _⟩
theorem Both.next {w W W' : World} {cs rs : Array Value} (h : Both w W cs rs) (hb : Below W.heap.size W W') : Both w W' cs rs := by
  have hs := h.size
  exact ⟨fun j => (hb.cell (p := ⟨w.heap.size, j, none⟩) (by show w.heap.size < _; omega)).trans (h.box j), fun j => (hb.cell (p := ⟨w.heap.size + 1, j, none⟩) (by show w.heap.size + 1 < _; omega)).trans (h.res j), Nat.le_trans hs hb.size, h.bel.trans (hb.mono h.bel.size)⟩
/-- An owned row as cells of its block. -/
theorem own_row {w : World} {B g n cap size : Nat} {e : TypeId} {xs : List Value} {F : Nat → Value} (h : w.ownsRow B e size (.slice (some ⟨g, 0, none⟩) n cap) n xs) (hF : ∀ j, j < n * size → xs[j]? = some (F j)) : Own w g (n * size) F ∧ B ≤ g := by
  obtain ⟨hlen, h0 | ⟨g', cap', cur, hv, hB, hblk, hnc, hm, hsz, htk⟩⟩ := h
  · exact absurd h0.1 (by simp)
  · simp at hv
    obtain ⟨rfl, rfl⟩ := hv
    refine ⟨⟨(Array.getElem?_eq_some_iff.1 hblk).1, fun j hj => ?_, fun j => Lib.frozen_of_heap hblk j⟩, hB⟩
    have := Lib.cell_of_heap hblk j
    rw [this, ← hF j hj, ← htk, List.getElem?_take, if_pos hj]
    simp

theorem own_some {w : World} {B g n cap size : Nat} {e : TypeId} {xs : List Value} (h : w.ownsRow B e size (.slice (some ⟨g, 0, none⟩) n cap) n xs) : ∃ F, Own w g (n * size) F :=
  ⟨fun j => (xs[j]?).getD (.bool false), (own_row h (fun j hj => by rw [List.getElem?_eq_getElem (by rw [h.1]; exact hj)]; simp)).1⟩
/-- A text of one byte. -/
def oneS (x : Nat) : ByteArray := ⟨[UInt8.ofNat x].toArray⟩
/-- The laws' mark texts. -/
def mtF (k : Nat) (out : ByteArray) : ByteArray := if _h : k = 0 then out else mtF (k / 10) (oneS (48 + k % 10) ++ out)
termination_by k
decreasing_by omega
def mtx (k : Nat) : ByteArray := ⟨#[109]⟩ ++ mtF k ⟨#[]⟩
theorem mtF_zero (out : ByteArray) : mtF 0 out = out := by rw [mtF]; simp
theorem mtF_step {k : Nat} (h : k ≠ 0) (out : ByteArray) : mtF k out = mtF (k / 10) (oneS (48 + k % 10) ++ out) := by rw [mtF]; simp [h]
theorem str_byte (W : World) (x : Nat) (h : x < 256) :
    (convert 104 9 (.slice (some ⟨W.heap.size, 0, none⟩) 1 1)).run Tryz.prog (W.alloc (.cells #[.int .u8 (x : Int)] 5)) = .ok (.string (oneS x)) (W.alloc (.cells #[.int .u8 (x : Int)] 5)) := by
  have h := run_convert_bytes_back (P := Tryz.prog) (W.alloc (.cells #[.int .u8 (x : Int)] 5)) 104 9 5 ⟨W.heap.size, 0, none⟩ 1 [UInt8.ofNat x] Tryz.underlying104 Tryz.underlying5 Tryz.underlying9 (fun j hj => by
    have hj0 : j = 0 := by simpa using hj
    subst hj0
    have hx : ((UInt8.ofNat x).toNat : Int) = x := by rw [UInt8.toNat_ofNat', Nat.mod_eq_of_lt h]
    have hadd : (⟨W.heap.size, 0, none⟩ : Addr).add 0 = ⟨W.heap.size, 0, none⟩ := by simp [Addr.add]
    rw [hadd, World.cell?_alloc_new]
    show some (Value.int .u8 x) = some (Value.int .u8 ((UInt8.ofNat x).toNat : Int))
    rw [hx])
  exact h
set_option maxRecDepth 100000 in
set_option maxHeartbeats 4000000 in
theorem mark_text (k : Nat) (h1 : 1 ≤ k) (h2 : k ≤ 1099511627776) (w : World) :
    Calls Tryz.prog 38 #[.int .i64 (k : Int)] w fun e w' => e = .returned (.string (mtx k)) ∧ Below w.heap.size w w' := by
  have q0 : decide ((k : Int) ≤ 0) = false := by simp; omega
  have q1 : decide (k ≤ 0) = false := by simp; omega
  have q2 : decide (k = 0) = false := by simp; omega
  go_enter Tryz.func38, Tryz.ntmps38
  go_wp2_with fail
  go_loopw [0, 3] (fun x t wr => ∃ (r : Nat) (out : ByteArray), x = .int .i64 (r : Int) ∧ t = .string out ∧ out.size + r ≤ k ∧ Hid (mtF r out = mtF k ⟨#[]⟩) ∧ Hid (Below w.heap.size w wr)) (fun x _ _ => (intOf x).toNat)
  case atStart => exact ⟨k, ⟨#[]⟩, rfl, rfl, by show 0 + k ≤ k; omega, rfl, Below.refl _ _⟩
  case round =>
    obtain ⟨r, out, rfl, rfl, hs, HM, HB⟩ := hrel
    by_cases hr : 0 < r
    · have p0 : decide ((0 : Int) < (r : Int)) = true := by simpa using hr
      have p1 : decide (0 < r) = true := by simpa using hr
      have hd2 : 48 + r % 10 < 256 := by omega
      have hcv := str_byte wr (48 + r % 10) hd2
      have he : ((48 + r % 10 : Nat) : Int) = 48 + (r : Int) % 10 := by omega
      have HM' : Hid (mtF (r / 10) (oneS (48 + r % 10) ++ out) = mtF k ⟨#[]⟩) := by
        have := HM.out; rw [mtF_step (by omega)] at this; exact this
      have HB' : Hid (Below w.heap.size w (wr.alloc (.cells #[.int .u8 ((48 + r % 10 : Nat) : Int)] 5))) := HB.out.alloc HB.out.size _
      rw [he] at hcv HB'
      have hsz : (oneS (48 + r % 10)).size = 1 := rfl
      generalize oneS (48 + r % 10) = D at *
      clear he hd2 HM
      go_wp2_with fail
      go_roundw
      case rel => exact ⟨r / 10, D ++ out, by go_num, rfl, by rw [ByteArray.size_append, hsz]; omega, HM', HB'⟩
      case measure => simp [intOf]; omega
    · have p0 : decide ((0 : Int) < (r : Int)) = false := by simpa using hr
      have p1 : decide (0 < r) = false := by simpa using hr
      obtain rfl : r = 0 := by omega
      have HM' : Hid (out = mtF k ⟨#[]⟩) := by have := HM.out; rw [mtF_zero] at this; exact this
      go_wp2_with fail
      go_ret
      exact ⟨by rw [HM'.out]; rfl, HB.out⟩

/-- Records of c cells in a block of their own, or none. -/
def OwnR (w : World) (a : Option Addr) (n c : Nat) (F : Nat → Value) : Prop := n = 0 ∨ ∃ g, a = some ⟨g, 0, none⟩ ∧ Own w g (n * c) F
theorem OwnR.below {w w' : World} {a : Option Addr} {n c : Nat} {F : Nat → Value} (h : OwnR w a n c F) (hb : Below w.heap.size w w') : OwnR w' a n c F := by
  rcases h with h | ⟨g, rfl, hO⟩
  · exact Or.inl h
  · exact Or.inr ⟨g, rfl, hO.below hb⟩
theorem OwnR.grown {w w' : World} {a : Option Addr} {n c : Nat} {row : Option Nat} {F : Nat → Value} (h : OwnR w a n c F) (hg : w.grownBy w' row) (hne : ∀ k, a.map Addr.block = some k → some k ≠ row) : OwnR w' a n c F := by
  rcases h with h | ⟨g, rfl, hO⟩
  · exact Or.inl h
  · have hb := hg.block g hO.1 (hne g rfl)
    exact Or.inr ⟨g, rfl, Nat.lt_of_lt_of_le hO.1 hg.size, fun j hj => (World.cell?_of_block (a := ⟨g, j, none⟩) hb).trans (hO.2.1 j hj), fun j => (World.frozen?_of_block (a := ⟨g, j, none⟩) hb).trans (hO.2.2 j)⟩
theorem own_new0 {w : World} {B g e size : Nat} (hg : g = w.heap.size) (hB : B ≤ w.heap.size) : (w.alloc (.cells #[] e)).ownsRow B e size (.slice (some ⟨g, 0, none⟩) 0 0) 0 [] := by
  subst hg; exact World.ownsRow_made w #[] 0 hB (by unfold maxLen; omega) (by simp)
theorem own_below {w w' : World} {B e size n : Nat} {v : Value} {xs : List Value} (h : w.ownsRow B e size v n xs) (hb : Below w.heap.size w w') : w'.ownsRow B e size v n xs := by
  rcases h with ⟨h1, h2 | ⟨g, cap, cur, rfl, hg0, hr, r⟩⟩
  · exact ⟨h1, Or.inl h2⟩
  · exact ⟨h1, Or.inr ⟨g, cap, cur, rfl, hg0, (hb.block g (Array.getElem?_eq_some_iff.1 hr).1).trans hr, r⟩⟩
theorem add_off (g o j : Nat) : (⟨g, o, none⟩ : Addr).add j = ⟨g, o + j, none⟩ := by unfold Addr.add; split <;> simp_all
theorem mark_text' (z : Int) (k : Nat) (hz : z = (k : Int)) (h1 : 1 ≤ k) (h2 : k ≤ 1099511627776) (w : World) :
    Calls Tryz.prog 38 #[.int .i64 z] w fun e w' => e = .returned (.string (mtx k)) ∧ Below w.heap.size w w' := by
  rw [hz]; exact mark_text k h1 h2 w

set_option maxRecDepth 100000 in
set_option maxHeartbeats 4000000 in
theorem sz_spot (a s : ByteArray) (ha : a.size ≤ maxLen) (hs : s.size ≤ maxLen) (left : Nat) (hl : left ≤ 1048576) (w : World) :
    Calls Tryz.prog 41 #[.agg #[.string a, .string s], .int .i64 (left : Int)] w fun e w' => ((e = .returned (.int .i64 (-1)) ∧ left < a.size + s.size) ∨ (e = .returned (.int .i64 ((left - (a.size + s.size) : Nat) : Int)) ∧ a.size + s.size ≤ left)) ∧ Below w.heap.size w w' := by
  unfold maxLen at ha hs
  by_cases h0 : a.size ≤ left
  · have q0 : decide ((left : Int) - (a.size : Int) < 0) = false := by simp; omega
    by_cases h1 : a.size + s.size ≤ left
    · have q1 : decide ((left : Int) - (a.size : Int) - (s.size : Int) < 0) = false := by simp; omega
      go_enter Tryz.func41, Tryz.ntmps41
      go_wp2
      go_ret
      exact ⟨Or.inr ⟨ret_int (by omega), h1⟩, (Below.refl _ _).alloc (Nat.le_refl _) _⟩
    · have q1 : decide ((left : Int) - (a.size : Int) - (s.size : Int) < 0) = true := by simp; omega
      go_enter Tryz.func41, Tryz.ntmps41
      go_wp2
      go_ret
      exact ⟨Or.inl ⟨rfl, by omega⟩, (Below.refl _ _).alloc (Nat.le_refl _) _⟩
  · have q0 : decide ((left : Int) - (a.size : Int) < 0) = true := by simp; omega
    go_enter Tryz.func41, Tryz.ntmps41
    go_wp2
    go_ret
    exact ⟨Or.inl ⟨rfl, by omega⟩, (Below.refl _ _).alloc (Nat.le_refl _) _⟩
set_option maxRecDepth 100000 in
set_option maxHeartbeats 4000000 in
theorem to_spot (a s : ByteArray) (w : World) :
    Calls Tryz.prog 49 #[.agg #[.string a, .string s]] w fun e w' => e = .returned (.agg #[.string a, .string s]) ∧ Below w.heap.size w w' := by
  go_enter Tryz.func49, Tryz.ntmps49
  go_wp2
  refine bodyPost_ret (v := .agg #[.string a, .string s]) ?_ rfl ⟨rfl, ?_⟩
  · simp [results, Tryz.f49, go_sem]
  · exact (((Below.refl _ _).alloc (Nat.le_refl _) _).alloc (by simp) _).alloc (by simp; omega) _
set_option maxRecDepth 100000 in
set_option maxHeartbeats 4000000 in
theorem eq_spot (a s : ByteArray) (w : World) :
    Calls Tryz.prog 63 #[.agg #[.string a, .string s], .agg #[.string a, .string s]] w fun e w' => e = .returned (.bool true) ∧ Below w.heap.size w w' := by
  have hxx : ∀ x : List UInt8, (x == x) = true := fun x => by simp
  go_enter Tryz.func63, Tryz.ntmps63
  go_wp2
  go_ret
  exact ⟨rfl, ((Below.refl _ _).alloc (Nat.le_refl _) _).alloc (by simp) _⟩
set_option maxRecDepth 100000 in
set_option maxHeartbeats 4000000 in
theorem spec_names (a s : ByteArray) (ha : a.size ≤ maxLen) (hs : s.size ≤ maxLen) (w : World) :
    Calls Tryz.prog 43 #[.agg #[.string a, .string s]] w fun e w' => e = .returned (.bool (nameB a && nameB s)) ∧ Below w.heap.size w w' := by
  have HA : Hid (a.size ≤ maxLen) := ha
  have HS : Hid (s.size ≤ maxLen) := hs
  clear ha hs
  go_enter Tryz.func43, Tryz.ntmps43
  go_wp2_with fail
  refine (spec_name a _ HA.out).mono ?_
  rintro e w1 ⟨rfl, rfl⟩
  cases hA : nameB a
  · go_wp2_with fail
    go_ret
    exact ⟨ret_bool (by rw [hA]; rfl), (Below.refl _ _).alloc (Nat.le_refl _) _⟩
  · go_wp2_with fail
    refine (spec_name s _ HS.out).mono ?_
    rintro e w2 ⟨rfl, rfl⟩
    go_wp2_with fail
    go_ret
    exact ⟨ret_bool (by rw [hA]; rfl), (Below.refl _ _).alloc (Nat.le_refl _) _⟩
set_option maxRecDepth 100000 in
set_option maxHeartbeats 4000000 in
theorem impl_spot (a s : ByteArray) (ha : a.size ≤ maxLen) (hs : s.size ≤ maxLen) (w : World) :
    Calls Tryz.prog 51 #[.agg #[.string a, .string s]] w fun e w' => e = .returned (.bool (nameB a && nameB s)) ∧ Below w.heap.size w w' := by
  have HA : Hid (a.size ≤ maxLen) := ha
  have HS : Hid (s.size ≤ maxLen) := hs
  clear ha hs
  go_enter Tryz.func51, Tryz.ntmps51
  go_wp2_with fail
  refine (impl_name a _ HA.out).mono ?_
  rintro e w1 ⟨rfl, hb1⟩
  have HB1 : Hid (Below w.heap.size w w1) := ((Below.refl _ _).alloc (Nat.le_refl _) _).trans (hb1.mono (by simp))
  have c0 : w1.cell? ⟨w.heap.size, 0, none⟩ = some (.string a) := (hb1.cell (p := ⟨w.heap.size, 0, none⟩) (by simp)).trans (by simp)
  have c1 : w1.cell? ⟨w.heap.size, 1, none⟩ = some (.string s) := (hb1.cell (p := ⟨w.heap.size, 1, none⟩) (by simp)).trans (by simp)
  clear hb1
  cases hA : nameB a
  · go_wp2_with fail
    go_ret
    exact ⟨ret_bool (by rw [hA]; rfl), HB1.out⟩
  · go_wp2_with fail
    refine (impl_name s _ HS.out).mono ?_
    rintro e w2 ⟨rfl, hb2⟩
    have HB2 : Hid (Below w.heap.size w w2) := HB1.out.trans (hb2.mono HB1.out.size)
    clear hb2
    go_wp2_with fail
    go_ret
    exact ⟨ret_bool (by rw [hA]; rfl), HB2.out⟩
end Go.Proofs.YtepkmbfedblhdaaGreatDoor
namespace Go.Proofs.YtepkmbfedblhdaaGreatDoor
open Go.RowKit
open Go.Proofs.YtepkmbfedblhdaaGreatDoor.Draw

structure Ln where
  a : ByteArray
  s : ByteArray
  m : Int
def Ln.fits (x : Ln) : Prop := x.a.size ≤ maxLen ∧ x.s.size ≤ maxLen
def Ln.small (x : Ln) : Prop := x.a.size ≤ 1048576 ∧ x.s.size ≤ 1048576
theorem Ln.small.fits {x : Ln} (h : x.small) : x.fits := by
  obtain ⟨h0, h1⟩ := h; unfold Ln.fits maxLen; omega
/-- n lines in memory. -/
def LinesAt (w : World) (a : Option Addr) (n : Nat) (L : Nat → Ln) : Prop := n = 0 ∨ ∃ g o, a = some ⟨g, o, none⟩ ∧ g < w.heap.size ∧ ∀ i, i < n → w.cell? ⟨g, o + i * 3, none⟩ = some (.string (L i).a) ∧ w.cell? ⟨g, o + i * 3 + 1, none⟩ = some (.string (L i).s) ∧ w.cell? ⟨g, o + i * 3 + 2, none⟩ = some (.int .i64 (L i).m)
theorem LinesAt.below {w w' : World} {a : Option Addr} {n : Nat} {L : Nat → Ln} (h : LinesAt w a n L) (hb : Below w.heap.size w w') : LinesAt w' a n L := by
  rcases h with h | ⟨g, o, rfl, hg, hc⟩
  · exact Or.inl h
  · refine Or.inr ⟨g, o, rfl, Nat.lt_of_lt_of_le hg hb.size, fun i hi => ?_⟩
    obtain ⟨c0, c1, c2⟩ := hc i hi
    exact ⟨(hb.cell (p := ⟨g, _, none⟩) hg).trans c0, (hb.cell (p := ⟨g, _, none⟩) hg).trans c1, (hb.cell (p := ⟨g, _, none⟩) hg).trans c2⟩
theorem LinesAt.grown {w w' : World} {a : Option Addr} {n : Nat} {row : Option Nat} {L : Nat → Ln} (h : LinesAt w a n L) (hg : w.grownBy w' row) (hne : ∀ k, a.map Addr.block = some k → some k ≠ row) : LinesAt w' a n L := by
  rcases h with h | ⟨g, o, rfl, hl, hc⟩
  · exact Or.inl h
  · have hb := hg.block g hl (hne g rfl)
    refine Or.inr ⟨g, o, rfl, Nat.lt_of_lt_of_le hl hg.size, fun i hi => ?_⟩
    obtain ⟨c0, c1, c2⟩ := hc i hi
    exact ⟨(World.cell?_of_block (a := ⟨g, _, none⟩) hb).trans c0, (World.cell?_of_block (a := ⟨g, _, none⟩) hb).trans c1, (World.cell?_of_block (a := ⟨g, _, none⟩) hb).trans c2⟩
/-- Their cells by number. -/
def lineF (L : Nat → Ln) (j : Nat) : Value := if j % 3 = 0 then .string (L (j / 3)).a else if j % 3 = 1 then .string (L (j / 3)).s else .int .i64 (L (j / 3)).m
theorem lineF_at (L : Nat → Ln) (i : Nat) : lineF L (i * 3) = .string (L i).a ∧ lineF L (i * 3 + 1) = .string (L i).s ∧ lineF L (i * 3 + 2) = .int .i64 (L i).m := by
  refine ⟨?_, ?_, ?_⟩
  · rw [lineF, if_pos (by omega), show (i * 3) / 3 = i by omega]
  · rw [lineF, if_neg (by omega), if_pos (by omega), show (i * 3 + 1) / 3 = i by omega]
  · rw [lineF, if_neg (by omega), if_neg (by omega), show (i * 3 + 2) / 3 = i by omega]
theorem Own.lines {w : World} {g n : Nat} {L : Nat → Ln} (h : Own w g (n * 3) (lineF L)) : LinesAt w (some ⟨g, 0, none⟩) n L := by
  refine Or.inr ⟨g, 0, rfl, h.1, fun i hi => ?_⟩
  obtain ⟨e0, e1, e2⟩ := lineF_at L i
  rw [Nat.zero_add, ← e0, ← e1, ← e2]
  exact ⟨h.2.1 _ (by omega), h.2.1 _ (by omega), h.2.1 _ (by omega)⟩
/-- One more is written. -/
theorem line_step {w : World} {g n I : Nat} {F G : Nat → Value} (h : Own w g (n * 3) (fun j => if j < I * 3 then G j else F j)) (hI : I < n) {v0 v1 v2 : Value} (e0 : G (I * 3) = v0) (e1 : G (I * 3 + 1) = v1) (e2 : G (I * 3 + 2) = v2) :
    Own (((w.setCell ⟨g, I * 3, none⟩ v0).setCell ⟨g, I * 3 + 1, none⟩ v1).setCell ⟨g, I * 3 + 2, none⟩ v2) g (n * 3) (fun j => if j < (I + 1) * 3 then G j else F j) := by
  refine (((h.set (i := I * 3) (by omega) v0).set (i := I * 3 + 1) (by omega) v1).set (i := I * 3 + 2) (by omega) v2).congr fun j _ => ?_
  show (if j = I * 3 + 2 then v2 else if j = I * 3 + 1 then v1 else if j = I * 3 then v0 else if j < I * 3 then G j else F j) = if j < (I + 1) * 3 then G j else F j
  by_cases c2 : j = I * 3 + 2
  · rw [if_pos c2, if_pos (by omega), c2, e2]
  rw [if_neg c2]
  by_cases c1 : j = I * 3 + 1
  · rw [if_pos c1, if_pos (by omega), c1, e1]
  rw [if_neg c1]
  by_cases c0 : j = I * 3
  · rw [if_pos c0, if_pos (by omega), c0, e0]
  rw [if_neg c0]
  by_cases c : j < I * 3
  · rw [if_pos c, if_pos (by omega)]
  · rw [if_neg c, if_neg (by omega)]
set_option maxRecDepth 100000 in
set_option maxHeartbeats 4000000 in
theorem sz_line (x0 x1 : ByteArray) (x2 : Int) (h0 : x0.size ≤ maxLen) (h1 : x1.size ≤ maxLen) (left : Nat) (hl : left ≤ 1048576) (w : World) :
    Calls Tryz.prog 40 #[.agg #[.string x0, .string x1, .int .i64 x2], .int .i64 (left : Int)] w fun e w' => (e = .returned (.int .i64 (-1)) ∨ ∃ r : Nat, e = .returned (.int .i64 (r : Int)) ∧ r ≤ left ∧ x0.size ≤ left ∧ x1.size ≤ left) ∧ Below w.heap.size w w' := by
  have H0 : Hid (x0.size ≤ maxLen ∧ x1.size ≤ maxLen) := ⟨h0, h1⟩
  clear h0 h1
  go_enter Tryz.func40, Tryz.ntmps40
  go_wp2_with fail
  refine (sz_spot x0 x1 H0.out.1 H0.out.2 left hl _).mono ?_
  rintro e w1 ⟨he, hb1⟩
  have HB1 : Hid (Below w.heap.size w w1) := ((Below.refl _ _).alloc (Nat.le_refl _) _).trans (hb1.mono (by simp))
  clear hb1
  rcases he with ⟨rfl, _⟩ | ⟨rfl, hs1⟩
  · have q : decide ((-1 : Int) < 0) = true := rfl
    go_wp2_with fail
    go_ret
    exact ⟨Or.inl rfl, HB1.out⟩
  · obtain ⟨r, hr⟩ : ∃ r, r = left - (x0.size + x1.size) := ⟨_, rfl⟩
    rw [← hr]
    have HR : Hid (r + x0.size + x1.size = left) := (by omega : r + x0.size + x1.size = left)
    have hrl : r ≤ left := by omega
    clear hs1 hr
    have q : decide ((r : Int) < 0) = false := by simp
    go_wp2_with fail
    go_ret
    have := HR.out
    exact ⟨Or.inr ⟨r, rfl, by omega, by omega, by omega⟩, HB1.out⟩
set_option maxRecDepth 100000 in
set_option maxHeartbeats 4000000 in
theorem sz_lines (a : Option Addr) (n cap : Nat) (L : Nat → Ln) (hn : n ≤ maxLen) (hfit : ∀ i, i < n → (L i).fits) (left : Nat) (hl : left ≤ 1048576) (w : World) (h : LinesAt w a n L) :
    Calls Tryz.prog 17 #[.slice a n cap, .int .i64 (left : Int)] w fun e w' => (e = .returned (.int .i64 (-1)) ∨ ∃ r : Nat, e = .returned (.int .i64 (r : Int)) ∧ r ≤ left ∧ n ≤ left ∧ ∀ i, i < n → (L i).small) ∧ Below w.heap.size w w' := by
  have HL : Hid (LinesAt w a n L) := h
  have HF : Hid (∀ i, i < n → (L i).fits) := hfit
  clear h hfit
  have hn' : n ≤ 9223372036854775807 := by unfold maxLen at hn; omega
  clear hn
  by_cases hnl : n ≤ left
  · have q0 : decide ((left : Int) - (n : Int) < 0) = false := by simp; omega
    go_enter Tryz.func17, Tryz.ntmps17
    go_wp2_with fail
    go_loopw [1, 5] (fun x i wr => ∃ (k r : Nat), x = .int .i64 (r : Int) ∧ i = .int .i64 (k : Int) ∧ k ≤ n ∧ r ≤ left ∧ Hid (∀ j, j < k → (L j).small) ∧ Hid (Below w.heap.size w wr)) (fun _ i _ => n - (intOf i).toNat)
    case atStart => exact ⟨0, left - n, by go_num, rfl, by omega, by omega, fun j hj => by omega, Below.refl _ _⟩
    case round =>
      obtain ⟨k, r, rfl, rfl, hk, hr, HS, HB⟩ := hrel
      by_cases hkn : k < n
      · have p0 : decide (k < n) = true := by simpa using hkn
        have p1 : decide ((k : Int) < (n : Int)) = true := by simpa using hkn
        rcases HL.out.below HB.out with h0 | ⟨g, o, rfl, hg, hc⟩
        · omega
        obtain ⟨c0, c1, c2⟩ := hc k hkn
        obtain ⟨f0, f1⟩ := HF.out k hkn
        have HS' : Hid ((L k).small → ∀ j, j < k + 1 → (L j).small) := fun hsm j hj => by
          by_cases e : j = k
          · rw [e]; exact hsm
          · exact HS.out j (by omega)
        have HSm : Hid ((L k).a.size ≤ left → (L k).s.size ≤ left → (L k).small) := fun a b => ⟨by omega, by omega⟩
        have H1 := fun W => sz_line (L k).a (L k).s (L k).m f0 f1 r (by omega) W
        have H1 : Hid (∀ W, _) := H1
        clear hc HS f0 f1
        generalize (L k).a = x0 at *
        generalize (L k).s = x1 at *
        generalize (L k).m = x2 at *
        go_wp2_with fail
        refine (H1.out _).mono ?_
        rintro e w1 ⟨he, hb1⟩
        have HB1 : Hid (Below w.heap.size w w1) := HB.out.trans (hb1.mono HB.out.size)
        clear hb1 c0 c1 c2 H1
        rcases he with rfl | ⟨t, rfl, ht, s0, s1⟩
        · have q' : decide ((-1 : Int) < 0) = true := rfl
          go_wp2_with fail
          go_ret
          exact ⟨Or.inl rfl, HB1.out⟩
        · have q' : decide ((t : Int) < 0) = false := by simp
          have HS2 : Hid (∀ j, j < k + 1 → (L j).small) := HS'.out (HSm.out (by omega) (by omega))
          clear HS' HSm s0 s1
          go_wp2_with fail
          go_roundw
          case rel => exact ⟨k + 1, t, rfl, by go_num, by omega, by omega, HS2, HB1⟩
          case measure => simp [intOf]; omega
      · have p0 : decide (k < n) = false := by simpa using hkn
        have p1 : decide ((k : Int) < (n : Int)) = false := by simpa using hkn
        obtain rfl : k = n := by omega
        go_wp2_with fail
        go_ret
        exact ⟨Or.inr ⟨r, rfl, hr, hnl, HS.out⟩, HB.out⟩
  · have q0 : decide ((left : Int) - (n : Int) < 0) = true := by simp; omega
    go_enter Tryz.func17, Tryz.ntmps17
    go_wp2_with fail
    go_ret
    exact ⟨Or.inl rfl, Below.refl _ _⟩
set_option maxRecDepth 100000 in
set_option maxHeartbeats 4000000 in
theorem to_line (x0 x1 : ByteArray) (x2 : Int) (w : World) :
    Calls Tryz.prog 48 #[.agg #[.string x0, .string x1, .int .i64 x2]] w fun e w' => e = .returned (.agg #[.string x0, .string x1, .int .i64 x2]) ∧ Below w.heap.size w w' := by
  go_enter Tryz.func48, Tryz.ntmps48
  go_wp2_with fail
  refine (to_spot x0 x1 _).mono ?_
  rintro e w1 ⟨rfl, hb1⟩
  have T2 := (three_new w #[.string x0, .string x1, .int .i64 x2] #[.string ⟨#[]⟩, .string ⟨#[]⟩, .int .i64 0] #[.string ⟨#[]⟩, .string ⟨#[]⟩, .int .i64 0] 80 84 84).next hb1
  have c2 := T2.box 2
  have p0 := T2.out 0
  have p1 := T2.out 1
  have p2 := T2.out 2
  have pf := T2.ofr
  have r0 := T2.res 0
  have r1 := T2.res 1
  have r2 := T2.res 2
  have rf := T2.rfr
  simp at c2 p0 p1 p2 r0 r1 r2
  have HB : Hid (Below w.heap.size w w1) := T2.bel
  clear hb1 T2
  go_wp2_with fail
  refine bodyPost_ret (v := .agg #[.string x0, .string x1, .int .i64 x2]) ?_ rfl ⟨rfl, ?_⟩
  · simp [results, Tryz.results48, go_sem, r0, r1, r2]
  · have a1 : w.heap.size ≤ w.heap.size + 1 := by omega
    have a2 : w.heap.size ≤ w.heap.size + 1 + 1 := by omega
    exact (((((HB.out.setCell a2 _).setCell a2 _).setCell a2 _).setCell a1 _).setCell a1 _).setCell a1 _
theorem infoLine : (Tryz.prog.info? 84).map (fun i => (i.zero, i.size, i.bytes)) = some (some (.agg #[.string ⟨#[]⟩, .string ⟨#[]⟩, .int .i64 0]), 3, 40) := by kernel_rfl
set_option maxRecDepth 100000 in
set_option maxHeartbeats 4000000 in
theorem to_lines (a : Option Addr) (n cap : Nat) (L : Nat → Ln) (hn : n ≤ 1048576) (w : World) (h : LinesAt w a n L) :
    Calls Tryz.prog 24 #[.slice a n cap] w fun e w' => ∃ g, e = .returned (.slice (some ⟨g, 0, none⟩) n n) ∧ w.heap.size ≤ g ∧ Own w' g (n * 3) (lineF L) ∧ Below w.heap.size w w' := by
  obtain ⟨i0, hi, hz0, hz1, hz2⟩ := info_parts infoLine
  have HL : Hid (LinesAt w a n L) := h
  clear h
  go_enter Tryz.func24, Tryz.ntmps24
  go_wp2_with (refine wpList_make_full _ rfl (.tmp 6) (.tmp 6) 29 rfl w.heap.size 84 i0 (.agg #[.string ⟨#[]⟩, .string ⟨#[]⟩, .int .i64 0]) 3 Tryz.underlying29 hi hz0 hz1 .i64 .i64 _ _ n rfl rfl rfl rfl (by rw [hz2]; omega) (by unfold maxLen; omega) (Nat.le_refl _) ?_)
  intro w1 hown hg1
  have HB1 : Hid (Below w.heap.size w w1) := (Below.refl _ _).grown hg1 (Nat.le_refl _) (fun k hk => by cases hk)
  obtain ⟨F0, hO⟩ := own_some hown
  skip
  have HO : Hid (Own w1 w.heap.size (n * 3) F0) := hO
  clear hO
  clear hg1 hown
  go_wp2_with fail
  go_loopw [4] (fun i wr => ∃ k : Nat, i = .int .i64 (k : Int) ∧ k ≤ n ∧ Hid (Own wr w.heap.size (n * 3) (fun j => if j < k * 3 then lineF L j else F0 j)) ∧ Hid (Below w.heap.size w wr)) (fun i _ => n - (intOf i).toNat)
  case atStart => exact ⟨0, rfl, by omega, HO.out.congr (fun j _ => by rw [if_neg (by omega)]), HB1⟩
  case round =>
    obtain ⟨k, rfl, hk, HOr, HB⟩ := hrel
    by_cases hkn : k < n
    · have p0 : decide (k < n) = true := by simpa using hkn
      have p1 : decide ((k : Int) < (n : Int)) = true := by simpa using hkn
      rcases HL.out with h0 | ⟨g, o, rfl, hg, hc⟩
      · omega
      obtain ⟨c0, c1, c2⟩ := hc k hkn
      have d0 := (HB.out.cell (p := ⟨g, _, none⟩) hg).trans c0
      have d1 := (HB.out.cell (p := ⟨g, _, none⟩) hg).trans c1
      have d2 := (HB.out.cell (p := ⟨g, _, none⟩) hg).trans c2
      have HE : Hid (lineF L (k * 3) = .string (L k).a ∧ lineF L (k * 3 + 1) = .string (L k).s ∧ lineF L (k * 3 + 2) = .int .i64 (L k).m) := lineF_at L k
      clear hc c0 c1 c2
      generalize (L k).a = x0 at *
      generalize (L k).s = x1 at *
      generalize (L k).m = x2 at *
      go_wp2_with fail
      refine (to_line x0 x1 x2 _).mono ?_
      rintro e w2 ⟨rfl, hb2⟩
      have HO2 : Hid (Own w2 w.heap.size (n * 3) (fun j => if j < k * 3 then lineF L j else F0 j)) := HOr.out.below hb2
      have HB2 : Hid (Below w.heap.size w w2) := HB.out.trans (hb2.mono HB.out.size)
      clear hb2 d0 d1 d2
      have a0 := HO2.out.2.1 (k * 3) (by omega)
      have a1 := HO2.out.2.1 (k * 3 + 1) (by omega)
      have a2 := HO2.out.2.1 (k * 3 + 2) (by omega)
      have hf := HO2.out.2.2
      simp only [show ¬ k * 3 < k * 3 by omega, show ¬ k * 3 + 1 < k * 3 by omega, show ¬ k * 3 + 2 < k * 3 by omega, if_false] at a0 a1 a2
      generalize F0 (k * 3) = y0 at a0
      generalize F0 (k * 3 + 1) = y1 at a1
      generalize F0 (k * 3 + 2) = y2 at a2
      have HN := fun (_ : Unit) => line_step HO2.out hkn HE.out.1 HE.out.2.1 HE.out.2.2
      have HN : Hid (Unit → _) := HN
      skip
      go_wp2_with fail
      go_roundw
      case rel =>
        have s := Nat.le_refl w.heap.size
        exact ⟨k + 1, by go_num, by omega, HN.out (), (((HB2.out.setCell s _).setCell s _).setCell s _)⟩
      case measure => simp [intOf]; omega
    · have p0 : decide (k < n) = false := by simpa using hkn
      have p1 : decide ((k : Int) < (n : Int)) = false := by simpa using hkn
      obtain rfl : k = n := by omega
      go_wp2_with fail
      go_ret
      exact ⟨w.heap.size, rfl, Nat.le_refl _, HOr.out.congr (fun j hj => by rw [if_pos hj]), HB.out⟩
set_option maxRecDepth 100000 in
set_option maxHeartbeats 4000000 in
theorem eq_line (x0 x1 : ByteArray) (x2 : Int) (w : World) :
    Calls Tryz.prog 62 #[.agg #[.string x0, .string x1, .int .i64 x2], .agg #[.string x0, .string x1, .int .i64 x2]] w fun e w' => e = .returned (.bool true) ∧ Below w.heap.size w w' := by
  have hxx : ∀ x : Int, (x != x) = false := fun x => by simp
  go_enter Tryz.func62, Tryz.ntmps62
  go_wp2_with fail
  refine (eq_spot x0 x1 _).mono ?_
  rintro e w1 ⟨rfl, hb1⟩
  have T1 := (two_now w #[.string x0, .string x1, .int .i64 x2] #[.string x0, .string x1, .int .i64 x2] 84 84).next hb1
  have b2 := T1.box 2
  have r2 := T1.res 2
  simp at b2 r2
  have HB : Hid (Below w.heap.size w w1) := T1.bel
  clear hb1 T1
  go_wp2_with fail
  go_ret
  exact ⟨rfl, HB.out⟩
set_option maxRecDepth 100000 in
set_option maxHeartbeats 4000000 in
theorem eq_lines (a a' : Option Addr) (n cap cap' : Nat) (L : Nat → Ln) (hn : n ≤ 1048576) (w : World) (h : LinesAt w a n L) (h' : LinesAt w a' n L) :
    Calls Tryz.prog 33 #[.slice a n cap, .slice a' n cap'] w fun e w' => e = .returned (.bool true) ∧ Below w.heap.size w w' := by
  have HR : Hid (LinesAt w a n L) := h
  have HR' : Hid (LinesAt w a' n L) := h'
  clear h h'
  have hnn : ((n : Int) != (n : Int)) = false := by simp
  have hxx : ∀ x : List UInt8, (x == x) = true := fun x => by simp
  go_enter Tryz.func33, Tryz.ntmps33
  go_wp2_with fail
  go_loopw [5] (fun i wr => ∃ k : Nat, i = .int .i64 k ∧ k ≤ n ∧ Below w.heap.size w wr) (fun i _ => n - (intOf i).toNat)
  case atStart => exact ⟨0, rfl, by omega, Below.refl _ _⟩
  case round =>
    obtain ⟨k, rfl, hk, hb⟩ := hrel
    have HB : Hid (Below w.heap.size w wr) := hb
    have hsr := hb.size
    clear hb
    by_cases hkn : k < n
    · have q0 : decide (k < n) = true := by simpa using hkn
      have q1 : decide ((k : Int) < (n : Int)) = true := by simpa using hkn
      rcases HR.out with h0 | ⟨g, o, rfl, hg, hc⟩
      · omega
      rcases HR'.out with h0 | ⟨g', o', rfl, hg', hc'⟩
      · omega
      obtain ⟨c0, c1, c2⟩ := hc k hkn
      obtain ⟨d0, d1, d2⟩ := hc' k hkn
      have a0 := (HB.out.cell (p := ⟨g, _, none⟩) hg).trans c0
      have a1 := (HB.out.cell (p := ⟨g, _, none⟩) hg).trans c1
      have a2 := (HB.out.cell (p := ⟨g, _, none⟩) hg).trans c2
      have b0 := (HB.out.cell (p := ⟨g', _, none⟩) hg').trans d0
      have b1 := (HB.out.cell (p := ⟨g', _, none⟩) hg').trans d1
      have b2 := (HB.out.cell (p := ⟨g', _, none⟩) hg').trans d2
      clear hc hc' c0 d0 c1 d1 c2 d2
      generalize (L k).a = x0 at *
      generalize (L k).s = x1 at *
      generalize (L k).m = x2 at *
      skip
      have hgr : g < wr.heap.size := by omega
      have hgr' : g' < wr.heap.size := by omega
      go_upto_region 6 with fail
      go_region_held3 (fun W => W.cell? ⟨g, o + k * 3, none⟩ = some (.string x0) ∧ W.cell? ⟨g, o + k * 3 + 1, none⟩ = some (.string x1) ∧ W.cell? ⟨g, o + k * 3 + 2, none⟩ = some (.int .i64 x2) ∧ W.cell? ⟨g', o' + k * 3, none⟩ = some (.string x0) ∧ W.cell? ⟨g', o' + k * 3 + 1, none⟩ = some (.string x1) ∧ W.cell? ⟨g', o' + k * 3 + 2, none⟩ = some (.int .i64 x2)) (go_keep) (first | (go_at_call 62; refine (eq_line _ _ _ _).mono ?_; rintro e w2 ⟨rfl, hb2⟩; have e0 : w2.cell? ⟨g, o + k * 3, none⟩ = some (.string x0) := (hb2.cell (p := ⟨g, o + k * 3, none⟩) hgr).trans a0; have e1 : w2.cell? ⟨g, o + k * 3 + 1, none⟩ = some (.string x1) := (hb2.cell (p := ⟨g, o + k * 3 + 1, none⟩) hgr).trans a1; have e2 : w2.cell? ⟨g, o + k * 3 + 2, none⟩ = some (.int .i64 x2) := (hb2.cell (p := ⟨g, o + k * 3 + 2, none⟩) hgr).trans a2; have f0 : w2.cell? ⟨g', o' + k * 3, none⟩ = some (.string x0) := (hb2.cell (p := ⟨g', o' + k * 3, none⟩) hgr').trans b0; have f1 : w2.cell? ⟨g', o' + k * 3 + 1, none⟩ = some (.string x1) := (hb2.cell (p := ⟨g', o' + k * 3 + 1, none⟩) hgr').trans b1; have f2 : w2.cell? ⟨g', o' + k * 3 + 2, none⟩ = some (.int .i64 x2) := (hb2.cell (p := ⟨g', o' + k * 3 + 2, none⟩) hgr').trans b2))
      have HB2 : Hid (Below w.heap.size w w2) := HB.out.drew.trans (hb2.mono hsr)
      clear hb2 a0 b0 e0 f0 a1 b1 e1 f1 a2 b2 e2 f2
      go_wp2
      go_roundw
      case rel => exact ⟨k + 1, by go_num, by omega, HB2.out⟩
      case measure => simp [intOf]; omega
    · have q0 : decide (k < n) = false := by simpa using hkn
      have q1 : decide ((k : Int) < (n : Int)) = false := by simpa using hkn
      go_wp2_with fail
      go_ret
      exact ⟨rfl, HB.out⟩
structure Tx where
  t : ByteArray
def Tx.fits (x : Tx) : Prop := x.t.size ≤ maxLen
def Tx.small (x : Tx) : Prop := x.t.size ≤ 1048576
theorem Tx.small.fits {x : Tx} (h : x.small) : x.fits := by
  have h0 : x.t.size ≤ 1048576 := h; unfold Tx.fits maxLen; omega
/-- n texts in memory. -/
def TextsAt (w : World) (a : Option Addr) (n : Nat) (L : Nat → Tx) : Prop := n = 0 ∨ ∃ g o, a = some ⟨g, o, none⟩ ∧ g < w.heap.size ∧ ∀ i, i < n → w.cell? ⟨g, o + i, none⟩ = some (.string (L i).t)
theorem TextsAt.below {w w' : World} {a : Option Addr} {n : Nat} {L : Nat → Tx} (h : TextsAt w a n L) (hb : Below w.heap.size w w') : TextsAt w' a n L := by
  rcases h with h | ⟨g, o, rfl, hg, hc⟩
  · exact Or.inl h
  · refine Or.inr ⟨g, o, rfl, Nat.lt_of_lt_of_le hg hb.size, fun i hi => ?_⟩
    have c0 := hc i hi
    exact (hb.cell (p := ⟨g, _, none⟩) hg).trans c0
theorem TextsAt.grown {w w' : World} {a : Option Addr} {n : Nat} {row : Option Nat} {L : Nat → Tx} (h : TextsAt w a n L) (hg : w.grownBy w' row) (hne : ∀ k, a.map Addr.block = some k → some k ≠ row) : TextsAt w' a n L := by
  rcases h with h | ⟨g, o, rfl, hl, hc⟩
  · exact Or.inl h
  · have hb := hg.block g hl (hne g rfl)
    refine Or.inr ⟨g, o, rfl, Nat.lt_of_lt_of_le hl hg.size, fun i hi => ?_⟩
    have c0 := hc i hi
    exact (World.cell?_of_block (a := ⟨g, _, none⟩) hb).trans c0
/-- Their cells by number. -/
def textF (L : Nat → Tx) (j : Nat) : Value := .string (L j).t
theorem textF_at (L : Nat → Tx) (i : Nat) : textF L (i) = .string (L i).t := by
  rw [textF]
theorem Own.texts {w : World} {g n : Nat} {L : Nat → Tx} (h : Own w g (n) (textF L)) : TextsAt w (some ⟨g, 0, none⟩) n L := by
  refine Or.inr ⟨g, 0, rfl, h.1, fun i hi => ?_⟩
  have e0 := textF_at L i
  rw [Nat.zero_add, ← e0]
  exact h.2.1 _ (by omega)
/-- One more is written. -/
theorem text_step {w : World} {g n I : Nat} {F G : Nat → Value} (h : Own w g (n) (fun j => if j < I then G j else F j)) (hI : I < n) {v0 : Value} (e0 : G (I) = v0) :
    Own (w.setCell ⟨g, I, none⟩ v0) g (n) (fun j => if j < (I + 1) then G j else F j) := by
  refine (h.set (i := I) (by omega) v0).congr fun j _ => ?_
  show (if j = I then v0 else if j < I then G j else F j) = if j < (I + 1) then G j else F j
  by_cases c0 : j = I
  · rw [if_pos c0, if_pos (by omega), c0, e0]
  rw [if_neg c0]
  by_cases c : j < I
  · rw [if_pos c, if_pos (by omega)]
  · rw [if_neg c, if_neg (by omega)]
set_option maxRecDepth 100000 in
set_option maxHeartbeats 4000000 in
theorem sz_texts (a : Option Addr) (n cap : Nat) (L : Nat → Tx) (hn : n ≤ maxLen) (hfit : ∀ i, i < n → (L i).fits) (left : Nat) (hl : left ≤ 1048576) (w : World) (h : TextsAt w a n L) :
    Calls Tryz.prog 18 #[.slice a n cap, .int .i64 (left : Int)] w fun e w' => (e = .returned (.int .i64 (-1)) ∨ ∃ r : Nat, e = .returned (.int .i64 (r : Int)) ∧ r ≤ left ∧ n ≤ left ∧ ∀ i, i < n → (L i).small) ∧ Below w.heap.size w w' := by
  have HL : Hid (TextsAt w a n L) := h
  have HF : Hid (∀ i, i < n → (L i).fits) := hfit
  clear h hfit
  have hn' : n ≤ 9223372036854775807 := by unfold maxLen at hn; omega
  clear hn
  by_cases hnl : n ≤ left
  · have q0 : decide ((left : Int) - (n : Int) < 0) = false := by simp; omega
    go_enter Tryz.func18, Tryz.ntmps18
    go_wp2_with fail
    go_loopw [1, 5] (fun x i wr => ∃ (k r : Nat), x = .int .i64 (r : Int) ∧ i = .int .i64 (k : Int) ∧ k ≤ n ∧ r ≤ left ∧ Hid (∀ j, j < k → (L j).small) ∧ Hid (Below w.heap.size w wr)) (fun _ i _ => n - (intOf i).toNat)
    case atStart => exact ⟨0, left - n, by go_num, rfl, by omega, by omega, fun j hj => by omega, Below.refl _ _⟩
    case round =>
      obtain ⟨k, r, rfl, rfl, hk, hr, HS, HB⟩ := hrel
      by_cases hkn : k < n
      · have p0 : decide (k < n) = true := by simpa using hkn
        have p1 : decide ((k : Int) < (n : Int)) = true := by simpa using hkn
        rcases HL.out.below HB.out with h0 | ⟨g, o, rfl, hg, hc⟩
        · omega
        have c0 := hc k hkn
        have f0 : (L k).t.size ≤ maxLen := HF.out k hkn
        have HS' : Hid ((L k).small → ∀ j, j < k + 1 → (L j).small) := fun hsm j hj => by
          by_cases e : j = k
          · rw [e]; exact hsm
          · exact HS.out j (by omega)
        have HSm : Hid ((L k).t.size ≤ left → (L k).small) := fun a => (by show (L k).t.size ≤ 1048576; omega)
        clear hc HS
        generalize (L k).t = x0 at *
        by_cases hx : x0.size ≤ r
        · have q' : decide ((r : Int) - (x0.size : Int) < 0) = false := by simp; omega
          have HS2 : Hid (∀ j, j < k + 1 → (L j).small) := HS'.out (HSm.out (by omega))
          clear HS' HSm
          unfold maxLen at f0
          go_wp2_with fail
          go_roundw
          case rel => exact ⟨k + 1, r - x0.size, by go_num, by go_num, by omega, by omega, HS2, HB⟩
          case measure => simp [intOf]; omega
        · have q' : decide ((r : Int) - (x0.size : Int) < 0) = true := by simp; omega
          unfold maxLen at f0
          go_wp2_with fail
          go_ret
          exact ⟨Or.inl rfl, HB.out⟩
      · have p0 : decide (k < n) = false := by simpa using hkn
        have p1 : decide ((k : Int) < (n : Int)) = false := by simpa using hkn
        obtain rfl : k = n := by omega
        go_wp2_with fail
        go_ret
        exact ⟨Or.inr ⟨r, rfl, hr, hnl, HS.out⟩, HB.out⟩
  · have q0 : decide ((left : Int) - (n : Int) < 0) = true := by simp; omega
    go_enter Tryz.func18, Tryz.ntmps18
    go_wp2_with fail
    go_ret
    exact ⟨Or.inl rfl, Below.refl _ _⟩
theorem infoText : (Tryz.prog.info? 9).map (fun i => (i.zero, i.size, i.bytes)) = some (some (.string ⟨#[]⟩), 1, 16) := by kernel_rfl
set_option maxRecDepth 100000 in
set_option maxHeartbeats 4000000 in
theorem to_texts (a : Option Addr) (n cap : Nat) (L : Nat → Tx) (hn : n ≤ 1048576) (w : World) (h : TextsAt w a n L) :
    Calls Tryz.prog 25 #[.slice a n cap] w fun e w' => ∃ g, e = .returned (.slice (some ⟨g, 0, none⟩) n n) ∧ w.heap.size ≤ g ∧ Own w' g (n) (textF L) ∧ Below w.heap.size w w' := by
  obtain ⟨i0, hi, hz0, hz1, hz2⟩ := info_parts infoText
  have HL : Hid (TextsAt w a n L) := h
  clear h
  go_enter Tryz.func25, Tryz.ntmps25
  go_wp2_with (refine wpList_make_full _ rfl (.tmp 6) (.tmp 6) 23 rfl w.heap.size 9 i0 (.string ⟨#[]⟩) 1 Tryz.underlying23 hi hz0 hz1 .i64 .i64 _ _ n rfl rfl rfl rfl (by rw [hz2]; omega) (by unfold maxLen; omega) (Nat.le_refl _) ?_)
  intro w1 hown hg1
  have HB1 : Hid (Below w.heap.size w w1) := (Below.refl _ _).grown hg1 (Nat.le_refl _) (fun k hk => by cases hk)
  obtain ⟨F0, hO⟩ := own_some hown
  rw [Nat.mul_one] at hO
  have HO : Hid (Own w1 w.heap.size (n) F0) := hO
  clear hO
  clear hg1 hown
  go_wp2_with fail
  go_loopw [4] (fun i wr => ∃ k : Nat, i = .int .i64 (k : Int) ∧ k ≤ n ∧ Hid (Own wr w.heap.size (n) (fun j => if j < k then textF L j else F0 j)) ∧ Hid (Below w.heap.size w wr)) (fun i _ => n - (intOf i).toNat)
  case atStart => exact ⟨0, rfl, by omega, HO.out.congr (fun j _ => by rw [if_neg (by omega)]), HB1⟩
  case round =>
    obtain ⟨k, rfl, hk, HOr, HB⟩ := hrel
    by_cases hkn : k < n
    · have p0 : decide (k < n) = true := by simpa using hkn
      have p1 : decide ((k : Int) < (n : Int)) = true := by simpa using hkn
      rcases HL.out with h0 | ⟨g, o, rfl, hg, hc⟩
      · omega
      have c0 := hc k hkn
      have d0 := (HB.out.cell (p := ⟨g, _, none⟩) hg).trans c0
      have HE : Hid (textF L (k) = .string (L k).t) := textF_at L k
      clear hc c0
      generalize (L k).t = x0 at *
      have HO2 : Hid (Own wr w.heap.size (n) (fun j => if j < k then textF L j else F0 j)) := HOr.out
      have HB2 : Hid (Below w.heap.size w wr) := HB.out
      have a0 := HO2.out.2.1 (k) (by omega)
      have hf := HO2.out.2.2
      simp only [show ¬ k < k by omega, if_false] at a0
      generalize F0 (k) = y0 at a0
      have HN := fun (_ : Unit) => text_step HO2.out hkn HE.out
      have HN : Hid (Unit → _) := HN
      skip
      go_wp2_with fail
      go_roundw
      case rel =>
        have s := Nat.le_refl w.heap.size
        exact ⟨k + 1, by go_num, by omega, HN.out (), (HB2.out.setCell s _)⟩
      case measure => simp [intOf]; omega
    · have p0 : decide (k < n) = false := by simpa using hkn
      have p1 : decide ((k : Int) < (n : Int)) = false := by simpa using hkn
      obtain rfl : k = n := by omega
      go_wp2_with fail
      go_ret
      exact ⟨w.heap.size, rfl, Nat.le_refl _, HOr.out.congr (fun j hj => by rw [if_pos hj]), HB.out⟩
set_option maxRecDepth 100000 in
set_option maxHeartbeats 4000000 in
theorem eq_texts (a a' : Option Addr) (n cap cap' : Nat) (L : Nat → Tx) (hn : n ≤ 1048576) (w : World) (h : TextsAt w a n L) (h' : TextsAt w a' n L) :
    Calls Tryz.prog 34 #[.slice a n cap, .slice a' n cap'] w fun e w' => e = .returned (.bool true) ∧ Below w.heap.size w w' := by
  have HR : Hid (TextsAt w a n L) := h
  have HR' : Hid (TextsAt w a' n L) := h'
  clear h h'
  have hnn : ((n : Int) != (n : Int)) = false := by simp
  have hxx : ∀ x : List UInt8, (x == x) = true := fun x => by simp
  go_enter Tryz.func34, Tryz.ntmps34
  go_wp2_with fail
  go_loopw [5] (fun i wr => ∃ k : Nat, i = .int .i64 k ∧ k ≤ n ∧ Below w.heap.size w wr) (fun i _ => n - (intOf i).toNat)
  case atStart => exact ⟨0, rfl, by omega, Below.refl _ _⟩
  case round =>
    obtain ⟨k, rfl, hk, hb⟩ := hrel
    have HB : Hid (Below w.heap.size w wr) := hb
    have hsr := hb.size
    clear hb
    by_cases hkn : k < n
    · have q0 : decide (k < n) = true := by simpa using hkn
      have q1 : decide ((k : Int) < (n : Int)) = true := by simpa using hkn
      rcases HR.out with h0 | ⟨g, o, rfl, hg, hc⟩
      · omega
      rcases HR'.out with h0 | ⟨g', o', rfl, hg', hc'⟩
      · omega
      have c0 := hc k hkn
      have d0 := hc' k hkn
      have a0 := (HB.out.cell (p := ⟨g, _, none⟩) hg).trans c0
      have b0 := (HB.out.cell (p := ⟨g', _, none⟩) hg').trans d0
      clear hc hc' c0 d0
      generalize (L k).t = x0 at *
      skip
      have hgr : g < wr.heap.size := by omega
      have hgr' : g' < wr.heap.size := by omega
      go_upto_region 6 with fail
      go_region_held3 (fun W => W.cell? ⟨g, o + k, none⟩ = some (.string x0) ∧ W.cell? ⟨g', o' + k, none⟩ = some (.string x0)) (go_keep) (fail)
      have HB2 : Hid (Below w.heap.size w wr.drew) := HB.out.drew
      go_wp2
      go_roundw
      case rel => exact ⟨k + 1, by go_num, by omega, HB2.out⟩
      case measure => simp [intOf]; omega
    · have q0 : decide (k < n) = false := by simpa using hkn
      have q1 : decide ((k : Int) < (n : Int)) = false := by simpa using hkn
      go_wp2_with fail
      go_ret
      exact ⟨rfl, HB.out⟩
end Go.Proofs.YtepkmbfedblhdaaGreatDoor
namespace Go.Proofs.YtepkmbfedblhdaaGreatDoor
open Go.RowKit
open Go.Proofs.YtepkmbfedblhdaaGreatDoor.Draw

set_option maxRecDepth 100000 in
set_option maxHeartbeats 4000000 in
theorem sz_book (a b : Option Addr) (n m cap cap' : Nat) (L : Nat → Ln) (I : Nat → Tx) (hn : n ≤ maxLen) (hm : m ≤ maxLen) (hf : ∀ i, i < n → (L i).fits) (hg : ∀ i, i < m → (I i).fits) (left : Nat) (hl : left ≤ 1048576) (w : World) (h : LinesAt w a n L) (h' : TextsAt w b m I) :
    Calls Tryz.prog 4 #[.agg #[.slice a n cap, .slice b m cap'], .int .i64 (left : Int)] w fun e w' => (e = .returned (.int .i64 (-1)) ∨ ∃ r : Nat, e = .returned (.int .i64 (r : Int)) ∧ r ≤ left ∧ n ≤ left ∧ m ≤ left ∧ (∀ i, i < n → (L i).small) ∧ ∀ i, i < m → (I i).small) ∧ Below w.heap.size w w' := by
  have HL : Hid (LinesAt (w.alloc (.cells #[.slice a n cap, .slice b m cap'] 25)) a n L) := h.below ((Below.refl _ _).alloc (Nat.le_refl _) _)
  have HI : Hid (TextsAt (w.alloc (.cells #[.slice a n cap, .slice b m cap'] 25)) b m I) := h'.below ((Below.refl _ _).alloc (Nat.le_refl _) _)
  have HF : Hid ((∀ i, i < n → (L i).fits) ∧ ∀ i, i < m → (I i).fits) := ⟨hf, hg⟩
  have HN : Hid (n ≤ maxLen ∧ m ≤ maxLen) := ⟨hn, hm⟩
  clear h h' hf hg hn hm
  go_enter Tryz.func4, Tryz.ntmps4
  go_wp2_with fail
  refine (sz_lines a n cap L HN.out.1 HF.out.1 left hl _ HL.out).mono ?_
  rintro e w1 ⟨he, hb1⟩
  have HI1 : Hid (TextsAt w1 b m I) := HI.out.below hb1
  have HB1 : Hid (Below w.heap.size w w1) := ((Below.refl _ _).alloc (Nat.le_refl _) _).trans (hb1.mono (by simp))
  have c1 : w1.cell? ⟨w.heap.size, 1, none⟩ = some (.slice b m cap') := (hb1.cell (p := ⟨w.heap.size, 1, none⟩) (by simp)).trans (by simp)
  clear hb1 HL HI
  rcases he with rfl | ⟨r, rfl, hr, hnl, hsm⟩
  · have q : decide ((-1 : Int) < 0) = true := rfl
    go_wp2_with fail
    go_ret
    exact ⟨Or.inl rfl, HB1.out⟩
  have HS : Hid (∀ i, i < n → (L i).small) := hsm
  clear hsm
  have q : decide ((r : Int) < 0) = false := by simp
  go_wp2_with fail
  refine (sz_texts b m cap' I HN.out.2 HF.out.2 r (by omega) _ HI1.out).mono ?_
  rintro e w2 ⟨he, hb2⟩
  have HB2 : Hid (Below w.heap.size w w2) := HB1.out.trans (hb2.mono HB1.out.size)
  clear hb2 c1
  rcases he with rfl | ⟨t, rfl, ht, hml, hsm⟩
  · have q' : decide ((-1 : Int) < 0) = true := rfl
    go_wp2_with fail
    go_ret
    exact ⟨Or.inl rfl, HB2.out⟩
  have HS' : Hid (∀ i, i < m → (I i).small) := hsm
  clear hsm
  have q' : decide ((t : Int) < 0) = false := by simp
  go_wp2_with fail
  go_ret
  exact ⟨Or.inr ⟨t, rfl, by omega, hnl, by omega, HS.out, HS'.out⟩, HB2.out⟩
set_option maxRecDepth 100000 in
set_option maxHeartbeats 4000000 in
theorem to_book (a b : Option Addr) (n m cap cap' : Nat) (L : Nat → Ln) (I : Nat → Tx) (hn : n ≤ 1048576) (hm : m ≤ 1048576) (w : World) (h : LinesAt w a n L) (h' : TextsAt w b m I) :
    Calls Tryz.prog 7 #[.agg #[.slice a n cap, .slice b m cap']] w fun e w' => ∃ g k, e = .returned (.agg #[.slice (some ⟨g, 0, none⟩) n n, .slice (some ⟨k, 0, none⟩) m m]) ∧ w.heap.size ≤ g ∧ g < k ∧ Own w' g (n * 3) (lineF L) ∧ Own w' k m (textF I) ∧ Below w.heap.size w w' := by
  have HL : Hid (LinesAt w a n L) := h
  have HI : Hid (TextsAt w b m I) := h'
  clear h h'
  have HT0 : Hid (∀ cs, Three w (((w.alloc (.cells cs 25)).alloc (.cells #[.slice none 0 0, .slice none 0 0] 31)).alloc (.cells #[.slice none 0 0, .slice none 0 0] 31)) cs #[.slice none 0 0, .slice none 0 0] #[.slice none 0 0, .slice none 0 0]) := fun cs => three_new w cs #[.slice none 0 0, .slice none 0 0] #[.slice none 0 0, .slice none 0 0] _ _ _
  go_enter Tryz.func7, Tryz.ntmps7
  go_wp2_with fail
  refine (to_lines a n cap L hn _ (HL.out.below (HT0.out _).bel)).mono ?_
  rintro e w1 ⟨g, rfl, hg, hO, hb1⟩
  have T1 := (HT0.out _).next hb1
  have hg3 : w.heap.size + 3 ≤ g := by simp at hg; omega
  have b1 := T1.box 1
  have o0 := T1.out 0
  have of := T1.ofr
  simp at b1 o0
  have HT : Hid (Three w (w1.setCell ⟨w.heap.size + 1 + 1, 0, none⟩ (.slice (some ⟨g, 0, none⟩) n n)) #[.slice a n cap, .slice b m cap'] #[.slice none 0 0, .slice none 0 0] #[.slice (some ⟨g, 0, none⟩) n n, .slice none 0 0]) := T1.set 0 (by simp) _
  have HO : Hid (Own (w1.setCell ⟨w.heap.size + 1 + 1, 0, none⟩ (.slice (some ⟨g, 0, none⟩) n n)) g (n * 3) (lineF L)) := hO.grown (setGrown (World.grownBy.refl _ _)) (by omega)
  clear hb1 T1 hg hO
  go_wp2_with fail
  refine (to_texts b m cap' I hm _ (HI.out.below HT.out.bel)).mono ?_
  rintro e w2 ⟨k, rfl, hk, hO', hb2⟩
  have T2 := HT.out.next hb2
  have HO2 := HO.out.below hb2
  have hgk : g < k := by have := HO.out.1; omega
  have p0 := T2.out 0
  have p1 := T2.out 1
  have pf := T2.ofr
  have r0 := T2.res 0
  have r1 := T2.res 1
  have rf := T2.rfr
  simp at p0 p1 r0 r1
  have HB : Hid (Below w.heap.size w w2) := T2.bel
  have HO2 : Hid (Own w2 g (n * 3) (lineF L)) := HO2
  have HO3 : Hid (Own w2 k m (textF I)) := hO'
  have hk3 : w.heap.size + 3 ≤ k := by omega
  clear hb2 T2 hk hO' HT HO b1 o0 of
  go_wp2_with fail
  refine bodyPost_ret (v := .agg #[.slice (some ⟨g, 0, none⟩) n n, .slice (some ⟨k, 0, none⟩) m m]) ?_ rfl ⟨g, k, rfl, by omega, hgk, ?_, ?_, ?_⟩
  · simp [results, Tryz.results7, go_sem, r0, r1]
  · exact ((HO2.out.grown (setGrown (World.grownBy.refl _ _)) (by omega)).grown (setGrown (World.grownBy.refl _ _)) (by omega)).grown (setGrown (World.grownBy.refl _ _)) (by omega)
  · exact ((HO3.out.grown (setGrown (World.grownBy.refl _ _)) (by omega)).grown (setGrown (World.grownBy.refl _ _)) (by omega)).grown (setGrown (World.grownBy.refl _ _)) (by omega)
  · have a1 : w.heap.size ≤ w.heap.size + 1 := by omega
    have a2 : w.heap.size ≤ w.heap.size + 1 + 1 := by omega
    exact ((HB.out.setCell a2 _).setCell a1 _).setCell a1 _
set_option maxRecDepth 100000 in
set_option maxHeartbeats 4000000 in
theorem eq_book (a a' b b' : Option Addr) (n m c1 c2 c3 c4 : Nat) (L : Nat → Ln) (I : Nat → Tx) (hn : n ≤ 1048576) (hm : m ≤ 1048576) (w : World) (h : LinesAt w a n L) (h' : LinesAt w a' n L) (hi : TextsAt w b m I) (hi' : TextsAt w b' m I) :
    Calls Tryz.prog 11 #[.agg #[.slice a n c1, .slice b m c2], .agg #[.slice a' n c3, .slice b' m c4]] w fun e w' => e = .returned (.bool true) ∧ Below w.heap.size w w' := by
  have HT0 : Hid (∀ cs rs, Both w ((w.alloc (.cells cs 31)).alloc (.cells rs 31)) cs rs) := fun cs rs => two_now w cs rs _ _
  have HL : Hid (LinesAt w a n L ∧ LinesAt w a' n L) := ⟨h, h'⟩
  have HI : Hid (TextsAt w b m I ∧ TextsAt w b' m I) := ⟨hi, hi'⟩
  clear h h' hi hi'
  go_enter Tryz.func11, Tryz.ntmps11
  go_wp2_with fail
  refine (eq_lines a a' n c1 c3 L hn _ (HL.out.1.below (HT0.out _ _).bel) (HL.out.2.below (HT0.out _ _).bel)).mono ?_
  rintro e w1 ⟨rfl, hb1⟩
  have T1 := (HT0.out _ _).next hb1
  have b1 := T1.box 1
  have r1 := T1.res 1
  simp at b1 r1
  have HB1 : Hid (Below w.heap.size w w1) := T1.bel
  clear hb1 T1
  go_wp2_with fail
  refine (eq_texts b b' m c2 c4 I hm _ (HI.out.1.below HB1.out) (HI.out.2.below HB1.out)).mono ?_
  rintro e w2 ⟨rfl, hb2⟩
  have HB2 : Hid (Below w.heap.size w w2) := HB1.out.trans (hb2.mono HB1.out.size)
  clear hb2
  go_wp2_with fail
  go_ret
  exact ⟨rfl, HB2.out⟩
end Go.Proofs.YtepkmbfedblhdaaGreatDoor
namespace Go.Proofs.YtepkmbfedblhdaaGreatDoor
open Go.RowKit
open Go.Proofs.YtepkmbfedblhdaaGreatDoor.Draw

theorem cmp_less : ∀ x y : List UInt8, Lib.compareBytes x y < 0 ↔ Op.bytesLess x y = true
  | [], [] => by simp [Lib.compareBytes, Op.bytesLess]
  | [], _ :: _ => by simp [Lib.compareBytes, Op.bytesLess]
  | _ :: _, [] => by simp [Lib.compareBytes, Op.bytesLess]
  | a :: x, b :: y => by
    rw [Lib.compareBytes, Op.bytesLess]
    by_cases h : a < b
    · simp [h]
    · by_cases h' : b < a
      · have hne : a ≠ b := fun e => by subst e; exact absurd h' (UInt8.lt_irrefl _)
        simp [h, h', hne]
      · have he : a = b := UInt8.le_antisymm (UInt8.not_lt.1 h') (UInt8.not_lt.1 h)
        subst he
        simp [h, cmp_less x y]
theorem cmp_zero : ∀ x y : List UInt8, Lib.compareBytes x y = 0 ↔ x = y
  | [], [] => by simp [Lib.compareBytes]
  | [], _ :: _ => by simp [Lib.compareBytes]
  | _ :: _, [] => by simp [Lib.compareBytes]
  | a :: x, b :: y => by
    rw [Lib.compareBytes]
    by_cases h : a < b
    · have hne : a ≠ b := fun e => by subst e; exact absurd h (UInt8.lt_irrefl _)
      simp [h, hne]
    · by_cases h' : b < a
      · have hne : a ≠ b := fun e => by subst e; exact absurd h' (UInt8.lt_irrefl _)
        simp [h, h', hne]
      · have he : a = b := UInt8.le_antisymm (UInt8.not_lt.1 h') (UInt8.not_lt.1 h)
        subst he
        simp [h, cmp_zero x y]
theorem cmp_range : ∀ x y : List UInt8, -1 ≤ Lib.compareBytes x y ∧ Lib.compareBytes x y ≤ 1
  | [], [] => by simp [Lib.compareBytes]
  | [], _ :: _ => by simp [Lib.compareBytes]
  | _ :: _, [] => by simp [Lib.compareBytes]
  | a :: x, b :: y => by
    rw [Lib.compareBytes]
    have := cmp_range x y
    split
    · omega
    · split <;> omega

def ltS (a b : ByteArray) : Bool := Op.bytesLess a.toList b.toList
def cmpS (a b : ByteArray) : Int := Lib.compareBytes a.data.toList b.data.toList
theorem cmpS_less (a b : ByteArray) : cmpS a b < 0 ↔ ltS a b = true := by
  rw [cmpS, ltS, cmp_less, Lib.toList_data, Lib.toList_data]
theorem cmpS_zero (a b : ByteArray) : cmpS a b = 0 ↔ (a.toList == b.toList) = true := by
  rw [cmpS, cmp_zero, Lib.toList_data, Lib.toList_data, beq_iff_eq]
theorem cmpS_range (a b : ByteArray) : -1 ≤ cmpS a b ∧ cmpS a b ≤ 1 := cmp_range _ _
/-- Lines by Account, then Slot. -/
def lessP (a s a' s' : ByteArray) : Bool := ltS a a' || ((a.toList == a'.toList) && ltS s s')
def cmpP (a s a' s' : ByteArray) : Int := if cmpS a a' ≠ 0 then cmpS a a' else cmpS s s'
theorem cmpP_neg (a s a' s' : ByteArray) : decide (0 ≤ cmpP a s a' s') = !lessP a s a' s' := by
  unfold cmpP lessP
  have h1 := cmpS_less a a'
  have h2 := cmpS_zero a a'
  have h3 := cmpS_less s s'
  by_cases h0 : cmpS a a' = 0
  · rw [if_neg (by simpa using h0)]
    have e1 : ltS a a' = false := by
      rw [← Bool.not_eq_true, ← h1]; omega
    rw [e1, h2.1 h0]
    by_cases h4 : cmpS s s' < 0
    · rw [h3.1 h4]; simp; omega
    · have e2 : ltS s s' = false := by rw [← Bool.not_eq_true, ← h3]; exact h4
      rw [e2]; simp; omega
  · rw [if_pos h0]
    have e2 : (a.toList == a'.toList) = false := by rw [← Bool.not_eq_true, ← h2]; exact h0
    rw [e2]
    by_cases h4 : cmpS a a' < 0
    · rw [h1.1 h4]; simp; omega
    · have e1 : ltS a a' = false := by rw [← Bool.not_eq_true, ← h1]; exact h4
      rw [e1]; simp; omega
theorem cmpP_range (a s a' s' : ByteArray) : -1 ≤ cmpP a s a' s' ∧ cmpP a s a' s' ≤ 1 := by
  unfold cmpP; split
  · exact cmpS_range _ _
  · exact cmpS_range _ _

def okLine (L : Nat → Ln) (i : Nat) : Bool := (nameB (L i).a && nameB (L i).s) && rightB (L i).m && (decide (i = 0) || lessP (L (i - 1)).a (L (i - 1)).s (L i).a (L i).s)
def okId (I : Nat → Tx) (i : Nat) : Bool := nameB (I i).t && (decide (i = 0) || ltS (I (i - 1)).t (I i).t)
def linesB (n : Nat) (L : Nat → Ln) : Bool := decide (n ≤ 60) && (List.range n).all (okLine L)
def idsB (m : Nat) (I : Nat → Tx) : Bool := decide (m ≤ 100) && (List.range m).all (okId I)
def sumL (L : Nat → Ln) : Nat → Int
  | 0 => 0
  | k + 1 => sumL L k + (L k).m
def bookB (n m : Nat) (L : Nat → Ln) (I : Nat → Tx) : Bool := linesB n L && idsB m I && (sumL L n == 0)
theorem all_no {p : Nat → Bool} {n k : Nat} (hk : k < n) (h : p k = false) : (List.range n).all p = false := by
  rw [List.all_eq_false]; exact ⟨k, by simpa using hk, by simp [h]⟩
theorem all_yes {p : Nat → Bool} {n : Nat} (h : ∀ j, j < n → p j = true) : (List.range n).all p = true := by
  rw [List.all_eq_true]; intro x hx; exact h x (by simpa using hx)
theorem linesB_no {n : Nat} {L : Nat → Ln} {k : Nat} (hk : k < n) (h : okLine L k = false) : linesB n L = false := by simp [linesB, all_no hk h]
theorem linesB_yes {n : Nat} {L : Nat → Ln} (hn : n ≤ 60) (h : ∀ j, j < n → okLine L j = true) : linesB n L = true := by simp [linesB, hn, all_yes h]
theorem linesB_iff (n : Nat) (L : Nat → Ln) : linesB n L = true ↔ n ≤ 60 ∧ ∀ j, j < n → okLine L j = true := by simp [linesB]
theorem idsB_no {n : Nat} {I : Nat → Tx} {k : Nat} (hk : k < n) (h : okId I k = false) : idsB n I = false := by simp [idsB, all_no hk h]
theorem idsB_yes {n : Nat} {I : Nat → Tx} (hn : n ≤ 100) (h : ∀ j, j < n → okId I j = true) : idsB n I = true := by simp [idsB, hn, all_yes h]
theorem idsB_iff (n : Nat) (I : Nat → Tx) : idsB n I = true ↔ n ≤ 100 ∧ ∀ j, j < n → okId I j = true := by simp [idsB]
theorem sumL_le {L : Nat → Ln} {n : Nat} (h : ∀ j, j < n → okLine L j = true) : ∀ k, k ≤ n → -(1000000000000 * (k : Int)) ≤ sumL L k ∧ sumL L k ≤ 1000000000000 * (k : Int)
  | 0, _ => by simp [sumL]
  | k + 1, hk => by
    have ih := sumL_le h k (by omega)
    have hj := h k (by omega)
    simp only [okLine, Bool.and_eq_true] at hj
    have hr := (rightB_iff _).1 hj.1.2
    simp only [sumL]
    omega
end Go.Proofs.YtepkmbfedblhdaaGreatDoor
namespace Go.Proofs.YtepkmbfedblhdaaGreatDoor
def ren106 : Go.Shelf.Ren := ⟨fun | 106 => 76 | 213 => 84 | 265 => 90 | n => n, fun | 3 => 3 | 9 => 9 | n => n, fun  | n => n⟩
set_option maxRecDepth 100000 in
theorem lays106 : Go.Proofs.Lays.n106 Tryz.prog ren106 := {
  mixed := by kernel_rfl,
  f106 := by kernel_rfl,
  f213 := by kernel_rfl,
  f265 := by kernel_rfl,
  t3 := by kernel_rfl,
  a3 := fun _ => by kernel_rfl,
  z3 := fun _ => by kernel_rfl,
  v3 := fun _ => by kernel_rfl,
  t9 := by kernel_rfl,
  a9 := fun _ => by kernel_rfl,
  z9 := fun _ => by kernel_rfl,
  v9 := fun _ => by kernel_rfl }
end Go.Proofs.YtepkmbfedblhdaaGreatDoor
