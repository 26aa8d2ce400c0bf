/- The number of a function: what the program's and the model's calls answer, and the law. -/
import Derived.Test.YtdbahildcecgbaaDoorFn
namespace Go.Proofs.YtdbahildcecgbaaDoor
open Go.RowKit
open Go.Proofs.YtdbahildcecgbaaDoor.Draw

theorem FnIs.one {s : ByteArray} {a b : Int} (h : FnIs s a) (h' : FnIs s b) : a = b := by
  rcases h with ⟨k, k1, rfl, k2, k3⟩ | ⟨rfl, k3⟩ <;> rcases h' with ⟨j, j1, rfl, j2, j3⟩ | ⟨rfl, j3⟩
  · rcases Nat.lt_trichotomy k j with h | h | h
    · exact absurd k2 (by rw [j3 k h]; simp)
    · rw [h]
    · exact absurd j2 (by rw [k3 j h]; simp)
  · exact absurd k2 (by rw [j3 k k1]; simp)
  · exact absurd j2 (by rw [k3 j j1]; simp)
  · rfl
theorem fnIs_of {s : ByteArray} {r : Int} (h : (∃ k : Nat, k < 7 ∧ r = (k : Int) + 1 ∧ ((funS (k + 1)).toList == s.toList) = true ∧ ∀ j, j < k → ((funS (j + 1)).toList == s.toList) = false) ∨ (r = 0 ∧ ∀ j, j < 7 → ((funS (j + 1)).toList == s.toList) = false)) : FnIs s r := by
  rcases h with ⟨k, k1, rfl, k2, k3⟩ | ⟨rfl, k3⟩
  · refine Or.inl ⟨k + 1, by omega, by simp, k2, fun j hj => ?_⟩
    cases j with
    | zero =>
      cases h0 : ((funS 0).toList == s.toList)
      · rfl
      · exfalso
        have e : (funS (k + 1)).toList = (funS 0).toList := (eq_of_beq k2).trans (eq_of_beq h0).symm
        rw [funS_list, funS_list] at e
        rcases (by omega : k = 0 ∨ k = 1 ∨ k = 2 ∨ k = 3 ∨ k = 4 ∨ k = 5 ∨ k = 6) with rfl | rfl | rfl | rfl | rfl | rfl | rfl <;> simp [funT] at e
    | succ i => exact k3 i (by omega)
  · cases h0 : ((funS 0).toList == s.toList)
    · refine Or.inr ⟨rfl, fun j hj => ?_⟩
      cases j with
      | zero => exact h0
      | succ i => exact k3 i (by omega)
    · exact Or.inl ⟨0, by omega, rfl, h0, fun j hj => by omega⟩
set_option maxRecDepth 100000 in
set_option maxHeartbeats 8000000 in
theorem impl_fnumber (s : ByteArray) (w : World) (hF : FunW w) :
    Calls Tryd.prog 11 #[.string s] w fun e w' => (∃ r, e = .returned (.int .i64 r) ∧ FnIs s r) ∧ w' = w := by
  have H := impl_fnum s w hF
  have H : Hid (Calls Tryd.prog 20 _ _ _) := H
  clear hF
  go_enter Tryd.func11, Tryd.ntmps11
  go_wp2_with fail
  refine H.out.mono ?_
  rintro e w1 ⟨⟨r, rfl, hr⟩, rfl⟩
  have HR : Hid (FnIs s r) := hr
  clear hr
  go_wp2_with fail
  go_ret
  exact ⟨⟨_, rfl, HR.out⟩, rfl⟩
theorem spec_callNames (w : World) :
    Calls Tryd.prog 19 #[] w fun e w' => e = .returned (.slice (some ⟨w.heap.size, 0, none⟩) 7 7) ∧ (∀ k, k < 7 → w'.cell? ⟨w.heap.size, k, none⟩ = some (.string (funS (k + 1)))) ∧ Below w.heap.size w w' := by
  have HT : Hid (∀ k, k < 7 → (w.alloc (.cells #[.string ⟨#[105, 110, 116, 101, 114, 101, 115, 116]⟩, .string ⟨#[105, 110, 115, 116, 97, 108, 109, 101, 110, 116]⟩, .string ⟨#[108, 97, 116, 101, 114]⟩, .string ⟨#[100, 97, 121, 115]⟩, .string ⟨#[108, 101, 97, 115, 116]⟩, .string ⟨#[109, 111, 115, 116]⟩, .string ⟨#[115, 104, 97, 114, 101]⟩] 9)).cell? ⟨w.heap.size, k, none⟩ = some (.string (funS (k + 1)))) := fun k hk => by
    rw [World.cell?_alloc_new]
    rcases (by omega : k = 0 ∨ k = 1 ∨ k = 2 ∨ k = 3 ∨ k = 4 ∨ k = 5 ∨ k = 6) with rfl | rfl | rfl | rfl | rfl | rfl | rfl <;> rfl
  go_enter Tryd.func19, Tryd.ntmps19
  go_wp2_with fail
  go_ret
  exact ⟨rfl, HT.out, (Below.refl _ _).alloc (Nat.le_refl _) _⟩
set_option maxRecDepth 100000 in
set_option maxHeartbeats 8000000 in
theorem spec_fnumber (s : ByteArray) (w : World) :
    Calls Tryd.prog 10 #[.string s] w fun e w' => (∃ r, e = .returned (.int .i64 r) ∧ FnIs s r) ∧ Below w.heap.size w w' := by
  have H := spec_callNames w
  have H : Hid (Calls Tryd.prog 19 _ _ _) := H
  go_enter Tryd.func10, Tryd.ntmps10
  go_wp2_with fail
  refine H.out.mono ?_
  rintro e w1 ⟨rfl, hc, hb⟩
  have HC : Hid (∀ k, k < 7 → w1.cell? ⟨w.heap.size, k, none⟩ = some (.string (funS (k + 1)))) := hc
  have HB : Hid (Below w.heap.size w w1) := hb
  clear hc hb H
  obtain ⟨g, hg⟩ : ∃ g, g = w.heap.size := ⟨_, rfl⟩
  rw [← hg] at HC ⊢
  have HG : Hid (g = w.heap.size) := hg
  clear hg
  go_wp2_with fail
  go_loopw [4] (fun i wr => ∃ k : Nat, i = .int .i64 (k : Int) ∧ k ≤ 7 ∧ Hid (∀ j, j < k → ((funS (j + 1)).toList == s.toList) = false) ∧ wr = w1) (fun i _ => 7 - (intOf i).toNat)
  case atStart => exact ⟨0, rfl, by omega, fun j hj => by omega, rfl⟩
  case round =>
    obtain ⟨k, rfl, hk, HN, rfl⟩ := hrel
    by_cases h7 : k < 7
    · have q0 : decide (k < 7) = true := by simpa using h7
      have q1 : decide ((k : Int) < 7) = true := by simp; omega
      have c := HC.out k h7
      have hw : IntKind.i64.wrap ((k : Int) + 1) = (k : Int) + 1 := IntWalk.i64_in _ (by omega)
      obtain ⟨f, hf⟩ : ∃ f, f = funS (k + 1) := ⟨_, rfl⟩
      rw [← hf] at c
      have HF : Hid (f = funS (k + 1)) := hf
      clear hf
      cases he : (f.toList == s.toList)
      · have HN2 : Hid (∀ j, j < k + 1 → ((funS (j + 1)).toList == s.toList) = false) := fun j hj => by
          by_cases e : j = k
          · subst e; rw [← HF.out]; exact he
          · exact HN.out j (by omega)
        go_wp2_with fail
        go_roundw
        case rel => exact ⟨k + 1, by go_num, by omega, HN2, by first | rfl | trivial⟩
        case measure => simp [intOf]; omega
      · have HR : Hid (FnIs s ((k : Int) + 1)) := fnIs_of (Or.inl ⟨k, h7, rfl, by rw [← HF.out]; exact he, HN.out⟩)
        go_wp2_with fail
        go_ret
        exact ⟨⟨_, rfl, HR.out⟩, HG.out ▸ HB.out⟩
    · have q0 : decide (k < 7) = false := by simpa using h7
      have q1 : decide ((k : Int) < 7) = false := by simp; omega
      obtain rfl : k = 7 := by omega
      have HR : Hid (FnIs s 0) := fnIs_of (Or.inr ⟨rfl, HN.out⟩)
      go_wp2_with fail
      go_ret
      exact ⟨⟨_, rfl, HR.out⟩, HG.out ▸ HB.out⟩
set_option maxRecDepth 100000 in
set_option maxHeartbeats 8000000 in
theorem law_fnumber (s : ByteArray) (_hs : s.size ≤ maxLen) (w : World) (hF : FunW w) :
    Calls Tryd.prog 4 #[.string s] w fun e w' => e = .returned (.bool true) ∧ Below w.heap.size w w' := by
  have HF : Hid (FunW w) := hF
  have H1 := spec_fnumber s w
  have H1 : Hid (Calls Tryd.prog 10 _ _ _) := H1
  have H2 : Hid (∀ W, FunW W → Calls Tryd.prog 11 #[.string s] W fun e w' => (∃ r, e = .returned (.int .i64 r) ∧ FnIs s r) ∧ w' = W) := fun W h => impl_fnumber s W h
  clear hF
  by_cases hs : 1048576 < s.size
  · have q0 : decide (1048576 < s.size) = true := by simpa using hs
    have q1 : decide ((1048576 : Int) < (s.size : Int)) = true := by simp; omega
    go_enter Tryd.func4, Tryd.ntmps4
    go_wp2_with fail
    go_ret
    exact ⟨rfl, Below.refl _ _⟩
  have q0 : decide (1048576 < s.size) = false := by simpa using hs
  have q1 : decide ((1048576 : Int) < (s.size : Int)) = false := by simp; omega
  go_enter Tryd.func4, Tryd.ntmps4
  go_wp2_with fail
  refine H1.out.mono ?_
  rintro e w1 ⟨⟨r, rfl, hr⟩, hb⟩
  have HR : Hid (FnIs s r) := hr
  have HB : Hid (Below w.heap.size w w1) := hb
  have HF1 : Hid (FunW w1) := HF.out.below hb
  clear hb hr
  go_wp2_with fail
  refine (H2.out _ HF1.out).mono ?_
  rintro e w2 ⟨⟨r', rfl, hr'⟩, rfl⟩
  obtain rfl : r = r' := HR.out.one hr'
  clear hr'
  go_wp2_with fail
  go_ret
  exact ⟨rfl, HB.out⟩
end Go.Proofs.YtdbahildcecgbaaDoor
