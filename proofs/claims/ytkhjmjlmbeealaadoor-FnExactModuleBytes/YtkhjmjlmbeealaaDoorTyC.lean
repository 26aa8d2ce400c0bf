/- The types of functions: lists of whole numbers, and what the calls answer. -/
import Derived.Test.YtkhjmjlmbeealaaDoorTxs
import Derived.Deep.RegionHeld3
namespace Go.Proofs.YtkhjmjlmbeealaaDoor
open Go.RowKit
open Go.Proofs.YtkhjmjlmbeealaaDoor.Draw

/-- Cells of a list of whole numbers. -/
def intF (l : List Int) (j : Nat) : Value := .int .i64 (l.getD j 0)
theorem intF_cell {l : List Int} {j : Nat} (h : j < l.length) : ((l.map fun z => Value.int .i64 z).toArray)[j]? = some (intF l j) := by
  rw [List.getElem?_toArray, List.getElem?_map, List.getElem?_eq_getElem h]
  simp [intF, List.getD_eq_getElem?_getD, List.getElem?_eq_getElem h]
theorem own_ints (w : World) (l : List Int) (t : TypeId) : OwnR (w.alloc (.cells (l.map fun z => Value.int .i64 z).toArray t)) (some ⟨w.heap.size, 0, none⟩) l.length 1 (intF l) :=
  Or.inr ⟨_, rfl, by simp, fun j hj => by rw [cnew' rfl, intF_cell (by omega)], fun j => fnew' rfl j⟩
def callT (s : ByteArray) : List Int := if (s.toList == [105, 110, 116, 101, 114, 101, 115, 116]) = true then [2, 2, 3, 4, 4] else if (s.toList == [105, 110, 115, 116, 97, 108, 109, 101, 110, 116]) = true then [2, 2, 3, 1, 4] else if (s.toList == [108, 97, 116, 101, 114]) = true then [4, 4, 1] else if (s.toList == [100, 97, 121, 115]) = true then [1, 4, 4] else if (s.toList == [108, 101, 97, 115, 116]) = true then [2, 2, 2] else if (s.toList == [109, 111, 115, 116]) = true then [2, 2, 2] else if (s.toList == [115, 104, 97, 114, 101]) = true then [2, 2, 3] else []
theorem callT_len (s : ByteArray) : (callT s).length ≤ 5 := by
  unfold callT
  repeat' split
  all_goals simp
/-- What is handed out: a list of one's own. -/
def IntsOut (w : World) (l : List Int) (e : Ending) (w' : World) : Prop := ∃ a cap, e = .returned (.slice a l.length cap) ∧ OwnR w' a l.length 1 (intF l) ∧ (∀ k, a.map Addr.block = some k → w.heap.size ≤ k ∧ k < w'.heap.size) ∧ Below w.heap.size w w'
theorem ints_new (w : World) (l : List Int) : IntsOut w l (.returned (.slice (some ⟨w.heap.size, 0, none⟩) l.length l.length)) (w.alloc (.cells (l.map fun z => Value.int .i64 z).toArray 2)) :=
  ⟨_, _, rfl, own_ints w l 2, fun k e => by simp at e; subst e; simp, (Below.refl _ _).alloc (Nat.le_refl _) _⟩
theorem ints_nil (w : World) : IntsOut w [] (.returned (.slice none 0 0)) w := ⟨none, 0, rfl, Or.inl rfl, (fun k e => by simp at e), Below.refl _ _⟩
set_option maxRecDepth 100000 in
set_option maxHeartbeats 8000000 in
theorem spec_callT (s : ByteArray) (w : World) :
    Calls Tryd.prog 67 #[.string s] w fun e w' => IntsOut w (callT s) e w' := by
  cases h0 : (s.toList == [105, 110, 116, 101, 114, 101, 115, 116])
  rotate_left
  · have hF : callT s = [2, 2, 3, 4, 4] := by unfold callT; rw [h0, if_pos rfl]
    rw [hF]
    clear hF
    have HO : Hid (IntsOut w [2, 2, 3, 4, 4] (.returned (.slice (some ⟨w.heap.size, 0, none⟩) 5 5)) (w.alloc (.cells #[.int .i64 2, .int .i64 2, .int .i64 3, .int .i64 4, .int .i64 4] 2))) := ints_new w [2, 2, 3, 4, 4]
    go_enter Tryd.func67, Tryd.ntmps67
    go_wp2_with fail
    refine bodyPost_ret (v := .slice (some ⟨w.heap.size, 0, none⟩) 5 5) ?_ rfl HO.out
    simp [results, Tryd.results67, go_sem]
  cases h1 : (s.toList == [105, 110, 115, 116, 97, 108, 109, 101, 110, 116])
  rotate_left
  · have hF : callT s = [2, 2, 3, 1, 4] := by unfold callT; rw [h0, h1, if_neg (by simp), if_pos rfl]
    rw [hF]
    clear hF
    have HO : Hid (IntsOut w [2, 2, 3, 1, 4] (.returned (.slice (some ⟨w.heap.size, 0, none⟩) 5 5)) (w.alloc (.cells #[.int .i64 2, .int .i64 2, .int .i64 3, .int .i64 1, .int .i64 4] 2))) := ints_new w [2, 2, 3, 1, 4]
    go_enter Tryd.func67, Tryd.ntmps67
    go_wp2_with fail
    refine bodyPost_ret (v := .slice (some ⟨w.heap.size, 0, none⟩) 5 5) ?_ rfl HO.out
    simp [results, Tryd.results67, go_sem]
  cases h2 : (s.toList == [108, 97, 116, 101, 114])
  rotate_left
  · have hF : callT s = [4, 4, 1] := by unfold callT; rw [h0, h1, h2, if_neg (by simp), if_neg (by simp), if_pos rfl]
    rw [hF]
    clear hF
    have HO : Hid (IntsOut w [4, 4, 1] (.returned (.slice (some ⟨w.heap.size, 0, none⟩) 3 3)) (w.alloc (.cells #[.int .i64 4, .int .i64 4, .int .i64 1] 2))) := ints_new w [4, 4, 1]
    go_enter Tryd.func67, Tryd.ntmps67
    go_wp2_with fail
    refine bodyPost_ret (v := .slice (some ⟨w.heap.size, 0, none⟩) 3 3) ?_ rfl HO.out
    simp [results, Tryd.results67, go_sem]
  cases h3 : (s.toList == [100, 97, 121, 115])
  rotate_left
  · have hF : callT s = [1, 4, 4] := by unfold callT; rw [h0, h1, h2, h3, if_neg (by simp), if_neg (by simp), if_neg (by simp), if_pos rfl]
    rw [hF]
    clear hF
    have HO : Hid (IntsOut w [1, 4, 4] (.returned (.slice (some ⟨w.heap.size, 0, none⟩) 3 3)) (w.alloc (.cells #[.int .i64 1, .int .i64 4, .int .i64 4] 2))) := ints_new w [1, 4, 4]
    go_enter Tryd.func67, Tryd.ntmps67
    go_wp2_with fail
    refine bodyPost_ret (v := .slice (some ⟨w.heap.size, 0, none⟩) 3 3) ?_ rfl HO.out
    simp [results, Tryd.results67, go_sem]
  cases h4 : (s.toList == [108, 101, 97, 115, 116])
  rotate_left
  · have hF : callT s = [2, 2, 2] := by unfold callT; rw [h0, h1, h2, h3, h4, if_neg (by simp), if_neg (by simp), if_neg (by simp), if_neg (by simp), if_pos rfl]
    rw [hF]
    clear hF
    have HO : Hid (IntsOut w [2, 2, 2] (.returned (.slice (some ⟨w.heap.size, 0, none⟩) 3 3)) (w.alloc (.cells #[.int .i64 2, .int .i64 2, .int .i64 2] 2))) := ints_new w [2, 2, 2]
    go_enter Tryd.func67, Tryd.ntmps67
    go_wp2_with fail
    refine bodyPost_ret (v := .slice (some ⟨w.heap.size, 0, none⟩) 3 3) ?_ rfl HO.out
    simp [results, Tryd.results67, go_sem]
  cases h5 : (s.toList == [109, 111, 115, 116])
  rotate_left
  · have hF : callT s = [2, 2, 2] := by unfold callT; rw [h0, h1, h2, h3, h4, h5, if_neg (by simp), if_neg (by simp), if_neg (by simp), if_neg (by simp), if_neg (by simp), if_pos rfl]
    rw [hF]
    clear hF
    have HO : Hid (IntsOut w [2, 2, 2] (.returned (.slice (some ⟨w.heap.size, 0, none⟩) 3 3)) (w.alloc (.cells #[.int .i64 2, .int .i64 2, .int .i64 2] 2))) := ints_new w [2, 2, 2]
    go_enter Tryd.func67, Tryd.ntmps67
    go_wp2_with fail
    refine bodyPost_ret (v := .slice (some ⟨w.heap.size, 0, none⟩) 3 3) ?_ rfl HO.out
    simp [results, Tryd.results67, go_sem]
  cases h6 : (s.toList == [115, 104, 97, 114, 101])
  rotate_left
  · have hF : callT s = [2, 2, 3] := by unfold callT; rw [h0, h1, h2, h3, h4, h5, h6, if_neg (by simp), if_neg (by simp), if_neg (by simp), if_neg (by simp), if_neg (by simp), if_neg (by simp), if_pos rfl]
    rw [hF]
    clear hF
    have HO : Hid (IntsOut w [2, 2, 3] (.returned (.slice (some ⟨w.heap.size, 0, none⟩) 3 3)) (w.alloc (.cells #[.int .i64 2, .int .i64 2, .int .i64 3] 2))) := ints_new w [2, 2, 3]
    go_enter Tryd.func67, Tryd.ntmps67
    go_wp2_with fail
    refine bodyPost_ret (v := .slice (some ⟨w.heap.size, 0, none⟩) 3 3) ?_ rfl HO.out
    simp [results, Tryd.results67, go_sem]
  have hF : callT s = [] := by unfold callT; rw [h0, h1, h2, h3, h4, h5, h6, if_neg (by simp), if_neg (by simp), if_neg (by simp), if_neg (by simp), if_neg (by simp), if_neg (by simp), if_neg (by simp)]
  rw [hF]
  clear hF
  go_enter Tryd.func67, Tryd.ntmps67
  go_wp2_with fail
  refine bodyPost_ret (v := .slice (some ⟨w.heap.size, 0, none⟩) 0 0) ?_ rfl (ints_new w [])
  simp [results, Tryd.results67, go_sem]
set_option maxRecDepth 100000 in
set_option maxHeartbeats 8000000 in
theorem impl_callT (s : ByteArray) (w : World) :
    Calls Tryd.prog 78 #[.string s] w fun e w' => IntsOut w (callT s) e w' := by
  cases h0 : (s.toList == [105, 110, 116, 101, 114, 101, 115, 116])
  rotate_left
  · have hF : callT s = [2, 2, 3, 4, 4] := by unfold callT; rw [h0, if_pos rfl]
    rw [hF]
    clear hF
    have HO : Hid (IntsOut w [2, 2, 3, 4, 4] (.returned (.slice (some ⟨w.heap.size, 0, none⟩) 5 5)) (w.alloc (.cells #[.int .i64 2, .int .i64 2, .int .i64 3, .int .i64 4, .int .i64 4] 2))) := ints_new w [2, 2, 3, 4, 4]
    go_enter Tryd.func78, Tryd.ntmps78
    go_wp2_with fail
    refine bodyPost_ret (v := .slice (some ⟨w.heap.size, 0, none⟩) 5 5) ?_ rfl HO.out
    simp [results, Tryd.results78, go_sem]
  cases h1 : (s.toList == [105, 110, 115, 116, 97, 108, 109, 101, 110, 116])
  rotate_left
  · have hF : callT s = [2, 2, 3, 1, 4] := by unfold callT; rw [h0, h1, if_neg (by simp), if_pos rfl]
    rw [hF]
    clear hF
    have HO : Hid (IntsOut w [2, 2, 3, 1, 4] (.returned (.slice (some ⟨w.heap.size, 0, none⟩) 5 5)) (w.alloc (.cells #[.int .i64 2, .int .i64 2, .int .i64 3, .int .i64 1, .int .i64 4] 2))) := ints_new w [2, 2, 3, 1, 4]
    go_enter Tryd.func78, Tryd.ntmps78
    go_wp2_with fail
    refine bodyPost_ret (v := .slice (some ⟨w.heap.size, 0, none⟩) 5 5) ?_ rfl HO.out
    simp [results, Tryd.results78, go_sem]
  cases h2 : (s.toList == [108, 97, 116, 101, 114])
  rotate_left
  · have hF : callT s = [4, 4, 1] := by unfold callT; rw [h0, h1, h2, if_neg (by simp), if_neg (by simp), if_pos rfl]
    rw [hF]
    clear hF
    have HO : Hid (IntsOut w [4, 4, 1] (.returned (.slice (some ⟨w.heap.size, 0, none⟩) 3 3)) (w.alloc (.cells #[.int .i64 4, .int .i64 4, .int .i64 1] 2))) := ints_new w [4, 4, 1]
    go_enter Tryd.func78, Tryd.ntmps78
    go_wp2_with fail
    refine bodyPost_ret (v := .slice (some ⟨w.heap.size, 0, none⟩) 3 3) ?_ rfl HO.out
    simp [results, Tryd.results78, go_sem]
  cases h3 : (s.toList == [100, 97, 121, 115])
  rotate_left
  · have hF : callT s = [1, 4, 4] := by unfold callT; rw [h0, h1, h2, h3, if_neg (by simp), if_neg (by simp), if_neg (by simp), if_pos rfl]
    rw [hF]
    clear hF
    have HO : Hid (IntsOut w [1, 4, 4] (.returned (.slice (some ⟨w.heap.size, 0, none⟩) 3 3)) (w.alloc (.cells #[.int .i64 1, .int .i64 4, .int .i64 4] 2))) := ints_new w [1, 4, 4]
    go_enter Tryd.func78, Tryd.ntmps78
    go_wp2_with fail
    refine bodyPost_ret (v := .slice (some ⟨w.heap.size, 0, none⟩) 3 3) ?_ rfl HO.out
    simp [results, Tryd.results78, go_sem]
  cases h4 : (s.toList == [108, 101, 97, 115, 116])
  rotate_left
  · have hF : callT s = [2, 2, 2] := by unfold callT; rw [h0, h1, h2, h3, h4, if_neg (by simp), if_neg (by simp), if_neg (by simp), if_neg (by simp), if_pos rfl]
    rw [hF]
    clear hF
    have HO : Hid (IntsOut w [2, 2, 2] (.returned (.slice (some ⟨w.heap.size, 0, none⟩) 3 3)) (w.alloc (.cells #[.int .i64 2, .int .i64 2, .int .i64 2] 2))) := ints_new w [2, 2, 2]
    go_enter Tryd.func78, Tryd.ntmps78
    go_wp2_with fail
    refine bodyPost_ret (v := .slice (some ⟨w.heap.size, 0, none⟩) 3 3) ?_ rfl HO.out
    simp [results, Tryd.results78, go_sem]
  cases h5 : (s.toList == [109, 111, 115, 116])
  rotate_left
  · have hF : callT s = [2, 2, 2] := by unfold callT; rw [h0, h1, h2, h3, h4, h5, if_neg (by simp), if_neg (by simp), if_neg (by simp), if_neg (by simp), if_neg (by simp), if_pos rfl]
    rw [hF]
    clear hF
    have HO : Hid (IntsOut w [2, 2, 2] (.returned (.slice (some ⟨w.heap.size, 0, none⟩) 3 3)) (w.alloc (.cells #[.int .i64 2, .int .i64 2, .int .i64 2] 2))) := ints_new w [2, 2, 2]
    go_enter Tryd.func78, Tryd.ntmps78
    go_wp2_with fail
    refine bodyPost_ret (v := .slice (some ⟨w.heap.size, 0, none⟩) 3 3) ?_ rfl HO.out
    simp [results, Tryd.results78, go_sem]
  cases h6 : (s.toList == [115, 104, 97, 114, 101])
  rotate_left
  · have hF : callT s = [2, 2, 3] := by unfold callT; rw [h0, h1, h2, h3, h4, h5, h6, if_neg (by simp), if_neg (by simp), if_neg (by simp), if_neg (by simp), if_neg (by simp), if_neg (by simp), if_pos rfl]
    rw [hF]
    clear hF
    have HO : Hid (IntsOut w [2, 2, 3] (.returned (.slice (some ⟨w.heap.size, 0, none⟩) 3 3)) (w.alloc (.cells #[.int .i64 2, .int .i64 2, .int .i64 3] 2))) := ints_new w [2, 2, 3]
    go_enter Tryd.func78, Tryd.ntmps78
    go_wp2_with fail
    refine bodyPost_ret (v := .slice (some ⟨w.heap.size, 0, none⟩) 3 3) ?_ rfl HO.out
    simp [results, Tryd.results78, go_sem]
  have hF : callT s = [] := by unfold callT; rw [h0, h1, h2, h3, h4, h5, h6, if_neg (by simp), if_neg (by simp), if_neg (by simp), if_neg (by simp), if_neg (by simp), if_neg (by simp), if_neg (by simp)]
  rw [hF]
  clear hF
  go_enter Tryd.func78, Tryd.ntmps78
  go_wp2_with fail
  refine bodyPost_ret (v := .slice none 0 0) ?_ rfl (ints_nil w)
  simp [results, Tryd.results78, go_sem]
set_option maxRecDepth 100000 in
set_option maxHeartbeats 4000000 in
theorem eq_ints (a a' : Option Addr) (n cap cap' : Nat) (F : Nat → Value) (T : Nat → Int) (hF : ∀ j, j < n → F j = .int .i64 (T j)) (hn : n ≤ 1048576) (w : World) (h : OwnR w a n 1 F) (h' : OwnR w a' n 1 F) :
    Calls Tryd.prog 21 #[.slice a n cap, .slice a' n cap'] w fun e w' => e = .returned (.bool true) ∧ Below w.heap.size w w' := by
  have HR : Hid (OwnR w a n 1 F) := h
  have HR' : Hid (OwnR w a' n 1 F) := h'
  have HF : Hid (∀ j, j < n → F j = .int .i64 (T j)) := hF
  clear h h' hF
  have hnn : ((n : Int) != (n : Int)) = false := by simp
  have hxx : ∀ x : Int, (x != x) = false := fun x => by simp
  go_enter Tryd.func21, Tryd.ntmps21
  go_wp2_with fail
  go_loopw [5] (fun i wr => ∃ k : Nat, i = .int .i64 k ∧ k ≤ n ∧ Below w.heap.size w wr) (fun i _ => n - (intOf i).toNat)
  case atStart => exact ⟨0, rfl, by omega, Below.refl _ _⟩
  case round =>
    obtain ⟨k, rfl, hk, hb⟩ := hrel
    have HB : Hid (Below w.heap.size w wr) := hb
    have hsr := hb.size
    clear hb
    by_cases hkn : k < n
    · have q0 : decide (k < n) = true := by simpa using hkn
      have q1 : decide ((k : Int) < (n : Int)) = true := by simpa using hkn
      rcases HR.out with h0 | ⟨g, rfl, hO⟩
      · omega
      rcases HR'.out with h0 | ⟨g', rfl, hO'⟩
      · omega
      rw [Nat.mul_one] at hO hO'
      have c0 := hO.2.1 k hkn
      have d0 := hO'.2.1 k hkn
      rw [HF.out k hkn] at c0 d0
      have a0 := (HB.out.cell (p := ⟨g, _, none⟩) hO.1).trans c0
      have b0 := (HB.out.cell (p := ⟨g', _, none⟩) hO'.1).trans d0
      have hg := hO.1
      have hg' := hO'.1
      clear hO hO' c0 d0
      generalize T k = x0 at *
      have hgr : g < wr.heap.size := by omega
      have hgr' : g' < wr.heap.size := by omega
      go_upto_region 6 with fail
      go_region_held3 (fun W => W.cell? ⟨g, k, none⟩ = some (.int .i64 x0) ∧ W.cell? ⟨g', k, none⟩ = some (.int .i64 x0)) (go_keep) (fail)
      have HB2 : Hid (Below w.heap.size w wr.drew) := HB.out.drew
      go_wp2
      go_roundw
      case rel => exact ⟨k + 1, by go_num, by omega, HB2.out⟩
      case measure => simp [intOf]; omega
    · have q0 : decide (k < n) = false := by simpa using hkn
      have q1 : decide ((k : Int) < (n : Int)) = false := by simpa using hkn
      go_wp2_with fail
      go_ret
      exact ⟨rfl, HB.out⟩
/-- What marked numbers' cells read. -/
def mkI (k0 : Nat) (j : Nat) : Value := .int .i64 ((k0 + j : Nat) : Int)
set_option maxRecDepth 100000 in
set_option maxHeartbeats 4000000 in
theorem mark_ints (a : Option Addr) (n cap : Nat) (F : Nat → Value) (hn : n ≤ 1048576) (k0 : Nat) (hk2 : k0 ≤ 549755813888) (w : World) (h : OwnR w a n 1 F) :
    Calls Tryd.prog 23 #[.slice a n cap, .int .i64 (k0 : Int)] w fun e w' => e = .returned (.int .i64 ((k0 + n : Nat) : Int)) ∧ OwnR w' a n 1 (mkI k0) ∧ w.grownBy w' (a.map Addr.block) := by
  rcases h with h0 | ⟨g, rfl, hO⟩
  · subst h0
    go_enter Tryd.func23, Tryd.ntmps23
    go_wp2_with fail
    refine wp_loop_rounds 1 ?_
    rw [rounds_succ]
    go_wp2
    go_ret
    exact ⟨ret_int (by omega), Or.inl rfl, World.grownBy.refl _ _⟩
  rw [Nat.mul_one] at hO
  have HO : Hid (Own w g n F) := hO
  clear hO
  go_enter Tryd.func23, Tryd.ntmps23
  go_wp2_with fail
  go_loopw [1, 5] (fun x i wr => ∃ I K : Nat, x = .int .i64 (K : Int) ∧ i = .int .i64 (I : Int) ∧ I ≤ n ∧ K = k0 + I ∧ Hid (Own wr g n (fun j => if j < I then mkI k0 j else F j)) ∧ Hid (w.grownBy wr (some g))) (fun _ i _ => n - (intOf i).toNat)
  case atStart => exact ⟨0, k0, rfl, rfl, by omega, by omega, HO.out.congr (fun j _ => by rw [if_neg (by omega)]), World.grownBy.refl _ _⟩
  case round =>
    obtain ⟨I, K, rfl, rfl, hI, hK, HOr, HG⟩ := hrel
    by_cases hin : I < n
    · have p0 : decide (I < n) = true := by simpa using hin
      have p1 : decide ((I : Int) < (n : Int)) = true := by simpa using hin
      have HE : Hid (mkI k0 I = .int .i64 (K : Int)) := by rw [hK]; rfl
      have hKb : K ≤ 1099511627000 := by omega
      have HK : Hid (K = k0 + I) := hK
      clear hK
      obtain ⟨y0, hc0⟩ : ∃ y, wr.cell? ⟨g, I, none⟩ = some y := ⟨_, HOr.out.2.1 I hin⟩
      have hf0 := HOr.out.2.2 I
      have HO1 : Hid (Own (wr.setCell ⟨g, I, none⟩ (.int .i64 (K : Int))) g n (fun j => if j < I + 1 then mkI k0 j else F j)) := (HOr.out.set hin (.int .i64 (K : Int))).congr (fun j _ => by
        by_cases e : j = I
        · subst e; rw [if_pos rfl, if_pos (by omega), HE.out]
        · rw [if_neg e]
          by_cases e2 : j < I
          · rw [if_pos e2, if_pos (by omega)]
          · rw [if_neg e2, if_neg (by omega)])
      have HG0 : Hid (w.grownBy (wr.setCell ⟨g, I, none⟩ (.int .i64 (K : Int))) (some g)) := setGrown HG.out
      clear HOr HG HE
      go_wp2_with fail
      go_roundw
      case rel => exact ⟨I + 1, K + 1, by go_num, by go_num, by omega, by have := HK.out; omega, HO1, HG0⟩
      case measure => simp [intOf]; omega
    · have p0 : decide (I < n) = false := by simpa using hin
      have p1 : decide ((I : Int) < (n : Int)) = false := by simpa using hin
      obtain rfl : I = n := by omega
      go_wp2_with fail
      go_ret
      exact ⟨ret_int (by omega), Or.inr ⟨g, rfl, by rw [Nat.mul_one]; exact HOr.out.congr (fun j hj => by rw [if_pos hj])⟩, HG.out⟩
set_option maxRecDepth 100000 in
set_option maxHeartbeats 4000000 in
theorem held_ints (a : Option Addr) (n cap : Nat) (hn : n ≤ 1048576) (k0 : Nat) (hk2 : k0 ≤ 549755813888) (w : World) (h : OwnR w a n 1 (mkI k0)) :
    Calls Tryd.prog 24 #[.slice a n cap, .int .i64 (k0 : Int)] w fun e w' => e = .returned (.int .i64 ((k0 + n : Nat) : Int)) ∧ Below w.heap.size w w' := by
  rcases h with h0 | ⟨g, rfl, hO⟩
  · subst h0
    go_enter Tryd.func24, Tryd.ntmps24
    go_wp2_with fail
    refine wp_loop_rounds 1 ?_
    rw [rounds_succ]
    go_wp2
    go_ret
    exact ⟨ret_int (by omega), Below.refl _ _⟩
  rw [Nat.mul_one] at hO
  have HO : Hid (Own w g n (mkI k0)) := hO
  clear hO
  go_enter Tryd.func24, Tryd.ntmps24
  go_wp2_with fail
  go_loopw [1, 5] (fun x i wr => ∃ I K : Nat, x = .int .i64 (K : Int) ∧ i = .int .i64 (I : Int) ∧ I ≤ n ∧ K = k0 + I ∧ Hid (Below w.heap.size w wr)) (fun _ i _ => n - (intOf i).toNat)
  case atStart => exact ⟨0, k0, rfl, rfl, by omega, by omega, Below.refl _ _⟩
  case round =>
    obtain ⟨I, K, rfl, rfl, hI, hK, HB⟩ := hrel
    by_cases hin : I < n
    · have p0 : decide (I < n) = true := by simpa using hin
      have p1 : decide ((I : Int) < (n : Int)) = true := by simpa using hin
      have HE : Hid (mkI k0 I = .int .i64 (K : Int)) := by rw [hK]; rfl
      have hKb : K ≤ 1099511627000 := by omega
      have HK : Hid (K = k0 + I) := hK
      clear hK
      have hxx : ∀ x : Int, (x != x) = false := fun x => by simp
      have hO := HO.out.below HB.out
      have b0 : wr.cell? ⟨g, I, none⟩ = some (.int .i64 (K : Int)) := (hO.2.1 _ hin).trans (by rw [HE.out])
      have hgr : g < wr.heap.size := hO.1
      clear hO HE
      go_wp2_with fail
      go_roundw
      case rel => exact ⟨I + 1, K + 1, by go_num, by go_num, by omega, by have := HK.out; omega, HB⟩
      case measure => simp [intOf]; omega
    · have p0 : decide (I < n) = false := by simpa using hin
      have p1 : decide ((I : Int) < (n : Int)) = false := by simpa using hin
      obtain rfl : I = n := by omega
      go_wp2_with fail
      go_ret
      exact ⟨ret_int (by omega), HB.out⟩
end Go.Proofs.YtkhjmjlmbeealaaDoor
