/- The types of functions: lists of whole numbers, and what the calls answer. -/
import Derived.Test.YtnefcldjigndgaaGreatDoorTxs
import Derived.Deep.RegionHeld3
namespace Go.Proofs.YtnefcldjigndgaaGreatDoor
open Go.RowKit
open Go.Proofs.YtnefcldjigndgaaGreatDoor.Draw

/-- Cells of a list of whole numbers. -/
def intF (l : List Int) (j : Nat) : Value := .int .i64 (l.getD j 0)
theorem intF_cell {l : List Int} {j : Nat} (h : j < l.length) : ((l.map fun z => Value.int .i64 z).toArray)[j]? = some (intF l j) := by
  rw [List.getElem?_toArray, List.getElem?_map, List.getElem?_eq_getElem h]
  simp [intF, List.getD_eq_getElem?_getD, List.getElem?_eq_getElem h]
theorem own_ints (w : World) (l : List Int) (t : TypeId) : OwnR (w.alloc (.cells (l.map fun z => Value.int .i64 z).toArray t)) (some ⟨w.heap.size, 0, none⟩) l.length 1 (intF l) :=
  Or.inr ⟨_, rfl, by simp, fun j hj => by rw [cnew' rfl, intF_cell (by omega)], fun j => fnew' rfl j⟩
def callT (s : ByteArray) : List Int := if (s.toList == [105, 110, 116, 101, 114, 101, 115, 116]) = true then [2, 2, 3, 4, 4] else if (s.toList == [105, 110, 115, 116, 97, 108, 109, 101, 110, 116]) = true then [2, 2, 3, 1, 4] else if (s.toList == [108, 97, 116, 101, 114]) = true then [4, 4, 1] else if (s.toList == [100, 97, 121, 115]) = true then [1, 4, 4] else if (s.toList == [108, 101, 97, 115, 116]) = true then [2, 2, 2] else if (s.toList == [109, 111, 115, 116]) = true then [2, 2, 2] else if (s.toList == [115, 104, 97, 114, 101]) = true then [2, 2, 3] else []
theorem callT_len (s : ByteArray) : (callT s).length ≤ 5 := by
  unfold callT
  repeat' split
  all_goals simp
/-- What is handed out: a list of one's own. -/
def IntsOut (w : World) (l : List Int) (e : Ending) (w' : World) : Prop := ∃ a cap, e = .returned (.slice a l.length cap) ∧ OwnR w' a l.length 1 (intF l) ∧ (∀ k, a.map Addr.block = some k → w.heap.size ≤ k ∧ k < w'.heap.size) ∧ Below w.heap.size w w'
theorem ints_new (w : World) (l : List Int) : IntsOut w l (.returned (.slice (some ⟨w.heap.size, 0, none⟩) l.length l.length)) (w.alloc (.cells (l.map fun z => Value.int .i64 z).toArray 2)) :=
  ⟨_, _, rfl, own_ints w l 2, fun k e => by simp at e; subst e; simp, (Below.refl _ _).alloc (Nat.le_refl _) _⟩
theorem ints_nil (w : World) : IntsOut w [] (.returned (.slice none 0 0)) w := ⟨none, 0, rfl, Or.inl rfl, (fun k e => by simp at e), Below.refl _ _⟩
set_option maxRecDepth 100000 in
set_option maxHeartbeats 8000000 in
theorem spec_callT (s : ByteArray) (w : World) :
    Calls Tryz.prog 9 #[.string s] w fun e w' => IntsOut w (callT s) e w' := by
  cases h0 : (s.toList == [105, 110, 116, 101, 114, 101, 115, 116])
  rotate_left
  · have hF : callT s = [2, 2, 3, 4, 4] := by unfold callT; rw [h0, if_pos rfl]
    rw [hF]
    clear hF
    have HO : Hid (IntsOut w [2, 2, 3, 4, 4] (.returned (.slice (some ⟨w.heap.size, 0, none⟩) 5 5)) (w.alloc (.cells #[.int .i64 2, .int .i64 2, .int .i64 3, .int .i64 4, .int .i64 4] 2))) := ints_new w [2, 2, 3, 4, 4]
    go_enter Tryz.func9, Tryz.ntmps9
    go_wp2_with fail
    refine bodyPost_ret (v := .slice (some ⟨w.heap.size, 0, none⟩) 5 5) ?_ rfl HO.out
    simp [results, Tryz.results9, go_sem]
  cases h1 : (s.toList == [105, 110, 115, 116, 97, 108, 109, 101, 110, 116])
  rotate_left
  · have hF : callT s = [2, 2, 3, 1, 4] := by unfold callT; rw [h0, h1, if_neg (by simp), if_pos rfl]
    rw [hF]
    clear hF
    have HO : Hid (IntsOut w [2, 2, 3, 1, 4] (.returned (.slice (some ⟨w.heap.size, 0, none⟩) 5 5)) (w.alloc (.cells #[.int .i64 2, .int .i64 2, .int .i64 3, .int .i64 1, .int .i64 4] 2))) := ints_new w [2, 2, 3, 1, 4]
    go_enter Tryz.func9, Tryz.ntmps9
    go_wp2_with fail
    refine bodyPost_ret (v := .slice (some ⟨w.heap.size, 0, none⟩) 5 5) ?_ rfl HO.out
    simp [results, Tryz.results9, go_sem]
  cases h2 : (s.toList == [108, 97, 116, 101, 114])
  rotate_left
  · have hF : callT s = [4, 4, 1] := by unfold callT; rw [h0, h1, h2, if_neg (by simp), if_neg (by simp), if_pos rfl]
    rw [hF]
    clear hF
    have HO : Hid (IntsOut w [4, 4, 1] (.returned (.slice (some ⟨w.heap.size, 0, none⟩) 3 3)) (w.alloc (.cells #[.int .i64 4, .int .i64 4, .int .i64 1] 2))) := ints_new w [4, 4, 1]
    go_enter Tryz.func9, Tryz.ntmps9
    go_wp2_with fail
    refine bodyPost_ret (v := .slice (some ⟨w.heap.size, 0, none⟩) 3 3) ?_ rfl HO.out
    simp [results, Tryz.results9, go_sem]
  cases h3 : (s.toList == [100, 97, 121, 115])
  rotate_left
  · have hF : callT s = [1, 4, 4] := by unfold callT; rw [h0, h1, h2, h3, if_neg (by simp), if_neg (by simp), if_neg (by simp), if_pos rfl]
    rw [hF]
    clear hF
    have HO : Hid (IntsOut w [1, 4, 4] (.returned (.slice (some ⟨w.heap.size, 0, none⟩) 3 3)) (w.alloc (.cells #[.int .i64 1, .int .i64 4, .int .i64 4] 2))) := ints_new w [1, 4, 4]
    go_enter Tryz.func9, Tryz.ntmps9
    go_wp2_with fail
    refine bodyPost_ret (v := .slice (some ⟨w.heap.size, 0, none⟩) 3 3) ?_ rfl HO.out
    simp [results, Tryz.results9, go_sem]
  cases h4 : (s.toList == [108, 101, 97, 115, 116])
  rotate_left
  · have hF : callT s = [2, 2, 2] := by unfold callT; rw [h0, h1, h2, h3, h4, if_neg (by simp), if_neg (by simp), if_neg (by simp), if_neg (by simp), if_pos rfl]
    rw [hF]
    clear hF
    have HO : Hid (IntsOut w [2, 2, 2] (.returned (.slice (some ⟨w.heap.size, 0, none⟩) 3 3)) (w.alloc (.cells #[.int .i64 2, .int .i64 2, .int .i64 2] 2))) := ints_new w [2, 2, 2]
    go_enter Tryz.func9, Tryz.ntmps9
    go_wp2_with fail
    refine bodyPost_ret (v := .slice (some ⟨w.heap.size, 0, none⟩) 3 3) ?_ rfl HO.out
    simp [results, Tryz.results9, go_sem]
  cases h5 : (s.toList == [109, 111, 115, 116])
  rotate_left
  · have hF : callT s = [2, 2, 2] := by unfold callT; rw [h0, h1, h2, h3, h4, h5, if_neg (by simp), if_neg (by simp), if_neg (by simp), if_neg (by simp), if_neg (by simp), if_pos rfl]
    rw [hF]
    clear hF
    have HO : Hid (IntsOut w [2, 2, 2] (.returned (.slice (some ⟨w.heap.size, 0, none⟩) 3 3)) (w.alloc (.cells #[.int .i64 2, .int .i64 2, .int .i64 2] 2))) := ints_new w [2, 2, 2]
    go_enter Tryz.func9, Tryz.ntmps9
    go_wp2_with fail
    refine bodyPost_ret (v := .slice (some ⟨w.heap.size, 0, none⟩) 3 3) ?_ rfl HO.out
    simp [results, Tryz.results9, go_sem]
  cases h6 : (s.toList == [115, 104, 97, 114, 101])
  rotate_left
  · have hF : callT s = [2, 2, 3] := by unfold callT; rw [h0, h1, h2, h3, h4, h5, h6, if_neg (by simp), if_neg (by simp), if_neg (by simp), if_neg (by simp), if_neg (by simp), if_neg (by simp), if_pos rfl]
    rw [hF]
    clear hF
    have HO : Hid (IntsOut w [2, 2, 3] (.returned (.slice (some ⟨w.heap.size, 0, none⟩) 3 3)) (w.alloc (.cells #[.int .i64 2, .int .i64 2, .int .i64 3] 2))) := ints_new w [2, 2, 3]
    go_enter Tryz.func9, Tryz.ntmps9
    go_wp2_with fail
    refine bodyPost_ret (v := .slice (some ⟨w.heap.size, 0, none⟩) 3 3) ?_ rfl HO.out
    simp [results, Tryz.results9, go_sem]
  have hF : callT s = [] := by unfold callT; rw [h0, h1, h2, h3, h4, h5, h6, if_neg (by simp), if_neg (by simp), if_neg (by simp), if_neg (by simp), if_neg (by simp), if_neg (by simp), if_neg (by simp)]
  rw [hF]
  clear hF
  go_enter Tryz.func9, Tryz.ntmps9
  go_wp2_with fail
  refine bodyPost_ret (v := .slice (some ⟨w.heap.size, 0, none⟩) 0 0) ?_ rfl (ints_new w [])
  simp [results, Tryz.results9, go_sem]
set_option maxRecDepth 100000 in
set_option maxHeartbeats 8000000 in
theorem impl_callT (s : ByteArray) (w : World) :
    Calls Tryz.prog 36 #[.string s] w fun e w' => IntsOut w (callT s) e w' := by
  cases h0 : (s.toList == [105, 110, 116, 101, 114, 101, 115, 116])
  rotate_left
  · have hF : callT s = [2, 2, 3, 4, 4] := by unfold callT; rw [h0, if_pos rfl]
    rw [hF]
    clear hF
    have HO : Hid (IntsOut w [2, 2, 3, 4, 4] (.returned (.slice (some ⟨w.heap.size, 0, none⟩) 5 5)) (w.alloc (.cells #[.int .i64 2, .int .i64 2, .int .i64 3, .int .i64 4, .int .i64 4] 2))) := ints_new w [2, 2, 3, 4, 4]
    go_enter Tryz.func36, Tryz.ntmps36
    go_wp2_with fail
    refine bodyPost_ret (v := .slice (some ⟨w.heap.size, 0, none⟩) 5 5) ?_ rfl HO.out
    simp [results, Tryz.results36, go_sem]
  cases h1 : (s.toList == [105, 110, 115, 116, 97, 108, 109, 101, 110, 116])
  rotate_left
  · have hF : callT s = [2, 2, 3, 1, 4] := by unfold callT; rw [h0, h1, if_neg (by simp), if_pos rfl]
    rw [hF]
    clear hF
    have HO : Hid (IntsOut w [2, 2, 3, 1, 4] (.returned (.slice (some ⟨w.heap.size, 0, none⟩) 5 5)) (w.alloc (.cells #[.int .i64 2, .int .i64 2, .int .i64 3, .int .i64 1, .int .i64 4] 2))) := ints_new w [2, 2, 3, 1, 4]
    go_enter Tryz.func36, Tryz.ntmps36
    go_wp2_with fail
    refine bodyPost_ret (v := .slice (some ⟨w.heap.size, 0, none⟩) 5 5) ?_ rfl HO.out
    simp [results, Tryz.results36, go_sem]
  cases h2 : (s.toList == [108, 97, 116, 101, 114])
  rotate_left
  · have hF : callT s = [4, 4, 1] := by unfold callT; rw [h0, h1, h2, if_neg (by simp), if_neg (by simp), if_pos rfl]
    rw [hF]
    clear hF
    have HO : Hid (IntsOut w [4, 4, 1] (.returned (.slice (some ⟨w.heap.size, 0, none⟩) 3 3)) (w.alloc (.cells #[.int .i64 4, .int .i64 4, .int .i64 1] 2))) := ints_new w [4, 4, 1]
    go_enter Tryz.func36, Tryz.ntmps36
    go_wp2_with fail
    refine bodyPost_ret (v := .slice (some ⟨w.heap.size, 0, none⟩) 3 3) ?_ rfl HO.out
    simp [results, Tryz.results36, go_sem]
  cases h3 : (s.toList == [100, 97, 121, 115])
  rotate_left
  · have hF : callT s = [1, 4, 4] := by unfold callT; rw [h0, h1, h2, h3, if_neg (by simp), if_neg (by simp), if_neg (by simp), if_pos rfl]
    rw [hF]
    clear hF
    have HO : Hid (IntsOut w [1, 4, 4] (.returned (.slice (some ⟨w.heap.size, 0, none⟩) 3 3)) (w.alloc (.cells #[.int .i64 1, .int .i64 4, .int .i64 4] 2))) := ints_new w [1, 4, 4]
    go_enter Tryz.func36, Tryz.ntmps36
    go_wp2_with fail
    refine bodyPost_ret (v := .slice (some ⟨w.heap.size, 0, none⟩) 3 3) ?_ rfl HO.out
    simp [results, Tryz.results36, go_sem]
  cases h4 : (s.toList == [108, 101, 97, 115, 116])
  rotate_left
  · have hF : callT s = [2, 2, 2] := by unfold callT; rw [h0, h1, h2, h3, h4, if_neg (by simp), if_neg (by simp), if_neg (by simp), if_neg (by simp), if_pos rfl]
    rw [hF]
    clear hF
    have HO : Hid (IntsOut w [2, 2, 2] (.returned (.slice (some ⟨w.heap.size, 0, none⟩) 3 3)) (w.alloc (.cells #[.int .i64 2, .int .i64 2, .int .i64 2] 2))) := ints_new w [2, 2, 2]
    go_enter Tryz.func36, Tryz.ntmps36
    go_wp2_with fail
    refine bodyPost_ret (v := .slice (some ⟨w.heap.size, 0, none⟩) 3 3) ?_ rfl HO.out
    simp [results, Tryz.results36, go_sem]
  cases h5 : (s.toList == [109, 111, 115, 116])
  rotate_left
  · have hF : callT s = [2, 2, 2] := by unfold callT; rw [h0, h1, h2, h3, h4, h5, if_neg (by simp), if_neg (by simp), if_neg (by simp), if_neg (by simp), if_neg (by simp), if_pos rfl]
    rw [hF]
    clear hF
    have HO : Hid (IntsOut w [2, 2, 2] (.returned (.slice (some ⟨w.heap.size, 0, none⟩) 3 3)) (w.alloc (.cells #[.int .i64 2, .int .i64 2, .int .i64 2] 2))) := ints_new w [2, 2, 2]
    go_enter Tryz.func36, Tryz.ntmps36
    go_wp2_with fail
    refine bodyPost_ret (v := .slice (some ⟨w.heap.size, 0, none⟩) 3 3) ?_ rfl HO.out
    simp [results, Tryz.results36, go_sem]
  cases h6 : (s.toList == [115, 104, 97, 114, 101])
  rotate_left
  · have hF : callT s = [2, 2, 3] := by unfold callT; rw [h0, h1, h2, h3, h4, h5, h6, if_neg (by simp), if_neg (by simp), if_neg (by simp), if_neg (by simp), if_neg (by simp), if_neg (by simp), if_pos rfl]
    rw [hF]
    clear hF
    have HO : Hid (IntsOut w [2, 2, 3] (.returned (.slice (some ⟨w.heap.size, 0, none⟩) 3 3)) (w.alloc (.cells #[.int .i64 2, .int .i64 2, .int .i64 3] 2))) := ints_new w [2, 2, 3]
    go_enter Tryz.func36, Tryz.ntmps36
    go_wp2_with fail
    refine bodyPost_ret (v := .slice (some ⟨w.heap.size, 0, none⟩) 3 3) ?_ rfl HO.out
    simp [results, Tryz.results36, go_sem]
  have hF : callT s = [] := by unfold callT; rw [h0, h1, h2, h3, h4, h5, h6, if_neg (by simp), if_neg (by simp), if_neg (by simp), if_neg (by simp), if_neg (by simp), if_neg (by simp), if_neg (by simp)]
  rw [hF]
  clear hF
  go_enter Tryz.func36, Tryz.ntmps36
  go_wp2_with fail
  refine bodyPost_ret (v := .slice none 0 0) ?_ rfl (ints_nil w)
  simp [results, Tryz.results36, go_sem]
set_option maxRecDepth 100000 in
set_option maxHeartbeats 4000000 in
theorem eq_ints (a a' : Option Addr) (n cap cap' : Nat) (F : Nat → Value) (T : Nat → Int) (hF : ∀ j, j < n → F j = .int .i64 (T j)) (hn : n ≤ 1048576) (w : World) (h : OwnR w a n 1 F) (h' : OwnR w a' n 1 F) :
    Calls Tryz.prog 8 #[.slice a n cap, .slice a' n cap'] w fun e w' => e = .returned (.bool true) ∧ Below w.heap.size w w' := by
  have HR : Hid (OwnR w a n 1 F) := h
  have HR' : Hid (OwnR w a' n 1 F) := h'
  have HF : Hid (∀ j, j < n → F j = .int .i64 (T j)) := hF
  clear h h' hF
  have hnn : ((n : Int) != (n : Int)) = false := by simp
  have hxx : ∀ x : Int, (x != x) = false := fun x => by simp
  go_enter Tryz.func8, Tryz.ntmps8
  go_wp2_with fail
  go_loopw [5] (fun i wr => ∃ k : Nat, i = .int .i64 k ∧ k ≤ n ∧ Below w.heap.size w wr) (fun i _ => n - (intOf i).toNat)
  case atStart => exact ⟨0, rfl, by omega, Below.refl _ _⟩
  case round =>
    obtain ⟨k, rfl, hk, hb⟩ := hrel
    have HB : Hid (Below w.heap.size w wr) := hb
    have hsr := hb.size
    clear hb
    by_cases hkn : k < n
    · have q0 : decide (k < n) = true := by simpa using hkn
      have q1 : decide ((k : Int) < (n : Int)) = true := by simpa using hkn
      rcases HR.out with h0 | ⟨g, rfl, hO⟩
      · omega
      rcases HR'.out with h0 | ⟨g', rfl, hO'⟩
      · omega
      rw [Nat.mul_one] at hO hO'
      have c0 := hO.2.1 k hkn
      have d0 := hO'.2.1 k hkn
      rw [HF.out k hkn] at c0 d0
      have a0 := (HB.out.cell (p := ⟨g, _, none⟩) hO.1).trans c0
      have b0 := (HB.out.cell (p := ⟨g', _, none⟩) hO'.1).trans d0
      have hg := hO.1
      have hg' := hO'.1
      clear hO hO' c0 d0
      generalize T k = x0 at *
      have hgr : g < wr.heap.size := by omega
      have hgr' : g' < wr.heap.size := by omega
      go_upto_region 6 with fail
      go_region_held3 (fun W => W.cell? ⟨g, k, none⟩ = some (.int .i64 x0) ∧ W.cell? ⟨g', k, none⟩ = some (.int .i64 x0)) (go_keep) (fail)
      have HB2 : Hid (Below w.heap.size w wr.drew) := HB.out.drew
      go_wp2
      go_roundw
      case rel => exact ⟨k + 1, by go_num, by omega, HB2.out⟩
      case measure => simp [intOf]; omega
    · have q0 : decide (k < n) = false := by simpa using hkn
      have q1 : decide ((k : Int) < (n : Int)) = false := by simpa using hkn
      go_wp2_with fail
      go_ret
      exact ⟨rfl, HB.out⟩
/-- What marked numbers' cells read. -/
def mkI (k0 : Nat) (j : Nat) : Value := .int .i64 ((k0 + j : Nat) : Int)
end Go.Proofs.YtnefcldjigndgaaGreatDoor
