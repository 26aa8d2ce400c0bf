/- The types of functions: lists of whole numbers, and what the calls answer. -/
import Derived.Test.YtdbahildcecgbaaDoorTxs
import Derived.Deep.RegionHeld3
namespace Go.Proofs.YtdbahildcecgbaaDoor
open Go.RowKit
open Go.Proofs.YtdbahildcecgbaaDoor.Draw

/-- Cells of a list of whole numbers. -/
def intF (l : List Int) (j : Nat) : Value := .int .i64 (l.getD j 0)
theorem intF_cell {l : List Int} {j : Nat} (h : j < l.length) : ((l.map fun z => Value.int .i64 z).toArray)[j]? = some (intF l j) := by
  rw [List.getElem?_toArray, List.getElem?_map, List.getElem?_eq_getElem h]
  simp [intF, List.getD_eq_getElem?_getD, List.getElem?_eq_getElem h]
theorem own_ints (w : World) (l : List Int) (t : TypeId) : OwnR (w.alloc (.cells (l.map fun z => Value.int .i64 z).toArray t)) (some ⟨w.heap.size, 0, none⟩) l.length 1 (intF l) :=
  Or.inr ⟨_, rfl, by simp, fun j hj => by rw [cnew' rfl, intF_cell (by omega)], fun j => fnew' rfl j⟩
def callT (s : ByteArray) : List Int := if (s.toList == [105, 110, 116, 101, 114, 101, 115, 116]) = true then [2, 2, 3, 4, 4] else if (s.toList == [105, 110, 115, 116, 97, 108, 109, 101, 110, 116]) = true then [2, 2, 3, 1, 4] else if (s.toList == [108, 97, 116, 101, 114]) = true then [4, 4, 1] else if (s.toList == [100, 97, 121, 115]) = true then [1, 4, 4] else if (s.toList == [108, 101, 97, 115, 116]) = true then [2, 2, 2] else if (s.toList == [109, 111, 115, 116]) = true then [2, 2, 2] else if (s.toList == [115, 104, 97, 114, 101]) = true then [2, 2, 3] else []
theorem callT_len (s : ByteArray) : (callT s).length ≤ 5 := by
  unfold callT
  repeat' split
  all_goals simp
/-- What is handed out: a list of one's own. -/
def IntsOut (w : World) (l : List Int) (e : Ending) (w' : World) : Prop := ∃ a cap, e = .returned (.slice a l.length cap) ∧ OwnR w' a l.length 1 (intF l) ∧ (∀ k, a.map Addr.block = some k → w.heap.size ≤ k ∧ k < w'.heap.size) ∧ Below w.heap.size w w'
theorem ints_new (w : World) (l : List Int) : IntsOut w l (.returned (.slice (some ⟨w.heap.size, 0, none⟩) l.length l.length)) (w.alloc (.cells (l.map fun z => Value.int .i64 z).toArray 2)) :=
  ⟨_, _, rfl, own_ints w l 2, fun k e => by simp at e; subst e; simp, (Below.refl _ _).alloc (Nat.le_refl _) _⟩
theorem ints_nil (w : World) : IntsOut w [] (.returned (.slice none 0 0)) w := ⟨none, 0, rfl, Or.inl rfl, (fun k e => by simp at e), Below.refl _ _⟩
set_option maxRecDepth 100000 in
set_option maxHeartbeats 8000000 in
theorem spec_callT (s : ByteArray) (w : World) :
    Calls Tryd.prog 41 #[.string s] w fun e w' => IntsOut w (callT s) e w' := by
  cases h0 : (s.toList == [105, 110, 116, 101, 114, 101, 115, 116])
  rotate_left
  · have hF : callT s = [2, 2, 3, 4, 4] := by unfold callT; rw [h0, if_pos rfl]
    rw [hF]
    clear hF
    have HO : Hid (IntsOut w [2, 2, 3, 4, 4] (.returned (.slice (some ⟨w.heap.size, 0, none⟩) 5 5)) (w.alloc (.cells #[.int .i64 2, .int .i64 2, .int .i64 3, .int .i64 4, .int .i64 4] 2))) := ints_new w [2, 2, 3, 4, 4]
    go_enter Tryd.func41, Tryd.ntmps41
    go_wp2_with fail
    refine bodyPost_ret (v := .slice (some ⟨w.heap.size, 0, none⟩) 5 5) ?_ rfl HO.out
    simp [results, Tryd.results41, go_sem]
  cases h1 : (s.toList == [105, 110, 115, 116, 97, 108, 109, 101, 110, 116])
  rotate_left
  · have hF : callT s = [2, 2, 3, 1, 4] := by unfold callT; rw [h0, h1, if_neg (by simp), if_pos rfl]
    rw [hF]
    clear hF
    have HO : Hid (IntsOut w [2, 2, 3, 1, 4] (.returned (.slice (some ⟨w.heap.size, 0, none⟩) 5 5)) (w.alloc (.cells #[.int .i64 2, .int .i64 2, .int .i64 3, .int .i64 1, .int .i64 4] 2))) := ints_new w [2, 2, 3, 1, 4]
    go_enter Tryd.func41, Tryd.ntmps41
    go_wp2_with fail
    refine bodyPost_ret (v := .slice (some ⟨w.heap.size, 0, none⟩) 5 5) ?_ rfl HO.out
    simp [results, Tryd.results41, go_sem]
  cases h2 : (s.toList == [108, 97, 116, 101, 114])
  rotate_left
  · have hF : callT s = [4, 4, 1] := by unfold callT; rw [h0, h1, h2, if_neg (by simp), if_neg (by simp), if_pos rfl]
    rw [hF]
    clear hF
    have HO : Hid (IntsOut w [4, 4, 1] (.returned (.slice (some ⟨w.heap.size, 0, none⟩) 3 3)) (w.alloc (.cells #[.int .i64 4, .int .i64 4, .int .i64 1] 2))) := ints_new w [4, 4, 1]
    go_enter Tryd.func41, Tryd.ntmps41
    go_wp2_with fail
    refine bodyPost_ret (v := .slice (some ⟨w.heap.size, 0, none⟩) 3 3) ?_ rfl HO.out
    simp [results, Tryd.results41, go_sem]
  cases h3 : (s.toList == [100, 97, 121, 115])
  rotate_left
  · have hF : callT s = [1, 4, 4] := by unfold callT; rw [h0, h1, h2, h3, if_neg (by simp), if_neg (by simp), if_neg (by simp), if_pos rfl]
    rw [hF]
    clear hF
    have HO : Hid (IntsOut w [1, 4, 4] (.returned (.slice (some ⟨w.heap.size, 0, none⟩) 3 3)) (w.alloc (.cells #[.int .i64 1, .int .i64 4, .int .i64 4] 2))) := ints_new w [1, 4, 4]
    go_enter Tryd.func41, Tryd.ntmps41
    go_wp2_with fail
    refine bodyPost_ret (v := .slice (some ⟨w.heap.size, 0, none⟩) 3 3) ?_ rfl HO.out
    simp [results, Tryd.results41, go_sem]
  cases h4 : (s.toList == [108, 101, 97, 115, 116])
  rotate_left
  · have hF : callT s = [2, 2, 2] := by unfold callT; rw [h0, h1, h2, h3, h4, if_neg (by simp), if_neg (by simp), if_neg (by simp), if_neg (by simp), if_pos rfl]
    rw [hF]
    clear hF
    have HO : Hid (IntsOut w [2, 2, 2] (.returned (.slice (some ⟨w.heap.size, 0, none⟩) 3 3)) (w.alloc (.cells #[.int .i64 2, .int .i64 2, .int .i64 2] 2))) := ints_new w [2, 2, 2]
    go_enter Tryd.func41, Tryd.ntmps41
    go_wp2_with fail
    refine bodyPost_ret (v := .slice (some ⟨w.heap.size, 0, none⟩) 3 3) ?_ rfl HO.out
    simp [results, Tryd.results41, go_sem]
  cases h5 : (s.toList == [109, 111, 115, 116])
  rotate_left
  · have hF : callT s = [2, 2, 2] := by unfold callT; rw [h0, h1, h2, h3, h4, h5, if_neg (by simp), if_neg (by simp), if_neg (by simp), if_neg (by simp), if_neg (by simp), if_pos rfl]
    rw [hF]
    clear hF
    have HO : Hid (IntsOut w [2, 2, 2] (.returned (.slice (some ⟨w.heap.size, 0, none⟩) 3 3)) (w.alloc (.cells #[.int .i64 2, .int .i64 2, .int .i64 2] 2))) := ints_new w [2, 2, 2]
    go_enter Tryd.func41, Tryd.ntmps41
    go_wp2_with fail
    refine bodyPost_ret (v := .slice (some ⟨w.heap.size, 0, none⟩) 3 3) ?_ rfl HO.out
    simp [results, Tryd.results41, go_sem]
  cases h6 : (s.toList == [115, 104, 97, 114, 101])
  rotate_left
  · have hF : callT s = [2, 2, 3] := by unfold callT; rw [h0, h1, h2, h3, h4, h5, h6, if_neg (by simp), if_neg (by simp), if_neg (by simp), if_neg (by simp), if_neg (by simp), if_neg (by simp), if_pos rfl]
    rw [hF]
    clear hF
    have HO : Hid (IntsOut w [2, 2, 3] (.returned (.slice (some ⟨w.heap.size, 0, none⟩) 3 3)) (w.alloc (.cells #[.int .i64 2, .int .i64 2, .int .i64 3] 2))) := ints_new w [2, 2, 3]
    go_enter Tryd.func41, Tryd.ntmps41
    go_wp2_with fail
    refine bodyPost_ret (v := .slice (some ⟨w.heap.size, 0, none⟩) 3 3) ?_ rfl HO.out
    simp [results, Tryd.results41, go_sem]
  have hF : callT s = [] := by unfold callT; rw [h0, h1, h2, h3, h4, h5, h6, if_neg (by simp), if_neg (by simp), if_neg (by simp), if_neg (by simp), if_neg (by simp), if_neg (by simp), if_neg (by simp)]
  rw [hF]
  clear hF
  go_enter Tryd.func41, Tryd.ntmps41
  go_wp2_with fail
  refine bodyPost_ret (v := .slice (some ⟨w.heap.size, 0, none⟩) 0 0) ?_ rfl (ints_new w [])
  simp [results, Tryd.results41, go_sem]
set_option maxRecDepth 100000 in
set_option maxHeartbeats 8000000 in
theorem impl_callT (s : ByteArray) (w : World) :
    Calls Tryd.prog 50 #[.string s] w fun e w' => IntsOut w (callT s) e w' := by
  cases h0 : (s.toList == [105, 110, 116, 101, 114, 101, 115, 116])
  rotate_left
  · have hF : callT s = [2, 2, 3, 4, 4] := by unfold callT; rw [h0, if_pos rfl]
    rw [hF]
    clear hF
    have HO : Hid (IntsOut w [2, 2, 3, 4, 4] (.returned (.slice (some ⟨w.heap.size, 0, none⟩) 5 5)) (w.alloc (.cells #[.int .i64 2, .int .i64 2, .int .i64 3, .int .i64 4, .int .i64 4] 2))) := ints_new w [2, 2, 3, 4, 4]
    go_enter Tryd.func50, Tryd.ntmps50
    go_wp2_with fail
    refine bodyPost_ret (v := .slice (some ⟨w.heap.size, 0, none⟩) 5 5) ?_ rfl HO.out
    simp [results, Tryd.results50, go_sem]
  cases h1 : (s.toList == [105, 110, 115, 116, 97, 108, 109, 101, 110, 116])
  rotate_left
  · have hF : callT s = [2, 2, 3, 1, 4] := by unfold callT; rw [h0, h1, if_neg (by simp), if_pos rfl]
    rw [hF]
    clear hF
    have HO : Hid (IntsOut w [2, 2, 3, 1, 4] (.returned (.slice (some ⟨w.heap.size, 0, none⟩) 5 5)) (w.alloc (.cells #[.int .i64 2, .int .i64 2, .int .i64 3, .int .i64 1, .int .i64 4] 2))) := ints_new w [2, 2, 3, 1, 4]
    go_enter Tryd.func50, Tryd.ntmps50
    go_wp2_with fail
    refine bodyPost_ret (v := .slice (some ⟨w.heap.size, 0, none⟩) 5 5) ?_ rfl HO.out
    simp [results, Tryd.results50, go_sem]
  cases h2 : (s.toList == [108, 97, 116, 101, 114])
  rotate_left
  · have hF : callT s = [4, 4, 1] := by unfold callT; rw [h0, h1, h2, if_neg (by simp), if_neg (by simp), if_pos rfl]
    rw [hF]
    clear hF
    have HO : Hid (IntsOut w [4, 4, 1] (.returned (.slice (some ⟨w.heap.size, 0, none⟩) 3 3)) (w.alloc (.cells #[.int .i64 4, .int .i64 4, .int .i64 1] 2))) := ints_new w [4, 4, 1]
    go_enter Tryd.func50, Tryd.ntmps50
    go_wp2_with fail
    refine bodyPost_ret (v := .slice (some ⟨w.heap.size, 0, none⟩) 3 3) ?_ rfl HO.out
    simp [results, Tryd.results50, go_sem]
  cases h3 : (s.toList == [100, 97, 121, 115])
  rotate_left
  · have hF : callT s = [1, 4, 4] := by unfold callT; rw [h0, h1, h2, h3, if_neg (by simp), if_neg (by simp), if_neg (by simp), if_pos rfl]
    rw [hF]
    clear hF
    have HO : Hid (IntsOut w [1, 4, 4] (.returned (.slice (some ⟨w.heap.size, 0, none⟩) 3 3)) (w.alloc (.cells #[.int .i64 1, .int .i64 4, .int .i64 4] 2))) := ints_new w [1, 4, 4]
    go_enter Tryd.func50, Tryd.ntmps50
    go_wp2_with fail
    refine bodyPost_ret (v := .slice (some ⟨w.heap.size, 0, none⟩) 3 3) ?_ rfl HO.out
    simp [results, Tryd.results50, go_sem]
  cases h4 : (s.toList == [108, 101, 97, 115, 116])
  rotate_left
  · have hF : callT s = [2, 2, 2] := by unfold callT; rw [h0, h1, h2, h3, h4, if_neg (by simp), if_neg (by simp), if_neg (by simp), if_neg (by simp), if_pos rfl]
    rw [hF]
    clear hF
    have HO : Hid (IntsOut w [2, 2, 2] (.returned (.slice (some ⟨w.heap.size, 0, none⟩) 3 3)) (w.alloc (.cells #[.int .i64 2, .int .i64 2, .int .i64 2] 2))) := ints_new w [2, 2, 2]
    go_enter Tryd.func50, Tryd.ntmps50
    go_wp2_with fail
    refine bodyPost_ret (v := .slice (some ⟨w.heap.size, 0, none⟩) 3 3) ?_ rfl HO.out
    simp [results, Tryd.results50, go_sem]
  cases h5 : (s.toList == [109, 111, 115, 116])
  rotate_left
  · have hF : callT s = [2, 2, 2] := by unfold callT; rw [h0, h1, h2, h3, h4, h5, if_neg (by simp), if_neg (by simp), if_neg (by simp), if_neg (by simp), if_neg (by simp), if_pos rfl]
    rw [hF]
    clear hF
    have HO : Hid (IntsOut w [2, 2, 2] (.returned (.slice (some ⟨w.heap.size, 0, none⟩) 3 3)) (w.alloc (.cells #[.int .i64 2, .int .i64 2, .int .i64 2] 2))) := ints_new w [2, 2, 2]
    go_enter Tryd.func50, Tryd.ntmps50
    go_wp2_with fail
    refine bodyPost_ret (v := .slice (some ⟨w.heap.size, 0, none⟩) 3 3) ?_ rfl HO.out
    simp [results, Tryd.results50, go_sem]
  cases h6 : (s.toList == [115, 104, 97, 114, 101])
  rotate_left
  · have hF : callT s = [2, 2, 3] := by unfold callT; rw [h0, h1, h2, h3, h4, h5, h6, if_neg (by simp), if_neg (by simp), if_neg (by simp), if_neg (by simp), if_neg (by simp), if_neg (by simp), if_pos rfl]
    rw [hF]
    clear hF
    have HO : Hid (IntsOut w [2, 2, 3] (.returned (.slice (some ⟨w.heap.size, 0, none⟩) 3 3)) (w.alloc (.cells #[.int .i64 2, .int .i64 2, .int .i64 3] 2))) := ints_new w [2, 2, 3]
    go_enter Tryd.func50, Tryd.ntmps50
    go_wp2_with fail
    refine bodyPost_ret (v := .slice (some ⟨w.heap.size, 0, none⟩) 3 3) ?_ rfl HO.out
    simp [results, Tryd.results50, go_sem]
  have hF : callT s = [] := by unfold callT; rw [h0, h1, h2, h3, h4, h5, h6, if_neg (by simp), if_neg (by simp), if_neg (by simp), if_neg (by simp), if_neg (by simp), if_neg (by simp), if_neg (by simp)]
  rw [hF]
  clear hF
  go_enter Tryd.func50, Tryd.ntmps50
  go_wp2_with fail
  refine bodyPost_ret (v := .slice none 0 0) ?_ rfl (ints_nil w)
  simp [results, Tryd.results50, go_sem]
/-- What marked numbers' cells read. -/
def mkI (k0 : Nat) (j : Nat) : Value := .int .i64 ((k0 + j : Nat) : Int)
end Go.Proofs.YtdbahildcecgbaaDoor
