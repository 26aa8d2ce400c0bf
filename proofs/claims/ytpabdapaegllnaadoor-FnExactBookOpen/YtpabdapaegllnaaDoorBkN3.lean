/- slices.Insert of one line, ahead of others, without room: into a new row; and all ways together. -/
import Derived.Test.YtpabdapaegllnaaDoorBkN2
namespace Go.Proofs.YtpabdapaegllnaaDoor
open Go.RowKit Go.Lib
open Go.Proofs.YtpabdapaegllnaaDoor.Draw

/-- What stands in the new row behind both copies. -/
theorem grow_list {α : Type} (cur vs z1 z2 : List α) (i n k : Nat) (hin : i < n) (hv : vs.length = k) (hl : cur.length = n * k) :
    (((cur.take (i * k) ++ z1 ++ z2).take (i * k) ++ vs ++ (cur.take (i * k) ++ z1 ++ z2).drop (i * k + vs.length)).take ((i + 1) * k) ++ cur.drop (i * k) ++ ((cur.take (i * k) ++ z1 ++ z2).take (i * k) ++ vs ++ (cur.take (i * k) ++ z1 ++ z2).drop (i * k + vs.length)).drop ((i + 1) * k + (cur.drop (i * k)).length)).take ((n + 1) * k) = cur.take (i * k) ++ vs ++ cur.drop (i * k) := by
  have m1 : (i + 1) * k = i * k + k := Nat.succ_mul i k
  have m2 : (n + 1) * k = n * k + k := Nat.succ_mul n k
  have m3 : i * k + k ≤ n * k := by rw [← m1]; exact Nat.mul_le_mul_right k (by omega)
  have e1 : (cur.take (i * k) ++ z1 ++ z2).take (i * k) = cur.take (i * k) := by
    rw [List.append_assoc]; exact List.take_left' (by rw [List.length_take]; omega)
  obtain ⟨T, hT⟩ : ∃ T, T = (cur.take (i * k) ++ z1 ++ z2).drop (i * k + vs.length) := ⟨_, rfl⟩
  rw [e1, ← hT, m1, m2]
  have e2 : (cur.take (i * k) ++ vs ++ T).take (i * k + k) = cur.take (i * k) ++ vs := List.take_left' (by simp only [List.length_append, List.length_take]; omega)
  rw [e2]
  exact List.take_left' (by simp only [List.length_append, List.length_take, List.length_drop]; omega)
theorem cells_z : (Value.agg #[.string ⟨#[]⟩, .string ⟨#[]⟩, .int .i64 0]).cells.size = 3 := rfl
set_option maxRecDepth 100000 in
set_option maxHeartbeats 8000000 in
theorem insert_grow (g n c i vb : Nat) (cur : Array Value) (v0 v1 v2 : Value) (w : World) (hn : n ≤ 60) (hin : i < n) (hnc0 : n ≤ c) (hroom : c < n + 1) (hg : w.heap[g]? = some (.cells cur 46 (0, 0))) (hsz : cur.size = c * 3) (hones : ∀ u ∈ cur.toList.take (n * 3), u.oneCell' = true)
    (h1 : v0.oneCell' = true ∧ v1.oneCell' = true ∧ v2.oneCell' = true) (hv : w.heap[vb]? = some (.cells #[v0, v1, v2] 46 (0, 0))) :
    Calls Tryd.prog 78 #[.slice (some ⟨g, 0, none⟩) n c, .int .i64 (i : Int), .slice (some ⟨vb, 0, none⟩) 1 1] w fun e w' => ∃ G R, e = .returned (.slice (some ⟨w.heap.size, 0, none⟩) (n + 1) G) ∧ w.grownBy w' none ∧ w'.heap[w.heap.size]? = some (.cells R 46 (0, 0)) ∧ n + 1 ≤ G ∧ G ≤ maxLen ∧ R.size = G * 3 ∧ R.toList.take ((n + 1) * 3) = (cur.toList.take (n * 3)).take (i * 3) ++ [v0, v1, v2] ++ (cur.toList.take (n * 3)).drop (i * 3) := by
  obtain rfl : c = n := by omega
  obtain ⟨i0, hi, hz0, hz1, hz2⟩ := info_parts infoLn
  have hq : (Tryd.prog.info? 46).map (·.size) = some 3 := by rw [hi]; simp [hz1]
  have hgw : g < w.heap.size := (Array.getElem?_eq_some_iff.1 hg).1
  have hvw : vb < w.heap.size := (Array.getElem?_eq_some_iff.1 hv).1
  have hci : ¬ c = i := by omega
  have hci' : ¬ ((i : Int) = (c : Int)) := by omega
  have hcurl : cur.toList.length = c * 3 := by simpa using hsz
  have hxs : cur.toList.take (c * 3) = cur.toList := List.take_of_length_le (by omega)
  rw [hxs] at hones ⊢
  have hold : (Builtin.firstCells i0.size i (.slice (some ⟨g, 0, none⟩) i c)).run Tryd.prog w.drew = .ok (cur.toList.take (i * 3)).toArray w.drew := by
    rw [hz1]
    exact run_firstCells_some w.drew 3 i ⟨g, 0, none⟩ i c (cur.toList.take (i * 3)) (by rw [List.length_take]; omega) (fun j v hj => by
      rw [add_off, row_cell (w := w.drew) hg, ← Array.getElem?_toList, Nat.zero_add]
      rw [List.getElem?_take] at hj
      split at hj
      · exact hj
      · cases hj)
  have hik : i + (c + 1 - i) = c + 1 := by omega
  have hrz : ∀ ty, (Builtin.append_ #[23, 3] ty #[.slice (some ⟨g, 0, none⟩) i c, .int .i64 ((c : Int) + 1 - (i : Int))]).run Tryd.prog w =
      .ok (.slice (some ⟨w.heap.size, 0, none⟩) (c + 1) (grownCap w (c + 1) c 46)) (w.drew.alloc (.cells ((cur.toList.take (i * 3)).toArray ++ Builtin.zeroCells (Value.agg #[.string ⟨#[]⟩, .string ⟨#[]⟩, .int .i64 0]).cells (c + 1 - i) ++ Builtin.zeroCells (Value.agg #[.string ⟨#[]⟩, .string ⟨#[]⟩, .int .i64 0]).cells (grownCap w (c + 1) c 46 - (c + 1))) 46)) := fun ty => by
    have h := Lib.run_append_grow_zeros w 23 3 ty 46 i0 _ .i64 .i64 Tryd.underlying23 Tryd.underlying3 hi hz0 (some ⟨g, 0, none⟩) i c (cur.toList.take (i * 3)) hold (c + 1 - i) (by omega) (by omega) (by omega) (by omega) (by rw [hz2]; omega) (by rw [hz2, hik]; exact growslice_fits hroom (by omega))
    rw [hik] at h
    rw [show (c : Int) + 1 - (i : Int) = ((c + 1 - i : Nat) : Int) by omega]
    exact h
  obtain ⟨G, hG⟩ : ∃ G, G = grownCap w (c + 1) c 46 := ⟨_, rfl⟩
  have hGn : c + 1 ≤ G := by rw [hG]; exact grownCap_ge w _ _ _
  have hG63 : G ≤ maxLen := by rw [hG]; exact grownCap_le_maxLen w (c + 1) c 46 (by unfold maxLen; omega)
  rw [← hG] at hrz
  obtain ⟨Z1, hZ1⟩ : ∃ Z1, Z1 = Builtin.zeroCells (Value.agg #[.string ⟨#[]⟩, .string ⟨#[]⟩, .int .i64 0]).cells (c + 1 - i) := ⟨_, rfl⟩
  obtain ⟨Z2, hZ2⟩ : ∃ Z2, Z2 = Builtin.zeroCells (Value.agg #[.string ⟨#[]⟩, .string ⟨#[]⟩, .int .i64 0]).cells (G - (c + 1)) := ⟨_, rfl⟩
  have hZ1s : Z1.size = (c + 1 - i) * 3 := by rw [hZ1]; simp [Builtin.zeroCells, Value.cells]
  have hZ2s : Z2.size = (G - (c + 1)) * 3 := by rw [hZ2]; simp [Builtin.zeroCells, Value.cells]
  rw [← hZ1, ← hZ2] at hrz
  have HN : Hid (w.drew.heap.size = w.heap.size) := rfl
  obtain ⟨ROW, hROW⟩ : ∃ ROW : Array Value, ROW = (cur.toList.take (i * 3)).toArray ++ Z1 ++ Z2 := ⟨_, rfl⟩
  rw [← hROW] at hrz
  have hRl : ROW.size = G * 3 := by rw [hROW]; simp only [Array.size_append, List.size_toArray, List.length_take]; omega
  have hROWl : ROW.toList = cur.toList.take (i * 3) ++ Z1.toList ++ Z2.toList := by rw [hROW]; simp
  have hg1 : ∀ W : World, W.heap = w.heap.push (.cells ROW 46 (0, 0)) → W.heap[w.heap.size]? = some (.cells ROW 46 (0, 0)) ∧ W.heap[vb]? = some (.cells #[v0, v1, v2] 46 (0, 0)) ∧ W.heap[g]? = some (.cells cur 46 (0, 0)) := fun W hW => by
    rw [hW]
    exact ⟨by simp, by rw [Array.getElem?_push_lt hvw, ← Array.getElem?_eq_getElem hvw]; exact hv, by rw [Array.getElem?_push_lt hgw, ← Array.getElem?_eq_getElem hgw]; exact hg⟩
  obtain ⟨R1, hR1⟩ : ∃ R1, R1 = ROW.toList.take (i * 3) ++ [v0, v1, v2] ++ ROW.toList.drop (i * 3 + 3) := ⟨_, rfl⟩
  have hROWll : ROW.toList.length = G * 3 := by simpa using hRl
  have hR1l : R1.length = G * 3 := by rw [hR1]; simp only [List.length_append, List.length_take, List.length_drop, List.length_cons, List.length_nil]; omega
  have hcpA : ∀ (W : World), W.heap[w.heap.size]? = some (.cells ROW 46 (0, 0)) → W.heap[vb]? = some (.cells #[v0, v1, v2] 46 (0, 0)) → ∀ ty dc, (Builtin.copy_ #[23, 23] ty #[.slice (some ⟨w.heap.size, i * 3, none⟩) (c + 1 - i) dc, .slice (some ⟨vb, 0, none⟩) 1 1]).run Tryd.prog W = .ok (goInt 1) (W.setRow w.heap.size R1.toArray) := fun W hWg hWv ty dc => by
    have h := run_copy_rowq Tryd.prog W 23 23 ty 46 3 w.heap.size (i * 3) (c + 1 - i) dc ⟨vb, 0, none⟩ 1 1 ROW 46 [v0, v1, v2] Tryd.underlying23 hq hWg (by simp only [Nat.min_def]; split <;> simp <;> omega)
      (fun j v hj => by
        rw [add_off, row_cell hWv, ← Array.getElem?_toList, Nat.zero_add]
        exact hj) (by simp only [List.length_cons, List.length_nil]; omega) (fun u hu => by simp at hu; rcases hu with rfl | rfl | rfl; exact h1.1; exact h1.2.1; exact h1.2.2)
    rw [h, hR1, show Nat.min 1 (c + 1 - i) = 1 by simp only [Nat.min_def]; split <;> omega]
    rfl
  obtain ⟨cs, hcs⟩ : ∃ cs, cs = cur.toList.drop (i * 3) := ⟨_, rfl⟩
  have hcl : cs.length = (c - i) * 3 := by rw [hcs, List.length_drop]; omega
  obtain ⟨R2, hR2⟩ : ∃ R2, R2 = R1.take ((i + 1) * 3) ++ cs ++ R1.drop ((i + 1) * 3 + cs.length) := ⟨_, rfl⟩
  have hR2l : R2.length = G * 3 := by rw [hR2]; simp only [List.length_append, List.length_take, List.length_drop]; omega
  have hcpB : ∀ (W : World), W.heap[w.heap.size]? = some (.cells R1.toArray 46 (0, 0)) → W.heap[g]? = some (.cells cur 46 (0, 0)) → ∀ ty dc sc, (Builtin.copy_ #[23, 23] ty #[.slice (some ⟨w.heap.size, (i + 1) * 3, none⟩) (c - i) dc, .slice (some ⟨g, i * 3, none⟩) (c - i) sc]).run Tryd.prog W = .ok (goInt ((c - i : Nat) : Int)) (W.setRow w.heap.size R2.toArray) := fun W hWg hWv ty dc sc => by
    have h := run_copy_rowq Tryd.prog W 23 23 ty 46 3 w.heap.size ((i + 1) * 3) (c - i) dc ⟨g, i * 3, none⟩ (c - i) sc R1.toArray 46 cs Tryd.underlying23 hq hWg (by rw [hcl]; congr 1; simp only [Nat.min_def]; split <;> omega)
      (fun j v hj => by
        rw [add_off, row_cell hWv, ← Array.getElem?_toList]
        rw [hcs, List.getElem?_drop] at hj
        exact hj) (by simp only [List.size_toArray]; omega) (fun u hu => hones u (by rw [hcs] at hu; exact List.mem_of_mem_drop hu))
    rw [h, hR2, show Nat.min (c - i) (c - i) = c - i by simp only [Nat.min_def]; split <;> omega]
  have HF : Hid (R2.take ((c + 1) * 3) = cur.toList.take (i * 3) ++ [v0, v1, v2] ++ cur.toList.drop (i * 3)) := by
    rw [Hid, hR2, hR1, hcs, hROWl]
    exact grow_list cur.toList [v0, v1, v2] Z1.toList Z2.toList i c 3 hin rfl (by omega)
  obtain ⟨A0, A1, A2⟩ := hg1 ((w.alloc (.cells ROW 46)).drew) rfl
  have HA0 : Hid _ := A0
  have HA1 : Hid _ := A1
  have HB0 : Hid (((w.alloc (.cells ROW 46)).drew.setRow w.heap.size R1.toArray).heap[w.heap.size]? = some (.cells R1.toArray 46 (0, 0))) := setRow_heap _ _ _ _ _ _ A0
  have HB1 : Hid (((w.alloc (.cells ROW 46)).drew.setRow w.heap.size R1.toArray).heap[g]? = some (.cells cur 46 (0, 0))) := (setRow_other _ _ _ _ (by omega)).trans A2
  have hcA := fun ty dc => hcpA ((w.alloc (.cells ROW 46)).drew) A0 A1 ty dc
  have hcB := fun ty dc sc => hcpB (((w.alloc (.cells ROW 46)).drew.setRow w.heap.size R1.toArray).drew) HB0.out HB1.out ty dc sc
  have hGr : w.grownBy (((w.alloc (.cells ROW 46)).drew.setRow w.heap.size R1.toArray).drew.setRow w.heap.size R2.toArray) none := ⟨rfl, rfl, rfl, by simp [World.setRow], fun k hk _ => by
    rw [setRow_other _ _ _ _ (by omega)]
    show ((w.alloc (.cells ROW 46)).drew.setRow w.heap.size R1.toArray).heap[k]? = _
    rw [setRow_other _ _ _ _ (by omega)]
    show (w.heap.push _)[k]? = _
    rw [Array.getElem?_push_lt hk, ← Array.getElem?_eq_getElem hk]⟩
  have HGr : Hid _ := hGr
  have mixed : Tryd.prog.follows Departure.mixedOrders = true := by kernel_rfl
  have hw1 : IntKind.i64.wrap ((i : Int) + 1) = (i : Int) + 1 := by rw [IntKind.wrap_i64]; omega
  have hb1 : (0 : Int) ≤ (i : Int) + 1 := by omega
  have hinn : i ≤ c := by omega
  have htn : ((i : Int) + 1).toNat = i + 1 := by omega
  have hb3 : (i : Int) ≤ (c : Int) := by omega
  have hGi : ¬ G = i := by omega
  have hGi1 : ¬ G = i + 1 := by omega
  have hz3 : (c : Int) < (c : Int) + 1 := by omega
  clear hcpB hgw hvw hold hik hG hZ1 hZ2 hROW hROWl hg1 hR1 hcs hR2 hones h1 hGr A0 A1 A2 hcpA
  go_enter Tryd.func78, Tryd.ntmps78
  go_wp2_with (first
    | (at_builtin; refine Lib.wpList_append_run _ rfl _ _ _ _ rfl _ _ rfl rfl _ _ (hrz _) ?_)
    | (at_builtin; refine wpList_copy_runI _ rfl _ _ 23 23 rfl _ _ rfl rfl (hcA _ _) ?_))
  go_region_law_o (refine step_copy_runI rfl _ _ 23 23 rfl (.slice (some ⟨w.heap.size, (i + 1) * 3, none⟩) (c - i) (G - (i + 1))) (.slice (some ⟨g, i * 3, none⟩) (c - i) (c - i)) (by simp [Act.eval, Act.put]) (by simp [Act.eval, Act.put]) (hcB 3 (G - (i + 1)) (c - i)) ?_)
  go_wp2_with fail
  refine bodyPost_ret (v := .slice (some ⟨w.heap.size, 0, none⟩) (c + 1) G) ?_ rfl ⟨G, R2.toArray, rfl, HGr.out, setRow_heap _ _ _ _ _ _ HB0.out, hGn, hG63, by simpa using hR2l, by simpa using HF.out⟩
  simp [results, Tryd.results78, go_sem]
end Go.Proofs.YtpabdapaegllnaaDoor
