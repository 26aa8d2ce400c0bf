/- slices.Insert of one line, ahead of others: in place, or into a new row. -/
import Derived.Test.YtpabdapaegllnaaDoorBkN
namespace Go.Proofs.YtpabdapaegllnaaDoor
open Go.RowKit Go.Lib
open Go.Proofs.YtpabdapaegllnaaDoor.Draw

theorem row_cell {w : World} {g : Nat} {cur : Array Value} {t : TypeId} (h : w.heap[g]? = some (.cells cur t (0, 0))) (j : Nat) : w.cell? ⟨g, j, none⟩ = cur[j]? := by simp [World.cell?, h]
theorem row_frozen {w : World} {g : Nat} {cur : Array Value} {t : TypeId} (h : w.heap[g]? = some (.cells cur t (0, 0))) (j : Nat) : w.frozen? ⟨g, j, none⟩ = false := by simp [World.frozen?, h]
/-- What stands in the row behind both copies. -/
theorem room_list {α : Type} (cur vs : List α) (i n k : Nat) (hin : i < n) (hv : vs.length = k) (hl : (n + 1) * k ≤ cur.length) :
    ((cur.take ((i + 1) * k) ++ (cur.take (n * k)).drop (i * k) ++ cur.drop ((i + 1) * k + ((cur.take (n * k)).drop (i * k)).length)).take (i * k) ++ vs ++ (cur.take ((i + 1) * k) ++ (cur.take (n * k)).drop (i * k) ++ cur.drop ((i + 1) * k + ((cur.take (n * k)).drop (i * k)).length)).drop (i * k + vs.length)).take ((n + 1) * k) = (cur.take (n * k)).take (i * k) ++ vs ++ (cur.take (n * k)).drop (i * k) := by
  have m1 : (i + 1) * k = i * k + k := Nat.succ_mul i k
  have m2 : (n + 1) * k = n * k + k := Nat.succ_mul n k
  have m3 : i * k + k ≤ n * k := by rw [← m1]; exact Nat.mul_le_mul_right k (by omega)
  obtain ⟨cs, hcs⟩ : ∃ cs, cs = (cur.take (n * k)).drop (i * k) := ⟨_, rfl⟩
  have hcl : cs.length = n * k - i * k := by rw [hcs, List.length_drop, List.length_take]; omega
  rw [← hcs, m1, m2]
  have e1 : (cur.take (i * k + k) ++ cs ++ cur.drop (i * k + k + cs.length)).take (i * k) = (cur.take (n * k)).take (i * k) := by
    rw [List.append_assoc, List.take_append_of_le_length (by rw [List.length_take]; omega), List.take_take, List.take_take, Nat.min_eq_left (by omega), Nat.min_eq_left (by omega)]
  have e2 : (cur.take (i * k + k) ++ cs ++ cur.drop (i * k + k + cs.length)).drop (i * k + vs.length) = cs ++ cur.drop (i * k + k + cs.length) := by
    rw [List.append_assoc, hv]
    exact List.drop_left' (by rw [List.length_take]; omega)
  rw [e1, e2, ← List.append_assoc]
  exact List.take_left' (by simp only [List.length_append, List.length_take]; omega)
theorem size_ln (w : World) : (Go.sizeOf 46).run Tryd.prog w = .ok 3 w := by
  obtain ⟨i0, hi, hz0, hz1, hz2⟩ := info_parts infoLn
  simp [Go.sizeOf, typeInfo, hi, hz1]
theorem apart_ln (g vb : Nat) (cur vcs : Array Value) (w : World) (hg : w.heap[g]? = some (.cells cur 46 (0, 0))) (hc : cur.size ≠ 0) (hv : w.heap[vb]? = some (.cells vcs 46 (0, 0))) (hne : vb ≠ g) (off lb cb : Nat) :
    (callFunc 95 #[.slice (some ⟨vb, 0, none⟩) 1 1, .slice (some ⟨g, off, none⟩) lb cb]).run Tryd.prog w = .ok (.value (.bool false)) w := by
  rw [run_callFunc_extern Tryd.func95 (by kernel_rfl) (by kernel_rfl) (by kernel_rfl) (e := Extern.SlicesOverlaps.overlaps #[23, 23] #[4]) (by kernel_rfl),
    Lib.run_overlaps_apart w 23 4 46 Tryd.underlying23 3 size_ln ⟨vb, 0, none⟩ ⟨g, off, none⟩ 1 1 lb cb hne 46 46 vcs.size cur.size (by simp [World.shape?, hv]) (by simp [World.shape?, hg]) hc (row_frozen hv _) (row_frozen hv _)]
  rfl
set_option maxRecDepth 100000 in
set_option maxHeartbeats 8000000 in
theorem insert_room (g n c i vb : Nat) (cur : Array Value) (v0 v1 v2 : Value) (w : World) (hn : n ≤ 60) (hin : i < n) (hroom : n + 1 ≤ c) (hg : w.heap[g]? = some (.cells cur 46 (0, 0))) (hsz : cur.size = c * 3) (hones : ∀ u ∈ cur.toList.take (n * 3), u.oneCell' = true)
    (h1 : v0.oneCell' = true ∧ v1.oneCell' = true ∧ v2.oneCell' = true) (hv : w.heap[vb]? = some (.cells #[v0, v1, v2] 46 (0, 0))) (hne : vb ≠ g) :
    Calls Tryd.prog 78 #[.slice (some ⟨g, 0, none⟩) n c, .int .i64 (i : Int), .slice (some ⟨vb, 0, none⟩) 1 1] w fun e w' => e = .returned (.slice (some ⟨g, 0, none⟩) (n + 1) c) ∧ ∃ d cur', w' = (w.drewN d).setRow g cur' ∧ cur'.size = c * 3 ∧ cur'.toList.take ((n + 1) * 3) = (cur.toList.take (n * 3)).take (i * 3) ++ [v0, v1, v2] ++ (cur.toList.take (n * 3)).drop (i * 3) := by
  obtain ⟨i0, hi, hz0, hz1, hz2⟩ := info_parts infoLn
  have hq : (Tryd.prog.info? 46).map (·.size) = some 3 := by rw [hi]; simp [hz1]
  have hnc : ¬ n = i := by omega
  have hnc' : ¬ ((i : Int) = (n : Int)) := by omega
  have hci : ¬ c = i := by omega
  have hci1 : ¬ c = i + 1 := by omega
  have hov := fun off lb cb => apart_ln g vb cur #[v0, v1, v2] w hg (by omega) hv hne off lb cb
  have hcurl : cur.toList.length = c * 3 := by simpa using hsz
  obtain ⟨cs, hcs⟩ : ∃ cs, cs = (cur.toList.take (n * 3)).drop (i * 3) := ⟨_, rfl⟩
  have hcl : cs.length = (n - i) * 3 := by rw [hcs, List.length_drop, List.length_take]; omega
  obtain ⟨R1, hR1⟩ : ∃ R1, R1 = cur.toList.take ((i + 1) * 3) ++ cs ++ cur.toList.drop ((i + 1) * 3 + cs.length) := ⟨_, rfl⟩
  have hR1l : R1.length = c * 3 := by rw [hR1]; simp only [List.length_append, List.length_take, List.length_drop]; omega
  have hcp1 : ∀ ty dc sc, (Builtin.copy_ #[23, 23] ty #[.slice (some ⟨g, (i + 1) * 3, none⟩) (n - i) dc, .slice (some ⟨g, i * 3, none⟩) (n + 1 - i) sc]).run Tryd.prog w.drew = .ok (goInt ((n - i : Nat) : Int)) (w.drew.setRow g R1.toArray) := fun ty dc sc => by
    have h := run_copy_rowq Tryd.prog w.drew 23 23 ty 46 3 g ((i + 1) * 3) (n - i) dc ⟨g, i * 3, none⟩ (n + 1 - i) sc cur 46 cs Tryd.underlying23 hq hg (by rw [hcl]; congr 1; simp only [Nat.min_def]; split <;> omega)
      (fun j v hj => by
        rw [add_off, row_cell (w := w.drew) hg, ← Array.getElem?_toList]
        rw [hcs, List.getElem?_drop, List.getElem?_take] at hj
        split at hj
        · exact hj
        · cases hj) (by omega) (fun u hu => hones u (by rw [hcs] at hu; exact List.mem_of_mem_drop hu))
    rw [h, hR1, show Nat.min (n + 1 - i) (n - i) = n - i by simp only [Nat.min_def]; split <;> omega]
  have hcp2 : ∀ (W : World), W.heap[g]? = some (.cells R1.toArray 46 (0, 0)) → W.heap[vb]? = some (.cells #[v0, v1, v2] 46 (0, 0)) → ∀ ty dc, (Builtin.copy_ #[23, 23] ty #[.slice (some ⟨g, i * 3, none⟩) (n + 1 - i) dc, .slice (some ⟨vb, 0, none⟩) 1 1]).run Tryd.prog W = .ok (goInt 1) (W.setRow g (R1.take (i * 3) ++ [v0, v1, v2] ++ R1.drop (i * 3 + 3)).toArray) := fun W hWg hWv ty dc => by
    have h := run_copy_rowq Tryd.prog W 23 23 ty 46 3 g (i * 3) (n + 1 - i) dc ⟨vb, 0, none⟩ 1 1 R1.toArray 46 [v0, v1, v2] Tryd.underlying23 hq hWg (by simp only [Nat.min_def]; split <;> simp <;> omega)
      (fun j v hj => by
        rw [add_off, row_cell hWv, ← Array.getElem?_toList, Nat.zero_add]
        exact hj) (by simp only [List.length_cons, List.length_nil, List.size_toArray]; omega) (fun u hu => by simp at hu; rcases hu with rfl | rfl | rfl; exact h1.1; exact h1.2.1; exact h1.2.2)
    rw [h, show Nat.min 1 (n + 1 - i) = 1 by simp only [Nat.min_def]; split <;> omega]
    rfl
  obtain ⟨R2, hR2⟩ : ∃ R2, R2 = R1.take (i * 3) ++ [v0, v1, v2] ++ R1.drop (i * 3 + 3) := ⟨_, rfl⟩
  rw [← hR2] at hcp2
  have hR2l : R2.length = c * 3 := by rw [hR2]; simp only [List.length_append, List.length_take, List.length_drop, List.length_cons, List.length_nil]; omega
  have HF : Hid (R2.take ((n + 1) * 3) = (cur.toList.take (n * 3)).take (i * 3) ++ [v0, v1, v2] ++ (cur.toList.take (n * 3)).drop (i * 3)) := by
    rw [Hid, hR2, hR1, hcs]
    exact room_list cur.toList [v0, v1, v2] i n 3 hin rfl (by omega)
  have HG1 : Hid ((w.drew.setRow g R1.toArray).heap[g]? = some (.cells R1.toArray 46 (0, 0))) := setRow_heap w.drew g _ _ _ _ hg
  have HV1 : Hid ((w.drew.setRow g R1.toArray).heap[vb]? = some (.cells #[v0, v1, v2] 46 (0, 0))) := (setRow_other w.drew g vb _ hne).trans hv
  have HSS : Hid ((w.drew.setRow g R1.toArray).setRow g R2.toArray = (w.drewN 1).setRow g R2.toArray) := setRow_setRow _ _ _ _
  have HCP2 := hcp2 _ HG1.out HV1.out
  have mixed : Tryd.prog.follows Departure.mixedOrders = true := by kernel_rfl
  have hw1 : IntKind.i64.wrap ((i : Int) + 1) = (i : Int) + 1 := by rw [IntKind.wrap_i64]; omega
  have hb1 : (0 : Int) ≤ (i : Int) + 1 := by omega
  have hinn : i ≤ n := by omega
  have htn : ((i : Int) + 1).toNat = i + 1 := by omega
  have hb3 : (i : Int) ≤ (n : Int) + 1 := by omega
  clear hR1 hR2 hcs hcp2 hones h1
  go_enter Tryd.func78, Tryd.ntmps78
  go_wp2_with (simp only [hov])
  go_region_law_o (refine step_copy_runI rfl _ _ 23 23 rfl _ _ (by simp [Act.eval, Act.put]) (by simp [Act.eval, Act.put]) (hcp1 _ _ _) ?_)
  go_wp2_with (at_builtin; refine wpList_copy_runI _ rfl _ _ 23 23 rfl _ _ rfl rfl (HCP2 _ _) ?_)
  refine bodyPost_ret (v := .slice (some ⟨g, 0, none⟩) (n + 1) c) ?_ rfl ⟨rfl, 1, R2.toArray, HSS.out, by simpa using hR2l, by simpa using HF.out⟩
  simp [results, Tryd.results78, go_sem]
end Go.Proofs.YtpabdapaegllnaaDoor
