/- The due days of a right loan as a slice, of the program (courseOf) and of its model (l04Due): what each call does. -/
import Derived.Test.YtnefcldjigndgaaGreatDoorPlanR
import Derived.Laws.OwnMore
namespace Go.Proofs.YtnefcldjigndgaaGreatDoor
open Go.RowKit

theorem info2 : (Tryz.prog.info? 2).map (fun i => (i.zero, i.size, i.bytes)) = some (some (.int .i64 0), 1, 8) := by kernel_rfl
theorem one_cell2 (w : World) (x : Value) : ∀ j u, [x][j]? = some u → (w.alloc (.cells #[x] 2)).cell? ((⟨w.heap.size, 0, none⟩ : Addr).add j) = some u := by
  intro j u hj
  match j, hj with
  | 0, hj => simp at hj; subst hj; simp [Addr.add]
theorem one_one2 (k : IntKind) (n : Int) : ∀ u ∈ [Value.int k n], u.oneCell' = true := by
  intro u hu; simp at hu; subst hu; rfl

def dueCells (s : Int) (k : Nat) : List Value := (List.range k).map fun j => .int .i64 (dueI s j)
theorem dueCells_succ (s : Int) (k : Nat) : dueCells s (k + 1) = dueCells s k ++ [.int .i64 (dueI s k)] := by
  unfold dueCells; rw [List.range_succ, List.map_append]; rfl
theorem dueCells_at (s : Int) (k j : Nat) (h : j < k) : (dueCells s k)[j]? = some (.int .i64 (dueI s j)) := by
  unfold dueCells; rw [List.getElem?_map, List.getElem?_range h]; rfl

/-- v is a slice of the first n due days (the start is the first of them) of a loan that starts at s. -/
def Due (w : World) (v : Value) (s : Int) (n : Nat) : Prop := ∃ g cap, v = .slice (some ⟨g, 0, none⟩) n cap ∧ g < w.heap.size ∧ ∀ j, j < n → w.cell? ⟨g, j, none⟩ = some (.int .i64 (dueI s j))
theorem Due.below {w w' : World} {v : Value} {s : Int} {n : Nat} (h : Due w v s n) (hb : Below w.heap.size w w') : Due w' v s n := by
  obtain ⟨g, cap, rfl, hg, hc⟩ := h
  exact ⟨g, cap, rfl, Nat.lt_of_lt_of_le hg hb.size, fun j hj => (hb.cell (p := ⟨g, j, none⟩) hg).trans (hc j hj)⟩
theorem due_own {w : World} {B : Nat} {v : Value} {s : Int} {n : Nat} (hn : 0 < n) (h : w.ownsRow B 2 1 v n (dueCells s n)) : Due w v s n := by
  have h' := h
  rcases h with ⟨_, ⟨rfl, h2⟩ | ⟨g, cap, cur, rfl, _, hg, _⟩⟩
  · omega
  · refine ⟨g, cap, rfl, (Array.getElem?_eq_some_iff.1 hg).1, fun j hj => ?_⟩
    rw [h'.cellAt j (by omega)]
    exact dueCells_at s n j hj
/-- A due day more behind an owned row. -/
theorem due_snoc {w w1 wr : World} {B : Nat} {v v' : Value} {s : Int} {k : Nat} {o : Obj} (hb : Below B w wr) (hB : B ≤ w.heap.size) (hown : wr.ownsRow B 2 1 v k (dueCells s k))
    (hown' : w1.ownsRow B 2 1 v' (k + 1) (dueCells s k ++ [.int .i64 (dueI s k)])) (hg : (wr.alloc o).grownBy w1 v.ownBlock) :
    w1.ownsRow B 2 1 v' (k + 1) (dueCells s (k + 1)) ∧ Below B w w1 := by
  have hs := hb.size
  refine ⟨by rw [dueCells_succ]; exact hown', (hb.alloc (by omega) o).grown hg (by simp; omega) (fun k hk => (hown.lt k hk).1)⟩
theorem own_under {w w1 : World} {B : Nat} {e size : Nat} {v : Value} {n : Nat} {xs : List Value} (h : w.ownsRow B e size v n xs) (hb : Below w.heap.size w w1) : w1.ownsRow B e size v n xs := by
  rcases h with ⟨h1, ⟨rfl, h2⟩ | ⟨g, cap, cur, rfl, hg0, hg, hr⟩⟩
  · exact ⟨h1, Or.inl ⟨rfl, h2⟩⟩
  · exact ⟨h1, Or.inr ⟨g, cap, cur, rfl, hg0, by rw [hb.block g (Array.getElem?_eq_some_iff.1 hg).1]; exact hg, hr⟩⟩

theorem Due.setCell {w : World} {v : Value} {s : Int} {n : Nat} (h : Due w v s n) {a : Addr} (ha : ∀ g, v.ownBlock = some g → a.block ≠ g) (u : Value) : Due (w.setCell a u) v s n := by
  obtain ⟨g, cap, rfl, hg, hc⟩ := h
  refine ⟨g, cap, rfl, by simpa using hg, fun j hj => ?_⟩
  refine Eq.trans ?_ (hc j hj)
  apply World.cell?_setCell_other
  intro e
  exact ha g rfl (by rw [e])
theorem cell_new_at {w : World} {cs : Array Value} {t : TypeId} {b : Nat} (hb : b = w.heap.size) (j : Nat) : (w.alloc (.cells cs t)).cell? ⟨b, j, none⟩ = cs[j]? := by
  subst hb; rw [World.cell?_alloc_new]
theorem frozen_new_at {w : World} {cs : Array Value} {t : TypeId} {b : Nat} (hb : b = w.heap.size) (j : Nat) : (w.alloc (.cells cs t)).frozen? ⟨b, j, none⟩ = false := by
  subst hb; rw [World.frozen?_alloc_new]
theorem own_new {w : World} {B g e size : Nat} (hg : g = w.heap.size) (hB : B ≤ w.heap.size) : (w.alloc (.cells #[] e)).ownsRow B e size (.slice (some ⟨g, 0, none⟩) 0 0) 0 [] := by
  subst hg; exact World.ownsRow_made w #[] 0 hB (by unfold maxLen; omega) (by simp)

set_option maxRecDepth 100000 in
set_option maxHeartbeats 4000000 in
theorem spec_due {p r b s : Int} {n : Nat} (h : LoanOk p r b s n) (w : World) :
    Calls Tryz.prog 26 #[.agg #[.int .i64 p, .int .i64 r, .int .i64 b, .int .i64 s, .int .i64 (n : Int)]] w fun e w' => ∃ v, e = .returned v ∧ Due w' v s (n + 1) ∧ Below w.heap.size w w' := by
  obtain ⟨i0, hi, hz0, hz1, hz2⟩ := info_parts info2
  have t1 := h.t1
  have HD : Hid (∀ k : Nat, k ≤ n → ∀ w, Calls Tryz.prog 13 #[.int .i64 s, .int .i64 k] w fun e w' => e = .returned (.agg #[.int .i64 (dueI s k), .int .i64 0]) ∧ Below w.heap.size w w') := fun k hk w => by
    have := spec_dayAdd s k w
    rw [h.due k (by omega)] at this
    exact this
  clear h
  have fld : ∀ (x : Int) w, (Instr.field 37 (.agg #[.int .i64 x, .int .i64 0]) 0).run Tryz.prog w = .ok (.int .i64 x) w := fun x w => by kernel_rfl
  go_enter Tryz.func26, Tryz.ntmps26
  go_wp2_with fail
  go_loopw [3, 4] (fun v i wr => ∃ k : Nat, i = .int .i64 k ∧ k ≤ n + 1 ∧ wr.ownsRow (w.heap.size + 1) 2 1 v k (dueCells s k) ∧ Below (w.heap.size + 1) (w.alloc (.cells #[.int .i64 p, .int .i64 r, .int .i64 b, .int .i64 s, .int .i64 (n : Int)] 34)) wr) (fun _ i _ => n + 1 - (intOf i).toNat)
  case atStart => exact ⟨0, rfl, by omega, own_new (by simp) (by simp), (Below.refl _ _).alloc (by simp) _⟩
  case round =>
    obtain ⟨k, rfl, hk, hown, hb⟩ := hrel
    have cT : wr.cell? ⟨w.heap.size, 4, none⟩ = some (.int .i64 n) := (hb.cell (p := ⟨w.heap.size, 4, none⟩) (by simp)).trans (by simp)
    have cS : wr.cell? ⟨w.heap.size, 3, none⟩ = some (.int .i64 s) := (hb.cell (p := ⟨w.heap.size, 3, none⟩) (by simp)).trans (by simp)
    by_cases hkn : k ≤ n
    · have q0 : decide (k ≤ n) = true := by simpa using hkn
      have q1 : decide ((k : Int) ≤ (n : Int)) = true := by simpa using hkn
      go_wp2_with fail
      refine (HD.out k hkn _).mono ?_
      rintro e w1 ⟨rfl, hb1⟩
      have hown1 := own_under hown hb1
      have hb2 : Below (w.heap.size + 1) (w.alloc (.cells #[.int .i64 p, .int .i64 r, .int .i64 b, .int .i64 s, .int .i64 (n : Int)] 34)) w1 := hb.trans (hb1.mono (by have := hb.size; simpa using this))
      clear hb1 hown hb
      go_wp2_with (at_builtin; refine wpList_append_own _ rfl (.tmp 12) (.tmp 18) 22 rfl (w.heap.size + 1) 2 i0 (.int .i64 0) 1 8 Tryz.underlying22 hi hz0 hz1 hz2 rfl (by decide) _ _ _ rfl (hown1.alloc _) ⟨w1.heap.size, 0, none⟩ 1 1 [.int .i64 (dueI s k)] rfl rfl ?c1 ?c2 ?c3 ?c4 ?c5 ?_)
      case c1 => exact one_cell2 _ _
      case c2 => exact one_one2 _ _
      case c3 => unfold maxLen; omega
      case c4 => omega
      case c5 => have := hb2.size; simp at this; simp; omega
      intro v' w2 hown2 hg2 _
      have R := due_snoc hb2 (by simp) hown1 hown2 hg2
      clear hown2 hg2 hown1
      go_wp2
      go_roundw
      case rel => exact ⟨k + 1, by go_num, by omega, R.1, R.2⟩
      case measure => simp [intOf]; omega
    · have q0 : decide (k ≤ n) = false := by simpa using hkn
      have q1 : decide ((k : Int) ≤ (n : Int)) = false := by simpa using hkn
      obtain rfl : k = n + 1 := by omega
      go_wp2_with fail
      go_ret
      exact ⟨_, rfl, due_own (by omega) hown, ((Below.refl _ _).alloc (Nat.le_refl _) _).trans (hb.mono (by omega))⟩

set_option maxRecDepth 100000 in
set_option maxHeartbeats 4000000 in
theorem impl_course {p r b s : Int} {n : Nat} (h : LoanOk p r b s n) (w : World) (hM : Mon w) (hL : Lay w) :
    Calls Tryz.prog 53 #[.agg #[.int .i64 p, .int .i64 r, .int .i64 b, .int .i64 s, .int .i64 (n : Int)]] w fun e w' => ∃ v, e = .returned (.agg #[.int .i64 p, .int .i64 r, .int .i64 b, .int .i64 s, .int .i64 (n : Int), v]) ∧ Due w' v s (n + 1) ∧ Below w.heap.size w w' := by
  obtain ⟨i0, hi, hz0, hz1, hz2⟩ := info_parts info2
  have t1 := h.t1
  have HD : Hid (∀ k : Nat, k ≤ n → ∀ w, Mon w → Lay w → Calls Tryz.prog 71 #[.int .i64 s, .int .i64 k] w fun e w' => e = .returned (.agg #[.int .i64 (dueI s k), .int .i64 0]) ∧ Below w.heap.size w w') := fun k hk w hM hL => by
    have := impl_dayAdd s k w hM hL
    rw [h.due k (by omega)] at this
    exact this
  clear h
  have fld : ∀ (x : Int) w, (Instr.field 37 (.agg #[.int .i64 x, .int .i64 0]) 0).run Tryz.prog w = .ok (.int .i64 x) w := fun x w => by kernel_rfl
  have HM : Hid (Mon w) := hM
  have HL : Hid (Lay w) := hL
  clear hM hL
  go_enter Tryz.func53, Tryz.ntmps53
  go_wp2_with (refine wpList_make_own _ rfl (.const (.int .i64 0)) (.tmp 7) 22 rfl (w.heap.size + 2) 2 i0 (.int .i64 0) 1 Tryz.underlying22 hi hz0 hz1 .i64 .i64 _ (n + 1) rfl rfl (by omega) (by rw [hz2]; omega) (by unfold maxLen; omega) (by simp) ?_)
  intro w1 hown hg1
  have hb1 : Below (w.heap.size + 2) ((w.alloc (.cells #[.int .i64 p, .int .i64 r, .int .i64 b, .int .i64 s, .int .i64 (n : Int)] 34)).alloc (.cells #[.int .i64 0, .int .i64 0, .int .i64 0, .int .i64 0, .int .i64 0, .slice none 0 0] 72)) w1 := (Below.refl _ _).grown hg1 (by simp) (fun k hk => by cases hk)
  clear hg1
  have hs1 : w.heap.size + 2 ≤ w1.heap.size := by have := hb1.size; simpa using this
  have cB : ∀ j, w1.cell? ⟨w.heap.size, j, none⟩ = (#[.int .i64 p, .int .i64 r, .int .i64 b, .int .i64 s, .int .i64 (n : Int)] : Array Value)[j]? := fun j => (hb1.cell (p := ⟨w.heap.size, j, none⟩) (by simp)).trans (cell_at (by simp) j)
  have cR : ∀ j, w1.cell? ⟨w.heap.size + 1, j, none⟩ = (#[.int .i64 0, .int .i64 0, .int .i64 0, .int .i64 0, .int .i64 0, .slice none 0 0] : Array Value)[j]? := fun j => (hb1.cell (p := ⟨w.heap.size + 1, j, none⟩) (by simp)).trans (cell_new_at (by simp) j)
  have fR : ∀ j, w1.frozen? ⟨w.heap.size + 1, j, none⟩ = false := fun j => (hb1.frozen (p := ⟨w.heap.size + 1, j, none⟩) (by simp)).trans (frozen_new_at (by simp) j)
  have HB1 : Hid (Below w.heap.size w w1) := (((Below.refl _ _).alloc (Nat.le_refl _) _).alloc (by simp) _).trans (hb1.mono (by omega))
  clear hb1
  go_wp2_with fail
  go_loopw [3, 12] (fun v i wr => ∃ k : Nat, i = .int .i64 k ∧ k ≤ n + 1 ∧ wr.ownsRow (w.heap.size + 2) 2 1 v k (dueCells s k) ∧ Below (w.heap.size + 2) w1 wr) (fun _ i _ => n + 1 - (intOf i).toNat)
  case atStart => exact ⟨0, rfl, by omega, hown, Below.refl _ _⟩
  case round =>
    obtain ⟨k, rfl, hk, hown, hb⟩ := hrel
    have cB' : ∀ j, wr.cell? ⟨w.heap.size, j, none⟩ = (#[.int .i64 p, .int .i64 r, .int .i64 b, .int .i64 s, .int .i64 (n : Int)] : Array Value)[j]? := fun j => (hb.cell (p := ⟨w.heap.size, j, none⟩) (by simp)).trans (cB j)
    have cR' : ∀ j, wr.cell? ⟨w.heap.size + 1, j, none⟩ = (#[.int .i64 0, .int .i64 0, .int .i64 0, .int .i64 0, .int .i64 0, .slice none 0 0] : Array Value)[j]? := fun j => (hb.cell (p := ⟨w.heap.size + 1, j, none⟩) (by simp)).trans (cR j)
    have fR' : ∀ j, wr.frozen? ⟨w.heap.size + 1, j, none⟩ = false := fun j => (hb.frozen (p := ⟨w.heap.size + 1, j, none⟩) (by simp)).trans (fR j)
    have HBr : Hid (Below w.heap.size w wr) := HB1.out.trans (hb.mono (by omega))
    clear cB cR fR
    by_cases hkn : k < n + 1
    · have q0 : decide (k < n + 1) = true := by simpa using hkn
      have q1 : decide ((k : Int) < (n : Int) + 1) = true := by simp; omega
      go_wp2_with fail
      refine (HD.out k (by omega) _ (by exact HM.out.below HBr.out) (by exact HL.out.below HBr.out)).mono ?_
      rintro e w2 ⟨rfl, hb2⟩
      have hown2 := own_under hown hb2
      have hb3 : Below (w.heap.size + 2) w1 w2 := hb.trans (hb2.mono (Nat.le_trans hs1 hb.size))
      clear hb2 hown hb cB' cR' fR'
      go_wp2_with (at_builtin; refine wpList_append_own _ rfl (.tmp 15) (.tmp 21) 22 rfl (w.heap.size + 2) 2 i0 (.int .i64 0) 1 8 Tryz.underlying22 hi hz0 hz1 hz2 rfl (by decide) _ _ _ rfl (hown2.alloc _) ⟨w2.heap.size, 0, none⟩ 1 1 [.int .i64 (dueI s k)] rfl rfl ?c1 ?c2 ?c3 ?c4 ?c5 ?_)
      case c1 => exact one_cell2 _ _
      case c2 => exact one_one2 _ _
      case c3 => unfold maxLen; omega
      case c4 => omega
      case c5 => have := hb3.size; simp; omega
      intro v' w3 hown3 hg3 _
      have R := due_snoc hb3 hs1 hown2 hown3 hg3
      clear hown3 hg3 hown2
      go_wp2
      go_roundw
      case rel => exact ⟨k + 1, by go_num, by omega, R.1, R.2⟩
      case measure => simp [intOf]; omega
    · have q0 : decide (k < n + 1) = false := by simpa using hkn
      have q1 : decide ((k : Int) < (n : Int) + 1) = false := by simp; omega
      obtain rfl : k = n + 1 := by omega
      have hD := due_own (by omega) hown
      have hD' := hD
      obtain ⟨g, cap, rfl, _, _⟩ := hD'
      have HD2 : Hid (Due wr (.slice (some ⟨g, 0, none⟩) (n + 1) cap) s (n + 1)) := hD
      have HN : Hid (∀ k, (Value.slice (some ⟨g, 0, none⟩) (n + 1) cap).ownBlock = some k → w.heap.size + 1 ≠ k) := fun k hk => by have := (hown.lt k hk).1; omega
      clear hD hown
      go_wp2_with fail
      refine bodyPost_ret (v := .agg #[.int .i64 p, .int .i64 r, .int .i64 b, .int .i64 s, .int .i64 (n : Int), .slice (some ⟨g, 0, none⟩) (n + 1) cap]) ?_ rfl ⟨.slice (some ⟨g, 0, none⟩) (n + 1) cap, rfl, ?_, ?_⟩
      · simp [results, Tryz.results53, go_sem, cR']
      · have hne := HN.out
        exact (((((HD2.out.setCell hne _).setCell hne _).setCell hne _).setCell hne _).setCell hne _).setCell hne _
      · exact (((((HBr.out.setCell (Nat.le_succ _) _).setCell (Nat.le_succ _) _).setCell (Nat.le_succ _) _).setCell (Nat.le_succ _) _).setCell (Nat.le_succ _) _).setCell (Nat.le_succ _) _
end Go.Proofs.YtnefcldjigndgaaGreatDoor
