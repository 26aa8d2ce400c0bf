/- The rows of a plan, of the program (rows, left): what each call does. -/
import Derived.Test.YtnefcldjigndgaaGreatDoorPlanLeft
import Derived.Deep.CutRange
namespace Go.Proofs.YtnefcldjigndgaaGreatDoor
open Go.RowKit

theorem info45 : (Tryz.prog.info? 79).map (fun i => (i.zero, i.size, i.bytes)) = some (some (.agg #[.int .i64 0, .int .i64 0, .int .i64 0, .int .i64 0]), 4, 32) := by kernel_rfl
theorem four_cells (w : World) (x0 x1 x2 x3 : Value) : ∀ j u, [x0, x1, x2, x3][j]? = some u → (w.alloc (.cells #[x0, x1, x2, x3] 79)).cell? ((⟨w.heap.size, 0, none⟩ : Addr).add j) = some u := by
  intro j u hj
  have hadd : (⟨w.heap.size, 0, none⟩ : Addr).add j = ⟨w.heap.size, j, none⟩ := by unfold Addr.add; split <;> simp_all
  rw [hadd, World.cell?_alloc_new, ← hj]
  simp
theorem four_ones (x0 x1 x2 x3 : Int) : ∀ u ∈ [Value.int .i64 x0, .int .i64 x1, .int .i64 x2, .int .i64 x3], u.oneCell' = true := by
  intro u hu; simp at hu; rcases hu with rfl | rfl | rfl | rfl <;> rfl
theorem own_base {w : World} {B B' : Nat} {e size : Nat} {v : Value} {n : Nat} {xs : List Value} (h : w.ownsRow B e size v n xs) (hB : B' ≤ B) : w.ownsRow B' e size v n xs := by
  rcases h with ⟨h1, h2 | ⟨g, cap, cur, rfl, hg0, hr⟩⟩
  · exact ⟨h1, Or.inl h2⟩
  · exact ⟨h1, Or.inr ⟨g, cap, cur, rfl, by omega, hr⟩⟩
/-- A row more behind the owned rows. -/
theorem rows_snoc {w w1 wr : World} {B : Nat} {v v' : Value} {p r b s pay : Int} {k : Nat} {o : Obj} (hb : Below B w wr) (hB : B ≤ w.heap.size) (hown : wr.ownsRow B 79 4 v k (rowsC p r b s pay k))
    (hown' : w1.ownsRow B 79 4 v' (k + 1) (rowsC p r b s pay k ++ rowC p r b s pay k)) (hg : (wr.alloc o).grownBy w1 v.ownBlock) :
    w1.ownsRow B 79 4 v' (k + 1) (rowsC p r b s pay (k + 1)) ∧ Below B w w1 := by
  have hs := hb.size
  exact ⟨hown', (hb.alloc (by omega) o).grown hg (by simp; omega) (fun k hk => (hown.lt k hk).1)⟩

set_option maxRecDepth 100000 in
set_option maxHeartbeats 4000000 in
theorem impl_rows {p r b s : Int} {n : Nat} (h : LoanOk p r b s n) {pay : Int} (y0 : 0 ≤ pay) (y1 : pay ≤ 20000000000) (v : Value) (w : World) (hv : Due w v s (n + 1)) (hM : Mon w) (hL : Lay w) :
    Calls Tryz.prog 82 #[.agg #[.int .i64 p, .int .i64 r, .int .i64 b, .int .i64 s, .int .i64 (n : Int), v], .int .i64 pay] w fun e w' => ∃ u, e = .returned u ∧ w'.ownsRow w.heap.size 79 4 u n (rowsC p r b s pay n) ∧ Below w.heap.size w w' := by
  obtain ⟨i0, hi, hz0, hz1, hz2⟩ := info_parts info45
  have t1 := h.t1
  have hp0 := h.p0
  obtain ⟨g, cap, rfl, hg, hcell⟩ := hv
  have HD : Hid (∀ k : Nat, k < n → ∀ w, Mon w → Lay w → Calls Tryz.prog 84 #[.agg #[.int .i64 p, .int .i64 r, .int .i64 b, .int .i64 s, .int .i64 (n : Int), .slice (some ⟨g, 0, none⟩) (n + 1) cap], .int .i64 (dueI s k), .int .i64 (dueI s (k + 1)), .int .i64 (leftI p r b s pay k), .int .i64 pay] w fun e w' => e = .returned (.agg #[.int .i64 (dueI s (k + 1)), .int .i64 (intN r b s k (leftI p r b s pay k)), .int .i64 (min pay (leftI p r b s pay k + intN r b s k (leftI p r b s pay k))), .int .i64 (leftI p r b s pay (k + 1))]) ∧ Below w.heap.size w w') := fun k hk w hM hL => by
    obtain ⟨l0, l1⟩ := h.small y0 k (by omega)
    have := impl_row h k (by omega) l0 l1 y0 y1 ⟨g, 0, none⟩ (n + 1) cap w hM hL
    rw [rowV_at] at this
    exact this
  have HM : Hid (Mon w) := hM
  have HL : Hid (Lay w) := hL
  have HC : Hid (∀ j, j < n + 1 → w.cell? ⟨g, j, none⟩ = some (.int .i64 (dueI s j))) := hcell
  have HL0 : Hid (leftI p r b s pay 0 = p) := leftI_zero p r b s pay
  clear h hM hL hcell
  go_enter Tryz.func82, Tryz.ntmps82
  go_wp2_with (refine wpList_make_own _ rfl (.const (.int .i64 0)) (.tmp 11) 123 rfl (w.heap.size + 1) 79 i0 (.agg #[.int .i64 0, .int .i64 0, .int .i64 0, .int .i64 0]) 4 Tryz.underlying123 hi hz0 hz1 .i64 .i64 _ n rfl rfl rfl (by rw [hz2]; omega) (by unfold maxLen; omega) (by simp) ?_)
  intro w1 hown hg1
  have hb1 : Below (w.heap.size + 1) (w.alloc (.cells #[.int .i64 p, .int .i64 r, .int .i64 b, .int .i64 s, .int .i64 (n : Int), .slice (some ⟨g, 0, none⟩) (n + 1) cap] 72)) w1 := (Below.refl _ _).grown hg1 (by simp) (fun k hk => by cases hk)
  clear hg1
  have hs1 : w.heap.size + 1 ≤ w1.heap.size := by have := hb1.size; simpa using this
  have cB : ∀ j, w1.cell? ⟨w.heap.size, j, none⟩ = (#[.int .i64 p, .int .i64 r, .int .i64 b, .int .i64 s, .int .i64 (n : Int), .slice (some ⟨g, 0, none⟩) (n + 1) cap] : Array Value)[j]? := fun j => (hb1.cell (p := ⟨w.heap.size, j, none⟩) (by simp)).trans (cell_new_at rfl j)
  have HB1 : Hid (Below w.heap.size w w1) := ((Below.refl _ _).alloc (Nat.le_refl _) _).trans (hb1.mono (by omega))
  clear hb1
  go_wp2_with fail
  go_loopw [5, 6, 19] (fun u l i wr => ∃ k : Nat, i = .int .i64 k ∧ k ≤ n ∧ l = .int .i64 (leftI p r b s pay k) ∧ wr.ownsRow (w.heap.size + 1) 79 4 u k (rowsC p r b s pay k) ∧ Below (w.heap.size + 1) w1 wr) (fun _ _ i _ => n - (intOf i).toNat)
  case atStart => exact ⟨0, rfl, by omega, by rw [HL0.out], hown, Below.refl _ _⟩
  case round =>
    clear hown
    obtain ⟨k, rfl, hk, rfl, hown, hb⟩ := hrel
    have hsr : w.heap.size + 1 ≤ wr.heap.size := Nat.le_trans hs1 hb.size
    have cB' : ∀ j, wr.cell? ⟨w.heap.size, j, none⟩ = (#[.int .i64 p, .int .i64 r, .int .i64 b, .int .i64 s, .int .i64 (n : Int), .slice (some ⟨g, 0, none⟩) (n + 1) cap] : Array Value)[j]? := fun j => (hb.cell (p := ⟨w.heap.size, j, none⟩) (by simp)).trans (cB j)
    have HBr : Hid (Below w.heap.size w wr) := HB1.out.trans (hb.mono (by omega))
    clear cB
    by_cases hkn : k < n
    · have q0 : decide (k < n) = true := by simpa using hkn
      have q1 : decide ((k : Int) < (n : Int)) = true := by simpa using hkn
      have HH := HD.out k hkn
      have d0 : wr.cell? ⟨g, k, none⟩ = some (.int .i64 (dueI s k)) := (HBr.out.cell (p := ⟨g, k, none⟩) hg).trans (HC.out k (by omega))
      have d1 : wr.cell? ⟨g, k + 1, none⟩ = some (.int .i64 (dueI s (k + 1))) := (HBr.out.cell (p := ⟨g, k + 1, none⟩) hg).trans (HC.out (k + 1) (by omega))
      have HRC : Hid (rowC p r b s pay k = [.int .i64 (dueI s (k + 1)), .int .i64 (intN r b s k (leftI p r b s pay k)), .int .i64 (min pay (leftI p r b s pay k + intN r b s k (leftI p r b s pay k))), .int .i64 (leftI p r b s pay (k + 1))]) := rfl
      have HF1 : Hid (∃ l, leftI p r b s pay (k + 1) = l) := ⟨_, rfl⟩
      obtain ⟨l, hl⟩ := HF1.out
      obtain ⟨a, ha⟩ : ∃ a, leftI p r b s pay k = a := ⟨_, rfl⟩
      have HLA : Hid (leftI p r b s pay (k + 1) = l) := hl
      rw [hl, ha] at HH HRC
      rw [ha]
      generalize dueI s k = x at HH d0
      generalize dueI s (k + 1) = y at HH d1 HRC
      generalize intN r b s k a = i at HH HRC
      generalize min pay (a + i) = m at HH HRC
      have HH : Hid (∀ w, Mon w → Lay w → Calls Tryz.prog 84 #[.agg #[.int .i64 p, .int .i64 r, .int .i64 b, .int .i64 s, .int .i64 (n : Int), .slice (some ⟨g, 0, none⟩) (n + 1) cap], .int .i64 x, .int .i64 y, .int .i64 a, .int .i64 pay] w fun e w' => e = .returned (.agg #[.int .i64 y, .int .i64 i, .int .i64 m, .int .i64 l]) ∧ Below w.heap.size w w') := HH
      clear hl ha HF1
      obtain ⟨K, hK⟩ : ∃ K, K = k + 1 := ⟨_, rfl⟩
      have hwk : IntKind.i64.wrap ((k : Int) + 1) = (K : Int) := by rw [IntWalk.i64_in _ (by omega)]; omega
      rw [← hK] at d1
      have hKN : K < n + 1 := by omega
      have hkN : k < n + 1 := by omega
      clear hK
      have b0 := cB' 0
      have b1 := cB' 1
      have b2 := cB' 2
      have b3 := cB' 3
      have b4 := cB' 4
      have b5 := cB' 5
      simp at b0 b1 b2 b3 b4 b5
      clear cB'
      have HMr : Hid (Mon wr) := HM.out.below HBr.out
      have HLr : Hid (Lay wr) := HL.out.below HBr.out
      have n0 : wr.heap.size ≠ g := by omega
      have n1 : wr.heap.size ≠ w.heap.size := by omega
      obtain ⟨N, hN⟩ : ∃ N, N = n + 1 := ⟨_, rfl⟩
      rw [← hN] at hKN hkN b5 HH ⊢
      clear hN
      go_upto_region 6 with fail
      go_cut [8] from 20 to 43 (fun u W => ∃ q : Nat, u = .pointer (some ⟨q, 0, none⟩) ∧ W.cell? ⟨q, 0, none⟩ = some (.int .i64 y) ∧ W.cell? ⟨q, 1, none⟩ = some (.int .i64 i) ∧ W.cell? ⟨q, 2, none⟩ = some (.int .i64 m) ∧ W.cell? ⟨q, 3, none⟩ = some (.int .i64 l) ∧ wr.heap.size ≤ q ∧ Hid (Below wr.heap.size wr W))
      case first =>
        go_region_held3 (fun W => W.cell? ⟨w.heap.size, 0, none⟩ = some (.int .i64 p) ∧ W.cell? ⟨w.heap.size, 1, none⟩ = some (.int .i64 r) ∧ W.cell? ⟨w.heap.size, 2, none⟩ = some (.int .i64 b) ∧ W.cell? ⟨w.heap.size, 3, none⟩ = some (.int .i64 s) ∧ W.cell? ⟨w.heap.size, 4, none⟩ = some (.int .i64 n) ∧ W.cell? ⟨w.heap.size, 5, none⟩ = some (.slice (some ⟨g, 0, none⟩) N cap) ∧ W.cell? ⟨g, k, none⟩ = some (.int .i64 x) ∧ W.cell? ⟨g, K, none⟩ = some (.int .i64 y)) (go_keep) (first | (go_at_call 84; refine (HH.out _ (by first | exact HMr.out | exact HMr.out.alloc _) (by first | exact HLr.out | exact HLr.out.below ((Below.refl _ _).alloc (Nat.le_refl _) _).drew)).mono ?_; rintro e w2 ⟨rfl, hb2⟩; have hs2 : wr.heap.size ≤ w2.heap.size := (by have := hb2.size; simp at this; omega); have x0 : w2.cell? ⟨w.heap.size, 0, none⟩ = some (.int .i64 p) := (hb2.cell (p := ⟨w.heap.size, 0, none⟩) (by simp; omega)).trans (by go_keep); have x1 : w2.cell? ⟨w.heap.size, 1, none⟩ = some (.int .i64 r) := (hb2.cell (p := ⟨w.heap.size, 1, none⟩) (by simp; omega)).trans (by go_keep); have x2 : w2.cell? ⟨w.heap.size, 2, none⟩ = some (.int .i64 b) := (hb2.cell (p := ⟨w.heap.size, 2, none⟩) (by simp; omega)).trans (by go_keep); have x3 : w2.cell? ⟨w.heap.size, 3, none⟩ = some (.int .i64 s) := (hb2.cell (p := ⟨w.heap.size, 3, none⟩) (by simp; omega)).trans (by go_keep); have x4 : w2.cell? ⟨w.heap.size, 4, none⟩ = some (.int .i64 n) := (hb2.cell (p := ⟨w.heap.size, 4, none⟩) (by simp; omega)).trans (by go_keep); have x5 : w2.cell? ⟨w.heap.size, 5, none⟩ = some (.slice (some ⟨g, 0, none⟩) N cap) := (hb2.cell (p := ⟨w.heap.size, 5, none⟩) (by simp; omega)).trans (by go_keep); have x6 : w2.cell? ⟨g, k, none⟩ = some (.int .i64 x) := (hb2.cell (p := ⟨g, k, none⟩) (by simp; omega)).trans (by go_keep); have x7 : w2.cell? ⟨g, K, none⟩ = some (.int .i64 y) := (hb2.cell (p := ⟨g, K, none⟩) (by simp; omega)).trans (by go_keep); have n2 : w2.heap.size ≠ g := (by omega); have n3 : w2.heap.size ≠ w.heap.size := (by omega); first | (have hz := new_block4 hb2; obtain ⟨z1, z2, z3, z4, z5⟩ := hz) | skip))
        · have HB2 : Hid (Below wr.heap.size wr w2) := (Below.refl _ _).drew.trans (hb2.mono (by simp))
          clear hb2
          go_wp2_with fail
          go_meet
          exact ⟨w2.heap.size, rfl, by simp, by simp, by simp, by simp, hs2, HB2.out.alloc hs2 _⟩
        · have HB2 : Hid (Below wr.heap.size wr w2) := ((Below.refl _ _).alloc (Nat.le_refl _) _).drew.trans (hb2.mono (by simp))
          clear hb2
          go_wp2_with fail
          go_meet
          exact ⟨wr.heap.size, rfl, by simp [go_sem, z1], by simp [go_sem, z2], by simp [go_sem, z3], by simp [go_sem, z4], Nat.le_refl _, ((((HB2.out.setCell (Nat.le_refl _) _).setCell (Nat.le_refl _) _).setCell (Nat.le_refl _) _).setCell (Nat.le_refl _) _)⟩
      case rest =>
      obtain ⟨q, rfl, e0, e1, e2, e3, hq, HBc⟩ := hcut
      have hownc := own_under hown HBc.out
      have hbc : Below (w.heap.size + 1) w1 wc := hb.trans (HBc.out.mono hsr)
      have HNE : Hid (∀ k', u5.ownBlock = some k' → k' < wr.heap.size) := fun k' hk' => (hown.lt k' hk').2
      have hqc : q < wc.heap.size := World.block_lt_of_cell? wc _ e3
      clear hown hb d0 d1 b0 b1 b2 b3 b4 b5 n0 n1 hwk HMr HLr
      go_wp2_with (at_builtin; refine wpList_append_own _ rfl (.tmp 37) (.tmp 39) 123 rfl (w.heap.size + 1) 79 i0 (.agg #[.int .i64 0, .int .i64 0, .int .i64 0, .int .i64 0]) 4 32 Tryz.underlying123 hi hz0 hz1 hz2 rfl (by decide) _ _ _ rfl (hownc.alloc _) ⟨wc.heap.size, 0, none⟩ 1 1 [.int .i64 y, .int .i64 i, .int .i64 m, .int .i64 l] rfl rfl ?c1 ?c2 ?c3 ?c4 ?c5 ?_)
      case c1 => exact four_cells _ _ _ _ _
      case c2 => exact four_ones _ _ _ _
      case c3 => unfold maxLen; omega
      case c4 => omega
      case c5 => have := hbc.size; simp; omega
      intro v' w3 hown3 hg3 _
      have e4 : w3.cell? ⟨q, 3, none⟩ = some (.int .i64 l) := hg3.cell (a := ⟨q, 3, none⟩) ((World.cell?_alloc_past _ _ _ hqc).trans e3) (fun e => by have := HNE.out q e.symm; omega)
      rw [← HRC.out] at hown3
      have R := rows_snoc hbc hs1 hownc hown3 hg3
      clear hown3 hg3 hownc e0 e1 e2 e3
      go_wp2
      go_roundw
      case rel => exact ⟨k + 1, by go_num, by omega, by rw [HLA.out], R.1, R.2⟩
      case measure => simp [intOf]; omega
    · have q0 : decide (k < n) = false := by simpa using hkn
      have q1 : decide ((k : Int) < (n : Int)) = false := by simpa using hkn
      obtain rfl : k = n := by omega
      go_wp2_with fail
      go_ret
      exact ⟨_, rfl, own_base hown (by omega), HBr.out⟩
end Go.Proofs.YtnefcldjigndgaaGreatDoor
