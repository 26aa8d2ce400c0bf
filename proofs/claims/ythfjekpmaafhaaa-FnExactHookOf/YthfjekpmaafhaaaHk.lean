/- A product's hooks handed out (spec.HookOf, impl.HookOf): what each call does. -/
import Derived.Test.YthfjekpmaafhaaaProd
import Derived.Test.YthfjekpmaafhaaaClone
import Derived.Deep.RegionWith
import Derived.Deep.RegionHeld3
namespace Go.Proofs.Ythfjekpmaafhaaa
open Go.RowKit


def nodeC (x : Nd) : List Value := [.int .i64 x.k, .string x.t, .string x.m, .int .i64 x.n, .int .i64 x.y]
def nodesC (B : Nat → Nd) : Nat → List Value
  | 0 => []
  | k + 1 => nodesC B k ++ nodeC (B k)
theorem nodesC_len (B : Nat → Nd) (k : Nat) : (nodesC B k).length = k * 5 := by
  induction k with
  | zero => rfl
  | succ k ih => rw [nodesC, List.length_append, ih]; simp [nodeC]; omega
theorem nodeC_at (L : Nat → Nd) (i r : Nat) (h : r < 5) : (nodeC (L i))[r]? = some (nodeF L (i * 5 + r)) := by
  obtain ⟨e0, e1, e2, e3, e4⟩ := nodeF_at L i
  rcases (by omega : r = 0 ∨ r = 1 ∨ r = 2 ∨ r = 3 ∨ r = 4) with rfl | rfl | rfl | rfl | rfl
  · rw [Nat.add_zero, e0]; rfl
  · rw [e1]; rfl
  · rw [e2]; rfl
  · rw [e3]; rfl
  · rw [e4]; rfl
theorem nodesC_at (B : Nat → Nd) (k j : Nat) (h : j < k * 5) : (nodesC B k)[j]? = some (nodeF B j) := by
  induction k with
  | zero => omega
  | succ k ih =>
    rw [nodesC]
    by_cases hj : j < k * 5
    · rw [List.getElem?_append_left (by rw [nodesC_len]; exact hj)]; exact ih hj
    · rw [List.getElem?_append_right (by rw [nodesC_len]; omega), nodesC_len, nodeC_at B k _ (by omega)]
      congr 2; omega
/-- An owned row of nodes as its cells. -/
theorem own_nodes {w : World} {B n : Nat} {v : Value} {L : Nat → Nd} (h : w.ownsRow B 52 5 v n (nodesC L n)) : ∃ a cap, v = .slice a n cap ∧ OwnR w a n 5 (nodeF L) ∧ ∀ k, a.map Addr.block = some k → B ≤ k ∧ k < w.heap.size := by
  obtain ⟨_, ⟨rfl, rfl⟩ | ⟨g, cap, cur, rfl, hB, hblk, _⟩⟩ := id h
  · exact ⟨none, 0, rfl, Or.inl rfl, fun k e => by cases e⟩
  · refine ⟨_, cap, rfl, Or.inr ⟨g, rfl, (own_row h (fun j hj => nodesC_at L n j hj)).1⟩, fun k e => ?_⟩
    simp at e
    subst e
    exact ⟨hB, (Array.getElem?_eq_some_iff.1 hblk).1⟩
theorem newn5 (w : World) (x0 x1 x2 x3 x4 : Value) : ∀ j u, [x0, x1, x2, x3, x4][j]? = some u → (w.alloc (.cells #[x0, x1, x2, x3, x4] 52)).cell? ((⟨w.heap.size, 0, none⟩ : Addr).add j) = some u := by
  intro j u hj
  have hadd : (⟨w.heap.size, 0, none⟩ : Addr).add j = ⟨w.heap.size, j, none⟩ := by unfold Addr.add; split <;> simp_all
  rw [hadd, World.cell?_alloc_new, ← hj]
  simp
theorem onen5 (x0 : Int) (x1 x2 : ByteArray) (x3 x4 : Int) : ∀ u ∈ [Value.int .i64 x0, .string x1, .string x2, .int .i64 x3, .int .i64 x4], u.oneCell' = true := by
  intro u hu; simp at hu; rcases hu with rfl | rfl | rfl | rfl | rfl <;> rfl
theorem oneN (B : Nat → Nd) : ∀ k, ∀ u ∈ nodesC B k, u.oneCell' = true
  | 0, u, hu => by simp [nodesC] at hu
  | k + 1, u, hu => by
    rw [nodesC, List.mem_append] at hu
    rcases hu with h | h
    · exact oneN B k u h
    · exact onen5 _ _ _ _ _ u h
/-- A node more behind the owned nodes. -/
theorem nodes_snoc {w w1 wr : World} {B : Nat} {v v' : Value} {L : Nat → Nd} {k : Nat} {o : Obj} (hb : Below B w wr) (hB : B ≤ w.heap.size) (hown : wr.ownsRow B 52 5 v k (nodesC L k))
    (hown' : w1.ownsRow B 52 5 v' (k + 1) (nodesC L k ++ nodeC (L k))) (hg : (wr.alloc o).grownBy w1 v.ownBlock) :
    w1.ownsRow B 52 5 v' (k + 1) (nodesC L (k + 1)) ∧ Below B w w1 := by
  have hs := hb.size
  exact ⟨hown', (hb.alloc (Nat.le_trans hB hs) o).grown hg (by simp; omega) (fun j hj => (hown.lt j hj).1)⟩
/-- A node's block. -/
structure Bn (W : World) (Q : Nat) (x0 : Int) (x1 x2 : ByteArray) (x3 x4 : Int) : Prop where
  c0 : W.cell? ⟨Q, 0, none⟩ = some (.int .i64 x0)
  c1 : W.cell? ⟨Q, 1, none⟩ = some (.string x1)
  c2 : W.cell? ⟨Q, 2, none⟩ = some (.string x2)
  c3 : W.cell? ⟨Q, 3, none⟩ = some (.int .i64 x3)
  c4 : W.cell? ⟨Q, 4, none⟩ = some (.int .i64 x4)
  fz : ∀ j, W.frozen? ⟨Q, j, none⟩ = false
  lt : Q < W.heap.size
theorem Bn.new (w : World) (x0 : Int) (x1 x2 : ByteArray) (x3 x4 : Int) (t : TypeId) : Bn (w.alloc (.cells #[.int .i64 x0, .string x1, .string x2, .int .i64 x3, .int .i64 x4] t)) w.heap.size x0 x1 x2 x3 x4 := ⟨by simp, by simp, by simp, by simp, by simp, fun j => fnew' rfl j, by simp⟩
theorem Bn.below {W W' : World} {Q : Nat} {x0 : Int} {x1 x2 : ByteArray} {x3 x4 : Int} (h : Bn W Q x0 x1 x2 x3 x4) (hb : Below W.heap.size W W') : Bn W' Q x0 x1 x2 x3 x4 :=
  ⟨(hb.cell (p := ⟨Q, 0, none⟩) h.lt).trans h.c0, (hb.cell (p := ⟨Q, 1, none⟩) h.lt).trans h.c1, (hb.cell (p := ⟨Q, 2, none⟩) h.lt).trans h.c2, (hb.cell (p := ⟨Q, 3, none⟩) h.lt).trans h.c3, (hb.cell (p := ⟨Q, 4, none⟩) h.lt).trans h.c4, fun j => (hb.frozen (p := ⟨Q, j, none⟩) h.lt).trans (h.fz j), Nat.lt_of_lt_of_le h.lt hb.size⟩
theorem Bn.put {W : World} {Q : Nat} {x0 : Int} {x1 x2 : ByteArray} {x3 x4 : Int} (h : Bn W Q x0 x1 x2 x3 x4) : Bn ((W.setCell ⟨Q, 1, none⟩ (.string x1)).setCell ⟨Q, 2, none⟩ (.string x2)) Q x0 x1 x2 x3 x4 := by
  have a1 := h.c1
  have a2 : (W.setCell ⟨Q, 1, none⟩ (.string x1)).cell? ⟨Q, 2, none⟩ = some (.string x2) := by rw [World.cell?_setCell_other _ _ _ _ (by simp)]; exact h.c2
  refine ⟨?_, ?_, ?_, ?_, ?_, fun j => by simp [h.fz], by simpa using h.lt⟩
  · rw [World.cell?_setCell_other _ _ _ _ (by simp), World.cell?_setCell_other _ _ _ _ (by simp)]; exact h.c0
  · rw [World.cell?_setCell_other _ _ _ _ (by simp)]; simp [go_sem, a1]
  · simp [go_sem, a2]
  · rw [World.cell?_setCell_other _ _ _ _ (by simp), World.cell?_setCell_other _ _ _ _ (by simp)]; exact h.c3
  · rw [World.cell?_setCell_other _ _ _ _ (by simp), World.cell?_setCell_other _ _ _ _ (by simp)]; exact h.c4
set_option maxRecDepth 100000 in
set_option maxHeartbeats 8000000 in
theorem impl_own (a : Option Addr) (n cap : Nat) (L : Nat → Nd) (hn : n ≤ 1048576) (hsm : ∀ i, i < n → (L i).small) (w : World) (h : NodesAt w a n L) :
    Calls Try.prog 33 #[.slice a n cap] w fun e w' => ∃ v, e = .returned v ∧ w'.ownsRow w.heap.size 52 5 v n (nodesC L n) ∧ Below w.heap.size w w' := by
  obtain ⟨i0, hi, hz0, hz1, hz2⟩ := info_parts infoNode
  have HL : Hid (NodesAt w a n L) := h
  have HS : Hid (∀ i, i < n → (L i).small) := hsm
  clear h hsm
  go_enter Try.func33, Try.ntmps33
  go_wp2_with fail
  go_loopw [3, 8] (fun v i wr => ∃ k : Nat, i = .int .i64 (k : Int) ∧ k ≤ n ∧ Hid (wr.ownsRow w.heap.size 52 5 v k (nodesC L k)) ∧ Hid (Below w.heap.size w wr)) (fun _ i _ => n - (intOf i).toNat)
  case atStart => exact ⟨0, rfl, by omega, World.ownsRow_nil _ _ _ _, Below.refl _ _⟩
  case round =>
    obtain ⟨k, rfl, hk, HO, HB⟩ := hrel
    by_cases hkn : k < n
    · have p0 : decide (k < n) = true := by simpa using hkn
      have p1 : decide ((k : Int) < (n : Int)) = true := by simpa using hkn
      rcases HL.out with h0 | ⟨g, o, rfl, hg, hc⟩
      · omega
      obtain ⟨c0, c1, c2, c3, c4⟩ := hc k hkn
      have d0 := (HB.out.cell (p := ⟨g, _, none⟩) hg).trans c0
      have d1 := (HB.out.cell (p := ⟨g, _, none⟩) hg).trans c1
      have d2 := (HB.out.cell (p := ⟨g, _, none⟩) hg).trans c2
      have d3 := (HB.out.cell (p := ⟨g, _, none⟩) hg).trans c3
      have d4 := (HB.out.cell (p := ⟨g, _, none⟩) hg).trans c4
      have HQ : Hid (nodeC (L k) = [.int .i64 (L k).k, .string (L k).t, .string (L k).m, .int .i64 (L k).n, .int .i64 (L k).y]) := rfl
      obtain ⟨s1, s2⟩ := HS.out k hkn
      clear hc c0 c1 c2 c3 c4
      generalize (L k).k = x0 at *
      generalize (L k).t = x1 at *
      generalize (L k).m = x2 at *
      generalize (L k).n = x3 at *
      generalize (L k).y = x4 at *
      have HK1 : Hid (∀ W, Calls Try.prog 43 #[.string x1] W fun e w' => e = .returned (.string x1) ∧ Below W.heap.size W w') := fun W => str_clone x1 W (by omega)
      have HK2 : Hid (∀ W, Calls Try.prog 43 #[.string x2] W fun e w' => e = .returned (.string x2) ∧ Below W.heap.size W w') := fun W => str_clone x2 W (by omega)
      have hown := (HO.out.alloc (.cells #[.int .i64 x0, .string x1, .string x2, .int .i64 x3, .int .i64 x4] 52))
      have hBn := Bn.new wr x0 x1 x2 x3 x4 52
      have HBa : Hid (Below w.heap.size w (wr.alloc (.cells #[.int .i64 x0, .string x1, .string x2, .int .i64 x3, .int .i64 x4] 52))) := HB.out.alloc HB.out.size _
      have hqw : w.heap.size ≤ wr.heap.size := HB.out.size
      have hQo : u3.ownBlock ≠ some wr.heap.size := fun e => by have := (HO.out.lt _ e).2; omega
      go_upto_region 5 with fail
      obtain ⟨W1, hW1⟩ : ∃ W, W = wr.alloc (.cells #[.int .i64 x0, .string x1, .string x2, .int .i64 x3, .int .i64 x4] 52) := ⟨_, rfl⟩
      obtain ⟨Q, hQ⟩ : ∃ Q, Q = wr.heap.size := ⟨_, rfl⟩
      rw [← hW1] at hown hBn HBa ⊢
      rw [← hQ] at hBn hqw hQo ⊢
      have HOw : Hid (W1.ownsRow w.heap.size 52 5 u3 k (nodesC L k)) := hown
      clear hW1 hQ hown d0 d1 d2 d3 d4 HO HB
      obtain ⟨b0, b1, b2, b3, b4, bf, bl⟩ := id hBn
      have HBN : Hid (Bn W1 Q x0 x1 x2 x3 x4) := hBn
      clear hBn
      go_region_with (first | (go_at_call_of 43 x1; refine (HK1.out _).mono ?_; rintro e wa ⟨rfl, hba⟩; have NA : Bn wa Q x0 x1 x2 x3 x4 := (by first | exact HBN.out.below hba | exact (HBN.out.below ((Below.refl _ _).drew)).below hba); have OA : wa.ownsRow w.heap.size 52 5 u3 k (nodesC L k) := (by first | exact own_below HOw.out hba | exact own_below HOw.out.drew hba); have BA : Below w.heap.size w wa := (by first | exact HBa.out.trans (hba.mono HBa.out.size) | exact HBa.out.drew.trans (hba.mono HBa.out.size)); obtain ⟨a0, a1, a2, a3, a4, af, al⟩ := id NA) | (go_at_call_of 43 x2; refine (HK2.out _).mono ?_; rintro e wb ⟨rfl, hbb⟩; have NB : Bn wb Q x0 x1 x2 x3 x4 := NA.below hbb; have OB : wb.ownsRow w.heap.size 52 5 u3 k (nodesC L k) := own_below OA hbb; have BB : Below w.heap.size w wb := BA.trans (hbb.mono BA.size); obtain ⟨e0, e1, e2, e3, e4, ef, el⟩ := id NB))
      all_goals
        have NZ := NB.put
        have OZ : ((wb.setCell ⟨Q, 1, none⟩ (.string x1)).setCell ⟨Q, 2, none⟩ (.string x2)).ownsRow w.heap.size 52 5 u3 k (nodesC L k) := (OB.kept (setGrown (World.grownBy.refl _ _)) (Or.inr hQo)).kept (setGrown (World.grownBy.refl _ _)) (Or.inr hQo)
        have BZ : Below w.heap.size w ((wb.setCell ⟨Q, 1, none⟩ (.string x1)).setCell ⟨Q, 2, none⟩ (.string x2)) := (BB.setCell (p := ⟨Q, 1, none⟩) hqw _).setCell (p := ⟨Q, 2, none⟩) hqw _
        obtain ⟨Z, hZ⟩ : ∃ W, W = (wb.setCell ⟨Q, 1, none⟩ (.string x1)).setCell ⟨Q, 2, none⟩ (.string x2) := ⟨_, rfl⟩
        rw [← hZ] at NZ OZ BZ ⊢
        have HBZ : Hid (Below w.heap.size w Z) := BZ
        have hZs := BZ.size
        clear hZ NA NB OA OB BA BB hba hbb a0 a1 a2 a3 a4 af al e0 e1 e2 e3 e4 ef el b0 b1 b2 b3 b4 bf bl BZ HBN HK1 HK2
        obtain ⟨b0, b1, b2, b3, b4, bf, bl⟩ := NZ
        go_wp2_with (at_builtin; refine wpList_append_own _ rfl (.tmp 20) (.tmp 22) 31 rfl w.heap.size 52 i0 (.agg #[.int .i64 0, .string ⟨#[]⟩, .string ⟨#[]⟩, .int .i64 0, .int .i64 0]) 5 56 Try.underlying31 hi hz0 hz1 hz2 rfl (by decide) _ _ _ rfl (OZ.alloc _) ⟨Z.heap.size, 0, none⟩ 1 1 [.int .i64 x0, .string x1, .string x2, .int .i64 x3, .int .i64 x4] rfl rfl (newn5 Z (.int .i64 x0) (.string x1) (.string x2) (.int .i64 x3) (.int .i64 x4)) (onen5 _ _ _ _ _) (by unfold maxLen; omega) (by omega) (by simp; omega) ?_)
        intro v' w3 hown3 hg3 _
        rw [← HQ.out] at hown3
        have R := nodes_snoc HBZ.out (Nat.le_refl _) OZ hown3 hg3
        have HR1 : Hid (w3.ownsRow w.heap.size 52 5 v' (k + 1) (nodesC L (k + 1))) := R.1
        have HR2 : Hid (Below w.heap.size w w3) := R.2
        clear hown3 hg3 OZ R b0 b1 b2 b3 b4 bf bl
        go_wp2_with fail
        go_roundw
        case rel => exact ⟨k + 1, by go_num, by omega, HR1, HR2⟩
        case measure => simp [intOf]; omega
    · have p0 : decide (k < n) = false := by simpa using hkn
      have p1 : decide ((k : Int) < (n : Int)) = false := by simpa using hkn
      obtain rfl : k = n := by omega
      go_wp2_with fail
      go_ret
      exact ⟨_, rfl, HO.out, HB.out⟩
end Go.Proofs.Ythfjekpmaafhaaa
