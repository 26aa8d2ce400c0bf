/- The model's way through code: what its call does. -/
import Derived.Test.YtdbahildcecgbaaDoorSpH0
import Derived.Maps.AppendAt
namespace Go.Proofs.YtdbahildcecgbaaDoor
open Go.RowKit
open Go.Proofs.YtdbahildcecgbaaDoor.Draw

/-- What the model holds: its heights in block H, its waiting places as the slice v. -/
structure Spw (w wr : World) (MA : Array Value) (H n : Nat) (v : Value) (lv : Nat → Int) (W : List Nat) : Prop where
  box : ∀ j, wr.cell? ⟨w.heap.size, j, none⟩ = MA[j]?
  own : Own wr H n (numF lv)
  row : wr.ownsRow (w.heap.size + 2) 3 1 v W.length (rowN W)
  hh : H = w.heap.size + 1
  lt : w.heap.size + 2 ≤ wr.heap.size
  bel : Below w.heap.size w wr
theorem Spw.next {w wr wr' : World} {MA : Array Value} {H n : Nat} {v : Value} {lv : Nat → Int} {W : List Nat} (h : Spw w wr MA H n v lv W) (hb : Below wr.heap.size wr wr') : Spw w wr' MA H n v lv W := by
  have hl := h.lt
  exact ⟨fun j => (hb.cell (p := ⟨w.heap.size, j, none⟩) (by show w.heap.size < _; omega)).trans (h.box j), h.own.below hb, own_below h.row hb, h.hh, by have := hb.size; omega, h.bel.trans (hb.mono h.bel.size)⟩
def lenV (v : Value) : Nat := match v with | .slice _ m _ => m | _ => 0
def unlN (w : World) (H n : Nat) : Nat := unl (fun k => match w.cell? ⟨H, k, none⟩ with | some (.int _ z) => z | _ => 0) n
theorem Spw.len {w wr : World} {MA : Array Value} {H n : Nat} {v : Value} {lv : Nat → Int} {W : List Nat} (h : Spw w wr MA H n v lv W) : lenV v = W.length := by
  obtain ⟨av, cv, rfl⟩ := own_slice h.row
  rfl
theorem Spw.unls {w wr : World} {MA : Array Value} {H n : Nat} {v : Value} {lv : Nat → Int} {W : List Nat} (h : Spw w wr MA H n v lv W) : unlN wr H n = unl lv n := by
  unfold unlN
  exact unl_congr fun k hk => by rw [h.own.2.1 k hk]; rfl
theorem Spw.pop {w wr : World} {MA : Array Value} {H n g' cap k : Nat} {lv : Nat → Int} {V : List Nat} (h : Spw w wr MA H n (.slice (some ⟨g', 0, none⟩) (V.length + 1) cap) lv (V ++ [k])) : Spw w wr MA H n (.slice (some ⟨g', 0, none⟩) V.length cap) lv V := by
  have hr := h.row
  rw [rowN_snoc, List.length_append, List.length_singleton] at hr
  exact ⟨h.box, h.own, own_cut (rowN_len V) hr, h.hh, h.lt, h.bel⟩
theorem Spw.push {w wr w2 : World} {MA : Array Value} {H n x : Nat} {q : Int} {v v' : Value} {o : Obj} {lv : Nat → Int} {W : List Nat} (h : Spw w wr MA H n v lv W) (hx : x < n)
    (hg : ((wr.setCell ⟨H, x, none⟩ (.int .i64 q)).alloc o).grownBy w2 v.ownBlock) (ho : w2.ownsRow (w.heap.size + 2) 3 1 v' (W.length + 1) (rowN W ++ [.int .i64 (x : Int)])) : Spw w w2 MA H n v' (putL lv x q) (W ++ [x]) := by
  have hl := h.lt
  have hh := h.hh
  have hs := hg.size
  simp at hs
  have hnb : some w.heap.size ≠ v.ownBlock := fun e => by have := (h.row.lt _ e.symm).1; omega
  have hnh : some H ≠ v.ownBlock := fun e => by have := (h.row.lt _ e.symm).1; omega
  have hO1 : Own ((wr.setCell ⟨H, x, none⟩ (.int .i64 q)).alloc o) H n (numF (putL lv x q)) := ((h.own.set hx (.int .i64 q)).congr (fun j _ => (numF_put lv x q j).symm)).below ((Below.refl _ _).alloc (Nat.le_refl _) _)
  have hb2 := hg.block H hO1.1 hnh
  refine ⟨fun j => ?_, ⟨Nat.lt_of_lt_of_le hO1.1 hg.size, fun j hj => (World.cell?_of_block (a := ⟨H, j, none⟩) hb2).trans (hO1.2.1 j hj), fun j => (World.frozen?_of_block (a := ⟨H, j, none⟩) hb2).trans (hO1.2.2 j)⟩, ?_, hh, by omega, ?_⟩
  · rw [World.cell?_of_block (a := ⟨w.heap.size, j, none⟩) (hg.block w.heap.size (by simp; omega) hnb), World.cell?_alloc_old (a := ⟨w.heap.size, j, none⟩) _ _ (by simp; omega), World.cell?_setCell_other _ _ _ _ (by first | (simp; done) | (simp; omega))]
    exact h.box j
  · rw [rowN_snoc, List.length_append, List.length_singleton]; exact ho
  · exact ((h.bel.setCell (by show w.heap.size ≤ H; omega) _).alloc (by simp; omega) o).grown hg (by simp; omega) (fun k hk => by have := (h.row.lt k hk).1; omega)
theorem Spw.under {w wr w2 : World} {MA : Array Value} {H n S g' m cap : Nat} {lv : Nat → Int} {W : List Nat} (h : Spw w wr MA H n (.slice (some ⟨g', 0, none⟩) m cap) lv W) (hb : Below S wr w2) (hS : w.heap.size + 2 ≤ S) (hg : g' < S) (_hs : S ≤ wr.heap.size) : Spw w w2 MA H n (.slice (some ⟨g', 0, none⟩) m cap) lv W := by
  have hh := h.hh
  have hl := h.lt
  have bH := hb.block H (by omega)
  have bg := hb.block g' hg
  refine ⟨fun j => (World.cell?_of_block (a := ⟨w.heap.size, j, none⟩) (hb.block w.heap.size (by omega))).trans (h.box j), ⟨by have := h.own.1; have := hb.size; omega, fun j hj => (World.cell?_of_block (a := ⟨H, j, none⟩) bH).trans (h.own.2.1 j hj), fun j => (World.frozen?_of_block (a := ⟨H, j, none⟩) bH).trans (h.own.2.2 j)⟩, ?_, hh, by have := hb.size; omega, h.bel.trans (hb.mono (by omega))⟩
  obtain ⟨h1, ⟨h2, _⟩ | ⟨g2, cap2, cur, h2, h3, h4, h5⟩⟩ := h.row
  · simp at h2
  · simp at h2
    obtain ⟨rfl, rfl, rfl⟩ := h2
    exact ⟨h1, Or.inr ⟨_, _, cur, rfl, h3, bg.trans h4, h5⟩⟩
/-- A list that is read. -/
def ToC (w : World) (gt : Nat) (T : List Nat) : Prop := gt < w.heap.size ∧ ∀ j, j < T.length → w.cell? ⟨gt, j, none⟩ = some (.int .i64 ((T.getD j 0 : Nat) : Int))
theorem ToC.push {wr w2 : World} {gt H x : Nat} {q : Value} {o : Obj} {row : Option Nat} {T : List Nat} (h : ToC wr gt T) (hH : gt ≠ H) (hr : some gt ≠ row) (hg : ((wr.setCell ⟨H, x, none⟩ q).alloc o).grownBy w2 row) : ToC w2 gt T := by
  have hs := hg.size
  simp at hs
  refine ⟨by have := h.1; omega, fun j hj => ?_⟩
  rw [World.cell?_of_block (a := ⟨gt, j, none⟩) (hg.block gt (by have := h.1; simp; omega) hr), World.cell?_alloc_old (a := ⟨gt, j, none⟩) _ _ (by have := h.1; simp; omega), World.cell?_setCell_other _ _ _ _ (by first | (simp; done) | (simp; omega))]
  exact h.2 j hj
theorem toC_own {w : World} {B gt cap : Nat} {T : List Nat} (h : w.ownsRow B 3 1 (.slice (some ⟨gt, 0, none⟩) T.length cap) T.length (rowN T)) : ToC w gt T := by
  refine ⟨(h.lt gt rfl).2, fun j hj => ?_⟩
  rw [h.cellAt j (by omega)]
  unfold rowN
  rw [List.getElem?_map, List.getD_eq_getElem?_getD, List.getElem?_eq_getElem hj]
  rfl
theorem one_cell3 {w : World} {b : Nat} (hb : b = w.heap.size) (x : Value) : ∀ j u, [x][j]? = some u → (w.alloc (.cells #[x] 3)).cell? ((⟨b, 0, none⟩ : Addr).add j) = some u := by
  subst hb
  intro j u hj
  match j, hj with
  | 0, hj => simp at hj; subst hj; simp [Addr.add]
/-- What is handed back. -/
def SpOut (L : Nat → In) (n : Nat) (w : World) (e : Ending) (w' : World) : Prop := ∃ H lv b, e = .returned (.tuple #[.slice (some ⟨H, 0, none⟩) n n, .bool b]) ∧ w.heap.size ≤ H ∧ Own w' H n (numF lv) ∧ Below w.heap.size w w' ∧ (if b then Climb L n lv (fun _ => False) else ¬ Good L n)
theorem info3 : (Tryd.prog.info? 3).map (fun i => (i.zero, i.size, i.bytes)) = some (some (.int .i64 0), 1, 8) := by kernel_rfl
set_option maxRecDepth 100000 in
set_option maxHeartbeats 200000000 in
theorem spec_heights (z0 z1 z2 z3 : Int) (g o' n c : Nat) (hn : n ≤ 2000) (hn1 : 1 ≤ n) (L : Nat → In) (w : World) (hA : InsAt w (some ⟨g, o', none⟩) n L) (hI : ∀ j, j < n → insB z1 z2 z3 n (L j).o (L j).a (L j).b = true) :
    Calls Tryd.prog 24 #[.agg #[.int .i64 z0, .int .i64 z1, .int .i64 z2, .int .i64 z3, .slice (some ⟨g, o', none⟩) n c]] w (SpOut L n w) := by
  obtain ⟨i0, hi, hz0, hz1, hz2⟩ := info_parts infoN
  obtain ⟨i3, hi3, hy0, hy1, hy2⟩ := info_parts info3
  have HA : Hid (InsAt w (some ⟨g, o', none⟩) n L) := hA
  have HI : Hid (∀ j, j < n → insB z1 z2 z3 n (L j).o (L j).a (L j).b = true) := hI
  have b0 : ∀ j, (w.alloc (.cells #[.int .i64 z0, .int .i64 z1, .int .i64 z2, .int .i64 z3, .slice (some ⟨g, o', none⟩) n c] 24)).cell? ⟨w.heap.size, j, none⟩ = (#[.int .i64 z0, .int .i64 z1, .int .i64 z2, .int .i64 z3, .slice (some ⟨g, o', none⟩) n c] : Array Value)[j]? := fun j => cnew' rfl j
  have HBX : Hid (∀ j, (w.alloc (.cells #[.int .i64 z0, .int .i64 z1, .int .i64 z2, .int .i64 z3, .slice (some ⟨g, o', none⟩) n c] 24)).cell? ⟨w.heap.size, j, none⟩ = (#[.int .i64 z0, .int .i64 z1, .int .i64 z2, .int .i64 z3, .slice (some ⟨g, o', none⟩) n c] : Array Value)[j]?) := b0
  have HB0 : Hid (Below w.heap.size w (w.alloc (.cells #[.int .i64 z0, .int .i64 z1, .int .i64 z2, .int .i64 z3, .slice (some ⟨g, o', none⟩) n c] 24))) := (Below.refl _ _).alloc (Nat.le_refl _) _
  clear hA hI b0
  go_enter Tryd.func24, Tryd.ntmps24
  go_wp2_with (refine wpList_make_full _ rfl (.tmp 18) (.tmp 18) 50 rfl (w.heap.size + 1) 2 i0 (.int .i64 0) 1 Tryd.underlying50 hi hz0 hz1 .i64 .i64 _ _ n rfl rfl rfl rfl (by rw [hz2]; omega) (by unfold maxLen; omega) (by simp) ?_)
  intro w1 hown hg1
  obtain ⟨F0, hO⟩ := own_some hown
  rw [Nat.mul_one] at hO
  have hO' : Own w1 (w.heap.size + 1) n F0 := by have := hO; simpa using this
  have HO : Hid (Own w1 (w.heap.size + 1) n F0) := hO'
  have hb1 : Below (w.alloc (.cells #[.int .i64 z0, .int .i64 z1, .int .i64 z2, .int .i64 z3, .slice (some ⟨g, o', none⟩) n c] 24)).heap.size (w.alloc (.cells #[.int .i64 z0, .int .i64 z1, .int .i64 z2, .int .i64 z3, .slice (some ⟨g, o', none⟩) n c] 24)) w1 := (Below.refl _ _).grown hg1 (Nat.le_refl _) (fun k hk => by cases hk)
  have HX1 : Hid ((∀ j, w1.cell? ⟨w.heap.size, j, none⟩ = (#[.int .i64 z0, .int .i64 z1, .int .i64 z2, .int .i64 z3, .slice (some ⟨g, o', none⟩) n c] : Array Value)[j]?) ∧ w.heap.size + 2 ≤ w1.heap.size ∧ Below w.heap.size w w1) := ⟨fun j => (hb1.cell (p := ⟨w.heap.size, j, none⟩) (by simp)).trans (HBX.out j), by have := hO'.1; omega, HB0.out.trans (hb1.mono HB0.out.size)⟩
  clear hO hO' hown hg1 hb1 HBX HB0
  obtain ⟨H, hH⟩ : ∃ H, H = w.heap.size + 1 := ⟨_, rfl⟩
  have HH : Hid (H = w.heap.size + 1) := hH
  rw [← hH] at HO
  go_wp2_with fail
  rw [← hH]
  clear hH
  go_loopw [6] (fun i wr => ∃ k : Nat, i = .int .i64 (k : Int) ∧ k ≤ n ∧ Hid (Own wr H n (fun j => if j < k then .int .i64 (-1) else F0 j)) ∧ Hid ((∀ j, wr.cell? ⟨w.heap.size, j, none⟩ = (#[.int .i64 z0, .int .i64 z1, .int .i64 z2, .int .i64 z3, .slice (some ⟨g, o', none⟩) n c] : Array Value)[j]?) ∧ w.heap.size + 2 ≤ wr.heap.size ∧ Below w.heap.size w wr)) (fun i _ => n - (intOf i).toNat)
  case atStart => exact ⟨0, rfl, by omega, HO.out.congr (fun j _ => by rw [if_neg (by omega)]), HX1⟩
  case round =>
    obtain ⟨k, rfl, hk, HOr, HX⟩ := hrel
    by_cases hkn : k < n
    · have q0 : decide (k < n) = true := by simpa using hkn
      have q1 : decide ((k : Int) < (n : Int)) = true := by simpa using hkn
      have a0 := HOr.out.2.1 k hkn
      simp only [show ¬ k < k by omega, if_false] at a0
      generalize F0 k = y0 at a0
      have hf := HOr.out.2.2 k
      have HO2 : Hid (Own (wr.setCell ⟨H, k, none⟩ (.int .i64 (-1))) H n (fun j => if j < k + 1 then .int .i64 (-1) else F0 j)) := (HOr.out.set hkn (.int .i64 (-1))).congr (fun j _ => by
        by_cases e : j = k
        · subst e; rw [if_pos rfl, if_pos (by omega)]
        · rw [if_neg e]
          by_cases e2 : j < k
          · rw [if_pos e2, if_pos (by omega)]
          · rw [if_neg e2, if_neg (by omega)])
      have hne : H ≠ w.heap.size := by have := HH.out; omega
      have HX2 : Hid ((∀ j, (wr.setCell ⟨H, k, none⟩ (.int .i64 (-1))).cell? ⟨w.heap.size, j, none⟩ = (#[.int .i64 z0, .int .i64 z1, .int .i64 z2, .int .i64 z3, .slice (some ⟨g, o', none⟩) n c] : Array Value)[j]?) ∧ w.heap.size + 2 ≤ (wr.setCell ⟨H, k, none⟩ (.int .i64 (-1))).heap.size ∧ Below w.heap.size w (wr.setCell ⟨H, k, none⟩ (.int .i64 (-1)))) := ⟨fun j => by
        rw [World.cell?_setCell_other _ _ _ _ (by first | (simp; done) | (simp; omega))]; exact HX.out.1 j, by simpa using HX.out.2.1, HX.out.2.2.setCell (by have := HH.out; show w.heap.size ≤ H; omega) _⟩
      clear HOr HX hne
      go_wp2_with fail
      go_roundw
      case rel => exact ⟨k + 1, by go_num, by omega, HO2, HX2⟩
      case measure => simp [intOf]; omega
    · have q0 : decide (k < n) = false := by simpa using hkn
      have q1 : decide ((k : Int) < (n : Int)) = false := by simpa using hkn
      obtain rfl : n = k := by omega
      have hO3 : Own wr H n (numF (fun _ => -1)) := HOr.out.congr (fun j hj => by rw [if_pos hj]; rfl)
      have a0 : wr.cell? ⟨H, 0, none⟩ = some (.int .i64 (-1)) := hO3.2.1 0 (by omega)
      have hf := hO3.2.2 0
      have hne : H ≠ w.heap.size := by have := HH.out; omega
      have hHlt := hO3.1
      have hS : Spw w ((wr.setCell ⟨H, 0, none⟩ (.int .i64 0)).alloc (.cells #[.int .i64 0] 3)) #[.int .i64 z0, .int .i64 z1, .int .i64 z2, .int .i64 z3, .slice (some ⟨g, o', none⟩) n c] H n (.slice (some ⟨wr.heap.size, 0, none⟩) 1 1) (putL (fun _ => -1) 0 0) [0] := by
        have hal : Below (wr.setCell ⟨H, 0, none⟩ (.int .i64 0)).heap.size (wr.setCell ⟨H, 0, none⟩ (.int .i64 0)) ((wr.setCell ⟨H, 0, none⟩ (.int .i64 0)).alloc (.cells #[.int .i64 0] 3)) := (Below.refl _ _).alloc (Nat.le_refl _) _
        refine ⟨fun j => ?_, ((hO3.set (i := 0) (by omega) (.int .i64 0)).congr (fun j _ => (numF_put _ 0 0 j).symm)).below hal, ?_, HH.out, by have := HX.out.2.1; simp; omega, (HX.out.2.2.setCell (by have := HH.out; show w.heap.size ≤ H; omega) _).trans (hal.mono (by have := HX.out.2.1; simp; omega))⟩
        · rw [World.cell?_alloc_old (a := ⟨w.heap.size, j, none⟩) _ _ (by have := HX.out.2.1; simp; omega), World.cell?_setCell_other _ _ _ _ (by first | (simp; done) | (simp; omega))]
          exact HX.out.1 j
        · have := World.ownsRow_lit (base := w.heap.size + 2) (e := 3) (size := 1) (wr.setCell ⟨H, 0, none⟩ (.int .i64 0)) #[.int .i64 0] 1 (by have := HX.out.2.1; simpa using this) (by unfold maxLen; omega) rfl
          simp at this
          exact this
      have HS1 : Hid (Spw w ((wr.setCell ⟨H, 0, none⟩ (.int .i64 0)).alloc (.cells #[.int .i64 0] 3)) #[.int .i64 z0, .int .i64 z1, .int .i64 z2, .int .i64 z3, .slice (some ⟨g, o', none⟩) n c] H n (.slice (some ⟨wr.heap.size, 0, none⟩) 1 1) (putL (fun _ => -1) 0 0) [0]) := hS
      have hk0 : 0 < n := by omega
      clear hS hO3 HOr HX hne
      go_wp2_with fail
      obtain ⟨w2, hw2⟩ : ∃ X, X = (wr.setCell ⟨H, 0, none⟩ (.int .i64 0)).alloc (.cells #[.int .i64 0] 3) := ⟨_, rfl⟩
      rw [← hw2] at HS1 ⊢
      clear hw2 a0 hf hHlt q0 q1 hkn
      go_loopw [7] (fun vs wr => ∃ (v : Value) (lv : Nat → Int) (W : List Nat), vs = v ∧ 2 * unl lv n + W.length ≤ 2 * n + 1 ∧ Hid (Spw w wr #[.int .i64 z0, .int .i64 z1, .int .i64 z2, .int .i64 z3, .slice (some ⟨g, o', none⟩) n c] H n v lv W) ∧ Hid (Climb L n lv (fun j => j ∈ W) ∧ Wts n lv W)) (fun v wr => 2 * unlN wr H n + lenV v)
      case atStart =>
        have := unl_le (putL (fun _ => -1) 0 0) n
        have hup := unl_put (lv := fun _ => -1) (n := n) (k := 0) (z := 0) hk0 (by omega) (by omega)
        have hul := unl_le (fun _ => (-1 : Int)) n
        exact ⟨_, _, _, rfl, by simp; omega, HS1, (Climb.first hk0).wider (fun k hk => by simp [hk]), ⟨fun j hj => by
          have e : j = 0 := by simpa using hj
          subst e
          exact ⟨hk0, by simp [putL]⟩⟩⟩
      case round =>
        obtain ⟨v, lv, W, hvs, hM, HS, HB⟩ := hrel
        obtain rfl := hvs.symm
        obtain ⟨wo, hwo⟩ : ∃ X, X = wr := ⟨_, rfl⟩
        subst hwo
        clear HS1
        rcases Nat.eq_zero_or_pos W.length with h00 | hpos
        · obtain rfl : W = [] := List.eq_nil_of_length_eq_zero h00
          obtain ⟨av, cv, rfl⟩ := own_slice HS.out.row
          have HG : Hid (Climb L n lv (fun _ => False)) := climb_end HB.out.1
          have HSE : Hid (w.heap.size ≤ H ∧ Own wo H n (numF lv) ∧ Below w.heap.size w wo) := ⟨by have := HH.out; omega, HS.out.own, HS.out.bel⟩
          simp only [List.length_nil]
          clear HS HB h00 hM
          go_wp2_with fail
          refine bodyPost_ret (v := .tuple #[.slice (some ⟨H, 0, none⟩) n n, .bool true]) ?_ rfl ⟨H, lv, true, rfl, HSE.out.1, HSE.out.2.1, HSE.out.2.2, by rw [if_pos rfl]; exact HG.out⟩
          simp [results, Tryd.results24, go_sem]
        obtain ⟨V, k, rfl⟩ := pop_of hpos
        have hVl : (V ++ [k]).length = V.length + 1 := by simp
        have hMS := HS.out.unls
        obtain ⟨g', cap, rfl⟩ : ∃ g' cap, v = .slice (some ⟨g', 0, none⟩) (V.length + 1) cap := by
          obtain ⟨_, ⟨_, h⟩ | ⟨g', cap, cur, h, _⟩⟩ := HS.out.row
          · rw [hVl] at h; omega
          · rw [hVl] at h; exact ⟨g', cap, h⟩
        have hro := HS.out.row
        rw [rowN_snoc, hVl] at hro
        have hcap : V.length ≤ cap := by
          obtain ⟨_, ⟨_, h⟩ | ⟨_, _, cur, h, _, _, h5, _⟩⟩ := hro
          · omega
          · simp at h; obtain ⟨_, rfl⟩ := h; omega
        have c0 : wo.cell? ⟨g', V.length, none⟩ = some (.int .i64 (k : Int)) := by
          rw [hro.cellAt V.length (by omega), List.getElem?_append_right (by rw [rowN_len]; omega), rowN_len]
          simp
        have hgB := hro.lt g' rfl
        have hP := HS.out.pop
        have hcp := climb_pop HB.out.1
        obtain ⟨hw, hkn, hk0'⟩ := wts_pop HB.out.2
        obtain ⟨⟨f1, f2⟩, f20, fj⟩ := insB_facts (HI.out k hkn)
        have HTK : Hid (∀ W, Calls Tryd.prog 35 #[.agg #[.int .i64 (L k).o, .int .i64 (L k).a, .int .i64 (L k).b]] W fun e w' => e = .returned (.tuple #[.int .i64 (takeI (L k)), .int .i64 (putI (L k))]) ∧ Below W.heap.size W w') := fun W => spec_takes (L k).o (L k).a (L k).b f1 f2 f20 W
        have HR0 : Hid (Rch L k (lv k)) := (hcp.sound k hkn hk0').1
        have hup := (hcp.sound k hkn hk0').2
        have htk := take_range (L k)
        have hpt := put_range (L k)
        have HCL : Hid (Climb L n lv (fun i => i ∈ V ∨ i = k) ∧ Wts n lv V) := ⟨hcp, hw⟩
        have HK0 : Hid (0 ≤ lv k) := hk0'
        have hON : ∀ e j : Bool, endI (L k) = e → jmpI (L k) = j → onS L k = (if e = true then [] else [k + 1]) ++ (if j = true then [(L k).a.toNat] else []) := fun e j h1 h2 => by unfold onS; rw [h1, h2]
        have hEo : endI (L k) = ((L k).o == 22 || ((L k).o == 24 || (L k).o == 26)) := rfl
        have hJo : jmpI (L k) = ((L k).o == 21 || (L k).o == 22) := rfl
        rcases HA.out.below HS.out.bel with h0 | ⟨ga, oa, hga, hgl, hcs⟩
        · omega
        simp at hga
        obtain ⟨rfl, rfl⟩ := hga
        obtain ⟨d0, d1, d2⟩ := hcs k hkn
        have y4 := HS.out.box 4
        simp at y4
        have hblt := HS.out.lt
        have a0 : wo.cell? ⟨H, k, none⟩ = some (.int .i64 (lv k)) := HS.out.own.2.1 k hkn
        obtain ⟨t, ht⟩ : ∃ t, t = takeI (L k) := ⟨_, rfl⟩
        obtain ⟨p, hp⟩ : ∃ p, p = putI (L k) := ⟨_, rfl⟩
        obtain ⟨q, hq⟩ : ∃ q, q = lv k - t + p := ⟨_, rfl⟩
        obtain ⟨d, hd⟩ : ∃ d, d = lv k - t := ⟨_, rfl⟩
        have HQ : Hid (q = lv k - takeI (L k) + putI (L k)) := by rw [hq, ht, hp]; exact rfl
        have HT0 : Hid (t = takeI (L k)) := ht
        rw [← ht, ← hp] at HTK
        rw [← ht] at htk
        rw [← hp] at hpt
        obtain ⟨N, hN⟩ : ∃ N, N = V.length + 1 := ⟨_, rfl⟩
        obtain ⟨m, hm⟩ : ∃ m, m = V.length := ⟨_, rfl⟩
        have HMS : Hid (2 * unlN wo H n + lenV (.slice (some ⟨g', 0, none⟩) N cap) = 2 * unl lv n + V.length + 1) := by show _ + N = _; rw [hMS, hN]; rfl
        have HMV : Hid (2 * unl lv n + (V.length + 1) ≤ 2 * n + 1) := by rw [hVl] at hM; exact hM
        rw [← hN]
        rw [← hm] at c0 hcap
        have hP' : Spw w wo #[.int .i64 z0, .int .i64 z1, .int .i64 z2, .int .i64 z3, .slice (some ⟨g, o', none⟩) n c] H n (.slice (some ⟨g', 0, none⟩) m cap) lv V := by rw [hm]; exact hP
        have hNp : 0 < N := by omega
        have hNi : decide ((0 : Int) < (N : Int)) = true := by simp; omega
        have hVb : V.length + 1 ≤ 2 * n + 1 := by have := HMV.out; omega
        have hNm : IntKind.i64.wrap ((N : Int) - 1) = (m : Int) := by rw [IntWalk.i64_in _ (by omega)]; omega
        have hmN : m < N := by omega
        generalize hZo : (L k).o = zo at *
        generalize hZa : (L k).a = za at *
        generalize hZb : (L k).b = zb at *
        have hal : Below wo.heap.size wo (wo.alloc (.cells #[.int .i64 zo, .int .i64 za, .int .i64 zb] 38)) := (Below.refl _ _).alloc (Nat.le_refl _) _
        have HP2 : Hid (Spw w (wo.alloc (.cells #[.int .i64 zo, .int .i64 za, .int .i64 zb] 38)) #[.int .i64 z0, .int .i64 z1, .int .i64 z2, .int .i64 z3, .slice (some ⟨g, o', none⟩) n c] H n (.slice (some ⟨g', 0, none⟩) m cap) lv V) := hP'.next hal
        have HBI : Hid (Bxs (wo.alloc (.cells #[.int .i64 zo, .int .i64 za, .int .i64 zb] 38)) wo.heap.size #[.int .i64 zo, .int .i64 za, .int .i64 zb] 38) := Bxs.new _ _ _
        have HGB : Hid (g' < wo.heap.size) := hgB.2
        clear hal hP hP' HS HB hM hpos hro hcp hw hcs hgl hN hMS hVl hgB f1 f2 f20 hk0' hZo hZa hZb
        have HMM0 : Hid (m = V.length) := hm
        clear hm
        go_wp2_with fail
        refine (HTK.out _).mono ?_
        rintro e w3 ⟨rfl, hb3⟩
        have HP3 : Hid (Spw w w3 #[.int .i64 z0, .int .i64 z1, .int .i64 z2, .int .i64 z3, .slice (some ⟨g, o', none⟩) n c] H n (.slice (some ⟨g', 0, none⟩) m cap) lv V) := HP2.out.next hb3
        have HI3 : Hid (Bxs w3 wo.heap.size #[.int .i64 zo, .int .i64 za, .int .i64 zb] 38) := HBI.out.below hb3
        have HG3 : Hid (g' < w3.heap.size ∧ wo.heap.size < w3.heap.size) := ⟨by have := HGB.out; have := hb3.size; simp at this; omega, HI3.out.lt⟩
        clear hb3 HP2 HBI HTK c0 d0 d1 d2 y4 a0 hcap
        have a0 : w3.cell? ⟨H, k, none⟩ = some (.int .i64 (lv k)) := HP3.out.own.2.1 k hkn
        have i0' : w3.cell? ⟨wo.heap.size, 0, none⟩ = some (.int .i64 zo) := HI3.out.cell 0
        have i1' : w3.cell? ⟨wo.heap.size, 1, none⟩ = some (.int .i64 za) := HI3.out.cell 1
        obtain ⟨zk, hzk⟩ : ∃ zk, zk = lv k := ⟨_, rfl⟩
        have HZK : Hid (zk = lv k) := hzk
        rw [← hzk] at a0
        by_cases hlt : zk < t
        · have p0 : decide (zk < t) = true := by simpa using hlt
          have HG : Hid (¬ Good L n) := bad_take HR0.out (by rw [← HT0.out, ← hzk]; exact hlt)
          have HSE : Hid (w.heap.size ≤ H ∧ Own w3 H n (numF lv) ∧ Below w.heap.size w w3) := ⟨by have := HH.out; omega, HP3.out.own, HP3.out.bel⟩
          clear HCL HR0 hzk hq hd hEo hJo
          go_wp2_with fail
          refine bodyPost_ret (v := .tuple #[.slice (some ⟨H, 0, none⟩) n n, .bool false]) ?_ rfl ⟨H, lv, false, rfl, HSE.out.1, HSE.out.2.1, HSE.out.2.2, by rw [if_neg (by simp)]; exact HG.out⟩
          simp [results, Tryd.results24, go_sem]
        have p0 : decide (zk < t) = false := by simpa using hlt
        have hq0 : 0 ≤ q ∧ q ≤ 1000 := by omega
        have hwa : IntKind.i64.wrap (zk - t) = d := by rw [hd, hzk]; exact IntWalk.i64_in _ (by omega)
        have hwb : IntKind.i64.wrap (d + p) = q := by rw [hd, hq]; exact IntWalk.i64_in _ (by omega)
        have HTK0 : Hid (takeI (L k) ≤ lv k) := by have := HT0.out; show _ ≤ _; omega
        have hwk : IntKind.i64.wrap ((k : Int) + 1) = ((k + 1 : Nat) : Int) := by rw [IntWalk.i64_in _ (by omega)]; omega
        have hlt3 := HP3.out.lt
        clear hq hd htk hpt hlt ht hp hup hzk
        go_upto_region 18 with fail
        have hal3 : Below w3.heap.size w3 (w3.alloc (.cells #[] 3)) := (Below.refl _ _).alloc (Nat.le_refl _) _
        have HP4 : Hid (Spw w (w3.alloc (.cells #[] 3)) #[.int .i64 z0, .int .i64 z1, .int .i64 z2, .int .i64 z3, .slice (some ⟨g, o', none⟩) n c] H n (.slice (some ⟨g', 0, none⟩) m cap) lv V) := HP3.out.next hal3
        have HI4 : Hid (Bxs (w3.alloc (.cells #[] 3)) wo.heap.size #[.int .i64 zo, .int .i64 za, .int .i64 zb] 38) := HI3.out.below hal3
        have HOT0 : Hid ((w3.alloc (.cells #[] 3)).ownsRow w3.heap.size 3 1 (.slice (some ⟨w3.heap.size, 0, none⟩) 0 0) 0 (rowN [])) := own_new0 rfl (Nat.le_refl _)
        have HS34 : Hid (w3.heap.size < (w3.alloc (.cells #[] 3)).heap.size) := by show _ < _; simp
        have HL3 : Hid (w.heap.size + 2 ≤ w3.heap.size) := hlt3
        obtain ⟨S3, hS3⟩ : ∃ S, S = w3.heap.size := ⟨_, rfl⟩
        obtain ⟨w4, hw4⟩ : ∃ X, X = w3.alloc (.cells #[] 3) := ⟨_, rfl⟩
        rw [← hw4] at HP4 HI4 HOT0 HS34 ⊢
        rw [← hS3] at HOT0 HS34 HG3 HL3 ⊢
        generalize Value.slice (some ⟨S3, 0, none⟩) 0 0 = v13 at HOT0 ⊢
        obtain ⟨aT, cT, rfl⟩ := own_slice HOT0.out
        clear hal3 HP3 HI3 a0 i0' i1' hlt3 hS3 hw4 p0 hwa hwb
        have i0' : w4.cell? ⟨wo.heap.size, 0, none⟩ = some (.int .i64 zo) := HI4.out.cell 0
        have i1' : w4.cell? ⟨wo.heap.size, 1, none⟩ = some (.int .i64 za) := HI4.out.cell 1
        by_cases c22 : zo = 22
        · subst c22
          obtain ⟨hu0, hu1⟩ := fj (by decide)
          obtain ⟨u, rfl⟩ : ∃ u : Nat, za = (u : Int) := ⟨za.toNat, by omega⟩
          have hON2 : onS L k = [u] := by
            have := hON true true (by rw [hEo]; rfl) (by rw [hJo]; rfl)
            simpa using this
          have HON : Hid (onS L k = [u]) := hON2
          clear hON hON2 hEo hJo fj
          go_wp2_with (at_builtin; refine wpList_append_own_at _ rfl (.tmp 97) (.tmp 100) 62 rfl S3 3 i3 (.int .i64 0) 1 8 Tryd.underlying62 hi3 hy0 hy1 hy2 rfl (by decide) _ _ _ rfl (HOT0.out.alloc _) ⟨w4.heap.size, 0, none⟩ 1 1 [.int .i64 ((u : Nat) : Int)] rfl rfl ?c1 ?c2 ?c3 ?c4 ?c5 ?_)
          case c1 => exact one_cell3 rfl _
          case c2 => exact one_oneN _ _
          case c3 => unfold maxLen; omega
          case c4 => omega
          case c5 => have := HS34.out; simp; omega
          intro vt0 w5 hot hgt _ _
          have HOT1 : Hid (w5.ownsRow S3 3 1 vt0 1 (rowN ([] ++ [u]))) := by rw [rowN_snoc]; exact hot
          have hbl0 : Below S3 w4 w5 := ((Below.refl _ _).alloc (by have := HS34.out; omega) _).grown hgt (by have := HS34.out; simp; omega) (fun b hb => (HOT0.out.lt b hb).1)
          have HBW0 : Hid (Below S3 w4 w5) := hbl0
          obtain ⟨at0, ct0, hvt0⟩ := own_slice HOT1.out
          subst hvt0
          have HI50 : Hid (Bxs w5 wo.heap.size #[.int .i64 22, .int .i64 (u : Int), .int .i64 zb] 38) := (HBW0.out.block _ HG3.out.2).trans HI4.out
          clear hot hgt hbl0 i0' i1'
          have i0' : w5.cell? ⟨wo.heap.size, 0, none⟩ = some (.int .i64 22) := HI50.out.cell 0
          have i1' : w5.cell? ⟨wo.heap.size, 1, none⟩ = some (.int .i64 (u : Int)) := HI50.out.cell 1
          go_wp2_with fail
          obtain ⟨T, hT⟩ : ∃ T : List Nat, T = [u] := ⟨_, rfl⟩
          obtain ⟨gt, hgt1, hgt0⟩ : ∃ gt, at0 = some ⟨gt, 0, none⟩ ∧ S3 ≤ gt := by
            obtain ⟨_, ⟨h, _⟩ | ⟨gt, _, _, h, h2, _⟩⟩ := HOT1.out
            · simp at h
            · simp at h; exact ⟨gt, h.1, h2⟩
          subst hgt1
          have HGT : Hid (w.heap.size + 2 ≤ gt) := by have := HL3.out; show _ ≤ _; omega
          have HT4 : Hid (ToC w5 gt T) := by rw [hT]; exact toC_own HOT1.out
          have HS4 : Hid (Spw w w5 #[.int .i64 z0, .int .i64 z1, .int .i64 z2, .int .i64 z3, .slice (some ⟨g, o', none⟩) n c] H n (.slice (some ⟨g', 0, none⟩) m cap) lv V) := HP4.out.under HBW0.out HL3.out HG3.out.1 (by have := HS34.out; omega)
          have HNB : Hid (∀ b, (Value.slice (some ⟨g', 0, none⟩) m cap).ownBlock = some b → b ≠ gt) := fun b hb => by
            have e : g' = b := by simpa [Value.ownBlock] using hb
            have := HG3.out.1
            omega
          have HTL : Hid (T.length = 1) := by rw [hT]; exact rfl
          rw [← hT] at HON
          clear hT i0' i1' hgt0 HOT0 HOT1 HI50 HBW0 HP4 HI4
          go_loopw [14, 7] (fun i vs wr5 => ∃ (v : Value) (j : Nat) (lv2 : Nat → Int) (W2 : List Nat), vs = v ∧ i = .int .i64 (j : Int) ∧ j ≤ 1 ∧ W2.length ≤ 2 * n + 1 ∧ Hid (Spw w wr5 #[.int .i64 z0, .int .i64 z1, .int .i64 z2, .int .i64 z3, .slice (some ⟨g, o', none⟩) n c] H n v lv2 W2) ∧ Hid (∀ b, v.ownBlock = some b → b ≠ gt) ∧ Hid (ToC wr5 gt T) ∧ Hid (Climb L n lv2 (fun i => i ∈ W2 ∨ i = k) ∧ Wts n lv2 W2) ∧ Hid (∀ i, i < j → T.getD i 0 < n ∧ lv2 (T.getD i 0) = q) ∧ Hid (∀ i, 0 ≤ lv i → lv2 i = lv i) ∧ Hid (2 * unl lv2 n + W2.length ≤ 2 * unl lv n + V.length)) (fun i _ _ => 1 - (intOf i).toNat)
          case atStart => exact ⟨_, 0, lv, V, rfl, rfl, by omega, by omega, HS4, HNB, HT4, HCL, fun i hi => by omega, fun _ _ => rfl, Nat.le_refl _⟩
          case round =>
            obtain ⟨v, j, lv2, W2, hvs, rfl, hj, hW2, HS5, HN5, HT5, HC5, HD5, HE5, HM5⟩ := hrel
            obtain rfl := hvs.symm
            clear HS4 HT4 HNB
            obtain ⟨av, cv, hav⟩ := own_slice HS5.out.row
            by_cases hjT : j < 1
            · have q0 : decide (j < 1) = true := by simpa using hjT
              have q1 : decide ((j : Int) < (1 : Int)) = true := by simp; omega
              have hjT' : j < T.length := by rw [HTL.out]; exact hjT
              obtain ⟨x, hx⟩ : ∃ x, x = T.getD j 0 := ⟨_, rfl⟩
              have e0 := HT5.out.2 j hjT'
              rw [← hx] at e0
              have HRX : Hid (Rch L x q) := by
                have hm : x ∈ onS L k := by rw [HON.out, hx, List.getD_eq_getElem?_getD, List.getElem?_eq_getElem hjT']; exact List.getElem_mem hjT'
                have := onS_rch HR0.out hm
                unfold Hid
                rw [HQ.out]
                exact this
              have hgt := HT5.out.1
              have HX : Hid (x = T.getD j 0) := hx
              clear hx hjT'
              by_cases hxn : n ≤ x
              · have p1 : decide ((n : Int) ≤ (x : Int)) = true := by simp; omega
                have p1' : decide (n ≤ x) = true := by simp; omega
                have HG : Hid (¬ Good L n) := (show NoStp n lv2 x q from Or.inl hxn).bad HC5.out.1 HRX.out
                have HSE : Hid (w.heap.size ≤ H ∧ Own wr H n (numF lv2) ∧ Below w.heap.size w wr) := ⟨by have := HH.out; omega, HS5.out.own, HS5.out.bel⟩
                clear HS5 HN5 HT5 HC5 HD5 HE5 HM5 HRX HX hav
                go_wp2_with fail
                refine bodyPost_ret (v := .tuple #[.slice (some ⟨H, 0, none⟩) n n, .bool false]) ?_ rfl ⟨H, lv2, false, rfl, HSE.out.1, HSE.out.2.1, HSE.out.2.2, by rw [if_neg (by simp)]; exact HG.out⟩
                simp [results, Tryd.results24, go_sem]
              have p1 : decide ((n : Int) ≤ (x : Int)) = false := by simp; omega
              have p1' : decide (n ≤ x) = false := by simp; omega
              by_cases h60 : 60 < q
              · have p2 : decide (60 < q) = true := by simpa using h60
                have HG : Hid (¬ Good L n) := (show NoStp n lv2 x q from Or.inr (Or.inl h60)).bad HC5.out.1 HRX.out
                have HSE : Hid (w.heap.size ≤ H ∧ Own wr H n (numF lv2) ∧ Below w.heap.size w wr) := ⟨by have := HH.out; omega, HS5.out.own, HS5.out.bel⟩
                clear HS5 HN5 HT5 HC5 HD5 HE5 HM5 HRX HX hav
                go_wp2_with fail
                refine bodyPost_ret (v := .tuple #[.slice (some ⟨H, 0, none⟩) n n, .bool false]) ?_ rfl ⟨H, lv2, false, rfl, HSE.out.1, HSE.out.2.1, HSE.out.2.2, by rw [if_neg (by simp)]; exact HG.out⟩
                simp [results, Tryd.results24, go_sem]
              have p2 : decide (60 < q) = false := by simpa using h60
              have hxlt : x < n := by omega
              have d0 : wr.cell? ⟨H, x, none⟩ = some (.int .i64 (lv2 x)) := HS5.out.own.2.1 x hxlt
              by_cases hz : lv2 x < 0
              · have p3 : decide (0 ≤ lv2 x) = false := by simp; omega
                have p4 : decide (lv2 x < 0) = true := by simpa using hz
                have hf : wr.frozen? ⟨H, x, none⟩ = false := HS5.out.own.2.2 x
                have hSt : Stp lv2 W2 (putL lv2 x q) (W2 ++ [x]) x q := Or.inl ⟨hz, rfl, rfl⟩
                obtain ⟨s1, s2, s3, s4, s5⟩ := hSt.climb HC5.out.1 HC5.out.2 HRX.out hq0.1 (by omega) hxlt
                have HC6 : Hid (Climb L n (putL lv2 x q) (fun i => i ∈ W2 ++ [x] ∨ i = k) ∧ Wts n (putL lv2 x q) (W2 ++ [x])) := ⟨s1, s2⟩
                have HD6 : Hid (∀ i, i < j + 1 → T.getD i 0 < n ∧ putL lv2 x q (T.getD i 0) = q) := fun i hi => by
                  by_cases e : i = j
                  · rw [e, ← HX.out]; exact ⟨hxlt, s3⟩
                  · have d := HD5.out i (by omega)
                    exact ⟨d.1, by rw [s4 _ (by rw [d.2]; exact hq0.1)]; exact d.2⟩
                have HE6 : Hid (∀ i, 0 ≤ lv i → putL lv2 x q i = lv i) := fun i hi => by
                  have e := HE5.out i hi
                  rw [s4 i (by rw [e]; exact hi)]; exact e
                have HM6 : Hid (2 * unl (putL lv2 x q) n + (W2 ++ [x]).length ≤ 2 * unl lv n + V.length) := Nat.le_trans s5 HM5.out
                have hlt5 := HS5.out.lt
                have hgH : gt ≠ H := by have a1 := HGT.out; have := HS5.out.hh; omega
                have hHg : H ≠ gt := Ne.symm hgH
                have HOs : Hid ((wr.setCell ⟨H, x, none⟩ (.int .i64 q)).ownsRow (w.heap.size + 2) 3 1 (.slice av W2.length cv) W2.length (rowN W2)) := by
                  have := HS5.out.row
                  rw [hav] at this
                  exact this.kept (setGrown (World.grownBy.refl wr (some H))) (Or.inr fun e => by have a1 := (this.lt H e).1; have := HS5.out.hh; omega)
                have hl6 : W2.length + 1 ≤ 2 * n + 1 := by
                  have a1 := HM6.out
                  have a2 := HMV.out
                  rw [List.length_append, List.length_singleton] at a1
                  omega
                clear s1 s2 s3 s4 s5 hSt HC5 HD5 HE5 HM5 HRX
                rw [hav]
                generalize hzz : lv2 x = zz at d0 p3 p4
                clear hzz
                go_wp2_with (at_builtin; refine wpList_append_own_at _ rfl (.tmp 155) (.tmp 160) 62 rfl (w.heap.size + 2) 3 i3 (.int .i64 0) 1 8 Tryd.underlying62 hi3 hy0 hy1 hy2 rfl (by decide) _ _ _ rfl (HOs.out.alloc _) ⟨wr.heap.size, 0, none⟩ 1 1 [.int .i64 (x : Int)] rfl rfl (one_cell3 (by simp) _) ?c2 ?c3 ?c4 ?c5 ?_)
                case c2 => first | exact one_oneN _ _ | rfl
                case c3 => unfold maxLen; omega
                case c4 => omega
                case c5 => first | omega | (simp; omega)
                intro v' w6 hown6 hg6 _ hbl6
                have hS6 := Spw.push (hav ▸ HS5.out) hxlt hg6 hown6
                have HS6 : Hid (Spw w w6 #[.int .i64 z0, .int .i64 z1, .int .i64 z2, .int .i64 z3, .slice (some ⟨g, o', none⟩) n c] H n v' (putL lv2 x q) (W2 ++ [x])) := hS6
                have HT6 : Hid (ToC w6 gt T) := HT5.out.push (by have a1 := HGT.out; have := HS5.out.hh; omega) (fun e => by rw [← hav] at e; exact (HN5.out gt e.symm) rfl) hg6
                have HN6 : Hid (∀ b, v'.ownBlock = some b → b ≠ gt) := fun b hb e => by
                  rcases hbl6 with h | h
                  · rw [h, ← hav] at hb; exact HN5.out b hb e
                  · rw [h] at hb
                    simp at hb
                    omega
                obtain ⟨av', cv', hav'⟩ := own_slice hown6
                subst hav'
                clear hown6 hg6 hbl6 hS6 HS5 HN5 HT5 HOs hav d0 e0 hf HX
                go_wp2_with fail
                go_roundw
                case rel => exact ⟨_, j + 1, _, _, rfl, by go_num, by omega, by simp; omega, HS6, HN6, HT6, HC6, HD6, HE6, HM6⟩
                case measure => simp [intOf]; omega
              · have p3 : decide (0 ≤ lv2 x) = true := by simp; omega
                have p4 : decide (lv2 x < 0) = false := by simp; omega
                by_cases he : lv2 x = q
                · have p5 : (lv2 x != q) = false := by rw [he]; simp
                  have HD6 : Hid (∀ i, i < j + 1 → T.getD i 0 < n ∧ lv2 (T.getD i 0) = q) := fun i hi => by
                    by_cases e : i = j
                    · rw [e, ← HX.out]; exact ⟨hxlt, he⟩
                    · exact HD5.out i (by omega)
                  clear he hz
                  generalize hzz : lv2 x = zz at d0 p3 p4 p5
                  clear HRX HD5 HX hzz
                  rw [hav]
                  rw [hav] at HS5 HN5
                  clear hav
                  go_wp2_with fail
                  go_roundw
                  case rel => exact ⟨_, j + 1, lv2, W2, rfl, by go_num, by omega, hW2, HS5, HN5, HT5, HC5, HD6, HE5, HM5⟩
                  case measure => simp [intOf]; omega
                · have p5 : (lv2 x != q) = true := by simpa using he
                  have HG : Hid (¬ Good L n) := (show NoStp n lv2 x q from Or.inr (Or.inr ⟨hxlt, by omega, he⟩)).bad HC5.out.1 HRX.out
                  have HSE : Hid (w.heap.size ≤ H ∧ Own wr H n (numF lv2) ∧ Below w.heap.size w wr) := ⟨by have := HH.out; omega, HS5.out.own, HS5.out.bel⟩
                  clear he hz
                  generalize hzz : lv2 x = zz at d0 p3 p4 p5
                  clear HS5 HN5 HT5 HC5 HD5 HE5 HM5 HRX HX hzz hav
                  go_wp2_with fail
                  refine bodyPost_ret (v := .tuple #[.slice (some ⟨H, 0, none⟩) n n, .bool false]) ?_ rfl ⟨H, lv2, false, rfl, HSE.out.1, HSE.out.2.1, HSE.out.2.2, by rw [if_neg (by simp)]; exact HG.out⟩
                  simp [results, Tryd.results24, go_sem]
            · have q0 : decide (j < 1) = false := by simpa using hjT
              have q1 : decide ((j : Int) < (1 : Int)) = false := by simp; omega
              have HC6 : Hid (Climb L n lv2 (fun i => i ∈ W2) ∧ Wts n lv2 W2) := ⟨HC5.out.1.closed (onS_shut (HE5.out k HK0.out) HTK0.out (fun i hi => by
                rw [HON.out] at hi
                obtain ⟨r, hr, rfl⟩ := List.getElem_of_mem hi
                have d := HD5.out r (by have := HTL.out; omega)
                rw [List.getD_eq_getElem?_getD, List.getElem?_eq_getElem hr] at d
                exact ⟨d.1, by rw [← HQ.out]; exact d.2⟩)) (fun i hi => hi.symm), HC5.out.2⟩
              have HMM : Hid (2 * unlN wr H n + lenV (.slice av W2.length cv) < 2 * unlN wo H n + lenV (.slice (some ⟨g', 0, none⟩) N cap)) := by
                have e1 := HS5.out.len
                have e2 := HS5.out.unls
                rw [hav] at e1
                show _ < _
                rw [HMS.out, e1, e2]
                have := HM5.out
                omega
              have HM7 : Hid (2 * unl lv2 n + W2.length ≤ 2 * n + 1) := by have := HM5.out; have := HMV.out; show _ ≤ _; omega
              clear HN5 HT5 HC5 HD5 HE5 HM5
              rw [hav]
              rw [hav] at HS5
              clear hav
              go_wp2_with fail
              go_roundw
              case rel => exact ⟨_, lv2, W2, rfl, HM7.out, HS5, HC6⟩
              case measure => exact HMM.out
        have t22 : (zo == 22) = false := beq_eq_false_iff_ne.2 c22
        have s22 : (zo != 22) = true := bne_iff_ne.2 c22
        by_cases c24 : zo = 24
        · subst c24
          have hON2 : onS L k = [] := by
            have := hON true false (by rw [hEo]; rfl) (by rw [hJo]; rfl)
            simpa using this
          have HON : Hid (onS L k = []) := hON2
          clear hON hON2 hEo hJo fj
          go_wp2_with fail
          obtain ⟨T, hT⟩ : ∃ T : List Nat, T = [] := ⟨_, rfl⟩
          obtain ⟨gt, hgt0⟩ : ∃ gt, gt = S3 := ⟨_, rfl⟩
          have HT4 : Hid (ToC w4 gt T) := by rw [hT, hgt0]; exact ⟨HS34.out, fun j hj => by simp at hj⟩
          have HGT : Hid (w.heap.size + 2 ≤ gt) := by have := HL3.out; show _ ≤ _; omega
          have HS4 : Hid (Spw w w4 #[.int .i64 z0, .int .i64 z1, .int .i64 z2, .int .i64 z3, .slice (some ⟨g, o', none⟩) n c] H n (.slice (some ⟨g', 0, none⟩) m cap) lv V) := HP4.out
          have HNB : Hid (∀ b, (Value.slice (some ⟨g', 0, none⟩) m cap).ownBlock = some b → b ≠ gt) := fun b hb => by
            have e : g' = b := by simpa [Value.ownBlock] using hb
            have := HG3.out.1
            omega
          have HTL : Hid (T.length = 0) := by rw [hT]; exact rfl
          rw [← hT] at HON
          clear hT hgt0 i0' i1' HP4 HI4 HOT0
          go_loopw [14, 7] (fun i vs wr5 => ∃ (v : Value) (j : Nat) (lv2 : Nat → Int) (W2 : List Nat), vs = v ∧ i = .int .i64 (j : Int) ∧ j ≤ 0 ∧ W2.length ≤ 2 * n + 1 ∧ Hid (Spw w wr5 #[.int .i64 z0, .int .i64 z1, .int .i64 z2, .int .i64 z3, .slice (some ⟨g, o', none⟩) n c] H n v lv2 W2) ∧ Hid (∀ b, v.ownBlock = some b → b ≠ gt) ∧ Hid (ToC wr5 gt T) ∧ Hid (Climb L n lv2 (fun i => i ∈ W2 ∨ i = k) ∧ Wts n lv2 W2) ∧ Hid (∀ i, i < j → T.getD i 0 < n ∧ lv2 (T.getD i 0) = q) ∧ Hid (∀ i, 0 ≤ lv i → lv2 i = lv i) ∧ Hid (2 * unl lv2 n + W2.length ≤ 2 * unl lv n + V.length)) (fun i _ _ => 0 - (intOf i).toNat)
          case atStart => exact ⟨_, 0, lv, V, rfl, rfl, by omega, by omega, HS4, HNB, HT4, HCL, fun i hi => by omega, fun _ _ => rfl, Nat.le_refl _⟩
          case round =>
            obtain ⟨v, j, lv2, W2, hvs, rfl, hj, hW2, HS5, HN5, HT5, HC5, HD5, HE5, HM5⟩ := hrel
            obtain rfl := hvs.symm
            clear HS4 HT4 HNB
            obtain ⟨av, cv, hav⟩ := own_slice HS5.out.row
            by_cases hjT : j < 0
            · exact absurd hjT (by omega)
            · have q0 : decide (j < 0) = false := by simp
              have q1 : decide ((j : Int) < (0 : Int)) = false := by simp
              have HC6 : Hid (Climb L n lv2 (fun i => i ∈ W2) ∧ Wts n lv2 W2) := ⟨HC5.out.1.closed (onS_shut (HE5.out k HK0.out) HTK0.out (fun i hi => by
                rw [HON.out] at hi
                obtain ⟨r, hr, rfl⟩ := List.getElem_of_mem hi
                have d := HD5.out r (by have := HTL.out; omega)
                rw [List.getD_eq_getElem?_getD, List.getElem?_eq_getElem hr] at d
                exact ⟨d.1, by rw [← HQ.out]; exact d.2⟩)) (fun i hi => hi.symm), HC5.out.2⟩
              have HMM : Hid (2 * unlN wr H n + lenV (.slice av W2.length cv) < 2 * unlN wo H n + lenV (.slice (some ⟨g', 0, none⟩) N cap)) := by
                have e1 := HS5.out.len
                have e2 := HS5.out.unls
                rw [hav] at e1
                show _ < _
                rw [HMS.out, e1, e2]
                have := HM5.out
                omega
              have HM7 : Hid (2 * unl lv2 n + W2.length ≤ 2 * n + 1) := by have := HM5.out; have := HMV.out; show _ ≤ _; omega
              clear HN5 HT5 HC5 HD5 HE5 HM5
              rw [hav]
              rw [hav] at HS5
              clear hav
              go_wp2_with fail
              go_roundw
              case rel => exact ⟨_, lv2, W2, rfl, HM7.out, HS5, HC6⟩
              case measure => exact HMM.out
        have t24 : (zo == 24) = false := beq_eq_false_iff_ne.2 c24
        have s24 : (zo != 24) = true := bne_iff_ne.2 c24
        by_cases c26 : zo = 26
        · subst c26
          have hON2 : onS L k = [] := by
            have := hON true false (by rw [hEo]; rfl) (by rw [hJo]; rfl)
            simpa using this
          have HON : Hid (onS L k = []) := hON2
          clear hON hON2 hEo hJo fj
          go_wp2_with fail
          obtain ⟨T, hT⟩ : ∃ T : List Nat, T = [] := ⟨_, rfl⟩
          obtain ⟨gt, hgt0⟩ : ∃ gt, gt = S3 := ⟨_, rfl⟩
          have HT4 : Hid (ToC w4 gt T) := by rw [hT, hgt0]; exact ⟨HS34.out, fun j hj => by simp at hj⟩
          have HGT : Hid (w.heap.size + 2 ≤ gt) := by have := HL3.out; show _ ≤ _; omega
          have HS4 : Hid (Spw w w4 #[.int .i64 z0, .int .i64 z1, .int .i64 z2, .int .i64 z3, .slice (some ⟨g, o', none⟩) n c] H n (.slice (some ⟨g', 0, none⟩) m cap) lv V) := HP4.out
          have HNB : Hid (∀ b, (Value.slice (some ⟨g', 0, none⟩) m cap).ownBlock = some b → b ≠ gt) := fun b hb => by
            have e : g' = b := by simpa [Value.ownBlock] using hb
            have := HG3.out.1
            omega
          have HTL : Hid (T.length = 0) := by rw [hT]; exact rfl
          rw [← hT] at HON
          clear hT hgt0 i0' i1' HP4 HI4 HOT0
          go_loopw [14, 7] (fun i vs wr5 => ∃ (v : Value) (j : Nat) (lv2 : Nat → Int) (W2 : List Nat), vs = v ∧ i = .int .i64 (j : Int) ∧ j ≤ 0 ∧ W2.length ≤ 2 * n + 1 ∧ Hid (Spw w wr5 #[.int .i64 z0, .int .i64 z1, .int .i64 z2, .int .i64 z3, .slice (some ⟨g, o', none⟩) n c] H n v lv2 W2) ∧ Hid (∀ b, v.ownBlock = some b → b ≠ gt) ∧ Hid (ToC wr5 gt T) ∧ Hid (Climb L n lv2 (fun i => i ∈ W2 ∨ i = k) ∧ Wts n lv2 W2) ∧ Hid (∀ i, i < j → T.getD i 0 < n ∧ lv2 (T.getD i 0) = q) ∧ Hid (∀ i, 0 ≤ lv i → lv2 i = lv i) ∧ Hid (2 * unl lv2 n + W2.length ≤ 2 * unl lv n + V.length)) (fun i _ _ => 0 - (intOf i).toNat)
          case atStart => exact ⟨_, 0, lv, V, rfl, rfl, by omega, by omega, HS4, HNB, HT4, HCL, fun i hi => by omega, fun _ _ => rfl, Nat.le_refl _⟩
          case round =>
            obtain ⟨v, j, lv2, W2, hvs, rfl, hj, hW2, HS5, HN5, HT5, HC5, HD5, HE5, HM5⟩ := hrel
            obtain rfl := hvs.symm
            clear HS4 HT4 HNB
            obtain ⟨av, cv, hav⟩ := own_slice HS5.out.row
            by_cases hjT : j < 0
            · exact absurd hjT (by omega)
            · have q0 : decide (j < 0) = false := by simp
              have q1 : decide ((j : Int) < (0 : Int)) = false := by simp
              have HC6 : Hid (Climb L n lv2 (fun i => i ∈ W2) ∧ Wts n lv2 W2) := ⟨HC5.out.1.closed (onS_shut (HE5.out k HK0.out) HTK0.out (fun i hi => by
                rw [HON.out] at hi
                obtain ⟨r, hr, rfl⟩ := List.getElem_of_mem hi
                have d := HD5.out r (by have := HTL.out; omega)
                rw [List.getD_eq_getElem?_getD, List.getElem?_eq_getElem hr] at d
                exact ⟨d.1, by rw [← HQ.out]; exact d.2⟩)) (fun i hi => hi.symm), HC5.out.2⟩
              have HMM : Hid (2 * unlN wr H n + lenV (.slice av W2.length cv) < 2 * unlN wo H n + lenV (.slice (some ⟨g', 0, none⟩) N cap)) := by
                have e1 := HS5.out.len
                have e2 := HS5.out.unls
                rw [hav] at e1
                show _ < _
                rw [HMS.out, e1, e2]
                have := HM5.out
                omega
              have HM7 : Hid (2 * unl lv2 n + W2.length ≤ 2 * n + 1) := by have := HM5.out; have := HMV.out; show _ ≤ _; omega
              clear HN5 HT5 HC5 HD5 HE5 HM5
              rw [hav]
              rw [hav] at HS5
              clear hav
              go_wp2_with fail
              go_roundw
              case rel => exact ⟨_, lv2, W2, rfl, HM7.out, HS5, HC6⟩
              case measure => exact HMM.out
        have t26 : (zo == 26) = false := beq_eq_false_iff_ne.2 c26
        have s26 : (zo != 26) = true := bne_iff_ne.2 c26
        by_cases c21 : zo = 21
        · subst c21
          obtain ⟨hu0, hu1⟩ := fj (by decide)
          obtain ⟨u, rfl⟩ : ∃ u : Nat, za = (u : Int) := ⟨za.toNat, by omega⟩
          have hON2 : onS L k = [k + 1, u] := by
            have := hON false true (by rw [hEo]; rfl) (by rw [hJo]; rfl)
            simpa using this
          have HON : Hid (onS L k = [k + 1, u]) := hON2
          clear hON hON2 hEo hJo fj
          go_wp2_with (at_builtin; refine wpList_append_own_at _ rfl (.tmp 84) (.tmp 87) 62 rfl S3 3 i3 (.int .i64 0) 1 8 Tryd.underlying62 hi3 hy0 hy1 hy2 rfl (by decide) _ _ _ rfl (HOT0.out.alloc _) ⟨w4.heap.size, 0, none⟩ 1 1 [.int .i64 (((k + 1) : Nat) : Int)] rfl rfl ?c1 ?c2 ?c3 ?c4 ?c5 ?_)
          case c1 => exact one_cell3 rfl _
          case c2 => exact one_oneN _ _
          case c3 => unfold maxLen; omega
          case c4 => omega
          case c5 => have := HS34.out; simp; omega
          intro vt0 w5 hot hgt _ _
          have HOT1 : Hid (w5.ownsRow S3 3 1 vt0 1 (rowN ([] ++ [(k + 1)]))) := by rw [rowN_snoc]; exact hot
          have hbl0 : Below S3 w4 w5 := ((Below.refl _ _).alloc (by have := HS34.out; omega) _).grown hgt (by have := HS34.out; simp; omega) (fun b hb => (HOT0.out.lt b hb).1)
          have HBW0 : Hid (Below S3 w4 w5) := hbl0
          obtain ⟨at0, ct0, hvt0⟩ := own_slice HOT1.out
          subst hvt0
          have HI50 : Hid (Bxs w5 wo.heap.size #[.int .i64 21, .int .i64 (u : Int), .int .i64 zb] 38) := (HBW0.out.block _ HG3.out.2).trans HI4.out
          clear hot hgt hbl0 i0' i1'
          have i0' : w5.cell? ⟨wo.heap.size, 0, none⟩ = some (.int .i64 21) := HI50.out.cell 0
          have i1' : w5.cell? ⟨wo.heap.size, 1, none⟩ = some (.int .i64 (u : Int)) := HI50.out.cell 1
          go_wp2_with (at_builtin; refine wpList_append_own_at _ rfl (.tmp 97) (.tmp 100) 62 rfl S3 3 i3 (.int .i64 0) 1 8 Tryd.underlying62 hi3 hy0 hy1 hy2 rfl (by decide) _ _ _ rfl (HOT1.out.alloc _) ⟨w5.heap.size, 0, none⟩ 1 1 [.int .i64 ((u : Nat) : Int)] rfl rfl ?c1 ?c2 ?c3 ?c4 ?c5 ?_)
          case c1 => exact one_cell3 rfl _
          case c2 => exact one_oneN _ _
          case c3 => unfold maxLen; omega
          case c4 => omega
          case c5 => have := HS34.out; have := HBW0.out.size; simp; omega
          intro vt1 w6 hot hgt _ _
          have HOT2 : Hid (w6.ownsRow S3 3 1 vt1 2 (rowN ([k + 1] ++ [u]))) := by rw [rowN_snoc]; exact hot
          have hbl1 : Below S3 w5 w6 := ((Below.refl _ _).alloc (by have := HS34.out; have := HBW0.out.size; omega) _).grown hgt (by have := HS34.out; have := HBW0.out.size; simp; omega) (fun b hb => (HOT1.out.lt b hb).1)
          have HBW1 : Hid (Below S3 w4 w6) := HBW0.out.trans hbl1
          obtain ⟨at1, ct1, hvt1⟩ := own_slice HOT2.out
          subst hvt1
          have HI51 : Hid (Bxs w6 wo.heap.size #[.int .i64 21, .int .i64 (u : Int), .int .i64 zb] 38) := (HBW1.out.block _ HG3.out.2).trans HI4.out
          clear hot hgt hbl1 i0' i1'
          have i0' : w6.cell? ⟨wo.heap.size, 0, none⟩ = some (.int .i64 21) := HI51.out.cell 0
          have i1' : w6.cell? ⟨wo.heap.size, 1, none⟩ = some (.int .i64 (u : Int)) := HI51.out.cell 1
          go_wp2_with fail
          obtain ⟨T, hT⟩ : ∃ T : List Nat, T = [k + 1, u] := ⟨_, rfl⟩
          obtain ⟨gt, hgt1, hgt0⟩ : ∃ gt, at1 = some ⟨gt, 0, none⟩ ∧ S3 ≤ gt := by
            obtain ⟨_, ⟨h, _⟩ | ⟨gt, _, _, h, h2, _⟩⟩ := HOT2.out
            · simp at h
            · simp at h; exact ⟨gt, h.1, h2⟩
          subst hgt1
          have HGT : Hid (w.heap.size + 2 ≤ gt) := by have := HL3.out; show _ ≤ _; omega
          have HT4 : Hid (ToC w6 gt T) := by rw [hT]; exact toC_own HOT2.out
          have HS4 : Hid (Spw w w6 #[.int .i64 z0, .int .i64 z1, .int .i64 z2, .int .i64 z3, .slice (some ⟨g, o', none⟩) n c] H n (.slice (some ⟨g', 0, none⟩) m cap) lv V) := HP4.out.under HBW1.out HL3.out HG3.out.1 (by have := HS34.out; omega)
          have HNB : Hid (∀ b, (Value.slice (some ⟨g', 0, none⟩) m cap).ownBlock = some b → b ≠ gt) := fun b hb => by
            have e : g' = b := by simpa [Value.ownBlock] using hb
            have := HG3.out.1
            omega
          have HTL : Hid (T.length = 2) := by rw [hT]; exact rfl
          rw [← hT] at HON
          clear hT i0' i1' hgt0 HOT0 HOT1 HOT2 HI50 HI51 HBW0 HBW1 HP4 HI4
          go_loopw [14, 7] (fun i vs wr5 => ∃ (v : Value) (j : Nat) (lv2 : Nat → Int) (W2 : List Nat), vs = v ∧ i = .int .i64 (j : Int) ∧ j ≤ 2 ∧ W2.length ≤ 2 * n + 1 ∧ Hid (Spw w wr5 #[.int .i64 z0, .int .i64 z1, .int .i64 z2, .int .i64 z3, .slice (some ⟨g, o', none⟩) n c] H n v lv2 W2) ∧ Hid (∀ b, v.ownBlock = some b → b ≠ gt) ∧ Hid (ToC wr5 gt T) ∧ Hid (Climb L n lv2 (fun i => i ∈ W2 ∨ i = k) ∧ Wts n lv2 W2) ∧ Hid (∀ i, i < j → T.getD i 0 < n ∧ lv2 (T.getD i 0) = q) ∧ Hid (∀ i, 0 ≤ lv i → lv2 i = lv i) ∧ Hid (2 * unl lv2 n + W2.length ≤ 2 * unl lv n + V.length)) (fun i _ _ => 2 - (intOf i).toNat)
          case atStart => exact ⟨_, 0, lv, V, rfl, rfl, by omega, by omega, HS4, HNB, HT4, HCL, fun i hi => by omega, fun _ _ => rfl, Nat.le_refl _⟩
          case round =>
            obtain ⟨v, j, lv2, W2, hvs, rfl, hj, hW2, HS5, HN5, HT5, HC5, HD5, HE5, HM5⟩ := hrel
            obtain rfl := hvs.symm
            clear HS4 HT4 HNB
            obtain ⟨av, cv, hav⟩ := own_slice HS5.out.row
            by_cases hjT : j < 2
            · have q0 : decide (j < 2) = true := by simpa using hjT
              have q1 : decide ((j : Int) < (2 : Int)) = true := by simp; omega
              have hjT' : j < T.length := by rw [HTL.out]; exact hjT
              obtain ⟨x, hx⟩ : ∃ x, x = T.getD j 0 := ⟨_, rfl⟩
              have e0 := HT5.out.2 j hjT'
              rw [← hx] at e0
              have HRX : Hid (Rch L x q) := by
                have hm : x ∈ onS L k := by rw [HON.out, hx, List.getD_eq_getElem?_getD, List.getElem?_eq_getElem hjT']; exact List.getElem_mem hjT'
                have := onS_rch HR0.out hm
                unfold Hid
                rw [HQ.out]
                exact this
              have hgt := HT5.out.1
              have HX : Hid (x = T.getD j 0) := hx
              clear hx hjT'
              by_cases hxn : n ≤ x
              · have p1 : decide ((n : Int) ≤ (x : Int)) = true := by simp; omega
                have p1' : decide (n ≤ x) = true := by simp; omega
                have HG : Hid (¬ Good L n) := (show NoStp n lv2 x q from Or.inl hxn).bad HC5.out.1 HRX.out
                have HSE : Hid (w.heap.size ≤ H ∧ Own wr H n (numF lv2) ∧ Below w.heap.size w wr) := ⟨by have := HH.out; omega, HS5.out.own, HS5.out.bel⟩
                clear HS5 HN5 HT5 HC5 HD5 HE5 HM5 HRX HX hav
                go_wp2_with fail
                refine bodyPost_ret (v := .tuple #[.slice (some ⟨H, 0, none⟩) n n, .bool false]) ?_ rfl ⟨H, lv2, false, rfl, HSE.out.1, HSE.out.2.1, HSE.out.2.2, by rw [if_neg (by simp)]; exact HG.out⟩
                simp [results, Tryd.results24, go_sem]
              have p1 : decide ((n : Int) ≤ (x : Int)) = false := by simp; omega
              have p1' : decide (n ≤ x) = false := by simp; omega
              by_cases h60 : 60 < q
              · have p2 : decide (60 < q) = true := by simpa using h60
                have HG : Hid (¬ Good L n) := (show NoStp n lv2 x q from Or.inr (Or.inl h60)).bad HC5.out.1 HRX.out
                have HSE : Hid (w.heap.size ≤ H ∧ Own wr H n (numF lv2) ∧ Below w.heap.size w wr) := ⟨by have := HH.out; omega, HS5.out.own, HS5.out.bel⟩
                clear HS5 HN5 HT5 HC5 HD5 HE5 HM5 HRX HX hav
                go_wp2_with fail
                refine bodyPost_ret (v := .tuple #[.slice (some ⟨H, 0, none⟩) n n, .bool false]) ?_ rfl ⟨H, lv2, false, rfl, HSE.out.1, HSE.out.2.1, HSE.out.2.2, by rw [if_neg (by simp)]; exact HG.out⟩
                simp [results, Tryd.results24, go_sem]
              have p2 : decide (60 < q) = false := by simpa using h60
              have hxlt : x < n := by omega
              have d0 : wr.cell? ⟨H, x, none⟩ = some (.int .i64 (lv2 x)) := HS5.out.own.2.1 x hxlt
              by_cases hz : lv2 x < 0
              · have p3 : decide (0 ≤ lv2 x) = false := by simp; omega
                have p4 : decide (lv2 x < 0) = true := by simpa using hz
                have hf : wr.frozen? ⟨H, x, none⟩ = false := HS5.out.own.2.2 x
                have hSt : Stp lv2 W2 (putL lv2 x q) (W2 ++ [x]) x q := Or.inl ⟨hz, rfl, rfl⟩
                obtain ⟨s1, s2, s3, s4, s5⟩ := hSt.climb HC5.out.1 HC5.out.2 HRX.out hq0.1 (by omega) hxlt
                have HC6 : Hid (Climb L n (putL lv2 x q) (fun i => i ∈ W2 ++ [x] ∨ i = k) ∧ Wts n (putL lv2 x q) (W2 ++ [x])) := ⟨s1, s2⟩
                have HD6 : Hid (∀ i, i < j + 1 → T.getD i 0 < n ∧ putL lv2 x q (T.getD i 0) = q) := fun i hi => by
                  by_cases e : i = j
                  · rw [e, ← HX.out]; exact ⟨hxlt, s3⟩
                  · have d := HD5.out i (by omega)
                    exact ⟨d.1, by rw [s4 _ (by rw [d.2]; exact hq0.1)]; exact d.2⟩
                have HE6 : Hid (∀ i, 0 ≤ lv i → putL lv2 x q i = lv i) := fun i hi => by
                  have e := HE5.out i hi
                  rw [s4 i (by rw [e]; exact hi)]; exact e
                have HM6 : Hid (2 * unl (putL lv2 x q) n + (W2 ++ [x]).length ≤ 2 * unl lv n + V.length) := Nat.le_trans s5 HM5.out
                have hlt5 := HS5.out.lt
                have hgH : gt ≠ H := by have a1 := HGT.out; have := HS5.out.hh; omega
                have hHg : H ≠ gt := Ne.symm hgH
                have HOs : Hid ((wr.setCell ⟨H, x, none⟩ (.int .i64 q)).ownsRow (w.heap.size + 2) 3 1 (.slice av W2.length cv) W2.length (rowN W2)) := by
                  have := HS5.out.row
                  rw [hav] at this
                  exact this.kept (setGrown (World.grownBy.refl wr (some H))) (Or.inr fun e => by have a1 := (this.lt H e).1; have := HS5.out.hh; omega)
                have hl6 : W2.length + 1 ≤ 2 * n + 1 := by
                  have a1 := HM6.out
                  have a2 := HMV.out
                  rw [List.length_append, List.length_singleton] at a1
                  omega
                clear s1 s2 s3 s4 s5 hSt HC5 HD5 HE5 HM5 HRX
                rw [hav]
                generalize hzz : lv2 x = zz at d0 p3 p4
                clear hzz
                go_wp2_with (at_builtin; refine wpList_append_own_at _ rfl (.tmp 155) (.tmp 160) 62 rfl (w.heap.size + 2) 3 i3 (.int .i64 0) 1 8 Tryd.underlying62 hi3 hy0 hy1 hy2 rfl (by decide) _ _ _ rfl (HOs.out.alloc _) ⟨wr.heap.size, 0, none⟩ 1 1 [.int .i64 (x : Int)] rfl rfl (one_cell3 (by simp) _) ?c2 ?c3 ?c4 ?c5 ?_)
                case c2 => first | exact one_oneN _ _ | rfl
                case c3 => unfold maxLen; omega
                case c4 => omega
                case c5 => first | omega | (simp; omega)
                intro v' w6 hown6 hg6 _ hbl6
                have hS6 := Spw.push (hav ▸ HS5.out) hxlt hg6 hown6
                have HS6 : Hid (Spw w w6 #[.int .i64 z0, .int .i64 z1, .int .i64 z2, .int .i64 z3, .slice (some ⟨g, o', none⟩) n c] H n v' (putL lv2 x q) (W2 ++ [x])) := hS6
                have HT6 : Hid (ToC w6 gt T) := HT5.out.push (by have a1 := HGT.out; have := HS5.out.hh; omega) (fun e => by rw [← hav] at e; exact (HN5.out gt e.symm) rfl) hg6
                have HN6 : Hid (∀ b, v'.ownBlock = some b → b ≠ gt) := fun b hb e => by
                  rcases hbl6 with h | h
                  · rw [h, ← hav] at hb; exact HN5.out b hb e
                  · rw [h] at hb
                    simp at hb
                    omega
                obtain ⟨av', cv', hav'⟩ := own_slice hown6
                subst hav'
                clear hown6 hg6 hbl6 hS6 HS5 HN5 HT5 HOs hav d0 e0 hf HX
                go_wp2_with fail
                go_roundw
                case rel => exact ⟨_, j + 1, _, _, rfl, by go_num, by omega, by simp; omega, HS6, HN6, HT6, HC6, HD6, HE6, HM6⟩
                case measure => simp [intOf]; omega
              · have p3 : decide (0 ≤ lv2 x) = true := by simp; omega
                have p4 : decide (lv2 x < 0) = false := by simp; omega
                by_cases he : lv2 x = q
                · have p5 : (lv2 x != q) = false := by rw [he]; simp
                  have HD6 : Hid (∀ i, i < j + 1 → T.getD i 0 < n ∧ lv2 (T.getD i 0) = q) := fun i hi => by
                    by_cases e : i = j
                    · rw [e, ← HX.out]; exact ⟨hxlt, he⟩
                    · exact HD5.out i (by omega)
                  clear he hz
                  generalize hzz : lv2 x = zz at d0 p3 p4 p5
                  clear HRX HD5 HX hzz
                  rw [hav]
                  rw [hav] at HS5 HN5
                  clear hav
                  go_wp2_with fail
                  go_roundw
                  case rel => exact ⟨_, j + 1, lv2, W2, rfl, by go_num, by omega, hW2, HS5, HN5, HT5, HC5, HD6, HE5, HM5⟩
                  case measure => simp [intOf]; omega
                · have p5 : (lv2 x != q) = true := by simpa using he
                  have HG : Hid (¬ Good L n) := (show NoStp n lv2 x q from Or.inr (Or.inr ⟨hxlt, by omega, he⟩)).bad HC5.out.1 HRX.out
                  have HSE : Hid (w.heap.size ≤ H ∧ Own wr H n (numF lv2) ∧ Below w.heap.size w wr) := ⟨by have := HH.out; omega, HS5.out.own, HS5.out.bel⟩
                  clear he hz
                  generalize hzz : lv2 x = zz at d0 p3 p4 p5
                  clear HS5 HN5 HT5 HC5 HD5 HE5 HM5 HRX HX hzz hav
                  go_wp2_with fail
                  refine bodyPost_ret (v := .tuple #[.slice (some ⟨H, 0, none⟩) n n, .bool false]) ?_ rfl ⟨H, lv2, false, rfl, HSE.out.1, HSE.out.2.1, HSE.out.2.2, by rw [if_neg (by simp)]; exact HG.out⟩
                  simp [results, Tryd.results24, go_sem]
            · have q0 : decide (j < 2) = false := by simpa using hjT
              have q1 : decide ((j : Int) < (2 : Int)) = false := by simp; omega
              have HC6 : Hid (Climb L n lv2 (fun i => i ∈ W2) ∧ Wts n lv2 W2) := ⟨HC5.out.1.closed (onS_shut (HE5.out k HK0.out) HTK0.out (fun i hi => by
                rw [HON.out] at hi
                obtain ⟨r, hr, rfl⟩ := List.getElem_of_mem hi
                have d := HD5.out r (by have := HTL.out; omega)
                rw [List.getD_eq_getElem?_getD, List.getElem?_eq_getElem hr] at d
                exact ⟨d.1, by rw [← HQ.out]; exact d.2⟩)) (fun i hi => hi.symm), HC5.out.2⟩
              have HMM : Hid (2 * unlN wr H n + lenV (.slice av W2.length cv) < 2 * unlN wo H n + lenV (.slice (some ⟨g', 0, none⟩) N cap)) := by
                have e1 := HS5.out.len
                have e2 := HS5.out.unls
                rw [hav] at e1
                show _ < _
                rw [HMS.out, e1, e2]
                have := HM5.out
                omega
              have HM7 : Hid (2 * unl lv2 n + W2.length ≤ 2 * n + 1) := by have := HM5.out; have := HMV.out; show _ ≤ _; omega
              clear HN5 HT5 HC5 HD5 HE5 HM5
              rw [hav]
              rw [hav] at HS5
              clear hav
              go_wp2_with fail
              go_roundw
              case rel => exact ⟨_, lv2, W2, rfl, HM7.out, HS5, HC6⟩
              case measure => exact HMM.out
        have t21 : (zo == 21) = false := beq_eq_false_iff_ne.2 c21
        have s21 : (zo != 21) = true := bne_iff_ne.2 c21
        have hON2 : onS L k = [k + 1] := by
          have := hON false false (by rw [hEo, t22, t24, t26]; rfl) (by rw [hJo, t21, t22]; rfl)
          simpa using this
        have HON : Hid (onS L k = [k + 1]) := hON2
        clear hON hON2 hEo hJo fj
        go_wp2_with (at_builtin; refine wpList_append_own_at _ rfl (.tmp 84) (.tmp 87) 62 rfl S3 3 i3 (.int .i64 0) 1 8 Tryd.underlying62 hi3 hy0 hy1 hy2 rfl (by decide) _ _ _ rfl (HOT0.out.alloc _) ⟨w4.heap.size, 0, none⟩ 1 1 [.int .i64 (((k + 1) : Nat) : Int)] rfl rfl ?c1 ?c2 ?c3 ?c4 ?c5 ?_)
        case c1 => exact one_cell3 rfl _
        case c2 => exact one_oneN _ _
        case c3 => unfold maxLen; omega
        case c4 => omega
        case c5 => have := HS34.out; simp; omega
        intro vt0 w5 hot hgt _ _
        have HOT1 : Hid (w5.ownsRow S3 3 1 vt0 1 (rowN ([] ++ [(k + 1)]))) := by rw [rowN_snoc]; exact hot
        have hbl0 : Below S3 w4 w5 := ((Below.refl _ _).alloc (by have := HS34.out; omega) _).grown hgt (by have := HS34.out; simp; omega) (fun b hb => (HOT0.out.lt b hb).1)
        have HBW0 : Hid (Below S3 w4 w5) := hbl0
        obtain ⟨at0, ct0, hvt0⟩ := own_slice HOT1.out
        subst hvt0
        have HI50 : Hid (Bxs w5 wo.heap.size #[.int .i64 zo, .int .i64 za, .int .i64 zb] 38) := (HBW0.out.block _ HG3.out.2).trans HI4.out
        clear hot hgt hbl0 i0' i1'
        have i0' : w5.cell? ⟨wo.heap.size, 0, none⟩ = some (.int .i64 zo) := HI50.out.cell 0
        have i1' : w5.cell? ⟨wo.heap.size, 1, none⟩ = some (.int .i64 za) := HI50.out.cell 1
        go_wp2_with fail
        obtain ⟨T, hT⟩ : ∃ T : List Nat, T = [k + 1] := ⟨_, rfl⟩
        obtain ⟨gt, hgt1, hgt0⟩ : ∃ gt, at0 = some ⟨gt, 0, none⟩ ∧ S3 ≤ gt := by
          obtain ⟨_, ⟨h, _⟩ | ⟨gt, _, _, h, h2, _⟩⟩ := HOT1.out
          · simp at h
          · simp at h; exact ⟨gt, h.1, h2⟩
        subst hgt1
        have HGT : Hid (w.heap.size + 2 ≤ gt) := by have := HL3.out; show _ ≤ _; omega
        have HT4 : Hid (ToC w5 gt T) := by rw [hT]; exact toC_own HOT1.out
        have HS4 : Hid (Spw w w5 #[.int .i64 z0, .int .i64 z1, .int .i64 z2, .int .i64 z3, .slice (some ⟨g, o', none⟩) n c] H n (.slice (some ⟨g', 0, none⟩) m cap) lv V) := HP4.out.under HBW0.out HL3.out HG3.out.1 (by have := HS34.out; omega)
        have HNB : Hid (∀ b, (Value.slice (some ⟨g', 0, none⟩) m cap).ownBlock = some b → b ≠ gt) := fun b hb => by
          have e : g' = b := by simpa [Value.ownBlock] using hb
          have := HG3.out.1
          omega
        have HTL : Hid (T.length = 1) := by rw [hT]; exact rfl
        rw [← hT] at HON
        clear hT i0' i1' hgt0 HOT0 HOT1 HI50 HBW0 HP4 HI4
        go_loopw [14, 7] (fun i vs wr5 => ∃ (v : Value) (j : Nat) (lv2 : Nat → Int) (W2 : List Nat), vs = v ∧ i = .int .i64 (j : Int) ∧ j ≤ 1 ∧ W2.length ≤ 2 * n + 1 ∧ Hid (Spw w wr5 #[.int .i64 z0, .int .i64 z1, .int .i64 z2, .int .i64 z3, .slice (some ⟨g, o', none⟩) n c] H n v lv2 W2) ∧ Hid (∀ b, v.ownBlock = some b → b ≠ gt) ∧ Hid (ToC wr5 gt T) ∧ Hid (Climb L n lv2 (fun i => i ∈ W2 ∨ i = k) ∧ Wts n lv2 W2) ∧ Hid (∀ i, i < j → T.getD i 0 < n ∧ lv2 (T.getD i 0) = q) ∧ Hid (∀ i, 0 ≤ lv i → lv2 i = lv i) ∧ Hid (2 * unl lv2 n + W2.length ≤ 2 * unl lv n + V.length)) (fun i _ _ => 1 - (intOf i).toNat)
        case atStart => exact ⟨_, 0, lv, V, rfl, rfl, by omega, by omega, HS4, HNB, HT4, HCL, fun i hi => by omega, fun _ _ => rfl, Nat.le_refl _⟩
        case round =>
          obtain ⟨v, j, lv2, W2, hvs, rfl, hj, hW2, HS5, HN5, HT5, HC5, HD5, HE5, HM5⟩ := hrel
          obtain rfl := hvs.symm
          clear HS4 HT4 HNB
          obtain ⟨av, cv, hav⟩ := own_slice HS5.out.row
          by_cases hjT : j < 1
          · have q0 : decide (j < 1) = true := by simpa using hjT
            have q1 : decide ((j : Int) < (1 : Int)) = true := by simp; omega
            have hjT' : j < T.length := by rw [HTL.out]; exact hjT
            obtain ⟨x, hx⟩ : ∃ x, x = T.getD j 0 := ⟨_, rfl⟩
            have e0 := HT5.out.2 j hjT'
            rw [← hx] at e0
            have HRX : Hid (Rch L x q) := by
              have hm : x ∈ onS L k := by rw [HON.out, hx, List.getD_eq_getElem?_getD, List.getElem?_eq_getElem hjT']; exact List.getElem_mem hjT'
              have := onS_rch HR0.out hm
              unfold Hid
              rw [HQ.out]
              exact this
            have hgt := HT5.out.1
            have HX : Hid (x = T.getD j 0) := hx
            clear hx hjT'
            by_cases hxn : n ≤ x
            · have p1 : decide ((n : Int) ≤ (x : Int)) = true := by simp; omega
              have p1' : decide (n ≤ x) = true := by simp; omega
              have HG : Hid (¬ Good L n) := (show NoStp n lv2 x q from Or.inl hxn).bad HC5.out.1 HRX.out
              have HSE : Hid (w.heap.size ≤ H ∧ Own wr H n (numF lv2) ∧ Below w.heap.size w wr) := ⟨by have := HH.out; omega, HS5.out.own, HS5.out.bel⟩
              clear HS5 HN5 HT5 HC5 HD5 HE5 HM5 HRX HX hav
              go_wp2_with fail
              refine bodyPost_ret (v := .tuple #[.slice (some ⟨H, 0, none⟩) n n, .bool false]) ?_ rfl ⟨H, lv2, false, rfl, HSE.out.1, HSE.out.2.1, HSE.out.2.2, by rw [if_neg (by simp)]; exact HG.out⟩
              simp [results, Tryd.results24, go_sem]
            have p1 : decide ((n : Int) ≤ (x : Int)) = false := by simp; omega
            have p1' : decide (n ≤ x) = false := by simp; omega
            by_cases h60 : 60 < q
            · have p2 : decide (60 < q) = true := by simpa using h60
              have HG : Hid (¬ Good L n) := (show NoStp n lv2 x q from Or.inr (Or.inl h60)).bad HC5.out.1 HRX.out
              have HSE : Hid (w.heap.size ≤ H ∧ Own wr H n (numF lv2) ∧ Below w.heap.size w wr) := ⟨by have := HH.out; omega, HS5.out.own, HS5.out.bel⟩
              clear HS5 HN5 HT5 HC5 HD5 HE5 HM5 HRX HX hav
              go_wp2_with fail
              refine bodyPost_ret (v := .tuple #[.slice (some ⟨H, 0, none⟩) n n, .bool false]) ?_ rfl ⟨H, lv2, false, rfl, HSE.out.1, HSE.out.2.1, HSE.out.2.2, by rw [if_neg (by simp)]; exact HG.out⟩
              simp [results, Tryd.results24, go_sem]
            have p2 : decide (60 < q) = false := by simpa using h60
            have hxlt : x < n := by omega
            have d0 : wr.cell? ⟨H, x, none⟩ = some (.int .i64 (lv2 x)) := HS5.out.own.2.1 x hxlt
            by_cases hz : lv2 x < 0
            · have p3 : decide (0 ≤ lv2 x) = false := by simp; omega
              have p4 : decide (lv2 x < 0) = true := by simpa using hz
              have hf : wr.frozen? ⟨H, x, none⟩ = false := HS5.out.own.2.2 x
              have hSt : Stp lv2 W2 (putL lv2 x q) (W2 ++ [x]) x q := Or.inl ⟨hz, rfl, rfl⟩
              obtain ⟨s1, s2, s3, s4, s5⟩ := hSt.climb HC5.out.1 HC5.out.2 HRX.out hq0.1 (by omega) hxlt
              have HC6 : Hid (Climb L n (putL lv2 x q) (fun i => i ∈ W2 ++ [x] ∨ i = k) ∧ Wts n (putL lv2 x q) (W2 ++ [x])) := ⟨s1, s2⟩
              have HD6 : Hid (∀ i, i < j + 1 → T.getD i 0 < n ∧ putL lv2 x q (T.getD i 0) = q) := fun i hi => by
                by_cases e : i = j
                · rw [e, ← HX.out]; exact ⟨hxlt, s3⟩
                · have d := HD5.out i (by omega)
                  exact ⟨d.1, by rw [s4 _ (by rw [d.2]; exact hq0.1)]; exact d.2⟩
              have HE6 : Hid (∀ i, 0 ≤ lv i → putL lv2 x q i = lv i) := fun i hi => by
                have e := HE5.out i hi
                rw [s4 i (by rw [e]; exact hi)]; exact e
              have HM6 : Hid (2 * unl (putL lv2 x q) n + (W2 ++ [x]).length ≤ 2 * unl lv n + V.length) := Nat.le_trans s5 HM5.out
              have hlt5 := HS5.out.lt
              have hgH : gt ≠ H := by have a1 := HGT.out; have := HS5.out.hh; omega
              have hHg : H ≠ gt := Ne.symm hgH
              have HOs : Hid ((wr.setCell ⟨H, x, none⟩ (.int .i64 q)).ownsRow (w.heap.size + 2) 3 1 (.slice av W2.length cv) W2.length (rowN W2)) := by
                have := HS5.out.row
                rw [hav] at this
                exact this.kept (setGrown (World.grownBy.refl wr (some H))) (Or.inr fun e => by have a1 := (this.lt H e).1; have := HS5.out.hh; omega)
              have hl6 : W2.length + 1 ≤ 2 * n + 1 := by
                have a1 := HM6.out
                have a2 := HMV.out
                rw [List.length_append, List.length_singleton] at a1
                omega
              clear s1 s2 s3 s4 s5 hSt HC5 HD5 HE5 HM5 HRX
              rw [hav]
              generalize hzz : lv2 x = zz at d0 p3 p4
              clear hzz
              go_wp2_with (at_builtin; refine wpList_append_own_at _ rfl (.tmp 155) (.tmp 160) 62 rfl (w.heap.size + 2) 3 i3 (.int .i64 0) 1 8 Tryd.underlying62 hi3 hy0 hy1 hy2 rfl (by decide) _ _ _ rfl (HOs.out.alloc _) ⟨wr.heap.size, 0, none⟩ 1 1 [.int .i64 (x : Int)] rfl rfl (one_cell3 (by simp) _) ?c2 ?c3 ?c4 ?c5 ?_)
              case c2 => first | exact one_oneN _ _ | rfl
              case c3 => unfold maxLen; omega
              case c4 => omega
              case c5 => first | omega | (simp; omega)
              intro v' w6 hown6 hg6 _ hbl6
              have hS6 := Spw.push (hav ▸ HS5.out) hxlt hg6 hown6
              have HS6 : Hid (Spw w w6 #[.int .i64 z0, .int .i64 z1, .int .i64 z2, .int .i64 z3, .slice (some ⟨g, o', none⟩) n c] H n v' (putL lv2 x q) (W2 ++ [x])) := hS6
              have HT6 : Hid (ToC w6 gt T) := HT5.out.push (by have a1 := HGT.out; have := HS5.out.hh; omega) (fun e => by rw [← hav] at e; exact (HN5.out gt e.symm) rfl) hg6
              have HN6 : Hid (∀ b, v'.ownBlock = some b → b ≠ gt) := fun b hb e => by
                rcases hbl6 with h | h
                · rw [h, ← hav] at hb; exact HN5.out b hb e
                · rw [h] at hb
                  simp at hb
                  omega
              obtain ⟨av', cv', hav'⟩ := own_slice hown6
              subst hav'
              clear hown6 hg6 hbl6 hS6 HS5 HN5 HT5 HOs hav d0 e0 hf HX
              go_wp2_with fail
              go_roundw
              case rel => exact ⟨_, j + 1, _, _, rfl, by go_num, by omega, by simp; omega, HS6, HN6, HT6, HC6, HD6, HE6, HM6⟩
              case measure => simp [intOf]; omega
            · have p3 : decide (0 ≤ lv2 x) = true := by simp; omega
              have p4 : decide (lv2 x < 0) = false := by simp; omega
              by_cases he : lv2 x = q
              · have p5 : (lv2 x != q) = false := by rw [he]; simp
                have HD6 : Hid (∀ i, i < j + 1 → T.getD i 0 < n ∧ lv2 (T.getD i 0) = q) := fun i hi => by
                  by_cases e : i = j
                  · rw [e, ← HX.out]; exact ⟨hxlt, he⟩
                  · exact HD5.out i (by omega)
                clear he hz
                generalize hzz : lv2 x = zz at d0 p3 p4 p5
                clear HRX HD5 HX hzz
                rw [hav]
                rw [hav] at HS5 HN5
                clear hav
                go_wp2_with fail
                go_roundw
                case rel => exact ⟨_, j + 1, lv2, W2, rfl, by go_num, by omega, hW2, HS5, HN5, HT5, HC5, HD6, HE5, HM5⟩
                case measure => simp [intOf]; omega
              · have p5 : (lv2 x != q) = true := by simpa using he
                have HG : Hid (¬ Good L n) := (show NoStp n lv2 x q from Or.inr (Or.inr ⟨hxlt, by omega, he⟩)).bad HC5.out.1 HRX.out
                have HSE : Hid (w.heap.size ≤ H ∧ Own wr H n (numF lv2) ∧ Below w.heap.size w wr) := ⟨by have := HH.out; omega, HS5.out.own, HS5.out.bel⟩
                clear he hz
                generalize hzz : lv2 x = zz at d0 p3 p4 p5
                clear HS5 HN5 HT5 HC5 HD5 HE5 HM5 HRX HX hzz hav
                go_wp2_with fail
                refine bodyPost_ret (v := .tuple #[.slice (some ⟨H, 0, none⟩) n n, .bool false]) ?_ rfl ⟨H, lv2, false, rfl, HSE.out.1, HSE.out.2.1, HSE.out.2.2, by rw [if_neg (by simp)]; exact HG.out⟩
                simp [results, Tryd.results24, go_sem]
          · have q0 : decide (j < 1) = false := by simpa using hjT
            have q1 : decide ((j : Int) < (1 : Int)) = false := by simp; omega
            have HC6 : Hid (Climb L n lv2 (fun i => i ∈ W2) ∧ Wts n lv2 W2) := ⟨HC5.out.1.closed (onS_shut (HE5.out k HK0.out) HTK0.out (fun i hi => by
              rw [HON.out] at hi
              obtain ⟨r, hr, rfl⟩ := List.getElem_of_mem hi
              have d := HD5.out r (by have := HTL.out; omega)
              rw [List.getD_eq_getElem?_getD, List.getElem?_eq_getElem hr] at d
              exact ⟨d.1, by rw [← HQ.out]; exact d.2⟩)) (fun i hi => hi.symm), HC5.out.2⟩
            have HMM : Hid (2 * unlN wr H n + lenV (.slice av W2.length cv) < 2 * unlN wo H n + lenV (.slice (some ⟨g', 0, none⟩) N cap)) := by
              have e1 := HS5.out.len
              have e2 := HS5.out.unls
              rw [hav] at e1
              show _ < _
              rw [HMS.out, e1, e2]
              have := HM5.out
              omega
            have HM7 : Hid (2 * unl lv2 n + W2.length ≤ 2 * n + 1) := by have := HM5.out; have := HMV.out; show _ ≤ _; omega
            clear HN5 HT5 HC5 HD5 HE5 HM5
            rw [hav]
            rw [hav] at HS5
            clear hav
            go_wp2_with fail
            go_roundw
            case rel => exact ⟨_, lv2, W2, rfl, HM7.out, HS5, HC6⟩
            case measure => exact HMM.out
end Go.Proofs.YtdbahildcecgbaaDoor
