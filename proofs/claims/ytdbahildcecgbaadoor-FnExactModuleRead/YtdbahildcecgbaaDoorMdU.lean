/- Numbers read one behind the other: what the program's reader makes of a module. -/
import Derived.Test.YtdbahildcecgbaaDoorMdT
import Derived.Deep.RegionLaw
import Derived.Deep.AppendLies
namespace Go.Proofs.YtdbahildcecgbaaDoor
open Go.RowKit
open Go.Proofs.YtdbahildcecgbaaDoor.Draw

def insC1 (x : In) : List Value := [.int .i64 x.o, .int .i64 x.a, .int .i64 x.b]
def insC (L : Nat → In) : Nat → List Value
  | 0 => []
  | k + 1 => insC L k ++ insC1 (L k)
theorem insC_len (L : Nat → In) (k : Nat) : (insC L k).length = k * 3 := by
  induction k with
  | zero => rfl
  | succ k ih => rw [insC, List.length_append, ih]; simp [insC1]; omega
theorem insC1_at (L : Nat → In) (i r : Nat) (h : r < 3) : (insC1 (L i))[r]? = some (insF L (i * 3 + r)) := by
  have e1 : (i * 3 + r) / 3 = i := by omega
  have e2 : (i * 3 + r) % 3 = r := by omega
  unfold insF insC1
  rw [e1, e2]
  rcases (by omega : r = 0 ∨ r = 1 ∨ r = 2) with rfl | rfl | rfl <;> rfl
theorem insC_at (L : Nat → In) (k j : Nat) (h : j < k * 3) : (insC L k)[j]? = some (insF L j) := by
  induction k with
  | zero => omega
  | succ k ih =>
    rw [insC]
    by_cases hj : j < k * 3
    · rw [List.getElem?_append_left (by rw [insC_len]; exact hj)]; exact ih hj
    · rw [List.getElem?_append_right (by rw [insC_len]; omega), insC_len, insC1_at L k _ (by omega)]
      congr 2; omega
/-- An owned row of instructions as its cells. -/
theorem own_inss {w : World} {B n : Nat} {v : Value} {L : Nat → In} (h : w.ownsRow B 38 3 v n (insC L n)) : ∃ a cap, v = .slice a n cap ∧ OwnR w a n 3 (insF L) ∧ ∀ k, a.map Addr.block = some k → B ≤ k ∧ k < w.heap.size := by
  obtain ⟨_, ⟨rfl, rfl⟩ | ⟨g, cap, cur, rfl, hB, hblk, _⟩⟩ := id h
  · exact ⟨none, 0, rfl, Or.inl rfl, fun k e => by cases e⟩
  · refine ⟨_, cap, rfl, Or.inr ⟨g, rfl, (own_row h (fun j hj => insC_at L n j hj)).1⟩, fun k e => ?_⟩
    simp at e
    subst e
    exact ⟨hB, (Array.getElem?_eq_some_iff.1 hblk).1⟩
theorem news3 (w : World) (x0 x1 x2 : Value) : ∀ j u, [x0, x1, x2][j]? = some u → (w.alloc (.cells #[x0, x1, x2] 38)).cell? ((⟨w.heap.size, 0, none⟩ : Addr).add j) = some u := by
  intro j u hj
  have hadd : (⟨w.heap.size, 0, none⟩ : Addr).add j = ⟨w.heap.size, j, none⟩ := by unfold Addr.add; split <;> simp_all
  rw [hadd, World.cell?_alloc_new, ← hj]
  simp
theorem ones3 (x0 x1 x2 : Int) : ∀ u ∈ [Value.int .i64 x0, .int .i64 x1, .int .i64 x2], u.oneCell' = true := by
  intro u hu; simp at hu; rcases hu with rfl | rfl | rfl <;> rfl
/-- The instructions that are read. -/
def rowL (s : ByteArray) (i : Nat) : In := ⟨vlu s (5 + 3 * i), vlu s (5 + 3 * i + 1), vlu s (5 + 3 * i + 1 + 1)⟩
/-- How a reading of a module ends: the place and the code. -/
def RdEnd (s : ByteArray) (m : Nat) (p c : Int) : Prop :=
  ((∀ i, i < 5 → cod s i = 0) ∧ 1 ≤ m ∧ m ≤ 2000 ∧ (m : Int) = num s 4 ∧ RdSt s (5 + 3 * m) p c ∧ c = 0) ∨ ((∀ i, i < 5 → cod s i = 0) ∧ ¬ (1 ≤ num s 4 ∧ num s 4 ≤ 2000) ∧ p = plc s 4 ∧ c = 1) ∨ (∃ K, RdSt s K p c ∧ c ≠ 0 ∧ (K = 5 ∨ ((∀ i, i < 5 → cod s i = 0) ∧ 1 ≤ num s 4 ∧ num s 4 ≤ 2000 ∧ (K : Int) ≤ 5 + 3 * num s 4)))
theorem infoInsU : (Tryd.prog.info? 38).map (fun i => (i.zero, i.size, i.bytes)) = some (some (.agg #[.int .i64 0, .int .i64 0, .int .i64 0]), 3, 24) := by kernel_rfl
def MdOut (b : Nat) (s : ByteArray) (w : World) (e : Ending) (w' : World) : Prop := ∃ (a : Option Addr) (m cap : Nat) (p c : Int), e = .returned (.agg #[.int .i64 (vlu s 0), .int .i64 (vlu s 1), .int .i64 (vlu s 2), .int .i64 (vlu s 3), .slice a m cap]) ∧ Bxs w' b #[.string s, .int .i64 p, .int .i64 c] 41 ∧ Tn b w w' ∧ OwnR w' a m 3 (insF (rowL s)) ∧ (∀ k, a.map Addr.block = some k → w.heap.size ≤ k ∧ k < w'.heap.size) ∧ RdEnd s m p c
theorem Tn.own {b B e size n : Nat} {w w' : World} {v : Value} {xs : List Value} (h : Tn b w w') (ho : w.ownsRow B e size v n xs) (hb : b < B) : w'.ownsRow B e size v n xs := by
  rcases ho with ⟨h1, h2 | ⟨g, cap, cur, rfl, hg0, hr, r⟩⟩
  · exact ⟨h1, Or.inl h2⟩
  · exact ⟨h1, Or.inr ⟨g, cap, cur, rfl, hg0, (h.block g (Array.getElem?_eq_some_iff.1 hr).1 (by omega)).trans hr, r⟩⟩
theorem Tn.grown {b : Nat} {w w' W : World} {row : Option Nat} (h : Tn b w w') (hg : w'.grownBy W row) (hr : ∀ k, row = some k → w.heap.size ≤ k) : Tn b w W :=
  ⟨h.low.grown hg (Nat.zero_le _) (fun _ _ => Nat.zero_le _), fun j hj hne => (hg.block j (Nat.lt_of_lt_of_le hj h.size) (fun e => by have := hr j e.symm; omega)).trans (h.block j hj hne)⟩
theorem Bxs.grown {w W : World} {j : Nat} {cs : Array Value} {t : TypeId} {row : Option Nat} (h : Bxs w j cs t) (hg : w.grownBy W row) (hr : row ≠ some j) : Bxs W j cs t := (hg.block j h.lt (fun e => hr e.symm)).trans h
theorem own_set {w : World} {B e size n M i : Nat} {v u : Value} {xs : List Value} (ho : w.ownsRow B e size v n xs) (hb : M < B) : (w.setCell ⟨M, i, none⟩ u).ownsRow B e size v n xs := ((Tn.refl M w).set i u).own ho hb
theorem OwnR.setM {w : World} {a : Option Addr} {n c b j : Nat} {F : Nat → Value} {u : Value} (h : OwnR w a n c F) (hne : ∀ k, a.map Addr.block = some k → k ≠ b) : OwnR (w.setCell ⟨b, j, none⟩ u) a n c F := h.grown (setGrown (World.grownBy.refl _ _)) (fun k e => by simpa using hne k e)
theorem RdAt.drew {b k : Nat} {s : ByteArray} {w W : World} (h : RdAt b s k w W) : RdAt b s k w W.drew := by
  obtain ⟨p, c, h1, h2, h3⟩ := h
  exact ⟨p, c, h1, h2, h3.drew⟩
theorem RdAt.trans {b k j : Nat} {s : ByteArray} {w W W' : World} (h : RdAt b s k w W) (h' : RdAt b s j W W') : RdAt b s j w W' := by
  obtain ⟨_, _, _, _, ht⟩ := h
  obtain ⟨p, c, h1, h2, h3⟩ := h'
  exact ⟨p, c, h1, h2, ht.trans h3⟩
set_option maxRecDepth 100000 in
set_option maxHeartbeats 32000000 in
theorem impl_module (s : ByteArray) (hs : s.size ≤ 20000) (b : Nat) (w : World) (hx : Bxs w b #[.string s, .int .i64 0, .int .i64 0] 41) :
    Calls Tryd.prog 14 #[.pointer (some ⟨b, 0, none⟩)] w (MdOut b s w) := by
  obtain ⟨i0, hi, hz0, hz1, hz2⟩ := info_parts infoInsU
  have hb := hx.lt
  obtain ⟨w0, hw0⟩ : ∃ W, W = w.alloc (.cells #[.int .i64 0, .int .i64 0, .int .i64 0, .int .i64 0, .slice none 0 0] 24) := ⟨_, rfl⟩
  have HNUM : Hid (∀ k W, RdAt b s k w0 W → Calls Tryd.prog 25 #[.pointer (some ⟨b, 0, none⟩)] W fun e w' => e = .returned (.int .i64 (vlu s k)) ∧ RdAt b s (k + 1) w0 w' ∧ Tn b W w') := fun k W h => by
    obtain ⟨p, c, h1, h2, h3⟩ := id h
    refine (impl_number s k p c hs h1 b W h2).mono ?_
    rintro e w' ⟨rfl, h4⟩
    obtain ⟨p', c', h5, h6, h7⟩ := id h4
    exact ⟨rfl, h.trans h4, h7⟩
  have HSZ : Hid (∀ W, RdAt b s 4 w0 W → Calls Tryd.prog 26 #[.pointer (some ⟨b, 0, none⟩)] W (SizeOut b s W)) := fun W h => by
    obtain ⟨p, c, h1, h2, h3⟩ := h
    exact impl_size s p c hs h1 b W h2
  have HT0 : Hid (Tn b w w0) := by subst hw0; exact Tn.of ((Below.refl _ _).alloc (Nat.le_refl _) _)
  have HX0 : Hid (Bxs w0 b #[.string s, .int .i64 0, .int .i64 0] 41) := by subst hw0; exact hx.below ((Below.refl _ _).alloc (Nat.le_refl _) _)
  have HR0 : Hid (Bxs w0 w.heap.size #[.int .i64 0, .int .i64 0, .int .i64 0, .int .i64 0, .slice none 0 0] 24) := by subst hw0; exact Bxs.new _ _ _
  have hw0s : w0.heap.size = w.heap.size + 1 := by subst hw0; simp
  have H0 : Hid (RdAt b s 0 w0 w0) := ⟨0, 0, RdSt.zero s, HX0.out, Tn.refl _ _⟩
  clear hx
  go_enter Tryd.func14, Tryd.ntmps14
  go_upto_region 1 with fail
  rw [← hw0]
  obtain ⟨R0, hR0⟩ : ∃ R, R = w.heap.size := ⟨_, rfl⟩
  rw [← hR0] at HR0 hb hw0s ⊢
  have HRR : Hid (R0 = w.heap.size) := hR0
  clear hw0 hR0 HX0
  go_wp2_with fail
  refine (HNUM.out 0 _ H0.out).mono ?_
  rintro e w1 ⟨rfl, h1, _⟩
  have H1 : Hid (RdAt b s (0 + 1) w0 w1) := h1
  clear h1 H0
  go_wp2_with fail
  refine (HNUM.out 1 _ H1.out).mono ?_
  rintro e w2 ⟨rfl, h1, _⟩
  have H2 : Hid (RdAt b s (1 + 1) w0 w2) := h1
  clear h1 H1
  go_wp2_with fail
  refine (HNUM.out 2 _ H2.out).mono ?_
  rintro e w3 ⟨rfl, h1, _⟩
  have H3 : Hid (RdAt b s (2 + 1) w0 w3) := h1
  clear h1 H2
  go_wp2_with fail
  refine (HNUM.out 3 _ H3.out).mono ?_
  rintro e w4 ⟨rfl, h1, _⟩
  have H4 : Hid (RdAt b s (3 + 1) w0 w4) := h1
  clear h1 H3
  have HO : Hid (∀ (a : Option Addr) (m cap : Nat) (p c : Int) W, Bxs W b #[.string s, .int .i64 p, .int .i64 c] 41 → Tn b w W → OwnR W a m 3 (insF (rowL s)) → (∀ k, a.map Addr.block = some k → w.heap.size ≤ k ∧ k < W.heap.size) → RdEnd s m p c → MdOut b s w (.returned (.agg #[.int .i64 (vlu s 0), .int .i64 (vlu s 1), .int .i64 (vlu s 2), .int .i64 (vlu s 3), .slice a m cap])) W) := fun a m cap p c W h1 h2 h3 h4 h5 => ⟨a, m, cap, p, c, rfl, h1, h2, h3, h4, h5⟩
  have HRW : Hid (∀ i, rowL s i = ⟨vlu s (5 + 3 * i), vlu s (5 + 3 * i + 1), vlu s (5 + 3 * i + 1 + 1)⟩) := fun _ => rfl
  generalize vlu s 0 = z0 at *
  generalize vlu s 1 = z1 at *
  generalize vlu s 2 = z2 at *
  generalize vlu s 3 = z3 at *
  obtain ⟨M, hM⟩ : ∃ M, M = w4.heap.size := ⟨_, rfl⟩
  have H5 : Hid (RdAt b s (3 + 1) w0 (w4.alloc (.cells #[.int .i64 z0, .int .i64 z1, .int .i64 z2, .int .i64 z3, .slice none 0 0] 24))) := by
    obtain ⟨p, c, h1, h2, h3⟩ := H4.out
    exact ⟨p, c, h1, h2.below ((Below.refl _ _).alloc (Nat.le_refl _) _), h3.alloc _⟩
  have HM5 : Hid (Bxs (w4.alloc (.cells #[.int .i64 z0, .int .i64 z1, .int .i64 z2, .int .i64 z3, .slice none 0 0] 24)) M #[.int .i64 z0, .int .i64 z1, .int .i64 z2, .int .i64 z3, .slice none 0 0] 24) := bx_at hM
  have HMs : Hid (w0.heap.size ≤ M) := by
    obtain ⟨p, c, h1, h2, h3⟩ := H4.out
    have := h3.size
    show _ ≤ M
    omega
  go_upto_region 2 with fail
  rw [← hM]
  obtain ⟨w5, hw5⟩ : ∃ W, W = w4.alloc (.cells #[.int .i64 z0, .int .i64 z1, .int .i64 z2, .int .i64 z3, .slice none 0 0] 24) := ⟨_, rfl⟩
  rw [← hw5] at H5 HM5 ⊢
  clear hw5 hM H4
  go_wp2_with fail
  refine (HSZ.out _ H5.out).mono ?_
  rintro e w6 ⟨n, p, c, rfl, hx6, ht6, hcase⟩
  have hMb : M ≠ b := by have := HMs.out; omega
  have hRb : R0 ≠ b := by omega
  have HT6 : Hid (Tn b w0 w6) := by
    obtain ⟨_, _, _, _, h3⟩ := H5.out
    exact h3.trans ht6
  have HM6 : Hid (Bxs w6 M #[.int .i64 z0, .int .i64 z1, .int .i64 z2, .int .i64 z3, .slice none 0 0] 24) := ht6.bx HM5.out hMb
  have HR6 : Hid (Bxs w6 R0 #[.int .i64 0, .int .i64 0, .int .i64 0, .int .i64 0, .slice none 0 0] 24) := HT6.out.bx HR0.out hRb
  have HX6 : Hid (Bxs w6 b #[.string s, .int .i64 p, .int .i64 c] 41) := hx6
  have HMR : Hid (R0 < M) := by have := HMs.out; show R0 < M; omega
  clear hx6 ht6 HM5 H5 HSZ
  rcases hcase with ⟨hg5, hn1, hn2, hnn, h5⟩ | ⟨hg5, hnr, rfl, hp, hc⟩ | ⟨h5, hc, rfl⟩
  · obtain ⟨N, rfl⟩ : ∃ N : Nat, n = N := ⟨n.toNat, by omega⟩
    have hn2' : N ≤ 2000 := by omega
    have HG5 : Hid (∀ i, i < 5 → cod s i = 0) := hg5
    have HNN : Hid ((N : Int) = num s 4) := hnn
    have H6 : Hid (RdAt b s (5 + 3 * 0) w0 w6 ∧ Bxs w6 R0 #[.int .i64 0, .int .i64 0, .int .i64 0, .int .i64 0, .slice none 0 0] 24 ∧ ∃ v, Bxs w6 M #[.int .i64 z0, .int .i64 z1, .int .i64 z2, .int .i64 z3, v] 24 ∧ w6.ownsRow (M + 1) 38 3 v 0 (insC (rowL s) 0)) := ⟨⟨p, c, h5, HX6.out, HT6.out⟩, HR6.out, _, HM6.out, World.ownsRow_nil _ _ _ _⟩
    clear hg5 hnn h5 HX6 HT6 HR6 HM6
    go_wp2_with fail
    go_loopw [15] (fun i wr => ∃ k : Nat, i = .int .i64 (k : Int) ∧ k ≤ N ∧ Hid (RdAt b s (5 + 3 * k) w0 wr ∧ Bxs wr R0 #[.int .i64 0, .int .i64 0, .int .i64 0, .int .i64 0, .slice none 0 0] 24 ∧ ∃ v, Bxs wr M #[.int .i64 z0, .int .i64 z1, .int .i64 z2, .int .i64 z3, v] 24 ∧ wr.ownsRow (M + 1) 38 3 v k (insC (rowL s) k))) (fun i _ => N - (intOf i).toNat)
    case atStart => exact ⟨0, rfl, by omega, H6⟩
    case round =>
      clear H6
      obtain ⟨k, rfl, hk, HL⟩ := hrel
      obtain ⟨hat, hr, v, hm, hown⟩ := HL.out
      have A0 : Hid (RdAt b s (5 + 3 * k) w0 wr) := hat
      have HRk : Hid (Bxs wr R0 #[.int .i64 0, .int .i64 0, .int .i64 0, .int .i64 0, .slice none 0 0] 24) := hr
      have HMk : Hid (Bxs wr M #[.int .i64 z0, .int .i64 z1, .int .i64 z2, .int .i64 z3, v] 24) := hm
      have O0 : Hid (wr.ownsRow (M + 1) 38 3 v k (insC (rowL s) k)) := hown
      obtain ⟨p1, c1, hst, hxr, htr⟩ := A0.out
      have HST : Hid (RdSt s (5 + 3 * k) p1 c1) := hst
      have HXr : Hid (Bxs wr b #[.string s, .int .i64 p1, .int .i64 c1] 41) := hxr
      have HTr : Hid (Tn b w0 wr) := htr
      have e2 : wr.cell? ⟨b, 2, none⟩ = some (.int .i64 c1) := hxr.cell 2
      clear hat hr hm hown hst hxr htr HL
      by_cases hkn : k < N
      · have q0 : decide (k < N) = true := by simpa using hkn
        have q1 : decide ((k : Int) < (N : Int)) = true := by simpa using hkn
        by_cases hc1 : c1 = 0
        · have qc : (c1 != 0) = false := by simpa using hc1
          have hd4 : wr.cell? ⟨M, 4, none⟩ = some v := HMk.out.cell 4
          have hMk : M < wr.heap.size := HMk.out.lt
          clear HST HXr
          have hbM : b < M + 1 := by have := HMs.out; omega
          have hN2 : N ≤ 2000 := by omega
          go_upto_region 5 with fail
          go_region_law (first | (go_simp; go_at_call 25; refine (HNUM.out _ _ (by first | exact A2.out | exact A2.out.drew)).mono ?_; rintro e q3 ⟨rfl, a3, t3⟩; have A3 : Hid (RdAt b s (5 + 3 * k + 1 + 1 + 1 ) w0 q3) := a3; have T3 : Hid (Tn b wr q3) := (by first | exact T2.out.trans t3 | exact T2.out.drew.trans t3); clear a3 t3; have Y3 := T3.out.bx HMk.out hMb; have y3 : q3.cell? ⟨M, 4, none⟩ = some v := Y3.cell 4; (have hM3 : M < q3.heap.size := Y3.lt); (try dsimp only)) | (go_simp; go_at_call 25; refine (HNUM.out _ _ (by first | exact A1.out | exact A1.out.drew)).mono ?_; rintro e q2 ⟨rfl, a2, t2⟩; have A2 : Hid (RdAt b s (5 + 3 * k + 1 + 1 ) w0 q2) := a2; have T2 : Hid (Tn b wr q2) := (by first | exact T1.out.trans t2 | exact T1.out.drew.trans t2); clear a2 t2; have Y2 := T2.out.bx HMk.out hMb; have y2 : q2.cell? ⟨M, 4, none⟩ = some v := Y2.cell 4; (have hM2 : M < q2.heap.size := Y2.lt); (try dsimp only)) | (go_simp; go_at_call 25; refine (HNUM.out _ _ (by first | exact A0.out | exact A0.out.drew)).mono ?_; rintro e q1 ⟨rfl, a1, t1⟩; have A1 : Hid (RdAt b s (5 + 3 * k + 1 ) w0 q1) := a1; have T1 : Hid (Tn b wr q1) := (by first | exact t1 | exact (Tn.refl b wr).drew.trans t1); clear a1 t1; have Y1 := T1.out.bx HMk.out hMb; have y1 : q1.cell? ⟨M, 4, none⟩ = some v := Y1.cell 4; (have hM1 : M < q1.heap.size := Y1.lt); (try dsimp only)) | (refine step_append_lies _ (by rfl) _ _ _ (by rfl) (M + 1) 38 i0 (.agg #[.int .i64 0, .int .i64 0, .int .i64 0]) 3 24 Tryd.underlying22 hi hz0 hz1 hz2 (by rfl) (by decide) _ k _ (by rfl) ((T3.out.own O0.out hbM).alloc _) ⟨q3.heap.size, 0, none⟩ 1 1 [.int .i64 (vlu s (5 + 3 * k)), .int .i64 (vlu s (5 + 3 * k + 1)), .int .i64 (vlu s (5 + 3 * k + 1 + 1))] (by rfl) (by rfl) (news3 q3 _ _ _) (ones3 _ _ _) (by omega) (by unfold maxLen; omega) (by omega) (by simp; omega) (q3.heap.size + 1) (by simp) ?_; intro g2 cap2 w7 hown7 hg7 hat7 hlt7; have Z7 := (Bxs.below Y3 ((Below.refl _ _).alloc (Nat.le_refl _) _)).grown hg7 (fun e => by have := ((T3.out.own O0.out hbM).lt _ e).1; omega); have y7 : w7.cell? ⟨M, 4, none⟩ = some v := Z7.cell 4; (have z7 : w7.frozen? ⟨M, 4, none⟩ = false := Z7.fz 4)))
          all_goals
            have hgr : ∀ x, v.ownBlock = some x → M + 1 ≤ x := fun x e => ((T3.out.own O0.out hbM).lt x e).1
            have hRM := HMR.out
            have hMS := HMs.out
            obtain ⟨p3, c3, hst3, hx3, ht3⟩ := A3.out
            have HN : Hid (RdAt b s (5 + 3 * (k + 1)) w0 (w7.setCell ⟨M, 4, none⟩ (.slice (some ⟨g2, 0, none⟩) (k + 1) cap2)) ∧ Bxs (w7.setCell ⟨M, 4, none⟩ (.slice (some ⟨g2, 0, none⟩) (k + 1) cap2)) R0 #[.int .i64 0, .int .i64 0, .int .i64 0, .int .i64 0, .slice none 0 0] 24 ∧ ∃ v, Bxs (w7.setCell ⟨M, 4, none⟩ (.slice (some ⟨g2, 0, none⟩) (k + 1) cap2)) M #[.int .i64 z0, .int .i64 z1, .int .i64 z2, .int .i64 z3, v] 24 ∧ (w7.setCell ⟨M, 4, none⟩ (.slice (some ⟨g2, 0, none⟩) (k + 1) cap2)).ownsRow (M + 1) 38 3 v (k + 1) (insC (rowL s) (k + 1))) := by
              have e : 5 + 3 * (k + 1) = 5 + 3 * k + 1 + 1 + 1 := by omega
              refine ⟨⟨p3, c3, by rw [e]; exact hst3, ?_, ?_⟩, ?_, _, Z7.set 4 _, own_set hown7 (Nat.lt_succ_self M)⟩
              · exact (Bxs.grown (Bxs.below hx3 ((Below.refl _ _).alloc (Nat.le_refl _) _)) hg7 (fun e => by have := hgr b e; omega)).other (Ne.symm hMb) 4 _
              · exact (Tn.grown (ht3.alloc _) hg7 (fun x e => by have := hgr x e; omega)).setNew hMS 4 _
              · exact (Bxs.grown (Bxs.below (T3.out.bx HRk.out hRb) ((Below.refl _ _).alloc (Nat.le_refl _) _)) hg7 (fun e => by have := hgr R0 e; omega)).other (by omega) 4 _
            clear hst3 hx3 ht3 A1 A2 A3 T1 T2 T3 Y1 Y2 Y3 Z7 hown7 hg7 hat7 hgr A0 HRk HMk O0 HTr hRM hMS
            go_wp2_with fail
            go_roundw
            case rel => exact ⟨k + 1, by go_num, by omega, HN⟩
            case measure => simp [intOf]; omega
        · have qc : (c1 != 0) = true := by simpa using hc1
          have HE : Hid (RdEnd s k p1 c1) := Or.inr (Or.inr ⟨_, HST.out, hc1, Or.inr ⟨HG5.out, by have := HNN.out; omega, by have := HNN.out; omega, by have := HNN.out; omega⟩⟩)
          clear HST A0
          obtain ⟨a, cap, rfl, hOw, hbk⟩ := own_inss O0.out
          have hRM := HMR.out
          have hMS := HMs.out
          have hRR := HRR.out
          have hne : ∀ k, a.map Addr.block = some k → k ≠ R0 := fun k e => by have := (hbk k e).1; omega
          have HTw : Tn b w wr := HT0.out.trans HTr.out
          have HR : Hid (MdOut b s w (.returned (.agg #[.int .i64 z0, .int .i64 z1, .int .i64 z2, .int .i64 z3, (.slice a k cap)])) ((((((((((wr).setCell ⟨R0, 0, none⟩ (.int .i64 z0))).setCell ⟨R0, 1, none⟩ (.int .i64 z1))).setCell ⟨R0, 2, none⟩ (.int .i64 z2))).setCell ⟨R0, 3, none⟩ (.int .i64 z3))).setCell ⟨R0, 4, none⟩ ((.slice a k cap)))) := HO.out a k cap p1 c1 _ (((((HXr.out.other (Ne.symm hRb) 0 _).other (Ne.symm hRb) 1 _).other (Ne.symm hRb) 2 _).other (Ne.symm hRb) 3 _).other (Ne.symm hRb) 4 _) (((((HTw.setNew (by omega) 0 _).setNew (by omega) 1 _).setNew (by omega) 2 _).setNew (by omega) 3 _).setNew (by omega) 4 _) (((((hOw.setM hne).setM hne).setM hne).setM hne).setM hne) (fun k e => by have := hbk k e; refine ⟨by omega, ?_⟩; simpa using this.2) (HE.out)
          have r0 := HRk.out.cell 0
          have m0 := HMk.out.cell 0
          have r1 := HRk.out.cell 1
          have m1 := HMk.out.cell 1
          have r2 := HRk.out.cell 2
          have m2 := HMk.out.cell 2
          have r3 := HRk.out.cell 3
          have m3 := HMk.out.cell 3
          have r4 := HRk.out.cell 4
          have m4 := HMk.out.cell 4
          simp at r0 r1 r2 r3 r4 m0 m1 m2 m3 m4
          have rf : ∀ j, wr.frozen? ⟨R0, j, none⟩ = false := fun j => HRk.out.fz j
          clear hOw hbk hRR hne HTw HRk HMk O0 HXr HTr hRM hMS
          go_wp2_with fail
          refine bodyPost_ret (v := .agg #[.int .i64 z0, .int .i64 z1, .int .i64 z2, .int .i64 z3, (.slice a k cap)]) ?_ rfl HR.out
          simp [results, Tryd.results14, go_sem, r0, r1, r2, r3, r4]
      · have q0 : decide (k < N) = false := by simpa using hkn
        have q1 : decide ((k : Int) < (N : Int)) = false := by simpa using hkn
        obtain rfl : N = k := by omega
        have HE : Hid (RdEnd s N p1 c1) := by
          by_cases hc1 : c1 = 0
          · exact Or.inl ⟨HG5.out, by omega, hn2', HNN.out, HST.out, hc1⟩
          · exact Or.inr (Or.inr ⟨_, HST.out, hc1, Or.inr ⟨HG5.out, by have := HNN.out; omega, by have := HNN.out; omega, by have := HNN.out; omega⟩⟩)
        clear HST A0
        obtain ⟨a, cap, rfl, hOw, hbk⟩ := own_inss O0.out
        have hRM := HMR.out
        have hMS := HMs.out
        have hRR := HRR.out
        have hne : ∀ k, a.map Addr.block = some k → k ≠ R0 := fun k e => by have := (hbk k e).1; omega
        have HTw : Tn b w wr := HT0.out.trans HTr.out
        have HR : Hid (MdOut b s w (.returned (.agg #[.int .i64 z0, .int .i64 z1, .int .i64 z2, .int .i64 z3, (.slice a N cap)])) ((((((((((wr).setCell ⟨R0, 0, none⟩ (.int .i64 z0))).setCell ⟨R0, 1, none⟩ (.int .i64 z1))).setCell ⟨R0, 2, none⟩ (.int .i64 z2))).setCell ⟨R0, 3, none⟩ (.int .i64 z3))).setCell ⟨R0, 4, none⟩ ((.slice a N cap)))) := HO.out a N cap p1 c1 _ (((((HXr.out.other (Ne.symm hRb) 0 _).other (Ne.symm hRb) 1 _).other (Ne.symm hRb) 2 _).other (Ne.symm hRb) 3 _).other (Ne.symm hRb) 4 _) (((((HTw.setNew (by omega) 0 _).setNew (by omega) 1 _).setNew (by omega) 2 _).setNew (by omega) 3 _).setNew (by omega) 4 _) (((((hOw.setM hne).setM hne).setM hne).setM hne).setM hne) (fun k e => by have := hbk k e; refine ⟨by omega, ?_⟩; simpa using this.2) (HE.out)
        have r0 := HRk.out.cell 0
        have m0 := HMk.out.cell 0
        have r1 := HRk.out.cell 1
        have m1 := HMk.out.cell 1
        have r2 := HRk.out.cell 2
        have m2 := HMk.out.cell 2
        have r3 := HRk.out.cell 3
        have m3 := HMk.out.cell 3
        have r4 := HRk.out.cell 4
        have m4 := HMk.out.cell 4
        simp at r0 r1 r2 r3 r4 m0 m1 m2 m3 m4
        have rf : ∀ j, wr.frozen? ⟨R0, j, none⟩ = false := fun j => HRk.out.fz j
        clear hOw hbk hRR hne HTw HRk HMk O0 HXr HTr hRM hMS
        go_wp2_with fail
        refine bodyPost_ret (v := .agg #[.int .i64 z0, .int .i64 z1, .int .i64 z2, .int .i64 z3, (.slice a N cap)]) ?_ rfl HR.out
        simp [results, Tryd.results14, go_sem, r0, r1, r2, r3, r4]
  · obtain ⟨p1, rfl⟩ : ∃ x, x = p := ⟨p, rfl⟩
    obtain ⟨c1, rfl⟩ : ∃ x, x = c := ⟨c, rfl⟩
    have HE : Hid (RdEnd s 0 p1 c1) := Or.inr (Or.inl ⟨hg5, hnr, hp, hc⟩)
    obtain ⟨v, hv⟩ : ∃ v, v = Value.slice none 0 0 := ⟨_, rfl⟩
    have HRk : Hid (Bxs w6 R0 #[.int .i64 0, .int .i64 0, .int .i64 0, .int .i64 0, .slice none 0 0] 24) := HR6.out
    have HMk : Hid (Bxs w6 M #[.int .i64 z0, .int .i64 z1, .int .i64 z2, .int .i64 z3, v] 24) := by rw [hv]; exact HM6.out
    have O0 : Hid (w6.ownsRow (M + 1) 38 3 v 0 (insC (rowL s) 0)) := by rw [hv]; exact World.ownsRow_nil _ _ _ _
    have HXr : Hid (Bxs w6 b #[.string s, .int .i64 p1, .int .i64 c1] 41) := HX6.out
    have HTr : Hid (Tn b w0 w6) := HT6.out
    clear hv HR6 HM6 HX6 HT6 hg5 hnr hp hc
    obtain ⟨a, cap, rfl, hOw, hbk⟩ := own_inss O0.out
    have hRM := HMR.out
    have hMS := HMs.out
    have hRR := HRR.out
    have hne : ∀ k, a.map Addr.block = some k → k ≠ R0 := fun k e => by have := (hbk k e).1; omega
    have HTw : Tn b w w6 := HT0.out.trans HTr.out
    have HR : Hid (MdOut b s w (.returned (.agg #[.int .i64 z0, .int .i64 z1, .int .i64 z2, .int .i64 z3, (.slice a 0 cap)])) ((((((((((w6).setCell ⟨R0, 0, none⟩ (.int .i64 z0))).setCell ⟨R0, 1, none⟩ (.int .i64 z1))).setCell ⟨R0, 2, none⟩ (.int .i64 z2))).setCell ⟨R0, 3, none⟩ (.int .i64 z3))).setCell ⟨R0, 4, none⟩ ((.slice a 0 cap)))) := HO.out a 0 cap p1 c1 _ (((((HXr.out.other (Ne.symm hRb) 0 _).other (Ne.symm hRb) 1 _).other (Ne.symm hRb) 2 _).other (Ne.symm hRb) 3 _).other (Ne.symm hRb) 4 _) (((((HTw.setNew (by omega) 0 _).setNew (by omega) 1 _).setNew (by omega) 2 _).setNew (by omega) 3 _).setNew (by omega) 4 _) (((((hOw.setM hne).setM hne).setM hne).setM hne).setM hne) (fun k e => by have := hbk k e; refine ⟨by omega, ?_⟩; simpa using this.2) (HE.out)
    have r0 := HRk.out.cell 0
    have m0 := HMk.out.cell 0
    have r1 := HRk.out.cell 1
    have m1 := HMk.out.cell 1
    have r2 := HRk.out.cell 2
    have m2 := HMk.out.cell 2
    have r3 := HRk.out.cell 3
    have m3 := HMk.out.cell 3
    have r4 := HRk.out.cell 4
    have m4 := HMk.out.cell 4
    simp at r0 r1 r2 r3 r4 m0 m1 m2 m3 m4
    have rf : ∀ j, w6.frozen? ⟨R0, j, none⟩ = false := fun j => HRk.out.fz j
    clear hOw hbk hRR hne HTw HRk HMk O0 HXr HTr hRM hMS
    go_wp2_with fail
    refine wp_loop_rounds 1 ?_
    rw [rounds_succ]
    go_wp2_with fail
    refine bodyPost_ret (v := .agg #[.int .i64 z0, .int .i64 z1, .int .i64 z2, .int .i64 z3, (.slice a 0 cap)]) ?_ rfl HR.out
    simp [results, Tryd.results14, go_sem, r0, r1, r2, r3, r4]
  · obtain ⟨p1, rfl⟩ : ∃ x, x = p := ⟨p, rfl⟩
    obtain ⟨c1, rfl⟩ : ∃ x, x = c := ⟨c, rfl⟩
    have HE : Hid (RdEnd s 0 p1 c1) := Or.inr (Or.inr ⟨5, h5, hc, Or.inl rfl⟩)
    obtain ⟨v, hv⟩ : ∃ v, v = Value.slice none 0 0 := ⟨_, rfl⟩
    have HRk : Hid (Bxs w6 R0 #[.int .i64 0, .int .i64 0, .int .i64 0, .int .i64 0, .slice none 0 0] 24) := HR6.out
    have HMk : Hid (Bxs w6 M #[.int .i64 z0, .int .i64 z1, .int .i64 z2, .int .i64 z3, v] 24) := by rw [hv]; exact HM6.out
    have O0 : Hid (w6.ownsRow (M + 1) 38 3 v 0 (insC (rowL s) 0)) := by rw [hv]; exact World.ownsRow_nil _ _ _ _
    have HXr : Hid (Bxs w6 b #[.string s, .int .i64 p1, .int .i64 c1] 41) := HX6.out
    have HTr : Hid (Tn b w0 w6) := HT6.out
    clear hv HR6 HM6 HX6 HT6 h5 hc
    obtain ⟨a, cap, rfl, hOw, hbk⟩ := own_inss O0.out
    have hRM := HMR.out
    have hMS := HMs.out
    have hRR := HRR.out
    have hne : ∀ k, a.map Addr.block = some k → k ≠ R0 := fun k e => by have := (hbk k e).1; omega
    have HTw : Tn b w w6 := HT0.out.trans HTr.out
    have HR : Hid (MdOut b s w (.returned (.agg #[.int .i64 z0, .int .i64 z1, .int .i64 z2, .int .i64 z3, (.slice a 0 cap)])) ((((((((((w6).setCell ⟨R0, 0, none⟩ (.int .i64 z0))).setCell ⟨R0, 1, none⟩ (.int .i64 z1))).setCell ⟨R0, 2, none⟩ (.int .i64 z2))).setCell ⟨R0, 3, none⟩ (.int .i64 z3))).setCell ⟨R0, 4, none⟩ ((.slice a 0 cap)))) := HO.out a 0 cap p1 c1 _ (((((HXr.out.other (Ne.symm hRb) 0 _).other (Ne.symm hRb) 1 _).other (Ne.symm hRb) 2 _).other (Ne.symm hRb) 3 _).other (Ne.symm hRb) 4 _) (((((HTw.setNew (by omega) 0 _).setNew (by omega) 1 _).setNew (by omega) 2 _).setNew (by omega) 3 _).setNew (by omega) 4 _) (((((hOw.setM hne).setM hne).setM hne).setM hne).setM hne) (fun k e => by have := hbk k e; refine ⟨by omega, ?_⟩; simpa using this.2) (HE.out)
    have r0 := HRk.out.cell 0
    have m0 := HMk.out.cell 0
    have r1 := HRk.out.cell 1
    have m1 := HMk.out.cell 1
    have r2 := HRk.out.cell 2
    have m2 := HMk.out.cell 2
    have r3 := HRk.out.cell 3
    have m3 := HMk.out.cell 3
    have r4 := HRk.out.cell 4
    have m4 := HMk.out.cell 4
    simp at r0 r1 r2 r3 r4 m0 m1 m2 m3 m4
    have rf : ∀ j, w6.frozen? ⟨R0, j, none⟩ = false := fun j => HRk.out.fz j
    clear hOw hbk hRR hne HTw HRk HMk O0 HXr HTr hRM hMS
    go_wp2_with fail
    refine wp_loop_rounds 1 ?_
    rw [rounds_succ]
    go_wp2_with fail
    refine bodyPost_ret (v := .agg #[.int .i64 z0, .int .i64 z1, .int .i64 z2, .int .i64 z3, (.slice a 0 cap)]) ?_ rfl HR.out
    simp [results, Tryd.results14, go_sem, r0, r1, r2, r3, r4]
end Go.Proofs.YtdbahildcecgbaaDoor
