/- The law of ModuleRead. -/
import Derived.Test.YtdbahildcecgbaaDoorMdX
import Derived.Test.YtdbahildcecgbaaDoorMrL
namespace Go.Proofs.YtdbahildcecgbaaDoor
open Go.RowKit
open Go.Proofs.YtdbahildcecgbaaDoor.Draw

set_option maxRecDepth 100000 in
set_option maxHeartbeats 16000000 in
theorem eq_modOut (y0 y1 y2 y3 : Int) (a a' : Option Addr) (m c c' : Nat) (At Cd : Int) (L : Nat → In) (hm : m ≤ 1048576) (w : World) (h : InsAt w a m L) (h' : InsAt w a' m L) :
    Calls Tryd.prog 7 #[.agg #[.int .i64 y0, .int .i64 y1, .int .i64 y2, .int .i64 y3, .slice a m c, .int .i64 At, .int .i64 Cd], .agg #[.int .i64 y0, .int .i64 y1, .int .i64 y2, .int .i64 y3, .slice a' m c', .int .i64 At, .int .i64 Cd]] w fun e w' => e = .returned (.bool true) ∧ Below w.heap.size w w' := by
  have hii : ∀ x : Int, (x != x) = false := fun x => by simp
  have HE : Hid (∀ W, Below w.heap.size w W → Calls Tryd.prog 16 #[.agg #[.int .i64 y0, .int .i64 y1, .int .i64 y2, .int .i64 y3, .slice a m c], .agg #[.int .i64 y0, .int .i64 y1, .int .i64 y2, .int .i64 y3, .slice a' m c']] W fun e w' => e = .returned (.bool true) ∧ Below W.heap.size W w') := fun W hb => eq_mod y0 y1 y2 y3 a a' m c c' L hm W (h.below hb) (h'.below hb)
  clear h h' hm
  obtain ⟨X, hX⟩ : ∃ b, b = w.heap.size := ⟨_, rfl⟩
  obtain ⟨Y, hY⟩ : ∃ b, b = w.heap.size + 1 := ⟨_, rfl⟩
  have h1 : Bxs ((w.alloc (.cells #[.int .i64 y0, .int .i64 y1, .int .i64 y2, .int .i64 y3, .slice a m c, .int .i64 At, .int .i64 Cd] 26)).alloc (.cells #[.int .i64 y0, .int .i64 y1, .int .i64 y2, .int .i64 y3, .slice a' m c', .int .i64 At, .int .i64 Cd] 26)) X #[.int .i64 y0, .int .i64 y1, .int .i64 y2, .int .i64 y3, .slice a m c, .int .i64 At, .int .i64 Cd] 26 := bx_under (bx_at hX) _
  have h2 : Bxs ((w.alloc (.cells #[.int .i64 y0, .int .i64 y1, .int .i64 y2, .int .i64 y3, .slice a m c, .int .i64 At, .int .i64 Cd] 26)).alloc (.cells #[.int .i64 y0, .int .i64 y1, .int .i64 y2, .int .i64 y3, .slice a' m c', .int .i64 At, .int .i64 Cd] 26)) Y #[.int .i64 y0, .int .i64 y1, .int .i64 y2, .int .i64 y3, .slice a' m c', .int .i64 At, .int .i64 Cd] 26 := bx_at (by simp; omega)
  have h3 : Below w.heap.size w ((w.alloc (.cells #[.int .i64 y0, .int .i64 y1, .int .i64 y2, .int .i64 y3, .slice a m c, .int .i64 At, .int .i64 Cd] 26)).alloc (.cells #[.int .i64 y0, .int .i64 y1, .int .i64 y2, .int .i64 y3, .slice a' m c', .int .i64 At, .int .i64 Cd] 26)) := ((Below.refl _ _).alloc (Nat.le_refl _) _).alloc (by simp) _
  go_enter Tryd.func7, Tryd.ntmps7
  go_upto_region 1 with fail
  rw [← hY, ← hX]
  obtain ⟨w2, hw2⟩ : ∃ W, W = (w.alloc (.cells #[.int .i64 y0, .int .i64 y1, .int .i64 y2, .int .i64 y3, .slice a m c, .int .i64 At, .int .i64 Cd] 26)).alloc (.cells #[.int .i64 y0, .int .i64 y1, .int .i64 y2, .int .i64 y3, .slice a' m c', .int .i64 At, .int .i64 Cd] 26) := ⟨_, rfl⟩
  rw [← hw2] at h1 h2 h3 ⊢
  have HX : Hid (Bxs w2 X #[.int .i64 y0, .int .i64 y1, .int .i64 y2, .int .i64 y3, .slice a m c, .int .i64 At, .int .i64 Cd] 26) := h1
  have HY : Hid (Bxs w2 Y #[.int .i64 y0, .int .i64 y1, .int .i64 y2, .int .i64 y3, .slice a' m c', .int .i64 At, .int .i64 Cd] 26) := h2
  have HB : Hid (Below w.heap.size w w2) := h3
  clear hw2 hX hY h1 h2 h3
  have x0 : w2.cell? ⟨X, 0, none⟩ = some (.int .i64 y0) := HX.out.cell 0
  have x1 : w2.cell? ⟨X, 1, none⟩ = some (.int .i64 y1) := HX.out.cell 1
  have x2 : w2.cell? ⟨X, 2, none⟩ = some (.int .i64 y2) := HX.out.cell 2
  have x3 : w2.cell? ⟨X, 3, none⟩ = some (.int .i64 y3) := HX.out.cell 3
  have x4 : w2.cell? ⟨X, 4, none⟩ = some (.slice a m c) := HX.out.cell 4
  have y'0 : w2.cell? ⟨Y, 0, none⟩ = some (.int .i64 y0) := HY.out.cell 0
  have y'1 : w2.cell? ⟨Y, 1, none⟩ = some (.int .i64 y1) := HY.out.cell 1
  have y'2 : w2.cell? ⟨Y, 2, none⟩ = some (.int .i64 y2) := HY.out.cell 2
  have y'3 : w2.cell? ⟨Y, 3, none⟩ = some (.int .i64 y3) := HY.out.cell 3
  have y'4 : w2.cell? ⟨Y, 4, none⟩ = some (.slice a' m c') := HY.out.cell 4
  go_wp2_with fail
  refine (HE.out _ HB.out).mono ?_
  rintro e w3 ⟨rfl, hb⟩
  have HX3 : Hid (Bxs w3 X #[.int .i64 y0, .int .i64 y1, .int .i64 y2, .int .i64 y3, .slice a m c, .int .i64 At, .int .i64 Cd] 26) := HX.out.below hb
  have HY3 : Hid (Bxs w3 Y #[.int .i64 y0, .int .i64 y1, .int .i64 y2, .int .i64 y3, .slice a' m c', .int .i64 At, .int .i64 Cd] 26) := HY.out.below hb
  have HB3 : Hid (Below w.heap.size w w3) := HB.out.trans (hb.mono HB.out.size)
  clear hb HX HY HB x0 y'0 x1 y'1 x2 y'2 x3 y'3 x4 y'4
  have x5 : w3.cell? ⟨X, 5, none⟩ = some (.int .i64 At) := HX3.out.cell 5
  have x6 : w3.cell? ⟨X, 6, none⟩ = some (.int .i64 Cd) := HX3.out.cell 6
  have y'5 : w3.cell? ⟨Y, 5, none⟩ = some (.int .i64 At) := HY3.out.cell 5
  have y'6 : w3.cell? ⟨Y, 6, none⟩ = some (.int .i64 Cd) := HY3.out.cell 6
  go_wp2_with fail
  go_ret
  exact ⟨rfl, HB3.out⟩
set_option maxRecDepth 100000 in
set_option maxHeartbeats 16000000 in
theorem mark_modOut (y0 y1 y2 y3 : Int) (a : Option Addr) (m c : Nat) (At Cd : Int) (F : Nat → Value) (hm : m ≤ 1048576) (k0 : Nat) (hk2 : k0 ≤ 549755813888) (w : World) (h : OwnR w a m 3 F) :
    Calls Tryd.prog 8 #[.agg #[.int .i64 y0, .int .i64 y1, .int .i64 y2, .int .i64 y3, .slice a m c, .int .i64 At, .int .i64 Cd], .int .i64 (k0 : Int)] w fun e w' => e = .returned (.int .i64 ((k0 + m * 3 : Nat) : Int)) ∧ OwnR w' a m 3 (mkI k0) ∧ w.grownBy w' (a.map Addr.block) := by
  have HM : Hid (∀ W, Below w.heap.size w W → Calls Tryd.prog 17 #[.agg #[.int .i64 y0, .int .i64 y1, .int .i64 y2, .int .i64 y3, .slice a m c], .int .i64 (k0 : Int)] W fun e w' => e = .returned (.int .i64 ((k0 + m * 3 : Nat) : Int)) ∧ OwnR w' a m 3 (mkI k0) ∧ W.grownBy w' (a.map Addr.block)) := fun W hb => mark_mod y0 y1 y2 y3 a m c F hm k0 hk2 W (h.below hb)
  have HB : Hid (Below w.heap.size w (w.alloc (.cells #[.int .i64 y0, .int .i64 y1, .int .i64 y2, .int .i64 y3, .slice a m c, .int .i64 At, .int .i64 Cd] 26))) := (Below.refl _ _).alloc (Nat.le_refl _) _
  have HG : Hid (∀ W', (w.alloc (.cells #[.int .i64 y0, .int .i64 y1, .int .i64 y2, .int .i64 y3, .slice a m c, .int .i64 At, .int .i64 Cd] 26)).grownBy W' (a.map Addr.block) → w.grownBy W' (a.map Addr.block)) := fun W' hg => by
    have h0 : w.grownBy (w.alloc (.cells #[.int .i64 y0, .int .i64 y1, .int .i64 y2, .int .i64 y3, .slice a m c, .int .i64 At, .int .i64 Cd] 26)) (a.map Addr.block) := ⟨rfl, rfl, rfl, by simp, fun k hk _ => Below.heap_alloc _ _ _ hk⟩
    exact ⟨hg.os.trans h0.os, hg.tape.trans h0.tape, hg.output.trans h0.output, Nat.le_trans h0.size hg.size, fun k hk hne => (hg.block k (Nat.lt_of_lt_of_le hk h0.size) hne).trans (h0.block k hk hne)⟩
  clear h
  go_enter Tryd.func8, Tryd.ntmps8
  go_wp2_with fail
  refine (HM.out _ HB.out).mono ?_
  rintro e w1 ⟨rfl, hO, hg⟩
  have HO1 : Hid (OwnR w1 a m 3 (mkI k0)) := hO
  have HG1 : Hid (w.grownBy w1 (a.map Addr.block)) := HG.out _ hg
  clear hO hg
  go_wp2_with fail
  go_ret
  exact ⟨rfl, HO1.out, HG1.out⟩
set_option maxRecDepth 100000 in
set_option maxHeartbeats 16000000 in
theorem held_mod (y0 y1 y2 y3 : Int) (a : Option Addr) (m c : Nat) (hm : m ≤ 1048576) (k0 : Nat) (hk2 : k0 ≤ 549755813888) (w : World) (h : OwnR w a m 3 (mkI k0)) :
    Calls Tryd.prog 18 #[.agg #[.int .i64 y0, .int .i64 y1, .int .i64 y2, .int .i64 y3, .slice a m c], .int .i64 (k0 : Int)] w fun e w' => e = .returned (.int .i64 ((k0 + m * 3 : Nat) : Int)) ∧ Below w.heap.size w w' := by
  have HM : Hid (∀ W, Below w.heap.size w W → Calls Tryd.prog 32 #[.slice a m c, .int .i64 (k0 : Int)] W fun e w' => e = .returned (.int .i64 ((k0 + m * 3 : Nat) : Int)) ∧ Below W.heap.size W w') := fun W hb => held_inss a m c hm k0 hk2 W (h.below hb)
  have HB : Hid (Below w.heap.size w (w.alloc (.cells #[.int .i64 y0, .int .i64 y1, .int .i64 y2, .int .i64 y3, .slice a m c] 24))) := (Below.refl _ _).alloc (Nat.le_refl _) _
  obtain ⟨T, hT⟩ : ∃ T : Nat, T = k0 + m * 3 := ⟨_, rfl⟩
  rw [← hT] at HM ⊢
  have q0 : decide ((T : Int) < 0) = false := by simp
  clear h hT
  go_enter Tryd.func18, Tryd.ntmps18
  go_wp2_with fail
  refine (HM.out _ HB.out).mono ?_
  rintro e w1 ⟨rfl, hb⟩
  have HB1 : Hid (Below w.heap.size w w1) := HB.out.trans (hb.mono HB.out.size)
  clear hb
  go_wp2_with fail
  go_ret
  exact ⟨rfl, HB1.out⟩
set_option maxRecDepth 100000 in
set_option maxHeartbeats 16000000 in
theorem held_modOut (y0 y1 y2 y3 : Int) (a : Option Addr) (m c : Nat) (At Cd : Int) (hm : m ≤ 1048576) (k0 : Nat) (hk2 : k0 ≤ 549755813888) (w : World) (h : OwnR w a m 3 (mkI k0)) :
    Calls Tryd.prog 9 #[.agg #[.int .i64 y0, .int .i64 y1, .int .i64 y2, .int .i64 y3, .slice a m c, .int .i64 At, .int .i64 Cd], .int .i64 (k0 : Int)] w fun e w' => e = .returned (.int .i64 ((k0 + m * 3 : Nat) : Int)) ∧ Below w.heap.size w w' := by
  have HM : Hid (∀ W, Below w.heap.size w W → Calls Tryd.prog 18 #[.agg #[.int .i64 y0, .int .i64 y1, .int .i64 y2, .int .i64 y3, .slice a m c], .int .i64 (k0 : Int)] W fun e w' => e = .returned (.int .i64 ((k0 + m * 3 : Nat) : Int)) ∧ Below W.heap.size W w') := fun W hb => held_mod y0 y1 y2 y3 a m c hm k0 hk2 W (h.below hb)
  have HB : Hid (Below w.heap.size w (w.alloc (.cells #[.int .i64 y0, .int .i64 y1, .int .i64 y2, .int .i64 y3, .slice a m c, .int .i64 At, .int .i64 Cd] 26))) := (Below.refl _ _).alloc (Nat.le_refl _) _
  obtain ⟨T, hT⟩ : ∃ T : Nat, T = k0 + m * 3 := ⟨_, rfl⟩
  rw [← hT] at HM ⊢
  have q0 : decide ((T : Int) < 0) = false := by simp
  clear h hT
  go_enter Tryd.func9, Tryd.ntmps9
  go_wp2_with fail
  refine (HM.out _ HB.out).mono ?_
  rintro e w1 ⟨rfl, hb⟩
  have HB1 : Hid (Below w.heap.size w w1) := HB.out.trans (hb.mono HB.out.size)
  clear hb
  go_wp2_with fail
  go_ret
  exact ⟨rfl, HB1.out⟩
theorem ResIs.le {s : ByteArray} {y0 y1 y2 y3 : Int} {m : Nat} {At Cd : Int} (h : ResIs s y0 y1 y2 y3 m At Cd) : m ≤ 2000 := by
  rcases h with ⟨_, _, _, _, _, h, _⟩ | ⟨_, k, p, c, he, h⟩
  · omega
  rcases h with ⟨_, _, _, _, _, h, _⟩ | ⟨_, _, _, _, _, _, h, _⟩ | ⟨_, _, _, _, _, _, _, h, _⟩ | ⟨hc, _, _, _, _, _, _, h, _⟩
  · omega
  · omega
  · omega
  · rcases he with ⟨_, _, h2, _⟩ | ⟨_, _, _, h2⟩ | ⟨_, _, h2, _⟩
    · omega
    · omega
    · exact absurd hc h2
set_option maxRecDepth 100000 in
set_option maxHeartbeats 16000000 in
theorem law_moduleRead (s : ByteArray) (hs : s.size ≤ maxLen) (w : World) (hF : FunW w) (hS : ShaW w) :
    Calls Tryd.prog 3 #[.string s] w fun e w' => e = .returned (.bool true) ∧ Below w.heap.size w w' := by
  by_cases hl : 1048576 < s.size
  · have q0 : decide (1048576 < s.size) = true := by simpa using hl
    have q1 : decide ((1048576 : Int) < (s.size : Int)) = true := by simp; omega
    clear hF hS
    go_enter Tryd.func3, Tryd.ntmps3
    go_wp2_with fail
    go_ret
    exact ⟨rfl, Below.refl _ _⟩
  have q0 : decide (1048576 < s.size) = false := by simpa using hl
  have q1 : decide ((1048576 : Int) < (s.size : Int)) = false := by simp; omega
  have HSP : Hid (∀ W, Calls Tryd.prog 5 #[.string s] W (RdOut s W)) := fun W => spec_moduleRead s hs W
  have HIP : Hid (∀ W, FunW W → ShaW W → Calls Tryd.prog 6 #[.string s] W (RdOut s W)) := fun W h1 h2 => impl_moduleRead s hs W h1 h2
  have HF : Hid (FunW w) := hF
  have HS : Hid (ShaW w) := hS
  have hgF := hF.lt
  have hgS := hS.lt
  have HGF : Hid (0 < w.heap.size) := hgF
  have HGS : Hid (1 < w.heap.size) := hgS
  clear hF hS hl hgF hgS
  go_enter Tryd.func3, Tryd.ntmps3
  go_wp2_with fail
  refine (HSP.out _).mono ?_
  rintro e w1 ⟨y0, y1, y2, y3, a, m, cap, At, Cd, rfl, hO, hk, hb, hr⟩
  have HR : Hid (ResIs s y0 y1 y2 y3 m At Cd) := hr
  have hm : m ≤ 1048576 := by have := hr.le; omega
  have HM : Hid (m ≤ 1048576) := hm
  obtain ⟨Y, hY⟩ : ∃ b, b = w1.heap.size := ⟨_, rfl⟩
  have hY2 : Bxs (w1.alloc (.cells #[.int .i64 y0, .int .i64 y1, .int .i64 y2, .int .i64 y3, .slice a m cap, .int .i64 At, .int .i64 Cd] 26)) Y #[.int .i64 y0, .int .i64 y1, .int .i64 y2, .int .i64 y3, .slice a m cap, .int .i64 At, .int .i64 Cd] 26 := bx_at hY
  have hO2 : OwnR (w1.alloc (.cells #[.int .i64 y0, .int .i64 y1, .int .i64 y2, .int .i64 y3, .slice a m cap, .int .i64 At, .int .i64 Cd] 26)) a m 3 (insF (rowL s)) := hO.below ((Below.refl _ _).alloc (Nat.le_refl _) _)
  have hB2 : Below w.heap.size w (w1.alloc (.cells #[.int .i64 y0, .int .i64 y1, .int .i64 y2, .int .i64 y3, .slice a m cap, .int .i64 At, .int .i64 Cd] 26)) := hb.alloc hb.size _
  have HKY : Hid (∀ k, a.map Addr.block = some k → k < Y) := fun k e => by have := hk k e; omega
  have HwY : Hid (w.heap.size ≤ Y) := by have := hb.size; show _ ≤ Y; omega
  have hs2 : (w1.alloc (.cells #[.int .i64 y0, .int .i64 y1, .int .i64 y2, .int .i64 y3, .slice a m cap, .int .i64 At, .int .i64 Cd] 26)).heap.size = Y + 1 := by simp; omega
  clear hO hk hb hr hm
  go_upto_region 4 with fail
  rw [← hY]
  obtain ⟨w2, hw2⟩ : ∃ W, W = w1.alloc (.cells #[.int .i64 y0, .int .i64 y1, .int .i64 y2, .int .i64 y3, .slice a m cap, .int .i64 At, .int .i64 Cd] 26) := ⟨_, rfl⟩
  rw [← hw2] at hY2 hO2 hB2 hs2 ⊢
  have HY2 : Hid (Bxs w2 Y #[.int .i64 y0, .int .i64 y1, .int .i64 y2, .int .i64 y3, .slice a m cap, .int .i64 At, .int .i64 Cd] 26) := hY2
  have HO2 : Hid (OwnR w2 a m 3 (insF (rowL s))) := hO2
  have HB2 : Hid (Below w.heap.size w w2) := hB2
  have HS2 : Hid (w2.heap.size = Y + 1) := hs2
  clear hw2 hY hY2 hO2 hB2 hs2
  go_wp2_with fail
  refine (HIP.out _ (HF.out.below HB2.out) (HS.out.below HB2.out)).mono ?_
  rintro e w3 ⟨u0, u1, u2, u3, a', m', cap', At', Cd', rfl, hO, hk, hb, hr⟩
  obtain ⟨rfl, rfl, rfl, rfl, rfl, rfl, rfl⟩ := HR.out.one hr
  obtain ⟨Z, hZ⟩ : ∃ b, b = w3.heap.size := ⟨_, rfl⟩
  have hZ4 : Bxs (w3.alloc (.cells #[.int .i64 y0, .int .i64 y1, .int .i64 y2, .int .i64 y3, .slice a' m cap', .int .i64 At, .int .i64 Cd] 26)) Z #[.int .i64 y0, .int .i64 y1, .int .i64 y2, .int .i64 y3, .slice a' m cap', .int .i64 At, .int .i64 Cd] 26 := bx_at hZ
  have hY4 : Bxs (w3.alloc (.cells #[.int .i64 y0, .int .i64 y1, .int .i64 y2, .int .i64 y3, .slice a' m cap', .int .i64 At, .int .i64 Cd] 26)) Y #[.int .i64 y0, .int .i64 y1, .int .i64 y2, .int .i64 y3, .slice a m cap, .int .i64 At, .int .i64 Cd] 26 := bx_under (HY2.out.below hb) _
  have hP4 : OwnR (w3.alloc (.cells #[.int .i64 y0, .int .i64 y1, .int .i64 y2, .int .i64 y3, .slice a' m cap', .int .i64 At, .int .i64 Cd] 26)) a' m 3 (insF (rowL s)) := hO.below ((Below.refl _ _).alloc (Nat.le_refl _) _)
  have hO4 : OwnR (w3.alloc (.cells #[.int .i64 y0, .int .i64 y1, .int .i64 y2, .int .i64 y3, .slice a' m cap', .int .i64 At, .int .i64 Cd] 26)) a m 3 (insF (rowL s)) := (HO2.out.below hb).below ((Below.refl _ _).alloc (Nat.le_refl _) _)
  have hB4 : Below w.heap.size w (w3.alloc (.cells #[.int .i64 y0, .int .i64 y1, .int .i64 y2, .int .i64 y3, .slice a' m cap', .int .i64 At, .int .i64 Cd] 26)) := (HB2.out.trans (hb.mono HB2.out.size)).alloc (Nat.le_trans HB2.out.size hb.size) _
  have hs4 : (w3.alloc (.cells #[.int .i64 y0, .int .i64 y1, .int .i64 y2, .int .i64 y3, .slice a' m cap', .int .i64 At, .int .i64 Cd] 26)).heap.size = Z + 1 := by simp; omega
  have HKZ : Hid (∀ k, a'.map Addr.block = some k → Y < k ∧ k < Z) := fun k e => by have := hk k e; have := HS2.out; omega
  clear hO hk hb hr HY2 HO2 HB2
  go_upto_region 5 with fail
  rw [← hZ]
  obtain ⟨w4, hw4⟩ : ∃ W, W = w3.alloc (.cells #[.int .i64 y0, .int .i64 y1, .int .i64 y2, .int .i64 y3, .slice a' m cap', .int .i64 At, .int .i64 Cd] 26) := ⟨_, rfl⟩
  rw [← hw4] at hZ4 hY4 hP4 hO4 hB4 hs4 ⊢
  have HY4 : Hid (Bxs w4 Y #[.int .i64 y0, .int .i64 y1, .int .i64 y2, .int .i64 y3, .slice a m cap, .int .i64 At, .int .i64 Cd] 26) := hY4
  have HZ4 : Hid (Bxs w4 Z #[.int .i64 y0, .int .i64 y1, .int .i64 y2, .int .i64 y3, .slice a' m cap', .int .i64 At, .int .i64 Cd] 26) := hZ4
  have HO4 : Hid (OwnR w4 a m 3 (insF (rowL s))) := hO4
  have HP4 : Hid (OwnR w4 a' m 3 (insF (rowL s))) := hP4
  have HB4 : Hid (Below w.heap.size w w4) := hB4
  have HS4 : Hid (w4.heap.size = Z + 1) := hs4
  clear hw4 hZ hZ4 hY4 hP4 hO4 hB4 hs4
  obtain ⟨T, hT⟩ : ∃ T : Nat, T = 1 + m * 3 := ⟨_, rfl⟩
  have HMK : Hid (∀ W, OwnR W a' m 3 (insF (rowL s)) → Calls Tryd.prog 8 #[.agg #[.int .i64 y0, .int .i64 y1, .int .i64 y2, .int .i64 y3, .slice a' m cap', .int .i64 At, .int .i64 Cd], .int .i64 1] W fun e w' => e = .returned (.int .i64 (T : Int)) ∧ OwnR w' a' m 3 (mkI 1) ∧ W.grownBy w' (a'.map Addr.block)) := fun W h => hT ▸ mark_modOut y0 y1 y2 y3 a' m cap' At Cd (insF (rowL s)) HM.out 1 (by omega) W h
  have HHD : Hid (∀ W, OwnR W a' m 3 (mkI 1) → Calls Tryd.prog 9 #[.agg #[.int .i64 y0, .int .i64 y1, .int .i64 y2, .int .i64 y3, .slice a' m cap', .int .i64 At, .int .i64 Cd], .int .i64 1] W fun e w' => e = .returned (.int .i64 (T : Int)) ∧ Below W.heap.size W w') := fun W h => hT ▸ held_modOut y0 y1 y2 y3 a' m cap' At Cd HM.out 1 (by omega) W h
  have qT : decide ((T : Int) < 0) = false := by simp
  have qT2 : ((T : Int) != (T : Int)) = false := by simp
  clear hT
  have yy0 : w4.cell? ⟨Y, 0, none⟩ = some (.int .i64 y0) := HY4.out.cell 0
  have yy1 : w4.cell? ⟨Y, 1, none⟩ = some (.int .i64 y1) := HY4.out.cell 1
  have yy2 : w4.cell? ⟨Y, 2, none⟩ = some (.int .i64 y2) := HY4.out.cell 2
  have yy3 : w4.cell? ⟨Y, 3, none⟩ = some (.int .i64 y3) := HY4.out.cell 3
  have yy4 : w4.cell? ⟨Y, 4, none⟩ = some (.slice a m cap) := HY4.out.cell 4
  have yy5 : w4.cell? ⟨Y, 5, none⟩ = some (.int .i64 At) := HY4.out.cell 5
  have yy6 : w4.cell? ⟨Y, 6, none⟩ = some (.int .i64 Cd) := HY4.out.cell 6
  have z0 : w4.cell? ⟨Z, 0, none⟩ = some (.int .i64 y0) := HZ4.out.cell 0
  have z1 : w4.cell? ⟨Z, 1, none⟩ = some (.int .i64 y1) := HZ4.out.cell 1
  have z2 : w4.cell? ⟨Z, 2, none⟩ = some (.int .i64 y2) := HZ4.out.cell 2
  have z3 : w4.cell? ⟨Z, 3, none⟩ = some (.int .i64 y3) := HZ4.out.cell 3
  have z4 : w4.cell? ⟨Z, 4, none⟩ = some (.slice a' m cap') := HZ4.out.cell 4
  have z5 : w4.cell? ⟨Z, 5, none⟩ = some (.int .i64 At) := HZ4.out.cell 5
  have z6 : w4.cell? ⟨Z, 6, none⟩ = some (.int .i64 Cd) := HZ4.out.cell 6
  go_wp2_with fail
  refine (eq_modOut y0 y1 y2 y3 a' a m cap' cap At Cd (rowL s) HM.out _ HP4.out.inss HO4.out.inss).mono ?_
  rintro e w5 ⟨rfl, hb⟩
  have HY5 : Hid (Bxs w5 Y #[.int .i64 y0, .int .i64 y1, .int .i64 y2, .int .i64 y3, .slice a m cap, .int .i64 At, .int .i64 Cd] 26) := HY4.out.below hb
  have HZ5 : Hid (Bxs w5 Z #[.int .i64 y0, .int .i64 y1, .int .i64 y2, .int .i64 y3, .slice a' m cap', .int .i64 At, .int .i64 Cd] 26) := HZ4.out.below hb
  have HO5 : Hid (OwnR w5 a m 3 (insF (rowL s))) := HO4.out.below hb
  have HP5 : Hid (OwnR w5 a' m 3 (insF (rowL s))) := HP4.out.below hb
  have HB5 : Hid (Below w.heap.size w w5) := HB4.out.trans (hb.mono HB4.out.size)
  clear hb HY4 HZ4 HO4 HP4 HB4 
  have z0 : w5.cell? ⟨Z, 0, none⟩ = some (.int .i64 y0) := HZ5.out.cell 0
  have z1 : w5.cell? ⟨Z, 1, none⟩ = some (.int .i64 y1) := HZ5.out.cell 1
  have z2 : w5.cell? ⟨Z, 2, none⟩ = some (.int .i64 y2) := HZ5.out.cell 2
  have z3 : w5.cell? ⟨Z, 3, none⟩ = some (.int .i64 y3) := HZ5.out.cell 3
  have z4 : w5.cell? ⟨Z, 4, none⟩ = some (.slice a' m cap') := HZ5.out.cell 4
  have z5 : w5.cell? ⟨Z, 5, none⟩ = some (.int .i64 At) := HZ5.out.cell 5
  have z6 : w5.cell? ⟨Z, 6, none⟩ = some (.int .i64 Cd) := HZ5.out.cell 6
  go_wp2_with fail
  refine (HMK.out _ HP5.out).mono ?_
  rintro e w6 ⟨rfl, hP, hg⟩
  have hrow : ∀ k, a'.map Addr.block = some k → Y < k ∧ k < Z := HKZ.out
  have hwy := HwY.out
  have HY6 : Hid (Bxs w6 Y #[.int .i64 y0, .int .i64 y1, .int .i64 y2, .int .i64 y3, .slice a m cap, .int .i64 At, .int .i64 Cd] 26) := HY5.out.grown hg (fun e => by have := hrow _ e; omega)
  have HZ6 : Hid (Bxs w6 Z #[.int .i64 y0, .int .i64 y1, .int .i64 y2, .int .i64 y3, .slice a' m cap', .int .i64 At, .int .i64 Cd] 26) := HZ5.out.grown hg (fun e => by have := hrow _ e; omega)
  have HO6 : Hid (OwnR w6 a m 3 (insF (rowL s))) := HO5.out.grown hg (fun k e e' => by have := HKY.out k e; have := hrow k e'.symm; omega)
  have HP6 : Hid (OwnR w6 a' m 3 (mkI 1)) := hP
  have HB6 : Hid (Below w.heap.size w w6) := HB5.out.grown hg HB5.out.size (fun k e => by have := hrow k e; omega)
  clear hP hg hrow hwy HY5 HZ5 HO5 HP5 HB5
  have z0 : w6.cell? ⟨Z, 0, none⟩ = some (.int .i64 y0) := HZ6.out.cell 0
  have z1 : w6.cell? ⟨Z, 1, none⟩ = some (.int .i64 y1) := HZ6.out.cell 1
  have z2 : w6.cell? ⟨Z, 2, none⟩ = some (.int .i64 y2) := HZ6.out.cell 2
  have z3 : w6.cell? ⟨Z, 3, none⟩ = some (.int .i64 y3) := HZ6.out.cell 3
  have z4 : w6.cell? ⟨Z, 4, none⟩ = some (.slice a' m cap') := HZ6.out.cell 4
  have z5 : w6.cell? ⟨Z, 5, none⟩ = some (.int .i64 At) := HZ6.out.cell 5
  have z6 : w6.cell? ⟨Z, 6, none⟩ = some (.int .i64 Cd) := HZ6.out.cell 6
  go_wp2_with fail
  refine (HHD.out _ HP6.out).mono ?_
  rintro e w7 ⟨rfl, hb⟩
  have HY7 : Hid (Bxs w7 Y #[.int .i64 y0, .int .i64 y1, .int .i64 y2, .int .i64 y3, .slice a m cap, .int .i64 At, .int .i64 Cd] 26) := HY6.out.below hb
  have HZ7 : Hid (Bxs w7 Z #[.int .i64 y0, .int .i64 y1, .int .i64 y2, .int .i64 y3, .slice a' m cap', .int .i64 At, .int .i64 Cd] 26) := HZ6.out.below hb
  have HO7 : Hid (OwnR w7 a m 3 (insF (rowL s))) := HO6.out.below hb
  have HP7 : Hid (OwnR w7 a' m 3 (mkI 1)) := HP6.out.below hb
  have HB7 : Hid (Below w.heap.size w w7) := HB6.out.trans (hb.mono HB6.out.size)
  clear hb HY6 HZ6 HO6 HP6 HB6
  go_wp2_with fail
  refine (HIP.out _ (HF.out.below HB7.out) (HS.out.below HB7.out)).mono ?_
  rintro e w8 ⟨u0, u1, u2, u3, b', m', cap2, At', Cd', rfl, hO, hk, hb, hr⟩
  obtain ⟨rfl, rfl, rfl, rfl, rfl, rfl, rfl⟩ := HR.out.one hr
  obtain ⟨X, hX⟩ : ∃ b, b = w8.heap.size := ⟨_, rfl⟩
  have hX9 : Bxs (w8.alloc (.cells #[.int .i64 y0, .int .i64 y1, .int .i64 y2, .int .i64 y3, .slice b' m cap2, .int .i64 At, .int .i64 Cd] 26)) X #[.int .i64 y0, .int .i64 y1, .int .i64 y2, .int .i64 y3, .slice b' m cap2, .int .i64 At, .int .i64 Cd] 26 := bx_at hX
  have hY9 : Bxs (w8.alloc (.cells #[.int .i64 y0, .int .i64 y1, .int .i64 y2, .int .i64 y3, .slice b' m cap2, .int .i64 At, .int .i64 Cd] 26)) Y #[.int .i64 y0, .int .i64 y1, .int .i64 y2, .int .i64 y3, .slice a m cap, .int .i64 At, .int .i64 Cd] 26 := bx_under (HY7.out.below hb) _
  have hZ9 : Bxs (w8.alloc (.cells #[.int .i64 y0, .int .i64 y1, .int .i64 y2, .int .i64 y3, .slice b' m cap2, .int .i64 At, .int .i64 Cd] 26)) Z #[.int .i64 y0, .int .i64 y1, .int .i64 y2, .int .i64 y3, .slice a' m cap', .int .i64 At, .int .i64 Cd] 26 := bx_under (HZ7.out.below hb) _
  have hO9 : OwnR (w8.alloc (.cells #[.int .i64 y0, .int .i64 y1, .int .i64 y2, .int .i64 y3, .slice b' m cap2, .int .i64 At, .int .i64 Cd] 26)) a m 3 (insF (rowL s)) := (HO7.out.below hb).below ((Below.refl _ _).alloc (Nat.le_refl _) _)
  have hQ9 : OwnR (w8.alloc (.cells #[.int .i64 y0, .int .i64 y1, .int .i64 y2, .int .i64 y3, .slice b' m cap2, .int .i64 At, .int .i64 Cd] 26)) b' m 3 (insF (rowL s)) := hO.below ((Below.refl _ _).alloc (Nat.le_refl _) _)
  have hP9 : OwnR (w8.alloc (.cells #[.int .i64 y0, .int .i64 y1, .int .i64 y2, .int .i64 y3, .slice b' m cap2, .int .i64 At, .int .i64 Cd] 26)) a' m 3 (mkI 1) := (HP7.out.below hb).below ((Below.refl _ _).alloc (Nat.le_refl _) _)
  have hB9 : Below w.heap.size w (w8.alloc (.cells #[.int .i64 y0, .int .i64 y1, .int .i64 y2, .int .i64 y3, .slice b' m cap2, .int .i64 At, .int .i64 Cd] 26)) := (HB7.out.trans (hb.mono HB7.out.size)).alloc (Nat.le_trans HB7.out.size hb.size) _
  clear hO hk hb hr HY7 HZ7 HO7 HP7 HB7
  go_upto_region 16 with fail
  rw [← hX]
  obtain ⟨w9, hw9⟩ : ∃ W, W = w8.alloc (.cells #[.int .i64 y0, .int .i64 y1, .int .i64 y2, .int .i64 y3, .slice b' m cap2, .int .i64 At, .int .i64 Cd] 26) := ⟨_, rfl⟩
  rw [← hw9] at hX9 hY9 hZ9 hO9 hQ9 hP9 hB9 ⊢
  have HX9 : Hid (Bxs w9 X #[.int .i64 y0, .int .i64 y1, .int .i64 y2, .int .i64 y3, .slice b' m cap2, .int .i64 At, .int .i64 Cd] 26) := hX9
  have HY9 : Hid (Bxs w9 Y #[.int .i64 y0, .int .i64 y1, .int .i64 y2, .int .i64 y3, .slice a m cap, .int .i64 At, .int .i64 Cd] 26) := hY9
  have HZ9 : Hid (Bxs w9 Z #[.int .i64 y0, .int .i64 y1, .int .i64 y2, .int .i64 y3, .slice a' m cap', .int .i64 At, .int .i64 Cd] 26) := hZ9
  have HO9 : Hid (OwnR w9 a m 3 (insF (rowL s))) := hO9
  have HQ9 : Hid (OwnR w9 b' m 3 (insF (rowL s))) := hQ9
  have HP9 : Hid (OwnR w9 a' m 3 (mkI 1)) := hP9
  have HB9 : Hid (Below w.heap.size w w9) := hB9
  clear hw9 hX hX9 hY9 hZ9 hO9 hQ9 hP9 hB9
  have yy0 : w9.cell? ⟨Y, 0, none⟩ = some (.int .i64 y0) := HY9.out.cell 0
  have yy1 : w9.cell? ⟨Y, 1, none⟩ = some (.int .i64 y1) := HY9.out.cell 1
  have yy2 : w9.cell? ⟨Y, 2, none⟩ = some (.int .i64 y2) := HY9.out.cell 2
  have yy3 : w9.cell? ⟨Y, 3, none⟩ = some (.int .i64 y3) := HY9.out.cell 3
  have yy4 : w9.cell? ⟨Y, 4, none⟩ = some (.slice a m cap) := HY9.out.cell 4
  have yy5 : w9.cell? ⟨Y, 5, none⟩ = some (.int .i64 At) := HY9.out.cell 5
  have yy6 : w9.cell? ⟨Y, 6, none⟩ = some (.int .i64 Cd) := HY9.out.cell 6
  have x0 : w9.cell? ⟨X, 0, none⟩ = some (.int .i64 y0) := HX9.out.cell 0
  have x1 : w9.cell? ⟨X, 1, none⟩ = some (.int .i64 y1) := HX9.out.cell 1
  have x2 : w9.cell? ⟨X, 2, none⟩ = some (.int .i64 y2) := HX9.out.cell 2
  have x3 : w9.cell? ⟨X, 3, none⟩ = some (.int .i64 y3) := HX9.out.cell 3
  have x4 : w9.cell? ⟨X, 4, none⟩ = some (.slice b' m cap2) := HX9.out.cell 4
  have x5 : w9.cell? ⟨X, 5, none⟩ = some (.int .i64 At) := HX9.out.cell 5
  have x6 : w9.cell? ⟨X, 6, none⟩ = some (.int .i64 Cd) := HX9.out.cell 6
  go_wp2_with fail
  refine (eq_modOut y0 y1 y2 y3 b' a m cap2 cap At Cd (rowL s) HM.out _ HQ9.out.inss HO9.out.inss).mono ?_
  rintro e wA ⟨rfl, hb⟩
  have HZA : Hid (Bxs wA Z #[.int .i64 y0, .int .i64 y1, .int .i64 y2, .int .i64 y3, .slice a' m cap', .int .i64 At, .int .i64 Cd] 26) := HZ9.out.below hb
  have HPA : Hid (OwnR wA a' m 3 (mkI 1)) := HP9.out.below hb
  have HBA : Hid (Below w.heap.size w wA) := HB9.out.trans (hb.mono HB9.out.size)
  clear hb HX9 HY9 HZ9 HO9 HQ9 HP9 HB9
  have z0 : wA.cell? ⟨Z, 0, none⟩ = some (.int .i64 y0) := HZA.out.cell 0
  have z1 : wA.cell? ⟨Z, 1, none⟩ = some (.int .i64 y1) := HZA.out.cell 1
  have z2 : wA.cell? ⟨Z, 2, none⟩ = some (.int .i64 y2) := HZA.out.cell 2
  have z3 : wA.cell? ⟨Z, 3, none⟩ = some (.int .i64 y3) := HZA.out.cell 3
  have z4 : wA.cell? ⟨Z, 4, none⟩ = some (.slice a' m cap') := HZA.out.cell 4
  have z5 : wA.cell? ⟨Z, 5, none⟩ = some (.int .i64 At) := HZA.out.cell 5
  have z6 : wA.cell? ⟨Z, 6, none⟩ = some (.int .i64 Cd) := HZA.out.cell 6
  go_wp2_with fail
  refine (HHD.out _ HPA.out).mono ?_
  rintro e wB ⟨rfl, hb⟩
  have HBB : Hid (Below w.heap.size w wB) := HBA.out.trans (hb.mono HBA.out.size)
  clear hb
  go_wp2_with fail
  go_ret
  exact ⟨rfl, HBB.out⟩
end Go.Proofs.YtdbahildcecgbaaDoor
