/- Modules read: what the program's call does. -/
import Derived.Test.YtdbahildcecgbaaDoorMdV
import Derived.Test.YtdbahildcecgbaaDoorInsL
namespace Go.Proofs.YtdbahildcecgbaaDoor
open Go.RowKit
open Go.Proofs.YtdbahildcecgbaaDoor.Draw

theorem bl_set {w W : World} {R0 : Nat} (h : Below R0 w W) (j : Nat) (v : Value) : Below R0 w (W.setCell ⟨R0, j, none⟩ v) := h.setCell (p := ⟨R0, j, none⟩) (Nat.le_refl _) _
theorem RdOut.nil {s : ByteArray} {At Cd : Int} {w W : World} (h : ResIs s 0 0 0 0 0 At Cd) (hb : Below w.heap.size w W) : RdOut s w (.returned (.agg #[.int .i64 0, .int .i64 0, .int .i64 0, .int .i64 0, .slice none 0 0, .int .i64 (At), .int .i64 (Cd)])) W := ⟨0, 0, 0, 0, none, 0, 0, At, Cd, rfl, Or.inl rfl, (fun _ e => by cases e), hb, h⟩
set_option maxRecDepth 100000 in
set_option maxHeartbeats 32000000 in
theorem impl_moduleRead (s : ByteArray) (hs : s.size ≤ maxLen) (w : World) (hF : FunW w) (hS : ShaW w) :
    Calls Tryd.prog 6 #[.string s] w (RdOut s w) := by
  unfold maxLen at hs
  have HR0 : Hid (Bxs (w.alloc (.cells #[.int .i64 0, .int .i64 0, .int .i64 0, .int .i64 0, .slice none 0 0, .int .i64 0, .int .i64 0] 26)) w.heap.size #[.int .i64 0, .int .i64 0, .int .i64 0, .int .i64 0, .slice none 0 0, .int .i64 0, .int .i64 0] 26) := Bxs.new _ _ _
  have HB0 : Hid (Below w.heap.size w (w.alloc (.cells #[.int .i64 0, .int .i64 0, .int .i64 0, .int .i64 0, .slice none 0 0, .int .i64 0, .int .i64 0] 26))) := (Below.refl _ _).alloc (Nat.le_refl _) _
  by_cases hsz : 20000 < s.size
  · have q0 : decide (20000 < s.size) = true := by simpa using hsz
    have q1 : decide ((20000 : Int) < (s.size : Int)) = true := by simp; omega
    obtain ⟨R0, hR0⟩ : ∃ R, R = w.heap.size := ⟨_, rfl⟩
    have HZ : Hid (∀ W, Below R0 w W → RdOut s w (.returned (.agg #[.int .i64 0, .int .i64 0, .int .i64 0, .int .i64 0, .slice none 0 0, .int .i64 (0), .int .i64 (2)])) W) := fun W hb => RdOut.nil (Or.inl ⟨hsz, rfl, rfl, rfl, rfl, rfl, rfl, rfl⟩) (hR0 ▸ hb)
    go_enter Tryd.func6, Tryd.ntmps6
    go_upto_region 1 with fail
    obtain ⟨w0, hw0⟩ : ∃ W, W = w.alloc (.cells #[.int .i64 0, .int .i64 0, .int .i64 0, .int .i64 0, .slice none 0 0, .int .i64 0, .int .i64 0] 26) := ⟨_, rfl⟩
    rw [← hw0] at HR0 HB0 ⊢
    rw [← hR0] at HR0 HB0 ⊢
    clear hw0 hR0
    have HR : Hid (Bxs w0 R0 #[.int .i64 0, .int .i64 0, .int .i64 0, .int .i64 0, .slice none 0 0, .int .i64 0, .int .i64 0] 26) := HR0.out
    have HB : Hid (Below R0 w w0) := HB0.out
    have r0 := HR.out.cell 0
    have r1 := HR.out.cell 1
    have r2 := HR.out.cell 2
    have r3 := HR.out.cell 3
    have r4 := HR.out.cell 4
    have r5 := HR.out.cell 5
    have r6 := HR.out.cell 6
    simp at r0 r1 r2 r3 r4 r5 r6
    have rf : ∀ j, w0.frozen? ⟨R0, j, none⟩ = false := fun j => HR.out.fz j
    go_wp2_with fail
    refine bodyPost_ret (v := .agg #[.int .i64 0, .int .i64 0, .int .i64 0, .int .i64 0, .slice none 0 0, .int .i64 (0), .int .i64 (2)]) ?_ rfl (HZ.out _ ?_)
    · simp [results, Tryd.results6, go_sem, r0, r1, r2, r3, r4, r5, r6]
    · repeat refine bl_set ?_ _ _
      exact HB.out
  · have q0 : decide (20000 < s.size) = false := by simpa using hsz
    have q1 : decide ((20000 : Int) < (s.size : Int)) = false := by simp; omega
    have hsz' : s.size ≤ 20000 := by omega
    obtain ⟨R0, hR0⟩ : ∃ R, R = w.heap.size := ⟨_, rfl⟩
    have HMOD : Hid (∀ b W, Bxs W b #[.string s, .int .i64 0, .int .i64 0] 41 → Calls Tryd.prog 14 #[.pointer (some ⟨b, 0, none⟩)] W (MdOut b s W)) := fun b W h => impl_module s hsz' b W h
    have HZ : Hid (∀ At Cd W, ResIs s 0 0 0 0 0 At Cd → Below R0 w W → RdOut s w (.returned (.agg #[.int .i64 0, .int .i64 0, .int .i64 0, .int .i64 0, .slice none 0 0, .int .i64 (At), .int .i64 (Cd)])) W) := fun At Cd W h hb => RdOut.nil h (hR0 ▸ hb)
    have HRI : Hid (∀ y0 y1 y2 y3 m At Cd, (∃ (k : Nat) (p c : Int), RdEnd s k p c ∧ ((c ≠ 0 ∧ y0 = 0 ∧ y1 = 0 ∧ y2 = 0 ∧ y3 = 0 ∧ m = 0 ∧ At = p ∧ Cd = c) ∨
     (c = 0 ∧ p < s.size ∧ y0 = 0 ∧ y1 = 0 ∧ y2 = 0 ∧ y3 = 0 ∧ m = 0 ∧ At = p ∧ Cd = 3) ∨
     (c = 0 ∧ ¬ p < s.size ∧ ¬ ModP (vlu s 0) (vlu s 1) (vlu s 2) (vlu s 3) k (rowL s) ∧ y0 = 0 ∧ y1 = 0 ∧ y2 = 0 ∧ y3 = 0 ∧ m = 0 ∧ At = 0 ∧ Cd = 1) ∨
     (c = 0 ∧ ¬ p < s.size ∧ ModP (vlu s 0) (vlu s 1) (vlu s 2) (vlu s 3) k (rowL s) ∧ y0 = vlu s 0 ∧ y1 = vlu s 1 ∧ y2 = vlu s 2 ∧ y3 = vlu s 3 ∧ m = k ∧ At = 0 ∧ Cd = 0))) → ResIs s y0 y1 y2 y3 m At Cd) := fun y0 y1 y2 y3 m At Cd h => Or.inr ⟨hsz', h⟩
    have HIP : Hid (∀ (z0 z1 z2 z3 : Int) (a : Option Addr) (m cap : Nat) W, m ≤ 9223372036854775807 → Below w.heap.size w W → InsAt W a m (rowL s) → Calls Tryd.prog 15 #[.agg #[.int .i64 z0, .int .i64 z1, .int .i64 z2, .int .i64 z3, .slice a m cap]] W (ModOut z0 z1 z2 z3 m (rowL s) W)) := fun z0 z1 z2 z3 a m cap W hm hb h => impl_modRight z0 z1 z2 z3 a m cap hm (rowL s) W (hF.below hb) (hS.below hb) h
    clear hF hS
    go_enter Tryd.func6, Tryd.ntmps6
    go_upto_region 1 with fail
    obtain ⟨w0, hw0⟩ : ∃ W, W = w.alloc (.cells #[.int .i64 0, .int .i64 0, .int .i64 0, .int .i64 0, .slice none 0 0, .int .i64 0, .int .i64 0] 26) := ⟨_, rfl⟩
    rw [← hw0] at HR0 HB0 ⊢
    rw [← hR0] at HR0 HB0 HIP ⊢
    have hRs : R0 < w0.heap.size := HR0.out.lt
    have HX1 : Hid (Bxs (w0.alloc (.cells #[.string s, .int .i64 0, .int .i64 0] 41)) w0.heap.size #[.string s, .int .i64 0, .int .i64 0] 41) := Bxs.new _ _ _
    have HR1 : Hid (Bxs (w0.alloc (.cells #[.string s, .int .i64 0, .int .i64 0] 41)) R0 #[.int .i64 0, .int .i64 0, .int .i64 0, .int .i64 0, .slice none 0 0, .int .i64 0, .int .i64 0] 26) := HR0.out.below ((Below.refl _ _).alloc (Nat.le_refl _) _)
    have HB1 : Hid (Below R0 w (w0.alloc (.cells #[.string s, .int .i64 0, .int .i64 0] 41))) := HB0.out.alloc (by omega) _
    have HRR : Hid (R0 = w.heap.size) := hR0
    clear hw0 hR0 HR0 HB0
    go_upto_region 4 with fail
    obtain ⟨w1, hw1⟩ : ∃ W, W = w0.alloc (.cells #[.string s, .int .i64 0, .int .i64 0] 41) := ⟨_, rfl⟩
    obtain ⟨b, hb⟩ : ∃ b, b = w0.heap.size := ⟨_, rfl⟩
    rw [← hw1] at HX1 HR1 HB1 ⊢
    rw [← hb] at HX1 hRs ⊢
    have hw1s : R0 ≤ w1.heap.size := by have := HR1.out.lt; omega
    clear hw1 hb
    go_wp2_with fail
    refine (HMOD.out b _ HX1.out).mono ?_
    rintro e w2 ⟨a, m, cap, p, c, rfl, hx2, ht2, ho2, hk2, he2⟩
    have HX2 : Hid (Bxs w2 b #[.string s, .int .i64 p, .int .i64 c] 41) := hx2
    have HR2 : Hid (Bxs w2 R0 #[.int .i64 0, .int .i64 0, .int .i64 0, .int .i64 0, .slice none 0 0, .int .i64 0, .int .i64 0] 26) := ht2.bx HR1.out (by omega)
    have HB2 : Hid (Below R0 w w2) := HB1.out.trans (ht2.to (by omega) (by omega))
    have HO2 : Hid (OwnR w2 a m 3 (insF (rowL s))) := ho2
    have HK2 : Hid (∀ k, a.map Addr.block = some k → R0 < k ∧ k < w2.heap.size) := fun k e => by have := hk2 k e; have := HR1.out.lt; omega
    have HE : Hid (RdEnd s m p c) := he2
    clear hx2 ht2 ho2 hk2 he2 HX1 HR1 HB1 HMOD
    generalize vlu s 0 = z0 at *
    generalize vlu s 1 = z1 at *
    generalize vlu s 2 = z2 at *
    generalize vlu s 3 = z3 at *
    obtain ⟨M, hM⟩ : ∃ M, M = w2.heap.size := ⟨_, rfl⟩
    have hRM : R0 < M := by have := HR2.out.lt; omega
    have hbM : b < M := by have := HX2.out.lt; omega
    have HM3 : Hid (Bxs (w2.alloc (.cells #[.int .i64 z0, .int .i64 z1, .int .i64 z2, .int .i64 z3, .slice a m cap] 24)) M #[.int .i64 z0, .int .i64 z1, .int .i64 z2, .int .i64 z3, .slice a m cap] 24) := bx_at hM
    have HX3 : Hid (Bxs (w2.alloc (.cells #[.int .i64 z0, .int .i64 z1, .int .i64 z2, .int .i64 z3, .slice a m cap] 24)) b #[.string s, .int .i64 p, .int .i64 c] 41) := HX2.out.below ((Below.refl _ _).alloc (Nat.le_refl _) _)
    have HR3 : Hid (Bxs (w2.alloc (.cells #[.int .i64 z0, .int .i64 z1, .int .i64 z2, .int .i64 z3, .slice a m cap] 24)) R0 #[.int .i64 0, .int .i64 0, .int .i64 0, .int .i64 0, .slice none 0 0, .int .i64 0, .int .i64 0] 26) := HR2.out.below ((Below.refl _ _).alloc (Nat.le_refl _) _)
    have HB3 : Hid (Below R0 w (w2.alloc (.cells #[.int .i64 z0, .int .i64 z1, .int .i64 z2, .int .i64 z3, .slice a m cap] 24))) := HB2.out.alloc (by omega) _
    have HO3 : Hid (OwnR (w2.alloc (.cells #[.int .i64 z0, .int .i64 z1, .int .i64 z2, .int .i64 z3, .slice a m cap] 24)) a m 3 (insF (rowL s))) := HO2.out.below ((Below.refl _ _).alloc (Nat.le_refl _) _)
    have HK3 : Hid (∀ k, a.map Addr.block = some k → R0 < k ∧ k < (w2.alloc (.cells #[.int .i64 z0, .int .i64 z1, .int .i64 z2, .int .i64 z3, .slice a m cap] 24)).heap.size) := fun k e => by have := HK2.out k e; simp; omega
    clear HX2 HR2 HB2 HO2 HK2
    go_upto_region 5 with fail
    rw [← hM]
    obtain ⟨w3, hw3⟩ : ∃ W, W = w2.alloc (.cells #[.int .i64 z0, .int .i64 z1, .int .i64 z2, .int .i64 z3, .slice a m cap] 24) := ⟨_, rfl⟩
    rw [← hw3] at HM3 HX3 HR3 HB3 HO3 HK3 ⊢
    clear hw3 hM
    have HR : Hid (Bxs w3 R0 #[.int .i64 0, .int .i64 0, .int .i64 0, .int .i64 0, .slice none 0 0, .int .i64 0, .int .i64 0] 26) := HR3.out
    have HB : Hid (Below R0 w w3) := HB3.out
    have x1 : w3.cell? ⟨b, 1, none⟩ = some (.int .i64 p) := HX3.out.cell 1
    have x2 : w3.cell? ⟨b, 2, none⟩ = some (.int .i64 c) := HX3.out.cell 2
    have m0 : w3.cell? ⟨M, 0, none⟩ = some (.int .i64 z0) := HM3.out.cell 0
    have m1 : w3.cell? ⟨M, 1, none⟩ = some (.int .i64 z1) := HM3.out.cell 1
    have m2 : w3.cell? ⟨M, 2, none⟩ = some (.int .i64 z2) := HM3.out.cell 2
    have m3 : w3.cell? ⟨M, 3, none⟩ = some (.int .i64 z3) := HM3.out.cell 3
    have m4 : w3.cell? ⟨M, 4, none⟩ = some (.slice a m cap) := HM3.out.cell 4
    by_cases hc : c = 0
    · have hm : m ≤ 2000 := by
        rcases HE.out with ⟨_, _, h, _⟩ | ⟨_, _, _, h⟩ | ⟨_, _, h, _⟩
        · exact h
        · omega
        · exact absurd hc h
      have qc : (c != 0) = false := by simpa using hc
      by_cases hp : p < (s.size : Int)
      · have qp : decide (p < (s.size : Int)) = true := by simpa using hp
        have HS : Hid (ResIs s 0 0 0 0 0 p 3) := HRI.out _ _ _ _ _ _ _ ⟨m, p, c, HE.out, Or.inr (Or.inl ⟨hc, hp, rfl, rfl, rfl, rfl, rfl, rfl, rfl⟩)⟩
        have r0 := HR.out.cell 0
        have r1 := HR.out.cell 1
        have r2 := HR.out.cell 2
        have r3 := HR.out.cell 3
        have r4 := HR.out.cell 4
        have r5 := HR.out.cell 5
        have r6 := HR.out.cell 6
        simp at r0 r1 r2 r3 r4 r5 r6
        have rf : ∀ j, w3.frozen? ⟨R0, j, none⟩ = false := fun j => HR.out.fz j
        clear HE HRI hc hp HIP HM3 HX3 HR3 HB3 HO3 HK3 hm
        go_wp2_with fail
        refine bodyPost_ret (v := .agg #[.int .i64 0, .int .i64 0, .int .i64 0, .int .i64 0, .slice none 0 0, .int .i64 (p), .int .i64 (3)]) ?_ rfl (HZ.out _ _ _ HS.out ?_)
        · simp [results, Tryd.results6, go_sem, r0, r1, r2, r3, r4, r5, r6]
        · repeat refine bl_set ?_ _ _
          exact HB.out
      · have qp : decide (p < (s.size : Int)) = false := by simpa using hp
        have HMR := HIP.out z0 z1 z2 z3 a m cap w3 (by omega) (HRR.out ▸ HB3.out) HO3.out.inss
        have HMR : Hid (Calls Tryd.prog 15 _ _ _) := HMR
        have HN : Hid (¬ ModP z0 z1 z2 z3 m (rowL s) → ResIs s 0 0 0 0 0 0 1) := fun h => HRI.out _ _ _ _ _ _ _ ⟨m, p, c, HE.out, Or.inr (Or.inr (Or.inl ⟨hc, (by first | exact hp | omega), h, rfl, rfl, rfl, rfl, rfl, rfl, rfl⟩))⟩
        have HY : Hid (ModP z0 z1 z2 z3 m (rowL s) → ResIs s z0 z1 z2 z3 m 0 0) := fun h => HRI.out _ _ _ _ _ _ _ ⟨m, p, c, HE.out, Or.inr (Or.inr (Or.inr ⟨hc, (by first | exact hp | omega), h, rfl, rfl, rfl, rfl, rfl, rfl, rfl⟩))⟩
        clear HE HRI hc hp HIP HR HB
        go_wp2_with fail
        refine HMR.out.mono ?_
        rintro e w4 ⟨ok, rfl, hok, hb4⟩
        have HOK : Hid (ok = true ↔ ModP z0 z1 z2 z3 m (rowL s)) := hok
        have HR : Hid (Bxs w4 R0 #[.int .i64 0, .int .i64 0, .int .i64 0, .int .i64 0, .slice none 0 0, .int .i64 0, .int .i64 0] 26) := HR3.out.below hb4
        have HB : Hid (Below R0 w w4) := HB3.out.trans (hb4.mono (by have := HR3.out.lt; omega))
        have HM4 : Hid (Bxs w4 M #[.int .i64 z0, .int .i64 z1, .int .i64 z2, .int .i64 z3, .slice a m cap] 24) := HM3.out.below hb4
        have HO4 : Hid (OwnR w4 a m 3 (insF (rowL s))) := HO3.out.below hb4
        have HK4 : Hid (∀ k, a.map Addr.block = some k → R0 < k ∧ k < w4.heap.size) := fun k e => by have := HK3.out k e; have := hb4.size; omega
        clear hok hb4 HR3 HB3 HM3 HO3 HK3 HX3 x1 x2 m0 m1 m2 m3 m4 HMR
        have m0 : w4.cell? ⟨M, 0, none⟩ = some (.int .i64 z0) := HM4.out.cell 0
        have m1 : w4.cell? ⟨M, 1, none⟩ = some (.int .i64 z1) := HM4.out.cell 1
        have m2 : w4.cell? ⟨M, 2, none⟩ = some (.int .i64 z2) := HM4.out.cell 2
        have m3 : w4.cell? ⟨M, 3, none⟩ = some (.int .i64 z3) := HM4.out.cell 3
        have m4 : w4.cell? ⟨M, 4, none⟩ = some (.slice a m cap) := HM4.out.cell 4
        have r0 := HR.out.cell 0
        have r1 := HR.out.cell 1
        have r2 := HR.out.cell 2
        have r3 := HR.out.cell 3
        have r4 := HR.out.cell 4
        have r5 := HR.out.cell 5
        have r6 := HR.out.cell 6
        simp at r0 r1 r2 r3 r4 r5 r6
        have rf : ∀ j, w4.frozen? ⟨R0, j, none⟩ = false := fun j => HR.out.fz j
        cases ok
        · have HS : Hid (ResIs s 0 0 0 0 0 0 1) := HN.out (fun h => by have := HOK.out.2 h; cases this)
          clear HN HY HOK HM4 HO4 HK4
          go_wp2_with fail
          refine bodyPost_ret (v := .agg #[.int .i64 0, .int .i64 0, .int .i64 0, .int .i64 0, .slice none 0 0, .int .i64 (0), .int .i64 (1)]) ?_ rfl (HZ.out _ _ _ HS.out ?_)
          · simp [results, Tryd.results6, go_sem, r0, r1, r2, r3, r4, r5, r6]
          · repeat refine bl_set ?_ _ _
            exact HB.out
        · have HS : Hid (ResIs s z0 z1 z2 z3 m 0 0) := HY.out (HOK.out.1 rfl)
          have HF : Hid (∀ W, OwnR W a m 3 (insF (rowL s)) → w4.heap.size ≤ W.heap.size → Below R0 w W → RdOut s w (.returned (.agg #[.int .i64 z0, .int .i64 z1, .int .i64 z2, .int .i64 z3, .slice a m cap, .int .i64 0, .int .i64 0])) W) := fun W h1 h2 h3 => ⟨z0, z1, z2, z3, a, m, cap, 0, 0, rfl, h1, fun k e => by have := HK4.out k e; have := HRR.out; omega, HRR.out ▸ h3, HS.out⟩
          have hne : ∀ k, a.map Addr.block = some k → k ≠ R0 := fun k e => by have := HK4.out k e; omega
          have HNE : Hid (∀ k, a.map Addr.block = some k → k ≠ R0) := hne
          clear HN HY HOK HM4 HK4 HS hne
          go_wp2_with fail
          refine bodyPost_ret (v := .agg #[.int .i64 z0, .int .i64 z1, .int .i64 z2, .int .i64 z3, .slice a m cap, .int .i64 0, .int .i64 0]) ?_ rfl (HF.out _ ?_ ?_ ?_)
          · simp [results, Tryd.results6, go_sem, r0, r1, r2, r3, r4, r5, r6]
          · repeat refine OwnR.setM ?_ HNE.out
            exact HO4.out
          · simp
          · repeat refine bl_set ?_ _ _
            exact HB.out
    · have qc : (c != 0) = true := by simpa using hc
      have HS : Hid (ResIs s 0 0 0 0 0 p c) := HRI.out _ _ _ _ _ _ _ ⟨m, p, c, HE.out, Or.inl ⟨hc, rfl, rfl, rfl, rfl, rfl, rfl, rfl⟩⟩
      have r0 := HR.out.cell 0
      have r1 := HR.out.cell 1
      have r2 := HR.out.cell 2
      have r3 := HR.out.cell 3
      have r4 := HR.out.cell 4
      have r5 := HR.out.cell 5
      have r6 := HR.out.cell 6
      simp at r0 r1 r2 r3 r4 r5 r6
      have rf : ∀ j, w3.frozen? ⟨R0, j, none⟩ = false := fun j => HR.out.fz j
      clear HE HRI hc HIP HM3 HX3 HR3 HB3 HO3 HK3
      go_wp2_with fail
      refine bodyPost_ret (v := .agg #[.int .i64 0, .int .i64 0, .int .i64 0, .int .i64 0, .slice none 0 0, .int .i64 (p), .int .i64 (c)]) ?_ rfl (HZ.out _ _ _ HS.out ?_)
      · simp [results, Tryd.results6, go_sem, r0, r1, r2, r3, r4, r5, r6]
      · repeat refine bl_set ?_ _ _
        exact HB.out
end Go.Proofs.YtdbahildcecgbaaDoor
