/- The program's way through code: what its call that follows a place does. -/
import Derived.Test.YtdbahildcecgbaaDoorTkI
import Derived.Test.YtdbahildcecgbaaDoorClm
import Derived.Deep.RegionHeld3
namespace Go.Proofs.YtdbahildcecgbaaDoor
open Go.RowKit
open Go.Proofs.YtdbahildcecgbaaDoor.Draw

theorem insB_facts {z1 z2 z3 : Int} {n : Nat} {o u v : Int} (h : insB z1 z2 z3 n o u v = true) : (1 ≤ o ∧ o ≤ 26) ∧ (o = 20 → 1 ≤ u ∧ u ≤ 7) ∧ (o = 21 ∨ o = 22 → 0 ≤ u ∧ u < n) := by
  have h0 := h
  unfold insB at h0
  simp only [Bool.and_eq_true, decide_eq_true_eq] at h0
  rw [← insM_eq] at h
  refine ⟨⟨h0.1, h0.2.1⟩, fun e => ?_, fun e => ?_⟩
  · subst e
    unfold insM at h
    split at h
    · cases h
    · simp only [show ¬ (20 : Int) = 2 by omega, show ¬ (20 : Int) = 3 by omega, show ¬ (20 : Int) = 4 by omega, show ¬ (20 : Int) = 5 by omega, show ¬ (20 : Int) = 6 by omega, if_false, if_true, inB, Bool.and_eq_true, decide_eq_true_eq] at h
      exact h
  · rcases e with rfl | rfl
    · unfold insM at h
      split at h
      · cases h
      · simp only [show ¬ (21 : Int) = 2 by omega, show ¬ (21 : Int) = 3 by omega, show ¬ (21 : Int) = 4 by omega, show ¬ (21 : Int) = 5 by omega, show ¬ (21 : Int) = 6 by omega, show ¬ (21 : Int) = 20 by omega, if_false, if_true, Bool.and_eq_true, decide_eq_true_eq] at h
        exact h
    · unfold insM at h
      split at h
      · cases h
      · simp only [show ¬ (22 : Int) = 2 by omega, show ¬ (22 : Int) = 3 by omega, show ¬ (22 : Int) = 4 by omega, show ¬ (22 : Int) = 5 by omega, show ¬ (22 : Int) = 6 by omega, show ¬ (22 : Int) = 20 by omega, show ¬ (22 : Int) = 21 by omega, if_false, if_true, Bool.and_eq_true, decide_eq_true_eq] at h
        exact h
/-- What following a place hands back. -/
def LevOut (w0 : World) (B C G : Nat) (z0 z1 z2 z3 : Int) (a : Option Addr) (n c : Nat) (L : Nat → In) (lv : Nat → Int) (W : List Nat) (e : Ending) (w' : World) : Prop := ∃ b lv' W', e = .returned (.bool b) ∧ Clm w0 w' B C G z0 z1 z2 z3 a n c lv' W' ∧ 2 * unl lv' n + W'.length ≤ 2 * unl lv n + W.length ∧ (if b then Climb L n lv' (fun j => j ∈ W') ∧ Wts n lv' W' else ¬ Good L n)
theorem end_at (x : In) : endI x = endI ⟨x.o, 0, 0⟩ := rfl
theorem jmp_at (x : In) : jmpI x = jmpI ⟨x.o, 0, 0⟩ := rfl
/-- A place is come to, as the mathematics has it. -/
def StepOut (w0 : World) (B C G : Nat) (z0 z1 z2 z3 : Int) (a : Option Addr) (n c : Nat) (L : Nat → In) (lv : Nat → Int) (W : List Nat) (k j : Nat) (h : Int) (w : World) (e : Ending) (w' : World) : Prop := ∃ b lv' W', e = .returned (.bool b) ∧ Clm w0 w' B C G z0 z1 z2 z3 a n c lv' W' ∧ Kept2 w w' C G ∧ 2 * unl lv' n + W'.length ≤ 2 * unl lv n + W.length ∧ W'.length ≤ W.length + 1 ∧ (if b then j < n ∧ Climb L n lv' (fun i => i ∈ W' ∨ i = k) ∧ Wts n lv' W' ∧ lv' j = h ∧ ∀ i, 0 ≤ lv i → lv' i = lv i else ¬ Good L n)
theorem step_reach {w0 w : World} {B C G : Nat} {z0 z1 z2 z3 : Int} {a : Option Addr} {n c : Nat} {lv : Nat → Int} {W : List Nat} (hn : n ≤ 2000) (L : Nat → In) (k j : Nat) (hj : j ≤ 2000) (h : Int) (h0 : 0 ≤ h) (hh : h ≤ 1000) (hr : Rch L j h) (hc : Climb L n lv (fun i => i ∈ W ∨ i = k)) (hw : Wts n lv W) (hW : W.length ≤ 100000) (hC : Clm w0 w B C G z0 z1 z2 z3 a n c lv W) :
    Calls Tryd.prog 45 #[.pointer (some ⟨C, 0, none⟩), .int .i64 (j : Int), .int .i64 h] w (StepOut w0 B C G z0 z1 z2 z3 a n c L lv W k j h w) := by
  have hlo : ∀ j, j < n → -1 ≤ lv j := hc.low
  have hhi : ∀ j, j < n → lv j ≤ 60 := fun j hj => by
    rcases (by have := hc.low j hj; omega : lv j = -1 ∨ 0 ≤ lv j) with e | e
    · omega
    · exact (hc.sound j hj e).2
  refine (impl_reach hn j hj h h0 hh hlo hhi hW hC).mono ?_
  rintro e w' ⟨b, lv', W', rfl, hC', hK, hb⟩
  cases b
  · obtain ⟨hn2, rfl, rfl⟩ := (by simpa using hb : NoStp n lv j h ∧ lv' = lv ∧ W' = W)
    refine ⟨false, _, _, rfl, hC', hK, Nat.le_refl _, by omega, ?_⟩
    rw [if_neg (by simp)]
    exact hn2.bad hc hr
  · obtain ⟨hjn, h6, hs⟩ := (by simpa using hb : j < n ∧ h ≤ 60 ∧ Stp lv W lv' W' j h)
    obtain ⟨x1, x2, x3, x4, x5⟩ := hs.climb hc hw hr h0 h6 hjn
    refine ⟨true, lv', W', rfl, hC', hK, x5, ?_, ?_⟩
    · rcases hs with ⟨_, _, rfl⟩ | ⟨_, _, rfl⟩
      · simp
      · omega
    · rw [if_pos rfl]
      exact ⟨hjn, x1, x2, x3, x4⟩
/-- A block of the call's own. -/
def Bxs (w : World) (j : Nat) (cs : Array Value) (t : TypeId) : Prop := w.heap[j]? = some (.cells cs t (0, 0))
theorem Bxs.below {w w' : World} {j : Nat} {cs : Array Value} {t : TypeId} (h : Bxs w j cs t) (hb : Below w.heap.size w w') : Bxs w' j cs t := (hb.block j (Array.getElem?_eq_some_iff.1 h).1).trans h
theorem Bxs.cell {w : World} {j : Nat} {cs : Array Value} {t : TypeId} (h : Bxs w j cs t) (i : Nat) : w.cell? ⟨j, i, none⟩ = cs[i]? := Lib.cell_of_heap h i
theorem Bxs.lt {w : World} {j : Nat} {cs : Array Value} {t : TypeId} (h : Bxs w j cs t) : j < w.heap.size := (Array.getElem?_eq_some_iff.1 h).1
theorem Bxs.new (w : World) (cs : Array Value) (t : TypeId) : Bxs (w.alloc (.cells cs t)) w.heap.size cs t := by show (w.heap.push _)[w.heap.size]? = _; simp
set_option maxRecDepth 100000 in
set_option maxHeartbeats 16000000 in
theorem impl_leave {w0 w : World} {B C G : Nat} {z0 z1 z2 z3 : Int} {a : Option Addr} {n c : Nat} {lv : Nat → Int} {W : List Nat} (hn : n ≤ 2000) (k : Nat) (hk : k < n) (L : Nat → In) (hA : InsAt w0 a n L) (hF : FunW w0) (hS : ShaW w0) (hI : insB z1 z2 z3 n (L k).o (L k).a (L k).b = true) (hc : Climb L n lv (fun j => j ∈ W ∨ j = k)) (hw : Wts n lv W) (h0 : 0 ≤ lv k) (hW : W.length ≤ 90000) (hC : Clm w0 w B C G z0 z1 z2 z3 a n c lv W) :
    Calls Tryd.prog 46 #[.pointer (some ⟨C, 0, none⟩), .int .i64 (k : Int)] w (LevOut w0 B C G z0 z1 z2 z3 a n c L lv W) := by
  obtain ⟨⟨f1, f2⟩, f20, fj⟩ := insB_facts hI
  have hlo : ∀ j, j < n → -1 ≤ lv j := hc.low
  have hhi : ∀ j, j < n → lv j ≤ 60 := fun j hj => by
    rcases (by have := hc.low j hj; omega : lv j = -1 ∨ 0 ≤ lv j) with e | e
    · omega
    · exact (hc.sound j hj e).2
  have hr : Rch L k (lv k) := (hc.sound k hk h0).1
  have HTK : ∀ W, Below w0.heap.size w0 W → Calls Tryd.prog 49 #[.agg #[.int .i64 (L k).o, .int .i64 (L k).a, .int .i64 (L k).b]] W fun e w' => e = .returned (.int .i64 (takeI (L k))) ∧ Below W.heap.size W w' := fun W hb => impl_taken (L k).o (L k).a (L k).b f1 f2 f20 W (hF.below hb) (hS.below hb)
  have htk := take_range (L k)
  have hpt := put_range (L k)
  have hup := hhi k hk
  obtain ⟨M, hM⟩ : ∃ M : Nat, (L k).o = (M : Int) := ⟨(L k).o.toNat, by omega⟩
  have hM27 : M < 27 := by omega
  have hP : (shp M).p = putI (L k) := by rw [put_shp M hM27]; unfold putI; rw [hM]
  have hJ : ((shp M).a == 6) = jmpI (L k) := by rw [place_shp M hM27, jmp_at (L k), hM]
  have hE : (shp M).e = endI (L k) := by rw [end_shp M hM27, end_at (L k), hM]
  -- the three ways that it can end, as mathematics
  have HBAD : Hid (lv k < takeI (L k) → ¬ Good L n) := fun h => bad_take hr h
  have HRN : Hid (endI (L k) = false → Rch L (k + 1) (lv k - takeI (L k) + putI (L k))) := fun h => hr.next h
  have HRJ : Hid (jmpI (L k) = true → Rch L (L k).a.toNat (lv k - takeI (L k) + putI (L k))) := fun h => hr.jump h
  have hjm : jmpI (L k) = true → 0 ≤ (L k).a ∧ (L k).a < n := fun h => fj (by
    unfold jmpI at h
    simp only [Bool.or_eq_true, beq_iff_eq] at h
    exact h)
  have HSH : Hid (∀ lv' : Nat → Int, takeI (L k) ≤ lv k → lv' k = lv k → (endI (L k) = false → k + 1 < n ∧ lv' (k + 1) = lv k - takeI (L k) + putI (L k)) → (jmpI (L k) = true → (L k).a.toNat < n ∧ lv' (L k).a.toNat = lv k - takeI (L k) + putI (L k)) → Shut L n lv' k) := fun lv' p1 p2 p3 p4 => by
    unfold Shut
    rw [p2]
    exact ⟨p1, p3, p4⟩
  have HCL : Hid (Climb L n lv (fun j => j ∈ W ∨ j = k) ∧ Wts n lv W) := ⟨hc, hw⟩
  rcases hA with h00 | ⟨g, o', rfl, hg, hcs⟩
  · omega
  obtain ⟨d0, d1, d2⟩ := hcs k hk
  have hsh := (hS.below (hC.bel.alloc hC.bel.size (.cells #[.int .i64 (M : Int), .int .i64 (L k).a, .int .i64 (L k).b] 38))) M hM27
  have b0 := (hC.bel.cell (p := ⟨g, _, none⟩) hg).trans d0
  have b1 := (hC.bel.cell (p := ⟨g, _, none⟩) hg).trans d1
  have b2 := (hC.bel.cell (p := ⟨g, _, none⟩) hg).trans d2
  rw [hM] at b0
  rw [hM] at HTK
  clear d0 d1 d2 hcs hS hF hI f1 f2 f20 fj hr hc hw hM
  obtain ⟨t, ht⟩ : ∃ t, t = takeI (L k) := ⟨_, rfl⟩
  obtain ⟨p, hp⟩ : ∃ p, p = putI (L k) := ⟨_, rfl⟩
  rw [← ht] at HTK HBAD HRN HRJ HSH htk
  rw [← hp] at HRN HRJ HSH hpt
  rw [← hp] at hP
  generalize (L k).a = U at *
  generalize (L k).b = V at *
  generalize endI (L k) = E at *
  generalize jmpI (L k) = J at *
  obtain ⟨s0, s1, s2, s3, s4, s5⟩ := hsh
  rw [hP] at s4
  rw [hE] at s5
  generalize nameO M = X at *
  generalize (shp M).a = A at *
  generalize (shp M).b = D at *
  generalize (shp M).t = T at *
  clear hP hE ht hp
  obtain ⟨l1, l2, l3, l4, l5, l6, l7⟩ := hC.lt
  have m4 := hC.m4
  have m5 := hC.m5
  have a0 : w.cell? ⟨G, k, none⟩ = some (.int .i64 (lv k + 1)) := hC.own.2.1 k hk
  have hal : Below w.heap.size w (w.alloc (.cells #[.int .i64 (M : Int), .int .i64 U, .int .i64 V] 38)) := (Below.refl _ _).alloc (Nat.le_refl _) _
  have hal2 : Below w.heap.size w ((w.alloc (.cells #[.int .i64 (M : Int), .int .i64 U, .int .i64 V] 38)).alloc (.cells #[.string X, .int .i64 A, .int .i64 D, .int .i64 T, .int .i64 p, .bool E] 74)) := hal.alloc (by simp) _
  have hC2 := hC.next hal2
  have hb1 : Bxs ((w.alloc (.cells #[.int .i64 (M : Int), .int .i64 U, .int .i64 V] 38)).alloc (.cells #[.string X, .int .i64 A, .int .i64 D, .int .i64 T, .int .i64 p, .bool E] 74)) w.heap.size #[.int .i64 (M : Int), .int .i64 U, .int .i64 V] 38 := (Bxs.new w _ _).below ((Below.refl _ _).alloc (Nat.le_refl _) _)
  have hb2 : Bxs ((w.alloc (.cells #[.int .i64 (M : Int), .int .i64 U, .int .i64 V] 38)).alloc (.cells #[.string X, .int .i64 A, .int .i64 D, .int .i64 T, .int .i64 p, .bool E] 74)) (w.heap.size + 1) #[.string X, .int .i64 A, .int .i64 D, .int .i64 T, .int .i64 p, .bool E] 74 := by
    have := Bxs.new (w.alloc (.cells #[.int .i64 (M : Int), .int .i64 U, .int .i64 V] 38)) #[.string X, .int .i64 A, .int .i64 D, .int .i64 T, .int .i64 p, .bool E] 74
    simpa using this
  have HLT : Hid (G < w.heap.size ∧ C < w.heap.size) := ⟨by omega, l6⟩
  have HCl : Hid (Clm w0 ((w.alloc (.cells #[.int .i64 (M : Int), .int .i64 U, .int .i64 V] 38)).alloc (.cells #[.string X, .int .i64 A, .int .i64 D, .int .i64 T, .int .i64 p, .bool E] 74)) B C G z0 z1 z2 z3 (some ⟨g, o', none⟩) n c lv W) := hC2
  have HB1 : Hid (Bxs _ _ _ _) := hb1
  have HB2 : Hid (Bxs _ _ _ _) := hb2
  have HTK : Hid (∀ W, Below w0.heap.size w0 W → Calls Tryd.prog 49 #[.agg #[.int .i64 (M : Int), .int .i64 U, .int .i64 V]] W fun e w' => e = .returned (.int .i64 t) ∧ Below W.heap.size W w') := HTK
  obtain ⟨z, x, d, q, hz, hx, hd, hq⟩ : ∃ z x d q, z = lv k + 1 ∧ x = lv k ∧ d = lv k - t ∧ q = lv k - t + p := ⟨_, _, _, _, rfl, rfl, rfl, rfl⟩
  have a0 : w.cell? ⟨G, k, none⟩ = some (.int .i64 z) := by rw [hz]; exact a0
  have hwa : IntKind.i64.wrap (z - 1) = x := by rw [hz, hx, IntWalk.i64_in _ (by omega)]; omega
  have hwb : IntKind.i64.wrap (x - t) = d := by rw [hx, hd]; exact IntWalk.i64_in _ (by omega)
  have hwc : IntKind.i64.wrap (d + p) = q := by rw [hd, hq]; exact IntWalk.i64_in _ (by omega)
  have HEQ : Hid (z = lv k + 1 ∧ x = lv k ∧ d = lv k - t ∧ q = lv k - t + p) := ⟨hz, hx, hd, hq⟩
  clear hz hx hd hq
  have hwk : IntKind.i64.wrap ((k : Int) + 1) = ((k + 1 : Nat) : Int) := by rw [IntWalk.i64_in _ (by omega)]; omega
  have HNUM : Hid (0 ≤ t ∧ 0 ≤ p ∧ p ≤ 1 ∧ lv k ≤ 60) := ⟨htk.1, hpt.1, hpt.2, hup⟩
  have HST : Hid (∀ (lv' : Nat → Int) (W' : List Nat) (j : Nat) (h : Int) (w' : World), j ≤ 2000 → 0 ≤ h → h ≤ 1000 → Rch L j h → Climb L n lv' (fun i => i ∈ W' ∨ i = k) → Wts n lv' W' → W'.length ≤ 100000 → Clm w0 w' B C G z0 z1 z2 z3 (some ⟨g, o', none⟩) n c lv' W' → Calls Tryd.prog 45 #[.pointer (some ⟨C, 0, none⟩), .int .i64 (j : Int), .int .i64 h] w' (StepOut w0 B C G z0 z1 z2 z3 (some ⟨g, o', none⟩) n c L lv' W' k j h w')) := fun lv' W' j h w' x1 x2 x3 x4 x5 x6 x7 x8 => step_reach hn L k j x1 h x2 x3 x4 x5 x6 x7 x8
  clear hC hC2 hb1 hb2 hal hal2 htk hpt hup hlo hhi l1 l2 l3 l4 l5 l6 l7 hg
  go_enter Tryd.func46, Tryd.ntmps46
  go_wp2_with fail
  go_upto_region 3 with fail
  obtain ⟨W2, hW2⟩ : ∃ Wq, Wq = ((w.alloc (.cells #[.int .i64 (M : Int), .int .i64 U, .int .i64 V] 38)).alloc (.cells #[.string X, .int .i64 A, .int .i64 D, .int .i64 T, .int .i64 p, .bool E] 74)) := ⟨_, rfl⟩
  rw [← hW2] at HCl HB1 HB2 ⊢
  clear hW2 m4 a0 b0 b1 b2 s0 s1 s2 s3 s4 s5 m5
  have x0 : W2.cell? ⟨C, 5, none⟩ = some (.slice (some ⟨G, 0, none⟩) n n) := HCl.out.m5
  have x1 : W2.cell? ⟨G, k, none⟩ = some (.int .i64 z) := by rw [HCl.out.own.2.1 k hk, HEQ.out.1]; rfl
  have x2 : W2.cell? ⟨w.heap.size, 0, none⟩ = some (.int .i64 (M : Int)) := HB1.out.cell 0
  have x3 : W2.cell? ⟨w.heap.size, 1, none⟩ = some (.int .i64 U) := HB1.out.cell 1
  have x4 : W2.cell? ⟨w.heap.size, 2, none⟩ = some (.int .i64 V) := HB1.out.cell 2
  go_cut [7] (fun r wx => r = .int .i64 d ∧ Hid (Clm w0 wx B C G z0 z1 z2 z3 (some ⟨g, o', none⟩) n c lv W) ∧ Hid (Bxs wx w.heap.size #[.int .i64 (M : Int), .int .i64 U, .int .i64 V] 38) ∧ Hid (Bxs wx (w.heap.size + 1) #[.string X, .int .i64 A, .int .i64 D, .int .i64 T, .int .i64 p, .bool E] 74))
  case first =>
    go_region_held3 (fun W => W.cell? ⟨C, 5, none⟩ = some (.slice (some ⟨G, 0, none⟩) n n) ∧ W.cell? ⟨G, k, none⟩ = some (.int .i64 z) ∧ W.cell? ⟨w.heap.size, 0, none⟩ = some (.int .i64 (M : Int)) ∧ W.cell? ⟨w.heap.size, 1, none⟩ = some (.int .i64 U) ∧ W.cell? ⟨w.heap.size, 2, none⟩ = some (.int .i64 V)) (go_keep) (first | (go_at_call 49; refine (HTK.out _ (by first | exact HCl.out.bel | exact HCl.out.bel.drew)).mono ?_; rintro e w3 ⟨rfl, hb3⟩; have Y : Clm w0 w3 B C G z0 z1 z2 z3 (some ⟨g, o', none⟩) n c lv W := (by first | exact HCl.out.next hb3 | exact HCl.out.drew.next hb3); have Y1 : Bxs w3 w.heap.size #[.int .i64 (M : Int), .int .i64 U, .int .i64 V] 38 := (by first | exact HB1.out.below hb3 | exact (HB1.out.below ((Below.refl _ _).drew)).below hb3); have Y2 : Bxs w3 (w.heap.size + 1) #[.string X, .int .i64 A, .int .i64 D, .int .i64 T, .int .i64 p, .bool E] 74 := (by first | exact HB2.out.below hb3 | exact (HB2.out.below ((Below.refl _ _).drew)).below hb3); have x0 : w3.cell? ⟨C, 5, none⟩ = some (.slice (some ⟨G, 0, none⟩) n n) := Y.m5; have x1 : w3.cell? ⟨G, k, none⟩ = some (.int .i64 z) := (by rw [Y.own.2.1 k hk, HEQ.out.1]; rfl); have x2 : w3.cell? ⟨w.heap.size, 0, none⟩ = some (.int .i64 (M : Int)) := Y1.cell 0; have x3 : w3.cell? ⟨w.heap.size, 1, none⟩ = some (.int .i64 U) := Y1.cell 1; have x4 : w3.cell? ⟨w.heap.size, 2, none⟩ = some (.int .i64 V) := Y1.cell 2))
    all_goals go_wp2_with fail
    all_goals go_meet
    all_goals first
      | exact ⟨rfl, Y, Y1, Y2⟩
      | exact ⟨rfl, Y.drew, Y1.below ((Below.refl _ _).drew), Y2.below ((Below.refl _ _).drew)⟩
  case rest =>
    obtain ⟨rfl, HC3, HB13, HB23⟩ := hcut
    clear HCl HB1 HB2 x0 x1 x2 x3 x4 HTK
    by_cases hlt : lv k < t
    · have p1 : decide (d < 0) = true := by have := HEQ.out; simp; omega
      have HR : Hid (¬ Good L n) := HBAD.out hlt
      go_wp2_with fail
      go_ret
      exact ⟨false, lv, W, rfl, HC3.out, Nat.le_refl _, by rw [if_neg (by simp)]; exact HR.out⟩
    have p1 : decide (d < 0) = false := by have := HEQ.out; simp; omega
    have hq0 : 0 ≤ q ∧ q ≤ 1000 := by have := HEQ.out; have := HNUM.out; omega
    have y1 : wc.cell? ⟨w.heap.size, 1, none⟩ = some (.int .i64 U) := HB13.out.cell 1
    have v4 : wc.cell? ⟨w.heap.size + 1, 4, none⟩ = some (.int .i64 p) := HB23.out.cell 4
    have v1 : wc.cell? ⟨w.heap.size + 1, 1, none⟩ = some (.int .i64 A) := HB23.out.cell 1
    have v5 : wc.cell? ⟨w.heap.size + 1, 5, none⟩ = some (.bool E) := HB23.out.cell 5
    cases J
    · cases E
      · have HG := HST.out lv W (k + 1) q wc (by omega) hq0.1 hq0.2 (by rw [HEQ.out.2.2.2]; exact HRN.out rfl) HCL.out.1 HCL.out.2 (by omega) HC3.out
        have HG : Hid (Calls Tryd.prog 45 _ _ _) := HG
        have HSH2 : Hid (∀ lv' : Nat → Int, lv' k = lv k → k + 1 < n ∧ lv' (k + 1) = lv k - t + p → Shut L n lv' k) := fun lv' e1 e2 => HSH.out lv' (by omega) e1 (fun _ => e2) (fun h => by cases h)
        clear HST HRN HRJ hjm HSH HBAD HNUM hq0 hlt
        go_wp2_with fail
        refine HG.out.mono ?_
        rintro e w4 ⟨b, lv', W', rfl, hC', hK, hm, hl, hb⟩
        have HC4 : Hid (Clm w0 w4 B C G z0 z1 z2 z3 (some ⟨g, o', none⟩) n c lv' W') := hC'
        have HM : Hid (2 * unl lv' n + W'.length ≤ 2 * unl lv n + W.length) := hm
        cases b
        · have hb0 : ¬ Good L n := by simpa using hb
          have HR : Hid (¬ Good L n) := hb0
          clear hb hb0 hC' hK hm hl
          go_wp2_with fail
          go_ret
          exact ⟨false, lv', W', rfl, HC4.out, HM.out, by rw [if_neg (by simp)]; exact HR.out⟩
        · rw [if_pos rfl] at hb
          obtain ⟨hjn, q1, q2, q3, q4⟩ := hb
          have HR : Hid (Climb L n lv' (fun j => j ∈ W') ∧ Wts n lv' W') := ⟨q1.closed (HSH2.out lv' (q4 k h0) ⟨hjn, by rw [q3]; exact HEQ.out.2.2.2⟩) (fun j hj => hj.symm), q2⟩
          clear q1 q2 q3 q4 hC' hK hm hl
          go_wp2_with fail
          go_ret
          exact ⟨true, lv', W', rfl, HC4.out, HM.out, by rw [if_pos rfl]; exact HR.out⟩
      · have HR : Hid (Climb L n lv (fun j => j ∈ W) ∧ Wts n lv W) := ⟨HCL.out.1.closed (HSH.out lv (by omega) rfl (fun h => by cases h) (fun h => by cases h)) (fun j hj => hj.symm), HCL.out.2⟩
        clear HST HRN HRJ hjm HSH HBAD HNUM hq0 hlt
        go_wp2_with fail
        go_ret
        exact ⟨true, lv, W, rfl, HC3.out, Nat.le_refl _, by rw [if_pos rfl]; exact HR.out⟩
    · obtain ⟨hU0, hU1⟩ := hjm rfl
      obtain ⟨u, rfl⟩ : ∃ u : Nat, U = (u : Int) := ⟨U.toNat, by omega⟩
      have HG := HST.out lv W u q wc (by omega) hq0.1 hq0.2 (by rw [HEQ.out.2.2.2]; exact HRJ.out rfl) HCL.out.1 HCL.out.2 (by omega) HC3.out
      have HG : Hid (Calls Tryd.prog 45 _ _ _) := HG
      have HSH2 : Hid (∀ lv' : Nat → Int, lv' k = lv k → (E = false → k + 1 < n ∧ lv' (k + 1) = lv k - t + p) → u < n ∧ lv' u = lv k - t + p → Shut L n lv' k) := fun lv' e1 e2 e3 => HSH.out lv' (by omega) e1 e2 (fun _ => e3)
      clear HRJ hjm HSH HBAD HNUM hlt hU0 hU1
      go_wp2_with fail
      refine HG.out.mono ?_
      rintro e w4 ⟨b, lv', W', rfl, hC', hK, hm, hl, hb⟩
      have HC4 : Hid (Clm w0 w4 B C G z0 z1 z2 z3 (some ⟨g, o', none⟩) n c lv' W') := hC'
      have HM : Hid (2 * unl lv' n + W'.length ≤ 2 * unl lv n + W.length) := hm
      cases b
      · have hb0 : ¬ Good L n := by simpa using hb
        have HR : Hid (¬ Good L n) := hb0
        clear hb hb0 hC' hK hm hl
        go_wp2_with fail
        go_ret
        exact ⟨false, lv', W', rfl, HC4.out, HM.out, by rw [if_neg (by simp)]; exact HR.out⟩
      rw [if_pos rfl] at hb
      obtain ⟨hjn, q1, q2, q3, q4⟩ := hb
      have hlt2 := HLT.out
      have HB24 : Hid (Bxs w4 (w.heap.size + 1) #[.string X, .int .i64 A, .int .i64 D, .int .i64 T, .int .i64 p, .bool E] 74) := hK _ _ _ (by decide) (by omega) (by omega) HB23.out
      have HQ : Hid (Climb L n lv' (fun j => j ∈ W' ∨ j = k) ∧ Wts n lv' W' ∧ lv' u = q ∧ (∀ i, 0 ≤ lv i → lv' i = lv i)) := ⟨q1, q2, q3, q4⟩
      have v5 : w4.cell? ⟨w.heap.size + 1, 5, none⟩ = some (.bool E) := HB24.out.cell 5
      clear q1 q2 q3 q4 hC' hK hm hlt2 HG HC3 HB13 HB23 y1 v4 v1
      cases E
      · have HG := HST.out lv' W' (k + 1) q w4 (by omega) hq0.1 hq0.2 (by rw [HEQ.out.2.2.2]; exact HRN.out rfl) HQ.out.1 HQ.out.2.1 (by omega) HC4.out
        have HG : Hid (Calls Tryd.prog 45 _ _ _) := HG
        have HPT : Hid (0 ≤ lv' u ∧ 0 ≤ lv' k) := ⟨by rw [HQ.out.2.2.1]; exact hq0.1, by rw [HQ.out.2.2.2 k h0]; exact h0⟩
        clear HST HRN hq0 hl
        go_wp2_with fail
        refine HG.out.mono ?_
        rintro e w5 ⟨b, lv2, W2', rfl, hC', hK, hm, hl, hb⟩
        have HC5 : Hid (Clm w0 w5 B C G z0 z1 z2 z3 (some ⟨g, o', none⟩) n c lv2 W2') := hC'
        have HM2 : Hid (2 * unl lv2 n + W2'.length ≤ 2 * unl lv n + W.length) := Nat.le_trans hm HM.out
        cases b
        · have hb0 : ¬ Good L n := by simpa using hb
          have HR : Hid (¬ Good L n) := hb0
          clear hb hb0 hC' hK hm hl
          go_wp2_with fail
          go_ret
          exact ⟨false, lv2, W2', rfl, HC5.out, HM2.out, by rw [if_neg (by simp)]; exact HR.out⟩
        · rw [if_pos rfl] at hb
          obtain ⟨hjn2, q1, q2, q3, q4⟩ := hb
          have HR : Hid (Climb L n lv2 (fun j => j ∈ W2') ∧ Wts n lv2 W2') := ⟨q1.closed (HSH2.out lv2 ((q4 k HPT.out.2).trans (HQ.out.2.2.2 k h0)) (fun _ => ⟨hjn2, by rw [q3]; exact HEQ.out.2.2.2⟩) ⟨hjn, by rw [q4 u HPT.out.1, HQ.out.2.2.1]; exact HEQ.out.2.2.2⟩) (fun j hj => hj.symm), q2⟩
          clear q1 q2 q3 q4 hC' hK hm hl
          go_wp2_with fail
          go_ret
          exact ⟨true, lv2, W2', rfl, HC5.out, HM2.out, by rw [if_pos rfl]; exact HR.out⟩
      · have HR : Hid (Climb L n lv' (fun j => j ∈ W') ∧ Wts n lv' W') := ⟨HQ.out.1.closed (HSH2.out lv' (HQ.out.2.2.2 k h0) (fun h => by cases h) ⟨hjn, by rw [HQ.out.2.2.1]; exact HEQ.out.2.2.2⟩) (fun j hj => hj.symm), HQ.out.2.1⟩
        clear HST HRN hq0 hl
        go_wp2_with fail
        go_ret
        exact ⟨true, lv', W', rfl, HC4.out, HM.out, by rw [if_pos rfl]; exact HR.out⟩
end Go.Proofs.YtdbahildcecgbaaDoor
