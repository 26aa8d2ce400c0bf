/- Right modules: what the program's calls answer. -/
import Derived.Test.YtdbahildcecgbaaDoorClV
namespace Go.Proofs.YtdbahildcecgbaaDoor
open Go.RowKit
open Go.Proofs.YtdbahildcecgbaaDoor.Draw

def modN (z0 z1 z2 z3 : Int) : Bool := inB z0 1 3 && (inB z1 1 6 && (inB z2 z1 10 && inB z3 0 8))
def codeB (z1 z2 z3 : Int) (n : Nat) (L : Nat → In) : Bool := decide (1 ≤ n) && (decide (n ≤ 2000) && (List.range n).all fun j => insB z1 z2 z3 n (L j).o (L j).a (L j).b)
theorem codeB_of {z1 z2 z3 : Int} {n : Nat} {L : Nat → In} (h : codeB z1 z2 z3 n L = true) : 1 ≤ n ∧ n ≤ 2000 ∧ ∀ j, j < n → insB z1 z2 z3 n (L j).o (L j).a (L j).b = true := by
  unfold codeB at h
  simp only [Bool.and_eq_true, decide_eq_true_eq, List.all_eq_true, List.mem_range] at h
  exact ⟨h.1, h.2.1, h.2.2⟩
theorem codeB_yes {z1 z2 z3 : Int} {n : Nat} {L : Nat → In} (h1 : 1 ≤ n) (h2 : n ≤ 2000) (h : ∀ j, j < n → insB z1 z2 z3 n (L j).o (L j).a (L j).b = true) : codeB z1 z2 z3 n L = true := by
  unfold codeB
  simp only [Bool.and_eq_true, decide_eq_true_eq, List.all_eq_true, List.mem_range]
  exact ⟨h1, h2, h⟩
theorem codeB_no {z1 z2 z3 : Int} {n : Nat} {L : Nat → In} {k : Nat} (hk : k < n) (h : insB z1 z2 z3 n (L k).o (L k).a (L k).b = false) : codeB z1 z2 z3 n L = false := by
  rw [Bool.eq_false_iff]
  intro e
  have := (codeB_of e).2.2 k hk
  rw [h] at this
  cases this
theorem codeB_len {z1 z2 z3 : Int} {n : Nat} {L : Nat → In} (h : n < 1 ∨ 2000 < n) : codeB z1 z2 z3 n L = false := by
  rw [Bool.eq_false_iff]
  intro e
  have := codeB_of e
  omega
/-- Is a module right? -/
def ModP (z0 z1 z2 z3 : Int) (n : Nat) (L : Nat → In) : Prop := modN z0 z1 z2 z3 = true ∧ codeB z1 z2 z3 n L = true ∧ Good L n
theorem inB_yes {x l h : Int} (h1 : l ≤ x) (h2 : x ≤ h) : inB x l h = true := by unfold inB; rw [decide_eq_true h1, decide_eq_true h2]; rfl
theorem inB_no1 {x l h : Int} (h1 : ¬ l ≤ x) : inB x l h = false := by unfold inB; rw [decide_eq_false h1]; rfl
theorem inB_no2 {x l h : Int} (h1 : ¬ x ≤ h) : inB x l h = false := by unfold inB; rw [decide_eq_false h1, Bool.and_false]
/-- A block of the call's own, made first. -/
structure BxM (w W : World) (cs : Array Value) : Prop where
  cell : ∀ j, W.cell? ⟨w.heap.size, j, none⟩ = cs[j]?
  lt : w.heap.size < W.heap.size
  bel : Below w.heap.size w W
theorem BxM.new (w : World) (cs : Array Value) (t : TypeId) : BxM w (w.alloc (.cells cs t)) cs := ⟨fun j => cnew' rfl j, by simp, (Below.refl _ _).alloc (Nat.le_refl _) _⟩
theorem BxM.next {w W W' : World} {cs : Array Value} (h : BxM w W cs) (hb : Below W.heap.size W W') : BxM w W' cs :=
  ⟨fun j => (hb.cell (p := ⟨w.heap.size, j, none⟩) h.lt).trans (h.cell j), Nat.lt_of_lt_of_le h.lt hb.size, h.bel.trans (hb.mono h.bel.size)⟩
set_option maxRecDepth 100000 in
set_option maxHeartbeats 16000000 in
theorem impl_basis10 (z : Int) (w : World) :
    Calls Tryd.prog 37 #[.int .i64 z] w fun e w' => e = .returned (.bool (inB z 1 3)) ∧ w' = w := by
  have HE : Hid (inB z 1 3 = (decide (1 ≤ z) && decide (z ≤ 3))) := rfl
  cases p : decide (1 ≤ z)
  · go_enter Tryd.func37, Tryd.ntmps37
    go_wp2_with fail
    go_ret
    exact ⟨ret_bool (by rw [HE.out, p]; rfl), rfl⟩
  · go_enter Tryd.func37, Tryd.ntmps37
    go_wp2_with fail
    go_ret
    exact ⟨ret_bool (by rw [HE.out, p]; simp), rfl⟩
set_option maxRecDepth 100000 in
set_option maxHeartbeats 16000000 in
theorem impl_modNums (z0 z1 z2 z3 : Int) (a : Option Addr) (n c : Nat) (w : World) :
    Calls Tryd.prog 27 #[.agg #[.int .i64 z0, .int .i64 z1, .int .i64 z2, .int .i64 z3, .slice a n c]] w fun e w' => e = .returned (.bool (modN z0 z1 z2 z3)) ∧ Below w.heap.size w w' := by
  have HB : Hid (Below w.heap.size w (w.alloc (.cells #[.int .i64 z0, .int .i64 z1, .int .i64 z2, .int .i64 z3, .slice a n c] 24))) := (Below.refl _ _).alloc (Nat.le_refl _) _
  have HA := impl_basis10 z0 (w.alloc (.cells #[.int .i64 z0, .int .i64 z1, .int .i64 z2, .int .i64 z3, .slice a n c] 24))
  have HE : Hid (modN z0 z1 z2 z3 = (inB z0 1 3 && (inB z1 1 6 && (inB z2 z1 10 && inB z3 0 8)))) := rfl
  have HA : Hid (Calls Tryd.prog 37 _ _ _) := HA
  generalize inB z0 1 3 = b0 at *
  cases b0
  · go_enter Tryd.func27, Tryd.ntmps27
    go_wp2_with fail
    refine HA.out.mono ?_
    rintro e w1 ⟨rfl, rfl⟩
    go_wp2_with fail
    go_ret
    exact ⟨ret_bool (by rw [HE.out]; rfl), HB.out⟩
  by_cases h1 : 1 ≤ z1
  rotate_left
  · have p1 : decide (z1 < 1) = true := by simp; omega
    have q1 := inB_no1 (h := 6) h1
    go_enter Tryd.func27, Tryd.ntmps27
    go_wp2_with fail
    refine HA.out.mono ?_
    rintro e w1 ⟨rfl, rfl⟩
    go_wp2_with fail
    go_ret
    exact ⟨ret_bool (by rw [HE.out, q1]; rfl), HB.out⟩
  have p1 : decide (z1 < 1) = false := by simp; omega
  by_cases h2 : z1 ≤ 6
  rotate_left
  · have p2 : decide (6 < z1) = true := by simp; omega
    have q1 := inB_no2 (l := 1) h2
    go_enter Tryd.func27, Tryd.ntmps27
    go_wp2_with fail
    refine HA.out.mono ?_
    rintro e w1 ⟨rfl, rfl⟩
    go_wp2_with fail
    go_ret
    exact ⟨ret_bool (by rw [HE.out, q1]; rfl), HB.out⟩
  have p2 : decide (6 < z1) = false := by simp; omega
  have q1 := inB_yes h1 h2
  by_cases h3 : z1 ≤ z2
  rotate_left
  · have p3 : decide (z1 ≤ z2) = false := decide_eq_false h3
    have q2 := inB_no1 (h := 10) h3
    go_enter Tryd.func27, Tryd.ntmps27
    go_wp2_with fail
    refine HA.out.mono ?_
    rintro e w1 ⟨rfl, rfl⟩
    go_wp2_with fail
    go_ret
    exact ⟨ret_bool (by rw [HE.out, q1, q2]; rfl), HB.out⟩
  have p3 : decide (z1 ≤ z2) = true := decide_eq_true h3
  by_cases h4 : z2 ≤ 10
  rotate_left
  · have p4 : decide (z2 ≤ 10) = false := decide_eq_false h4
    have q2 := inB_no2 (l := z1) h4
    go_enter Tryd.func27, Tryd.ntmps27
    go_wp2_with fail
    refine HA.out.mono ?_
    rintro e w1 ⟨rfl, rfl⟩
    go_wp2_with fail
    go_ret
    exact ⟨ret_bool (by rw [HE.out, q1, q2]; rfl), HB.out⟩
  have p4 : decide (z2 ≤ 10) = true := decide_eq_true h4
  have q2 := inB_yes h3 h4
  by_cases h5 : 0 ≤ z3
  rotate_left
  · have p5 : decide (0 ≤ z3) = false := decide_eq_false h5
    have q3 := inB_no1 (h := 8) h5
    go_enter Tryd.func27, Tryd.ntmps27
    go_wp2_with fail
    refine HA.out.mono ?_
    rintro e w1 ⟨rfl, rfl⟩
    go_wp2_with fail
    go_ret
    exact ⟨ret_bool (by rw [HE.out, q1, q2, q3]; rfl), HB.out⟩
  have p5 : decide (0 ≤ z3) = true := decide_eq_true h5
  by_cases h6 : z3 ≤ 8
  rotate_left
  · have p6 : decide (z3 ≤ 8) = false := decide_eq_false h6
    have q3 := inB_no2 (l := 0) h6
    go_enter Tryd.func27, Tryd.ntmps27
    go_wp2_with fail
    refine HA.out.mono ?_
    rintro e w1 ⟨rfl, rfl⟩
    go_wp2_with fail
    go_ret
    exact ⟨ret_bool (by rw [HE.out, q1, q2, q3]; rfl), HB.out⟩
  have p6 : decide (z3 ≤ 8) = true := decide_eq_true h6
  have q3 := inB_yes h5 h6
  go_enter Tryd.func27, Tryd.ntmps27
  go_wp2_with fail
  refine HA.out.mono ?_
  rintro e w1 ⟨rfl, rfl⟩
  go_wp2_with fail
  go_ret
  exact ⟨ret_bool (by rw [HE.out, q1, q2, q3]; rfl), HB.out⟩
set_option maxRecDepth 100000 in
set_option maxHeartbeats 16000000 in
theorem impl_codeRight (z0 z1 z2 z3 : Int) (a : Option Addr) (n c : Nat) (hn : n ≤ 9223372036854775807) (L : Nat → In) (w : World) (hS : ShaW w) (hA : InsAt w a n L) :
    Calls Tryd.prog 28 #[.agg #[.int .i64 z0, .int .i64 z1, .int .i64 z2, .int .i64 z3, .slice a n c]] w fun e w' => e = .returned (.bool (codeB z1 z2 z3 n L)) ∧ Below w.heap.size w w' := by
  have HX : Hid (BxM w (w.alloc (.cells #[.int .i64 z0, .int .i64 z1, .int .i64 z2, .int .i64 z3, .slice a n c] 24)) #[.int .i64 z0, .int .i64 z1, .int .i64 z2, .int .i64 z3, .slice a n c]) := BxM.new _ _ _
  have HA : Hid (InsAt w a n L) := hA
  have HI : Hid (∀ (o u v : Int) (W : World), Below w.heap.size w W → Calls Tryd.prog 38 #[.agg #[.int .i64 z0, .int .i64 z1, .int .i64 z2, .int .i64 z3, .slice a n c], .agg #[.int .i64 o, .int .i64 u, .int .i64 v]] W fun e w' => e = .returned (.bool (insB z1 z2 z3 n o u v)) ∧ Below W.heap.size W w') := fun o u v W hb => impl_insRight z0 z1 z2 z3 a n c hn o u v W (hS.below hb)
  clear hS hA
  by_cases h1 : n < 1
  · have p1 : decide (n < 1) = true := by simpa using h1
    have p1' : decide ((n : Int) < 1) = true := by simp; omega
    have HE : Hid (codeB z1 z2 z3 n L = false) := codeB_len (Or.inl h1)
    go_enter Tryd.func28, Tryd.ntmps28
    go_wp2_with fail
    go_ret
    exact ⟨ret_bool HE.out.symm, HX.out.bel⟩
  have p1 : decide (n < 1) = false := by simpa using h1
  have p1' : decide ((n : Int) < 1) = false := by simp; omega
  by_cases h2 : 2000 < n
  · have p2 : decide (2000 < n) = true := by simpa using h2
    have p2' : decide ((2000 : Int) < (n : Int)) = true := by simp; omega
    have HE : Hid (codeB z1 z2 z3 n L = false) := codeB_len (Or.inr h2)
    go_enter Tryd.func28, Tryd.ntmps28
    go_wp2_with fail
    go_ret
    exact ⟨ret_bool HE.out.symm, HX.out.bel⟩
  have p2 : decide (2000 < n) = false := by simpa using h2
  have p2' : decide ((2000 : Int) < (n : Int)) = false := by simp; omega
  go_enter Tryd.func28, Tryd.ntmps28
  go_wp2_with fail
  go_loopw [18] (fun i wr => ∃ k : Nat, i = .int .i64 (k : Int) ∧ k ≤ n ∧ Hid (∀ j, j < k → insB z1 z2 z3 n (L j).o (L j).a (L j).b = true) ∧ Hid (BxM w wr #[.int .i64 z0, .int .i64 z1, .int .i64 z2, .int .i64 z3, .slice a n c])) (fun i _ => n - (intOf i).toNat)
  case atStart => exact ⟨0, rfl, by omega, fun j hj => by omega, HX⟩
  case round =>
    obtain ⟨k, rfl, hk, HR, HB⟩ := hrel
    by_cases hkn : k < n
    · have q0 : decide (k < n) = true := by simpa using hkn
      have q1 : decide ((k : Int) < (n : Int)) = true := by simpa using hkn
      rcases HA.out.below HB.out.bel with h0 | ⟨g, o', rfl, hg, hcs⟩
      · omega
      obtain ⟨c0, c1, c2⟩ := hcs k hkn
      have HR2 : Hid (insB z1 z2 z3 n (L k).o (L k).a (L k).b = true → ∀ j, j < k + 1 → insB z1 z2 z3 n (L j).o (L j).a (L j).b = true) := fun e j hj => by
        by_cases e' : j = k
        · rw [e']; exact e
        · exact HR.out j (by omega)
      have HN : Hid (insB z1 z2 z3 n (L k).o (L k).a (L k).b = false → codeB z1 z2 z3 n L = false) := fun e => codeB_no hkn e
      generalize (L k).o = u0 at *
      generalize (L k).a = u1 at *
      generalize (L k).b = u2 at *
      have H2 : Hid (BxM w (wr.alloc (.cells #[.int .i64 u0, .int .i64 u1, .int .i64 u2] 38)) #[.int .i64 z0, .int .i64 z1, .int .i64 z2, .int .i64 z3, .slice (some ⟨g, o', none⟩) n c]) := HB.out.next ((Below.refl _ _).alloc (Nat.le_refl _) _)
      have y0 := HB.out.cell 0
      have y1 := HB.out.cell 1
      have y2 := HB.out.cell 2
      have y3 := HB.out.cell 3
      have y4 := HB.out.cell 4
      have ybl := HB.out.lt
      have yne : wr.heap.size ≠ w.heap.size := by omega
      simp at y0 y1 y2 y3 y4
      have HI2 := HI.out u0 u1 u2 _ H2.out.bel
      have HI2 : Hid (Calls Tryd.prog 38 _ _ _) := HI2
      clear hcs HR
      go_wp2_with fail
      refine HI2.out.mono ?_
      rintro e w2 ⟨rfl, hb⟩
      have H3 : Hid (BxM w w2 #[.int .i64 z0, .int .i64 z1, .int .i64 z2, .int .i64 z3, .slice (some ⟨g, o', none⟩) n c]) := H2.out.next hb
      clear hb HI2 c0 c1 c2 y0 y1 y2 y3 y4 ybl yne
      cases hi : insB z1 z2 z3 n u0 u1 u2
      · have HE : Hid (codeB z1 z2 z3 n L = false) := HN.out hi
        go_wp2_with fail
        go_ret
        exact ⟨ret_bool HE.out.symm, H3.out.bel⟩
      · have HR3 : Hid (∀ j, j < k + 1 → insB z1 z2 z3 n (L j).o (L j).a (L j).b = true) := HR2.out hi
        go_wp2_with fail
        go_roundw
        case rel => exact ⟨k + 1, by go_num, by omega, HR3, H3⟩
        case measure => simp [intOf]; omega
    · have q0 : decide (k < n) = false := by simpa using hkn
      have q1 : decide ((k : Int) < (n : Int)) = false := by simpa using hkn
      obtain rfl : k = n := by omega
      have HE : Hid (codeB z1 z2 z3 k L = true) := codeB_yes (by omega) (by omega) HR.out
      go_wp2_with fail
      go_ret
      exact ⟨ret_bool HE.out.symm, HB.out.bel⟩
def ModOut (z0 z1 z2 z3 : Int) (n : Nat) (L : Nat → In) (w : World) (e : Ending) (w' : World) : Prop := ∃ b, e = .returned (.bool b) ∧ (b = true ↔ ModP z0 z1 z2 z3 n L) ∧ Below w.heap.size w w'
set_option maxRecDepth 100000 in
set_option maxHeartbeats 16000000 in
theorem impl_modRight (z0 z1 z2 z3 : Int) (a : Option Addr) (n c : Nat) (hn : n ≤ 9223372036854775807) (L : Nat → In) (w : World) (hF : FunW w) (hS : ShaW w) (hA : InsAt w a n L) :
    Calls Tryd.prog 15 #[.agg #[.int .i64 z0, .int .i64 z1, .int .i64 z2, .int .i64 z3, .slice a n c]] w (ModOut z0 z1 z2 z3 n L w) := by
  have HX : Hid (BxM w (w.alloc (.cells #[.int .i64 z0, .int .i64 z1, .int .i64 z2, .int .i64 z3, .slice a n c] 24)) #[.int .i64 z0, .int .i64 z1, .int .i64 z2, .int .i64 z3, .slice a n c]) := BxM.new _ _ _
  have HN := impl_modNums z0 z1 z2 z3 a n c (w.alloc (.cells #[.int .i64 z0, .int .i64 z1, .int .i64 z2, .int .i64 z3, .slice a n c] 24))
  have HN : Hid (Calls Tryd.prog 27 _ _ _) := HN
  have HC : Hid (∀ W, Below w.heap.size w W → Calls Tryd.prog 28 #[.agg #[.int .i64 z0, .int .i64 z1, .int .i64 z2, .int .i64 z3, .slice a n c]] W fun e w' => e = .returned (.bool (codeB z1 z2 z3 n L)) ∧ Below W.heap.size W w') := fun W hb => impl_codeRight z0 z1 z2 z3 a n c hn L W (hS.below hb) (hA.below hb)
  have HL : Hid (codeB z1 z2 z3 n L = true → ∀ W, Below w.heap.size w W → Calls Tryd.prog 29 #[.agg #[.int .i64 z0, .int .i64 z1, .int .i64 z2, .int .i64 z3, .slice a n c]] W (LvsOut L n W)) := fun h W hb => impl_levels z0 z1 z2 z3 a n c (codeB_of h).2.1 (codeB_of h).1 L W (hA.below hb) (hF.below hb) (hS.below hb) (codeB_of h).2.2
  have HP : Hid (ModP z0 z1 z2 z3 n L ↔ modN z0 z1 z2 z3 = true ∧ codeB z1 z2 z3 n L = true ∧ Good L n) := Iff.rfl
  have HC1 : Hid (codeB z1 z2 z3 n L = true → 1 ≤ n) := fun h => (codeB_of h).1
  clear hF hS hA
  generalize modN z0 z1 z2 z3 = b0 at *
  generalize codeB z1 z2 z3 n L = b1 at *
  go_enter Tryd.func15, Tryd.ntmps15
  go_wp2_with fail
  refine HN.out.mono ?_
  rintro e w1 ⟨rfl, hb⟩
  have HX1 : Hid (BxM w w1 #[.int .i64 z0, .int .i64 z1, .int .i64 z2, .int .i64 z3, .slice a n c]) := HX.out.next hb
  clear hb HN HX
  have y0 := HX1.out.cell 0
  have y1 := HX1.out.cell 1
  have y2 := HX1.out.cell 2
  have y3 := HX1.out.cell 3
  have y4 := HX1.out.cell 4
  simp at y0 y1 y2 y3 y4
  cases b0
  · have HR : Hid ((false = true) ↔ ModP z0 z1 z2 z3 n L) := by unfold Hid; rw [HP.out]; simp
    clear HP HL HC HC1
    go_wp2_with fail
    go_ret
    exact ⟨false, rfl, HR.out, HX1.out.bel⟩
  have H1 := HC.out w1 HX1.out.bel
  have H1 : Hid (Calls Tryd.prog 28 _ _ _) := H1
  go_wp2_with fail
  refine H1.out.mono ?_
  rintro e w2 ⟨rfl, hb⟩
  have HX2 : Hid (BxM w w2 #[.int .i64 z0, .int .i64 z1, .int .i64 z2, .int .i64 z3, .slice a n c]) := HX1.out.next hb
  clear hb HX1 H1 HC y0 y1 y2 y3 y4
  have y0 := HX2.out.cell 0
  have y1 := HX2.out.cell 1
  have y2 := HX2.out.cell 2
  have y3 := HX2.out.cell 3
  have y4 := HX2.out.cell 4
  simp at y0 y1 y2 y3 y4
  cases b1
  · have HR : Hid ((false = true) ↔ ModP z0 z1 z2 z3 n L) := by unfold Hid; rw [HP.out]; simp
    clear HP HL HC1
    go_wp2_with fail
    go_ret
    exact ⟨false, rfl, HR.out, HX2.out.bel⟩
  have H1 := HL.out rfl w2 HX2.out.bel
  have H1 : Hid (Calls Tryd.prog 29 _ _ _) := H1
  have hn1 := HC1.out rfl
  go_wp2_with fail
  refine H1.out.mono ?_
  rintro e w3 ⟨g, lv, rfl, _, hO, hb, hg⟩
  have HB3 : Hid (Below w.heap.size w w3) := HX2.out.bel.trans (hb.mono HX2.out.bel.size)
  have c0 : w3.cell? ⟨g, 0, none⟩ = some (.int .i64 (lv 0 + 1)) := hO.2.1 0 (by omega)
  have hn0 : 0 < n := by omega
  have hn0' : decide (n = 0) = false := by simp; omega
  rcases hg with hg | ⟨hg, hz⟩
  · have e0 : lv 0 = 0 := hg.zero.2
    rw [e0] at c0
    have HR : Hid (ModP z0 z1 z2 z3 n L) := by unfold Hid; rw [HP.out]; simp; exact hg.good
    clear HP HL HC1 hO hb H1 hg
    go_wp2_with fail
    go_ret
    exact ⟨true, rfl, ⟨fun _ => HR.out, fun _ => rfl⟩, HB3.out⟩
  · have e0 : lv 0 = -1 := hz 0 (by omega)
    rw [e0] at c0
    have HR : Hid ((false = true) ↔ ModP z0 z1 z2 z3 n L) := by unfold Hid; rw [HP.out]; simp; exact hg
    clear HP HL HC1 hO hb H1 hg hz
    go_wp2_with fail
    go_ret
    exact ⟨false, rfl, HR.out, HB3.out⟩
end Go.Proofs.YtdbahildcecgbaaDoor
