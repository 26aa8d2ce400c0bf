/- What makes a node right: the table of shapes, and the program's calls that look at one node. -/
import Derived.Test.YtnefcldjigndgaaDoorLex
import Derived.Test.YtnefcldjigndgaaDoorNodes
import Derived.Test.YtnefcldjigndgaaDoorFn
namespace Go.Proofs.YtnefcldjigndgaaDoor
open Go.RowKit Go.Maps
open Go.Proofs.YtnefcldjigndgaaDoor.Draw

/-- What a right node of one kind has. -/
structure Sh where
  p : Int
  t : Int
  m : Int
  lo : Int
  hi : Int
  few : Int
  most : Int
  f : Int
  o : Int
def shp (k : Int) : Sh := if k = 1 then ⟨1, 0, 0, (-1000000000000), 1000000000000, 0, 0, 0, 0⟩ else if k = 2 then ⟨1, 0, 0, (-1000000000000), 1000000000000, 0, 0, 0, 0⟩ else if k = 3 then ⟨1, 0, 0, 0, 1000000, 0, 0, 0, 0⟩ else if k = 4 then ⟨1, 0, 0, 0, 36524, 0, 0, 0, 0⟩ else if k = 5 then ⟨1, 0, 0, 0, 1, 0, 0, 0, 0⟩ else if k = 6 then ⟨1, 1, 0, 0, 0, 0, 0, 0, 0⟩ else if k = 7 then ⟨1, 1, 0, 0, 0, 0, 0, 0, 0⟩ else if k = 8 then ⟨1, 0, 0, 0, 0, 0, 0, 0, 0⟩ else if k = 9 then ⟨1, 0, 0, 0, 0, 0, 0, 0, 0⟩ else if k = 10 then ⟨1, 0, 0, 0, 0, 0, 0, 0, 0⟩ else if k = 11 then ⟨1, 0, 0, 0, 0, 0, 0, 0, 0⟩ else if k = 12 then ⟨1, 2, 0, 0, 0, 2, 2, 1, 1⟩ else if k = 13 then ⟨1, 0, 0, 0, 0, 1, 1, 1, 0⟩ else if k = 14 then ⟨1, 3, 0, 0, 0, 1, 4, 1, 1⟩ else if k = 20 then ⟨2, 1, 0, 0, 0, 1, 1, 1, 0⟩ else if k = 21 then ⟨2, 1, 0, 0, 0, 1, 1, 1, 0⟩ else if k = 22 then ⟨2, 0, 0, 0, 0, 3, 3, 1, 3⟩ else if k = 23 then ⟨2, 1, 1, 0, 0, 1, 1, 1, 0⟩ else if k = 24 then ⟨2, 0, 0, 1, 99, 0, 0, 0, 0⟩ else if k = 25 then ⟨2, 0, 0, 0, 0, 1, 1, 1, 0⟩ else if k = 26 then ⟨2, 0, 0, 0, 0, 2, 2, 1, 3⟩ else if k = 27 then ⟨3, 0, 0, 0, 0, 0, 40, 2, 2⟩ else ⟨0, 0, 0, 0, 0, 0, 0, 0, 0⟩
def shA (s : Sh) : Array Value := #[.int .i64 s.p, .int .i64 s.t, .int .i64 s.m, .int .i64 s.lo, .int .i64 s.hi, .int .i64 s.few, .int .i64 s.most, .int .i64 s.f, .int .i64 s.o]
def namR (s : ByteArray) : Bool := nameB s && !resB s
def emp (s : ByteArray) : Bool := s.toList.isEmpty
def opB (s : ByteArray) : Bool := (s.toList == [43]) || ((s.toList == [45]) || ((s.toList == [42]) || ((s.toList == [60]) || ((s.toList == [60, 61]) || ((s.toList == [61]) || ((s.toList == [97, 110, 100]) || ((s.toList == [111, 114]))))))))
def useB (u : Int) (s : ByteArray) : Bool := if u = 1 then namR s else if u = 2 then opB s else if u = 3 then callB s else emp s
def bodyB (s : Sh) (x : Nd) : Bool := decide (s.lo ≤ x.n) && (decide (x.n ≤ s.hi) && (decide (s.few ≤ x.y) && (decide (x.y ≤ s.most) && (useB s.t x.t && useB s.m x.m))))
def nodeB (x : Nd) : Bool := bodyB (shp x.k) x
def standB (p q : Int) : Bool := (p == q) || ((p == 3) && (q == 2))
def loB (k : Int) : Int := if k = 1 then -1000000000000 else if k = 2 then -1000000000000 else if k = 3 then 0 else if k = 4 then 0 else if k = 5 then 0 else 1
def hiB (k : Int) : Int := if k = 1 then 1000000000000 else if k = 2 then 1000000000000 else if k = 3 then 1000000 else if k = 4 then 36524 else if k = 5 then 1 else 0
theorem shp_none {k : Int} (h1 : ¬ k = 1) (h2 : ¬ k = 2) (h3 : ¬ k = 3) (h4 : ¬ k = 4) (h5 : ¬ k = 5) (h6 : ¬ k = 6) (h7 : ¬ k = 7) (h8 : ¬ k = 8) (h9 : ¬ k = 9) (h10 : ¬ k = 10) (h11 : ¬ k = 11) (h12 : ¬ k = 12) (h13 : ¬ k = 13) (h14 : ¬ k = 14) (h20 : ¬ k = 20) (h21 : ¬ k = 21) (h22 : ¬ k = 22) (h23 : ¬ k = 23) (h24 : ¬ k = 24) (h25 : ¬ k = 25) (h26 : ¬ k = 26) (h27 : ¬ k = 27) : shp k = ⟨0, 0, 0, 0, 0, 0, 0, 0, 0⟩ := by
  unfold shp
  rw [if_neg h1, if_neg h2, if_neg h3, if_neg h4, if_neg h5, if_neg h6, if_neg h7, if_neg h8, if_neg h9, if_neg h10, if_neg h11, if_neg h12, if_neg h13, if_neg h14, if_neg h20, if_neg h21, if_neg h22, if_neg h23, if_neg h24, if_neg h25, if_neg h26, if_neg h27]
set_option maxRecDepth 100000 in
set_option maxHeartbeats 8000000 in
theorem impl_namR (s : ByteArray) (hs : s.size ≤ maxLen) (b : Nat) (w : World) (hx : Lex w b) :
    Calls Tryd.prog 56 #[.map (some b), .string s] w fun e w' => e = .returned (.bool (namR s)) ∧ Below w.heap.size w w' := by
  have HX : Hid (Lex w b) := hx
  have HN : Hid (∀ W, Calls Tryd.prog 74 #[.string s] W fun e w' => e = .returned (.bool (nameB s)) ∧ Below W.heap.size W w') := fun W => impl_name s W hs
  have HH : Hid (∀ W, Lex W b → Calls Tryd.prog 27 #[.map (some b), .string s] W fun e w' => e = .returned (.bool (resB s)) ∧ Below W.heap.size W w') := fun W h => impl_has s hs b W h
  have HE : Hid (namR s = (nameB s && !resB s)) := rfl
  clear hx
  generalize nameB s = N at *
  generalize resB s = R at *
  go_enter Tryd.func56, Tryd.ntmps56
  go_wp2_with fail
  refine (HN.out _).mono ?_
  rintro e w1 ⟨rfl, hb⟩
  have HB1 : Hid (Below w.heap.size w w1) := hb
  have HX1 : Hid (Lex w1 b) := HX.out.below hb
  clear hb
  cases N
  · go_wp2_with fail
    go_ret
    exact ⟨by rw [HE.out]; rfl, HB1.out⟩
  · go_wp2_with fail
    refine (HH.out _ HX1.out).mono ?_
    rintro e w2 ⟨rfl, hb⟩
    have HB2 : Hid (Below w.heap.size w w2) := HB1.out.trans (hb.mono HB1.out.size)
    clear hb
    go_wp2_with fail
    go_ret
    exact ⟨by rw [HE.out]; cases R <;> rfl, HB2.out⟩
set_option maxRecDepth 100000 in
set_option maxHeartbeats 8000000 in
theorem impl_op (s : ByteArray) (w : World) :
    Calls Tryd.prog 87 #[.string s] w fun e w' => e = .returned (.bool (opB s)) ∧ w' = w := by
  have HE : Hid (opB s = ((s.toList == [43]) || ((s.toList == [45]) || ((s.toList == [42]) || ((s.toList == [60]) || ((s.toList == [60, 61]) || ((s.toList == [61]) || ((s.toList == [97, 110, 100]) || ((s.toList == [111, 114])))))))))) := rfl
  cases h0 : (s.toList == [43])
  rotate_left
  · have hF : opB s = true := by rw [HE.out]; simp [h0]
    have HF : Hid (opB s = true) := hF
    clear HE hF
    go_enter Tryd.func87, Tryd.ntmps87
    go_wp2_with fail
    go_ret
    exact ⟨ret_bool HF.out.symm, rfl⟩
  cases h1 : (s.toList == [45])
  rotate_left
  · have hF : opB s = true := by rw [HE.out]; simp [h0, h1]
    have HF : Hid (opB s = true) := hF
    clear HE hF
    go_enter Tryd.func87, Tryd.ntmps87
    go_wp2_with fail
    go_ret
    exact ⟨ret_bool HF.out.symm, rfl⟩
  cases h2 : (s.toList == [42])
  rotate_left
  · have hF : opB s = true := by rw [HE.out]; simp [h0, h1, h2]
    have HF : Hid (opB s = true) := hF
    clear HE hF
    go_enter Tryd.func87, Tryd.ntmps87
    go_wp2_with fail
    go_ret
    exact ⟨ret_bool HF.out.symm, rfl⟩
  cases h3 : (s.toList == [60])
  rotate_left
  · have hF : opB s = true := by rw [HE.out]; simp [h0, h1, h2, h3]
    have HF : Hid (opB s = true) := hF
    clear HE hF
    go_enter Tryd.func87, Tryd.ntmps87
    go_wp2_with fail
    go_ret
    exact ⟨ret_bool HF.out.symm, rfl⟩
  cases h4 : (s.toList == [60, 61])
  rotate_left
  · have hF : opB s = true := by rw [HE.out]; simp [h0, h1, h2, h3, h4]
    have HF : Hid (opB s = true) := hF
    clear HE hF
    go_enter Tryd.func87, Tryd.ntmps87
    go_wp2_with fail
    go_ret
    exact ⟨ret_bool HF.out.symm, rfl⟩
  cases h5 : (s.toList == [61])
  rotate_left
  · have hF : opB s = true := by rw [HE.out]; simp [h0, h1, h2, h3, h4, h5]
    have HF : Hid (opB s = true) := hF
    clear HE hF
    go_enter Tryd.func87, Tryd.ntmps87
    go_wp2_with fail
    go_ret
    exact ⟨ret_bool HF.out.symm, rfl⟩
  cases h6 : (s.toList == [97, 110, 100])
  rotate_left
  · have hF : opB s = true := by rw [HE.out]; simp [h0, h1, h2, h3, h4, h5, h6]
    have HF : Hid (opB s = true) := hF
    clear HE hF
    go_enter Tryd.func87, Tryd.ntmps87
    go_wp2_with fail
    go_ret
    exact ⟨ret_bool HF.out.symm, rfl⟩
  cases h7 : (s.toList == [111, 114])
  rotate_left
  · have hF : opB s = true := by rw [HE.out]; simp [h0, h1, h2, h3, h4, h5, h6, h7]
    have HF : Hid (opB s = true) := hF
    clear HE hF
    go_enter Tryd.func87, Tryd.ntmps87
    go_wp2_with fail
    go_ret
    exact ⟨ret_bool HF.out.symm, rfl⟩
  have hF : opB s = false := by rw [HE.out]; simp [h0, h1, h2, h3, h4, h5, h6, h7]
  have HF : Hid (opB s = false) := hF
  clear HE hF
  go_enter Tryd.func87, Tryd.ntmps87
  go_wp2_with fail
  go_ret
  exact ⟨ret_bool HF.out.symm, rfl⟩
set_option maxRecDepth 100000 in
set_option maxHeartbeats 8000000 in
theorem impl_use (u : Int) (s : ByteArray) (hs : s.size ≤ maxLen) (b : Nat) (w : World) (hx : Lex w b) :
    Calls Tryd.prog 81 #[.map (some b), .string s, .int .i64 u] w fun e w' => e = .returned (.bool (useB u s)) ∧ Below w.heap.size w w' := by
  have HU : Hid (useB u s = if u = 1 then namR s else if u = 2 then opB s else if u = 3 then callB s else emp s) := rfl
  have HN : Hid (Calls Tryd.prog 56 #[.map (some b), .string s] w fun e w' => e = .returned (.bool (namR s)) ∧ Below w.heap.size w w') := impl_namR s hs b w hx
  have HO : Hid (Calls Tryd.prog 87 #[.string s] w fun e w' => e = .returned (.bool (opB s)) ∧ w' = w) := impl_op s w
  have HC : Hid (Calls Tryd.prog 88 #[.string s] w fun e w' => e = .returned (.bool (callB s)) ∧ w' = w) := impl_call s w hx.funs
  have HM : Hid (emp s = s.toList.isEmpty) := rfl
  clear hx
  by_cases h1 : u = 1
  · subst h1
    have HF : Hid (useB 1 s = namR s) := HU.out
    go_enter Tryd.func81, Tryd.ntmps81
    go_wp2_with fail
    refine HN.out.mono ?_
    rintro e w1 ⟨rfl, hb⟩
    have HB1 : Hid (Below w.heap.size w w1) := hb
    clear hb
    go_wp2_with fail
    go_ret
    exact ⟨ret_bool HF.out.symm, HB1.out⟩
  have t1 : (u == 1) = false := beq_eq_false_iff_ne.2 h1
  by_cases h2 : u = 2
  · subst h2
    have HF : Hid (useB 2 s = opB s) := HU.out
    go_enter Tryd.func81, Tryd.ntmps81
    go_wp2_with fail
    refine HO.out.mono ?_
    rintro e w1 ⟨rfl, rfl⟩
    go_wp2_with fail
    go_ret
    exact ⟨ret_bool HF.out.symm, Below.refl _ _⟩
  have t2 : (u == 2) = false := beq_eq_false_iff_ne.2 h2
  by_cases h3 : u = 3
  · subst h3
    have HF : Hid (useB 3 s = callB s) := HU.out
    go_enter Tryd.func81, Tryd.ntmps81
    go_wp2_with fail
    refine HC.out.mono ?_
    rintro e w1 ⟨rfl, rfl⟩
    go_wp2_with fail
    go_ret
    exact ⟨ret_bool HF.out.symm, Below.refl _ _⟩
  have t3 : (u == 3) = false := beq_eq_false_iff_ne.2 h3
  have HF : Hid (useB u s = s.toList.isEmpty) := by rw [HU.out, if_neg h1, if_neg h2, if_neg h3]; exact HM.out
  clear HU h1 h2 h3
  go_enter Tryd.func81, Tryd.ntmps81
  go_wp2_with fail
  go_ret
  exact ⟨ret_bool HF.out.symm, Below.refl _ _⟩
set_option maxRecDepth 100000 in
set_option maxHeartbeats 8000000 in
theorem impl_node (s : Sh) (x : Nd) (hf : x.fits) (b : Nat) (w : World) (hx : Lex w b) :
    Calls Tryd.prog 72 #[.map (some b), .agg #[.int .i64 x.k, .string x.t, .string x.m, .int .i64 x.n, .int .i64 x.y], .agg (shA s)] w fun e w' => e = .returned (.bool (bodyB s x)) ∧ Below w.heap.size w w' := by
  obtain ⟨sp, st, sm, lo, hi, few, most, sf, so⟩ := s
  obtain ⟨k, t, m, n, y⟩ := x
  obtain ⟨f1, f2⟩ := hf
  have HE : Hid (bodyB ⟨sp, st, sm, lo, hi, few, most, sf, so⟩ ⟨k, t, m, n, y⟩ = (decide (lo ≤ n) && (decide (n ≤ hi) && (decide (few ≤ y) && (decide (y ≤ most) && (useB st t && useB sm m)))))) := rfl
  have s0 : w.heap.size ≤ (w.alloc (.cells #[.int .i64 k, .string t, .string m, .int .i64 n, .int .i64 y] 60)).heap.size := by simp
  have HB0 : Hid (Below w.heap.size w ((w.alloc (.cells #[.int .i64 k, .string t, .string m, .int .i64 n, .int .i64 y] 60)).alloc (.cells #[.int .i64 sp, .int .i64 st, .int .i64 sm, .int .i64 lo, .int .i64 hi, .int .i64 few, .int .i64 most, .int .i64 sf, .int .i64 so] 98))) := ((Below.refl _ _).alloc (Nat.le_refl _) _).alloc s0 _
  have HX0 : Hid (Both w ((w.alloc (.cells #[.int .i64 k, .string t, .string m, .int .i64 n, .int .i64 y] 60)).alloc (.cells #[.int .i64 sp, .int .i64 st, .int .i64 sm, .int .i64 lo, .int .i64 hi, .int .i64 few, .int .i64 most, .int .i64 sf, .int .i64 so] 98)) #[.int .i64 k, .string t, .string m, .int .i64 n, .int .i64 y] #[.int .i64 sp, .int .i64 st, .int .i64 sm, .int .i64 lo, .int .i64 hi, .int .i64 few, .int .i64 most, .int .i64 sf, .int .i64 so]) := two_now w _ _ _ _
  have HL0 : Hid (Lex ((w.alloc (.cells #[.int .i64 k, .string t, .string m, .int .i64 n, .int .i64 y] 60)).alloc (.cells #[.int .i64 sp, .int .i64 st, .int .i64 sm, .int .i64 lo, .int .i64 hi, .int .i64 few, .int .i64 most, .int .i64 sf, .int .i64 so] 98)) b) := hx.below HB0.out
  have HT : Hid (∀ W, Lex W b → Calls Tryd.prog 81 #[.map (some b), .string t, .int .i64 st] W fun e w' => e = .returned (.bool (useB st t)) ∧ Below W.heap.size W w') := fun W h => impl_use st t f1 b W h
  have HM : Hid (∀ W, Lex W b → Calls Tryd.prog 81 #[.map (some b), .string m, .int .i64 sm] W fun e w' => e = .returned (.bool (useB sm m)) ∧ Below W.heap.size W w') := fun W h => impl_use sm m f2 b W h
  clear hx f1 f2 s0
  generalize useB st t = U at *
  generalize useB sm m = V at *
  show Calls Tryd.prog 72 #[.map (some b), .agg #[.int .i64 k, .string t, .string m, .int .i64 n, .int .i64 y], .agg #[.int .i64 sp, .int .i64 st, .int .i64 sm, .int .i64 lo, .int .i64 hi, .int .i64 few, .int .i64 most, .int .i64 sf, .int .i64 so]] w _
  by_cases c0 : lo ≤ n
  rotate_left
  · have q0 : decide (n < lo) = true := by simp; omega
    have HF := HE.out
    rw [decide_eq_false c0] at HF
    have HF : Hid (_ = _) := HF
    clear c0 HE
    go_enter Tryd.func72, Tryd.ntmps72
    go_wp2_with fail
    go_ret
    exact ⟨ret_bool HF.out.symm, HB0.out⟩
  have q0 : decide (n < lo) = false := by simp; omega
  by_cases c1 : n ≤ hi
  rotate_left
  · have q1 : decide (hi < n) = true := by simp; omega
    have HF := HE.out
    rw [decide_eq_true c0, decide_eq_false c1] at HF
    have HF : Hid (_ = _) := HF
    clear c1 HE c0
    go_enter Tryd.func72, Tryd.ntmps72
    go_wp2_with fail
    go_ret
    exact ⟨ret_bool HF.out.symm, HB0.out⟩
  have q1 : decide (hi < n) = false := by simp; omega
  by_cases c2 : few ≤ y
  rotate_left
  · have q2 : decide (y < few) = true := by simp; omega
    have HF := HE.out
    rw [decide_eq_true c0, decide_eq_true c1, decide_eq_false c2] at HF
    have HF : Hid (_ = _) := HF
    clear c2 HE c0 c1
    go_enter Tryd.func72, Tryd.ntmps72
    go_wp2_with fail
    go_ret
    exact ⟨ret_bool HF.out.symm, HB0.out⟩
  have q2 : decide (y < few) = false := by simp; omega
  by_cases c3 : y ≤ most
  rotate_left
  · have q3 : decide (most < y) = true := by simp; omega
    have HF := HE.out
    rw [decide_eq_true c0, decide_eq_true c1, decide_eq_true c2, decide_eq_false c3] at HF
    have HF : Hid (_ = _) := HF
    clear c3 HE c0 c1 c2
    go_enter Tryd.func72, Tryd.ntmps72
    go_wp2_with fail
    go_ret
    exact ⟨ret_bool HF.out.symm, HB0.out⟩
  have q3 : decide (most < y) = false := by simp; omega
  have HF := HE.out
  rw [decide_eq_true c0, decide_eq_true c1, decide_eq_true c2, decide_eq_true c3] at HF
  have HF : Hid (_ = _) := HF
  clear HE c0 c1 c2 c3
  go_enter Tryd.func72, Tryd.ntmps72
  go_wp2_with fail
  refine (HT.out _ HL0.out).mono ?_
  rintro e w1 ⟨rfl, hb⟩
  have HX1 : Hid (Both w w1 #[.int .i64 k, .string t, .string m, .int .i64 n, .int .i64 y] #[.int .i64 sp, .int .i64 st, .int .i64 sm, .int .i64 lo, .int .i64 hi, .int .i64 few, .int .i64 most, .int .i64 sf, .int .i64 so]) := HX0.out.next hb
  have HL1 : Hid (Lex w1 b) := HL0.out.below hb
  clear hb HX0 HL0 HB0
  cases U
  · go_wp2_with fail
    go_ret
    exact ⟨ret_bool HF.out.symm, HX1.out.bel⟩
  have e2 : w1.cell? ⟨w.heap.size, 2, none⟩ = some (.string m) := HX1.out.box 2
  have e3 : w1.cell? ⟨w.heap.size + 1, 2, none⟩ = some (.int .i64 sm) := HX1.out.res 2
  go_wp2_with fail
  refine (HM.out _ HL1.out).mono ?_
  rintro e w2 ⟨rfl, hb⟩
  have HX2 : Hid (Both w w2 #[.int .i64 k, .string t, .string m, .int .i64 n, .int .i64 y] #[.int .i64 sp, .int .i64 st, .int .i64 sm, .int .i64 lo, .int .i64 hi, .int .i64 few, .int .i64 most, .int .i64 sf, .int .i64 so]) := HX1.out.next hb
  clear hb HX1 HL1 e2 e3
  go_wp2_with fail
  go_ret
  exact ⟨ret_bool HF.out.symm, HX2.out.bel⟩
set_option maxRecDepth 100000 in
set_option maxHeartbeats 8000000 in
theorem impl_bounds (k : Int) (w : World) :
    Calls Tryd.prog 77 #[.int .i64 k] w fun e w' => e = .returned (.tuple #[.int .i64 (loB k), .int .i64 (hiB k)]) ∧ w' = w := by
  by_cases h1 : k = 1
  · subst h1
    go_enter Tryd.func77, Tryd.ntmps77
    go_wp2_with fail
    refine bodyPost_ret (v := .tuple #[.int .i64 (-1000000000000), .int .i64 1000000000000]) ?_ rfl ⟨rfl, rfl⟩
    simp [results, Tryd.results77, go_sem]
  have t1 : (k == 1) = false := beq_eq_false_iff_ne.2 h1
  by_cases h2 : k = 2
  · subst h2
    go_enter Tryd.func77, Tryd.ntmps77
    go_wp2_with fail
    refine bodyPost_ret (v := .tuple #[.int .i64 (-1000000000000), .int .i64 1000000000000]) ?_ rfl ⟨rfl, rfl⟩
    simp [results, Tryd.results77, go_sem]
  have t2 : (k == 2) = false := beq_eq_false_iff_ne.2 h2
  by_cases h3 : k = 3
  · subst h3
    go_enter Tryd.func77, Tryd.ntmps77
    go_wp2_with fail
    refine bodyPost_ret (v := .tuple #[.int .i64 0, .int .i64 1000000]) ?_ rfl ⟨rfl, rfl⟩
    simp [results, Tryd.results77, go_sem]
  have t3 : (k == 3) = false := beq_eq_false_iff_ne.2 h3
  by_cases h4 : k = 4
  · subst h4
    go_enter Tryd.func77, Tryd.ntmps77
    go_wp2_with fail
    refine bodyPost_ret (v := .tuple #[.int .i64 0, .int .i64 36524]) ?_ rfl ⟨rfl, rfl⟩
    simp [results, Tryd.results77, go_sem]
  have t4 : (k == 4) = false := beq_eq_false_iff_ne.2 h4
  by_cases h5 : k = 5
  · subst h5
    go_enter Tryd.func77, Tryd.ntmps77
    go_wp2_with fail
    refine bodyPost_ret (v := .tuple #[.int .i64 0, .int .i64 1]) ?_ rfl ⟨rfl, rfl⟩
    simp [results, Tryd.results77, go_sem]
  have t5 : (k == 5) = false := beq_eq_false_iff_ne.2 h5
  have H1 : Hid (loB k = 1) := by unfold loB; rw [if_neg h1, if_neg h2, if_neg h3, if_neg h4, if_neg h5]; exact rfl
  have H2 : Hid (hiB k = 0) := by unfold hiB; rw [if_neg h1, if_neg h2, if_neg h3, if_neg h4, if_neg h5]; exact rfl
  clear h1 h2 h3 h4 h5
  go_enter Tryd.func77, Tryd.ntmps77
  go_wp2_with fail
  refine bodyPost_ret (v := .tuple #[.int .i64 1, .int .i64 0]) ?_ rfl ⟨by rw [H1.out, H2.out], rfl⟩
  simp [results, Tryd.results77, go_sem]
set_option maxRecDepth 100000 in
set_option maxHeartbeats 8000000 in
theorem impl_stands (s : Sh) (q : Int) (w : World) :
    Calls Tryd.prog 71 #[.agg (shA s), .int .i64 q] w fun e w' => e = .returned (.bool (standB s.p q)) ∧ Below w.heap.size w w' := by
  obtain ⟨sp, st, sm, lo, hi, few, most, sf, so⟩ := s
  show Calls Tryd.prog 71 #[.agg #[.int .i64 sp, .int .i64 st, .int .i64 sm, .int .i64 lo, .int .i64 hi, .int .i64 few, .int .i64 most, .int .i64 sf, .int .i64 so], .int .i64 q] w fun e w' => e = .returned (.bool (standB sp q)) ∧ Below w.heap.size w w'
  have HB : Hid (Below w.heap.size w (w.alloc (.cells #[.int .i64 sp, .int .i64 st, .int .i64 sm, .int .i64 lo, .int .i64 hi, .int .i64 few, .int .i64 most, .int .i64 sf, .int .i64 so] 98))) := (Below.refl _ _).alloc (Nat.le_refl _) _
  have HE : Hid (standB sp q = ((sp == q) || ((sp == 3) && (q == 2)))) := rfl
  cases h1 : (sp == q)
  · cases h2 : (sp == 3)
    · have HF : Hid (standB sp q = false) := by rw [HE.out, h1, h2]; exact rfl
      clear HE
      go_enter Tryd.func71, Tryd.ntmps71
      go_wp2_with fail
      go_ret
      exact ⟨ret_bool HF.out.symm, HB.out⟩
    · have HF : Hid (standB sp q = (q == 2)) := by rw [HE.out, h1, h2]; exact rfl
      clear HE
      go_enter Tryd.func71, Tryd.ntmps71
      go_wp2_with fail
      go_ret
      exact ⟨ret_bool HF.out.symm, HB.out⟩
  · have HF : Hid (standB sp q = true) := by rw [HE.out, h1]; exact rfl
    clear HE
    go_enter Tryd.func71, Tryd.ntmps71
    go_wp2_with fail
    go_ret
    exact ⟨ret_bool HF.out.symm, HB.out⟩
end Go.Proofs.YtnefcldjigndgaaDoor
