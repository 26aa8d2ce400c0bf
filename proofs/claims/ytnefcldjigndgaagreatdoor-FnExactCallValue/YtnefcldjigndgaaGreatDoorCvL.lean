/- The law of CallValue. -/
import Derived.Test.YtnefcldjigndgaaGreatDoorCvI
import Derived.Test.YtnefcldjigndgaaGreatDoorCvS
namespace Go.Proofs.YtnefcldjigndgaaGreatDoor
open Go.RowKit
open Go.Proofs.YtnefcldjigndgaaGreatDoor.Draw

/-- A block of an answer's two numbers. -/
structure M2 (W : World) (X : Nat) (p q : Int) : Prop where
  c0 : W.cell? ⟨X, 0, none⟩ = some (.int .i64 p)
  c1 : W.cell? ⟨X, 1, none⟩ = some (.int .i64 q)
  lt : X < W.heap.size
theorem M2.new (w : World) (p q : Int) (t : TypeId) : M2 (w.alloc (.cells #[.int .i64 p, .int .i64 q] t)) w.heap.size p q := ⟨by simp, by simp, by simp⟩
theorem M2.below {W W' : World} {X : Nat} {p q : Int} (h : M2 W X p q) (hb : Below W.heap.size W W') : M2 W' X p q :=
  ⟨(hb.cell (p := ⟨X, 0, none⟩) h.lt).trans h.c0, (hb.cell (p := ⟨X, 1, none⟩) h.lt).trans h.c1, Nat.lt_of_lt_of_le h.lt hb.size⟩
set_option maxRecDepth 100000 in
set_option maxHeartbeats 8000000 in
theorem law_callValue (b : Int) (_hb : (Lit.int .i64 b).wf = true) (s : ByteArray) (hs : s.size ≤ maxLen) (a : Option Addr) (n cap : Nat) (T : Nat → Int) (hn : n ≤ maxLen) (_hT : ∀ i, i < n → -9223372036854775808 ≤ T i ∧ T i ≤ 9223372036854775807) (w : World) (hF : FunW w) (hM : Mon w) (hL : Lay w) (h : IntsAt w a n T) :
    Calls Tryz.prog 3 #[.int .i64 b, .string s, .slice a n cap] w fun e w' => e = .returned (.bool true) ∧ Below w.heap.size w w' := by
  clear _hb _hT
  unfold maxLen at hs hn
  by_cases hl : s.size ≤ 1048576
  rotate_left
  · have q0 : decide (1048576 < s.size) = true := by simp; omega
    have q1 : decide ((1048576 : Int) < (s.size : Int)) = true := by simp; omega
    go_enter Tryz.func3, Tryz.ntmps3
    go_wp2_with fail
    go_ret
    exact ⟨rfl, Below.refl _ _⟩
  have q0 : decide (1048576 < s.size) = false := by simp; omega
  have q1 : decide ((1048576 : Int) < (s.size : Int)) = false := by simp; omega
  by_cases hnl : n ≤ 1048576
  rotate_left
  · have r0 : decide (1048576 < n) = true := by simp; omega
    have r1 : decide ((1048576 : Int) < (n : Int)) = true := by simp; omega
    go_enter Tryz.func3, Tryz.ntmps3
    go_wp2_with fail
    go_ret
    exact ⟨rfl, Below.refl _ _⟩
  have r0 : decide (1048576 < n) = false := by simp; omega
  have r1 : decide ((1048576 : Int) < (n : Int)) = false := by simp; omega
  obtain ⟨y, hy⟩ := inst_of (T 0) (T 1) b (T 3) (T 2)
  have HTo : Hid (∀ W, Below w.heap.size w W → Calls Tryz.prog 5 #[.slice a n cap] W fun e w' => ∃ g, e = .returned (.slice (some ⟨g, 0, none⟩) n n) ∧ W.heap.size ≤ g ∧ Own w' g n (numF T) ∧ Below W.heap.size W w') := fun W hW => to_ints a n cap T hnl W (h.below hW)
  have H1 : Hid (∀ g W, IntsAt W (some ⟨g, 0, none⟩) n T → Calls Tryz.prog 4 #[.int .i64 b, .string s, .slice (some ⟨g, 0, none⟩) n n] W fun e w' => e = .returned (moneyV (cvV y b s n T)) ∧ Below W.heap.size W w') := fun g W hW => spec_cvV y b s n n _ T hy W hW
  have H2 : Hid (∀ g W, Below w.heap.size w W → IntsAt W (some ⟨g, 0, none⟩) n T → Calls Tryz.prog 6 #[.int .i64 b, .string s, .slice (some ⟨g, 0, none⟩) n n] W fun e w' => e = .returned (moneyV (cvV y b s n T)) ∧ Below W.heap.size W w') := fun g W hb hW => impl_cvV y b s n n _ T hy W (hF.below hb) (hM.below hb) (hL.below hb) hW
  generalize cvV y b s n T = r at *
  clear h hy hF hM hL hs hn
  obtain ⟨p, q⟩ := r
  simp only [moneyV] at H1 H2
  go_enter Tryz.func3, Tryz.ntmps3
  go_wp2_with fail
  refine (HTo.out _ (Below.refl _ _)).mono ?_
  rintro e w1 ⟨g1, rfl, _, hO, hb1⟩
  have HB1 : Hid (Below w.heap.size w w1) := hb1
  have HO1 : Hid (Own w1 g1 n (numF T)) := hO
  clear hb1 hO
  go_wp2_with fail
  refine (H1.out g1 _ HO1.out.ints).mono ?_
  rintro e w2 ⟨rfl, hb2⟩
  have hal : Below w2.heap.size w2 (w2.alloc (.cells #[.int .i64 p, .int .i64 q] 24)) := (Below.refl _ _).alloc (Nat.le_refl _) _
  have hB3 : Below w.heap.size w (w2.alloc (.cells #[.int .i64 p, .int .i64 q] 24)) := (HB1.out.trans (hb2.mono HB1.out.size)).trans (hal.mono (Nat.le_trans HB1.out.size hb2.size))
  have hM3 := M2.new w2 p q 24
  clear hb2 hal HB1 HO1 H1
  go_upto_region 6 with fail
  obtain ⟨w3, hw3⟩ : ∃ W, W = (w2.alloc (.cells #[.int .i64 p, .int .i64 q] 24)) := ⟨_, rfl⟩
  obtain ⟨X, hX⟩ : ∃ X, X = w2.heap.size := ⟨_, rfl⟩
  rw [← hw3] at hB3 hM3 ⊢
  rw [← hX] at hM3 ⊢
  clear hw3 hX
  have HB3 : Hid (Below w.heap.size w w3) := hB3
  have HM3 : Hid (M2 w3 X p q) := hM3
  clear hB3 hM3
  go_wp2_with fail
  refine (HTo.out _ HB3.out).mono ?_
  rintro e w4 ⟨g2, rfl, _, hO, hb4⟩
  have HB4 : Hid (Below w.heap.size w w4) := HB3.out.trans (hb4.mono HB3.out.size)
  have HM4 : Hid (M2 w4 X p q) := HM3.out.below hb4
  have HO4 : Hid (Own w4 g2 n (numF T)) := hO
  clear hb4 hO HB3 HM3
  go_wp2_with fail
  refine (H2.out g2 _ HB4.out HO4.out.ints).mono ?_
  rintro e w5 ⟨rfl, hb5⟩
  have hal : Below w5.heap.size w5 (w5.alloc (.cells #[.int .i64 p, .int .i64 q] 24)) := (Below.refl _ _).alloc (Nat.le_refl _) _
  have hB6 : Below w.heap.size w (w5.alloc (.cells #[.int .i64 p, .int .i64 q] 24)) := (HB4.out.trans (hb5.mono HB4.out.size)).trans (hal.mono (Nat.le_trans HB4.out.size hb5.size))
  have hM6 := (HM4.out.below hb5).below hal
  have hO6 : Own (w5.alloc (.cells #[.int .i64 p, .int .i64 q] 24)) g2 n (numF T) := (HO4.out.below hb5).below hal
  have hK6 := M2.new w5 p q 24
  clear hb5 hal HB4 HM4 HO4 H2
  go_upto_region 8 with fail
  obtain ⟨w6, hw6⟩ : ∃ W, W = (w5.alloc (.cells #[.int .i64 p, .int .i64 q] 24)) := ⟨_, rfl⟩
  obtain ⟨K, hK⟩ : ∃ X, X = w5.heap.size := ⟨_, rfl⟩
  rw [← hw6] at hB6 hM6 hO6 hK6 ⊢
  rw [← hK] at hK6 ⊢
  clear hw6 hK
  have HB6 : Hid (Below w.heap.size w w6) := hB6
  have HO6 : Hid (Own w6 g2 n (numF T)) := hO6
  obtain ⟨x0, x1, xl⟩ := hM6
  obtain ⟨k0, k1, kl⟩ := hK6
  clear hB6 hO6
  go_wp2_with fail
  refine (eq_money p q _).mono ?_
  rintro e w7 ⟨rfl, hb7⟩
  have HB7 : Hid (Below w.heap.size w w7) := HB6.out.trans (hb7.mono HB6.out.size)
  have HO7 : Hid (Own w7 g2 n (numF T)) := HO6.out.below hb7
  clear hb7 x0 x1 xl k0 k1 kl HB6 HO6
  go_wp2_with fail
  refine (HTo.out _ HB7.out).mono ?_
  rintro e w8 ⟨g3, rfl, _, hO, hb8⟩
  have HB8 : Hid (Below w.heap.size w w8) := HB7.out.trans (hb8.mono HB7.out.size)
  have HO8 : Hid (Own w8 g2 n (numF T)) := HO7.out.below hb8
  have HP8 : Hid (Own w8 g3 n (numF T)) := hO
  clear hb8 hO HB7 HO7
  go_wp2_with fail
  refine (eq_ints _ _ n _ _ (numF T) T (fun j _ => rfl) hnl _ HO8.out.nums HP8.out.nums).mono ?_
  rintro e w9 ⟨rfl, hb9⟩
  have HB9 : Hid (Below w.heap.size w w9) := HB8.out.trans (hb9.mono HB8.out.size)
  clear hb9
  go_wp2_with fail
  go_ret
  exact ⟨rfl, HB9.out⟩
end Go.Proofs.YtnefcldjigndgaaGreatDoor
