/- Bytes of modules: what the program's and the model's calls answer, and the law. -/
import Derived.Test.YtkhjmjlmbeealaaDoorMbI
import Derived.Test.YtkhjmjlmbeealaaDoorMrL
import Derived.Lib.BufSteps
namespace Go.Proofs.YtkhjmjlmbeealaaDoor
open Go.RowKit
open Go.Proofs.YtkhjmjlmbeealaaDoor.Draw

def headT (z0 z1 z2 z3 : Int) (n : Nat) (j : Nat) : Int := if j = 0 then z0 else if j = 1 then z1 else if j = 2 then z2 else if j = 3 then z3 else (n : Int)
def insT (x : In) (j : Nat) : Int := if j = 0 then x.o else if j = 1 then x.a else x.b
/-- The instructions' bytes, one behind the other. -/
def insL (L : Nat → In) : Nat → List UInt8
  | 0 => []
  | k + 1 => insL L k ++ catN (insT (L k)) 3
theorem insL_len (L : Nat → In) (k : Nat) : (insL L k).length ≤ 30 * k := by
  induction k with
  | zero => simp [insL]
  | succ k ih => rw [insL, List.length_append]; have := catN_len (insT (L k)) 3; omega
def modL (z0 z1 z2 z3 : Int) (n : Nat) (L : Nat → In) : List UInt8 := catN (headT z0 z1 z2 z3 n) 5 ++ insL L n
theorem bndO_range (z1 z2 z3 : Int) (n : Nat) (k : Int) (h1 : z1 ≤ 6) (h2 : z2 ≤ 10) (h3 : z3 ≤ 8) (hn : n ≤ 2000) : -1000000000000 ≤ (bndO z1 z2 z3 n k).1 ∧ (bndO z1 z2 z3 n k).2 ≤ 1000000000001 := by
  unfold bndO
  repeat' split
  all_goals (constructor <;> (simp only; omega))
theorem insB_range {z1 z2 z3 : Int} {n : Nat} {o u v : Int} (h1 : z1 ≤ 6) (h2 : z2 ≤ 10) (h3 : z3 ≤ 8) (hn : n ≤ 2000) (h : insB z1 z2 z3 n o u v = true) : (1 ≤ o ∧ o ≤ 26) ∧ (-1000000000000 ≤ u ∧ u ≤ 1000000000000) ∧ (-1000000000000 ≤ v ∧ v ≤ 1000000000000) := by
  unfold insB opnB at h
  simp only [Bool.and_eq_true, decide_eq_true_eq] at h
  have a := bndO_range z1 z2 z3 n (shp o.toNat).a h1 h2 h3 hn
  have b := bndO_range z1 z2 z3 n (shp o.toNat).b h1 h2 h3 hn
  omega
theorem modP_range {z0 z1 z2 z3 : Int} {n : Nat} {L : Nat → In} (h : ModP z0 z1 z2 z3 n L) : (1 ≤ n ∧ n ≤ 2000) ∧ (∀ j, j < 5 → -9223372036854775808 ≤ headT z0 z1 z2 z3 n j ∧ headT z0 z1 z2 z3 n j ≤ 9223372036854775807) ∧ ∀ k, k < n → ∀ j, j < 3 → -9223372036854775808 ≤ insT (L k) j ∧ insT (L k) j ≤ 9223372036854775807 := by
  obtain ⟨hm, hc, _⟩ := h
  obtain ⟨c1, c2, c3⟩ := codeB_of hc
  unfold modN inB at hm
  simp only [Bool.and_eq_true, decide_eq_true_eq] at hm
  refine ⟨⟨c1, c2⟩, fun j hj => ?_, fun k hk j hj => ?_⟩
  · unfold headT
    repeat' split
    all_goals omega
  · have r := insB_range (by omega) (by omega) (by omega) c2 (c3 k hk)
    unfold insT
    repeat' split
    all_goals omega
/-- The bytes that are handed back. -/
def BytOut (z0 z1 z2 z3 : Int) (n : Nat) (L : Nat → In) (w : World) (e : Ending) (w' : World) : Prop := ∃ s, e = .returned (.string s) ∧ ((ModP z0 z1 z2 z3 n L ∧ s = ⟨(modL z0 z1 z2 z3 n L).toArray⟩) ∨ (¬ ModP z0 z1 z2 z3 n L ∧ s = ⟨#[]⟩)) ∧ Below w.heap.size w w'
set_option maxRecDepth 100000 in
set_option maxHeartbeats 32000000 in
theorem impl_modBytes (z0 z1 z2 z3 : Int) (g n c : Nat) (hn : n ≤ 9223372036854775807) (L : Nat → In) (w : World) (hF : FunW w) (hS : ShaW w) (hA : InsAt w (some ⟨g, 0, none⟩) n L) :
    Calls Tryd.prog 28 #[.agg #[.int .i64 z0, .int .i64 z1, .int .i64 z2, .int .i64 z3, .slice (some ⟨g, 0, none⟩) n c]] w (BytOut z0 z1 z2 z3 n L w) := by
  have HX : Hid (BxM w (w.alloc (.cells #[.int .i64 z0, .int .i64 z1, .int .i64 z2, .int .i64 z3, .slice (some ⟨g, 0, none⟩) n c] 36)) #[.int .i64 z0, .int .i64 z1, .int .i64 z2, .int .i64 z3, .slice (some ⟨g, 0, none⟩) n c]) := BxM.new _ _ _
  have hal : Below w.heap.size w (w.alloc (.cells #[.int .i64 z0, .int .i64 z1, .int .i64 z2, .int .i64 z3, .slice (some ⟨g, 0, none⟩) n c] 36)) := (Below.refl _ _).alloc (Nat.le_refl _) _
  have HM := impl_modRight z0 z1 z2 z3 (some ⟨g, 0, none⟩) n c hn L (w.alloc (.cells #[.int .i64 z0, .int .i64 z1, .int .i64 z2, .int .i64 z3, .slice (some ⟨g, 0, none⟩) n c] 36)) (hF.below hal) (hS.below hal) (hA.below hal)
  have HM : Hid (Calls Tryd.prog 26 _ _ _) := HM
  have HA : Hid (InsAt w (some ⟨g, 0, none⟩) n L) := hA
  clear hA hF hS hal
  go_enter Tryd.func28, Tryd.ntmps28
  go_wp2_with fail
  refine HM.out.mono ?_
  rintro e w1 ⟨b, rfl, hb, hbl⟩
  have HB1 : Hid (BxM w w1 #[.int .i64 z0, .int .i64 z1, .int .i64 z2, .int .i64 z3, .slice (some ⟨g, 0, none⟩) n c]) := HX.out.next hbl
  clear hbl HM HX
  have y0 := HB1.out.cell 0
  have y1 := HB1.out.cell 1
  have y2 := HB1.out.cell 2
  have y3 := HB1.out.cell 3
  have y4 := HB1.out.cell 4
  simp at y0 y1 y2 y3 y4
  cases b
  · have hno : ¬ ModP z0 z1 z2 z3 n L := fun h => by have := hb.2 h; cases this
    have HR : Hid (BytOut z0 z1 z2 z3 n L w (.returned (.string ⟨#[]⟩)) w1) := ⟨_, rfl, Or.inr ⟨hno, rfl⟩, HB1.out.bel⟩
    clear hb hno
    go_wp2_with fail
    go_ret
    exact HR.out
  have HY : Hid (ModP z0 z1 z2 z3 n L) := hb.1 rfl
  obtain ⟨⟨hn1, hn2⟩, hR1, hR2⟩ := modP_range HY.out
  have HR2 : Hid (∀ k, k < n → ∀ j, j < 3 → -9223372036854775808 ≤ insT (L k) j ∧ insT (L k) j ≤ 9223372036854775807) := hR2
  have y1lt := HB1.out.lt
  have yne : w1.heap.size ≠ w.heap.size := by omega
  -- the builder, and the first five numbers
  have HBL : Hid (Bld w1.heap.size w1.heap.size [] ((w1.alloc (.cells #[.pointer none, .slice none 0 0] 75)).alloc (.cells #[.int .i64 z0, .int .i64 z1, .int .i64 z2, .int .i64 z3, .int .i64 (n : Int)] 2))) := Bld.next (Lib.fresh_isBuilder 75 5 w1) ((Below.refl _ _).alloc (Nat.le_refl _) _)
  have HPN := impl_putNums w1.heap.size w1.heap.size (w1.heap.size + 1) 5 5 (headT z0 z1 z2 z3 n) 2 (by omega) (by decide) #[.int .i64 z0, .int .i64 z1, .int .i64 z2, .int .i64 z3, .int .i64 (n : Int)] (fun j hj => by
    rcases (by omega : j = 0 ∨ j = 1 ∨ j = 2 ∨ j = 3 ∨ j = 4) with rfl | rfl | rfl | rfl | rfl <;> rfl) (by omega) hR1 [] (by simp) ((w1.alloc (.cells #[.pointer none, .slice none 0 0] 75)).alloc (.cells #[.int .i64 z0, .int .i64 z1, .int .i64 z2, .int .i64 z3, .int .i64 (n : Int)] 2)) (by simp; omega) (by
      have := bx_at (W := w1.alloc (.cells #[.pointer none, .slice none 0 0] 75)) (j := w1.heap.size + 1) (cs := #[.int .i64 z0, .int .i64 z1, .int .i64 z2, .int .i64 z3, .int .i64 (n : Int)]) (t := 2) (by simp)
      exact this) HBL.out
  have HPN : Hid (Calls Tryd.prog 50 _ _ _) := HPN
  clear hb hR1 hR2
  go_wp2_with fail
  refine HPN.out.mono ?_
  rintro e w2 ⟨rfl, hbd, hbl, hk⟩
  have HD2 : Hid (Bld w1.heap.size w1.heap.size (catN (headT z0 z1 z2 z3 n) 5 ++ insL L 0) w2 ∧ Below w1.heap.size w1 w2) := ⟨by rw [insL, List.append_nil]; exact hbd, (((Below.refl _ _).alloc (Nat.le_refl _) _).alloc (by simp) _).trans hbl⟩
  clear hbd hbl hk HPN HBL y0 y1 y2 y3 y4
  have HBe : Hid (Below w.heap.size w w1) := HB1.out.bel
  have HB2 : Hid (BxM w w2 #[.int .i64 z0, .int .i64 z1, .int .i64 z2, .int .i64 z3, .slice (some ⟨g, 0, none⟩) n c]) := HB1.out.next HD2.out.2
  have HWL : w1.heap.size ≤ w2.heap.size := HD2.out.2.size
  have y0 := HB2.out.cell 0
  have y1 := HB2.out.cell 1
  have y2 := HB2.out.cell 2
  have y3 := HB2.out.cell 3
  have y4 := HB2.out.cell 4
  simp at y0 y1 y2 y3 y4
  clear HB1 HB2
  obtain ⟨B, hB⟩ : ∃ B, B = w1.heap.size := ⟨_, rfl⟩
  rw [← hB] at HD2 HWL y1lt yne ⊢
  have HBB : Hid (B = w1.heap.size) := hB
  clear hB
  go_wp2_with fail
  go_loopw [25] (fun i wr => ∃ k : Nat, i = .int .i64 (k : Int) ∧ k ≤ n ∧ Hid (Bld B B (catN (headT z0 z1 z2 z3 n) 5 ++ insL L k) wr ∧ Below B w1 wr)) (fun i _ => n - (intOf i).toNat)
  case atStart => exact ⟨0, rfl, by omega, HD2⟩
  case round =>
    obtain ⟨k, rfl, hk, HD⟩ := hrel
    have hsz : B ≤ wr.heap.size := by have := HD.out.2.size; have := HBB.out; omega
    by_cases hkn : k < n
    · have q0 : decide (k < n) = true := by simpa using hkn
      have q1 : decide ((k : Int) < (n : Int)) = true := by simpa using hkn
      rcases HA.out.below (HBe.out.trans (HD.out.2.mono (by omega))) with h0 | ⟨g2, o2, hgg, hg, hcs⟩
      · omega
      simp at hgg
      obtain ⟨rfl, rfl⟩ := hgg
      obtain ⟨c0, c1, c2⟩ := hcs k hkn
      rw [Nat.zero_add] at c0 c1 c2
      have HT : Hid (insL L (k + 1) = insL L k ++ catN (insT (L k)) 3) := rfl
      have hr := HR2.out k hkn
      clear hcs
      have HBI : Below B wr ((wr.alloc (.cells #[.int .i64 (L k).o, .int .i64 (L k).a, .int .i64 (L k).b] 38)).alloc (.cells #[.int .i64 (L k).o, .int .i64 (L k).a, .int .i64 (L k).b] 2)) := (((Below.refl _ _).alloc hsz _).alloc (by simp; omega) _)
      have HBD : Bld B B (catN (headT z0 z1 z2 z3 n) 5 ++ insL L k) ((wr.alloc (.cells #[.int .i64 (L k).o, .int .i64 (L k).a, .int .i64 (L k).b] 38)).alloc (.cells #[.int .i64 (L k).o, .int .i64 (L k).a, .int .i64 (L k).b] 2)) := HD.out.1.next (((Below.refl _ _).alloc (Nat.le_refl _) _).alloc (by simp) _)
      have HPN := impl_putNums B B (wr.heap.size + 1) 3 3 (insT (L k)) 2 (by omega) (by decide) #[.int .i64 (L k).o, .int .i64 (L k).a, .int .i64 (L k).b] (fun j hj => by
        rcases (by omega : j = 0 ∨ j = 1 ∨ j = 2) with rfl | rfl | rfl <;> rfl) (by omega) hr (catN (headT z0 z1 z2 z3 n) 5 ++ insL L k) (by rw [List.length_append]; have := catN_len (headT z0 z1 z2 z3 n) 5; have := insL_len L k; omega) _ (by simp; omega) (bx_at (W := wr.alloc (.cells #[.int .i64 (L k).o, .int .i64 (L k).a, .int .i64 (L k).b] 38)) (by simp)) HBD
      have HPN : Hid (Calls Tryd.prog 50 _ _ _) := HPN
      have HBI : Hid (Below B w1 _) := HD.out.2.trans HBI
      have hz : wr.heap.size ≠ g := by have := HBB.out; omega
      clear hr HBD HD HR2
      generalize (L k).o = u0 at *
      generalize (L k).a = u1 at *
      generalize (L k).b = u2 at *
      go_wp2_with fail
      refine HPN.out.mono ?_
      rintro e w3 ⟨rfl, hbd, hbl, _⟩
      have HD3 : Hid (Bld B B (catN (headT z0 z1 z2 z3 n) 5 ++ insL L (k + 1)) w3 ∧ Below B w1 w3) := ⟨by rw [HT.out, ← List.append_assoc]; exact hbd, HBI.out.trans hbl⟩
      clear hbd hbl HPN HBI HT
      go_wp2_with fail
      go_roundw
      case rel => exact ⟨k + 1, by go_num, by omega, HD3⟩
      case measure => simp [intOf]; omega
    · have q0 : decide (k < n) = false := by simpa using hkn
      have q1 : decide ((k : Int) < (n : Int)) = false := by simpa using hkn
      obtain rfl : n = k := by omega
      have HS := Any.Builder_String_any { lays169 with } bldX9 B B _ wr HD.out.1 hsz
      have HS : Hid (Calls Tryd.prog 51 _ _ _) := HS
      have HR : Hid (∀ W, Below B wr W → BytOut z0 z1 z2 z3 n L w (.returned (.string ⟨(modL z0 z1 z2 z3 n L).toArray⟩)) W) := fun W h => ⟨_, rfl, Or.inl ⟨HY.out, rfl⟩, HBe.out.trans ((HD.out.2.trans h).mono (by omega))⟩
      clear HD HY HR2
      go_wp2_with fail
      refine HS.out.mono ?_
      rintro e w3 ⟨rfl, h3⟩
      have HR := HR.out w3 h3
      have HR : Hid (BytOut z0 z1 z2 z3 n L w (.returned (.string ⟨(modL z0 z1 z2 z3 n L).toArray⟩)) w3) := HR
      obtain ⟨T, hT⟩ : ∃ T : ByteArray, T = ⟨(modL z0 z1 z2 z3 n L).toArray⟩ := ⟨_, rfl⟩
      have hT' : (⟨(catN (headT z0 z1 z2 z3 n) 5 ++ insL L n).toArray⟩ : ByteArray) = T := hT.symm
      rw [← hT] at HR
      rw [hT']
      clear hT hT' h3
      go_wp2_with fail
      go_ret
      exact HR.out
end Go.Proofs.YtkhjmjlmbeealaaDoor
