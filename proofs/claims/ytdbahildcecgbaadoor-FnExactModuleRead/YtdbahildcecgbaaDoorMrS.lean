/- Right modules and their heights: what the model's calls and the program's HeightsOf answer. -/
import Derived.Test.YtdbahildcecgbaaDoorSpH
namespace Go.Proofs.YtdbahildcecgbaaDoor
open Go.RowKit
open Go.Proofs.YtdbahildcecgbaaDoor.Draw

set_option maxRecDepth 100000 in
set_option maxHeartbeats 32000000 in
theorem spec_modRight (z0 z1 z2 z3 : Int) (g n c : Nat) (hn : n ≤ 9223372036854775807) (L : Nat → In) (w : World) (hA : InsAt w (some ⟨g, 0, none⟩) n L) :
    Calls Tryd.prog 13 #[.agg #[.int .i64 z0, .int .i64 z1, .int .i64 z2, .int .i64 z3, .slice (some ⟨g, 0, none⟩) n c]] w (ModOut z0 z1 z2 z3 n L w) := by
  have HX : Hid (BxM w (w.alloc (.cells #[.int .i64 z0, .int .i64 z1, .int .i64 z2, .int .i64 z3, .slice (some ⟨g, 0, none⟩) n c] 24)) #[.int .i64 z0, .int .i64 z1, .int .i64 z2, .int .i64 z3, .slice (some ⟨g, 0, none⟩) n c]) := BxM.new _ _ _
  have HA : Hid (InsAt w (some ⟨g, 0, none⟩) n L) := hA
  have HI : Hid (∀ (o u v : Int) (W : World), Calls Tryd.prog 23 #[.agg #[.int .i64 z0, .int .i64 z1, .int .i64 z2, .int .i64 z3, .slice (some ⟨g, 0, none⟩) n c], .agg #[.int .i64 o, .int .i64 u, .int .i64 v]] W fun e w' => e = .returned (.bool (insB z1 z2 z3 n o u v)) ∧ Below W.heap.size W w') := fun o u v W => spec_insRight z0 z1 z2 z3 (some ⟨g, 0, none⟩) n c hn o u v W
  have HH : Hid (1 ≤ n → n ≤ 2000 → (∀ j, j < n → insB z1 z2 z3 n (L j).o (L j).a (L j).b = true) → ∀ W, Below w.heap.size w W → Calls Tryd.prog 24 #[.agg #[.int .i64 z0, .int .i64 z1, .int .i64 z2, .int .i64 z3, .slice (some ⟨g, 0, none⟩) n c]] W (SpOut L n W)) := fun h1 h2 h3 W hb => spec_heights z0 z1 z2 z3 g 0 n c h2 h1 L W (hA.below hb) h3
  have HP : Hid (ModP z0 z1 z2 z3 n L ↔ (inB z0 1 3 && (inB z1 1 6 && (inB z2 z1 10 && inB z3 0 8))) = true ∧ codeB z1 z2 z3 n L = true ∧ Good L n) := Iff.rfl
  have H0 : Hid (∀ W, Calls Tryd.prog 22 #[.int .i64 z0, .int .i64 1, .int .i64 3] W fun e w' => e = .returned (.bool (inB z0 1 3)) ∧ w' = W) := fun W => spec_in10 z0 1 3 W
  have H1 : Hid (∀ W, Calls Tryd.prog 22 #[.int .i64 z1, .int .i64 1, .int .i64 6] W fun e w' => e = .returned (.bool (inB z1 1 6)) ∧ w' = W) := fun W => spec_in10 z1 1 6 W
  have H2 : Hid (∀ W, Calls Tryd.prog 22 #[.int .i64 z2, .int .i64 z1, .int .i64 10] W fun e w' => e = .returned (.bool (inB z2 z1 10)) ∧ w' = W) := fun W => spec_in10 z2 z1 10 W
  have H3 : Hid (∀ W, Calls Tryd.prog 22 #[.int .i64 z3, .int .i64 0, .int .i64 8] W fun e w' => e = .returned (.bool (inB z3 0 8)) ∧ w' = W) := fun W => spec_in10 z3 0 8 W
  have HNO : Hid ((codeB z1 z2 z3 n L = false) → ¬ ModP z0 z1 z2 z3 n L) := fun e h => by have := h.2.1; rw [e] at this; cases this
  have HOUT : Hid (∀ W, Below w.heap.size w W → ¬ ModP z0 z1 z2 z3 n L → ModOut z0 z1 z2 z3 n L w (.returned (.bool false)) W) := fun W hb h => ⟨false, rfl, ⟨fun e => (by cases e), fun e => absurd e h⟩, hb⟩
  clear hA
  generalize inB z0 1 3 = b0 at *
  generalize inB z1 1 6 = b1 at *
  generalize inB z2 z1 10 = b2 at *
  generalize inB z3 0 8 = b3 at *
  go_enter Tryd.func13, Tryd.ntmps13
  go_wp2_with fail
  refine (H0.out _).mono ?_
  rintro e w1 ⟨rfl, rfl⟩
  clear H0
  cases b0
  · have HR : Hid (ModOut z0 z1 z2 z3 n L w (.returned (.bool false)) (w.alloc (.cells #[.int .i64 z0, .int .i64 z1, .int .i64 z2, .int .i64 z3, .slice (some ⟨g, 0, none⟩) n c] 24))) := HOUT.out _ HX.out.bel (fun h => by have := (HP.out.1 h).1; simp at this)
    go_wp2_with fail
    go_ret
    exact HR.out
  go_wp2_with fail
  refine (H1.out _).mono ?_
  rintro e w1 ⟨rfl, rfl⟩
  clear H1
  cases b1
  · have HR : Hid (ModOut z0 z1 z2 z3 n L w (.returned (.bool false)) (w.alloc (.cells #[.int .i64 z0, .int .i64 z1, .int .i64 z2, .int .i64 z3, .slice (some ⟨g, 0, none⟩) n c] 24))) := HOUT.out _ HX.out.bel (fun h => by have := (HP.out.1 h).1; simp at this)
    go_wp2_with fail
    go_ret
    exact HR.out
  go_wp2_with fail
  refine (H2.out _).mono ?_
  rintro e w1 ⟨rfl, rfl⟩
  clear H2
  cases b2
  · have HR : Hid (ModOut z0 z1 z2 z3 n L w (.returned (.bool false)) (w.alloc (.cells #[.int .i64 z0, .int .i64 z1, .int .i64 z2, .int .i64 z3, .slice (some ⟨g, 0, none⟩) n c] 24))) := HOUT.out _ HX.out.bel (fun h => by have := (HP.out.1 h).1; simp at this)
    go_wp2_with fail
    go_ret
    exact HR.out
  go_wp2_with fail
  refine (H3.out _).mono ?_
  rintro e w1 ⟨rfl, rfl⟩
  clear H3
  cases b3
  · have HR : Hid (ModOut z0 z1 z2 z3 n L w (.returned (.bool false)) (w.alloc (.cells #[.int .i64 z0, .int .i64 z1, .int .i64 z2, .int .i64 z3, .slice (some ⟨g, 0, none⟩) n c] 24))) := HOUT.out _ HX.out.bel (fun h => by have := (HP.out.1 h).1; simp at this)
    go_wp2_with fail
    go_ret
    exact HR.out
  by_cases h1 : n < 1
  · have p1 : decide (n < 1) = true := by simpa using h1
    have p1' : decide ((n : Int) < 1) = true := by simp; omega
    have HR : Hid (ModOut z0 z1 z2 z3 n L w (.returned (.bool false)) (w.alloc (.cells #[.int .i64 z0, .int .i64 z1, .int .i64 z2, .int .i64 z3, .slice (some ⟨g, 0, none⟩) n c] 24))) := HOUT.out _ HX.out.bel (HNO.out (codeB_len (Or.inl h1)))
    go_wp2_with fail
    go_ret
    exact HR.out
  have p1 : decide (n < 1) = false := by simpa using h1
  have p1' : decide ((n : Int) < 1) = false := by simp; omega
  by_cases h2 : 2000 < n
  · have p2 : decide (2000 < n) = true := by simpa using h2
    have p2' : decide ((2000 : Int) < (n : Int)) = true := by simp; omega
    have HR : Hid (ModOut z0 z1 z2 z3 n L w (.returned (.bool false)) (w.alloc (.cells #[.int .i64 z0, .int .i64 z1, .int .i64 z2, .int .i64 z3, .slice (some ⟨g, 0, none⟩) n c] 24))) := HOUT.out _ HX.out.bel (HNO.out (codeB_len (Or.inr h2)))
    go_wp2_with fail
    go_ret
    exact HR.out
  have p2 : decide (2000 < n) = false := by simpa using h2
  have p2' : decide ((2000 : Int) < (n : Int)) = false := by simp; omega
  go_wp2_with fail
  go_loopw [3] (fun i wr => ∃ k : Nat, i = .int .i64 (k : Int) ∧ k ≤ n ∧ Hid (∀ j, j < k → insB z1 z2 z3 n (L j).o (L j).a (L j).b = true) ∧ Hid (BxM w wr #[.int .i64 z0, .int .i64 z1, .int .i64 z2, .int .i64 z3, .slice (some ⟨g, 0, none⟩) n c])) (fun i _ => n - (intOf i).toNat)
  case atStart => exact ⟨0, rfl, by omega, fun j hj => by omega, HX⟩
  case round =>
    obtain ⟨k, rfl, hk, HR, HB⟩ := hrel
    have ybl := HB.out.lt
    have y0 := HB.out.cell 0
    have y1 := HB.out.cell 1
    have y2 := HB.out.cell 2
    have y3 := HB.out.cell 3
    have y4 := HB.out.cell 4
    simp at y0 y1 y2 y3 y4
    by_cases hkn : k < n
    · have q0 : decide (k < n) = true := by simpa using hkn
      have q1 : decide ((k : Int) < (n : Int)) = true := by simpa using hkn
      rcases HA.out.below HB.out.bel with h0 | ⟨g2, o2, hgg, hg, hcs⟩
      · omega
      simp at hgg
      obtain ⟨rfl, rfl⟩ := hgg
      obtain ⟨c0, c1, c2⟩ := hcs k hkn
      rw [Nat.zero_add] at c0 c1 c2
      have HR2 : Hid (insB z1 z2 z3 n (L k).o (L k).a (L k).b = true → ∀ j, j < k + 1 → insB z1 z2 z3 n (L j).o (L j).a (L j).b = true) := fun e j hj => by
        by_cases e' : j = k
        · rw [e']; exact e
        · exact HR.out j (by omega)
      have HN : Hid (insB z1 z2 z3 n (L k).o (L k).a (L k).b = false → ¬ ModP z0 z1 z2 z3 n L) := fun e => HNO.out (codeB_no hkn e)
      generalize (L k).o = u0 at *
      generalize (L k).a = u1 at *
      generalize (L k).b = u2 at *
      have HI2 : Hid (∀ W, Calls Tryd.prog 23 #[.agg #[.int .i64 z0, .int .i64 z1, .int .i64 z2, .int .i64 z3, .slice (some ⟨g, 0, none⟩) n c], .agg #[.int .i64 u0, .int .i64 u1, .int .i64 u2]] W fun e w' => e = .returned (.bool (insB z1 z2 z3 n u0 u1 u2)) ∧ Below W.heap.size W w') := fun W => HI.out u0 u1 u2 W
      generalize insB z1 z2 z3 n u0 u1 u2 = V at *
      clear hcs HR
      go_wp2_with fail
      go_upto_region 6 with fail
      go_cut [56] (fun r wx => r = .bool (!V) ∧ Hid (BxM w wx #[.int .i64 z0, .int .i64 z1, .int .i64 z2, .int .i64 z3, .slice (some ⟨g, 0, none⟩) n c]))
      case first =>
        go_region_held3 (fun W => W.cell? ⟨w.heap.size, 0, none⟩ = some (.int .i64 z0) ∧ W.cell? ⟨w.heap.size, 1, none⟩ = some (.int .i64 z1) ∧ W.cell? ⟨w.heap.size, 2, none⟩ = some (.int .i64 z2) ∧ W.cell? ⟨w.heap.size, 3, none⟩ = some (.int .i64 z3) ∧ W.cell? ⟨w.heap.size, 4, none⟩ = some (.slice (some ⟨g, 0, none⟩) n c) ∧ W.cell? ⟨g, k * 3, none⟩ = some (.int .i64 u0) ∧ W.cell? ⟨g, k * 3 + 1, none⟩ = some (.int .i64 u1) ∧ W.cell? ⟨g, k * 3 + 2, none⟩ = some (.int .i64 u2)) (go_keep) (first | (go_at_call 23; refine (HI2.out _).mono ?_; rintro e w2 ⟨rfl, hb2⟩; have Y : BxM w w2 #[.int .i64 z0, .int .i64 z1, .int .i64 z2, .int .i64 z3, .slice (some ⟨g, 0, none⟩) n c] := (by first | exact HB.out.next hb2 | exact (HB.out.next ((Below.refl _ _).drew)).next hb2); have x0 : w2.cell? ⟨w.heap.size, 0, none⟩ = some (.int .i64 z0) := Y.cell 0; have x1 : w2.cell? ⟨w.heap.size, 1, none⟩ = some (.int .i64 z1) := Y.cell 1; have x2 : w2.cell? ⟨w.heap.size, 2, none⟩ = some (.int .i64 z2) := Y.cell 2; have x3 : w2.cell? ⟨w.heap.size, 3, none⟩ = some (.int .i64 z3) := Y.cell 3; have x4 : w2.cell? ⟨w.heap.size, 4, none⟩ = some (.slice (some ⟨g, 0, none⟩) n c) := Y.cell 4; have f0 : w2.cell? ⟨g, k * 3, none⟩ = some (.int .i64 u0) := (hb2.cell (p := ⟨g, k * 3, none⟩) (by first | exact hg | simpa using hg)).trans (by go_keep); have f1 : w2.cell? ⟨g, k * 3 + 1, none⟩ = some (.int .i64 u1) := (hb2.cell (p := ⟨g, k * 3 + 1, none⟩) (by first | exact hg | simpa using hg)).trans (by go_keep); have f2 : w2.cell? ⟨g, k * 3 + 2, none⟩ = some (.int .i64 u2) := (hb2.cell (p := ⟨g, k * 3 + 2, none⟩) (by first | exact hg | simpa using hg)).trans (by go_keep)))
        all_goals go_wp2_with fail
        all_goals go_meet
        all_goals first
          | exact ⟨rfl, Y⟩
          | exact ⟨rfl, Y.next ((Below.refl _ _).drew)⟩
      case rest =>
        obtain ⟨rfl, HB2⟩ := hcut
        clear HB y0 y1 y2 y3 y4 c0 c1 c2 HI2
        cases V
        · have HR : Hid (ModOut z0 z1 z2 z3 n L w (.returned (.bool false)) wc) := HOUT.out _ HB2.out.bel (HN.out rfl)
          go_wp2_with fail
          go_ret
          exact HR.out
        · have HR3 : Hid (∀ j, j < k + 1 → insB z1 z2 z3 n (L j).o (L j).a (L j).b = true) := HR2.out rfl
          go_wp2_with fail
          go_roundw
          case rel => exact ⟨k + 1, by go_num, by omega, HR3, HB2⟩
          case measure => simp [intOf]; omega
    · have q0 : decide (k < n) = false := by simpa using hkn
      have q1 : decide ((k : Int) < (n : Int)) = false := by simpa using hkn
      obtain rfl : n = k := by omega
      have HC : Hid (codeB z1 z2 z3 n L = true) := codeB_yes (by omega) (by omega) HR.out
      have HH2 := HH.out (by omega) (by omega) HR.out _ HB.out.bel
      have HH2 : Hid (Calls Tryd.prog 24 _ _ _) := HH2
      clear HH HR
      go_wp2_with fail
      refine HH2.out.mono ?_
      rintro e w2 ⟨H, lv, b, rfl, _, _, hb, hG⟩
      have HB2 : Hid (BxM w w2 #[.int .i64 z0, .int .i64 z1, .int .i64 z2, .int .i64 z3, .slice (some ⟨g, 0, none⟩) n c]) := HB.out.next hb
      cases b
      · have hg0 : ¬ Good L n := by simpa using hG
        have HR : Hid (ModOut z0 z1 z2 z3 n L w (.returned (.bool false)) w2) := HOUT.out _ HB2.out.bel (fun h => hg0 h.2.2)
        clear hG hb hg0 HH2 HB
        go_wp2_with fail
        go_ret
        exact HR.out
      · have hg0 : Good L n := by rw [if_pos rfl] at hG; exact hG.good
        have HR : Hid (ModOut z0 z1 z2 z3 n L w (.returned (.bool true)) w2) := ⟨true, rfl, ⟨fun _ => HP.out.2 ⟨rfl, HC.out, hg0⟩, fun _ => rfl⟩, HB2.out.bel⟩
        clear hG hb hg0 HH2 HB
        go_wp2_with fail
        go_ret
        exact HR.out
/-- The heights that are handed back: as many as there are places, or none. -/
def HgtOut (z0 z1 z2 z3 : Int) (n : Nat) (L : Nat → In) (w : World) (e : Ending) (w' : World) : Prop := ∃ (g : Option Addr) (m cap : Nat) (lv : Nat → Int), e = .returned (.slice g m cap) ∧ OwnR w' g m 1 (numF lv) ∧ (∀ k, g.map Addr.block = some k → w.heap.size ≤ k ∧ k < w'.heap.size) ∧ Below w.heap.size w w' ∧ ((ModP z0 z1 z2 z3 n L ∧ m = n ∧ HgtIs L n lv) ∨ (¬ ModP z0 z1 z2 z3 n L ∧ m = 0))
end Go.Proofs.YtdbahildcecgbaaDoor
