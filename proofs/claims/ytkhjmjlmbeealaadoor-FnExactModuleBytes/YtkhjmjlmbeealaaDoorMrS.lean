/- Right modules and their heights: what the model's calls and the program's HeightsOf answer. -/
import Derived.Test.YtkhjmjlmbeealaaDoorSpH
namespace Go.Proofs.YtkhjmjlmbeealaaDoor
open Go.RowKit
open Go.Proofs.YtkhjmjlmbeealaaDoor.Draw

set_option maxRecDepth 100000 in
set_option maxHeartbeats 32000000 in
theorem spec_modRight (z0 z1 z2 z3 : Int) (g n c : Nat) (hn : n ≤ 9223372036854775807) (L : Nat → In) (w : World) (hA : InsAt w (some ⟨g, 0, none⟩) n L) :
    Calls Tryd.prog 25 #[.agg #[.int .i64 z0, .int .i64 z1, .int .i64 z2, .int .i64 z3, .slice (some ⟨g, 0, none⟩) n c]] w (ModOut z0 z1 z2 z3 n L w) := by
  have HX : Hid (BxM w (w.alloc (.cells #[.int .i64 z0, .int .i64 z1, .int .i64 z2, .int .i64 z3, .slice (some ⟨g, 0, none⟩) n c] 36)) #[.int .i64 z0, .int .i64 z1, .int .i64 z2, .int .i64 z3, .slice (some ⟨g, 0, none⟩) n c]) := BxM.new _ _ _
  have HA : Hid (InsAt w (some ⟨g, 0, none⟩) n L) := hA
  have HI : Hid (∀ (o u v : Int) (W : World), Calls Tryd.prog 14 #[.agg #[.int .i64 z0, .int .i64 z1, .int .i64 z2, .int .i64 z3, .slice (some ⟨g, 0, none⟩) n c], .agg #[.int .i64 o, .int .i64 u, .int .i64 v]] W fun e w' => e = .returned (.bool (insB z1 z2 z3 n o u v)) ∧ Below W.heap.size W w') := fun o u v W => spec_insRight z0 z1 z2 z3 (some ⟨g, 0, none⟩) n c hn o u v W
  have HH : Hid (1 ≤ n → n ≤ 2000 → (∀ j, j < n → insB z1 z2 z3 n (L j).o (L j).a (L j).b = true) → ∀ W, Below w.heap.size w W → Calls Tryd.prog 44 #[.agg #[.int .i64 z0, .int .i64 z1, .int .i64 z2, .int .i64 z3, .slice (some ⟨g, 0, none⟩) n c]] W (SpOut L n W)) := fun h1 h2 h3 W hb => spec_heights z0 z1 z2 z3 g 0 n c h2 h1 L W (hA.below hb) h3
  have HP : Hid (ModP z0 z1 z2 z3 n L ↔ (inB z0 1 3 && (inB z1 1 6 && (inB z2 z1 10 && inB z3 0 8))) = true ∧ codeB z1 z2 z3 n L = true ∧ Good L n) := Iff.rfl
  have H0 : Hid (∀ W, Calls Tryd.prog 40 #[.int .i64 z0, .int .i64 1, .int .i64 3] W fun e w' => e = .returned (.bool (inB z0 1 3)) ∧ w' = W) := fun W => spec_in10 z0 1 3 W
  have H1 : Hid (∀ W, Calls Tryd.prog 40 #[.int .i64 z1, .int .i64 1, .int .i64 6] W fun e w' => e = .returned (.bool (inB z1 1 6)) ∧ w' = W) := fun W => spec_in10 z1 1 6 W
  have H2 : Hid (∀ W, Calls Tryd.prog 40 #[.int .i64 z2, .int .i64 z1, .int .i64 10] W fun e w' => e = .returned (.bool (inB z2 z1 10)) ∧ w' = W) := fun W => spec_in10 z2 z1 10 W
  have H3 : Hid (∀ W, Calls Tryd.prog 40 #[.int .i64 z3, .int .i64 0, .int .i64 8] W fun e w' => e = .returned (.bool (inB z3 0 8)) ∧ w' = W) := fun W => spec_in10 z3 0 8 W
  have HNO : Hid ((codeB z1 z2 z3 n L = false) → ¬ ModP z0 z1 z2 z3 n L) := fun e h => by have := h.2.1; rw [e] at this; cases this
  have HOUT : Hid (∀ W, Below w.heap.size w W → ¬ ModP z0 z1 z2 z3 n L → ModOut z0 z1 z2 z3 n L w (.returned (.bool false)) W) := fun W hb h => ⟨false, rfl, ⟨fun e => (by cases e), fun e => absurd e h⟩, hb⟩
  clear hA
  generalize inB z0 1 3 = b0 at *
  generalize inB z1 1 6 = b1 at *
  generalize inB z2 z1 10 = b2 at *
  generalize inB z3 0 8 = b3 at *
  go_enter Tryd.func25, Tryd.ntmps25
  go_wp2_with fail
  refine (H0.out _).mono ?_
  rintro e w1 ⟨rfl, rfl⟩
  clear H0
  cases b0
  · have HR : Hid (ModOut z0 z1 z2 z3 n L w (.returned (.bool false)) (w.alloc (.cells #[.int .i64 z0, .int .i64 z1, .int .i64 z2, .int .i64 z3, .slice (some ⟨g, 0, none⟩) n c] 36))) := HOUT.out _ HX.out.bel (fun h => by have := (HP.out.1 h).1; simp at this)
    go_wp2_with fail
    go_ret
    exact HR.out
  go_wp2_with fail
  refine (H1.out _).mono ?_
  rintro e w1 ⟨rfl, rfl⟩
  clear H1
  cases b1
  · have HR : Hid (ModOut z0 z1 z2 z3 n L w (.returned (.bool false)) (w.alloc (.cells #[.int .i64 z0, .int .i64 z1, .int .i64 z2, .int .i64 z3, .slice (some ⟨g, 0, none⟩) n c] 36))) := HOUT.out _ HX.out.bel (fun h => by have := (HP.out.1 h).1; simp at this)
    go_wp2_with fail
    go_ret
    exact HR.out
  go_wp2_with fail
  refine (H2.out _).mono ?_
  rintro e w1 ⟨rfl, rfl⟩
  clear H2
  cases b2
  · have HR : Hid (ModOut z0 z1 z2 z3 n L w (.returned (.bool false)) (w.alloc (.cells #[.int .i64 z0, .int .i64 z1, .int .i64 z2, .int .i64 z3, .slice (some ⟨g, 0, none⟩) n c] 36))) := HOUT.out _ HX.out.bel (fun h => by have := (HP.out.1 h).1; simp at this)
    go_wp2_with fail
    go_ret
    exact HR.out
  go_wp2_with fail
  refine (H3.out _).mono ?_
  rintro e w1 ⟨rfl, rfl⟩
  clear H3
  cases b3
  · have HR : Hid (ModOut z0 z1 z2 z3 n L w (.returned (.bool false)) (w.alloc (.cells #[.int .i64 z0, .int .i64 z1, .int .i64 z2, .int .i64 z3, .slice (some ⟨g, 0, none⟩) n c] 36))) := HOUT.out _ HX.out.bel (fun h => by have := (HP.out.1 h).1; simp at this)
    go_wp2_with fail
    go_ret
    exact HR.out
  by_cases h1 : n < 1
  · have p1 : decide (n < 1) = true := by simpa using h1
    have p1' : decide ((n : Int) < 1) = true := by simp; omega
    have HR : Hid (ModOut z0 z1 z2 z3 n L w (.returned (.bool false)) (w.alloc (.cells #[.int .i64 z0, .int .i64 z1, .int .i64 z2, .int .i64 z3, .slice (some ⟨g, 0, none⟩) n c] 36))) := HOUT.out _ HX.out.bel (HNO.out (codeB_len (Or.inl h1)))
    go_wp2_with fail
    go_ret
    exact HR.out
  have p1 : decide (n < 1) = false := by simpa using h1
  have p1' : decide ((n : Int) < 1) = false := by simp; omega
  by_cases h2 : 2000 < n
  · have p2 : decide (2000 < n) = true := by simpa using h2
    have p2' : decide ((2000 : Int) < (n : Int)) = true := by simp; omega
    have HR : Hid (ModOut z0 z1 z2 z3 n L w (.returned (.bool false)) (w.alloc (.cells #[.int .i64 z0, .int .i64 z1, .int .i64 z2, .int .i64 z3, .slice (some ⟨g, 0, none⟩) n c] 36))) := HOUT.out _ HX.out.bel (HNO.out (codeB_len (Or.inr h2)))
    go_wp2_with fail
    go_ret
    exact HR.out
  have p2 : decide (2000 < n) = false := by simpa using h2
  have p2' : decide ((2000 : Int) < (n : Int)) = false := by simp; omega
  go_wp2_with fail
  go_loopw [3] (fun i wr => ∃ k : Nat, i = .int .i64 (k : Int) ∧ k ≤ n ∧ Hid (∀ j, j < k → insB z1 z2 z3 n (L j).o (L j).a (L j).b = true) ∧ Hid (BxM w wr #[.int .i64 z0, .int .i64 z1, .int .i64 z2, .int .i64 z3, .slice (some ⟨g, 0, none⟩) n c])) (fun i _ => n - (intOf i).toNat)
  case atStart => exact ⟨0, rfl, by omega, fun j hj => by omega, HX⟩
  case round =>
    obtain ⟨k, rfl, hk, HR, HB⟩ := hrel
    have ybl := HB.out.lt
    have y0 := HB.out.cell 0
    have y1 := HB.out.cell 1
    have y2 := HB.out.cell 2
    have y3 := HB.out.cell 3
    have y4 := HB.out.cell 4
    simp at y0 y1 y2 y3 y4
    by_cases hkn : k < n
    · have q0 : decide (k < n) = true := by simpa using hkn
      have q1 : decide ((k : Int) < (n : Int)) = true := by simpa using hkn
      rcases HA.out.below HB.out.bel with h0 | ⟨g2, o2, hgg, hg, hcs⟩
      · omega
      simp at hgg
      obtain ⟨rfl, rfl⟩ := hgg
      obtain ⟨c0, c1, c2⟩ := hcs k hkn
      rw [Nat.zero_add] at c0 c1 c2
      have HR2 : Hid (insB z1 z2 z3 n (L k).o (L k).a (L k).b = true → ∀ j, j < k + 1 → insB z1 z2 z3 n (L j).o (L j).a (L j).b = true) := fun e j hj => by
        by_cases e' : j = k
        · rw [e']; exact e
        · exact HR.out j (by omega)
      have HN : Hid (insB z1 z2 z3 n (L k).o (L k).a (L k).b = false → ¬ ModP z0 z1 z2 z3 n L) := fun e => HNO.out (codeB_no hkn e)
      generalize (L k).o = u0 at *
      generalize (L k).a = u1 at *
      generalize (L k).b = u2 at *
      have HI2 : Hid (∀ W, Calls Tryd.prog 14 #[.agg #[.int .i64 z0, .int .i64 z1, .int .i64 z2, .int .i64 z3, .slice (some ⟨g, 0, none⟩) n c], .agg #[.int .i64 u0, .int .i64 u1, .int .i64 u2]] W fun e w' => e = .returned (.bool (insB z1 z2 z3 n u0 u1 u2)) ∧ Below W.heap.size W w') := fun W => HI.out u0 u1 u2 W
      generalize insB z1 z2 z3 n u0 u1 u2 = V at *
      clear hcs HR
      go_wp2_with fail
      go_upto_region 6 with fail
      go_cut [56] (fun r wx => r = .bool (!V) ∧ Hid (BxM w wx #[.int .i64 z0, .int .i64 z1, .int .i64 z2, .int .i64 z3, .slice (some ⟨g, 0, none⟩) n c]))
      case first =>
        go_region_held3 (fun W => W.cell? ⟨w.heap.size, 0, none⟩ = some (.int .i64 z0) ∧ W.cell? ⟨w.heap.size, 1, none⟩ = some (.int .i64 z1) ∧ W.cell? ⟨w.heap.size, 2, none⟩ = some (.int .i64 z2) ∧ W.cell? ⟨w.heap.size, 3, none⟩ = some (.int .i64 z3) ∧ W.cell? ⟨w.heap.size, 4, none⟩ = some (.slice (some ⟨g, 0, none⟩) n c) ∧ W.cell? ⟨g, k * 3, none⟩ = some (.int .i64 u0) ∧ W.cell? ⟨g, k * 3 + 1, none⟩ = some (.int .i64 u1) ∧ W.cell? ⟨g, k * 3 + 2, none⟩ = some (.int .i64 u2)) (go_keep) (first | (go_at_call 14; refine (HI2.out _).mono ?_; rintro e w2 ⟨rfl, hb2⟩; have Y : BxM w w2 #[.int .i64 z0, .int .i64 z1, .int .i64 z2, .int .i64 z3, .slice (some ⟨g, 0, none⟩) n c] := (by first | exact HB.out.next hb2 | exact (HB.out.next ((Below.refl _ _).drew)).next hb2); have x0 : w2.cell? ⟨w.heap.size, 0, none⟩ = some (.int .i64 z0) := Y.cell 0; have x1 : w2.cell? ⟨w.heap.size, 1, none⟩ = some (.int .i64 z1) := Y.cell 1; have x2 : w2.cell? ⟨w.heap.size, 2, none⟩ = some (.int .i64 z2) := Y.cell 2; have x3 : w2.cell? ⟨w.heap.size, 3, none⟩ = some (.int .i64 z3) := Y.cell 3; have x4 : w2.cell? ⟨w.heap.size, 4, none⟩ = some (.slice (some ⟨g, 0, none⟩) n c) := Y.cell 4; have f0 : w2.cell? ⟨g, k * 3, none⟩ = some (.int .i64 u0) := (hb2.cell (p := ⟨g, k * 3, none⟩) (by first | exact hg | simpa using hg)).trans (by go_keep); have f1 : w2.cell? ⟨g, k * 3 + 1, none⟩ = some (.int .i64 u1) := (hb2.cell (p := ⟨g, k * 3 + 1, none⟩) (by first | exact hg | simpa using hg)).trans (by go_keep); have f2 : w2.cell? ⟨g, k * 3 + 2, none⟩ = some (.int .i64 u2) := (hb2.cell (p := ⟨g, k * 3 + 2, none⟩) (by first | exact hg | simpa using hg)).trans (by go_keep)))
        all_goals go_wp2_with fail
        all_goals go_meet
        all_goals first
          | exact ⟨rfl, Y⟩
          | exact ⟨rfl, Y.next ((Below.refl _ _).drew)⟩
      case rest =>
        obtain ⟨rfl, HB2⟩ := hcut
        clear HB y0 y1 y2 y3 y4 c0 c1 c2 HI2
        cases V
        · have HR : Hid (ModOut z0 z1 z2 z3 n L w (.returned (.bool false)) wc) := HOUT.out _ HB2.out.bel (HN.out rfl)
          go_wp2_with fail
          go_ret
          exact HR.out
        · have HR3 : Hid (∀ j, j < k + 1 → insB z1 z2 z3 n (L j).o (L j).a (L j).b = true) := HR2.out rfl
          go_wp2_with fail
          go_roundw
          case rel => exact ⟨k + 1, by go_num, by omega, HR3, HB2⟩
          case measure => simp [intOf]; omega
    · have q0 : decide (k < n) = false := by simpa using hkn
      have q1 : decide ((k : Int) < (n : Int)) = false := by simpa using hkn
      obtain rfl : n = k := by omega
      have HC : Hid (codeB z1 z2 z3 n L = true) := codeB_yes (by omega) (by omega) HR.out
      have HH2 := HH.out (by omega) (by omega) HR.out _ HB.out.bel
      have HH2 : Hid (Calls Tryd.prog 44 _ _ _) := HH2
      clear HH HR
      go_wp2_with fail
      refine HH2.out.mono ?_
      rintro e w2 ⟨H, lv, b, rfl, _, _, hb, hG⟩
      have HB2 : Hid (BxM w w2 #[.int .i64 z0, .int .i64 z1, .int .i64 z2, .int .i64 z3, .slice (some ⟨g, 0, none⟩) n c]) := HB.out.next hb
      cases b
      · have hg0 : ¬ Good L n := by simpa using hG
        have HR : Hid (ModOut z0 z1 z2 z3 n L w (.returned (.bool false)) w2) := HOUT.out _ HB2.out.bel (fun h => hg0 h.2.2)
        clear hG hb hg0 HH2 HB
        go_wp2_with fail
        go_ret
        exact HR.out
      · have hg0 : Good L n := by rw [if_pos rfl] at hG; exact hG.good
        have HR : Hid (ModOut z0 z1 z2 z3 n L w (.returned (.bool true)) w2) := ⟨true, rfl, ⟨fun _ => HP.out.2 ⟨rfl, HC.out, hg0⟩, fun _ => rfl⟩, HB2.out.bel⟩
        clear hG hb hg0 HH2 HB
        go_wp2_with fail
        go_ret
        exact HR.out
/-- The heights that are handed back: as many as there are places, or none. -/
def HgtOut (z0 z1 z2 z3 : Int) (n : Nat) (L : Nat → In) (w : World) (e : Ending) (w' : World) : Prop := ∃ (g : Option Addr) (m cap : Nat) (lv : Nat → Int), e = .returned (.slice g m cap) ∧ OwnR w' g m 1 (numF lv) ∧ (∀ k, g.map Addr.block = some k → w.heap.size ≤ k ∧ k < w'.heap.size) ∧ Below w.heap.size w w' ∧ ((ModP z0 z1 z2 z3 n L ∧ m = n ∧ HgtIs L n lv) ∨ (¬ ModP z0 z1 z2 z3 n L ∧ m = 0))
set_option maxRecDepth 100000 in
set_option maxHeartbeats 32000000 in
theorem spec_heightsOf (z0 z1 z2 z3 : Int) (g n c : Nat) (hn : n ≤ 9223372036854775807) (L : Nat → In) (w : World) (hA : InsAt w (some ⟨g, 0, none⟩) n L) :
    Calls Tryd.prog 19 #[.agg #[.int .i64 z0, .int .i64 z1, .int .i64 z2, .int .i64 z3, .slice (some ⟨g, 0, none⟩) n c]] w (HgtOut z0 z1 z2 z3 n L w) := by
  have HX : Hid (BxM w (w.alloc (.cells #[.int .i64 z0, .int .i64 z1, .int .i64 z2, .int .i64 z3, .slice (some ⟨g, 0, none⟩) n c] 36)) #[.int .i64 z0, .int .i64 z1, .int .i64 z2, .int .i64 z3, .slice (some ⟨g, 0, none⟩) n c]) := BxM.new _ _ _
  have HM := spec_modRight z0 z1 z2 z3 g n c hn L (w.alloc (.cells #[.int .i64 z0, .int .i64 z1, .int .i64 z2, .int .i64 z3, .slice (some ⟨g, 0, none⟩) n c] 36)) (hA.below ((Below.refl _ _).alloc (Nat.le_refl _) _))
  have HM : Hid (Calls Tryd.prog 25 _ _ _) := HM
  have HH : Hid (ModP z0 z1 z2 z3 n L → ∀ W, Below w.heap.size w W → Calls Tryd.prog 44 #[.agg #[.int .i64 z0, .int .i64 z1, .int .i64 z2, .int .i64 z3, .slice (some ⟨g, 0, none⟩) n c]] W (SpOut L n W)) := fun h W hb => spec_heights z0 z1 z2 z3 g 0 n c (codeB_of h.2.1).2.1 (codeB_of h.2.1).1 L W (hA.below hb) (codeB_of h.2.1).2.2
  clear hA
  go_enter Tryd.func19, Tryd.ntmps19
  go_wp2_with fail
  refine HM.out.mono ?_
  rintro e w1 ⟨b, rfl, hb, hbl⟩
  have HB1 : Hid (BxM w w1 #[.int .i64 z0, .int .i64 z1, .int .i64 z2, .int .i64 z3, .slice (some ⟨g, 0, none⟩) n c]) := HX.out.next hbl
  clear hbl HM HX
  have y0 := HB1.out.cell 0
  have y1 := HB1.out.cell 1
  have y2 := HB1.out.cell 2
  have y3 := HB1.out.cell 3
  have y4 := HB1.out.cell 4
  simp at y0 y1 y2 y3 y4
  cases b
  · have hno : ¬ ModP z0 z1 z2 z3 n L := fun h => by have := hb.2 h; cases this
    have hal : Below w1.heap.size w1 (w1.alloc (.cells #[] 2)) := (Below.refl _ _).alloc (Nat.le_refl _) _
    have HR : Hid (HgtOut z0 z1 z2 z3 n L w (.returned (.slice (some ⟨w1.heap.size, 0, none⟩) 0 0)) (w1.alloc (.cells #[] 2))) := ⟨_, _, _, fun _ => 0, rfl, Or.inl rfl, fun k e => by simp at e; subst e; exact ⟨HB1.out.bel.size, by simp⟩, HB1.out.bel.trans (hal.mono HB1.out.bel.size), Or.inr ⟨hno, rfl⟩⟩
    clear hb hno hal
    go_wp2_with fail
    go_ret
    exact HR.out
  · have hyes : ModP z0 z1 z2 z3 n L := hb.1 rfl
    have HY : Hid (ModP z0 z1 z2 z3 n L) := hyes
    have HH2 := HH.out hyes w1 HB1.out.bel
    have HH2 : Hid (Calls Tryd.prog 44 _ _ _) := HH2
    clear hb hyes HH
    go_wp2_with fail
    refine HH2.out.mono ?_
    rintro e w2 ⟨H, lv, b, rfl, hH, hO, hb, hG⟩
    have hbb : b = true := by
      cases b
      · exact absurd HY.out.2.2 (by simpa using hG)
      · rfl
    subst hbb
    have HR : Hid (HgtOut z0 z1 z2 z3 n L w (.returned (.slice (some ⟨H, 0, none⟩) n n)) w2) := ⟨_, _, _, lv, rfl, hO.nums, fun k e => by simp at e; subst e; exact ⟨by have := HB1.out.bel.size; omega, hO.1⟩, HB1.out.bel.trans (hb.mono HB1.out.bel.size), Or.inl ⟨HY.out, rfl, by rw [if_pos rfl] at hG; exact hG.hgts⟩⟩
    clear hO hb hG HH2
    go_wp2_with fail
    go_ret
    exact HR.out
set_option maxRecDepth 100000 in
set_option maxHeartbeats 32000000 in
theorem impl_heightsOf (z0 z1 z2 z3 : Int) (g n c : Nat) (hn : n ≤ 9223372036854775807) (L : Nat → In) (w : World) (hF : FunW w) (hS : ShaW w) (hA : InsAt w (some ⟨g, 0, none⟩) n L) :
    Calls Tryd.prog 20 #[.agg #[.int .i64 z0, .int .i64 z1, .int .i64 z2, .int .i64 z3, .slice (some ⟨g, 0, none⟩) n c]] w (HgtOut z0 z1 z2 z3 n L w) := by
  have HX : Hid (BxM w (w.alloc (.cells #[.int .i64 z0, .int .i64 z1, .int .i64 z2, .int .i64 z3, .slice (some ⟨g, 0, none⟩) n c] 36)) #[.int .i64 z0, .int .i64 z1, .int .i64 z2, .int .i64 z3, .slice (some ⟨g, 0, none⟩) n c]) := BxM.new _ _ _
  have hal : Below w.heap.size w (w.alloc (.cells #[.int .i64 z0, .int .i64 z1, .int .i64 z2, .int .i64 z3, .slice (some ⟨g, 0, none⟩) n c] 36)) := (Below.refl _ _).alloc (Nat.le_refl _) _
  have HM := impl_modRight z0 z1 z2 z3 (some ⟨g, 0, none⟩) n c hn L (w.alloc (.cells #[.int .i64 z0, .int .i64 z1, .int .i64 z2, .int .i64 z3, .slice (some ⟨g, 0, none⟩) n c] 36)) (hF.below hal) (hS.below hal) (hA.below hal)
  have HM : Hid (Calls Tryd.prog 26 _ _ _) := HM
  have HH : Hid (ModP z0 z1 z2 z3 n L → ∀ W, Below w.heap.size w W → Calls Tryd.prog 45 #[.agg #[.int .i64 z0, .int .i64 z1, .int .i64 z2, .int .i64 z3, .slice (some ⟨g, 0, none⟩) n c]] W (LvsOut L n W)) := fun h W hb => impl_levels z0 z1 z2 z3 (some ⟨g, 0, none⟩) n c (codeB_of h.2.1).2.1 (codeB_of h.2.1).1 L W (hA.below hb) (hF.below hb) (hS.below hb) (codeB_of h.2.1).2.2
  have HNB : Hid (ModP z0 z1 z2 z3 n L → n ≤ 2000) := fun h => (codeB_of h.2.1).2.1
  clear hA hF hS hal
  go_enter Tryd.func20, Tryd.ntmps20
  go_wp2_with fail
  refine HM.out.mono ?_
  rintro e w1 ⟨b, rfl, hb, hbl⟩
  have HB1 : Hid (BxM w w1 #[.int .i64 z0, .int .i64 z1, .int .i64 z2, .int .i64 z3, .slice (some ⟨g, 0, none⟩) n c]) := HX.out.next hbl
  clear hbl HM HX
  have y0 := HB1.out.cell 0
  have y1 := HB1.out.cell 1
  have y2 := HB1.out.cell 2
  have y3 := HB1.out.cell 3
  have y4 := HB1.out.cell 4
  simp at y0 y1 y2 y3 y4
  cases b
  · have hno : ¬ ModP z0 z1 z2 z3 n L := fun h => by have := hb.2 h; cases this
    have HR : Hid (HgtOut z0 z1 z2 z3 n L w (.returned (.slice none 0 0)) w1) := ⟨_, _, _, fun _ => 0, rfl, Or.inl rfl, fun k e => by simp at e, HB1.out.bel, Or.inr ⟨hno, rfl⟩⟩
    clear hb hno
    go_wp2_with fail
    go_ret
    exact HR.out
  · have hyes : ModP z0 z1 z2 z3 n L := hb.1 rfl
    have HY : Hid (ModP z0 z1 z2 z3 n L) := hyes
    have HH2 := HH.out hyes w1 HB1.out.bel
    have HH2 : Hid (Calls Tryd.prog 45 _ _ _) := HH2
    have hn2 := HNB.out hyes
    clear hb hyes HH HNB
    go_wp2_with fail
    refine HH2.out.mono ?_
    rintro e w2 ⟨H, lv, rfl, hH, hO, hb, hG⟩
    have hG1 : Climb L n lv (fun _ => False) := by
      rcases hG with hG | ⟨hG, _⟩
      · exact hG
      · exact absurd HY.out.2.2 hG
    have HG : Hid (HgtIs L n lv) := hG1.hgts
    have HE : Hid (w.heap.size ≤ H ∧ Below w.heap.size w w2) := ⟨by have := HB1.out.bel.size; omega, HB1.out.bel.trans (hb.mono HB1.out.bel.size)⟩
    have HO : Hid (Own w2 H n (levF lv)) := hO
    have HLB : Hid (∀ k, k < n → -1 ≤ lv k ∧ lv k ≤ 60) := fun k hk => by
      have a1 := hG1.low k hk
      refine ⟨a1, ?_⟩
      rcases (by omega : lv k = -1 ∨ 0 ≤ lv k) with e | e
      · omega
      · exact (hG1.sound k hk e).2
    clear hO hb hG hG1 HH2 HB1 y0 y1 y2 y3 y4
    go_wp2_with fail
    go_loopw [12] (fun i wr => ∃ k : Nat, i = .int .i64 (k : Int) ∧ k ≤ n ∧ Hid (Own wr H n (fun j => if j < k then numF lv j else levF lv j)) ∧ Hid (w.heap.size ≤ H ∧ Below w.heap.size w wr)) (fun i _ => n - (intOf i).toNat)
    case atStart => exact ⟨0, rfl, by omega, HO.out.congr (fun j _ => by rw [if_neg (by omega)]), HE⟩
    case round =>
      obtain ⟨k, rfl, hk, HOr, HEr⟩ := hrel
      by_cases hkn : k < n
      · have q0 : decide (k < n) = true := by simpa using hkn
        have q1 : decide ((k : Int) < (n : Int)) = true := by simpa using hkn
        have a0 := HOr.out.2.1 k hkn
        simp only [show ¬ k < k by omega, if_false] at a0
        rw [show levF lv k = .int .i64 (lv k + 1) from rfl] at a0
        have hf := HOr.out.2.2 k
        have hbd := HLB.out k hkn
        have hw : IntKind.i64.wrap (lv k + 1 - 1) = lv k := by rw [IntWalk.i64_in _ (by omega)]; omega
        have HO2 : Hid (Own (wr.setCell ⟨H, k, none⟩ (.int .i64 (lv k))) H n (fun j => if j < k + 1 then numF lv j else levF lv j)) := (HOr.out.set hkn (.int .i64 (lv k))).congr (fun j _ => by
          by_cases e : j = k
          · subst e; rw [if_pos rfl, if_pos (by omega)]; rfl
          · rw [if_neg e]
            by_cases e2 : j < k
            · rw [if_pos e2, if_pos (by omega)]
            · rw [if_neg e2, if_neg (by omega)])
        have HE2 : Hid (w.heap.size ≤ H ∧ Below w.heap.size w (wr.setCell ⟨H, k, none⟩ (.int .i64 (lv k)))) := ⟨HEr.out.1, HEr.out.2.setCell HEr.out.1 _⟩
        obtain ⟨z, hz⟩ : ∃ z, z = lv k + 1 := ⟨_, rfl⟩
        rw [← hz] at a0 hw
        generalize lv k = zk at *
        clear hz hbd HOr HEr
        go_wp2_with fail
        go_roundw
        case rel => exact ⟨k + 1, by go_num, by omega, HO2, HE2⟩
        case measure => simp [intOf]; omega
      · have q0 : decide (k < n) = false := by simpa using hkn
        have q1 : decide ((k : Int) < (n : Int)) = false := by simpa using hkn
        obtain rfl : n = k := by omega
        have hO2 : Own wr H n (numF lv) := HOr.out.congr (fun j hj => by rw [if_pos hj])
        have HR : Hid (HgtOut z0 z1 z2 z3 n L w (.returned (.slice (some ⟨H, 0, none⟩) n n)) wr) := ⟨_, _, _, lv, rfl, hO2.nums, fun k e => by simp at e; subst e; exact ⟨HEr.out.1, hO2.1⟩, HEr.out.2, Or.inl ⟨HY.out, rfl, HG.out⟩⟩
        clear hO2 HOr HEr
        go_wp2_with fail
        go_ret
        exact HR.out
end Go.Proofs.YtkhjmjlmbeealaaDoor
