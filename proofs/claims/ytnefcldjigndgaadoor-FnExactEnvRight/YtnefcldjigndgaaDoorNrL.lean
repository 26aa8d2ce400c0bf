/- Is a list of nodes right as a hook: what the model and the program do; the law. -/
import Derived.Test.YtnefcldjigndgaaDoorNrV
namespace Go.Proofs.YtnefcldjigndgaaDoor
open Go.RowKit Go.Maps
open Go.Proofs.YtnefcldjigndgaaDoor.Draw

theorem right_big {L : Nat → Nd} {n : Nat} (h : ¬ n ≤ 150) : rightT L n = false := by unfold rightT; rw [decide_eq_false h]; rfl
theorem right_none {L : Nat → Nd} {n : Nat} (h : treeT L n 20 0 3 = none) : rightT L n = false := by unfold rightT; rw [h]; simp
theorem right_some {L : Nat → Nd} {n b : Nat} (hn : n ≤ 150) (h : treeT L n 20 0 3 = some b) : rightT L n = decide (b = n) := by unfold rightT; rw [h, decide_eq_true hn]; simp
set_option maxRecDepth 100000 in
set_option maxHeartbeats 8000000 in
theorem spec_nodesRight (a : Option Addr) (n cap : Nat) (L : Nat → Nd) (hn : n ≤ 1048576) (hsm : ∀ i, i < n → (L i).small) (w : World) (h : NodesAt w a n L) :
    Calls Tryd.prog 10 #[.slice a n cap] w fun e w' => e = .returned (.bool (rightT L n)) ∧ Below w.heap.size w w' := by
  by_cases h1 : n ≤ 150
  · have q0 : decide (n ≤ 150) = true := by simpa using h1
    have q1 : decide ((n : Int) ≤ 150) = true := by simp; omega
    have HT : Hid (Calls Tryd.prog 29 #[.slice a n cap, .int .i64 0, .int .i64 3, .int .i64 1] w fun e w' => e = .returned (.int .i64 (outV (treeT L n 20 0 3))) ∧ Below w.heap.size w w') := spec_tree L n a cap h1 hsm 20 (by omega) 0 3 (by omega) (by omega) w h
    obtain ⟨r, hr⟩ : ∃ r, r = treeT L n 20 0 3 := ⟨_, rfl⟩
    rw [← hr] at HT
    cases r with
    | none =>
      have HG : Hid (rightT L n = false) := right_none hr.symm
      have qz : ((-1 : Int) == (n : Int)) = false := beq_eq_false_iff_ne.2 (by omega)
      have ho : outV none = -1 := rfl
      rw [ho] at HT
      clear hr
      go_enter Tryd.func10, Tryd.ntmps10
      go_wp2_with fail
      refine HT.out.mono ?_
      rintro e w1 ⟨rfl, hb⟩
      have HB : Hid (Below w.heap.size w w1) := hb
      clear hb
      go_wp2_with fail
      go_ret
      exact ⟨ret_bool HG.out.symm, HB.out⟩
    | some b =>
      have ho : outV (some b) = (b : Int) := rfl
      rw [ho] at HT
      have hs := right_some h1 hr.symm
      have hq : ((b : Int) == (n : Int)) = decide (b = n) := by
        rw [Bool.eq_iff_iff]; simp only [beq_iff_eq, decide_eq_true_eq]; omega
      have HG : Hid (rightT L n = decide (b = n)) := hs
      clear hr hs
      generalize decide (b = n) = Z at *
      go_enter Tryd.func10, Tryd.ntmps10
      go_wp2_with fail
      refine HT.out.mono ?_
      rintro e w1 ⟨rfl, hb⟩
      have HB : Hid (Below w.heap.size w w1) := hb
      clear hb
      go_wp2_with fail
      go_ret
      exact ⟨ret_bool HG.out.symm, HB.out⟩
  · have q0 : decide (n ≤ 150) = false := by simpa using h1
    have q1 : decide ((n : Int) ≤ 150) = false := by simp; omega
    have HG : Hid (rightT L n = false) := right_big h1
    go_enter Tryd.func10, Tryd.ntmps10
    go_wp2_with fail
    go_ret
    exact ⟨ret_bool HG.out.symm, Below.refl _ _⟩
set_option maxRecDepth 100000 in
set_option maxHeartbeats 8000000 in
theorem impl_hookRight (g n : Nat) (L : Nat → Nd) (hn : n ≤ 1048576) (hsm : ∀ i, i < n → (L i).small) (B : Nat) (w : World) (hX : Lex w B) (h : NodesAt w (some ⟨g, 0, none⟩) n L) :
    Calls Tryd.prog 31 #[.map (some B), .slice (some ⟨g, 0, none⟩) n n] w fun e w' => e = .returned (.bool (rightT L n)) ∧ Below w.heap.size w w' := by
  by_cases h1 : n ≤ 150
  · have q0 : decide (150 < n) = false := by simp; omega
    have q1 : decide ((150 : Int) < (n : Int)) = false := by simp; omega
    have HT : Hid (Calls Tryd.prog 51 #[.map (some B), .slice (some ⟨g, 0, none⟩) n n, .int .i64 3, .int .i64 20] w fun e w' => TreeOut g 0 n (treeT L n 20 0 3) e ∧ Below w.heap.size w w') := impl_tree L n g 0 h1 hsm B 20 (by omega) 0 3 ⟨g, 0, none⟩ (by omega) (fun _ => by simp) w h hX
    have HLE : Hid (∀ b, treeT L n 20 0 3 = some b → b ≤ n) := fun b hb => treeT_le L n 20 0 3 b hb
    obtain ⟨r, hr⟩ : ∃ r, r = treeT L n 20 0 3 := ⟨_, rfl⟩
    rw [← hr] at HT HLE
    clear hX h
    cases r with
    | none =>
      have HG : Hid (rightT L n = false) := right_none hr.symm
      clear hr
      go_enter Tryd.func31, Tryd.ntmps31
      go_wp2_with fail
      refine HT.out.mono ?_
      rintro e w1 ⟨he, hb⟩
      have he : e = .returned (.tuple #[.slice none 0 0, .bool false]) := he
      subst he
      have HB : Hid (Below w.heap.size w w1) := hb
      clear hb
      go_wp2_with fail
      go_ret
      exact ⟨ret_bool HG.out.symm, HB.out⟩
    | some b =>
      have hbn := HLE.out b rfl
      have hs := right_some h1 hr.symm
      have hq : (((n - b : Nat) : Int) == 0) = decide (b = n) := by
        rw [Bool.eq_iff_iff]; simp; omega
      have HG : Hid (rightT L n = decide (b = n)) := hs
      clear hr hs
      generalize decide (b = n) = Z at *
      obtain ⟨N, hN⟩ : ∃ N, N = n - b := ⟨_, rfl⟩
      go_enter Tryd.func31, Tryd.ntmps31
      go_wp2_with fail
      refine HT.out.mono ?_
      rintro e w1 ⟨⟨ad, _, he⟩, hb⟩
      subst he
      have HB : Hid (Below w.heap.size w w1) := hb
      clear hb
      rw [← hN] at hq ⊢
      clear hN
      go_wp2_with fail
      go_ret
      exact ⟨ret_bool HG.out.symm, HB.out⟩
  · have q0 : decide (150 < n) = true := by simp; omega
    have q1 : decide ((150 : Int) < (n : Int)) = true := by simp; omega
    have HG : Hid (rightT L n = false) := right_big h1
    go_enter Tryd.func31, Tryd.ntmps31
    go_wp2_with fail
    go_ret
    exact ⟨ret_bool HG.out.symm, Below.refl _ _⟩
set_option maxRecDepth 100000 in
set_option maxHeartbeats 8000000 in
theorem impl_nodesRight (g n : Nat) (L : Nat → Nd) (hn : n ≤ 1048576) (hsm : ∀ i, i < n → (L i).small) (w : World) (hA : Asc w) (h : NodesAt w (some ⟨g, 0, none⟩) n L) :
    Calls Tryd.prog 12 #[.slice (some ⟨g, 0, none⟩) n n] w fun e w' => e = .returned (.bool (rightT L n)) ∧ Below w.heap.size w w' := by
  have HL := impl_lexicon w hA
  have HL : Hid (Calls Tryd.prog 26 _ _ _) := HL
  have HT : Hid (∀ B W, Lex W B → NodesAt W (some ⟨g, 0, none⟩) n L → Calls Tryd.prog 31 #[.map (some B), .slice (some ⟨g, 0, none⟩) n n] W fun e w' => e = .returned (.bool (rightT L n)) ∧ Below W.heap.size W w') := fun B W hX hW => impl_hookRight g n L hn hsm B W hX hW
  have HN : Hid (NodesAt w (some ⟨g, 0, none⟩) n L) := h
  clear hA h
  generalize rightT L n = Z at *
  go_enter Tryd.func12, Tryd.ntmps12
  go_wp2_with fail
  refine HL.out.mono ?_
  rintro e w1 ⟨b, rfl, hx, _, hb⟩
  have HB : Hid (Below w.heap.size w w1) := hb
  have HX : Hid (Lex w1 b) := hx
  have HN1 : Hid (NodesAt w1 (some ⟨g, 0, none⟩) n L) := HN.out.below hb
  clear hb hx
  go_wp2_with fail
  refine (HT.out _ _ HX.out HN1.out).mono ?_
  rintro e w2 ⟨rfl, hb2⟩
  have HB2 : Hid (Below w.heap.size w w2) := HB.out.trans (hb2.mono HB.out.size)
  clear hb2
  go_wp2_with fail
  go_ret
  exact ⟨rfl, HB2.out⟩
set_option maxRecDepth 100000 in
set_option maxHeartbeats 8000000 in
theorem law_nodesRight (a : Option Addr) (n cap : Nat) (L : Nat → Nd) (hn : n ≤ maxLen) (hfit : ∀ i, i < n → (L i).fits) (w : World) (hA : Asc w) (h : NodesAt w a n L) :
    Calls Tryd.prog 4 #[.slice a n cap] w fun e w' => e = .returned (.bool true) ∧ Below w.heap.size w w' := by
  have HL : Hid (NodesAt w a n L) := h
  have HF : Hid (∀ i, i < n → (L i).fits) := hfit
  have HN : Hid (n ≤ maxLen) := hn
  have HA : Hid (Asc w) := hA
  clear h hfit hn hA
  go_enter Tryd.func4, Tryd.ntmps4
  go_wp2_with fail
  refine (sz_nodes a n cap L HN.out HF.out 1048576 (by omega) w HL.out).mono ?_
  rintro e w1 ⟨he, hb1⟩
  have HB1 : Hid (Below w.heap.size w w1) := hb1
  clear hb1
  rcases he with rfl | ⟨r, rfl, hr, hnl, hsm⟩
  · have q' : decide ((-1 : Int) < 0) = true := rfl
    go_wp2_with fail
    go_ret
    exact ⟨rfl, HB1.out⟩
  have HS : Hid (∀ i, i < n → (L i).small) := hsm
  clear hsm
  have q' : decide ((r : Int) < 0) = false := by simp
  go_wp2_with fail
  refine (to_nodes a n cap L hnl _ (HL.out.below HB1.out)).mono ?_
  rintro e w2 ⟨g, rfl, hg, hO, hb2⟩
  have HB2 : Hid (Below w.heap.size w w2) := HB1.out.trans (hb2.mono HB1.out.size)
  have HO : Hid (Own w2 g (n * 5) (nodeF L)) := hO
  clear hg hO hb2
  go_wp2_with fail
  refine (spec_nodesRight (some ⟨g, 0, none⟩) n n L hnl HS.out _ HO.out.nodes).mono ?_
  rintro e w3 ⟨rfl, hb3⟩
  have HB3 : Hid (Below w.heap.size w w3) := HB2.out.trans (hb3.mono HB2.out.size)
  clear hb3 HO
  go_wp2_with fail
  refine (to_nodes a n cap L hnl _ (HL.out.below HB3.out)).mono ?_
  rintro e w4 ⟨g', rfl, hg', hO', hb4⟩
  have HB4 : Hid (Below w.heap.size w w4) := HB3.out.trans (hb4.mono HB3.out.size)
  have HO' : Hid (Own w4 g' (n * 5) (nodeF L)) := hO'
  clear hg' hO' hb4
  go_wp2_with fail
  refine (impl_nodesRight g' n L hnl HS.out _ (HA.out.below HB4.out) HO'.out.nodes).mono ?_
  rintro e w5 ⟨rfl, hb5⟩
  have HB5 : Hid (Below w.heap.size w w5) := HB4.out.trans (hb5.mono HB4.out.size)
  have HO5 : Hid (Own w5 g' (n * 5) (nodeF L)) := HO'.out.below hb5
  clear hb5 HO'
  generalize rightT L n = b
  have hbb : (b != b) = false := by simp
  go_wp2_with fail
  refine (to_nodes a n cap L hnl _ (HL.out.below HB5.out)).mono ?_
  rintro e w6 ⟨g6, rfl, hg6, hO6, hb6⟩
  have HB6 : Hid (Below w.heap.size w w6) := HB5.out.trans (hb6.mono HB5.out.size)
  have HO6 : Hid (Own w6 g6 (n * 5) (nodeF L)) := hO6
  have HO7 : Hid (Own w6 g' (n * 5) (nodeF L)) := HO5.out.below hb6
  clear hg6 hO6 hb6 HO5
  go_wp2_with fail
  refine (eq_nodes (some ⟨g', 0, none⟩) (some ⟨g6, 0, none⟩) n n n L hnl _ HO7.out.nodes HO6.out.nodes).mono ?_
  rintro e w7 ⟨rfl, hb7⟩
  have HB7 : Hid (Below w.heap.size w w7) := HB6.out.trans (hb7.mono HB6.out.size)
  clear hb7
  go_wp2_with fail
  go_ret
  exact ⟨rfl, HB7.out⟩
end Go.Proofs.YtnefcldjigndgaaDoor
