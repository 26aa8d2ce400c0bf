/- Is a list of nodes right as a hook: what the model and the program do; the law. -/
import Derived.Test.YtnkklkbokpeanaaDoorNrV
namespace Go.Proofs.YtnkklkbokpeanaaDoor
open Go.RowKit Go.Maps
open Go.Proofs.YtnkklkbokpeanaaDoor.Draw

theorem right_big {L : Nat → Nd} {n : Nat} (h : ¬ n ≤ 150) : rightT L n = false := by unfold rightT; rw [decide_eq_false h]; rfl
theorem right_none {L : Nat → Nd} {n : Nat} (h : treeT L n 20 0 3 = none) : rightT L n = false := by unfold rightT; rw [h]; simp
theorem right_some {L : Nat → Nd} {n b : Nat} (hn : n ≤ 150) (h : treeT L n 20 0 3 = some b) : rightT L n = decide (b = n) := by unfold rightT; rw [h, decide_eq_true hn]; simp
set_option maxRecDepth 100000 in
set_option maxHeartbeats 8000000 in
theorem spec_nodesRight (a : Option Addr) (n cap : Nat) (L : Nat → Nd) (hn : n ≤ 1048576) (hsm : ∀ i, i < n → (L i).small) (w : World) (h : NodesAt w a n L) :
    Calls Tryd.prog 74 #[.slice a n cap] w fun e w' => e = .returned (.bool (rightT L n)) ∧ Below w.heap.size w w' := by
  by_cases h1 : n ≤ 150
  · have q0 : decide (n ≤ 150) = true := by simpa using h1
    have q1 : decide ((n : Int) ≤ 150) = true := by simp; omega
    have HT : Hid (Calls Tryd.prog 110 #[.slice a n cap, .int .i64 0, .int .i64 3, .int .i64 1] w fun e w' => e = .returned (.int .i64 (outV (treeT L n 20 0 3))) ∧ Below w.heap.size w w') := spec_tree L n a cap h1 hsm 20 (by omega) 0 3 (by omega) (by omega) w h
    obtain ⟨r, hr⟩ : ∃ r, r = treeT L n 20 0 3 := ⟨_, rfl⟩
    rw [← hr] at HT
    cases r with
    | none =>
      have HG : Hid (rightT L n = false) := right_none hr.symm
      have qz : ((-1 : Int) == (n : Int)) = false := beq_eq_false_iff_ne.2 (by omega)
      have ho : outV none = -1 := rfl
      rw [ho] at HT
      clear hr
      go_enter Tryd.func74, Tryd.ntmps74
      go_wp2_with fail
      refine HT.out.mono ?_
      rintro e w1 ⟨rfl, hb⟩
      have HB : Hid (Below w.heap.size w w1) := hb
      clear hb
      go_wp2_with fail
      go_ret
      exact ⟨ret_bool HG.out.symm, HB.out⟩
    | some b =>
      have ho : outV (some b) = (b : Int) := rfl
      rw [ho] at HT
      have hs := right_some h1 hr.symm
      have hq : ((b : Int) == (n : Int)) = decide (b = n) := by
        rw [Bool.eq_iff_iff]; simp only [beq_iff_eq, decide_eq_true_eq]; omega
      have HG : Hid (rightT L n = decide (b = n)) := hs
      clear hr hs
      generalize decide (b = n) = Z at *
      go_enter Tryd.func74, Tryd.ntmps74
      go_wp2_with fail
      refine HT.out.mono ?_
      rintro e w1 ⟨rfl, hb⟩
      have HB : Hid (Below w.heap.size w w1) := hb
      clear hb
      go_wp2_with fail
      go_ret
      exact ⟨ret_bool HG.out.symm, HB.out⟩
  · have q0 : decide (n ≤ 150) = false := by simpa using h1
    have q1 : decide ((n : Int) ≤ 150) = false := by simp; omega
    have HG : Hid (rightT L n = false) := right_big h1
    go_enter Tryd.func74, Tryd.ntmps74
    go_wp2_with fail
    go_ret
    exact ⟨ret_bool HG.out.symm, Below.refl _ _⟩
set_option maxRecDepth 100000 in
set_option maxHeartbeats 8000000 in
theorem impl_hookRight (g n : Nat) (L : Nat → Nd) (hn : n ≤ 1048576) (hsm : ∀ i, i < n → (L i).small) (B : Nat) (w : World) (hX : Lex w B) (h : NodesAt w (some ⟨g, 0, none⟩) n L) :
    Calls Tryd.prog 115 #[.map (some B), .slice (some ⟨g, 0, none⟩) n n] w fun e w' => e = .returned (.bool (rightT L n)) ∧ Below w.heap.size w w' := by
  by_cases h1 : n ≤ 150
  · have q0 : decide (150 < n) = false := by simp; omega
    have q1 : decide ((150 : Int) < (n : Int)) = false := by simp; omega
    have HT : Hid (Calls Tryd.prog 144 #[.map (some B), .slice (some ⟨g, 0, none⟩) n n, .int .i64 3, .int .i64 20] w fun e w' => TreeOut g 0 n (treeT L n 20 0 3) e ∧ Below w.heap.size w w') := impl_tree L n g 0 h1 hsm B 20 (by omega) 0 3 ⟨g, 0, none⟩ (by omega) (fun _ => by simp) w h hX
    have HLE : Hid (∀ b, treeT L n 20 0 3 = some b → b ≤ n) := fun b hb => treeT_le L n 20 0 3 b hb
    obtain ⟨r, hr⟩ : ∃ r, r = treeT L n 20 0 3 := ⟨_, rfl⟩
    rw [← hr] at HT HLE
    clear hX h
    cases r with
    | none =>
      have HG : Hid (rightT L n = false) := right_none hr.symm
      clear hr
      go_enter Tryd.func115, Tryd.ntmps115
      go_wp2_with fail
      refine HT.out.mono ?_
      rintro e w1 ⟨he, hb⟩
      have he : e = .returned (.tuple #[.slice none 0 0, .bool false]) := he
      subst he
      have HB : Hid (Below w.heap.size w w1) := hb
      clear hb
      go_wp2_with fail
      go_ret
      exact ⟨ret_bool HG.out.symm, HB.out⟩
    | some b =>
      have hbn := HLE.out b rfl
      have hs := right_some h1 hr.symm
      have hq : (((n - b : Nat) : Int) == 0) = decide (b = n) := by
        rw [Bool.eq_iff_iff]; simp; omega
      have HG : Hid (rightT L n = decide (b = n)) := hs
      clear hr hs
      generalize decide (b = n) = Z at *
      obtain ⟨N, hN⟩ : ∃ N, N = n - b := ⟨_, rfl⟩
      go_enter Tryd.func115, Tryd.ntmps115
      go_wp2_with fail
      refine HT.out.mono ?_
      rintro e w1 ⟨⟨ad, _, he⟩, hb⟩
      subst he
      have HB : Hid (Below w.heap.size w w1) := hb
      clear hb
      rw [← hN] at hq ⊢
      clear hN
      go_wp2_with fail
      go_ret
      exact ⟨ret_bool HG.out.symm, HB.out⟩
  · have q0 : decide (150 < n) = true := by simp; omega
    have q1 : decide ((150 : Int) < (n : Int)) = true := by simp; omega
    have HG : Hid (rightT L n = false) := right_big h1
    go_enter Tryd.func115, Tryd.ntmps115
    go_wp2_with fail
    go_ret
    exact ⟨ret_bool HG.out.symm, Below.refl _ _⟩
end Go.Proofs.YtnkklkbokpeanaaDoor
