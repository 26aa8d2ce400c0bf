/- Instalment, of the program and of its model: what each call does. -/
import Derived.Test.YtnefcldjigndgaaGreatDoorPlanLL
namespace Go.Proofs.YtnefcldjigndgaaGreatDoor
open Go.RowKit

/-- What Instalment answers: the least pay, or that the loan is not right. -/
def InstOf (p r b s t : Int) (x : Int × Int) : Prop := (loanB p r b s t = false ∧ x = (0, 1)) ∨ ∃ n X : Nat, t = n ∧ LoanOk p r b s n ∧ IsInst p r b s n X ∧ x = ((X : Int), 0)
theorem inst_of (p r b s t : Int) : ∃ x, InstOf p r b s t x := by
  cases h : loanB p r b s t
  · exact ⟨_, Or.inl ⟨h, rfl⟩⟩
  · have hok := (loanB_iff p r b s t).1 h
    obtain ⟨n, rfl⟩ := hok.nat
    obtain ⟨X, hX⟩ := hok.inst
    rw [Int.toNat_natCast] at hX
    exact ⟨_, Or.inr ⟨n, X, rfl, hok, hX, rfl⟩⟩


set_option maxRecDepth 100000 in
set_option maxHeartbeats 4000000 in
theorem spec_Instalment (p r b s t : Int) (x : Int × Int) (hI : InstOf p r b s t x) (w : World) :
    Calls Tryz.prog 11 #[.agg #[.int .i64 p, .int .i64 r, .int .i64 b, .int .i64 s, .int .i64 t]] w fun e w' => e = .returned (moneyV x) ∧ Below w.heap.size w w' := by
  rcases hI with ⟨hr, rfl⟩ | ⟨n, X, rfl, hok, hX, rfl⟩
  · have H : Hid (loanB p r b s t = false) := hr
    have HR : Hid (moneyV (0, 1) = .agg #[.int .i64 0, .int .i64 1]) := rfl
    clear hr
    go_enter Tryz.func11, Tryz.ntmps11
    go_wp2_with fail
    refine (spec_loanRight p r b s t _).mono ?_
    rintro e w1 ⟨rfl, hb1⟩
    have T1 := (two_new w #[.int .i64 p, .int .i64 r, .int .i64 b, .int .i64 s, .int .i64 t] #[.int .i64 0, .int .i64 0] 34 24).next hb1
    rw [H.out]
    have c1 := T1.box
    have r1 := T1.res
    have f1 := T1.fro
    have HT : Hid (Two w w1 #[.int .i64 p, .int .i64 r, .int .i64 b, .int .i64 s, .int .i64 t] #[.int .i64 0, .int .i64 0]) := T1
    clear hb1 T1
    go_wp2_with fail
    refine bodyPost_ret (v := moneyV (0, 1)) ?_ rfl ⟨rfl, ?_⟩
    · rw [HR.out]
      simp [results, Tryz.results11, go_sem, r1]
    · exact (HT.out.bel.setCell (Nat.le_succ _) _).setCell (Nat.le_succ _) _
  have H : Hid (loanB p r b s n = true) := (loanB_iff _ _ _ _ _).2 hok
  have HO : Hid (LoanOk p r b s n) := hok
  have HX : Hid (IsInst p r b s n X) := hX
  have HR : Hid (moneyV ((X : Int), 0) = .agg #[.int .i64 X, .int .i64 0]) := rfl
  clear hok hX
  go_enter Tryz.func11, Tryz.ntmps11
  go_wp2_with fail
  refine (spec_loanRight p r b s (n : Int) _).mono ?_
  rintro e w1 ⟨rfl, hb1⟩
  have T1 := (two_new w #[.int .i64 p, .int .i64 r, .int .i64 b, .int .i64 s, .int .i64 (n : Int)] #[.int .i64 0, .int .i64 0] 34 24).next hb1
  rw [H.out]
  have c1 := T1.box
  have r1 := T1.res
  have f1 := T1.fro
  have HT : Hid (Two w w1 #[.int .i64 p, .int .i64 r, .int .i64 b, .int .i64 s, .int .i64 (n : Int)] #[.int .i64 0, .int .i64 0]) := T1
  clear hb1 T1
  go_wp2_with fail
  have a0 := c1 0
  have a1 := c1 1
  have a2 := c1 2
  have a3 := c1 3
  have a4 := c1 4
  simp at a0 a1 a2 a3 a4
  go_region_held3 (fun W => W.cell? ⟨w.heap.size, 0, none⟩ = some (.int .i64 p) ∧ W.cell? ⟨w.heap.size, 1, none⟩ = some (.int .i64 r) ∧ W.cell? ⟨w.heap.size, 2, none⟩ = some (.int .i64 b) ∧ W.cell? ⟨w.heap.size, 3, none⟩ = some (.int .i64 s) ∧ W.cell? ⟨w.heap.size, 4, none⟩ = some (.int .i64 n)) (go_keep) (first | (go_at_call 26; refine (spec_due HO.out _).mono ?_; rintro e w2 ⟨v, rfl, hv, hb2⟩; have T2 := HT.out.drew.next hb2; have e0 := T2.box 0; have e1 := T2.box 1; have e2 := T2.box 2; have e3 := T2.box 3; have e4 := T2.box 4; simp at e0 e1 e2 e3 e4; have HV : Hid (Due w2 v s (n + 1)) := hv; have HT2 : Hid (Two w w2 #[.int .i64 p, .int .i64 r, .int .i64 b, .int .i64 s, .int .i64 (n : Int)] #[.int .i64 0, .int .i64 0]) := T2; clear hv hb2 T2) | (go_at_call 25; refine (spec_inst HO.out HX.out _ _ (by exact HV.out)).mono ?_; rintro e w3 ⟨rfl, hb3⟩; have T3 := HT2.out.next hb3; have g0 := T3.box 0; have g1 := T3.box 1; have g2 := T3.box 2; have g3 := T3.box 3; have g4 := T3.box 4; simp at g0 g1 g2 g3 g4; have r3 := T3.res; have f3 := T3.fro; have HT3 : Hid (Two w w3 #[.int .i64 p, .int .i64 r, .int .i64 b, .int .i64 s, .int .i64 (n : Int)] #[.int .i64 0, .int .i64 0]) := T3; clear hb3 T3))
  all_goals
    go_wp2_with fail
    refine bodyPost_ret (v := moneyV ((X : Int), 0)) ?_ rfl ⟨rfl, ?_⟩
    · rw [HR.out]
      simp [results, Tryz.results11, go_sem, r3]
    · exact (HT3.out.bel.setCell (Nat.le_succ _) _).setCell (Nat.le_succ _) _

end Go.Proofs.YtnefcldjigndgaaGreatDoor
