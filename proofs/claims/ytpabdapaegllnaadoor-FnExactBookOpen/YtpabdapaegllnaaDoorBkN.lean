/- slices.Insert of one line into a list of one's own: what the call does. -/
import Derived.Test.YtpabdapaegllnaaDoorBkP
import Derived.Shelf.Spec.SlicesInsertGrow
import Derived.Laws.CopyRow
namespace Go.Proofs.YtpabdapaegllnaaDoor
open Go.RowKit Go.Lib
open Go.Proofs.YtpabdapaegllnaaDoor.Draw

/-- copy of elements of q cells each into a row that is known whole. -/
theorem run_copy_rowq (P : Program) (w : World) (dT sT ty elem : TypeId) (q g o dLen dCap : Nat) (a : Addr) (sLen sCap : Nat) (cur : Array Value) (t : TypeId) (cs : List Value)
    (hu : P.underlying dT = some (.slice elem)) (hs : (P.info? elem).map (·.size) = some q)
    (hg : w.heap[g]? = some (.cells cur t (0, 0))) (hn : cs.length = Nat.min sLen dLen * q)
    (hsrc : ∀ j v, cs[j]? = some v → w.cell? (a.add j) = some v) (hfit : o + cs.length ≤ cur.size) (h1 : ∀ v ∈ cs, v.oneCell' = true) :
    (Builtin.copy_ #[dT, sT] ty #[.slice (some ⟨g, o, none⟩) dLen dCap, .slice (some a) sLen sCap]).run P w =
      .ok (goInt (Nat.min sLen dLen)) (w.setRow g (cur.toList.take o ++ cs ++ cur.toList.drop (o + cs.length)).toArray) := by
  have hl := run_loadCells_list (P := P) w a cs hsrc
  have hst := run_storeCells_at P g o t cs 0 cur w hg (by simpa using hfit) h1
  cases hq : P.info? elem with
  | none => simp [hq] at hs
  | some i =>
    have hi : i.size = q := by simpa [hq] using hs
    simp [Builtin.copy_, run_underlying hu, Builtin.lenOf, Builtin.firstCells, sizeOf, typeInfo, hq, hi, ← hn, hl, hst]
set_option maxRecDepth 100000 in
set_option maxHeartbeats 8000000 in
/-- At the end. -/
theorem insert_end (B : Nat) (ad : Option Addr) (n c vb : Nat) (xs : List Value) (v0 v1 v2 : Value) (w : World) (hB : B ≤ w.heap.size) (hn : n ≤ 60) (hcap : c ≤ maxLen) (hown : w.ownsRow B 46 3 (.slice ad n c) n xs) (h1 : v0.oneCell' = true ∧ v1.oneCell' = true ∧ v2.oneCell' = true) (hv : ∀ j u, ([v0, v1, v2] : List Value)[j]? = some u → w.cell? ((⟨vb, 0, none⟩ : Addr).add j) = some u) :
    Calls Tryd.prog 78 #[.slice ad n c, .int .i64 (n : Int), .slice (some ⟨vb, 0, none⟩) 1 1] w fun e w' => ∃ v', e = .returned v' ∧ w'.ownsRow B 46 3 v' (n + 1) (xs ++ [v0, v1, v2]) ∧ w.grownBy w' (ad.map Addr.block) := by
  obtain ⟨i0, hi, hz0, hz1, hz2⟩ := info_parts infoLn
  have HO : Hid (w.ownsRow B 46 3 (.slice ad n c) n xs) := hown
  have HV : Hid (∀ j u, ([v0, v1, v2] : List Value)[j]? = some u → w.cell? ((⟨vb, 0, none⟩ : Addr).add j) = some u) := hv
  unfold maxLen at hcap
  have hnc : n ≤ c := by
    rcases hown with ⟨_, ⟨e, e2⟩ | ⟨g, cap, cur, e, _, _, e3, _⟩⟩
    · omega
    · simp at e; omega
  clear hown hv
  cases ad with
  | none =>
    go_enter Tryd.func78, Tryd.ntmps78
    go_wp2_with (at_builtin; refine wpList_append_own _ rfl (.tmp 23) (.tmp 24) 23 rfl B 46 i0 (.agg #[.string ⟨#[]⟩, .string ⟨#[]⟩, .int .i64 0]) 3 40 Tryd.underlying23 hi hz0 hz1 hz2 rfl (by decide) (.slice none n c) n xs rfl HO.out ⟨vb, 0, none⟩ 1 1 [v0, v1, v2] rfl rfl ?c1 ?c2 ?c3 ?c4 ?c5 ?_)
    all_goals first
      | exact HV.out
      | (intro u hu; simp at hu; rcases hu with rfl | rfl | rfl; exact h1.1; exact h1.2.1; exact h1.2.2)
      | (unfold maxLen; omega)
      | omega
      | (simp; done)
      | (trace_state; skip)
    all_goals
      intro v' w' hown hg _
      go_wp2_with fail
      refine bodyPost_ret (v := v') ?_ rfl ⟨v', rfl, hown, hg⟩
      simp [results, Tryd.results78, go_sem]
  | some a =>
    obtain ⟨g, o, sp⟩ := a
    by_cases hcn : n = c
    · subst hcn
      go_enter Tryd.func78, Tryd.ntmps78
      go_wp2_with (at_builtin; refine wpList_append_own _ rfl (.tmp 23) (.tmp 24) 23 rfl B 46 i0 (.agg #[.string ⟨#[]⟩, .string ⟨#[]⟩, .int .i64 0]) 3 40 Tryd.underlying23 hi hz0 hz1 hz2 rfl (by decide) (.slice (some ⟨g, o, sp⟩) n n) n xs rfl HO.out ⟨vb, 0, none⟩ 1 1 [v0, v1, v2] rfl rfl ?e1 ?e2 ?e3 ?e4 ?e5 ?_)
      all_goals first
        | exact HV.out
        | (intro u hu; simp at hu; rcases hu with rfl | rfl | rfl; exact h1.1; exact h1.2.1; exact h1.2.2)
        | (unfold maxLen; omega)
        | omega
        | (simp; done)
        | (trace_state; skip)
      all_goals
        intro v' w' hown hg _
        go_wp2_with fail
        refine bodyPost_ret (v := v') ?_ rfl ⟨v', rfl, hown, hg⟩
        simp [results, Tryd.results78, go_sem]
    · have hcn' : ¬ c = n := fun e => hcn e.symm
      go_enter Tryd.func78, Tryd.ntmps78
      go_wp2_with (at_builtin; refine wpList_append_own _ rfl (.tmp 23) (.tmp 24) 23 rfl B 46 i0 (.agg #[.string ⟨#[]⟩, .string ⟨#[]⟩, .int .i64 0]) 3 40 Tryd.underlying23 hi hz0 hz1 hz2 rfl (by decide) (.slice (some ⟨g, o, sp⟩) n c) n xs rfl HO.out ⟨vb, 0, none⟩ 1 1 [v0, v1, v2] rfl rfl ?d1 ?d2 ?d3 ?d4 ?d5 ?_)
      all_goals first
        | exact HV.out
        | (intro u hu; simp at hu; rcases hu with rfl | rfl | rfl; exact h1.1; exact h1.2.1; exact h1.2.2)
        | (unfold maxLen; omega)
        | omega
        | (simp; done)
        | (trace_state; skip)
      all_goals
        intro v' w' hown hg _
        go_wp2_with fail
        refine bodyPost_ret (v := v') ?_ rfl ⟨v', rfl, hown, hg⟩
        simp [results, Tryd.results78, go_sem]
end Go.Proofs.YtpabdapaegllnaaDoor
