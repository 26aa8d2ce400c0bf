/- slices.Insert of one line into a list of one's own: all ways together. -/
import Derived.Test.YtpabdapaegllnaaDoorBkN3
namespace Go.Proofs.YtpabdapaegllnaaDoor
open Go.RowKit Go.Lib
open Go.Proofs.YtpabdapaegllnaaDoor.Draw

theorem owns_slice {w : World} {B e size n : Nat} {v : Value} {xs : List Value} (h : w.ownsRow B e size v n xs) : ∃ a c, v = .slice a n c := by
  rcases h with ⟨_, ⟨rfl, rfl⟩ | ⟨g, cap, cur, rfl, _⟩⟩
  · exact ⟨none, 0, rfl⟩
  · exact ⟨_, cap, rfl⟩
theorem insert_line (B : Nat) (ad : Option Addr) (n c i vb : Nat) (xs : List Value) (v0 v1 v2 : Value) (w : World) (hB : B ≤ w.heap.size) (hn : n ≤ 60) (hi : i ≤ n) (hown : w.ownsRow B 46 3 (.slice ad n c) n xs) (hones : ∀ u ∈ xs, u.oneCell' = true)
    (h1 : v0.oneCell' = true ∧ v1.oneCell' = true ∧ v2.oneCell' = true) (hv : w.heap[vb]? = some (.cells #[v0, v1, v2] 46 (0, 0))) (hne : ∀ k, ad.map Addr.block = some k → vb ≠ k) :
    Calls Tryd.prog 78 #[.slice ad n c, .int .i64 (i : Int), .slice (some ⟨vb, 0, none⟩) 1 1] w fun e w' => ∃ ad' c', e = .returned (.slice ad' (n + 1) c') ∧ w'.ownsRow B 46 3 (.slice ad' (n + 1) c') (n + 1) (xs.take (i * 3) ++ [v0, v1, v2] ++ xs.drop (i * 3)) ∧ w.grownBy w' (ad.map Addr.block) := by
  have hl : xs.length = n * 3 := hown.1
  by_cases hin : i = n
  · subst hin
    have hcap : c ≤ maxLen := by
      rcases hown with ⟨_, ⟨e, _⟩ | ⟨g, cap, cur, e, _, _, _, e4, _⟩⟩
      · simp at e; unfold maxLen; omega
      · simp at e; omega
    refine (insert_end B ad i c vb xs v0 v1 v2 w hB hn hcap hown h1 (fun j u hj => by
      rw [add_off, row_cell hv, ← Array.getElem?_toList, Nat.zero_add]; exact hj)).mono ?_
    rintro e w' ⟨v', rfl, ho, hg⟩
    obtain ⟨a', c', rfl⟩ := owns_slice ho
    exact ⟨a', c', rfl, by rw [List.take_of_length_le (by omega), List.drop_eq_nil_of_le (by omega), List.append_nil]; exact ho, hg⟩
  · obtain ⟨_, ⟨e, e0⟩ | ⟨g, cap, cur, e, hB', hg, hnc, hcap, hsz, htk⟩⟩ := id hown
    · omega
    · simp at e
      obtain ⟨rfl, rfl⟩ := e
      subst htk
      by_cases hroom : n + 1 ≤ c
      · refine (insert_room g n c i vb cur v0 v1 v2 w hn (by omega) hroom hg hsz hones h1 hv (hne g rfl)).mono ?_
        rintro e w' ⟨rfl, d, cur', rfl, hs', ht'⟩
        refine ⟨_, c, rfl, ⟨by rw [← ht', List.length_take]; simp only [Array.length_toList]; omega, Or.inr ⟨g, c, cur', rfl, hB', setRow_heap (w.drewN d) g _ _ _ _ hg, hroom, hcap, hs', ht'⟩⟩, ?_⟩
        exact ⟨rfl, rfl, rfl, by simp [World.setRow], fun k hk hk' => setRow_other (w.drewN d) g k _ (by simpa using hk')⟩
      · refine (insert_grow g n c i vb cur v0 v1 v2 w hn (by omega) hnc (by omega) hg hsz hones h1 hv).mono ?_
        rintro e w' ⟨G, R, rfl, hgr, hh, hG1, hG2, hRs, hRt⟩
        refine ⟨_, G, rfl, ⟨by rw [← hRt, List.length_take]; simp only [Array.length_toList]; omega, Or.inr ⟨w.heap.size, G, R, rfl, hB, hh, hG1, hG2, hRs, hRt⟩⟩, ?_⟩
        exact ⟨hgr.os, hgr.tape, hgr.output, hgr.size, fun k hk _ => hgr.block k hk (by simp)⟩
end Go.Proofs.YtpabdapaegllnaaDoor
