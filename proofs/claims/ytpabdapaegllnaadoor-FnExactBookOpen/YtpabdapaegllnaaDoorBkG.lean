/- A book copied to be worked on (impl.ledgerOf): what the call does. -/
import Derived.Test.YtpabdapaegllnaaDoorBkL
import Derived.Test.YtpabdapaegllnaaDoorBkC
import Derived.Test.YtpabdapaegllnaaDoorBkX
import Derived.Test.YtpabdapaegllnaaDoorTxs
namespace Go.Proofs.YtpabdapaegllnaaDoor
open Go.RowKit
open Go.Proofs.YtpabdapaegllnaaDoor.Draw

def lineC (x : Ln) : List Value := [.string x.a, .string x.s, .int .i64 x.m]
def linesC (L : Nat → Ln) : Nat → List Value
  | 0 => []
  | k + 1 => linesC L k ++ lineC (L k)
theorem linesC_len (L : Nat → Ln) (k : Nat) : (linesC L k).length = k * 3 := by
  induction k with
  | zero => rfl
  | succ k ih => rw [linesC, List.length_append, ih]; simp [lineC]; omega
theorem linesC_at (L : Nat → Ln) (k j : Nat) (h : j < k * 3) : (linesC L k)[j]? = some (lineF L j) := by
  induction k with
  | zero => omega
  | succ k ih =>
    rw [linesC]
    by_cases hj : j < k * 3
    · rw [List.getElem?_append_left (by rw [linesC_len]; exact hj)]; exact ih hj
    · rw [List.getElem?_append_right (by rw [linesC_len]; omega), linesC_len]
      obtain ⟨e0, e1, e2⟩ := lineF_at L k
      rcases (by omega : j = k * 3 ∨ j = k * 3 + 1 ∨ j = k * 3 + 2) with rfl | rfl | rfl
      · rw [e0, show k * 3 - k * 3 = 0 by omega]; rfl
      · rw [e1, show k * 3 + 1 - k * 3 = 1 by omega]; rfl
      · rw [e2, show k * 3 + 2 - k * 3 = 2 by omega]; rfl
theorem news_lines {w : World} {g o n : Nat} {L : Nat → Ln} (h : LinesAt w (some ⟨g, o, none⟩) n L) : ∀ j u, (linesC L n)[j]? = some u → w.cell? ((⟨g, o, none⟩ : Addr).add j) = some u := by
  intro j u hj
  have hlt : j < n * 3 := by have := (List.getElem?_eq_some_iff.1 hj).1; rwa [linesC_len] at this
  rw [linesC_at L n j hlt] at hj
  rw [add_off, ← hj]
  rcases h with h0 | ⟨g', o', e, _, hc⟩
  · omega
  · simp at e
    obtain ⟨rfl, rfl⟩ := e
    obtain ⟨c0, c1, c2⟩ := hc (j / 3) (by omega)
    obtain ⟨e0, e1, e2⟩ := lineF_at L (j / 3)
    rcases (by omega : j = j / 3 * 3 ∨ j = j / 3 * 3 + 1 ∨ j = j / 3 * 3 + 2) with hr | hr | hr
    · rw [← e0, ← hr] at c0; exact c0
    · rw [← e1, Nat.add_assoc, ← hr] at c1; exact c1
    · rw [← e2, Nat.add_assoc, ← hr] at c2; exact c2
theorem ones_lines (L : Nat → Ln) (n : Nat) : ∀ u ∈ linesC L n, u.oneCell' = true := by
  induction n with
  | zero => intro u hu; simp [linesC] at hu
  | succ n ih =>
    intro u hu
    rw [linesC, List.mem_append] at hu
    rcases hu with hu | hu
    · exact ih u hu
    · simp [lineC] at hu; rcases hu with rfl | rfl | rfl <;> rfl
/-- An owned row of lines. -/
theorem own_linesAt {w : World} {B n : Nat} {v : Value} {L : Nat → Ln} (h : w.ownsRow B 46 3 v n (linesC L n)) : ∃ a cap, v = .slice a n cap ∧ LinesAt w a n L ∧ ∀ k, a.map Addr.block = some k → B ≤ k ∧ k < w.heap.size := by
  obtain ⟨_, ⟨rfl, rfl⟩ | ⟨g, cap, cur, rfl, hB, hblk, _⟩⟩ := id h
  · exact ⟨none, 0, rfl, Or.inl rfl, fun k e => by cases e⟩
  · refine ⟨_, cap, rfl, (own_row h (fun j hj => linesC_at L n j hj)).1.lines, fun k e => ?_⟩
    simp at e
    subst e
    exact ⟨hB, (Array.getElem?_eq_some_iff.1 hblk).1⟩
theorem infoLn : (Tryd.prog.info? 46).map (fun i => (i.zero, i.size, i.bytes)) = some (some (.agg #[.string ⟨#[]⟩, .string ⟨#[]⟩, .int .i64 0]), 3, 40) := by kernel_rfl
theorem infoTx : (Tryd.prog.info? 9).map (fun i => (i.zero, i.size, i.bytes)) = some (some (.string ⟨#[]⟩), 1, 16) := by kernel_rfl
set_option maxRecDepth 100000 in
set_option maxHeartbeats 8000000 in
theorem impl_ledger_no (g o g' o' n m cap cap' : Nat) (L : Nat → Ln) (I : Nat → Tx) (hn : n ≤ 1048576) (hm : m ≤ 1048576) (hf : ∀ i, i < n → (L i).fits) (hfi : ∀ i, i < m → (I i).fits) (hno : (linesB n L && idsB m I) = false) (w : World) (h : LinesAt w (some ⟨g, o, none⟩) n L) (h' : TextsAt w (some ⟨g', o', none⟩) m I) :
    Calls Tryd.prog 38 #[.agg #[.slice (some ⟨g, o, none⟩) n cap, .slice (some ⟨g', o', none⟩) m cap']] w fun e w' => e = .returned (.tuple #[.agg #[.slice none 0 0, .slice none 0 0, .map none, .complex .f64 0 0], .iface 106 (.agg #[.int .i64 1])]) ∧ Below w.heap.size w w' := by
  have T0 := two_now w #[.slice (some ⟨g, o, none⟩) n cap, .slice (some ⟨g', o', none⟩) m cap'] #[.slice none 0 0, .slice none 0 0, .map none, .complex .f64 0 0] 26 72
  have HLR := impl_lines (some ⟨g, o, none⟩) n cap L hn hf ((w.alloc (.cells #[.slice (some ⟨g, o, none⟩) n cap, .slice (some ⟨g', o', none⟩) m cap'] 26)).alloc (.cells #[.slice none 0 0, .slice none 0 0, .map none, .complex .f64 0 0] 72)) (h.below T0.bel)
  have HIR := fun W (hW : Below w.heap.size w W) => impl_ids (some ⟨g', o', none⟩) m cap' I hm hfi W (h'.below hW)
  generalize linesB n L = A at *
  generalize idsB m I = J at *
  have HT0 : Hid (Both w ((w.alloc (.cells #[.slice (some ⟨g, o, none⟩) n cap, .slice (some ⟨g', o', none⟩) m cap'] 26)).alloc (.cells #[.slice none 0 0, .slice none 0 0, .map none, .complex .f64 0 0] 72)) #[.slice (some ⟨g, o, none⟩) n cap, .slice (some ⟨g', o', none⟩) m cap'] #[.slice none 0 0, .slice none 0 0, .map none, .complex .f64 0 0]) := T0
  have HLR : Hid (Calls Tryd.prog 66 #[.slice (some ⟨g, o, none⟩) n cap] ((w.alloc (.cells #[.slice (some ⟨g, o, none⟩) n cap, .slice (some ⟨g', o', none⟩) m cap'] 26)).alloc (.cells #[.slice none 0 0, .slice none 0 0, .map none, .complex .f64 0 0] 72)) fun e w' => e = .returned (.bool A) ∧ Below ((w.alloc (.cells #[.slice (some ⟨g, o, none⟩) n cap, .slice (some ⟨g', o', none⟩) m cap'] 26)).alloc (.cells #[.slice none 0 0, .slice none 0 0, .map none, .complex .f64 0 0] 72)).heap.size ((w.alloc (.cells #[.slice (some ⟨g, o, none⟩) n cap, .slice (some ⟨g', o', none⟩) m cap'] 26)).alloc (.cells #[.slice none 0 0, .slice none 0 0, .map none, .complex .f64 0 0] 72)) w') := HLR
  have HIR : Hid (∀ W, Below w.heap.size w W → Calls Tryd.prog 67 #[.slice (some ⟨g', o', none⟩) m cap'] W fun e w' => e = .returned (.bool J) ∧ Below W.heap.size W w') := HIR
  clear h h' hf hfi T0
  go_enter Tryd.func38, Tryd.ntmps38
  go_wp2_with fail
  refine HLR.out.mono ?_
  rintro e w1 ⟨rfl, hb1⟩
  have T1 := HT0.out.next hb1
  have b1 := T1.box 1
  have r0 := T1.res 0
  have r1 := T1.res 1
  have r2 := T1.res 2
  have r3 := T1.res 3
  simp at b1 r0 r1 r2 r3
  have rf : ∀ j, w1.frozen? ⟨w.heap.size + 1, j, none⟩ = false := fun j => (hb1.frozen (p := ⟨w.heap.size + 1, j, none⟩) (by simp)).trans (fnew' (by simp) j)
  have HT1 : Hid (Both w w1 #[.slice (some ⟨g, o, none⟩) n cap, .slice (some ⟨g', o', none⟩) m cap'] #[.slice none 0 0, .slice none 0 0, .map none, .complex .f64 0 0]) := T1
  clear hb1 T1 HLR
  have hst := fun (W : World) (hc : W.cell? ⟨w.heap.size + 1, 3, none⟩ = some (.complex .f64 0 0)) (hf : W.frozen? ⟨w.heap.size + 1, 3, none⟩ = false) => store_cx ⟨w.heap.size + 1, 3, none⟩ 0 0 _ W hc hf
  have s : w.heap.size ≤ w.heap.size + 1 := by omega
  cases A
  · go_wp2_with fail
    refine bodyPost_ret (v := .tuple #[.agg #[.slice none 0 0, .slice none 0 0, .map none, .complex .f64 0 0], .iface 106 (.agg #[.int .i64 1])]) ?_ rfl ⟨rfl, ?_⟩
    · simp [results, Tryd.results38, go_sem, r0, r1, r2, r3]
    · exact (((HT1.out.bel.setCell s _).setCell s _).setCell s _).setCell s _
  cases J
  · go_wp2_with fail
    refine (HIR.out _ HT1.out.bel).mono ?_
    rintro e w2 ⟨rfl, hb2⟩
    have T2 := HT1.out.next hb2
    have q0 := T2.res 0
    have q1 := T2.res 1
    have q2 := T2.res 2
    have q3 := T2.res 3
    simp at q0 q1 q2 q3
    have qf : ∀ j, w2.frozen? ⟨w.heap.size + 1, j, none⟩ = false := fun j => (hb2.frozen (p := ⟨w.heap.size + 1, j, none⟩) (by have := HT1.out.size; show w.heap.size + 1 < _; omega)).trans (rf j)
    have HB2 : Hid (Below w.heap.size w w2) := T2.bel
    clear hb2 T2 r0 r1 r2 r3 rf b1
    go_wp2_with fail
    refine bodyPost_ret (v := .tuple #[.agg #[.slice none 0 0, .slice none 0 0, .map none, .complex .f64 0 0], .iface 106 (.agg #[.int .i64 1])]) ?_ rfl ⟨rfl, ?_⟩
    · simp [results, Tryd.results38, go_sem, q0, q1, q2, q3]
    · exact (((HB2.out.setCell s _).setCell s _).setCell s _).setCell s _
  · simp at hno
end Go.Proofs.YtpabdapaegllnaaDoor
