/- The law of RecsOf. -/
import Derived.Test.YthjanamnkhggfaaDoorRcW
namespace Go.Proofs.YthjanamnkhggfaaDoor
open Go.RowKit
open Go.Proofs.YthjanamnkhggfaaDoor.Draw

theorem recs_is {s : ByteArray} (hs : s.size ≤ 20000) : ∀ d k, OkTo s k → s.size ≤ seqA s k + d → ∃ k' c, RecsIs s k' c
  | 0, k, h, hd => ⟨k, 0, h, Or.inl ⟨by omega, rfl⟩⟩
  | d + 1, k, h, hd => by
    by_cases h1 : s.size ≤ seqA s k
    · exact ⟨k, 0, h, Or.inl ⟨h1, rfl⟩⟩
    by_cases h2 : (readR s (seqA s k)).2.2 = 0
    · have := (readR_ok hs h2).1
      exact recs_is hs d (k + 1) (okTo_succ h (by omega) h2) (by show s.size ≤ (readR s (seqA s k)).2.1 + d; omega)
    · exact ⟨k, _, h, Or.inr ⟨by omega, rfl, h2⟩⟩
/-- An answer of so many texts. -/
def Ans (m : Nat) (U c : Int) (J : Nat → Tx) (W : World) (e : Ending) (w' : World) : Prop := ∃ a' c', e = .returned (.agg #[.slice a' m c', .int .i64 U, .int .i64 c]) ∧ OwnR w' a' m 1 (textF J) ∧ (∀ j, a'.map Addr.block = some j → W.heap.size ≤ j ∧ j < w'.heap.size) ∧ Below W.heap.size W w'
theorem ans_of {s : ByteArray} {w w' : World} {e : Ending} {k : Nat} {c : Int} (h : RecsPost s w e w') (hr : RecsIs s k c) : Ans k (seqA s k : Int) c (recT s) w e w' := by
  obtain ⟨k', c', v, rfl, hi, ho, hb⟩ := h
  obtain ⟨rfl, rfl⟩ := hi.same hr
  obtain ⟨a', q, rfl, hO, hl⟩ := own_texts ho
  exact ⟨a', q, rfl, hO, hl, hb⟩
theorem ownR_nil (w : World) (I : Nat → Tx) : OwnR w none 0 1 (textF I) := by
  obtain ⟨a', q, hv, hO, _⟩ := own_texts (w := w) (B := 0) (n := 0) (I := I) (World.ownsRow_nil _ _ _ _)
  cases hv
  exact hO
/-- An answer's block. -/
structure Bo (W : World) (P : Nat) (v : Value) (U c : Int) : Prop where
  c0 : W.cell? ⟨P, 0, none⟩ = some v
  c1 : W.cell? ⟨P, 1, none⟩ = some (.int .i64 U)
  c2 : W.cell? ⟨P, 2, none⟩ = some (.int .i64 c)
  lt : P < W.heap.size
theorem Bo.new (w : World) (v : Value) (U c : Int) (t : TypeId) : Bo (w.alloc (.cells #[v, .int .i64 U, .int .i64 c] t)) w.heap.size v U c := ⟨by simp, by simp, by simp, by simp⟩
theorem Bo.below {W W' : World} {P : Nat} {v : Value} {U c : Int} (h : Bo W P v U c) (hb : Below W.heap.size W W') : Bo W' P v U c :=
  ⟨(hb.cell (p := ⟨P, 0, none⟩) h.lt).trans h.c0, (hb.cell (p := ⟨P, 1, none⟩) h.lt).trans h.c1, (hb.cell (p := ⟨P, 2, none⟩) h.lt).trans h.c2, Nat.lt_of_lt_of_le h.lt hb.size⟩
theorem Bo.grown {W W' : World} {P : Nat} {v : Value} {U c : Int} {row : Option Nat} (h : Bo W P v U c) (hg : W.grownBy W' row) (hne : some P ≠ row) : Bo W' P v U c := by
  have g := hg.block P h.lt hne
  exact ⟨(World.cell?_of_block (a := ⟨P, 0, none⟩) g).trans h.c0, (World.cell?_of_block (a := ⟨P, 1, none⟩) g).trans h.c1, (World.cell?_of_block (a := ⟨P, 2, none⟩) g).trans h.c2, Nat.lt_of_lt_of_le h.lt hg.size⟩
set_option maxRecDepth 100000 in
set_option maxHeartbeats 8000000 in
theorem impl_recsBig (s : ByteArray) (h0 : 20000 < s.size) (w : World) :
    Calls Tryd.prog 22 #[.string s] w fun e w' => Ans 0 0 2 (recT s) w e w' := by
  have p0 : decide (20000 < s.size) = true := by simp; omega
  have p1 : decide ((20000 : Int) < (s.size : Int)) = true := by simp; omega
  go_enter Tryd.func22, Tryd.ntmps22
  go_wp2_with fail
  refine bodyPost_ret (v := .agg #[.slice none 0 0, .int .i64 0, .int .i64 2]) ?_ rfl ⟨none, 0, rfl, ?_, ?_, ?_⟩
  · simp [results, Tryd.results22, go_sem]
  · exact ownR_nil _ _
  · exact fun j e => by cases e
  · first | exact (Below.refl _ _).alloc (Nat.le_refl _) _ | exact ((((Below.refl _ _).alloc (Nat.le_refl _) _).setCell (Nat.le_refl _) _).setCell (Nat.le_refl _) _).setCell (Nat.le_refl _) _
end Go.Proofs.YthjanamnkhggfaaDoor
