/- One more place that is come to, as mathematics: what it does to the levels and to the places that wait (no program in it). -/
import Derived.Test.YtdbahildcecgbaaDoorCodeM
namespace Go.Proofs.YtdbahildcecgbaaDoor

/-- A place is come to at a height: it is new, and waits from now on; or it has that height already. -/
def Stp (lv : Nat → Int) (W : List Nat) (lv' : Nat → Int) (W' : List Nat) (k : Nat) (h : Int) : Prop :=
  (lv k < 0 ∧ lv' = putL lv k h ∧ W' = W ++ [k]) ∨ (lv k = h ∧ lv' = lv ∧ W' = W)
/-- It can't be come to so. -/
def NoStp (n : Nat) (lv : Nat → Int) (k : Nat) (h : Int) : Prop := n ≤ k ∨ 60 < h ∨ (k < n ∧ 0 ≤ lv k ∧ lv k ≠ h)
structure Wts (n : Nat) (lv : Nat → Int) (W : List Nat) : Prop where
  all : ∀ j ∈ W, j < n ∧ 0 ≤ lv j
theorem Stp.climb {L : Nat → In} {n : Nat} {lv lv' : Nat → Int} {W W' : List Nat} {k : Nat} {h : Int} {Q : Nat → Prop} (s : Stp lv W lv' W' k h) (hc : Climb L n lv (fun j => j ∈ W ∨ Q j)) (hw : Wts n lv W) (hr : Rch L k h) (h0 : 0 ≤ h) (h6 : h ≤ 60) (hk : k < n) :
    Climb L n lv' (fun j => j ∈ W' ∨ Q j) ∧ Wts n lv' W' ∧ lv' k = h ∧ (∀ j, 0 ≤ lv j → lv' j = lv j) ∧ 2 * unl lv' n + W'.length ≤ 2 * unl lv n + W.length := by
  rcases s with ⟨s1, rfl, rfl⟩ | ⟨s1, rfl, rfl⟩
  · have ne : ∀ j, 0 ≤ lv j → putL lv k h j = lv j := fun j hj => by
      unfold putL; rw [if_neg]; intro e; subst e; omega
    refine ⟨(hc.mark s1 hr h6 h0).wider (fun j hj => ?_), ⟨fun j hj => ?_⟩, by simp [putL], ne, ?_⟩
    · rcases hj with (hj | hj) | hj
      · exact Or.inl (List.mem_append_left _ hj)
      · exact Or.inr hj
      · exact Or.inl (by rw [hj]; simp)
    · rcases List.mem_append.1 hj with hj | hj
      · have t := hw.all j hj
        exact ⟨t.1, by rw [ne j t.2]; exact t.2⟩
      · have e : j = k := by simpa using hj
        subst e
        exact ⟨hk, by simp [putL]; exact h0⟩
    · have := unl_put (z := h) hk s1 h0
      rw [List.length_append, List.length_singleton]
      omega
  · exact ⟨hc, hw, s1, fun _ _ => rfl, Nat.le_refl _⟩
theorem NoStp.bad {L : Nat → In} {n : Nat} {lv : Nat → Int} {U : Nat → Prop} {k : Nat} {h : Int} (s : NoStp n lv k h) (hc : Climb L n lv U) (hr : Rch L k h) : ¬ Good L n := by
  rcases s with s | s | ⟨s1, s2, s3⟩
  · exact bad_place hr s
  · exact bad_high hr s
  · exact bad_two (hc.sound k s1 s2).1 hr s3
/-- What following one place does. -/
def Lev (L : Nat → In) (n : Nat) (lv : Nat → Int) (W : List Nat) (b : Bool) (lv' : Nat → Int) (W' : List Nat) : Prop :=
  if b then Climb L n lv' (fun j => j ∈ W') ∧ Wts n lv' W' ∧ 2 * unl lv' n + W'.length ≤ 2 * unl lv n + W.length else ¬ Good L n
theorem Climb.iff {L : Nat → In} {n : Nat} {lv : Nat → Int} {U V : Nat → Prop} (h : Climb L n lv U) (e : ∀ k, U k ↔ V k) : Climb L n lv V := h.wider (fun k hk => (e k).1 hk)
/-- The place k is followed: no way on but to the next one, to its jump, to both or to none. -/
theorem lev_done {L : Nat → In} {n : Nat} {lv lv' : Nat → Int} {W W' : List Nat} {k : Nat} (hc : Climb L n lv' (fun j => j ∈ W' ∨ j = k)) (hw : Wts n lv' W') (hs : Shut L n lv' k) (hm : 2 * unl lv' n + W'.length ≤ 2 * unl lv n + W.length) : Lev L n lv W true lv' W' := by
  unfold Lev
  rw [if_pos rfl]
  exact ⟨hc.closed hs (fun j hj => hj.symm), hw, hm⟩
/-- All of it: as one place behind the other is followed until none waits. -/
theorem climb_end {L : Nat → In} {n : Nat} {lv : Nat → Int} (hc : Climb L n lv (fun j => j ∈ ([] : List Nat))) : Climb L n lv (fun _ => False) := hc.wider (fun k hk => by simp at hk)
/-- The last one that waits is taken. -/
theorem climb_pop {L : Nat → In} {n : Nat} {lv : Nat → Int} {W : List Nat} {k : Nat} (hc : Climb L n lv (fun j => j ∈ W ++ [k])) : Climb L n lv (fun j => j ∈ W ∨ j = k) := hc.wider (fun j hj => by
  rcases List.mem_append.1 hj with h | h
  · exact Or.inl h
  · exact Or.inr (by simpa using h))
theorem wts_pop {n : Nat} {lv : Nat → Int} {W : List Nat} {k : Nat} (hw : Wts n lv (W ++ [k])) : Wts n lv W ∧ k < n ∧ 0 ≤ lv k :=
  ⟨⟨fun j hj => hw.all j (List.mem_append_left _ hj)⟩, hw.all k (by simp)⟩
theorem pop_of {W : List Nat} (h : 0 < W.length) : ∃ V k, W = V ++ [k] := ⟨W.dropLast, W.getLast (by intro e; simp [e] at h), (List.dropLast_concat_getLast _).symm⟩
end Go.Proofs.YtdbahildcecgbaaDoor
