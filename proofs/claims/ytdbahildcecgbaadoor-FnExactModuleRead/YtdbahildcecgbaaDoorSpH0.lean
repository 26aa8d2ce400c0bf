/- The model's way through code: what its call does. -/
import Derived.Test.YtdbahildcecgbaaDoorMrI
import Derived.Deep.RegionHeld3
namespace Go.Proofs.YtdbahildcecgbaaDoor
open Go.RowKit
open Go.Proofs.YtdbahildcecgbaaDoor.Draw

def rowN (W : List Nat) : List Value := W.map fun (j : Nat) => Value.int .i64 (j : Int)
theorem rowN_snoc (W : List Nat) (k : Nat) : rowN (W ++ [k]) = rowN W ++ [.int .i64 (k : Int)] := by unfold rowN; rw [List.map_append]; rfl
theorem rowN_len (W : List Nat) : (rowN W).length = W.length := by unfold rowN; rw [List.length_map]
theorem numF_put (lv : Nat → Int) (k : Nat) (z : Int) (j : Nat) : numF (putL lv k z) j = if j = k then .int .i64 z else numF lv j := by
  unfold numF putL; split <;> rfl
/-- Places that one goes on to. -/
def onS (L : Nat → In) (k : Nat) : List Nat := (if endI (L k) = true then [] else [k + 1]) ++ (if jmpI (L k) = true then [(L k).a.toNat] else [])
theorem onS_rch {L : Nat → In} {k : Nat} {h : Int} (hr : Rch L k h) {j : Nat} (hj : j ∈ onS L k) : Rch L j (h - takeI (L k) + putI (L k)) := by
  unfold onS at hj
  rcases List.mem_append.1 hj with hj | hj
  · split at hj
    · simp at hj
    · rename_i he
      have e : j = k + 1 := by simpa using hj
      subst e
      exact hr.next (by simpa using he)
  · split at hj
    · rename_i he
      have e : j = (L k).a.toNat := by simpa using hj
      subst e
      exact hr.jump he
    · simp at hj
theorem onS_shut {L : Nat → In} {n : Nat} {lv : Nat → Int} {k : Nat} {h : Int} (hk : lv k = h) (ht : takeI (L k) ≤ h) (hs : ∀ j ∈ onS L k, j < n ∧ lv j = h - takeI (L k) + putI (L k)) : Shut L n lv k := by
  unfold Shut
  rw [hk]
  refine ⟨ht, fun he => ?_, fun he => ?_⟩
  · exact hs _ (by unfold onS; rw [he]; simp)
  · exact hs _ (by unfold onS; rw [he]; simp)
theorem onS_len (L : Nat → In) (k : Nat) : (onS L k).length ≤ 2 := by
  unfold onS
  split <;> split <;> simp
end Go.Proofs.YtdbahildcecgbaaDoor
