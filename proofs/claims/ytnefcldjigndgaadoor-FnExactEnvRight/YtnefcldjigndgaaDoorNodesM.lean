/- Nodes and Params marked and looked at again: what the laws' helpers do. -/
import Derived.Test.YtnefcldjigndgaaDoorNodes
import Derived.Test.YtnefcldjigndgaaDoorTxs
namespace Go.Proofs.YtnefcldjigndgaaDoor
open Go.RowKit
open Go.Proofs.YtnefcldjigndgaaDoor.Draw

/-- What marked nodes' cells read. -/
def mkN (k0 : Nat) (j : Nat) : Value := if j % 5 = 0 then .int .i64 ((k0 + j : Nat) : Int) else if j % 5 = 1 then .string (mtx (k0 + j)) else if j % 5 = 2 then .string (mtx (k0 + j)) else if j % 5 = 3 then .int .i64 ((k0 + j : Nat) : Int) else .int .i64 ((k0 + j : Nat) : Int)
theorem mkN_at (k0 i : Nat) : mkN k0 (i * 5) = .int .i64 ((k0 + i * 5 : Nat) : Int) ∧ mkN k0 (i * 5 + 1) = .string (mtx (k0 + i * 5 + 1)) ∧ mkN k0 (i * 5 + 2) = .string (mtx (k0 + i * 5 + 2)) ∧ mkN k0 (i * 5 + 3) = .int .i64 ((k0 + i * 5 + 3 : Nat) : Int) ∧ mkN k0 (i * 5 + 4) = .int .i64 ((k0 + i * 5 + 4 : Nat) : Int) := by
  refine ⟨?_, ?_, ?_, ?_, ?_⟩
  · rw [mkN, if_pos (by omega)]
  · rw [mkN, if_neg (by omega), if_pos (by omega)]; rfl
  · rw [mkN, if_neg (by omega), if_neg (by omega), if_pos (by omega)]; rfl
  · rw [mkN, if_neg (by omega), if_neg (by omega), if_neg (by omega), if_pos (by omega)]; rfl
  · rw [mkN, if_neg (by omega), if_neg (by omega), if_neg (by omega), if_neg (by omega)]; rfl
theorem mkN_fun {F G G0 : Nat → Value} {I : Nat} (h0 : G0 = fun j => if j < I * 5 then G j else F j) {v0 v1 v2 v3 v4 : Value} (e0 : G (I * 5) = v0) (e1 : G (I * 5 + 1) = v1) (e2 : G (I * 5 + 2) = v2) (e3 : G (I * 5 + 3) = v3) (e4 : G (I * 5 + 4) = v4) {j : Nat} :
    (if j = I * 5 + 4 then v4 else if j = I * 5 + 3 then v3 else if j = I * 5 + 2 then v2 else if j = I * 5 + 1 then v1 else if j = I * 5 then v0 else G0 j) = if j < (I + 1) * 5 then G j else F j := by
  rw [h0]
  by_cases c4 : j = I * 5 + 4
  · rw [if_pos c4, if_pos (by omega), c4, e4]
  rw [if_neg c4]
  by_cases c3 : j = I * 5 + 3
  · rw [if_pos c3, if_pos (by omega), c3, e3]
  rw [if_neg c3]
  by_cases c2 : j = I * 5 + 2
  · rw [if_pos c2, if_pos (by omega), c2, e2]
  rw [if_neg c2]
  by_cases c1 : j = I * 5 + 1
  · rw [if_pos c1, if_pos (by omega), c1, e1]
  rw [if_neg c1]
  by_cases c0 : j = I * 5
  · rw [if_pos c0, if_pos (by omega), c0, e0]
  rw [if_neg c0]
  show (if j < I * 5 then G j else F j) = _
  by_cases c : j < I * 5
  · rw [if_pos c, if_pos (by omega)]
  · rw [if_neg c, if_neg (by omega)]
/-- What marked params' cells read. -/
def mkP (k0 : Nat) (j : Nat) : Value := if j % 4 = 0 then .string (mtx (k0 + j)) else if j % 4 = 1 then .int .i64 ((k0 + j : Nat) : Int) else if j % 4 = 2 then .int .i64 ((k0 + j : Nat) : Int) else .int .i64 ((k0 + j : Nat) : Int)
theorem mkP_at (k0 i : Nat) : mkP k0 (i * 4) = .string (mtx (k0 + i * 4)) ∧ mkP k0 (i * 4 + 1) = .int .i64 ((k0 + i * 4 + 1 : Nat) : Int) ∧ mkP k0 (i * 4 + 2) = .int .i64 ((k0 + i * 4 + 2 : Nat) : Int) ∧ mkP k0 (i * 4 + 3) = .int .i64 ((k0 + i * 4 + 3 : Nat) : Int) := by
  refine ⟨?_, ?_, ?_, ?_⟩
  · rw [mkP, if_pos (by omega)]
  · rw [mkP, if_neg (by omega), if_pos (by omega)]; rfl
  · rw [mkP, if_neg (by omega), if_neg (by omega), if_pos (by omega)]; rfl
  · rw [mkP, if_neg (by omega), if_neg (by omega), if_neg (by omega)]; rfl
theorem mkP_fun {F G G0 : Nat → Value} {I : Nat} (h0 : G0 = fun j => if j < I * 4 then G j else F j) {v0 v1 v2 v3 : Value} (e0 : G (I * 4) = v0) (e1 : G (I * 4 + 1) = v1) (e2 : G (I * 4 + 2) = v2) (e3 : G (I * 4 + 3) = v3) {j : Nat} :
    (if j = I * 4 + 3 then v3 else if j = I * 4 + 2 then v2 else if j = I * 4 + 1 then v1 else if j = I * 4 then v0 else G0 j) = if j < (I + 1) * 4 then G j else F j := by
  rw [h0]
  by_cases c3 : j = I * 4 + 3
  · rw [if_pos c3, if_pos (by omega), c3, e3]
  rw [if_neg c3]
  by_cases c2 : j = I * 4 + 2
  · rw [if_pos c2, if_pos (by omega), c2, e2]
  rw [if_neg c2]
  by_cases c1 : j = I * 4 + 1
  · rw [if_pos c1, if_pos (by omega), c1, e1]
  rw [if_neg c1]
  by_cases c0 : j = I * 4
  · rw [if_pos c0, if_pos (by omega), c0, e0]
  rw [if_neg c0]
  show (if j < I * 4 then G j else F j) = _
  by_cases c : j < I * 4
  · rw [if_pos c, if_pos (by omega)]
  · rw [if_neg c, if_neg (by omega)]
theorem OwnR.nodes {w : World} {a : Option Addr} {n : Nat} {L : Nat → Nd} (h : OwnR w a n 5 (nodeF L)) : NodesAt w a n L := by
  rcases h with h | ⟨g, rfl, hO⟩
  · exact Or.inl h
  · exact hO.nodes
theorem OwnR.params {w : World} {a : Option Addr} {n : Nat} {L : Nat → Pm} (h : OwnR w a n 4 (paramF L)) : ParamsAt w a n L := by
  rcases h with h | ⟨g, rfl, hO⟩
  · exact Or.inl h
  · exact hO.params
end Go.Proofs.YtnefcldjigndgaaDoor
