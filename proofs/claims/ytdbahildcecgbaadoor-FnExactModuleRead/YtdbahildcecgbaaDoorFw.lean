/- What the program's two tables hold: the shapes of the instructions, by op; the names of the functions, by number. -/
import Derived.Test.YtdbahildcecgbaaDoorBase
namespace Go.Proofs.YtdbahildcecgbaaDoor
open Go.RowKit
open Go.Proofs.YtdbahildcecgbaaDoor.Draw

def funT : List (List UInt8) := [[], [105, 110, 116, 101, 114, 101, 115, 116], [105, 110, 115, 116, 97, 108, 109, 101, 110, 116], [108, 97, 116, 101, 114], [100, 97, 121, 115], [108, 101, 97, 115, 116], [109, 111, 115, 116], [115, 104, 97, 114, 101]]
def funS (k : Nat) : ByteArray := ⟨(funT.getD k []).toArray⟩
def FunW (w : World) : Prop := ∀ k : Nat, k < 8 → w.cell? ⟨0, k, none⟩ = some (.string (funS k))
theorem FunW.lt {w : World} (h : FunW w) : 0 < w.heap.size := World.block_lt_of_cell? _ _ (h 0 (by omega))
theorem FunW.below {w w' : World} (h : FunW w) (hb : Below w.heap.size w w') : FunW w' := fun k hk => (hb.cell (p := ⟨0, k, none⟩) h.lt).trans (h k hk)
theorem FunW.grown {w w' : World} {b : Option Nat} (h : FunW w) (hg : w.grownBy w' b) (hb : some 0 ≠ b) : FunW w' := fun k hk => (World.cell?_of_block (a := ⟨0, k, none⟩) (hg.block _ h.lt hb)).trans (h k hk)
structure Shp where
  nm : List UInt8
  a : Int
  b : Int
  t : Int
  p : Int
  e : Bool
def shpT : List Shp := [⟨[], 0, 0, 0, 0, false⟩, ⟨[103, 97, 115], 0, 0, 0, 0, false⟩, ⟨[112, 117, 115, 104], 1, 0, 0, 1, false⟩, ⟨[108, 111, 97, 100], 2, 0, 0, 1, false⟩, ⟨[115, 116, 111, 114, 101], 2, 0, 1, 0, false⟩, ⟨[112, 97, 114, 97, 109], 3, 0, 0, 1, false⟩, ⟨[98, 97, 108], 4, 0, 0, 1, false⟩, ⟨[116, 111, 100, 97, 121], 0, 0, 0, 1, false⟩, ⟨[115, 105, 110, 99, 101], 0, 0, 0, 1, false⟩, ⟨[99, 111, 117, 110, 116], 0, 0, 0, 1, false⟩, ⟨[97, 109, 111, 117, 110, 116], 0, 0, 0, 1, false⟩, ⟨[97, 100, 100], 0, 0, 2, 1, false⟩, ⟨[115, 117, 98], 0, 0, 2, 1, false⟩, ⟨[109, 117, 108], 0, 0, 2, 1, false⟩, ⟨[108, 101, 115, 115], 0, 0, 2, 1, false⟩, ⟨[97, 116, 109, 111, 115, 116], 0, 0, 2, 1, false⟩, ⟨[115, 97, 109, 101], 0, 0, 2, 1, false⟩, ⟨[97, 110, 100], 0, 0, 2, 1, false⟩, ⟨[111, 114], 0, 0, 2, 1, false⟩, ⟨[110, 111, 116], 0, 0, 1, 1, false⟩, ⟨[99, 97, 108, 108], 5, 0, 0, 1, false⟩, ⟨[106, 122], 6, 0, 1, 0, false⟩, ⟨[106, 117, 109, 112], 6, 0, 0, 0, true⟩, ⟨[112, 111, 115, 116], 7, 7, 1, 0, false⟩, ⟨[114, 101, 106, 101, 99, 116], 8, 0, 0, 0, true⟩, ⟨[110, 101, 120, 116], 0, 0, 1, 0, false⟩, ⟨[101, 110, 100], 0, 0, 0, 0, true⟩]
def shp (k : Nat) : Shp := shpT.getD k ⟨[], 0, 0, 0, 0, false⟩
def nameO (k : Nat) : ByteArray := ⟨(shp k).nm.toArray⟩
def ShaW (w : World) : Prop := ∀ k : Nat, k < 27 → w.cell? ⟨1, k * 6, none⟩ = some (.string (nameO k)) ∧ w.cell? ⟨1, k * 6 + 1, none⟩ = some (.int .i64 (shp k).a) ∧ w.cell? ⟨1, k * 6 + 2, none⟩ = some (.int .i64 (shp k).b) ∧ w.cell? ⟨1, k * 6 + 3, none⟩ = some (.int .i64 (shp k).t) ∧ w.cell? ⟨1, k * 6 + 4, none⟩ = some (.int .i64 (shp k).p) ∧ w.cell? ⟨1, k * 6 + 5, none⟩ = some (.bool (shp k).e)
theorem ShaW.lt {w : World} (h : ShaW w) : 1 < w.heap.size := World.block_lt_of_cell? _ _ (h 0 (by omega)).1
theorem ShaW.below {w w' : World} (h : ShaW w) (hb : Below w.heap.size w w') : ShaW w' := fun k hk => by
  obtain ⟨c0, c1, c2, c3, c4, c5⟩ := h k hk
  exact ⟨(hb.cell (p := ⟨_, _, none⟩) h.lt).trans c0, (hb.cell (p := ⟨_, _, none⟩) h.lt).trans c1, (hb.cell (p := ⟨_, _, none⟩) h.lt).trans c2, (hb.cell (p := ⟨_, _, none⟩) h.lt).trans c3, (hb.cell (p := ⟨_, _, none⟩) h.lt).trans c4, (hb.cell (p := ⟨_, _, none⟩) h.lt).trans c5⟩
theorem ShaW.grown {w w' : World} {b : Option Nat} (h : ShaW w) (hg : w.grownBy w' b) (hb : some 1 ≠ b) : ShaW w' := fun k hk => by
  obtain ⟨c0, c1, c2, c3, c4, c5⟩ := h k hk
  have hk := hg.block _ h.lt hb
  exact ⟨(World.cell?_of_block (a := ⟨_, _, none⟩) hk).trans c0, (World.cell?_of_block (a := ⟨_, _, none⟩) hk).trans c1, (World.cell?_of_block (a := ⟨_, _, none⟩) hk).trans c2, (World.cell?_of_block (a := ⟨_, _, none⟩) hk).trans c3, (World.cell?_of_block (a := ⟨_, _, none⟩) hk).trans c4, (World.cell?_of_block (a := ⟨_, _, none⟩) hk).trans c5⟩
end Go.Proofs.YtdbahildcecgbaaDoor
