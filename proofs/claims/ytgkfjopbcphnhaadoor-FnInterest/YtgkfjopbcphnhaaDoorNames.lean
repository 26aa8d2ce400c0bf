/- Drawn names and texts: what the calls do: some text, of a few bytes. -/
import Derived.Test.YtgkfjopbcphnhaaDoorBytes
namespace Go.Proofs.YtgkfjopbcphnhaaDoor.Draw
open Go.RowKit

theorem Src.drew {w0 : World} {a : Option Addr} {len cap : Nat} {zs : List Int} {w : World} {S : Nat} (h : Src w0 a len cap zs w S) : Src w0 a len cap zs w.drew S := ⟨h.row, h.small, h.below.drew, h.lo, h.obj⟩
/-- A number drawn below most, where most is 1 too. -/
theorem draw_k {w0 : World} {a : Option Addr} {len cap : Nat} {zs : List Int} {w : World} {S : Nat} (hS : Src w0 a len cap zs w S) (most : Int) (hmo : 1 ≤ most) (hmo1 : most ≤ 9223372036854775807) :
    Calls Tryd.prog 36 #[.pointer (some ⟨S, 0, none⟩), .int .i64 most] w fun e w' => ∃ r : Nat, e = .returned (.int .i64 r) ∧ (r : Int) < most ∧ Src w0 a len cap zs w' S ∧ w.grownBy w' (some S) := by
  by_cases h : most = 1
  · refine (draw_n0 S w most (by omega)).mono ?_
    rintro e w' ⟨rfl, rfl⟩
    exact ⟨0, rfl, by omega, hS, World.grownBy.refl _ _⟩
  · refine (draw_n hS most (by omega) hmo1).mono ?_
    rintro e w' ⟨r, rfl, h0, h1, hs, hg⟩
    exact ⟨r.toNat, by rw [Int.toNat_of_nonneg h0], by omega, hs, hg⟩

/-- A text of one byte. -/
theorem str_one (W : World) (x : Int) (h0 : 0 ≤ x) (h1 : x < 256) :
    ∃ F : ByteArray, F.size = 1 ∧ (convert 22 9 (.slice (some ⟨W.heap.size, 0, none⟩) 1 1)).run Tryd.prog (W.alloc (.cells #[.int .u8 x] 5)) = .ok (.string F) (W.alloc (.cells #[.int .u8 x] 5)) := by
  refine ⟨⟨[UInt8.ofNat x.toNat].toArray⟩, rfl, ?_⟩
  have h := run_convert_bytes_back (P := Tryd.prog) (W.alloc (.cells #[.int .u8 x] 5)) 22 9 5 ⟨W.heap.size, 0, none⟩ 1 [UInt8.ofNat x.toNat] Tryd.underlying22 Tryd.underlying5 Tryd.underlying9 (fun j hj => by
    have hj0 : j = 0 := by simpa using hj
    subst hj0
    have hx : ((UInt8.ofNat x.toNat).toNat : Int) = x := by rw [ofNat_byte _ (by omega)]; omega
    have hl := one_cell W (.int .u8 x) 0 _ rfl
    rw [hl]
    show some (Value.int .u8 x) = some (Value.int .u8 ((UInt8.ofNat x.toNat).toNat : Int))
    rw [hx])
  exact h



theorem bytes_get (l : List UInt8) (k : Nat) (h : k < l.length) : (Lib.byteCells l).toArray[k]? = some (.int .u8 l[k].toNat) := by
  simp [Lib.byteCells, h]
theorem bytes_set (l : List UInt8) (k : Nat) (c : UInt8) : (Lib.byteCells l).toArray.setIfInBounds k (.int .u8 (c.toNat : Int)) = (Lib.byteCells (l.set k c)).toArray := by
  simp [Lib.byteCells, List.map_set]
theorem made_bytes (w : World) (n : Nat) : (w.alloc (.cells (madeCells #[.int .u8 0] n) 5)).heap[w.heap.size]? = some (.cells (Lib.byteCells (List.replicate n 0)).toArray 5 (0, 0)) := by
  have e : madeCells #[.int .u8 0] n = (Lib.byteCells (List.replicate n 0)).toArray := by
    apply Array.ext'
    rw [toList_madeCells_one]
    simp [Lib.byteCells]
  rw [e]
  exact heap_alloc_new w _
end Go.Proofs.YtgkfjopbcphnhaaDoor.Draw
