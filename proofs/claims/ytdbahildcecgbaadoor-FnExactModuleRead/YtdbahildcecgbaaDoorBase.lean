/- Common ground of this seat's walks: plain facts on bytes, numbers and lists. -/
import Derived.Test.YtdbahildcecgbaaDoorRows
import Derived.WalkKit
import Derived.ProofKit
import Derived.WalkLawsBesides
namespace Go.Proofs.YtdbahildcecgbaaDoor.Draw
open Go.RowKit

theorem ret_int {k : IntKind} {a b : Int} (h : a = b) : Ending.returned (.int k a) = .returned (.int k b) := by rw [h]
theorem ret_bool {a b : Bool} (h : a = b) : Ending.returned (.bool a) = .returned (.bool b) := by rw [h]
theorem byte_lt (b : UInt8) : (b.toNat : Int) < 256 := by have := b.toNat_lt; omega
theorem take_snoc (s : ByteArray) (k : Nat) (h : k < s.size) : s.data.toList.take (k + 1) = s.data.toList.take k ++ [s[k]] := by
  rw [List.take_succ_eq_append_getElem (by simpa using h)]; rfl
theorem getD_at (s : ByteArray) (k : Nat) (h : k < s.size) : s.data.toList.getD k 0 = s[k] := by
  rw [List.getD_eq_getElem?_getD, List.getElem?_eq_getElem (by simpa using h)]; rfl
theorem below_iter (w : World) (s : ByteArray) (p : Nat) : Below w.heap.size w (w.iter s p) := (Below.refl _ _).alloc (Nat.le_refl _) _

/-- The bytes of a number, seven bits each; the fuel stands for 'at most so many bytes'. -/
def encF : Nat → Nat → List UInt8
  | 0, _ => []
  | f + 1, u => if u < 128 then [UInt8.ofNat u] else UInt8.ofNat (u % 128 + 128) :: encF f (u / 128)
theorem encF_len : ∀ (f u : Nat), (encF f u).length ≤ f
  | 0, _ => by simp [encF]
  | f + 1, u => by
    unfold encF
    split
    · simp
    · have := encF_len f (u / 128); simp; omega
theorem encF_small (f u : Nat) (h : u < 128) : encF (f + 1) u = [UInt8.ofNat u] := by simp [encF, h]
theorem encF_big (f u : Nat) (h : ¬ u < 128) : encF (f + 1) u = UInt8.ofNat (u % 128 + 128) :: encF f (u / 128) := by simp [encF, h]
def foldZ (n : Int) : Int := if n < 0 then -2 * n - 1 else 2 * n
def encN (n : Int) : List UInt8 := encF 10 (foldZ n).toNat
end Go.Proofs.YtdbahildcecgbaaDoor.Draw
