/- Drawn bytes; a number out of a code: what the calls do. -/
import Derived.Test.YtgkfjopbcphnhaaDoorSrc2
import Derived.Test.YtgkfjopbcphnhaaDoorPut
namespace Go.Proofs.YtgkfjopbcphnhaaDoor.Draw
open Go.RowKit

theorem Src.kept {w0 : World} {a : Option Addr} {len cap : Nat} {zs : List Int} {w w' : World} {S : Nat} {row : Option Nat} (h : Src w0 a len cap zs w S) (hg : w.grownBy w' row) (hr : ∀ k, row = some k → w0.heap.size ≤ k) (hne : some S ≠ row) : Src w0 a len cap zs w' S := by
  obtain ⟨hrow, hsm, hbel, hlo, k, m, z, hk, hm0, hm1, hz0, hz1, hobj⟩ := h
  have hlt : S < w.heap.size := (Array.getElem?_eq_some_iff.1 hobj).1
  exact ⟨hrow, hsm, hbel.grown hg hbel.size hr, hlo, k, m, z, hk, hm0, hm1, hz0, hz1, (hg.block S hlt hne).trans hobj⟩
theorem grown_two {w wr w2 : World} {S : Nat} {row : Option Nat} (h : w.grownBy wr (some S)) (h' : wr.grownBy w2 row) (hr : ∀ k, row = some k → w.heap.size ≤ k) : w.grownBy w2 (some S) :=
  ⟨h'.os.trans h.os, h'.tape.trans h.tape, h'.output.trans h.output, Nat.le_trans h.size h'.size, fun k hk hne =>
    (h'.block k (Nat.lt_of_lt_of_le hk h.size) (fun e => by have := hr k e.symm; omega)).trans (h.block k hk hne)⟩


/-- Below most, and nought where most is 1 or less. -/
def Under (most : Int) (r : Nat) : Prop := (1 < most → (r : Int) < most) ∧ (most ≤ 1 → r = 0)
set_option maxRecDepth 100000 in
set_option maxHeartbeats 4000000 in
/-- A number out of a code, below most. -/
theorem lw_at {w0 : World} {a : Option Addr} {len cap : Nat} {zs : List Int} (hrow : IsRow .u8 w0 a len cap zs) (hsm : len ≤ 1048576) (w : World) (hb0 : Below w0.heap.size w0 w) (p : Nat) (hp : p ≤ 1048576) (most : Int) (hm0 : 0 ≤ most) (hm1 : most ≤ 9223372036854775807) :
    Calls Tryd.prog 15 #[.slice a len cap, .int .i64 p, .int .i64 most] w fun e w' => ∃ r : Nat, e = .returned (.int .i64 r) ∧ Under most r ∧ w' = w := by
  by_cases h1 : most ≤ 1
  · have b1 : decide (most ≤ 1) = true := by simpa using h1
    go_enter Tryd.func15, Tryd.ntmps15
    go_wp2
    go_ret
    exact ⟨0, rfl, ⟨by omega, fun _ => rfl⟩, rfl⟩
  · have b1 : decide (most ≤ 1) = false := by simpa using h1
    by_cases h2 : len = 0
    · have b2 : ((len : Int) == 0) = true := beq_iff_eq.2 (by omega)
      have HB : Hid (len = 0) := h2
      clear h2
      go_enter Tryd.func15, Tryd.ntmps15
      go_wp2
      go_ret
      exact ⟨0, rfl, ⟨by omega, fun _ => rfl⟩, rfl⟩
    · have b2 : ((len : Int) == 0) = false := beq_eq_false_iff_ne.2 (by omega)
      obtain ⟨b, off, v, rfl, hv0, hv1, hbl, hlc, hcell⟩ := hrow.byte hb0 (p % len) (Nat.mod_lt _ (by omega))
      have hmlt : p % len < len := Nat.mod_lt _ (by omega)
      obtain ⟨q, hq⟩ : ∃ q, q = p % len := ⟨_, rfl⟩
      rw [← hq] at hcell hmlt
      have eq : (p : Int) % (len : Int) = (q : Int) := by rw [hq]; simp
      have HR : Hid (0 ≤ v % most ∧ v % most < most) := ⟨Int.emod_nonneg _ (by omega), Int.emod_lt_of_pos _ (by omega)⟩
      clear hq hrow hb0
      go_enter Tryd.func15, Tryd.ntmps15
      go_wp2
      go_ret
      refine ⟨(v % most).toNat, ret_int ?_, ⟨fun _ => ?_, by omega⟩, rfl⟩
      · rw [Int.toNat_of_nonneg HR.out.1]
      · rw [Int.toNat_of_nonneg HR.out.1]; exact HR.out.2

end Go.Proofs.YtgkfjopbcphnhaaDoor.Draw
