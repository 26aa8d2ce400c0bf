/- Drawn bytes; a number out of a code: what the calls do. -/
import Derived.Test.YthjanamnkhggfaaDoorSrc2
import Derived.Test.YthjanamnkhggfaaDoorPut
namespace Go.Proofs.YthjanamnkhggfaaDoor.Draw
open Go.RowKit

theorem Src.kept {w0 : World} {a : Option Addr} {len cap : Nat} {zs : List Int} {w w' : World} {S : Nat} {row : Option Nat} (h : Src w0 a len cap zs w S) (hg : w.grownBy w' row) (hr : ∀ k, row = some k → w0.heap.size ≤ k) (hne : some S ≠ row) : Src w0 a len cap zs w' S := by
  obtain ⟨hrow, hsm, hbel, hlo, k, m, z, hk, hm0, hm1, hz0, hz1, hobj⟩ := h
  have hlt : S < w.heap.size := (Array.getElem?_eq_some_iff.1 hobj).1
  exact ⟨hrow, hsm, hbel.grown hg hbel.size hr, hlo, k, m, z, hk, hm0, hm1, hz0, hz1, (hg.block S hlt hne).trans hobj⟩
theorem grown_two {w wr w2 : World} {S : Nat} {row : Option Nat} (h : w.grownBy wr (some S)) (h' : wr.grownBy w2 row) (hr : ∀ k, row = some k → w.heap.size ≤ k) : w.grownBy w2 (some S) :=
  ⟨h'.os.trans h.os, h'.tape.trans h.tape, h'.output.trans h.output, Nat.le_trans h.size h'.size, fun k hk hne =>
    (h'.block k (Nat.lt_of_lt_of_le hk h.size) (fun e => by have := hr k e.symm; omega)).trans (h.block k hk hne)⟩

set_option maxRecDepth 100000 in
set_option maxHeartbeats 4000000 in
/-- So many drawn bytes. -/
theorem draw_bytes {w0 : World} {a : Option Addr} {len cap : Nat} {zs : List Int} {w : World} {S : Nat} (hS : Src w0 a len cap zs w S) (n : Nat) (hn : n ≤ 1048576) :
    Calls Tryd.prog 60 #[.pointer (some ⟨S, 0, none⟩), .int .i64 n] w fun e w' => ∃ l : List UInt8, e = .returned (.string ⟨l.toArray⟩) ∧ l.length = n ∧ Src w0 a len cap zs w' S ∧ w.grownBy w' (some S) := by
  obtain ⟨i0, hi, hz0, hz1, hz2⟩ := info_parts info5
  have hSlt := hS.lt
  have Hlo : Hid (w0.heap.size ≤ w.heap.size) := Nat.le_trans hS.lo (Nat.le_of_lt hSlt)
  have HS : Hid (Src w0 a len cap zs w S) := hS
  clear hS
  go_enter Tryd.func60, Tryd.ntmps60
  go_wp2_with fail
  go_loopw [5, 6] (fun v i wr => ∃ (k : Nat) (l : List UInt8), i = .int .i64 k ∧ k ≤ n ∧ l.length = k ∧ wr.ownsRow w.heap.size 5 1 v l.length (Lib.byteCells l) ∧ Hid (Src w0 a len cap zs wr S) ∧ Hid (w.grownBy wr (some S))) (fun _ i _ => n - (intOf i).toNat)
  case atStart =>
    exact ⟨0, [], rfl, by omega, rfl, World.ownsRow_made w #[] 0 (Nat.le_refl _) (by unfold maxLen; omega) rfl, HS.out.alloc _, World.grownBy_alloc w _ _⟩
  case round =>
    obtain ⟨k, l, rfl, hk, hll, hown, Hs, Hg⟩ := hrel
    have hsz := Hg.out.size
    by_cases hlt : k < n
    · go_wp2_with fail
      refine (draw_n Hs.out 256 (by omega) (by omega)).mono ?_
      rintro e w1 ⟨r, rfl, hr0, hr1, hs1, hg1⟩
      obtain ⟨R, rfl⟩ : ∃ R : Nat, r = R := ⟨r.toNat, by omega⟩
      have hown1 : w1.ownsRow w.heap.size 5 1 u5 l.length (Lib.byteCells l) := hown.kept hg1 (Or.inr (fun e => by have := (hown.lt S e).1; omega))
      have HG1 : Hid (w.grownBy w1 (some S)) := grown_trans Hg.out hg1
      have HS1 : Hid (Src w0 a len cap zs w1 S) := hs1
      have hsz1 := hg1.size
      clear hown hg1 hs1 Hs Hg
      go_wp2_with (at_builtin; refine wpList_append_own _ rfl (.tmp 13) (.tmp 17) 22 rfl w.heap.size 5 i0 (.int .u8 0) 1 1 Tryd.underlying22 hi hz0 hz1 hz2 rfl (by decide) _ _ _ rfl (hown1.alloc _) ⟨w1.heap.size, 0, none⟩ 1 1 [.int .u8 R] rfl rfl ?c1 ?c2 ?c3 ?c4 ?c5 ?_)
      case c1 => exact one_cell _ _
      case c2 => exact one_one _ _
      case c3 => unfold maxLen; omega
      case c4 => omega
      case c5 => simp; omega
      intro v' w2 hown' hgrow _
      have hrows : ∀ g, u5.ownBlock = some g → w.heap.size ≤ g := fun g hg => (hown1.lt g hg).1
      have HS2 : Hid (Src w0 a len cap zs w2 S) := (HS1.out.alloc _).kept hgrow (fun g hg => Nat.le_trans Hlo.out (hrows g hg)) (fun e => by have := hrows S e.symm; omega)
      have HG2 : Hid (w.grownBy w2 (some S)) := grown_two (grown_trans HG1.out (World.grownBy_alloc w1 _ _)) hgrow hrows
      have hown2 : w2.ownsRow w.heap.size 5 1 v' (l ++ [UInt8.ofNat R]).length (Lib.byteCells (l ++ [UInt8.ofNat R])) := by
        have e : Lib.byteCells (l ++ [UInt8.ofNat R]) = Lib.byteCells l ++ [.int .u8 (R : Int)] := by
          rw [Lib.byteCells_append, ← ofNat_byte R (by omega)]; rfl
        rw [e, List.length_append, hll]
        exact hown'
      clear hown' hgrow hown1 HS1 HG1 hrows
      go_wp2_with fail
      go_roundw
      case rel => exact ⟨k + 1, l ++ [UInt8.ofNat R], by go_num, by omega, by simp; omega, hown2, HS2, HG2⟩
      case measure => simp [intOf]; omega
    · have hcv := str_of_own hown
      clear hown
      go_wp2_with fail
      go_ret
      exact ⟨l, rfl, by omega, Hs.out, Hg.out⟩

/-- Below most, and nought where most is 1 or less. -/
def Under (most : Int) (r : Nat) : Prop := (1 < most → (r : Int) < most) ∧ (most ≤ 1 → r = 0)
set_option maxRecDepth 100000 in
set_option maxHeartbeats 4000000 in
/-- A number out of a code, below most. -/
theorem lw_at {w0 : World} {a : Option Addr} {len cap : Nat} {zs : List Int} (hrow : IsRow .u8 w0 a len cap zs) (hsm : len ≤ 1048576) (w : World) (hb0 : Below w0.heap.size w0 w) (p : Nat) (hp : p ≤ 1048576) (most : Int) (hm0 : 0 ≤ most) (hm1 : most ≤ 9223372036854775807) :
    Calls Tryd.prog 23 #[.slice a len cap, .int .i64 p, .int .i64 most] w fun e w' => ∃ r : Nat, e = .returned (.int .i64 r) ∧ Under most r ∧ w' = w := by
  by_cases h1 : most ≤ 1
  · have b1 : decide (most ≤ 1) = true := by simpa using h1
    go_enter Tryd.func23, Tryd.ntmps23
    go_wp2
    go_ret
    exact ⟨0, rfl, ⟨by omega, fun _ => rfl⟩, rfl⟩
  · have b1 : decide (most ≤ 1) = false := by simpa using h1
    by_cases h2 : len = 0
    · have b2 : ((len : Int) == 0) = true := beq_iff_eq.2 (by omega)
      have HB : Hid (len = 0) := h2
      clear h2
      go_enter Tryd.func23, Tryd.ntmps23
      go_wp2
      go_ret
      exact ⟨0, rfl, ⟨by omega, fun _ => rfl⟩, rfl⟩
    · have b2 : ((len : Int) == 0) = false := beq_eq_false_iff_ne.2 (by omega)
      obtain ⟨b, off, v, rfl, hv0, hv1, hbl, hlc, hcell⟩ := hrow.byte hb0 (p % len) (Nat.mod_lt _ (by omega))
      have hmlt : p % len < len := Nat.mod_lt _ (by omega)
      obtain ⟨q, hq⟩ : ∃ q, q = p % len := ⟨_, rfl⟩
      rw [← hq] at hcell hmlt
      have eq : (p : Int) % (len : Int) = (q : Int) := by rw [hq]; simp
      have HR : Hid (0 ≤ v % most ∧ v % most < most) := ⟨Int.emod_nonneg _ (by omega), Int.emod_lt_of_pos _ (by omega)⟩
      clear hq hrow hb0
      go_enter Tryd.func23, Tryd.ntmps23
      go_wp2
      go_ret
      refine ⟨(v % most).toNat, ret_int ?_, ⟨fun _ => ?_, by omega⟩, rfl⟩
      · rw [Int.toNat_of_nonneg HR.out.1]
      · rw [Int.toNat_of_nonneg HR.out.1]; exact HR.out.2

end Go.Proofs.YthjanamnkhggfaaDoor.Draw
