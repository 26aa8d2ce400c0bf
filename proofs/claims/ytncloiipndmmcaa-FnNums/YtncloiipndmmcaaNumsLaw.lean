/- The law FnNums: what its call does. -/
import Derived.Test.YtncloiipndmmcaaSrc2
import Derived.Test.YtncloiipndmmcaaPut
import Derived.Test.YtncloiipndmmcaaGetLaw
import Derived.Test.YtncloiipndmmcaaNumMath
namespace Go.Proofs.Ytncloiipndmmcaa
open Go.RowKit

set_option maxRecDepth 100000 in
set_option maxHeartbeats 4000000 in
theorem draw_putNum {w0 : World} {a : Option Addr} {len cap : Nat} {zs : List Int} (hrow : IsRow .u8 w0 a len cap zs) (hsm : len ≤ 1048576) (w : World) (hb0 : Below w0.heap.size w0 w) :
    Calls Try.prog 6 #[.slice a len cap] w fun e w' => ∃ r : Int, e = .returned (.int .i64 r) ∧ -9223372036854775808 ≤ r ∧ r ≤ 9223372036854775807 ∧ Below w.heap.size w w' := by
  go_enter Try.func6, Try.ntmps6
  go_wp2_with fail
  refine (draw_source hrow hsm w hb0).mono ?_
  rintro e w1 ⟨S, rfl, hSlo, hs1, hg1⟩
  go_wp2_with fail
  refine (draw_any hs1).mono ?_
  rintro e w2 ⟨r, rfl, h0, h1, hs2, hg2⟩
  go_wp2_with fail
  go_ret
  exact ⟨r, rfl, h0, h1, ((Below.refl w.heap.size w).grown hg1 (Nat.le_refl _) (fun k hk => by cases hk)).grown hg2 hg1.size (fun k hk => by cases hk; exact hSlo)⟩

theorem xyz_list (E : ByteArray) : (⟨#[120, 121]⟩ ++ E ++ ⟨#[122]⟩ : ByteArray).data.toList = [120, 121] ++ E.data.toList ++ [122] := by
  rw [ByteArray.data_append, ByteArray.data_append]
  simp
theorem got_back {E : ByteArray} {n : Int} (hE : E = ⟨(encN n).toArray⟩) (h0 : -9223372036854775808 ≤ n) (h1 : n ≤ 9223372036854775807) : getB (⟨#[120, 121]⟩ ++ E ++ ⟨#[122]⟩) 2 = (n, (E.size : Int) + 2, 0) := by
  have hl : E.data.toList = encN n := by rw [hE]
  have hs : E.size = (encN n).length := by rw [hE]; simp [ByteArray.size]
  have hlen := encF_len 10 (foldZ n).toNat
  have hsz : (⟨#[120, 121]⟩ ++ E ++ ⟨#[122]⟩ : ByteArray).size = (encN n).length + 3 := by
    rw [ByteArray.size_append, ByteArray.size_append, hs]
    simp [ByteArray.size]
    omega
  have h := getB_enc (⟨#[120, 121]⟩ ++ E ++ ⟨#[122]⟩) 2 n h0 h1 (by rw [hsz]; unfold encN; omega) ?_ (by rw [hsz]; omega)
  · rw [show ((2 : Nat) : Int) = 2 from rfl] at h
    rw [h, hs, Int.add_comm]
  · intro j hj
    rw [byteAt_list, xyz_list, hl]
    rw [List.getD_eq_getElem?_getD, List.getD_eq_getElem?_getD, show 2 + j = j + 1 + 1 by omega]
    simp only [List.cons_append, List.nil_append, List.getElem?_cons_succ]
    rw [List.getElem?_append_left hj]
theorem got_cut {E : ByteArray} {n : Int} (hE : E = ⟨(encN n).toArray⟩) (h0 : -9223372036854775808 ≤ n) (h1 : n ≤ 9223372036854775807) : getB (E.extract 0 (E.size - 1)) 0 = (0, 0, 4) := by
  refine getB_cut _ n h0 h1 ?_
  rw [hE]
  simp [ByteArray.size]

set_option maxRecDepth 100000 in
set_option maxHeartbeats 4000000 in
theorem law_nums (a : Option Addr) (len cap : Nat) (zs : List Int) (w : World) (hrow : IsRow .u8 w a len cap zs) :
    Calls Try.prog 3 #[.slice a len cap] w fun e w' => e = .returned (.bool true) ∧ Below w.heap.size w w' := by
  have hlm : len ≤ 9223372036854775807 := by
    rcases hrow with ⟨_, rfl, _⟩ | ⟨x, rfl, hl, hm, _⟩
    · omega
    · unfold maxLen at hm; omega
  by_cases hbig : 1048576 < (len : Int)
  · go_enter Try.func3, Try.ntmps3
    go_wp2_with fail
    go_ret
    exact ⟨rfl, Below.refl _ _⟩
  · go_enter Try.func3, Try.ntmps3
    go_wp2_with fail
    refine (draw_putNum hrow (by omega) w (Below.refl _ _)).mono ?_
    rintro e w1 ⟨n, rfl, h0, h1, hb1⟩
    go_wp2_with fail
    refine (impl_put n _ h0 h1).mono ?_
    rintro e w2 ⟨rfl, hb2⟩
    go_wp2_with fail
    refine (spec_put n _ h0 h1).mono ?_
    rintro e w3 ⟨rfl, hb3⟩
    obtain ⟨E, hE⟩ : ∃ E, E = (⟨(encN n).toArray⟩ : ByteArray) := ⟨_, rfl⟩
    rw [← hE]
    have hEs : E.size = (encN n).length := by rw [hE]; simp [ByteArray.size]
    have hl1 : 1 ≤ E.size := by have := encN_pos n; omega
    have hl2 : E.size ≤ 10 := by have := encF_len 10 (foldZ n).toNat; unfold encN at hEs; omega
    have HE : Hid (E = (⟨(encN n).toArray⟩ : ByteArray)) := hE
    have HEs : Hid (E.size = (encN n).length) := hEs
    clear hE hEs
    have b1 : decide ((E.size : Int) < 1) = false := by simp; omega
    have b2 : decide (10 < (E.size : Int)) = false := by simp; omega
    have hg1 : getB (⟨#[120, 121]⟩ ++ E ++ ⟨#[122]⟩) 2 = (n, (E.size : Int) + 2, 0) := got_back HE.out h0 h1
    have hz1 : (⟨#[120, 121]⟩ ++ E ++ ⟨#[122]⟩ : ByteArray).size ≤ maxLen := by
      rw [ByteArray.size_append, ByteArray.size_append]
      show 2 + E.size + 1 ≤ maxLen
      unfold maxLen
      omega
    have hg2 : getB (E.extract 0 (E.size - 1)) 0 = (0, 0, 4) := got_cut HE.out h0 h1
    have hz2 : (E.extract 0 (E.size - 1)).size ≤ maxLen := by
      unfold maxLen
      rw [ByteArray.size_extract]
      omega
    have H1 := fun w => impl_get _ 2 w hz1 (by omega) (by omega)
    have H2 := fun w => impl_get _ 0 w hz2 (by omega) (by omega)
    simp only [hg1] at H1
    simp only [hg2] at H2
    have hsl : ∀ W : World, (Instr.slice 9 (.string E) none (some (.int .i64 ((E.size : Int) - 1))) none).run Try.prog W = .ok (.string (E.extract 0 (E.size - 1))) W := fun W => by
      have h := run_slice_string_h (P := Try.prog) W 9 E Try.underlying9 .i64 ((E.size : Int) - 1) (by omega) (by omega)
      rw [h, show ((E.size : Int) - 1).toNat = E.size - 1 by omega]
    clear hg1 hg2
    go_wp2_with fail
    refine (H1 _).mono ?_
    rintro e w4 ⟨rfl, hb4⟩
    clear H1
    simp only [numV]
    go_wp2_with fail
    refine (H2 _).mono ?_
    rintro e w5 ⟨rfl, hb5⟩
    clear H2
    simp only [numV]
    have hb : Below w.heap.size w w5 := by
      have s1 := hb1.size; have s2 := hb2.size; have s3 := hb3.size; have s4 := hb4.size
      exact ((((hb1.trans (hb2.mono s1)).trans (hb3.mono (by omega))).trans (hb4.mono (by omega))).alloc (by omega) _).trans (hb5.mono (by simp; omega))
    clear hb1 hb2 hb3 hb4 hb5
    have hfd : ∀ W : World, (Instr.field 26 (.agg #[.int .i64 0, .int .i64 0, .int .i64 4]) 2).run Try.prog W = .ok (.int .i64 4) W := fun _ => by kernel_rfl
    go_wp2_with fail
    go_ret
    exact ⟨rfl, hb⟩
end Go.Proofs.Ytncloiipndmmcaa
