/- Drawn names and texts: what the calls do: some text, of a few bytes. -/
import Derived.Test.YtgbkpifkmkjbaaaDoorBytes
namespace Go.Proofs.YtgbkpifkmkjbaaaDoor.Draw
open Go.RowKit

theorem Src.drew {w0 : World} {a : Option Addr} {len cap : Nat} {zs : List Int} {w : World} {S : Nat} (h : Src w0 a len cap zs w S) : Src w0 a len cap zs w.drew S := ⟨h.row, h.small, h.below.drew, h.lo, h.obj⟩
/-- A number drawn below most, where most is 1 too. -/
theorem draw_k {w0 : World} {a : Option Addr} {len cap : Nat} {zs : List Int} {w : World} {S : Nat} (hS : Src w0 a len cap zs w S) (most : Int) (hmo : 1 ≤ most) (hmo1 : most ≤ 9223372036854775807) :
    Calls Tryd.prog 67 #[.pointer (some ⟨S, 0, none⟩), .int .i64 most] w fun e w' => ∃ r : Nat, e = .returned (.int .i64 r) ∧ (r : Int) < most ∧ Src w0 a len cap zs w' S ∧ w.grownBy w' (some S) := by
  by_cases h : most = 1
  · refine (draw_n0 S w most (by omega)).mono ?_
    rintro e w' ⟨rfl, rfl⟩
    exact ⟨0, rfl, by omega, hS, World.grownBy.refl _ _⟩
  · refine (draw_n hS most (by omega) hmo1).mono ?_
    rintro e w' ⟨r, rfl, h0, h1, hs, hg⟩
    exact ⟨r.toNat, by rw [Int.toNat_of_nonneg h0], by omega, hs, hg⟩

/-- A text of one byte. -/
theorem str_one (W : World) (x : Int) (h0 : 0 ≤ x) (h1 : x < 256) :
    ∃ F : ByteArray, F.size = 1 ∧ (convert 22 9 (.slice (some ⟨W.heap.size, 0, none⟩) 1 1)).run Tryd.prog (W.alloc (.cells #[.int .u8 x] 5)) = .ok (.string F) (W.alloc (.cells #[.int .u8 x] 5)) := by
  refine ⟨⟨[UInt8.ofNat x.toNat].toArray⟩, rfl, ?_⟩
  have h := run_convert_bytes_back (P := Tryd.prog) (W.alloc (.cells #[.int .u8 x] 5)) 22 9 5 ⟨W.heap.size, 0, none⟩ 1 [UInt8.ofNat x.toNat] Tryd.underlying22 Tryd.underlying5 Tryd.underlying9 (fun j hj => by
    have hj0 : j = 0 := by simpa using hj
    subst hj0
    have hx : ((UInt8.ofNat x.toNat).toNat : Int) = x := by rw [ofNat_byte _ (by omega)]; omega
    have hl := one_cell W (.int .u8 x) 0 _ rfl
    rw [hl]
    show some (Value.int .u8 x) = some (Value.int .u8 ((UInt8.ofNat x.toNat).toNat : Int))
    rw [hx])
  exact h


set_option maxRecDepth 100000 in
set_option maxHeartbeats 4000000 in
/-- A text changed a little: some text, at most one byte longer. -/
theorem draw_spoil {w0 : World} {a : Option Addr} {len cap : Nat} {zs : List Int} {w : World} {S : Nat} (hS : Src w0 a len cap zs w S) (t : ByteArray) (ht : t.size ≤ 1048576) :
    Calls Tryd.prog 65 #[.pointer (some ⟨S, 0, none⟩), .string t] w fun e w' => ∃ s : ByteArray, e = .returned (.string s) ∧ s.size ≤ t.size + 1 ∧ Src w0 a len cap zs w' S ∧ w.grownBy w' (some S) := by
  go_enter Tryd.func65, Tryd.ntmps65
  go_wp2_with fail
  refine (draw_k hS _ (by omega) (by omega)).mono ?_
  rintro e w1 ⟨k, rfl, hk, hs1, hg1⟩
  go_wp2_with fail
  refine (draw_k hs1 17 (by omega) (by omega)).mono ?_
  rintro e w2 ⟨p, rfl, hp, hs2, hg2⟩
  have hp' : p < 17 := by omega
  obtain ⟨G, hG, hcv⟩ := str_one w2 ((⟨#[32, 10, 48, 97, 45, 110, 44, 58, 93, 255, 40, 120, 126, 49, 128, 225, 59]⟩ : ByteArray)[p]'hp').toNat (by omega) (byte_lt _)
  have HS : Hid (∀ o, Src w0 a len cap zs (w2.alloc o) S) := fun o => hs2.alloc o
  have HG : Hid (∀ o, w.grownBy (w2.alloc o) (some S)) := fun o => grown_trans (grown_trans hg1 hg2) (World.grownBy_alloc _ _ _)
  clear hs1 hg1 hs2 hg2
  have hk2 : k ≤ t.size := by omega
  obtain ⟨P1, hP1, hsl1⟩ : ∃ P1 : ByteArray, P1.size = k ∧ ∀ W : World, (Instr.slice 9 (.string t) none (some (.int .i64 (k : Int))) none).run Tryd.prog W = .ok (.string P1) W :=
    ⟨t.extract 0 k, by rw [ByteArray.size_extract]; omega, fun W => by rw [run_slice_string_h (P := Tryd.prog) W 9 t Tryd.underlying9 .i64 (k : Int) (by omega) (by omega), Int.toNat_natCast]⟩
  obtain ⟨P2, hP2, hsl2⟩ : ∃ P2 : ByteArray, P2.size + k = t.size ∧ ∀ W : World, (Instr.slice 9 (.string t) (some (.int .i64 (k : Int))) none none).run Tryd.prog W = .ok (.string P2) W :=
    ⟨t.extract k t.size, by rw [ByteArray.size_extract]; omega, fun W => by rw [run_slice_string_l (P := Tryd.prog) W 9 t Tryd.underlying9 .i64 (k : Int) (by omega) (by omega), Int.toNat_natCast]⟩
  have HP1 : Hid (P1.size = k) := hP1
  have HP2 : Hid (P2.size + k = t.size) := hP2
  have gP1 : P1.size ≤ 1048576 := by omega
  have gP2 : P2.size ≤ 1048576 := by omega
  have gG : G.size ≤ 1 := by omega
  have Hk : Hid (k ≤ t.size) := hk2
  have HGs : Hid (G.size = 1) := hG
  clear hP1 hP2 hG
  by_cases hke : k = t.size
  · have b1 : ((k : Int) == (t.size : Int)) = true := beq_iff_eq.2 (by omega)
    clear hke hk
    go_wp2_with fail
    go_region
    all_goals go_wp2_with fail
    go_ret
    refine ⟨_, rfl, ?_, (HS.out _).drew, grown_drew (HG.out _)⟩
    rw [ByteArray.size_append, ByteArray.size_append, HP1.out, HGs.out]
    have := HP2.out
    omega
  · have b1 : ((k : Int) == (t.size : Int)) = false := beq_eq_false_iff_ne.2 (by omega)
    have hk3 : k + 1 ≤ t.size := by omega
    obtain ⟨P3, hP3, hsl3⟩ : ∃ P3 : ByteArray, P3.size + k + 1 = t.size ∧ ∀ W : World, (Instr.slice 9 (.string t) (some (.int .i64 ((k : Int) + 1))) none none).run Tryd.prog W = .ok (.string P3) W :=
      ⟨t.extract (k + 1) t.size, by rw [ByteArray.size_extract]; omega, fun W => by rw [run_slice_string_l (P := Tryd.prog) W 9 t Tryd.underlying9 .i64 ((k : Int) + 1) (by omega) (by omega), show ((k : Int) + 1).toNat = k + 1 by omega]⟩
    have HP3 : Hid (P3.size + k + 1 = t.size) := hP3
    have gP3 : P3.size ≤ 1048576 := by omega
    clear hke hk hP3
    go_wp2_with fail
    refine (draw_one (HS.out _) 3 (by omega) (by omega)).mono ?_
    rintro e w3 ⟨b, rfl, hs3, hg3⟩
    have HS3 : Hid (Src w0 a len cap zs w3 S) := hs3
    have HG3 : Hid (w.grownBy w3 (some S)) := grown_trans (HG.out _) hg3
    clear hs3 hg3 HS HG hcv
    cases b
    · go_wp2_with fail
      refine (draw_one HS3.out 2 (by omega) (by omega)).mono ?_
      rintro e w4 ⟨b, rfl, hs4, hg4⟩
      have HS4 : Hid (Src w0 a len cap zs w4 S) := hs4
      have HG4 : Hid (w.grownBy w4 (some S)) := grown_trans HG3.out hg4
      clear hs4 hg4 HS3 HG3
      cases b
      · go_wp2_with fail
        go_region
        all_goals go_wp2_with fail
        go_ret
        refine ⟨_, rfl, ?_, HS4.out.drew, grown_drew HG4.out⟩
        rw [ByteArray.size_append, ByteArray.size_append, HP1.out, HGs.out]
        have := HP3.out
        omega
      · go_wp2_with fail
        go_region
        all_goals go_wp2_with fail
        go_ret
        refine ⟨_, rfl, ?_, HS4.out.drew, grown_drew HG4.out⟩
        rw [ByteArray.size_append, HP1.out]
        have := HP3.out
        omega
    · go_wp2_with fail
      go_region
      all_goals go_wp2_with fail
      go_ret
      refine ⟨_, rfl, ?_, HS3.out.drew, grown_drew HG3.out⟩
      rw [ByteArray.size_append, ByteArray.size_append, HP1.out, HGs.out]
      have := HP2.out
      omega

theorem bytes_get (l : List UInt8) (k : Nat) (h : k < l.length) : (Lib.byteCells l).toArray[k]? = some (.int .u8 l[k].toNat) := by
  simp [Lib.byteCells, h]
theorem bytes_set (l : List UInt8) (k : Nat) (c : UInt8) : (Lib.byteCells l).toArray.setIfInBounds k (.int .u8 (c.toNat : Int)) = (Lib.byteCells (l.set k c)).toArray := by
  simp [Lib.byteCells, List.map_set]
theorem made_bytes (w : World) (n : Nat) : (w.alloc (.cells (madeCells #[.int .u8 0] n) 5)).heap[w.heap.size]? = some (.cells (Lib.byteCells (List.replicate n 0)).toArray 5 (0, 0)) := by
  have e : madeCells #[.int .u8 0] n = (Lib.byteCells (List.replicate n 0)).toArray := by
    apply Array.ext'
    rw [toList_madeCells_one]
    simp [Lib.byteCells]
  rw [e]
  exact heap_alloc_new w _
end Go.Proofs.YtgbkpifkmkjbaaaDoor.Draw
