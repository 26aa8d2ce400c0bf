/- Drawn names and texts: what the calls do: some text, of a few bytes. -/
import Derived.Test.YtmeffdggpdojhaaDoorBytes
namespace Go.Proofs.YtmeffdggpdojhaaDoor.Draw
open Go.RowKit

theorem Src.drew {w0 : World} {a : Option Addr} {len cap : Nat} {zs : List Int} {w : World} {S : Nat} (h : Src w0 a len cap zs w S) : Src w0 a len cap zs w.drew S := ⟨h.row, h.small, h.below.drew, h.lo, h.obj⟩
/-- A number drawn below most, where most is 1 too. -/
theorem draw_k {w0 : World} {a : Option Addr} {len cap : Nat} {zs : List Int} {w : World} {S : Nat} (hS : Src w0 a len cap zs w S) (most : Int) (hmo : 1 ≤ most) (hmo1 : most ≤ 9223372036854775807) :
    Calls Tryd.prog 61 #[.pointer (some ⟨S, 0, none⟩), .int .i64 most] w fun e w' => ∃ r : Nat, e = .returned (.int .i64 r) ∧ (r : Int) < most ∧ Src w0 a len cap zs w' S ∧ w.grownBy w' (some S) := by
  by_cases h : most = 1
  · refine (draw_n0 S w most (by omega)).mono ?_
    rintro e w' ⟨rfl, rfl⟩
    exact ⟨0, rfl, by omega, hS, World.grownBy.refl _ _⟩
  · refine (draw_n hS most (by omega) hmo1).mono ?_
    rintro e w' ⟨r, rfl, h0, h1, hs, hg⟩
    exact ⟨r.toNat, by rw [Int.toNat_of_nonneg h0], by omega, hs, hg⟩

/-- A text of one byte. -/
theorem str_one (W : World) (x : Int) (h0 : 0 ≤ x) (h1 : x < 256) :
    ∃ F : ByteArray, F.size = 1 ∧ (convert 22 9 (.slice (some ⟨W.heap.size, 0, none⟩) 1 1)).run Tryd.prog (W.alloc (.cells #[.int .u8 x] 5)) = .ok (.string F) (W.alloc (.cells #[.int .u8 x] 5)) := by
  refine ⟨⟨[UInt8.ofNat x.toNat].toArray⟩, rfl, ?_⟩
  have h := run_convert_bytes_back (P := Tryd.prog) (W.alloc (.cells #[.int .u8 x] 5)) 22 9 5 ⟨W.heap.size, 0, none⟩ 1 [UInt8.ofNat x.toNat] Tryd.underlying22 Tryd.underlying5 Tryd.underlying9 (fun j hj => by
    have hj0 : j = 0 := by simpa using hj
    subst hj0
    have hx : ((UInt8.ofNat x.toNat).toNat : Int) = x := by rw [ofNat_byte _ (by omega)]; omega
    have hl := one_cell W (.int .u8 x) 0 _ rfl
    rw [hl]
    show some (Value.int .u8 x) = some (Value.int .u8 ((UInt8.ofNat x.toNat).toNat : Int))
    rw [hx])
  exact h

set_option maxRecDepth 100000 in
set_option maxHeartbeats 4000000 in
/-- A drawn name: a few bytes. -/
theorem draw_name {w0 : World} {a : Option Addr} {len cap : Nat} {zs : List Int} {w : World} {S : Nat} (hS : Src w0 a len cap zs w S) :
    Calls Tryd.prog 58 #[.pointer (some ⟨S, 0, none⟩)] w fun e w' => ∃ s : ByteArray, e = .returned (.string s) ∧ s.size ≤ 4 ∧ Src w0 a len cap zs w' S ∧ w.grownBy w' (some S) := by
  go_enter Tryd.func58, Tryd.ntmps58
  go_wp2_with fail
  refine (draw_k hS 6 (by omega) (by omega)).mono ?_
  rintro e w1 ⟨r, rfl, hr, hs1, hg1⟩
  obtain ⟨F, hF, hcv⟩ := str_one w1 (97 + (r : Int)) (by omega) (by omega)
  have HS : Hid (Src w0 a len cap zs (w1.alloc (.cells #[.int .u8 (97 + (r : Int))] 5)) S) := hs1.alloc _
  have HG : Hid (w.grownBy (w1.alloc (.cells #[.int .u8 (97 + (r : Int))] 5)) (some S)) := grown_trans hg1 (World.grownBy_alloc _ _ _)
  clear hs1 hg1
  go_wp2_with fail
  refine (draw_k HS.out 4 (by omega) (by omega)).mono ?_
  rintro e w2 ⟨q, rfl, hq, hs2, hg2⟩
  have HS2 : Hid (Src w0 a len cap zs w2 S) := hs2
  have HG2 : Hid (w.grownBy w2 (some S)) := grown_trans HG.out hg2
  have HF : Hid (F.size = 1) := hF
  clear hs2 hg2 HS HG hcv hF
  go_wp2_with fail
  go_loopw [3, 4] (fun t i wr => ∃ (k : Nat) (s : ByteArray), i = .int .i64 k ∧ t = .string s ∧ s.size + k ≤ 4 ∧ Hid (Src w0 a len cap zs wr S) ∧ Hid (w.grownBy wr (some S))) (fun _ i _ => (intOf i).toNat)
  case atStart => exact ⟨q, F, rfl, rfl, by rw [HF.out]; omega, HS2, HG2⟩
  case round =>
    obtain ⟨k, s, rfl, rfl, hk, Hs, Hg⟩ := hrel
    by_cases hpos : 0 < k
    · go_wp2_with fail
      refine (draw_k Hs.out 10 (by omega) (by omega)).mono ?_
      rintro e w3 ⟨p, rfl, hp, hs3, hg3⟩
      have hp' : p < 10 := by omega
      have HS3 : Hid (Src w0 a len cap zs w3 S) := hs3
      have HG3 : Hid (w.grownBy w3 (some S)) := grown_trans Hg.out hg3
      obtain ⟨G, hG, hcv3⟩ := str_one w3 ((⟨#[97, 98, 99, 100, 101, 102, 48, 49, 57, 45]⟩ : ByteArray)[p]'hp').toNat (by omega) (byte_lt _)
      have HS4 : Hid (∀ o, Src w0 a len cap zs (w3.alloc o) S) := fun o => HS3.out.alloc o
      have HG4 : Hid (∀ o, w.grownBy (w3.alloc o) (some S)) := fun o => grown_trans HG3.out (World.grownBy_alloc _ _ _)
      clear hs3 hg3 Hs Hg HS3 HG3
      go_wp2_with fail
      go_roundw
      case rel => exact ⟨k - 1, s ++ G, by go_num, rfl, by rw [ByteArray.size_append, hG]; omega, HS4.out _, HG4.out _⟩
      case measure => simp [intOf]; omega
    · go_wp2_with fail
      go_ret
      exact ⟨s, rfl, by omega, Hs.out, Hg.out⟩


theorem bytes_get (l : List UInt8) (k : Nat) (h : k < l.length) : (Lib.byteCells l).toArray[k]? = some (.int .u8 l[k].toNat) := by
  simp [Lib.byteCells, h]
theorem bytes_set (l : List UInt8) (k : Nat) (c : UInt8) : (Lib.byteCells l).toArray.setIfInBounds k (.int .u8 (c.toNat : Int)) = (Lib.byteCells (l.set k c)).toArray := by
  simp [Lib.byteCells, List.map_set]
theorem made_bytes (w : World) (n : Nat) : (w.alloc (.cells (madeCells #[.int .u8 0] n) 5)).heap[w.heap.size]? = some (.cells (Lib.byteCells (List.replicate n 0)).toArray 5 (0, 0)) := by
  have e : madeCells #[.int .u8 0] n = (Lib.byteCells (List.replicate n 0)).toArray := by
    apply Array.ext'
    rw [toList_madeCells_one]
    simp [Lib.byteCells]
  rw [e]
  exact heap_alloc_new w _
end Go.Proofs.YtmeffdggpdojhaaDoor.Draw
