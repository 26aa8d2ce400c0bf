/- Drawn names and texts: what the calls do: some text, of a few bytes. -/
import Derived.Test.YtncloiipndmmcaaBytes
namespace Go.Proofs.Ytncloiipndmmcaa
open Go.RowKit

theorem Src.drew {w0 : World} {a : Option Addr} {len cap : Nat} {zs : List Int} {w : World} {S : Nat} (h : Src w0 a len cap zs w S) : Src w0 a len cap zs w.drew S := ⟨h.row, h.small, h.below.drew, h.lo, h.obj⟩
/-- A number drawn below most, where most is 1 too. -/
theorem draw_k {w0 : World} {a : Option Addr} {len cap : Nat} {zs : List Int} {w : World} {S : Nat} (hS : Src w0 a len cap zs w S) (most : Int) (hmo : 1 ≤ most) (hmo1 : most ≤ 9223372036854775807) :
    Calls Try.prog 24 #[.pointer (some ⟨S, 0, none⟩), .int .i64 most] w fun e w' => ∃ r : Nat, e = .returned (.int .i64 r) ∧ (r : Int) < most ∧ Src w0 a len cap zs w' S ∧ w.grownBy w' (some S) := by
  by_cases h : most = 1
  · refine (draw_n0 S w most (by omega)).mono ?_
    rintro e w' ⟨rfl, rfl⟩
    exact ⟨0, rfl, by omega, hS, World.grownBy.refl _ _⟩
  · refine (draw_n hS most (by omega) hmo1).mono ?_
    rintro e w' ⟨r, rfl, h0, h1, hs, hg⟩
    exact ⟨r.toNat, by rw [Int.toNat_of_nonneg h0], by omega, hs, hg⟩

/-- A text of one byte. -/
theorem str_one (W : World) (x : Int) (h0 : 0 ≤ x) (h1 : x < 256) :
    ∃ F : ByteArray, F.size = 1 ∧ (convert 22 9 (.slice (some ⟨W.heap.size, 0, none⟩) 1 1)).run Try.prog (W.alloc (.cells #[.int .u8 x] 5)) = .ok (.string F) (W.alloc (.cells #[.int .u8 x] 5)) := by
  refine ⟨⟨[UInt8.ofNat x.toNat].toArray⟩, rfl, ?_⟩
  have h := run_convert_bytes_back (P := Try.prog) (W.alloc (.cells #[.int .u8 x] 5)) 22 9 5 ⟨W.heap.size, 0, none⟩ 1 [UInt8.ofNat x.toNat] Try.underlying22 Try.underlying5 Try.underlying9 (fun j hj => by
    have hj0 : j = 0 := by simpa using hj
    subst hj0
    have hx : ((UInt8.ofNat x.toNat).toNat : Int) = x := by rw [ofNat_byte _ (by omega)]; omega
    have hl := one_cell W (.int .u8 x) 0 _ rfl
    rw [hl]
    show some (Value.int .u8 x) = some (Value.int .u8 ((UInt8.ofNat x.toNat).toNat : Int))
    rw [hx])
  exact h

set_option maxRecDepth 100000 in
set_option maxHeartbeats 4000000 in
/-- A drawn name: a few bytes. -/
theorem draw_name {w0 : World} {a : Option Addr} {len cap : Nat} {zs : List Int} {w : World} {S : Nat} (hS : Src w0 a len cap zs w S) :
    Calls Try.prog 25 #[.pointer (some ⟨S, 0, none⟩)] w fun e w' => ∃ s : ByteArray, e = .returned (.string s) ∧ s.size ≤ 4 ∧ Src w0 a len cap zs w' S ∧ w.grownBy w' (some S) := by
  go_enter Try.func25, Try.ntmps25
  go_wp2_with fail
  refine (draw_k hS 6 (by omega) (by omega)).mono ?_
  rintro e w1 ⟨r, rfl, hr, hs1, hg1⟩
  obtain ⟨F, hF, hcv⟩ := str_one w1 (97 + (r : Int)) (by omega) (by omega)
  have HS : Hid (Src w0 a len cap zs (w1.alloc (.cells #[.int .u8 (97 + (r : Int))] 5)) S) := hs1.alloc _
  have HG : Hid (w.grownBy (w1.alloc (.cells #[.int .u8 (97 + (r : Int))] 5)) (some S)) := grown_trans hg1 (World.grownBy_alloc _ _ _)
  clear hs1 hg1
  go_wp2_with fail
  refine (draw_k HS.out 4 (by omega) (by omega)).mono ?_
  rintro e w2 ⟨q, rfl, hq, hs2, hg2⟩
  have HS2 : Hid (Src w0 a len cap zs w2 S) := hs2
  have HG2 : Hid (w.grownBy w2 (some S)) := grown_trans HG.out hg2
  have HF : Hid (F.size = 1) := hF
  clear hs2 hg2 HS HG hcv hF
  go_wp2_with fail
  go_loopw [3, 4] (fun t i wr => ∃ (k : Nat) (s : ByteArray), i = .int .i64 k ∧ t = .string s ∧ s.size + k ≤ 4 ∧ Hid (Src w0 a len cap zs wr S) ∧ Hid (w.grownBy wr (some S))) (fun _ i _ => (intOf i).toNat)
  case atStart => exact ⟨q, F, rfl, rfl, by rw [HF.out]; omega, HS2, HG2⟩
  case round =>
    obtain ⟨k, s, rfl, rfl, hk, Hs, Hg⟩ := hrel
    by_cases hpos : 0 < k
    · go_wp2_with fail
      refine (draw_k Hs.out 10 (by omega) (by omega)).mono ?_
      rintro e w3 ⟨p, rfl, hp, hs3, hg3⟩
      have hp' : p < 10 := by omega
      have HS3 : Hid (Src w0 a len cap zs w3 S) := hs3
      have HG3 : Hid (w.grownBy w3 (some S)) := grown_trans Hg.out hg3
      obtain ⟨G, hG, hcv3⟩ := str_one w3 ((⟨#[97, 98, 99, 100, 101, 102, 48, 49, 57, 45]⟩ : ByteArray)[p]'hp').toNat (by omega) (byte_lt _)
      have HS4 : Hid (∀ o, Src w0 a len cap zs (w3.alloc o) S) := fun o => HS3.out.alloc o
      have HG4 : Hid (∀ o, w.grownBy (w3.alloc o) (some S)) := fun o => grown_trans HG3.out (World.grownBy_alloc _ _ _)
      clear hs3 hg3 Hs Hg HS3 HG3
      go_wp2_with fail
      go_roundw
      case rel => exact ⟨k - 1, s ++ G, by go_num, rfl, by rw [ByteArray.size_append, hG]; omega, HS4.out _, HG4.out _⟩
      case measure => simp [intOf]; omega
    · go_wp2_with fail
      go_ret
      exact ⟨s, rfl, by omega, Hs.out, Hg.out⟩

set_option maxRecDepth 100000 in
set_option maxHeartbeats 4000000 in
/-- A text changed a little: some text, at most one byte longer. -/
theorem draw_spoil {w0 : World} {a : Option Addr} {len cap : Nat} {zs : List Int} {w : World} {S : Nat} (hS : Src w0 a len cap zs w S) (t : ByteArray) (ht : t.size ≤ 1048576) :
    Calls Try.prog 26 #[.pointer (some ⟨S, 0, none⟩), .string t] w fun e w' => ∃ s : ByteArray, e = .returned (.string s) ∧ s.size ≤ t.size + 1 ∧ Src w0 a len cap zs w' S ∧ w.grownBy w' (some S) := by
  go_enter Try.func26, Try.ntmps26
  go_wp2_with fail
  refine (draw_k hS _ (by omega) (by omega)).mono ?_
  rintro e w1 ⟨k, rfl, hk, hs1, hg1⟩
  go_wp2_with fail
  refine (draw_k hs1 17 (by omega) (by omega)).mono ?_
  rintro e w2 ⟨p, rfl, hp, hs2, hg2⟩
  have hp' : p < 17 := by omega
  obtain ⟨G, hG, hcv⟩ := str_one w2 ((⟨#[32, 10, 48, 97, 45, 110, 44, 58, 93, 255, 40, 120, 126, 49, 128, 225, 59]⟩ : ByteArray)[p]'hp').toNat (by omega) (byte_lt _)
  have HS : Hid (∀ o, Src w0 a len cap zs (w2.alloc o) S) := fun o => hs2.alloc o
  have HG : Hid (∀ o, w.grownBy (w2.alloc o) (some S)) := fun o => grown_trans (grown_trans hg1 hg2) (World.grownBy_alloc _ _ _)
  clear hs1 hg1 hs2 hg2
  have hk2 : k ≤ t.size := by omega
  obtain ⟨P1, hP1, hsl1⟩ : ∃ P1 : ByteArray, P1.size = k ∧ ∀ W : World, (Instr.slice 9 (.string t) none (some (.int .i64 (k : Int))) none).run Try.prog W = .ok (.string P1) W :=
    ⟨t.extract 0 k, by rw [ByteArray.size_extract]; omega, fun W => by rw [run_slice_string_h (P := Try.prog) W 9 t Try.underlying9 .i64 (k : Int) (by omega) (by omega), Int.toNat_natCast]⟩
  obtain ⟨P2, hP2, hsl2⟩ : ∃ P2 : ByteArray, P2.size + k = t.size ∧ ∀ W : World, (Instr.slice 9 (.string t) (some (.int .i64 (k : Int))) none none).run Try.prog W = .ok (.string P2) W :=
    ⟨t.extract k t.size, by rw [ByteArray.size_extract]; omega, fun W => by rw [run_slice_string_l (P := Try.prog) W 9 t Try.underlying9 .i64 (k : Int) (by omega) (by omega), Int.toNat_natCast]⟩
  have HP1 : Hid (P1.size = k) := hP1
  have HP2 : Hid (P2.size + k = t.size) := hP2
  have gP1 : P1.size ≤ 1048576 := by omega
  have gP2 : P2.size ≤ 1048576 := by omega
  have gG : G.size ≤ 1 := by omega
  have Hk : Hid (k ≤ t.size) := hk2
  have HGs : Hid (G.size = 1) := hG
  clear hP1 hP2 hG
  by_cases hke : k = t.size
  · have b1 : ((k : Int) == (t.size : Int)) = true := beq_iff_eq.2 (by omega)
    clear hke hk
    go_wp2_with fail
    go_region
    all_goals go_wp2_with fail
    go_ret
    refine ⟨_, rfl, ?_, (HS.out _).drew, grown_drew (HG.out _)⟩
    rw [ByteArray.size_append, ByteArray.size_append, HP1.out, HGs.out]
    have := HP2.out
    omega
  · have b1 : ((k : Int) == (t.size : Int)) = false := beq_eq_false_iff_ne.2 (by omega)
    have hk3 : k + 1 ≤ t.size := by omega
    obtain ⟨P3, hP3, hsl3⟩ : ∃ P3 : ByteArray, P3.size + k + 1 = t.size ∧ ∀ W : World, (Instr.slice 9 (.string t) (some (.int .i64 ((k : Int) + 1))) none none).run Try.prog W = .ok (.string P3) W :=
      ⟨t.extract (k + 1) t.size, by rw [ByteArray.size_extract]; omega, fun W => by rw [run_slice_string_l (P := Try.prog) W 9 t Try.underlying9 .i64 ((k : Int) + 1) (by omega) (by omega), show ((k : Int) + 1).toNat = k + 1 by omega]⟩
    have HP3 : Hid (P3.size + k + 1 = t.size) := hP3
    have gP3 : P3.size ≤ 1048576 := by omega
    clear hke hk hP3
    go_wp2_with fail
    refine (draw_one (HS.out _) 3 (by omega) (by omega)).mono ?_
    rintro e w3 ⟨b, rfl, hs3, hg3⟩
    have HS3 : Hid (Src w0 a len cap zs w3 S) := hs3
    have HG3 : Hid (w.grownBy w3 (some S)) := grown_trans (HG.out _) hg3
    clear hs3 hg3 HS HG hcv
    cases b
    · go_wp2_with fail
      refine (draw_one HS3.out 2 (by omega) (by omega)).mono ?_
      rintro e w4 ⟨b, rfl, hs4, hg4⟩
      have HS4 : Hid (Src w0 a len cap zs w4 S) := hs4
      have HG4 : Hid (w.grownBy w4 (some S)) := grown_trans HG3.out hg4
      clear hs4 hg4 HS3 HG3
      cases b
      · go_wp2_with fail
        go_region
        all_goals go_wp2_with fail
        go_ret
        refine ⟨_, rfl, ?_, HS4.out.drew, grown_drew HG4.out⟩
        rw [ByteArray.size_append, ByteArray.size_append, HP1.out, HGs.out]
        have := HP3.out
        omega
      · go_wp2_with fail
        go_region
        all_goals go_wp2_with fail
        go_ret
        refine ⟨_, rfl, ?_, HS4.out.drew, grown_drew HG4.out⟩
        rw [ByteArray.size_append, HP1.out]
        have := HP3.out
        omega
    · go_wp2_with fail
      go_region
      all_goals go_wp2_with fail
      go_ret
      refine ⟨_, rfl, ?_, HS3.out.drew, grown_drew HG3.out⟩
      rw [ByteArray.size_append, ByteArray.size_append, HP1.out, HGs.out]
      have := HP2.out
      omega

theorem bytes_get (l : List UInt8) (k : Nat) (h : k < l.length) : (Lib.byteCells l).toArray[k]? = some (.int .u8 l[k].toNat) := by
  simp [Lib.byteCells, h]
theorem bytes_set (l : List UInt8) (k : Nat) (c : UInt8) : (Lib.byteCells l).toArray.setIfInBounds k (.int .u8 (c.toNat : Int)) = (Lib.byteCells (l.set k c)).toArray := by
  simp [Lib.byteCells, List.map_set]
theorem made_bytes (w : World) (n : Nat) : (w.alloc (.cells (madeCells #[.int .u8 0] n) 5)).heap[w.heap.size]? = some (.cells (Lib.byteCells (List.replicate n 0)).toArray 5 (0, 0)) := by
  have e : madeCells #[.int .u8 0] n = (Lib.byteCells (List.replicate n 0)).toArray := by
    apply Array.ext'
    rw [toList_madeCells_one]
    simp [Lib.byteCells]
  rw [e]
  exact heap_alloc_new w _
set_option maxRecDepth 100000 in
set_option maxHeartbeats 4000000 in
/-- A drawn text to be put: some text. -/
theorem draw_putText {w0 : World} {a : Option Addr} {len cap : Nat} {zs : List Int} (hrow : IsRow .u8 w0 a len cap zs) (hsm : len ≤ 1048576) (w : World) (hb0 : Below w0.heap.size w0 w) :
    Calls Try.prog 10 #[.slice a len cap] w fun e w' => ∃ s : ByteArray, e = .returned (.string s) ∧ s.size ≤ 300 ∧ Below w.heap.size w w' := by
  go_enter Try.func10, Try.ntmps10
  go_wp2_with fail
  refine (draw_source hrow hsm w hb0).mono ?_
  rintro e w1 ⟨S, rfl, hSlo, hs1, hg1⟩
  have hbase : Below w.heap.size w w1 := (Below.refl w.heap.size w).grown hg1 (Nat.le_refl _) (fun k hk => by cases hk)
  have Hstep : Hid (∀ (u v : World), Below w.heap.size w u → u.grownBy v (some S) → Below w.heap.size w v) := fun u v h hg => h.grown hg h.size (fun k hk => by cases hk; exact hSlo)
  clear hg1
  go_wp2_with fail
  refine (draw_one hs1 8 (by omega) (by omega)).mono ?_
  rintro e w2 ⟨b, rfl, hs2, hg2⟩
  have hb2 := Hstep.out _ _ hbase hg2
  clear hs1 hg2 hbase
  cases b
  · go_wp2_with fail
    refine (draw_name hs2).mono ?_
    rintro e w3 ⟨s, rfl, hss, hs3, hg3⟩
    have hb3 := Hstep.out _ _ hb2 hg3
    clear hs2 hg3 hb2
    go_wp2_with fail
    refine (draw_one hs3 3 (by omega) (by omega)).mono ?_
    rintro e w4 ⟨b, rfl, hs4, hg4⟩
    have hb4 := Hstep.out _ _ hb3 hg4
    clear hs3 hg4 hb3
    cases b
    · go_wp2_with fail
      go_ret
      exact ⟨s, rfl, by omega, hb4⟩
    · go_wp2_with fail
      refine (draw_spoil hs4 s (by omega)).mono ?_
      rintro e w5 ⟨s', rfl, hss', hs5, hg5⟩
      have hb5 := Hstep.out _ _ hb4 hg5
      clear hs4 hg5 hb4
      go_wp2_with fail
      go_ret
      exact ⟨s', rfl, by omega, hb5⟩
  · go_wp2_with fail
    refine (draw_k hs2 4 (by omega) (by omega)).mono ?_
    rintro e w3 ⟨q, rfl, hq, hs3, hg3⟩
    have hb3 := Hstep.out _ _ hb2 hg3
    clear hs2 hg3 hb2 hs3
    obtain ⟨i0, hi, hz0, hz1, hz2⟩ := info_parts info5
    have hmk := run_make (P := Try.prog) w3 22 5 i0 (.int .u8 0) Try.underlying22 hi hz0 .i64 .i64 (199 + (q : Int)) (199 + (q : Int)) (by omega) (by omega) (by rw [hz2]; omega) (by omega)
    rw [show (199 + (q : Int)).toNat = 199 + q by omega] at hmk
    have H0 : Hid ((w3.alloc (.cells (madeCells #[.int .u8 0] (199 + q)) 5)).heap[w3.heap.size]? = some (.cells (Lib.byteCells (List.replicate (199 + q) 0)).toArray 5 (0, 0))) := made_bytes w3 (199 + q)
    go_wp2_with fail
    clear hmk
    go_loopw [5] (fun i wr => ∃ (k : Nat) (l : List UInt8), i = .int .i64 k ∧ k ≤ 199 + q ∧ l.length = 199 + q ∧ Hid (wr.heap[w3.heap.size]? = some (.cells (Lib.byteCells l).toArray 5 (0, 0))) ∧ Hid (Below w.heap.size w wr)) (fun i _ => 199 + q - (intOf i).toNat)
    case atStart => exact ⟨0, List.replicate (199 + q) 0, rfl, by omega, by simp, H0, hb3.alloc hb3.size _⟩
    case round =>
      obtain ⟨k, l, rfl, hk, hl, Hh, Hb⟩ := hrel
      have hf := Lib.frozen_of_heap Hh.out
      by_cases hlt : k < 199 + q
      · obtain ⟨v, hc⟩ : ∃ v : Int, wr.cell? ⟨w3.heap.size, k, none⟩ = some (.int .u8 v) := ⟨_, (Lib.cell_of_heap Hh.out k).trans (bytes_get l k (by omega))⟩
        have Hl : Hid (l.length = 199 + q) := hl
        have Hw3 : Hid (w.heap.size ≤ w3.heap.size) := hb3.size
        clear hl
        go_wp2_with fail
        go_roundw
        case rel => exact ⟨k + 1, l.set k 120, by go_num, by omega, by rw [List.length_set]; exact Hl.out, (heap_setCell Hh.out k (.int .u8 120)).trans (by rw [show (120 : Int) = ((120 : UInt8).toNat : Int) from rfl, bytes_set]), Hb.out.setCell (p := ⟨w3.heap.size, k, none⟩) Hw3.out _⟩
        case measure => simp [intOf]; omega
      · have hcv : (convert 22 9 (.slice (some ⟨w3.heap.size, 0, none⟩) (199 + q) (199 + q))).run Try.prog wr = .ok (.string ⟨l.toArray⟩) wr := by
          have h := run_convert_bytes_back (P := Try.prog) wr 22 9 5 ⟨w3.heap.size, 0, none⟩ (199 + q) l Try.underlying22 Try.underlying5 Try.underlying9 (fun j hj => by
            rw [Addr.add_lit, Nat.zero_add, Lib.cell_of_heap Hh.out j, bytes_get l j hj])
          rw [hl] at h
          exact h
        have Hl : Hid (l.length = 199 + q) := hl
        clear hl hf
        go_wp2_with fail
        go_ret
        refine ⟨⟨l.toArray⟩, rfl, ?_, Hb.out⟩
        have := Hl.out
        show l.toArray.size ≤ 300
        simp
        omega
end Go.Proofs.Ytncloiipndmmcaa
