/- Texts put one behind the other (impl.joined, spec.l06Loose): what each call does. -/
import Derived.Test.YthjanamnkhggfaaDoorDkM
import Derived.Lib.BufSteps
namespace Go.Proofs.YthjanamnkhggfaaDoor
open Go.RowKit
open Go.Proofs.YthjanamnkhggfaaDoor.Draw

theorem inf5 : (Tryd.prog.info? 5).map (fun i => (i.zero, i.size, i.bytes)) = some (some (.int .u8 0), 1, 1) := by kernel_rfl
theorem size5 (w : World) : (Go.sizeOf 5).run Tryd.prog w = .ok 1 w := by
  obtain ⟨i0, hi, hz0, hz1, hz2⟩ := info_parts inf5
  simp [Go.sizeOf, typeInfo, hi, hz1]
theorem size5' : (Tryd.prog.info? 5).map (·.size) = some 1 := by kernel_rfl
/-- The filled bytes as a text. -/
theorem str_buf {w wr : World} {h N : Nat} {t : ByteArray} (hb : Lib.Buf w wr h N t.data.toList) (hN : N = t.size) :
    (convert 22 9 (.slice (some ⟨h, 0, none⟩) N N)).run Tryd.prog wr = .ok (.string t) wr := by
  have hl : t.data.toList.length = N := by rw [hN, ← Lib.size_eq]
  have hc := run_convert_bytes_back (P := Tryd.prog) wr 22 9 5 ⟨h, 0, none⟩ N t.data.toList Tryd.underlying22 Tryd.underlying5 Tryd.underlying9 (fun j hj => by
    have hadd : (⟨h, 0, none⟩ : Addr).add j = ⟨h, j, none⟩ := by unfold Addr.add; split <;> simp_all
    rw [hadd]; exact hb.holds j _ (List.getElem?_eq_getElem hj))
  rw [hl] at hc
  rw [hc]
set_option maxRecDepth 100000 in
set_option maxHeartbeats 4000000 in
theorem impl_joined (a : Option Addr) (n cap : Nat) (I : Nat → Tx) (hn : n ≤ 1048576) (hsum : lenT I n ≤ 4398046511104) (w : World) (h : TextsAt w a n I) :
    Calls Tryd.prog 64 #[.slice a n cap] w fun e w' => e = .returned (.string (catT I n)) ∧ Below w.heap.size w w' := by
  obtain ⟨i0, hi, hz0, hz1, hz2⟩ := info_parts inf5
  have HL : Hid (TextsAt w a n I) := h
  clear h
  go_enter Tryd.func64, Tryd.ntmps64
  go_wp2_with fail
  go_loopw [3, 12] (fun x i wr => ∃ k S : Nat, x = .int .i64 (S : Int) ∧ i = .int .i64 (k : Int) ∧ k ≤ n ∧ Hid (S = lenT I k) ∧ w = wr) (fun _ i _ => n - (intOf i).toNat)
  case atStart => exact ⟨0, 0, rfl, rfl, by omega, rfl, rfl⟩
  case round =>
    obtain ⟨k, S, rfl, rfl, hk, HS, rfl⟩ := hrel
    by_cases hkn : k < n
    · have p0 : decide (k < n) = true := by simpa using hkn
      have p1 : decide ((k : Int) < (n : Int)) = true := by simpa using hkn
      rcases HL.out with h0 | ⟨g, o, rfl, hg, hc⟩
      · omega
      have c0 := hc k hkn
      have HS' : Hid (S + (I k).t.size = lenT I (k + 1)) := by rw [HS.out]; rfl
      have hle : S + (I k).t.size ≤ 4398046511104 := by rw [HS'.out]; exact Nat.le_trans (lenT_mono I (by omega)) hsum
      clear hc HS
      generalize (I k).t = x0 at *
      go_wp2_with fail
      go_roundw
      case rel => exact ⟨k + 1, S + x0.size, by go_num, by go_num, by omega, HS', trivial⟩
      case measure => simp [intOf]; omega
    · have p0 : decide (k < n) = false := by simpa using hkn
      have p1 : decide ((k : Int) < (n : Int)) = false := by simpa using hkn
      obtain rfl : k = n := by omega
      have HN : Hid (S = lenT I k) := HS
      have hNb : S ≤ 4398046511104 := by rw [HN.out]; exact hsum
      clear HS hsum
      go_wp2_with (refine wpList_make_full _ rfl (.tmp 21) (.tmp 21) 22 rfl w.heap.size 5 i0 (.int .u8 0) 1 Tryd.underlying22 hi hz0 hz1 .i64 .i64 _ _ S rfl rfl rfl rfl (by rw [hz2]; omega) (by unfold maxLen; omega) (Nat.le_refl _) ?_)
      intro w1 hown hg1
      have HB1 : Hid (Lib.Buf w w1 w.heap.size S []) := by
        obtain ⟨F0, hO⟩ := own_some hown
        rw [Nat.mul_one] at hO
        exact ⟨(Below.refl _ _).grown hg1 (Nat.le_refl _) (fun k hk => by cases hk), fun j hj => by rw [hO.2.1 j hj]; rfl, fun j _ => hO.2.2 j, fun j x hx => by simp at hx, Nat.zero_le _⟩
      clear hg1 hown
      go_wp2_with fail
      go_loopw [7, 25] (fun x i wr => ∃ q A : Nat, x = .int .i64 (A : Int) ∧ i = .int .i64 (q : Int) ∧ q ≤ k ∧ Hid (A = lenT I q) ∧ Hid (Lib.Buf w wr w.heap.size S (catT I q).data.toList)) (fun _ i _ => k - (intOf i).toNat)
      case atStart => exact ⟨0, 0, rfl, rfl, by omega, rfl, HB1⟩
      case round =>
        obtain ⟨q, A, rfl, rfl, hq, HA, HB⟩ := hrel
        by_cases hqn : q < k
        · have p0 : decide (q < k) = true := by simpa using hqn
          have p1 : decide ((q : Int) < (k : Int)) = true := by simpa using hqn
          rcases HL.out with h0 | ⟨g, o, rfl, hg, hc⟩
          · omega
          have c0 := (HB.out.below.cell (p := ⟨g, o + q, none⟩) hg).trans (hc q hqn)
          have HA' : Hid (A + (I q).t.size = lenT I (q + 1)) := by rw [HA.out]; rfl
          have hle : A + (I q).t.size ≤ S := by rw [HA'.out, HN.out]; exact lenT_mono I (by omega)
          have hlen : (catT I q).data.toList.length = A := by rw [← Lib.size_eq, catT_size, HA.out]
          have hsl := Lib.run_slice_tailV (P := Tryd.prog) wr 22 5 Tryd.underlying22 size5 w.heap.size S A (by omega)
          obtain ⟨w3, hcp, hB3⟩ := copy_text w wr w.heap.size S (catT I q).data.toList (I q).t 22 9 3 5 Tryd.underlying22 size5' size5 HB.out (by rw [hlen]; exact hle)
          rw [hlen] at hcp
          have HB3 : Hid (Lib.Buf w w3 w.heap.size S (catT I (q + 1)).data.toList) := by
            have e : (catT I (q + 1)).data.toList = (catT I q).data.toList ++ (I q).t.data.toList := bytes_cat _ _
            rw [e]; exact hB3
          clear hc HA hB3 hlen
          generalize Lib.tailV w.heap.size S A = tv at *
          generalize (I q).t = x0 at *
          go_wp2_with (at_builtin; refine Lib.wpList_copy_run _ rfl _ _ 22 9 rfl _ _ rfl rfl hcp ?_)
          go_roundw
          case rel => exact ⟨q + 1, A + x0.size, by go_num, by go_num, by omega, HA', HB3⟩
          case measure => simp [intOf]; omega
        · have p0 : decide (q < k) = false := by simpa using hqn
          have p1 : decide ((q : Int) < (k : Int)) = false := by simpa using hqn
          obtain rfl : q = k := by omega
          have hcv := str_buf HB.out (by rw [catT_size]; exact HN.out)
          have HBB : Hid (Below w.heap.size w wr) := HB.out.below
          clear HB HA
          obtain ⟨T, hT⟩ : ∃ T, catT I q = T := ⟨_, rfl⟩
          have HT : Hid (catT I q = T) := hT
          rw [hT] at hcv
          clear hT
          go_wp2_with fail
          go_ret
          exact ⟨by rw [HT.out]; rfl, HBB.out⟩
/-- Owned bytes as a text. -/
theorem str_nil (w : World) : (convert 22 9 (.slice none 0 0)).run Tryd.prog w = .ok (.string ⟨#[]⟩) w := by
  rw [run_convert_bytes_string w 22 9 5 none 0 0 Tryd.underlying22 Tryd.underlying5 Tryd.underlying9]
  simp [Conv.bytesToString]; rfl
theorem str_own {w : World} {B : Nat} {v : Value} {t : ByteArray} (h : w.ownsRowF B 5 1 v t.size (Lib.strCells t)) : (convert 22 9 v).run Tryd.prog w = .ok (.string t) w := by
  rcases id h with ⟨_, ⟨rfl, h0⟩ | ⟨g, cap, cur, fz, rfl, _⟩⟩
  · have e : t = ⟨#[]⟩ := bytes_eq (by have : t.data.toList.length = 0 := by rw [← Lib.size_eq, h0]
                                       rw [List.length_eq_zero_iff.1 this])
    rw [e]; exact str_nil w
  · have hl : t.data.toList.length = t.size := by rw [← Lib.size_eq]
    have hc := run_convert_bytes_back (P := Tryd.prog) w 22 9 5 ⟨g, 0, none⟩ cap t.data.toList Tryd.underlying22 Tryd.underlying5 Tryd.underlying9 (fun j hj => h.cells rfl j _ (by
      rw [Lib.strCells, List.getElem?_map, List.getElem?_eq_getElem hj]; rfl))
    rw [hl] at hc
    rw [hc]
end Go.Proofs.YthjanamnkhggfaaDoor
