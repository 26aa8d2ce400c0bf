/- FnRecs: drawn bodies put as records are read as they are; what breaks off is short; a turned byte makes the sum wrong. -/
import Derived.Test.YthjanamnkhggfaaDoorRcL
import Derived.Test.YthjanamnkhggfaaDoorRcM
import Derived.Test.YthjanamnkhggfaaDoorBytes
import Derived.Deep.RegionWith
import Derived.Laws.OwnMore
namespace Go.Proofs.YthjanamnkhggfaaDoor
open Go.RowKit
open Go.Proofs.YthjanamnkhggfaaDoor.Draw

theorem made_zero (n : Nat) : (madeCells #[.int .u8 0] n).toList = Lib.byteCells (List.replicate n 0) := by
  rw [toList_madeCells_one]
  simp [Lib.byteCells]
set_option maxRecDepth 100000 in
set_option maxHeartbeats 4000000 in
theorem draw_rec {w0 : World} {a : Option Addr} {len cap : Nat} {zs : List Int} (hrow : IsRow .u8 w0 a len cap zs) (hsm : len ≤ 1048576) (w : World) (hb0 : Below w0.heap.size w0 w) :
    Calls Tryd.prog 19 #[.slice a len cap] w fun e w' => ∃ b : ByteArray, e = .returned (.string b) ∧ b.size ≤ 10001 ∧ Below w.heap.size w w' := by
  obtain ⟨i0, hi, hz0, hz1, hz2⟩ := info_parts info5
  go_enter Tryd.func19, Tryd.ntmps19
  go_wp2_with fail
  refine (draw_source hrow hsm w hb0).mono ?_
  rintro e w1 ⟨S, rfl, hSlo, hs1, hg1⟩
  go_wp2_with fail
  refine (draw_one hs1 10 (by omega) (by omega)).mono ?_
  rintro e w2 ⟨c, rfl, hs2, hg2⟩
  have hb2 : Below w.heap.size w w2 := ((Below.refl w.heap.size w).grown hg1 (Nat.le_refl _) (fun k hk => by cases hk)).grown hg2 hg1.size (fun k hk => by cases hk; exact hSlo)
  clear hs1 hg1 hg2
  cases c
  · go_wp2_with fail
    refine (draw_n hs2 30 (by omega) (by omega)).mono ?_
    rintro e w3 ⟨r, rfl, h0, h1, hs3, hg3⟩
    obtain ⟨R, rfl⟩ : ∃ R : Nat, r = R := ⟨r.toNat, by omega⟩
    go_wp2_with fail
    refine (draw_bytes hs3 R (by omega)).mono ?_
    rintro e w4 ⟨l, rfl, hl, hs4, hg4⟩
    have hb4 : Below w.heap.size w w4 := (hb2.grown hg3 hb2.size (fun k hk => by cases hk; exact hSlo)).grown hg4 (Nat.le_trans hb2.size hg3.size) (fun k hk => by cases hk; exact hSlo)
    clear hs2 hs3 hs4 hg3 hg4
    go_wp2_with fail
    go_ret
    exact ⟨_, rfl, by show l.toArray.size ≤ 10001; simp; omega, hb4⟩
  · go_wp2_with fail
    refine (draw_n hs2 3 (by omega) (by omega)).mono ?_
    rintro e w3 ⟨r, rfl, h0, h1, hs3, hg3⟩
    obtain ⟨R, rfl⟩ : ∃ R : Nat, r = R := ⟨r.toNat, by omega⟩
    have hb3 : Below w.heap.size w w3 := hb2.grown hg3 hb2.size (fun k hk => by cases hk; exact hSlo)
    obtain ⟨M, hM⟩ : ∃ M : Nat, M = 9999 + R := ⟨_, rfl⟩
    have hwr : IntKind.i64.wrap (9999 + (R : Int)) = (M : Int) := by rw [IntWalk.i64_in _ (by omega)]; omega
    have hMb : M ≤ 10001 := by omega
    clear hs2 hs3 hg3 hb2 hM
    go_wp2_with (refine wpList_make_full _ rfl (.tmp 11) (.tmp 11) 22 rfl w3.heap.size 5 i0 (.int .u8 0) 1 Tryd.underlying22 hi hz0 hz1 .i64 .i64 _ _ M rfl rfl (by omega) (by omega) (by rw [hz2]; omega) (by unfold maxLen; omega) (Nat.le_refl _) ?_)
    intro w4 hown hg4
    rw [made_zero] at hown
    have hlen : (List.replicate M (0 : UInt8)).length = M := List.length_replicate
    have hown' : w4.ownsRow w3.heap.size 5 1 (.slice (some ⟨w3.heap.size, 0, none⟩) M M) (List.replicate M (0 : UInt8)).length (Lib.byteCells (List.replicate M 0)) := by rw [hlen]; exact hown
    have hcv := str_of_own hown'
    have hb4 : Below w.heap.size w w4 := hb3.grown hg4 hb3.size (fun k hk => by cases hk)
    clear hown hown' hg4 hb3 hwr
    go_wp2_with fail
    go_ret
    exact ⟨_, rfl, by show (List.replicate M (0 : UInt8)).toArray.size ≤ 10001; simp; omega, hb4⟩
theorem bytes_of3 (s : ByteArray) (w : World) : ∃ (cap : Nat) (W : World), s.size ≤ cap ∧ (convert 9 22 (.string s)).run Tryd.prog w = .ok (.slice (some ⟨w.heap.size, 0, none⟩) s.size cap) W ∧
    Below w.heap.size w W ∧ (∀ j (h : j < s.size), W.cell? ⟨w.heap.size, j, none⟩ = some (.int .u8 s[j].toNat)) ∧ ∀ j, j < s.size → W.frozen? ⟨w.heap.size, j, none⟩ = false := by
  refine ⟨_, _, grownCap_ge w s.size 0 5, run_bytes_of_string w 9 22 5 s Tryd.underlying9 Tryd.underlying22 Tryd.underlying5, ?_, ?_, ?_⟩
  · exact ((Below.refl _ _).drew).alloc (Nat.le_refl _) _
  · intro j hj
    refine Eq.trans (World.cell?_alloc_mark w.drew (bytesRow s (grownCap w s.size 0 5)) 5 ((bytesRow s (grownCap w s.size 0 5)).size, (bytesRow s (grownCap w s.size 0 5)).size + 1) j) ?_
    exact bytesRow_at s _ j hj
  · intro j hj
    refine Eq.trans (World.frozen?_alloc_mark w.drew (bytesRow s (grownCap w s.size 0 5)) 5 (bytesRow s (grownCap w s.size 0 5)).size ((bytesRow s (grownCap w s.size 0 5)).size + 1) j) ?_
    have h := bytesRow_at s (grownCap w s.size 0 5) j hj
    have hlt : j < (bytesRow s (grownCap w s.size 0 5)).size := (Array.getElem?_eq_some_iff.1 h).1
    simp
    omega
/-- Bytes of which one is turned, as a text again. -/
theorem turned (E : ByteArray) (g cap k r : Nat) (W : World) (hcell : ∀ j (h : j < E.size), W.cell? ⟨g, j, none⟩ = some (.int .u8 E[j].toNat)) (hk : k < E.size) (hr : r < 255) :
    ∃ (F : ByteArray) (c : UInt8), (convert 22 9 (.slice (some ⟨g, 0, none⟩) E.size cap)).run Tryd.prog (W.setCell ⟨g, k, none⟩ (.int .u8 (((E[k].toNat : Int) + (1 + (r : Int))) % 256))).drew =
      .ok (.string F) (W.setCell ⟨g, k, none⟩ (.int .u8 (((E[k].toNat : Int) + (1 + (r : Int))) % 256))).drew ∧ F.size = E.size ∧ F.data.toList = E.data.toList.set k c ∧ c ≠ E.data.toList[k]'(by rw [← Lib.size_eq]; exact hk) := by
  have hX : ((E[k].toNat : Int) + (1 + (r : Int))) % 256 = ((UInt8.ofNat ((E[k].toNat + 1 + r) % 256)).toNat : Int) := by
    rw [ofNat_byte _ (by omega)]
    omega
  rw [hX]
  have hne : UInt8.ofNat ((E[k].toNat + 1 + r) % 256) ≠ E[k] := fun e => by
    have h1 : ((UInt8.ofNat ((E[k].toNat + 1 + r) % 256)).toNat : Int) = (E[k].toNat : Int) := by rw [e]
    rw [ofNat_byte _ (by omega)] at h1
    have := E[k].toNat_lt
    omega
  generalize UInt8.ofNat ((E[k].toNat + 1 + r) % 256) = c at *
  have hl : E.data.toList.length = E.size := (Lib.size_eq E).symm
  have hlen : (E.data.toList.set k c).length = E.size := by rw [List.length_set, hl]
  have hget : ∀ j (h : j < E.size), E.data.toList[j]'(by omega) = E[j] := fun j h => rfl
  refine ⟨⟨(E.data.toList.set k c).toArray⟩, c, ?_, ?_, rfl, by rw [hget k hk]; exact hne⟩
  · have h := run_convert_bytes_back (P := Tryd.prog) (W.setCell ⟨g, k, none⟩ (.int .u8 (c.toNat : Int))).drew 22 9 5 ⟨g, 0, none⟩ cap (E.data.toList.set k c) Tryd.underlying22 Tryd.underlying5 Tryd.underlying9 (fun j hj => by
      rw [Addr.add_lit, Nat.zero_add]
      show (W.setCell ⟨g, k, none⟩ (.int .u8 (c.toNat : Int))).cell? ⟨g, j, none⟩ = _
      by_cases e : j = k
      · subst e
        rw [World.cell?_setCell_same _ _ _ (hcell j hk)]
        simp
      · rw [World.cell?_setCell_other _ _ _ _ (fun h => e (by simp at h)), hcell j (by omega)]
        rw [List.getElem_set_ne (by omega), hget j (by omega)])
    rw [hlen] at h
    exact h
  · rw [Lib.size_eq]
    exact hlen
theorem rec_none {b : ByteArray} (h : ¬ (1 ≤ b.size ∧ b.size ≤ 10000)) : ((recB b).toList == []) = true := by
  unfold recB; rw [if_neg h]; exact like_e _ (by show ¬ 1 ≤ 0; omega)
theorem rec_some {b : ByteArray} (h1 : 1 ≤ b.size) (h2 : b.size ≤ 10000) : ((recB b).toList == []) = false := like_ne _ (by rw [recB_size h1 h2]; omega)
set_option maxRecDepth 100000 in
set_option maxHeartbeats 16000000 in
theorem law_recs (a : Option Addr) (len cap : Nat) (zs : List Int) (a' : Option Addr) (len' cap' : Nat) (zs' : List Int) (w : World) (hL : Lay w) (hrow : IsRow .u8 w a len cap zs) (hrow' : IsRow .u8 w a' len' cap' zs') :
    Calls Tryd.prog 5 #[.slice a len cap, .slice a' len' cap'] w fun e w' => e = .returned (.bool true) ∧ Below w.heap.size w w' := by
  have hlm : len ≤ 9223372036854775807 := by
    rcases hrow with ⟨_, rfl, _⟩ | ⟨x, rfl, hl, hm, _⟩
    · omega
    · unfold maxLen at hm; omega
  have hlm' : len' ≤ 9223372036854775807 := by
    rcases hrow' with ⟨_, rfl, _⟩ | ⟨x, rfl, hl, hm, _⟩
    · omega
    · unfold maxLen at hm; omega
  by_cases hbig : 1048576 < (len : Int)
  · have b1 : decide (1048576 < (len : Int)) = true := by simpa using hbig
    go_enter Tryd.func5, Tryd.ntmps5
    go_wp2_with fail
    go_ret
    exact ⟨rfl, Below.refl _ _⟩
  have b1 : decide (1048576 < (len : Int)) = false := by simpa using hbig
  by_cases hbig' : 1048576 < (len' : Int)
  · have b2 : decide (1048576 < (len' : Int)) = true := by simpa using hbig'
    go_enter Tryd.func5, Tryd.ntmps5
    go_wp2_with fail
    go_ret
    exact ⟨rfl, Below.refl _ _⟩
  have b2 : decide (1048576 < (len' : Int)) = false := by simpa using hbig'
  have HLay : Hid (Lay w) := hL
  have HRow : Hid (IsRow .u8 w a len cap zs ∧ len ≤ 1048576) := ⟨hrow, by omega⟩
  have HRow' : Hid (IsRow .u8 w a' len' cap' zs' ∧ len' ≤ 1048576) := ⟨hrow', by omega⟩
  clear hrow hrow' hL hbig hbig'
  go_enter Tryd.func5, Tryd.ntmps5
  go_wp2_with fail
  refine (draw_rec HRow.out.1 HRow.out.2 w (Below.refl _ _)).mono ?_
  rintro e w1 ⟨A, rfl, hA, hb1⟩
  have HB1 : Hid (Below w.heap.size w w1) := hb1
  clear hb1
  go_wp2_with fail
  refine (draw_rec HRow'.out.1 HRow'.out.2 w1 HB1.out).mono ?_
  rintro e w2 ⟨B, rfl, hB, hb2⟩
  have HB2 : Hid (Below w.heap.size w w2) := HB1.out.trans (hb2.mono HB1.out.size)
  clear hb2 HB1
  have HSA : Hid (∀ W, Calls Tryd.prog 20 #[.string A] W fun e w' => e = .returned (.string (recB A)) ∧ Below W.heap.size W w') := fun W => spec_rec A (by omega) W
  have HSB : Hid (∀ W, Calls Tryd.prog 20 #[.string B] W fun e w' => e = .returned (.string (recB B)) ∧ Below W.heap.size W w') := fun W => spec_rec B (by omega) W
  have HIA : Hid (∀ W, Calls Tryd.prog 21 #[.string A] W fun e w' => e = .returned (.string (recB A)) ∧ Below W.heap.size W w') := fun W => impl_rec A (by omega) W
  have HIB : Hid (∀ W, Calls Tryd.prog 21 #[.string B] W fun e w' => e = .returned (.string (recB B)) ∧ Below W.heap.size W w') := fun W => impl_rec B (by omega) W
  by_cases okA : 1 ≤ A.size ∧ A.size ≤ 10000
  rotate_left
  · have qA := rec_none okA
    generalize recB A = FA at *
    clear okA HSB HIB
    go_wp2_with fail
    refine (HSA.out _).mono ?_
    rintro e w3 ⟨rfl, hb3⟩
    have HB3 : Hid (Below w.heap.size w w3) := HB2.out.trans (hb3.mono HB2.out.size)
    clear hb3
    go_wp2_with fail
    refine (HIA.out _).mono ?_
    rintro e w4 ⟨rfl, hb4⟩
    have HB4 : Hid (Below w.heap.size w w4) := HB3.out.trans (hb4.mono HB3.out.size)
    clear hb4
    go_wp2_with fail
    refine (HSA.out _).mono ?_
    rintro e w5 ⟨rfl, hb5⟩
    have HB5 : Hid (Below w.heap.size w w5) := HB4.out.trans (hb5.mono HB4.out.size)
    clear hb5
    go_wp2_with fail
    go_ret
    exact ⟨rfl, HB5.out⟩
  have qA := rec_some okA.1 okA.2
  by_cases okB : 1 ≤ B.size ∧ B.size ≤ 10000
  rotate_left
  · have qB := rec_none okB
    generalize recB A = FA at *
    generalize recB B = FB at *
    clear okA okB HIB
    go_wp2_with fail
    refine (HSA.out _).mono ?_
    rintro e w3 ⟨rfl, hb3⟩
    have HB3 : Hid (Below w.heap.size w w3) := HB2.out.trans (hb3.mono HB2.out.size)
    clear hb3
    go_wp2_with fail
    refine (HSB.out _).mono ?_
    rintro e w4 ⟨rfl, hb4⟩
    have HB4 : Hid (Below w.heap.size w w4) := HB3.out.trans (hb4.mono HB3.out.size)
    clear hb4
    go_wp2_with fail
    refine (HIA.out _).mono ?_
    rintro e w5 ⟨rfl, hb5⟩
    have HB5 : Hid (Below w.heap.size w w5) := HB4.out.trans (hb5.mono HB4.out.size)
    clear hb5
    go_wp2_with fail
    refine (HSA.out _).mono ?_
    rintro e w6 ⟨rfl, hb6⟩
    have HB6 : Hid (Below w.heap.size w w6) := HB5.out.trans (hb6.mono HB5.out.size)
    clear hb6
    go_wp2_with fail
    go_ret
    exact ⟨rfl, HB6.out⟩
  have qB := rec_some okB.1 okB.2
  by_cases hsum : 15000 < A.size + B.size
  · have q0 : decide ((15000 : Int) < (A.size : Int) + (B.size : Int)) = true := by simp; omega
    generalize recB A = FA at *
    generalize recB B = FB at *
    clear okA okB HIB
    go_wp2_with fail
    refine (HSA.out _).mono ?_
    rintro e w3 ⟨rfl, hb3⟩
    have HB3 : Hid (Below w.heap.size w w3) := HB2.out.trans (hb3.mono HB2.out.size)
    clear hb3
    go_wp2_with fail
    refine (HSB.out _).mono ?_
    rintro e w4 ⟨rfl, hb4⟩
    have HB4 : Hid (Below w.heap.size w w4) := HB3.out.trans (hb4.mono HB3.out.size)
    clear hb4
    go_wp2_with fail
    refine (HIA.out _).mono ?_
    rintro e w5 ⟨rfl, hb5⟩
    have HB5 : Hid (Below w.heap.size w w5) := HB4.out.trans (hb5.mono HB4.out.size)
    clear hb5
    go_wp2_with fail
    refine (HSA.out _).mono ?_
    rintro e w6 ⟨rfl, hb6⟩
    have HB6 : Hid (Below w.heap.size w w6) := HB5.out.trans (hb6.mono HB5.out.size)
    clear hb6
    go_wp2_with fail
    go_ret
    exact ⟨rfl, HB6.out⟩
  have q0 : decide ((15000 : Int) < (A.size : Int) + (B.size : Int)) = false := by simp; omega
  have zA := recB_size okA.1 okA.2
  have zB := recB_size okB.1 okB.2
  have eA0 := enc_le (A.size : Int)
  have eA1 := enc_le (recSum A)
  have eB0 := enc_le (B.size : Int)
  have eB1 := enc_le (recSum B)
  have HR1 : Hid (∀ W, Lay W → Calls Tryd.prog 22 #[.string (recB A ++ recB B)] W fun e w' => ∃ J, Ans 2 (((recB A).size : Int) + ((recB B).size : Int)) 0 J W e w' ∧ J 0 = ⟨A⟩ ∧ J 1 = ⟨B⟩) := fun W hW => by
    have hs : (recB A ++ recB B).size ≤ 20000 := by rw [ByteArray.size_append]; omega
    obtain ⟨h1, h2, h3, h4⟩ := recs_two okA.1 okA.2 okB.1 okB.2 hs rfl
    exact (impl_recsOf _ hs W hW).mono fun _ _ h => ⟨_, by have := ans_of h h1; rw [h2, Int.natCast_add] at this; exact this, h3, h4⟩
  have HR2 : Hid (∀ k, 1 ≤ k → k < (recB B).size → ∀ W, Lay W → Calls Tryd.prog 22 #[.string (recB A ++ (recB B).extract 0 k)] W fun e w' => ∃ J, Ans 1 (((recB A).size : Nat) : Int) 4 J W e w' ∧ J 0 = ⟨A⟩) := fun k k1 k2 W hW => by
    have hs : (recB A ++ (recB B).extract 0 k).size ≤ 20000 := by rw [ByteArray.size_append, ByteArray.size_extract]; omega
    obtain ⟨h1, h2, h3⟩ := recs_cut okA.1 okA.2 okB.1 okB.2 hs k1 k2 rfl
    exact (impl_recsOf _ hs W hW).mono fun _ _ h => ⟨_, by have := ans_of h h1; rw [h2] at this; exact this, h3⟩
  have HR3 : Hid (∀ (g : ByteArray) (p : Nat) (c : UInt8) (p2 : p < (recB B).data.toList.length), (recB B).size ≤ p + B.size → c ≠ (recB B).data.toList[p] → g.data.toList = (recB B).data.toList.set p c → g.size = (recB B).size → ∀ W, Lay W → Calls Tryd.prog 22 #[.string (recB A ++ g)] W fun e w' => ∃ J, Ans 1 (((recB A).size : Nat) : Int) 5 J W e w' ∧ J 0 = ⟨A⟩) := fun g p c p2 p1 hc hg hgs W hW => by
    have hs : (recB A ++ g).size ≤ 20000 := by rw [ByteArray.size_append]; omega
    obtain ⟨h1, h2, h3⟩ := recs_turn okA.1 okA.2 okB.1 okB.2 hs p1 p2 hc hg rfl
    exact (impl_recsOf _ hs W hW).mono fun _ _ h => ⟨_, by have := ans_of h h1; rw [h2] at this; exact this, h3⟩
  have sA : (recB A).size ≤ 10020 := by omega
  have sB : (recB B).size ≤ 10020 := by omega
  have tB : B.size ≤ (recB B).size := by omega
  have uB : 1 ≤ B.size := okB.1
  clear zA zB eA0 eA1 eB0 eB1 okA okB
  generalize recB A = FA at *
  generalize recB B = FB at *
  go_wp2_with fail
  refine (HSA.out _).mono ?_
  rintro e w3 ⟨rfl, hb3⟩
  have HB3 : Hid (Below w.heap.size w w3) := HB2.out.trans (hb3.mono HB2.out.size)
  clear hb3
  go_wp2_with fail
  refine (HSB.out _).mono ?_
  rintro e w4 ⟨rfl, hb4⟩
  have HB4 : Hid (Below w.heap.size w w4) := HB3.out.trans (hb4.mono HB3.out.size)
  clear hb4
  go_wp2_with fail
  refine (HIA.out _).mono ?_
  rintro e w5 ⟨rfl, hb5⟩
  have HB5 : Hid (Below w.heap.size w w5) := HB4.out.trans (hb5.mono HB4.out.size)
  clear hb5
  go_wp2_with fail
  refine (HIB.out _).mono ?_
  rintro e w6 ⟨rfl, hb6⟩
  have HB6 : Hid (Below w.heap.size w w6) := HB5.out.trans (hb6.mono HB5.out.size)
  clear hb6 HB2 HB3 HB4 HB5 HSA HSB HIA HIB qA qB q0 hsum
  go_wp2_with fail
  refine (HR1.out _ (HLay.out.below HB6.out)).mono ?_
  rintro e w7 ⟨J, ⟨xa, xc, rfl, hO, hl, hb7⟩, hJ0, hJ1⟩
  have HL7 : Hid (Below w7.heap.size w7 (w7.alloc (.cells #[.slice xa 2 xc, .int .i64 ((FA.size : Int) + (FB.size : Int)), .int .i64 0] 50))) := (Below.refl _ _).alloc (Nat.le_refl _) _
  have HB7 : Hid (Below w.heap.size w (w7.alloc (.cells #[.slice xa 2 xc, .int .i64 ((FA.size : Int) + (FB.size : Int)), .int .i64 0] 50))) := (HB6.out.trans (hb7.mono HB6.out.size)).alloc (Nat.le_trans HB6.out.size hb7.size) _
  have HX7 : Hid (Bo (w7.alloc (.cells #[.slice xa 2 xc, .int .i64 ((FA.size : Int) + (FB.size : Int)), .int .i64 0] 50)) w7.heap.size (.slice xa 2 xc) ((FA.size : Int) + (FB.size : Int)) 0) := Bo.new _ _ _ _ _
  have HT7 : Hid (TextsAt (w7.alloc (.cells #[.slice xa 2 xc, .int .i64 ((FA.size : Int) + (FB.size : Int)), .int .i64 0] 50)) xa 2 J) := hO.texts.below HL7.out
  clear hO hl hb7 HL7 HR1
  go_upto_region 10 with fail
  obtain ⟨W7, hW7⟩ : ∃ W, W = w7.alloc (.cells #[.slice xa 2 xc, .int .i64 ((FA.size : Int) + (FB.size : Int)), .int .i64 0] 50) := ⟨_, rfl⟩
  obtain ⟨P7, hP7⟩ : ∃ P, P = w7.heap.size := ⟨_, rfl⟩
  rw [← hW7] at HB7 HX7 HT7 ⊢
  rw [← hP7] at HX7 ⊢
  clear hW7 hP7
  rcases HT7.out with h0 | ⟨g7, o7, rfl, hg7, hc7⟩
  · omega
  have t0 := hc7 0 (by omega)
  have t1 := hc7 1 (by omega)
  rw [hJ0] at t0
  rw [hJ1] at t1
  simp only [Nat.add_zero] at t0
  obtain ⟨x0, x1, x2, xlt⟩ := HX7.out
  have hxx : ∀ x : List UInt8, (x == x) = true := fun x => by simp
  have hii : ∀ x : Int, (x != x) = false := fun x => by simp
  clear hc7 HT7 hJ0 hJ1
  go_wp2_with fail
  refine (lw_at HRow'.out.1 HRow'.out.2 _ HB7.out 0 (by omega) 256 (by omega) (by omega)).mono ?_
  rintro e w8 ⟨r0, rfl, hr0, rfl⟩
  have hr0' : r0 < 256 := by have := hr0.1 (by omega); omega
  clear hr0
  clear x0 x1 x2 xlt HX7 t0 t1
  go_wp2_with fail
  refine (lw_at HRow'.out.1 HRow'.out.2 _ HB7.out 1 (by omega) 256 (by omega) (by omega)).mono ?_
  rintro e w9 ⟨r1, rfl, hr1, rfl⟩
  have hr1' : r1 < 256 := by have := hr1.1 (by omega); omega
  obtain ⟨q, hq⟩ : ∃ q, q = (r0 * 256 + r1) % FB.size := ⟨_, rfl⟩
  have hqb : q < FB.size := by rw [hq]; exact Nat.mod_lt _ (by omega)
  have eq : ((r0 : Int) * 256 + (r1 : Int)) % (FB.size : Int) = (q : Int) := by rw [hq]; simp
  clear hq hr1
  by_cases hk : 1 + q < FB.size
  · have qk : decide ((1 : Int) + (q : Int) < (FB.size : Int)) = true := by simp; omega
    have hsl : ∀ W : World, (Instr.slice 9 (.string FB) none (some (.int .i64 (1 + (q : Int)))) none).run Tryd.prog W = .ok (.string (FB.extract 0 (1 + q))) W := fun W => by
      rw [run_slice_string_h (P := Tryd.prog) W 9 FB Tryd.underlying9 .i64 (1 + (q : Int)) (by omega) (by omega), show ((1 : Int) + (q : Int)).toNat = 1 + q by omega]
    have HRk := HR2.out (1 + q) (by omega) hk
    have HRk : Hid (∀ W, Lay W → _) := HRk
    have hXs : (FB.extract 0 (1 + q)).size ≤ 10020 := by rw [ByteArray.size_extract]; omega
    generalize FB.extract 0 (1 + q) = X at *
    go_wp2_with fail
    refine (HRk.out _ (HLay.out.below HB7.out)).mono ?_
    rintro e wa ⟨Ja, ⟨ya, yc, rfl, hO, hl, hba⟩, hY0⟩
    have HBa : Hid (Below w.heap.size w (wa.alloc (.cells #[.slice ya 1 yc, .int .i64 (FA.size : Int), .int .i64 4] 50))) := (HB7.out.trans (hba.mono HB7.out.size)).alloc (Nat.le_trans HB7.out.size hba.size) _
    have HXa : Hid (Bo (wa.alloc (.cells #[.slice ya 1 yc, .int .i64 (FA.size : Int), .int .i64 4] 50)) wa.heap.size (.slice ya 1 yc) (FA.size : Int) 4) := Bo.new _ _ _ _ _
    clear hO hl hba HRk hY0 hsl HR2
    go_upto_region 15 with fail
    obtain ⟨Wa, hWa⟩ : ∃ W, W = wa.alloc (.cells #[.slice ya 1 yc, .int .i64 (FA.size : Int), .int .i64 4] 50) := ⟨_, rfl⟩
    obtain ⟨Pa, hPa⟩ : ∃ P, P = wa.heap.size := ⟨_, rfl⟩
    rw [← hWa] at HBa HXa ⊢
    rw [← hPa] at HXa ⊢
    clear hWa hPa
    obtain ⟨y0, y1, y2, ylt⟩ := HXa.out
    obtain ⟨cap3, W3, hcap, hcv, hbW, hcell, hfr⟩ := bytes_of3 FB Wa
    have HBw : Hid (Below w.heap.size w W3) := HBa.out.trans (hbW.mono HBa.out.size)
    obtain ⟨G, hG⟩ : ∃ G, G = Wa.heap.size := ⟨_, rfl⟩
    rw [← hG] at hcv hcell hfr
    have HWG : Hid (w.heap.size ≤ G) := by rw [hG]; exact HBa.out.size
    clear hG hbW
    go_wp2_with fail
    refine (lw_at HRow.out.1 HRow.out.2 _ HBw.out 0 (by omega) (B.size : Int) (by omega) (by omega)).mono ?_
    rintro e w11 ⟨j, rfl, hj, rfl⟩
    have hjb : j < B.size := by
      rcases hj with ⟨h1, h2⟩
      by_cases h : 1 < (B.size : Int)
      · have := h1 h; omega
      · have := h2 (by omega); omega
    obtain ⟨p, hp⟩ : ∃ p, p + 1 + j = FB.size := ⟨FB.size - 1 - j, by omega⟩
    have hpp : (FB.size : Int) - 1 - (j : Int) = (p : Int) := by omega
    have hpl : p < FB.size := by omega
    have hpm : FB.size ≤ p + B.size := by omega
    have hck := hcell p hpl
    have hfk := hfr p hpl
    have Hcell : Hid (∀ j (h : j < FB.size), w11.cell? ⟨G, j, none⟩ = some (.int .u8 FB[j].toNat)) := hcell
    have hEk := byte_lt FB[p]
    clear hcv hcell hfr hp hj hjb
    go_wp2_with fail
    go_region_with (go_at_call 23; refine (lw_at HRow.out.1 HRow.out.2 _ (by first | exact HBw.out | exact HBw.out.drew) 1 (by omega) 255 (by omega) (by omega)).mono ?_; rintro e w12 ⟨r, rfl, hr, rfl⟩)
    all_goals
      have hr255 : r < 255 := by have := hr.1 (by omega); omega
      obtain ⟨F, c, hcv2, hFs, hFl, hFc⟩ := turned FB G cap3 p r w11 Hcell.out hpl hr255
      have HR3' := HR3.out F p c (by rw [← Lib.size_eq]; exact hpl) hpm hFc hFl hFs
      have HR3' : Hid (∀ W, Lay W → _) := HR3'
      have hFm : F.size ≤ 10020 := by omega
      have HBz : Hid (Below w.heap.size w (w11.setCell ⟨G, p, none⟩ (.int .u8 (((FB[p].toNat : Int) + (1 + (r : Int))) % 256))).drew) := (HBw.out.setCell (p := ⟨G, p, none⟩) HWG.out _).drew
      clear hFl hFc hFs
      go_wp2_with fail
      rw [hcv2]
      go_wp2_with fail
      refine (HR3'.out _ (HLay.out.below HBz.out)).mono ?_
      rintro e wz ⟨Jz, ⟨za, zc, rfl, hO, hl, hbz⟩, hZ0⟩
      have HLz : Hid (Below wz.heap.size wz (wz.alloc (.cells #[.slice za 1 zc, .int .i64 (FA.size : Int), .int .i64 5] 50))) := (Below.refl _ _).alloc (Nat.le_refl _) _
      have HBy : Hid (Below w.heap.size w (wz.alloc (.cells #[.slice za 1 zc, .int .i64 (FA.size : Int), .int .i64 5] 50))) := (HBz.out.trans (hbz.mono HBz.out.size)).alloc (Nat.le_trans HBz.out.size hbz.size) _
      have HXz : Hid (Bo (wz.alloc (.cells #[.slice za 1 zc, .int .i64 (FA.size : Int), .int .i64 5] 50)) wz.heap.size (.slice za 1 zc) (FA.size : Int) 5) := Bo.new _ _ _ _ _
      have HTz : Hid (TextsAt (wz.alloc (.cells #[.slice za 1 zc, .int .i64 (FA.size : Int), .int .i64 5] 50)) za 1 Jz) := hO.texts.below HLz.out
      clear hO hl hbz HLz HR3' hcv2 hck hfk
      go_upto_region 21 with fail
      obtain ⟨Wz, hWz⟩ : ∃ W, W = wz.alloc (.cells #[.slice za 1 zc, .int .i64 (FA.size : Int), .int .i64 5] 50) := ⟨_, rfl⟩
      obtain ⟨Pz, hPz⟩ : ∃ P, P = wz.heap.size := ⟨_, rfl⟩
      rw [← hWz] at HBy HXz HTz ⊢
      rw [← hPz] at HXz ⊢
      clear hWz hPz
      rcases HTz.out with h0 | ⟨gz, oz, rfl, hgz, hcz⟩
      · omega
      have t0 := hcz 0 (by omega)
      rw [hZ0] at t0
      simp only [Nat.add_zero] at t0
      obtain ⟨x0, x1, x2, xlt⟩ := HXz.out
      clear hcz HTz hZ0
      go_wp2_with fail
      go_ret
      exact ⟨rfl, HBy.out⟩
  · have qk : decide ((1 : Int) + (q : Int) < (FB.size : Int)) = false := by simp; omega
    clear HR2
    obtain ⟨cap3, W3, hcap, hcv, hbW, hcell, hfr⟩ := bytes_of3 FB w9
    have HBw : Hid (Below w.heap.size w W3) := HB7.out.trans (hbW.mono HB7.out.size)
    obtain ⟨G, hG⟩ : ∃ G, G = w9.heap.size := ⟨_, rfl⟩
    rw [← hG] at hcv hcell hfr
    have HWG : Hid (w.heap.size ≤ G) := by rw [hG]; exact HB7.out.size
    clear hG hbW
    go_wp2_with fail
    refine (lw_at HRow.out.1 HRow.out.2 _ HBw.out 0 (by omega) (B.size : Int) (by omega) (by omega)).mono ?_
    rintro e w11 ⟨j, rfl, hj, rfl⟩
    have hjb : j < B.size := by
      rcases hj with ⟨h1, h2⟩
      by_cases h : 1 < (B.size : Int)
      · have := h1 h; omega
      · have := h2 (by omega); omega
    obtain ⟨p, hp⟩ : ∃ p, p + 1 + j = FB.size := ⟨FB.size - 1 - j, by omega⟩
    have hpp : (FB.size : Int) - 1 - (j : Int) = (p : Int) := by omega
    have hpl : p < FB.size := by omega
    have hpm : FB.size ≤ p + B.size := by omega
    have hck := hcell p hpl
    have hfk := hfr p hpl
    have Hcell : Hid (∀ j (h : j < FB.size), w11.cell? ⟨G, j, none⟩ = some (.int .u8 FB[j].toNat)) := hcell
    have hEk := byte_lt FB[p]
    clear hcv hcell hfr hp hj hjb
    go_wp2_with fail
    go_region_with (go_at_call 23; refine (lw_at HRow.out.1 HRow.out.2 _ (by first | exact HBw.out | exact HBw.out.drew) 1 (by omega) 255 (by omega) (by omega)).mono ?_; rintro e w12 ⟨r, rfl, hr, rfl⟩)
    all_goals
      have hr255 : r < 255 := by have := hr.1 (by omega); omega
      obtain ⟨F, c, hcv2, hFs, hFl, hFc⟩ := turned FB G cap3 p r w11 Hcell.out hpl hr255
      have HR3' := HR3.out F p c (by rw [← Lib.size_eq]; exact hpl) hpm hFc hFl hFs
      have HR3' : Hid (∀ W, Lay W → _) := HR3'
      have hFm : F.size ≤ 10020 := by omega
      have HBz : Hid (Below w.heap.size w (w11.setCell ⟨G, p, none⟩ (.int .u8 (((FB[p].toNat : Int) + (1 + (r : Int))) % 256))).drew) := (HBw.out.setCell (p := ⟨G, p, none⟩) HWG.out _).drew
      clear hFl hFc hFs
      go_wp2_with fail
      rw [hcv2]
      go_wp2_with fail
      refine (HR3'.out _ (HLay.out.below HBz.out)).mono ?_
      rintro e wz ⟨Jz, ⟨za, zc, rfl, hO, hl, hbz⟩, hZ0⟩
      have HLz : Hid (Below wz.heap.size wz (wz.alloc (.cells #[.slice za 1 zc, .int .i64 (FA.size : Int), .int .i64 5] 50))) := (Below.refl _ _).alloc (Nat.le_refl _) _
      have HBy : Hid (Below w.heap.size w (wz.alloc (.cells #[.slice za 1 zc, .int .i64 (FA.size : Int), .int .i64 5] 50))) := (HBz.out.trans (hbz.mono HBz.out.size)).alloc (Nat.le_trans HBz.out.size hbz.size) _
      have HXz : Hid (Bo (wz.alloc (.cells #[.slice za 1 zc, .int .i64 (FA.size : Int), .int .i64 5] 50)) wz.heap.size (.slice za 1 zc) (FA.size : Int) 5) := Bo.new _ _ _ _ _
      have HTz : Hid (TextsAt (wz.alloc (.cells #[.slice za 1 zc, .int .i64 (FA.size : Int), .int .i64 5] 50)) za 1 Jz) := hO.texts.below HLz.out
      clear hO hl hbz HLz HR3' hcv2 hck hfk
      go_upto_region 21 with fail
      obtain ⟨Wz, hWz⟩ : ∃ W, W = wz.alloc (.cells #[.slice za 1 zc, .int .i64 (FA.size : Int), .int .i64 5] 50) := ⟨_, rfl⟩
      obtain ⟨Pz, hPz⟩ : ∃ P, P = wz.heap.size := ⟨_, rfl⟩
      rw [← hWz] at HBy HXz HTz ⊢
      rw [← hPz] at HXz ⊢
      clear hWz hPz
      rcases HTz.out with h0 | ⟨gz, oz, rfl, hgz, hcz⟩
      · omega
      have t0 := hcz 0 (by omega)
      rw [hZ0] at t0
      simp only [Nat.add_zero] at t0
      obtain ⟨x0, x1, x2, xlt⟩ := HXz.out
      clear hcz HTz hZ0
      go_wp2_with fail
      go_ret
      exact ⟨rfl, HBy.out⟩
end Go.Proofs.YthjanamnkhggfaaDoor
