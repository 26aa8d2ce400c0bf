/- A balance asked (BookBalance of spec and impl): what each call does. · Legs posted to a book: no program in it. · Sums of money (spec.MoneyAdd, impl.MoneyAdd): what each call does, and the law that holds one against the other. · One balance changed in a ledger: what the call does. · One leg done in a ledger: what the call does. · Legs posted in a ledger: what the call does. · The shelf's bodies laid at this seat's program: the library's functions stand there as the shelf's contracts have them. · slices.Insert of one line into a list of one's own: what the call does. · slices.Insert of one line, ahead of others: in place, or into a new row. · slices.Insert of one line, ahead of others, without room: into a new row; and all ways together. · slices.Insert of one line into a list of one's own: all ways together. · slices.Insert of one text at the end of a list of one's own. · slices.Insert of one text, ahead of others, in place. · slices.Insert of one text, ahead of others, without room. · slices.Insert of one text: all ways together. · Where a name belongs among a book's Ids; slices.BinarySearch over them. · slices.BinarySearchFunc over lines: what the call does. · A line opened in a ledger ((*impl.ledger).open): what the call does. · A line opened in a ledger: where it is opened. · A name put among a ledger's Ids: what the call does. · A book told, or a refusal (impl.bookOut); a line opened (impl.BookOpen): what the calls do. · A line opened (impl.BookOpen): what the call does. -/
import Derived.Test.YtepkmbfedblhdaaGreatDoorJ3
import Derived.Test.YtepkmbfedblhdaaGreatDoorJ1
import Derived.Laws.CopyRow
import Derived.Deep.RegionHeld3
import Derived.Test.YtepkmbfedblhdaaGreatDoorChecked
import Derived.Shelf.Lays2
import Derived.KernelRfl
import Derived.Shelf.Spec.SlicesInsertGrow
import Derived.Shelf.Spec.SearchS
import Derived.Deep.DeepCutAuto
import Derived.BigQuiet
import Derived.Deep.RegionWith
namespace Go.Proofs.YtepkmbfedblhdaaGreatDoor
open Go.RowKit
open Go.Proofs.YtepkmbfedblhdaaGreatDoor.Draw

theorem neqS {a b : ByteArray} (h : a ≠ b) : (a.toList == b.toList) = false := by
  rw [beq_eq_false_iff_ne, Lib.toList_data, Lib.toList_data]
  intro e
  exact h (by cases a; cases b; simp at e; rw [e])
def findI (L : Nat → Ln) (x y : ByteArray) (n : Nat) : Int := match findB L x y n with
  | some i => (i : Int)
  | none => -1
def balB (n m : Nat) (L : Nat → Ln) (I : Nat → Tx) (x y : ByteArray) : Int × Int := if bookB n m L I = true then (match findB L x y n with
  | some i => ((L i).m, 0)
  | none => (0, 8)) else (0, 1)
set_option maxRecDepth 100000 in
set_option maxHeartbeats 8000000 in
theorem spec_find (a : Option Addr) (n cap : Nat) (v1 : Value) (L : Nat → Ln) (hn : n ≤ 1048576) (x y : ByteArray) (w : World) (h : LinesAt w a n L) :
    Calls Tryz.prog 67 #[.agg #[.slice a n cap, v1], .agg #[.string x, .string y]] w fun e w' => e = .returned (.int .i64 (findI L x y n)) ∧ Below w.heap.size w w' := by
  have HL : Hid (LinesAt w a n L) := h
  have T0 := two_now w #[.slice a n cap, v1] #[.string x, .string y] 31 57
  have HT0 : Hid (Both w ((w.alloc (.cells #[.slice a n cap, v1] 31)).alloc (.cells #[.string x, .string y] 57)) #[.slice a n cap, v1] #[.string x, .string y]) := T0
  have hxx : ∀ z : List UInt8, (z == z) = true := fun z => by simp
  clear h T0
  go_enter Tryz.func67, Tryz.ntmps67
  go_wp2_with fail
  go_loopw [5] (fun j wr => ∃ k : Nat, j = .int .i64 (k : Int) ∧ k ≤ n ∧ Hid (findB L x y k = none) ∧ Hid (Both w wr #[.slice a n cap, v1] #[.string x, .string y])) (fun j _ => n - (intOf j).toNat)
  case atStart => exact ⟨0, rfl, by omega, rfl, HT0⟩
  case round =>
    obtain ⟨k, rfl, hk, HN, HT⟩ := hrel
    have b0 := HT.out.box 0
    have r0 := HT.out.res 0
    have r1 := HT.out.res 1
    simp at b0 r0 r1
    by_cases hkn : k < n
    · have p0 : decide (k < n) = true := by simpa using hkn
      have p1 : decide ((k : Int) < (n : Int)) = true := by simpa using hkn
      rcases HL.out with h0 | ⟨g, o, rfl, hg, hc⟩
      · omega
      obtain ⟨c0, c1, _⟩ := hc k hkn
      have d0 := (HT.out.bel.cell (p := ⟨g, _, none⟩) hg).trans c0
      have d1 := (HT.out.bel.cell (p := ⟨g, _, none⟩) hg).trans c1
      have HT' : Hid (Both w wr.drew #[.slice (some ⟨g, o, none⟩) n cap, v1] #[.string x, .string y]) := HT.out.next (Below.refl _ wr).drew
      have HM : Hid (¬ ((L k).a = x ∧ (L k).s = y) → findB L x y (k + 1) = none) := fun h => findB_miss HN.out h
      have HH : Hid ((L k).a = x ∧ (L k).s = y → findI L x y n = (k : Int)) := fun h => by unfold findI; rw [findB_hit HN.out h hkn]
      clear hc c0 c1
      generalize (L k).a = z0 at *
      generalize (L k).s = z1 at *
      by_cases e0 : z0 = x
      · subst e0
        by_cases e1 : z1 = y
        · subst e1
          have HV : Hid (findI L z0 z1 n = (k : Int)) := HH.out ⟨rfl, rfl⟩
          go_upto_region 4 with fail
          go_region_held3 (fun W => W.cell? ⟨w.heap.size, 0, none⟩ = some (.slice (some ⟨g, o, none⟩) n cap) ∧ W.cell? ⟨g, o + k * 3, none⟩ = some (.string z0) ∧ W.cell? ⟨g, o + k * 3 + 1, none⟩ = some (.string z1) ∧ W.cell? ⟨w.heap.size + 1, 0, none⟩ = some (.string z0) ∧ W.cell? ⟨w.heap.size + 1, 1, none⟩ = some (.string z1)) (go_keep) (fail)
          go_wp2_with fail
          go_ret
          exact ⟨by rw [HV.out]; rfl, HT'.out.bel⟩
        · have q1 := neqS e1
          have HV : Hid (findB L z0 y (k + 1) = none) := HM.out (fun e => e1 e.2)
          go_upto_region 4 with fail
          go_region_held3 (fun W => W.cell? ⟨w.heap.size, 0, none⟩ = some (.slice (some ⟨g, o, none⟩) n cap) ∧ W.cell? ⟨g, o + k * 3, none⟩ = some (.string z0) ∧ W.cell? ⟨g, o + k * 3 + 1, none⟩ = some (.string z1) ∧ W.cell? ⟨w.heap.size + 1, 0, none⟩ = some (.string z0) ∧ W.cell? ⟨w.heap.size + 1, 1, none⟩ = some (.string y)) (go_keep) (fail)
          go_wp2_with fail
          go_roundw
          case rel => exact ⟨k + 1, by go_num, by omega, HV, HT'⟩
          case measure => simp [intOf]; omega
      · have q1 := neqS e0
        have HV : Hid (findB L x y (k + 1) = none) := HM.out (fun e => e0 e.1)
        go_upto_region 4 with fail
        go_region_held3 (fun W => W.cell? ⟨w.heap.size, 0, none⟩ = some (.slice (some ⟨g, o, none⟩) n cap) ∧ W.cell? ⟨g, o + k * 3, none⟩ = some (.string z0) ∧ W.cell? ⟨g, o + k * 3 + 1, none⟩ = some (.string z1) ∧ W.cell? ⟨w.heap.size + 1, 0, none⟩ = some (.string x) ∧ W.cell? ⟨w.heap.size + 1, 1, none⟩ = some (.string y)) (go_keep) (fail)
        go_wp2_with fail
        go_roundw
        case rel => exact ⟨k + 1, by go_num, by omega, HV, HT'⟩
        case measure => simp [intOf]; omega
    · have p0 : decide (k < n) = false := by simpa using hkn
      have p1 : decide ((k : Int) < (n : Int)) = false := by simpa using hkn
      obtain rfl : k = n := by omega
      have HV : Hid (findI L x y k = -1) := by unfold findI; rw [HN.out]; exact rfl
      go_wp2_with fail
      go_ret
      exact ⟨by rw [HV.out]; rfl, HT.out.bel⟩
end Go.Proofs.YtepkmbfedblhdaaGreatDoor
namespace Go.Proofs.YtepkmbfedblhdaaGreatDoor
open Go.RowKit
open Go.Proofs.YtepkmbfedblhdaaGreatDoor.Draw

/-- One balance is another. -/
def setM (L : Nat → Ln) (i : Nat) (z : Int) (j : Nat) : Ln := if j = i then ⟨(L j).a, (L j).s, z⟩ else L j
theorem setM_a (L : Nat → Ln) (i : Nat) (z : Int) (j : Nat) : (setM L i z j).a = (L j).a := by unfold setM; split <;> rfl
theorem setM_s (L : Nat → Ln) (i : Nat) (z : Int) (j : Nat) : (setM L i z j).s = (L j).s := by unfold setM; split <;> rfl
theorem setM_same (L : Nat → Ln) (i : Nat) (z : Int) : (setM L i z i).m = z := by unfold setM; rw [if_pos rfl]
theorem setM_other (L : Nat → Ln) (i : Nat) (z : Int) (j : Nat) (h : j ≠ i) : setM L i z j = L j := by unfold setM; rw [if_neg h]
theorem setM_find (L : Nat → Ln) (i : Nat) (z : Int) (x y : ByteArray) : ∀ k, findB (setM L i z) x y k = findB L x y k
  | 0 => rfl
  | k + 1 => by rw [findB, findB, setM_find L i z x y k, setM_a, setM_s]
theorem setM_places (L : Nat → Ln) (i : Nat) (z : Int) : ∀ k, placesD (setM L i z) k = placesD L k
  | 0 => rfl
  | k + 1 => by rw [placesD, placesD, setM_places L i z k, setM_a, setM_s]
theorem setM_ok {L : Nat → Ln} {n : Nat} (h : ∀ j, j < n → okLine L j = true) (i : Nat) {z : Int} (hz : rightB z = true) : ∀ j, j < n → okLine (setM L i z) j = true := fun j hj => by
  have hj' := h j hj
  unfold okLine at hj' ⊢
  rw [setM_a, setM_s, setM_a, setM_s]
  simp only [Bool.and_eq_true] at hj' ⊢
  refine ⟨⟨hj'.1.1, ?_⟩, hj'.2⟩
  by_cases e : j = i
  · subst e; rw [setM_same]; exact hz
  · rw [setM_other L i z j e]; exact hj'.1.2
theorem setM_fits {L : Nat → Ln} {n : Nat} (h : ∀ j, j < n → (L j).fits) (i : Nat) (z : Int) : ∀ j, j < n → (setM L i z j).fits := fun j hj => by
  have := h j hj
  unfold Ln.fits at this ⊢
  rw [setM_a, setM_s]
  exact this
theorem sumL_far (L : Nat → Ln) (i : Nat) (z : Int) : ∀ k, k ≤ i → sumL (setM L i z) k = sumL L k
  | 0, _ => rfl
  | k + 1, hk => by rw [sumL, sumL, sumL_far L i z k (by omega), setM_other L i z k (by omega)]
theorem sumL_set (L : Nat → Ln) (i : Nat) (z : Int) : ∀ k, i < k → sumL (setM L i z) k = sumL L k - (L i).m + z
  | 0, h => by omega
  | k + 1, h => by
    rw [sumL, sumL]
    by_cases e : i = k
    · subst e; rw [sumL_far L i z i (Nat.le_refl _), setM_same]; omega
    · rw [sumL_set L i z k (by omega), setM_other L i z k (by omega)]; omega
/-- One leg: the lines behind it, and the code. -/
def moveB (n : Nat) (L : Nat → Ln) (q : Lg) : (Nat → Ln) × Int := match findB L q.fa q.fs n with
  | none => (L, 8)
  | some f => match findB L q.ta q.ts n with
    | none => (L, 8)
    | some t => if rightB ((L f).m - q.m) = true then (if rightB ((setM L f ((L f).m - q.m) t).m + q.m) = true then (setM (setM L f ((L f).m - q.m)) t ((setM L f ((L f).m - q.m) t).m + q.m), 0) else (L, 13)) else (L, 13)
/-- So many legs from one on: the lines behind them, the place and the code. -/
def postB (n : Nat) (Q : Nat → Lg) : Nat → Nat → (Nat → Ln) → (Nat → Ln) × Nat × Int
  | 0, _, L => (L, 0, 0)
  | k + 1, i, L => if (moveB n L (Q i)).2 = 0 then postB n Q k (i + 1) (moveB n L (Q i)).1 else (L, i, (moveB n L (Q i)).2)
/-- What legs leave as it was. -/
structure Kept (n : Nat) (L L' : Nat → Ln) : Prop where
  ok : ∀ j, j < n → okLine L' j = true
  fits : ∀ j, j < n → (L' j).fits
  find : ∀ x y, findB L' x y n = findB L x y n
  places : placesD L' n = placesD L n
  sum : sumL L' n = sumL L n
theorem Kept.refl {n : Nat} {L : Nat → Ln} (h : ∀ j, j < n → okLine L j = true) (hf : ∀ j, j < n → (L j).fits) : Kept n L L := ⟨h, hf, fun _ _ => rfl, rfl, rfl⟩
theorem Kept.trans {n : Nat} {L L' L'' : Nat → Ln} (h : Kept n L L') (h' : Kept n L' L'') : Kept n L L'' := ⟨h'.ok, h'.fits, fun x y => (h'.find x y).trans (h.find x y), h'.places.trans h.places, h'.sum.trans h.sum⟩
theorem move_kept {n : Nat} {L : Nat → Ln} (h : ∀ j, j < n → okLine L j = true) (hf : ∀ j, j < n → (L j).fits) (q : Lg) : Kept n L (moveB n L q).1 := by
  unfold moveB
  cases hF : findB L q.fa q.fs n with
  | none => exact Kept.refl h hf
  | some f =>
    cases hT : findB L q.ta q.ts n with
    | none => exact Kept.refl h hf
    | some t =>
      have f1 := (findB_some hF).1
      have t1 := (findB_some hT).1
      simp only
      split
      · rename_i h1
        split
        · rename_i h2
          refine ⟨setM_ok (setM_ok h f h1) t h2, setM_fits (setM_fits hf f _) t _, fun x y => by rw [setM_find, setM_find], by rw [setM_places, setM_places], ?_⟩
          rw [sumL_set _ _ _ _ t1, sumL_set _ _ _ _ f1]
          omega
        · exact Kept.refl h hf
      · exact Kept.refl h hf
end Go.Proofs.YtepkmbfedblhdaaGreatDoor
namespace Go.Proofs.YtepkmbfedblhdaaGreatDoor
open Go.RowKit

def outB (n : Int) : Int × Int := if rightB n then (n, 0) else (0, 13)
def addB (a b : Int) : Int × Int := if rightB a && rightB b then outB (a + b) else (0, 1)
def errOf (c : Int) : Value := if c = 0 then .nilIface else errV c
def tupV (r : Int × Int) : Value := .tuple #[.int .i64 r.1, errOf r.2]
theorem tupV_ok (n : Int) : tupV (n, 0) = .tuple #[.int .i64 n, .nilIface] := rfl
theorem tupV_err (n c : Int) (h : c ≠ 0) : tupV (n, c) = .tuple #[.int .i64 n, .iface 94 (.agg #[.int .i64 c])] := by simp [tupV, errOf, h, errV]

set_option maxHeartbeats 400000 in
theorem impl_in (n : Int) (w : World) :
    Calls Tryz.prog 89 #[.int .i64 n] w fun e w' => e = .returned (tupV (outB n)) ∧ w' = w := by
  cases h : rightB n
  · have HR : Hid (outB n = (0, 13)) := by simp [Hid, outB, h]
    have H : Hid (rightB n = false) := h
    clear h
    go_enter Tryz.func89, Tryz.ntmps89
    go_wp2_with fail
    refine (impl_right _ _).mono ?_
    rintro e w1 ⟨rfl, rfl⟩
    rw [H.out]
    go_wp2_with fail
    go_ret2
    refine ⟨?_, rfl⟩
    rw [HR.out, tupV_err _ _ (by decide)]; rfl
  · have HR : Hid (outB n = (n, 0)) := by simp [Hid, outB, h]
    have H : Hid (rightB n = true) := h
    clear h
    go_enter Tryz.func89, Tryz.ntmps89
    go_wp2_with fail
    refine (impl_right _ _).mono ?_
    rintro e w1 ⟨rfl, rfl⟩
    rw [H.out]
    go_wp2_with fail
    go_ret2
    refine ⟨?_, rfl⟩
    rw [HR.out, tupV_ok]; rfl



set_option maxHeartbeats 400000 in
theorem impl_addM (a b : Int) (w : World) :
    Calls Tryz.prog 83 #[.int .i64 a, .int .i64 b] w fun e w' => e = .returned (tupV (addB a b)) ∧ w' = w := by
  cases ha : rightB a
  · have HR : Hid (addB a b = (0, 1)) := by simp [Hid, addB, ha]
    have H : Hid (rightB a = false) := ha
    clear ha
    go_enter Tryz.func83, Tryz.ntmps83
    go_wp2_with fail
    refine (impl_right _ _).mono ?_
    rintro e w1 ⟨rfl, rfl⟩
    rw [H.out]
    go_wp2_with fail
    go_ret2
    refine ⟨?_, rfl⟩
    rw [HR.out, tupV_err _ _ (by decide)]; rfl
  · cases hb : rightB b
    · have HR : Hid (addB a b = (0, 1)) := by simp [Hid, addB, hb]
      have H : Hid (rightB a = true) := ha
      have H2 : Hid (rightB b = false) := hb
      clear ha hb
      go_enter Tryz.func83, Tryz.ntmps83
      go_wp2_with fail
      refine (impl_right _ _).mono ?_
      rintro e w1 ⟨rfl, rfl⟩
      rw [H.out]
      go_wp2_with fail
      refine (impl_right _ _).mono ?_
      rintro e w1 ⟨rfl, rfl⟩
      rw [H2.out]
      go_wp2_with fail
      go_ret2
      refine ⟨?_, rfl⟩
      rw [HR.out, tupV_err _ _ (by decide)]; rfl
    · have HR : Hid (addB a b = outB (a + b)) := by simp [Hid, addB, ha, hb]
      have ba := (rightB_iff a).1 ha
      have bb := (rightB_iff b).1 hb
      have H : Hid (rightB a = true) := ha
      have H2 : Hid (rightB b = true) := hb
      obtain ⟨a0, a1⟩ := ba
      obtain ⟨b0, b1⟩ := bb
      clear ha hb
      go_enter Tryz.func83, Tryz.ntmps83
      go_wp2_with fail
      refine (impl_right _ _).mono ?_
      rintro e w1 ⟨rfl, rfl⟩
      rw [H.out]
      go_wp2_with fail
      refine (impl_right _ _).mono ?_
      rintro e w1 ⟨rfl, rfl⟩
      rw [H2.out]
      go_wp2_with fail
      refine (impl_in _ _).mono ?_
      rintro e w1 ⟨rfl, rfl⟩
      simp only [tupV]
      go_wp2_with fail
      go_ret2
      refine ⟨?_, rfl⟩
      rw [HR.out]
      rfl

theorem outB_zero (n : Int) : (outB n).2 ≠ 0 → (outB n).1 = 0 := by unfold outB; split <;> simp
theorem addB_zero (a b : Int) : (addB a b).2 ≠ 0 → (addB a b).1 = 0 := by
  unfold addB
  split
  · exact outB_zero _
  · simp





theorem i64_bounds {n : Int} (hn : (Lit.int .i64 n).wf = true) : -9223372036854775808 ≤ n ∧ n ≤ 9223372036854775807 := by simpa [Lit.wf, IntKind.min, IntKind.max, IntKind.signed, IntKind.bits] using hn

end Go.Proofs.YtepkmbfedblhdaaGreatDoor
namespace Go.Proofs.YtepkmbfedblhdaaGreatDoor
open Go.RowKit
open Go.Proofs.YtepkmbfedblhdaaGreatDoor.Draw

theorem own_set {w : World} {B e size n c g : Nat} {xs : List Value} (h : w.ownsRow B e size (.slice (some ⟨g, 0, none⟩) n c) n xs) (j : Nat) (v : Value) : (w.setCell ⟨g, j, none⟩ v).ownsRow B e size (.slice (some ⟨g, 0, none⟩) n c) n (xs.set j v) := by
  rcases h with ⟨h1, ⟨e1, _⟩ | ⟨g', cap, cur, e1, hB, hg, hnc, hm, hs, ht⟩⟩
  · simp at e1
  · simp at e1
    obtain ⟨rfl, rfl⟩ := e1
    rw [setCell_eq_setRow w g j cur _ (0, 0) v hg]
    exact ⟨by rw [List.length_set]; exact h1, Or.inr ⟨g, c, cur.setIfInBounds j v, rfl, hB, setRow_heap _ _ _ _ _ _ hg, hnc, hm, by rw [Array.size_setIfInBounds]; exact hs, by rw [Array.toList_setIfInBounds, List.take_set, ht]⟩⟩
theorem lines_set (L : Nat → Ln) (i n : Nat) (z : Int) (hi : i < n) : linesC (setM L i z) n = (linesC L n).set (i * 3 + 2) (.int .i64 z) := by
  apply List.ext_getElem?
  intro j
  rw [List.getElem?_set]
  by_cases hj : j < n * 3
  · rw [linesC_at _ _ _ hj, linesC_at _ _ _ hj, linesC_len]
    by_cases e : i * 3 + 2 = j
    · subst e
      rw [if_pos rfl, if_pos hj, (lineF_at (setM L i z) i).2.2, setM_same]
    · rw [if_neg e]
      by_cases e2 : j / 3 = i
      · have e3 : j % 3 ≠ 2 := by omega
        by_cases e4 : j % 3 = 0
        · rw [lineF, lineF, if_pos e4, if_pos e4, setM_a]
        · have e5 : j % 3 = 1 := by omega
          rw [lineF, lineF, if_neg e4, if_pos e5, if_neg e4, if_pos e5, setM_s]
      · simp only [lineF, setM_other L i z (j / 3) e2]
  · rw [List.getElem?_eq_none (by rw [linesC_len]; omega), if_neg (by omega), List.getElem?_eq_none (by rw [linesC_len]; omega)]
/-- A ledger's state. -/
structure LS (W : World) (B l : Nat) (a1 : Option Addr) (n c1 : Nat) (L : Nat → Ln) (a2 : Option Addr) (m c2 : Nat) (I : Nat → Tx) (M r s : Nat) : Prop where
  led : Led W l (.slice a1 n c1) (.slice a2 m c2) (.map (some M)) (.complex .f64 (fl r) (fl s))
  rows : Rows2 W B a1 n c1 L a2 m c2 I
  map : W.ownsMap Tryz.prog 57 (plainElem Tryz.prog 3) M n (placesD L n)
  n1 : ∀ k, a1.map Addr.block = some k → k ≠ l ∧ k ≠ M
  n2 : ∀ k, a2.map Addr.block = some k → k ≠ l ∧ k ≠ M
  hM : M ≠ l
  hB : B ≤ l
theorem LS.below {W W' : World} {B l : Nat} {a1 : Option Addr} {n c1 : Nat} {L : Nat → Ln} {a2 : Option Addr} {m c2 : Nat} {I : Nat → Tx} {M r s : Nat} (h : LS W B l a1 n c1 L a2 m c2 I M r s) (hb : Below W.heap.size W W') : LS W' B l a1 n c1 L a2 m c2 I M r s :=
  ⟨h.led.below hb, h.rows.below hb, h.map.kept (row := none) ⟨hb.os, hb.tape, hb.output, hb.size, fun k hk _ => hb.block k hk⟩ (by simp), h.n1, h.n2, h.hM, h.hB⟩
theorem own_linesR' {w : World} {B n c : Nat} {a : Option Addr} {L : Nat → Ln} (h : w.ownsRow B 84 3 (.slice a n c) n (linesC L n)) : n = 0 ∨ ∃ g, a = some ⟨g, 0, none⟩ ∧ Own w g (n * 3) (lineF L) := by
  rcases id h with ⟨_, ⟨e, e2⟩ | ⟨g, cap, cur, e, _⟩⟩
  · exact Or.inl e2
  · simp at e
    obtain ⟨rfl, rfl⟩ := e
    exact Or.inr ⟨g, rfl, (own_row h (fun j hj => linesC_at L n j hj)).1⟩
set_option maxRecDepth 100000 in
set_option maxHeartbeats 8000000 in
theorem impl_change (B l : Nat) (a1 : Option Addr) (n c1 : Nat) (L : Nat → Ln) (a2 : Option Addr) (m c2 : Nat) (I : Nat → Tx) (M r s i : Nat) (x : Int) (hi : i < n) (hx0 : -1000000000000 ≤ x) (hx1 : x ≤ 1000000000000) (hr : r ≤ 1000000000000000) (hs : s ≤ 1000000000000000) (hm : rightB (L i).m = true) (w : World) (h : LS w B l a1 n c1 L a2 m c2 I M r s) :
    Calls Tryz.prog 74 #[.pointer (some ⟨l, 0, none⟩), .int .i64 (i : Int), .int .i64 x] w fun e w' => (rightB ((L i).m + x) = false ∧ e = .returned (errV 13) ∧ w' = w) ∨ (rightB ((L i).m + x) = true ∧ e = .returned .nilIface ∧ LS w' B l a1 n c1 (setM L i ((L i).m + x)) a2 m c2 I M (takeI r x) (putI s x) ∧ Below B w w' ∧ ∀ k, k ≠ l → a1.map Addr.block ≠ some k → w'.heap[k]? = w.heap[k]?) := by
  have HLS : Hid (LS w B l a1 n c1 L a2 m c2 I M r s) := h
  obtain ⟨g, rfl, hO⟩ : ∃ g, a1 = some ⟨g, 0, none⟩ ∧ Own w g (n * 3) (lineF L) := by
    rcases own_linesR' h.rows.r1 with e | h0
    · omega
    · exact h0
  have hgl : g ≠ l := (h.n1 g rfl).1
  have hgM : g ≠ M := (h.n1 g rfl).2
  have c0 := hO.2.1 (i * 3 + 2) (by omega)
  have cf := hO.2.2 (i * 3 + 2)
  rw [(lineF_at L i).2.2] at c0
  obtain ⟨l0, l1, l2, l3, lf, llt⟩ := h.led
  have HC := impl_addM (L i).m x w
  have hxr : rightB x = true := rightB_yes hx0 hx1
  have hi0 : (0 : Int) ≤ (i : Int) := by omega
  have hi1 : (i : Int) < (n : Int) := by omega
  have HT : Hid (∀ W : World, W.cell? ⟨l, 3, none⟩ = some (.complex .f64 (fl r) (fl s)) → W.frozen? ⟨l, 3, none⟩ = false → Calls Tryz.prog 56 #[.pointer (some ⟨l, 0, none⟩), .int .i64 x] W fun e w' => e = .returned (.tuple #[]) ∧ w' = W.setCell ⟨l, 3, none⟩ (.complex .f64 (fl (takeI r x)) (fl (putI s x)))) := fun W hc hf => impl_count l r s x hx0 hx1 hr hs W hc hf
  cases hz : rightB ((L i).m + x) with
  | false =>
    have hA : addB (L i).m x = (0, 13) := by simp [addB, hm, hxr, outB, hz]
    rw [hA] at HC
    have HC : Hid (Calls Tryz.prog 83 _ _ _) := HC
    clear hO hm h hA hz
    generalize (L i).m = z0 at *
    go_enter Tryz.func74, Tryz.ntmps74
    go_wp2_with fail
    refine HC.out.mono ?_
    rintro e w1 ⟨rfl, rfl⟩
    rw [tupV_err _ _ (by decide)]
    go_wp2_with fail
    refine bodyPost_ret (v := errV 13) ?_ rfl (Or.inl ⟨by first | rfl | trivial, rfl, rfl⟩)
    simp [results, Tryz.results74, go_sem, errV]
  | true =>
    have hA : addB (L i).m x = ((L i).m + x, 0) := by simp [addB, hm, hxr, outB, hz]
    rw [hA] at HC
    have HC : Hid (Calls Tryz.prog 83 _ _ _) := HC
    obtain ⟨z1, hz1⟩ : ∃ z1, z1 = (L i).m + x := ⟨_, rfl⟩
    rw [← hz1] at HC ⊢
    have R1 := h.rows.r1
    have hown := own_set R1 (i * 3 + 2) (.int .i64 z1)
    rw [← lines_set L i n z1 hi] at hown
    have hg1 : w.grownBy (w.setCell ⟨g, i * 3 + 2, none⟩ (.int .i64 z1)) (some g) := setGrown (World.grownBy.refl _ _)
    have hr2 := h.rows.r2.kept hg1 (by
      rw [ownBlock_map]
      cases e : a2.map Addr.block with
      | none => exact Or.inl rfl
      | some j => exact Or.inr (fun e' => h.rows.ne j (by simpa using e'.symm) e))
    have D1 : Led (w.setCell ⟨g, i * 3 + 2, none⟩ (.int .i64 z1)) l _ _ _ _ := h.led.grown hg1 (by simpa using fun e => hgl e.symm)
    have M1 := h.map.kept hg1 (by simpa using fun e => hgM e.symm)
    have hg2 : (w.setCell ⟨g, i * 3 + 2, none⟩ (.int .i64 z1)).grownBy ((w.setCell ⟨g, i * 3 + 2, none⟩ (.int .i64 z1)).setCell ⟨l, 3, none⟩ (.complex .f64 (fl (takeI r x)) (fl (putI s x)))) (some l) := setGrown (World.grownBy.refl _ _)
    have R2 : Rows2 (w.setCell ⟨g, i * 3 + 2, none⟩ (.int .i64 z1)) B (some ⟨g, 0, none⟩) n c1 (setM L i z1) a2 m c2 I := ⟨hown, hr2, h.rows.ne⟩
    have HF : Hid (LS ((w.setCell ⟨g, i * 3 + 2, none⟩ (.int .i64 z1)).setCell ⟨l, 3, none⟩ (.complex .f64 (fl (takeI r x)) (fl (putI s x)))) B l (some ⟨g, 0, none⟩) n c1 (setM L i z1) a2 m c2 I M (takeI r x) (putI s x)) :=
      ⟨D1.set3 _, R2.kept hg2 (fun k e => by simpa using (h.n1 k e).1) (fun k e => by simpa using (h.n2 k e).1), by rw [setM_places]; exact M1.kept hg2 (by simpa using h.hM), h.n1, h.n2, h.hM, h.hB⟩
    have hBg : B ≤ g := (h.rows.lt1 g rfl).1
    have hBl : B ≤ l := h.hB
    have HBB : Hid (Below B w ((w.setCell ⟨g, i * 3 + 2, none⟩ (.int .i64 z1)).setCell ⟨l, 3, none⟩ (.complex .f64 (fl (takeI r x)) (fl (putI s x)))) ∧ ∀ k, k ≠ l → (some (⟨g, 0, none⟩ : Addr)).map Addr.block ≠ some k → (((w.setCell ⟨g, i * 3 + 2, none⟩ (.int .i64 z1)).setCell ⟨l, 3, none⟩ (.complex .f64 (fl (takeI r x)) (fl (putI s x))))).heap[k]? = w.heap[k]?) := ⟨((Below.refl _ _).setCell (by exact hBg) _).setCell (by exact hBl) _, fun k e1 e2 => by rw [heap_setCell_other _ _ _ _ (by simpa using e1), heap_setCell_other _ _ _ _ (by simpa using fun e => e2 (by rw [e]; rfl))]⟩
    obtain ⟨d0, d1, d2, d3, df, dlt⟩ := D1
    clear hO hm h hA hz R1 hown hg1 hr2 M1 hg2 R2 hz1
    generalize (L i).m = z0 at *
    go_enter Tryz.func74, Tryz.ntmps74
    go_wp2_with fail
    refine HC.out.mono ?_
    rintro e w1 ⟨rfl, rfl⟩
    rw [tupV_ok]
    go_wp2_with fail
    refine (HT.out _ d3 (df 3)).mono ?_
    rintro e w2 ⟨rfl, rfl⟩
    go_wp2_with fail
    refine bodyPost_ret (v := .nilIface) ?_ rfl (Or.inr ⟨by first | rfl | trivial, rfl, HF.out, HBB.out.1, HBB.out.2⟩)
    simp [results, Tryz.results74, go_sem]
end Go.Proofs.YtepkmbfedblhdaaGreatDoor
namespace Go.Proofs.YtepkmbfedblhdaaGreatDoor
open Go.RowKit
open Go.Proofs.YtepkmbfedblhdaaGreatDoor.Draw

/-- A block of a leg's cells. -/
structure L5 (W : World) (b : Nat) (x0 x1 x2 x3 : ByteArray) (x4 : Int) : Prop where
  c0 : W.cell? ⟨b, 0, none⟩ = some (.string x0)
  c1 : W.cell? ⟨b, 1, none⟩ = some (.string x1)
  c2 : W.cell? ⟨b, 2, none⟩ = some (.string x2)
  c3 : W.cell? ⟨b, 3, none⟩ = some (.string x3)
  c4 : W.cell? ⟨b, 4, none⟩ = some (.int .i64 x4)
  lt : b < W.heap.size
theorem L5.new (w : World) (x0 x1 x2 x3 : ByteArray) (x4 : Int) (t : TypeId) : L5 (w.alloc (.cells #[.string x0, .string x1, .string x2, .string x3, .int .i64 x4] t)) w.heap.size x0 x1 x2 x3 x4 := ⟨by simp, by simp, by simp, by simp, by simp, by simp⟩
theorem L5.drew {W : World} {b : Nat} {x0 x1 x2 x3 : ByteArray} {x4 : Int} (h : L5 W b x0 x1 x2 x3 x4) : L5 W.drew b x0 x1 x2 x3 x4 := ⟨h.c0, h.c1, h.c2, h.c3, h.c4, h.lt⟩
theorem L5.low {W W' : World} {b : Nat} {x0 x1 x2 x3 : ByteArray} {x4 : Int} (h : L5 W b x0 x1 x2 x3 x4) (hk : W'.heap[b]? = W.heap[b]?) (hs : W.heap.size ≤ W'.heap.size) : L5 W' b x0 x1 x2 x3 x4 :=
  ⟨(World.cell?_of_block (a := ⟨b, 0, none⟩) hk).trans h.c0, (World.cell?_of_block (a := ⟨b, 1, none⟩) hk).trans h.c1, (World.cell?_of_block (a := ⟨b, 2, none⟩) hk).trans h.c2, (World.cell?_of_block (a := ⟨b, 3, none⟩) hk).trans h.c3, (World.cell?_of_block (a := ⟨b, 4, none⟩) hk).trans h.c4, Nat.lt_of_lt_of_le h.lt hs⟩
theorem zeroIntD (w : World) : (zeroValue 3).run Tryz.prog w = .ok (.int .i64 0) w := by kernel_rfl
theorem look_spot {W : World} {M n : Nat} {L : Nat → Ln} (h : W.ownsMap Tryz.prog 57 (plainElem Tryz.prog 3) M n (placesD L n)) (hok : ∀ j, j < n → okLine L j = true) (hf : ∀ j, j < n → (L j).fits) (x y : ByteArray) (hx : x.size ≤ maxLen) (hy : y.size ≤ maxLen) :
    ∃ cz : Int, (Instr.lookup 61 (.map (some M)) (.agg #[.string x, .string y]) true).run Tryz.prog W = .ok (.tuple #[.int .i64 cz, .bool (findB L x y n).isSome]) W ∧ ∀ i, findB L x y n = some i → cz = (i : Int) := by
  obtain ⟨v, ps, hrun, hv⟩ := h.look_ok keySpot Tryz.underlying61 (zeroIntD _) (plainElem_int Tryz.underlying3 (by decide)) (spotK_of x y hx hy)
  obtain ⟨cz, rfl, hcz, _⟩ := plainElem_int_inv Tryz.underlying3 hv
  have hfind := places_find hok hf hx hy n (Nat.le_refl _)
  rw [hfind.1] at hrun
  refine ⟨cz, hrun, fun i hi => ?_⟩
  have e1 := hfind.2 i hi
  have e2 := congrArg Prod.fst hcz
  rw [e1] at e2
  simp at e2
  exact e2.symm
set_option maxRecDepth 100000 in
set_option maxHeartbeats 8000000 in
theorem move_no (B l : Nat) (a1 : Option Addr) (n c1 : Nat) (L : Nat → Ln) (a2 : Option Addr) (m c2 : Nat) (I : Nat → Tx) (M r s : Nat) (x0 x1 x2 x3 : ByteArray) (x4 : Int) (h0 : x0.size ≤ maxLen) (h1 : x1.size ≤ maxLen) (h2 : x2.size ≤ maxLen) (h3 : x3.size ≤ maxLen) (hok : ∀ j, j < n → okLine L j = true) (hf : ∀ j, j < n → (L j).fits) (hno : findB L x0 x1 n = none ∨ findB L x2 x3 n = none) (w : World) (h : LS w B l a1 n c1 L a2 m c2 I M r s) :
    Calls Tryz.prog 61 #[.pointer (some ⟨l, 0, none⟩), .agg #[.string x0, .string x1, .string x2, .string x3, .int .i64 x4]] w fun e w' => e = .returned (errV 8) ∧ Below w.heap.size w w' := by
  have hal : Below w.heap.size w (w.alloc (.cells #[.string x0, .string x1, .string x2, .string x3, .int .i64 x4] 59)) := (Below.refl _ _).alloc (Nat.le_refl _) _
  obtain ⟨z1, hrun1, _⟩ := look_spot (h.below (hal.drew)).map hok hf x0 x1 h0 h1
  obtain ⟨z2, hrun2, _⟩ := look_spot (h.below (hal.drew.drew)).map hok hf x2 x3 h2 h3
  have HB : Hid (Below w.heap.size w (w.alloc (.cells #[.string x0, .string x1, .string x2, .string x3, .int .i64 x4] 59)).drew.drew) := hal.drew.drew
  obtain ⟨l0, l1, l2, l3, lf, llt⟩ := h.led.below hal
  have hlw := h.led.lt
  have n0 : w.heap.size ≠ l := by omega
  have n1 : l ≠ w.heap.size := by omega
  obtain ⟨k0, k1, k2, k3, k4, klt⟩ := L5.new w x0 x1 x2 x3 x4 59
  have hq : (!(findB L x0 x1 n).isSome || !(findB L x2 x3 n).isSome) = true := by rcases hno with e | e <;> rw [e] <;> simp
  clear h hal hno hok hf h0 h1 h2 h3
  obtain ⟨p1, hp1⟩ : ∃ p, p = (findB L x0 x1 n).isSome := ⟨_, rfl⟩
  obtain ⟨p2, hp2⟩ : ∃ p, p = (findB L x2 x3 n).isSome := ⟨_, rfl⟩
  rw [← hp1] at hrun1 hq
  rw [← hp2] at hrun2 hq
  clear hp1 hp2
  have HQ : Hid ((!p1 || !p2) = true) := hq
  clear hq
  go_enter Tryz.func61, Tryz.ntmps61
  go_upto_region 1 with fail
  go_region_held3 (fun W => W.cell? ⟨l, 2, none⟩ = some (.map (some M)) ∧ W.cell? ⟨w.heap.size, 0, none⟩ = some (.string x0) ∧ W.cell? ⟨w.heap.size, 1, none⟩ = some (.string x1) ∧ W.cell? ⟨w.heap.size, 2, none⟩ = some (.string x2) ∧ W.cell? ⟨w.heap.size, 3, none⟩ = some (.string x3)) (go_keep) (fail)
  go_upto_region 2 with fail
  go_region_held3 (fun W => W.cell? ⟨l, 2, none⟩ = some (.map (some M)) ∧ W.cell? ⟨w.heap.size, 0, none⟩ = some (.string x0) ∧ W.cell? ⟨w.heap.size, 1, none⟩ = some (.string x1) ∧ W.cell? ⟨w.heap.size, 2, none⟩ = some (.string x2) ∧ W.cell? ⟨w.heap.size, 3, none⟩ = some (.string x3)) (go_keep) (fail)
  cases p1 with
  | false =>
    go_wp2_with fail
    refine bodyPost_ret (v := errV 8) ?_ rfl ⟨rfl, HB.out⟩
    simp [results, Tryz.results61, go_sem, errV]
  | true =>
    have hp2 : p2 = false := by have := HQ.out; simpa using this
    subst hp2
    go_wp2_with fail
    refine bodyPost_ret (v := errV 8) ?_ rfl ⟨rfl, HB.out⟩
    simp [results, Tryz.results61, go_sem, errV]
set_option maxRecDepth 100000 in
set_option maxHeartbeats 8000000 in
theorem move_yes (B l : Nat) (a1 : Option Addr) (n c1 : Nat) (L : Nat → Ln) (a2 : Option Addr) (m c2 : Nat) (I : Nat → Tx) (M r s : Nat) (x0 x1 x2 x3 : ByteArray) (x4 : Int) (h0 : x0.size ≤ maxLen) (h1 : x1.size ≤ maxLen) (h2 : x2.size ≤ maxLen) (h3 : x3.size ≤ maxLen) (hx0 : 0 ≤ x4) (hx1 : x4 ≤ 1000000000000) (hr : r ≤ 900000000000000) (hs : s ≤ 900000000000000) (hok : ∀ j, j < n → okLine L j = true) (hf : ∀ j, j < n → (L j).fits) (f t : Nat) (hF : findB L x0 x1 n = some f) (hT : findB L x2 x3 n = some t) (w : World) (hBw : B ≤ w.heap.size) (h : LS w B l a1 n c1 L a2 m c2 I M r s) :
    Calls Tryz.prog 61 #[.pointer (some ⟨l, 0, none⟩), .agg #[.string x0, .string x1, .string x2, .string x3, .int .i64 x4]] w fun e w' => ∃ L' r' s', LS w' B l a1 n c1 L' a2 m c2 I M r' s' ∧ Below B w w' ∧
      ((rightB ((L f).m - x4) = true ∧ rightB ((setM L f ((L f).m - x4) t).m + x4) = true ∧ e = .returned .nilIface ∧ L' = setM (setM L f ((L f).m - x4)) t ((setM L f ((L f).m - x4) t).m + x4) ∧ (s' : Int) - (r' : Int) = (s : Int) - (r : Int) ∧ r' ≤ r + 1000000000000 ∧ s' ≤ s + 1000000000000) ∨ (¬ (rightB ((L f).m - x4) = true ∧ rightB ((setM L f ((L f).m - x4) t).m + x4) = true) ∧ e = .returned (errV 13))) := by
  have hal : Below w.heap.size w (w.alloc (.cells #[.string x0, .string x1, .string x2, .string x3, .int .i64 x4] 59)) := (Below.refl _ _).alloc (Nat.le_refl _) _
  obtain ⟨z1, hrun1, hz1⟩ := look_spot (h.below (hal.drew)).map hok hf x0 x1 h0 h1
  obtain ⟨z2, hrun2, hz2⟩ := look_spot (h.below (hal.drew.drew)).map hok hf x2 x3 h2 h3
  have e1 := hz1 f hF
  have e2 := hz2 t hT
  subst e1 e2
  rw [hF] at hrun1
  rw [hT] at hrun2
  have hsome1 : (some f : Option Nat).isSome = true := rfl
  have hsome2 : (some t : Option Nat).isSome = true := rfl
  rw [hsome1] at hrun1
  rw [hsome2] at hrun2
  have f1 := (findB_some hF).1
  have t1 := (findB_some hT).1
  have HB : Hid (Below w.heap.size w (w.alloc (.cells #[.string x0, .string x1, .string x2, .string x3, .int .i64 x4] 59)).drew.drew) := hal.drew.drew
  have HS : Hid (LS (w.alloc (.cells #[.string x0, .string x1, .string x2, .string x3, .int .i64 x4] 59)).drew.drew B l a1 n c1 L a2 m c2 I M r s) := h.below hal.drew.drew
  obtain ⟨l0, l1, l2, l3, lf, llt⟩ := h.led.below hal
  have hlw := h.led.lt
  have hgw : ∀ k, a1.map Addr.block = some k → k < w.heap.size := fun k e => (h.rows.lt1 k e).2
  have n0 : w.heap.size ≠ l := by omega
  have n1 : l ≠ w.heap.size := by omega
  have K0 := L5.new w x0 x1 x2 x3 x4 59
  have HK : Hid (L5 (w.alloc (.cells #[.string x0, .string x1, .string x2, .string x3, .int .i64 x4] 59)).drew.drew w.heap.size x0 x1 x2 x3 x4) := K0.drew.drew
  obtain ⟨k0, k1, k2, k3, k4, klt⟩ := K0
  have HOK : Hid (∀ j, j < n → okLine L j = true) := hok
  clear h hal hf h0 h1 h2 h3 hz1 hz2 hF hT hsome1 hsome2 hok
  have hmf : rightB (L f).m = true := by have := HOK.out f f1; simp only [okLine, Bool.and_eq_true] at this; exact this.1.2
  have C1 := impl_change B l a1 n c1 L a2 m c2 I M r s f (-x4) f1 (by omega) (by omega) (by omega) (by omega) hmf _ HS.out
  rw [show (L f).m + -x4 = (L f).m - x4 from rfl] at C1
  have HC1 : Hid (Calls Tryz.prog 74 _ _ _) := C1
  clear C1 hmf
  have HG : Hid (∀ k, a1.map Addr.block = some k → k < w.heap.size) := hgw
  clear hgw
  have htk : takeI r (-x4) ≤ r + 1000000000000 ∧ putI s (-x4) = s ∧ (takeI r (-x4) : Int) = r + x4 := by
    unfold takeI putI
    by_cases hn : -x4 < 0
    · rw [if_pos hn, if_pos hn]; refine ⟨by omega, rfl, by omega⟩
    · rw [if_neg hn, if_neg hn]; refine ⟨by omega, by omega, by omega⟩
  have HTK : Hid (takeI r (-x4) ≤ r + 1000000000000 ∧ putI s (-x4) = s ∧ (takeI r (-x4) : Int) = r + x4) := htk
  clear htk
  go_enter Tryz.func61, Tryz.ntmps61
  go_upto_region 1 with fail
  go_region_held3 (fun W => W.cell? ⟨l, 2, none⟩ = some (.map (some M)) ∧ W.cell? ⟨w.heap.size, 0, none⟩ = some (.string x0) ∧ W.cell? ⟨w.heap.size, 1, none⟩ = some (.string x1) ∧ W.cell? ⟨w.heap.size, 2, none⟩ = some (.string x2) ∧ W.cell? ⟨w.heap.size, 3, none⟩ = some (.string x3)) (go_keep) (fail)
  go_upto_region 2 with fail
  go_region_held3 (fun W => W.cell? ⟨l, 2, none⟩ = some (.map (some M)) ∧ W.cell? ⟨w.heap.size, 0, none⟩ = some (.string x0) ∧ W.cell? ⟨w.heap.size, 1, none⟩ = some (.string x1) ∧ W.cell? ⟨w.heap.size, 2, none⟩ = some (.string x2) ∧ W.cell? ⟨w.heap.size, 3, none⟩ = some (.string x3)) (go_keep) (fail)
  go_wp2_with fail
  refine HC1.out.mono ?_
  rintro e w1 hcase
  rcases hcase with ⟨hz, rfl, rfl⟩ | ⟨hz, rfl, HS1, hb1, hk1⟩
  · simp only [errV]
    go_wp2_with fail
    refine bodyPost_ret (v := errV 13) ?_ rfl ⟨_, _, _, HS.out, HB.out.mono hBw, Or.inr ⟨fun hh => (by rw [hh.1] at hz; cases hz), rfl⟩⟩
    simp [results, Tryz.results61, go_sem, errV]
  · have K1 := HK.out.low (hk1 _ n0 (fun e => Nat.lt_irrefl _ (HG.out _ e))) hb1.size
    have HO1 := setM_ok HOK.out f hz
    have hmt : rightB (setM L f ((L f).m - x4) t).m = true := by have := HO1 t t1; simp only [okLine, Bool.and_eq_true] at this; exact this.1.2
    have C2 := impl_change B l a1 n c1 (setM L f ((L f).m - x4)) a2 m c2 I M _ _ t x4 t1 (by omega) (by omega) (by have := HTK.out.1; omega) (by rw [HTK.out.2.1]; omega) hmt _ HS1
    have HC2 : Hid (Calls Tryz.prog 74 _ _ _) := C2
    have HSS : Hid (LS w1 B l a1 n c1 (setM L f ((L f).m - x4)) a2 m c2 I M (takeI r (-x4)) (putI s (-x4))) := HS1
    have HB1 : Hid (Below B w w1) := (HB.out.mono hBw).trans hb1
    have HZ : Hid (rightB ((L f).m - x4) = true) := hz
    clear C2 HS1 hb1 hk1 HO1 hmt hz k0 k1 k2 k3 k4 klt
    obtain ⟨k0, k1, k2, k3, k4, klt⟩ := K1
    go_wp2_with fail
    refine HC2.out.mono ?_
    rintro e w2 hcase2
    rcases hcase2 with ⟨hz2, rfl, rfl⟩ | ⟨hz2, rfl, HS2, hb2, hk2⟩
    · simp only [errV]
      go_wp2_with fail
      refine bodyPost_ret (v := errV 13) ?_ rfl ⟨_, _, _, HSS.out, HB1.out, Or.inr ⟨fun hh => (by rw [hh.2] at hz2; cases hz2), rfl⟩⟩
      simp [results, Tryz.results61, go_sem, errV]
    · go_wp2_with fail
      refine bodyPost_ret (v := .nilIface) ?_ rfl ⟨_, _, _, HS2, HB1.out.trans hb2, Or.inl ⟨HZ.out, hz2, rfl, rfl, ?_, ?_, ?_⟩⟩
      · simp [results, Tryz.results61, go_sem]
      all_goals
        obtain ⟨q1, q2, q3⟩ := HTK.out
        have q4 : ∀ a, takeI a x4 = a := fun a => by unfold takeI; rw [if_neg (by omega)]
        have q5 : ∀ a, putI a x4 = a + x4.natAbs := fun a => by unfold putI; rw [if_neg (by omega)]
        simp only [q2, q4, q5]
        omega
end Go.Proofs.YtepkmbfedblhdaaGreatDoor
namespace Go.Proofs.YtepkmbfedblhdaaGreatDoor
open Go.RowKit
open Go.Proofs.YtepkmbfedblhdaaGreatDoor.Draw

/-- What a leg does to a ledger. -/
def MoveOut (w : World) (B l : Nat) (a1 : Option Addr) (n c1 : Nat) (L : Nat → Ln) (a2 : Option Addr) (m c2 : Nat) (I : Nat → Tx) (M r s : Nat) (q : Lg) (e : Ending) (w' : World) : Prop := ∃ L' r' s', LS w' B l a1 n c1 L' a2 m c2 I M r' s' ∧ Below B w w' ∧
  (((s' : Int) - (r' : Int) = (s : Int) - (r : Int) ∧ r' ≤ r + 1000000000000 ∧ s' ≤ s + 1000000000000 ∧ L' = (moveB n L q).1 ∧ (moveB n L q).2 = 0 ∧ e = .returned .nilIface) ∨ ((moveB n L q).2 ≠ 0 ∧ e = .returned (errV (moveB n L q).2)))
theorem impl_move (B l : Nat) (a1 : Option Addr) (n c1 : Nat) (L : Nat → Ln) (a2 : Option Addr) (m c2 : Nat) (I : Nat → Tx) (M r s : Nat) (q : Lg) (hq : q.fits) (hx0 : 0 ≤ q.m) (hx1 : q.m ≤ 1000000000000) (hr : r ≤ 900000000000000) (hs : s ≤ 900000000000000) (hok : ∀ j, j < n → okLine L j = true) (hf : ∀ j, j < n → (L j).fits) (w : World) (hBw : B ≤ w.heap.size) (h : LS w B l a1 n c1 L a2 m c2 I M r s) :
    Calls Tryz.prog 61 #[.pointer (some ⟨l, 0, none⟩), .agg #[.string q.fa, .string q.fs, .string q.ta, .string q.ts, .int .i64 q.m]] w (MoveOut w B l a1 n c1 L a2 m c2 I M r s q) := by
  obtain ⟨h0, h1, h2, h3⟩ := hq
  have no : findB L q.fa q.fs n = none ∨ findB L q.ta q.ts n = none → (moveB n L q).2 = 8 → Calls Tryz.prog 61 #[.pointer (some ⟨l, 0, none⟩), .agg #[.string q.fa, .string q.fs, .string q.ta, .string q.ts, .int .i64 q.m]] w (MoveOut w B l a1 n c1 L a2 m c2 I M r s q) := fun hno hv => (move_no B l a1 n c1 L a2 m c2 I M r s q.fa q.fs q.ta q.ts q.m h0 h1 h2 h3 hok hf hno w h).mono (fun e w' he => ⟨L, r, s, h.below he.2, he.2.mono hBw, Or.inr ⟨by rw [hv]; decide, by rw [hv]; exact he.1⟩⟩)
  cases hF : findB L q.fa q.fs n with
  | none => exact no (Or.inl hF) (by unfold moveB; rw [hF])
  | some f =>
    cases hT : findB L q.ta q.ts n with
    | none => exact no (Or.inr hT) (by unfold moveB; rw [hF]; simp only []; rw [hT])
    | some t =>
      clear no
      refine (move_yes B l a1 n c1 L a2 m c2 I M r s q.fa q.fs q.ta q.ts q.m h0 h1 h2 h3 hx0 hx1 hr hs hok hf f t hF hT w hBw h).mono ?_
      rintro e w' ⟨L', r', s', hS, hb, hc⟩
      refine ⟨L', r', s', hS, hb, ?_⟩
      have hv : moveB n L q = if rightB ((L f).m - q.m) = true then (if rightB ((setM L f ((L f).m - q.m) t).m + q.m) = true then (setM (setM L f ((L f).m - q.m)) t ((setM L f ((L f).m - q.m) t).m + q.m), 0) else (L, 13)) else (L, 13) := by
        unfold moveB; rw [hF]; simp only []; rw [hT]
      rcases hc with ⟨y1, y2, rfl, rfl, z1, z2, z3⟩ | ⟨y, rfl⟩
      · rw [if_pos y1, if_pos y2] at hv
        exact Or.inl ⟨z1, z2, z3, by rw [hv], by rw [hv], rfl⟩
      · have h13 : (moveB n L q).2 = 13 := by
          rw [hv]
          by_cases y1 : rightB ((L f).m - q.m) = true
          · rw [if_pos y1]
            by_cases y2 : rightB ((setM L f ((L f).m - q.m) t).m + q.m) = true
            · exact absurd ⟨y1, y2⟩ y
            · rw [if_neg y2]
          · rw [if_neg y1]
        exact Or.inr ⟨by rw [h13]; decide, by rw [h13]⟩
set_option maxRecDepth 100000 in
set_option maxHeartbeats 8000000 in
theorem impl_post (B l : Nat) (a1 : Option Addr) (n c1 : Nat) (L : Nat → Ln) (a2 : Option Addr) (m c2 : Nat) (I : Nat → Tx) (M r s : Nat) (a : Option Addr) (K cap : Nat) (Q : Nat → Lg) (hK : K ≤ 20) (hfit : ∀ i, i < K → (Q i).fits) (hleg : ∀ i, i < K → okLeg (Q i) = true) (hr : r ≤ 60000000000000) (hrs : r = s) (hok : ∀ j, j < n → okLine L j = true) (hf : ∀ j, j < n → (L j).fits) (w0 w : World) (hB0 : B = w0.heap.size) (hb0 : Below w0.heap.size w0 w) (hQ : LegsAt w0 a K Q) (h : LS w B l a1 n c1 L a2 m c2 I M r s) :
    Calls Tryz.prog 32 #[.pointer (some ⟨l, 0, none⟩), .slice a K cap] w fun e w' => ∃ L' r' s', LS w' B l a1 n c1 L' a2 m c2 I M r' s' ∧ Below B w w' ∧ ((postB n Q K 0 L).2.2 = 0 → L' = (postB n Q K 0 L).1) ∧ e = .returned (.tuple #[.int .i64 ((postB n Q K 0 L).2.1 : Int), errOf (postB n Q K 0 L).2.2]) := by
  subst hrs
  subst hB0
  have HQ : Hid (LegsAt w0 a K Q) := hQ
  have HF : Hid (∀ i, i < K → (Q i).fits) := hfit
  have HG : Hid (∀ i, i < K → okLeg (Q i) = true) := hleg
  have HS0 : Hid (LS w w0.heap.size l a1 n c1 L a2 m c2 I M r r) := h
  have HB0 : Hid (Below w0.heap.size w0 w) := hb0
  have HKp : Hid (Kept n L L) := Kept.refl hok hf
  have HM : Hid (∀ (L' : Nat → Ln) (r' s' : Nat) (q : Lg), q.fits → okLeg q = true → r' ≤ 900000000000000 → s' ≤ 900000000000000 → Kept n L L' → ∀ W, w0.heap.size ≤ W.heap.size → LS W w0.heap.size l a1 n c1 L' a2 m c2 I M r' s' → Calls Tryz.prog 61 #[.pointer (some ⟨l, 0, none⟩), .agg #[.string q.fa, .string q.fs, .string q.ta, .string q.ts, .int .i64 q.m]] W (MoveOut W w0.heap.size l a1 n c1 L' a2 m c2 I M r' s' q)) := fun L' r' s' q hq ho h1 h2 hk W hW hS => impl_move w0.heap.size l a1 n c1 L' a2 m c2 I M r' s' q hq ((okLeg_iff q).1 ho).2.2.1 ((okLeg_iff q).1 ho).2.2.2 h1 h2 hk.ok hk.fits W hW hS
  obtain ⟨P, hP⟩ : ∃ P, P = postB n Q K 0 L := ⟨_, rfl⟩
  have HP : Hid (P = postB n Q K 0 L) := hP
  rw [← hP]
  clear hP h hb0 hok hf hfit hleg hQ
  go_enter Tryz.func32, Tryz.ntmps32
  go_wp2_with fail
  go_loopw [11] (fun i wr => ∃ (k : Nat) (L' : Nat → Ln) (r' s' : Nat), i = .int .i64 (k : Int) ∧ k ≤ K ∧ Hid (LS wr w0.heap.size l a1 n c1 L' a2 m c2 I M r' s') ∧ Hid (Below w0.heap.size w wr) ∧ Hid (Kept n L L') ∧ Hid (P = postB n Q (K - k) k L') ∧ Hid (r' = s') ∧ Hid (r' ≤ 60000000000000 + k * 1000000000000)) (fun i _ => K - (intOf i).toNat)
  case atStart => exact ⟨0, L, r, r, rfl, by omega, HS0, Below.refl _ _, HKp, HP, rfl, (by omega : r ≤ 60000000000000 + 0 * 1000000000000)⟩
  case round =>
    obtain ⟨k, L', r', s', rfl, hk, HS, HB, HKk, HPk, HE, HR⟩ := hrel
    by_cases hkn : k < K
    · have p0 : decide (k < K) = true := by simpa using hkn
      have p1 : decide ((k : Int) < (K : Int)) = true := by simpa using hkn
      rcases HQ.out.below (HB0.out.trans HB.out) with h0 | ⟨g, o, rfl, hg, hc⟩
      · omega
      obtain ⟨g0, g1, g2, g3, g4⟩ := hc k hkn
      have HL1 := HM.out L' r' s' (Q k) (HF.out k hkn) (HG.out k hkn) (by have := HR.out; omega) (by have := HR.out; have := HE.out; omega) HKk.out
      have HL1 : Hid (∀ W, _) := HL1
      have HV : Hid (P = if (moveB n L' (Q k)).2 = 0 then postB n Q (K - (k + 1)) (k + 1) (moveB n L' (Q k)).1 else (L', k, (moveB n L' (Q k)).2)) := by rw [HPk.out, show K - k = (K - (k + 1)) + 1 by omega]; rfl
      have HKq : Hid (Kept n L (moveB n L' (Q k)).1) := HKk.out.trans (move_kept HKk.out.ok HKk.out.fits (Q k))
      clear hc
      unfold MoveOut at HL1
      generalize moveB n L' (Q k) = mv at *
      generalize Q k = q at *
      obtain ⟨x0, x1, x2, x3, x4⟩ := q
      simp only [] at g0 g1 g2 g3 g4 HL1
      go_wp2_with fail
      refine (HL1.out _ (by have := HB0.out.size; have := HB.out.size; simp; omega) (by exact HS.out.below ((Below.refl _ _).alloc (Nat.le_refl _) _))).mono ?_
      rintro e w1 ⟨L1, r1, s1, hS1, hb1, hcase⟩
      have HS1 : Hid (LS w1 w0.heap.size l a1 n c1 L1 a2 m c2 I M r1 s1) := hS1
      have HB1 : Hid (Below w0.heap.size w w1) := HB.out.trans (((Below.refl _ _).alloc (Nat.le_trans HB0.out.size HB.out.size) _).trans hb1)
      clear hS1 hb1 g0 g1 g2 g3 g4 HL1
      rcases hcase with ⟨z1, z2, z3, rfl, z5, rfl⟩ | ⟨z, rfl⟩
      · have HZ : Hid (r1 = s1 ∧ r1 ≤ 60000000000000 + (k + 1) * 1000000000000) := ⟨by have := HE.out; omega, by have := HR.out; omega⟩
        have HV' : Hid (P = postB n Q (K - (k + 1)) (k + 1) mv.1) := by have := HV.out; rw [if_pos z5] at this; exact this
        clear HV z1 z2 z3 z5
        go_wp2_with fail
        go_roundw
        case rel => exact ⟨k + 1, _, r1, s1, by go_num, by omega, HS1, HB1, HKq, HV', HZ.out.1, HZ.out.2⟩
        case measure => simp [intOf]; omega
      · have HV' : Hid (P = (L', k, mv.2)) := by have := HV.out; rw [if_neg z] at this; exact this
        have HZ : Hid (mv.2 ≠ 0) := z
        clear HV z
        simp only [errV]
        go_wp2_with fail
        refine bodyPost_ret (v := .tuple #[.int .i64 (k : Int), errV mv.2]) ?_ rfl ⟨L1, r1, s1, HS1.out, HB1.out, ?_, ?_⟩
        · simp [results, Tryz.results32, go_sem, errV]
        · rw [HV'.out]; exact fun e => absurd e HZ.out
        · rw [HV'.out]; simp only [errOf]; rw [if_neg HZ.out]
    · have p0 : decide (k < K) = false := by simpa using hkn
      have p1 : decide ((k : Int) < (K : Int)) = false := by simpa using hkn
      obtain rfl : k = K := by omega
      have HS1 := HS.out.led.c3
      have HT := impl_settled l r' s' (by have := HR.out; omega) (by have := HR.out; have := HE.out; omega) _ HS1
      rw [if_pos HE.out] at HT
      have HT : Hid (Calls Tryz.prog 57 _ _ _) := HT
      clear HS1
      go_wp2_with fail
      refine HT.out.mono ?_
      rintro e w1 ⟨rfl, d, rfl⟩
      have HD : Hid (Below wr.heap.size wr (wr.drewN d)) := ⟨rfl, rfl, rfl, Nat.le_refl _, fun _ _ => rfl⟩
      have HV : Hid (P = (L', 0, 0)) := by rw [HPk.out, Nat.sub_self]; rfl
      go_wp2_with fail
      refine bodyPost_ret (v := .tuple #[.int .i64 0, .nilIface]) ?_ rfl ⟨L', r', s', HS.out.below HD.out, HB.out.trans (HD.out.mono (Nat.le_trans HB0.out.size HB.out.size)), ?_, ?_⟩
      · simp [results, Tryz.results32, go_sem]
      · rw [HV.out]; exact fun _ => rfl
      · rw [HV.out]; rfl
end Go.Proofs.YtepkmbfedblhdaaGreatDoor
namespace Go.Proofs.YtepkmbfedblhdaaGreatDoor
def ren26 : Go.Shelf.Ren := ⟨fun | 26 => 58 | 33 => 69 | 34 => 70 | 38 => 77 | n => n, fun | 0 => 0 | 3 => 3 | 4 => 4 | 9 => 9 | 24 => 23 | 40 => 109 | n => n, fun  | n => n⟩
set_option maxRecDepth 100000 in
theorem lays26 : Go.Proofs.Lays2.n26 Tryz.prog ren26 := {
  mixed := by kernel_rfl,
  f26 := by kernel_rfl,
  f33 := by kernel_rfl,
  f34 := by kernel_rfl,
  f38 := by kernel_rfl,
  t0 := by kernel_rfl,
  a0 := fun _ => by kernel_rfl,
  z0 := fun _ => by kernel_rfl,
  v0 := fun _ => by kernel_rfl,
  t3 := by kernel_rfl,
  a3 := fun _ => by kernel_rfl,
  z3 := fun _ => by kernel_rfl,
  v3 := fun _ => by kernel_rfl,
  t4 := by kernel_rfl,
  a4 := fun _ => by kernel_rfl,
  z4 := fun _ => by kernel_rfl,
  v4 := fun _ => by kernel_rfl,
  t9 := by kernel_rfl,
  a9 := fun _ => by kernel_rfl,
  z9 := fun _ => by kernel_rfl,
  v9 := fun _ => by kernel_rfl,
  t24 := by kernel_rfl,
  a24 := fun _ => by kernel_rfl,
  z24 := fun _ => by kernel_rfl,
  v24 := fun _ => by kernel_rfl,
  t40 := by kernel_rfl,
  a40 := fun _ => by kernel_rfl,
  z40 := fun _ => by kernel_rfl,
  v40 := fun _ => by kernel_rfl }
end Go.Proofs.YtepkmbfedblhdaaGreatDoor
namespace Go.Proofs.YtepkmbfedblhdaaGreatDoor
open Go.RowKit Go.Lib
open Go.Proofs.YtepkmbfedblhdaaGreatDoor.Draw

/-- copy of elements of q cells each into a row that is known whole. -/
theorem run_copy_rowq (P : Program) (w : World) (dT sT ty elem : TypeId) (q g o dLen dCap : Nat) (a : Addr) (sLen sCap : Nat) (cur : Array Value) (t : TypeId) (cs : List Value)
    (hu : P.underlying dT = some (.slice elem)) (hs : (P.info? elem).map (·.size) = some q)
    (hg : w.heap[g]? = some (.cells cur t (0, 0))) (hn : cs.length = Nat.min sLen dLen * q)
    (hsrc : ∀ j v, cs[j]? = some v → w.cell? (a.add j) = some v) (hfit : o + cs.length ≤ cur.size) (h1 : ∀ v ∈ cs, v.oneCell' = true) :
    (Builtin.copy_ #[dT, sT] ty #[.slice (some ⟨g, o, none⟩) dLen dCap, .slice (some a) sLen sCap]).run P w =
      .ok (goInt (Nat.min sLen dLen)) (w.setRow g (cur.toList.take o ++ cs ++ cur.toList.drop (o + cs.length)).toArray) := by
  have hl := run_loadCells_list (P := P) w a cs hsrc
  have hst := run_storeCells_at P g o t cs 0 cur w hg (by simpa using hfit) h1
  cases hq : P.info? elem with
  | none => simp [hq] at hs
  | some i =>
    have hi : i.size = q := by simpa [hq] using hs
    simp [Builtin.copy_, run_underlying hu, Builtin.lenOf, Builtin.firstCells, sizeOf, typeInfo, hq, hi, ← hn, hl, hst]
end Go.Proofs.YtepkmbfedblhdaaGreatDoor
namespace Go.Proofs.YtepkmbfedblhdaaGreatDoor
open Go.RowKit Go.Lib
open Go.Proofs.YtepkmbfedblhdaaGreatDoor.Draw

theorem row_cell {w : World} {g : Nat} {cur : Array Value} {t : TypeId} (h : w.heap[g]? = some (.cells cur t (0, 0))) (j : Nat) : w.cell? ⟨g, j, none⟩ = cur[j]? := by simp [World.cell?, h]
theorem row_frozen {w : World} {g : Nat} {cur : Array Value} {t : TypeId} (h : w.heap[g]? = some (.cells cur t (0, 0))) (j : Nat) : w.frozen? ⟨g, j, none⟩ = false := by simp [World.frozen?, h]
/-- What stands in the row behind both copies. -/
theorem room_list {α : Type} (cur vs : List α) (i n k : Nat) (hin : i < n) (hv : vs.length = k) (hl : (n + 1) * k ≤ cur.length) :
    ((cur.take ((i + 1) * k) ++ (cur.take (n * k)).drop (i * k) ++ cur.drop ((i + 1) * k + ((cur.take (n * k)).drop (i * k)).length)).take (i * k) ++ vs ++ (cur.take ((i + 1) * k) ++ (cur.take (n * k)).drop (i * k) ++ cur.drop ((i + 1) * k + ((cur.take (n * k)).drop (i * k)).length)).drop (i * k + vs.length)).take ((n + 1) * k) = (cur.take (n * k)).take (i * k) ++ vs ++ (cur.take (n * k)).drop (i * k) := by
  have m1 : (i + 1) * k = i * k + k := Nat.succ_mul i k
  have m2 : (n + 1) * k = n * k + k := Nat.succ_mul n k
  have m3 : i * k + k ≤ n * k := by rw [← m1]; exact Nat.mul_le_mul_right k (by omega)
  obtain ⟨cs, hcs⟩ : ∃ cs, cs = (cur.take (n * k)).drop (i * k) := ⟨_, rfl⟩
  have hcl : cs.length = n * k - i * k := by rw [hcs, List.length_drop, List.length_take]; omega
  rw [← hcs, m1, m2]
  have e1 : (cur.take (i * k + k) ++ cs ++ cur.drop (i * k + k + cs.length)).take (i * k) = (cur.take (n * k)).take (i * k) := by
    rw [List.append_assoc, List.take_append_of_le_length (by rw [List.length_take]; omega), List.take_take, List.take_take, Nat.min_eq_left (by omega), Nat.min_eq_left (by omega)]
  have e2 : (cur.take (i * k + k) ++ cs ++ cur.drop (i * k + k + cs.length)).drop (i * k + vs.length) = cs ++ cur.drop (i * k + k + cs.length) := by
    rw [List.append_assoc, hv]
    exact List.drop_left' (by rw [List.length_take]; omega)
  rw [e1, e2, ← List.append_assoc]
  exact List.take_left' (by simp only [List.length_append, List.length_take]; omega)
end Go.Proofs.YtepkmbfedblhdaaGreatDoor
namespace Go.Proofs.YtepkmbfedblhdaaGreatDoor
open Go.RowKit Go.Lib
open Go.Proofs.YtepkmbfedblhdaaGreatDoor.Draw

/-- What stands in the new row behind both copies. -/
theorem grow_list {α : Type} (cur vs z1 z2 : List α) (i n k : Nat) (hin : i < n) (hv : vs.length = k) (hl : cur.length = n * k) :
    (((cur.take (i * k) ++ z1 ++ z2).take (i * k) ++ vs ++ (cur.take (i * k) ++ z1 ++ z2).drop (i * k + vs.length)).take ((i + 1) * k) ++ cur.drop (i * k) ++ ((cur.take (i * k) ++ z1 ++ z2).take (i * k) ++ vs ++ (cur.take (i * k) ++ z1 ++ z2).drop (i * k + vs.length)).drop ((i + 1) * k + (cur.drop (i * k)).length)).take ((n + 1) * k) = cur.take (i * k) ++ vs ++ cur.drop (i * k) := by
  have m1 : (i + 1) * k = i * k + k := Nat.succ_mul i k
  have m2 : (n + 1) * k = n * k + k := Nat.succ_mul n k
  have m3 : i * k + k ≤ n * k := by rw [← m1]; exact Nat.mul_le_mul_right k (by omega)
  have e1 : (cur.take (i * k) ++ z1 ++ z2).take (i * k) = cur.take (i * k) := by
    rw [List.append_assoc]; exact List.take_left' (by rw [List.length_take]; omega)
  obtain ⟨T, hT⟩ : ∃ T, T = (cur.take (i * k) ++ z1 ++ z2).drop (i * k + vs.length) := ⟨_, rfl⟩
  rw [e1, ← hT, m1, m2]
  have e2 : (cur.take (i * k) ++ vs ++ T).take (i * k + k) = cur.take (i * k) ++ vs := List.take_left' (by simp only [List.length_append, List.length_take]; omega)
  rw [e2]
  exact List.take_left' (by simp only [List.length_append, List.length_take, List.length_drop]; omega)
end Go.Proofs.YtepkmbfedblhdaaGreatDoor
namespace Go.Proofs.YtepkmbfedblhdaaGreatDoor
open Go.RowKit Go.Lib
open Go.Proofs.YtepkmbfedblhdaaGreatDoor.Draw

theorem owns_slice {w : World} {B e size n : Nat} {v : Value} {xs : List Value} (h : w.ownsRow B e size v n xs) : ∃ a c, v = .slice a n c := by
  rcases h with ⟨_, ⟨rfl, rfl⟩ | ⟨g, cap, cur, rfl, _⟩⟩
  · exact ⟨none, 0, rfl⟩
  · exact ⟨_, cap, rfl⟩
end Go.Proofs.YtepkmbfedblhdaaGreatDoor
namespace Go.Proofs.YtepkmbfedblhdaaGreatDoor
open Go.RowKit Go.Lib
open Go.Proofs.YtepkmbfedblhdaaGreatDoor.Draw

set_option maxRecDepth 100000 in
set_option maxHeartbeats 8000000 in
/-- At the end. -/
theorem insert_endS (B : Nat) (ad : Option Addr) (n c vb : Nat) (xs : List Value) (v0 : Value) (w : World) (hB : B ≤ w.heap.size) (hn : n ≤ 100) (hcap : c ≤ maxLen) (hown : w.ownsRow B 9 1 (.slice ad n c) n xs) (h1 : v0.oneCell' = true) (hv : ∀ j u, ([v0] : List Value)[j]? = some u → w.cell? ((⟨vb, 0, none⟩ : Addr).add j) = some u) :
    Calls Tryz.prog 59 #[.slice ad n c, .int .i64 (n : Int), .slice (some ⟨vb, 0, none⟩) 1 1] w fun e w' => ∃ v', e = .returned v' ∧ w'.ownsRow B 9 1 v' (n + 1) (xs ++ [v0]) ∧ w.grownBy w' (ad.map Addr.block) := by
  obtain ⟨i0, hi, hz0, hz1, hz2⟩ := info_parts infoTx
  have HO : Hid (w.ownsRow B 9 1 (.slice ad n c) n xs) := hown
  have HV : Hid (∀ j u, ([v0] : List Value)[j]? = some u → w.cell? ((⟨vb, 0, none⟩ : Addr).add j) = some u) := hv
  unfold maxLen at hcap
  have hnc : n ≤ c := by
    rcases hown with ⟨_, ⟨e, e2⟩ | ⟨g, cap, cur, e, _, _, e3, _⟩⟩
    · omega
    · simp at e; omega
  clear hown hv
  cases ad with
  | none =>
    go_enter Tryz.func59, Tryz.ntmps59
    go_wp2_with (at_builtin; refine wpList_append_own _ rfl (.tmp 23) (.tmp 24) 23 rfl B 9 i0 (.string ⟨#[]⟩) 1 16 Tryz.underlying23 hi hz0 hz1 hz2 rfl (by decide) (.slice none n c) n xs rfl HO.out ⟨vb, 0, none⟩ 1 1 [v0] rfl rfl ?c1 ?c2 ?c3 ?c4 ?c5 ?_)
    all_goals first
      | exact HV.out
      | (intro u hu; simp at hu; subst hu; exact h1)
      | (unfold maxLen; omega)
      | omega
      | (simp; done)
      | skip
    all_goals
      intro v' w' hown hg _
      go_wp2_with fail
      refine bodyPost_ret (v := v') ?_ rfl ⟨v', rfl, hown, hg⟩
      simp [results, Tryz.results59, go_sem]
  | some a =>
    obtain ⟨g, o, sp⟩ := a
    by_cases hcn : n = c
    · subst hcn
      go_enter Tryz.func59, Tryz.ntmps59
      go_wp2_with (at_builtin; refine wpList_append_own _ rfl (.tmp 23) (.tmp 24) 23 rfl B 9 i0 (.string ⟨#[]⟩) 1 16 Tryz.underlying23 hi hz0 hz1 hz2 rfl (by decide) (.slice (some ⟨g, o, sp⟩) n n) n xs rfl HO.out ⟨vb, 0, none⟩ 1 1 [v0] rfl rfl ?e1 ?e2 ?e3 ?e4 ?e5 ?_)
      all_goals first
        | exact HV.out
        | (intro u hu; simp at hu; subst hu; exact h1)
        | (unfold maxLen; omega)
        | omega
        | (simp; done)
        | skip
      all_goals
        intro v' w' hown hg _
        go_wp2_with fail
        refine bodyPost_ret (v := v') ?_ rfl ⟨v', rfl, hown, hg⟩
        simp [results, Tryz.results59, go_sem]
    · have hcn' : ¬ c = n := fun e => hcn e.symm
      go_enter Tryz.func59, Tryz.ntmps59
      go_wp2_with (at_builtin; refine wpList_append_own _ rfl (.tmp 23) (.tmp 24) 23 rfl B 9 i0 (.string ⟨#[]⟩) 1 16 Tryz.underlying23 hi hz0 hz1 hz2 rfl (by decide) (.slice (some ⟨g, o, sp⟩) n c) n xs rfl HO.out ⟨vb, 0, none⟩ 1 1 [v0] rfl rfl ?d1 ?d2 ?d3 ?d4 ?d5 ?_)
      all_goals first
        | exact HV.out
        | (intro u hu; simp at hu; subst hu; exact h1)
        | (unfold maxLen; omega)
        | omega
        | (simp; done)
        | skip
      all_goals
        intro v' w' hown hg _
        go_wp2_with fail
        refine bodyPost_ret (v := v') ?_ rfl ⟨v', rfl, hown, hg⟩
        simp [results, Tryz.results59, go_sem]
end Go.Proofs.YtepkmbfedblhdaaGreatDoor
namespace Go.Proofs.YtepkmbfedblhdaaGreatDoor
open Go.RowKit Go.Lib
open Go.Proofs.YtepkmbfedblhdaaGreatDoor.Draw

theorem size_lnS (w : World) : (Go.sizeOf 9).run Tryz.prog w = .ok 1 w := by
  obtain ⟨i0, hi, hz0, hz1, hz2⟩ := info_parts infoTx
  simp [Go.sizeOf, typeInfo, hi, hz1]
theorem apart_lnS (g vb : Nat) (cur vcs : Array Value) (w : World) (hg : w.heap[g]? = some (.cells cur 9 (0, 0))) (hc : cur.size ≠ 0) (hv : w.heap[vb]? = some (.cells vcs 9 (0, 0))) (hne : vb ≠ g) (off lb cb : Nat) :
    (callFunc 71 #[.slice (some ⟨vb, 0, none⟩) 1 1, .slice (some ⟨g, off, none⟩) lb cb]).run Tryz.prog w = .ok (.value (.bool false)) w := by
  rw [run_callFunc_extern Tryz.func71 (by kernel_rfl) (by kernel_rfl) (by kernel_rfl) (e := Extern.SlicesOverlaps.overlaps #[23, 23] #[4]) (by kernel_rfl),
    Lib.run_overlaps_apart w 23 4 9 Tryz.underlying23 1 size_lnS ⟨vb, 0, none⟩ ⟨g, off, none⟩ 1 1 lb cb hne 9 9 vcs.size cur.size (by simp [World.shape?, hv]) (by simp [World.shape?, hg]) hc (row_frozen hv _) (row_frozen hv _)]
  rfl
set_option maxRecDepth 100000 in
set_option maxHeartbeats 8000000 in
theorem insert_roomS (g n c i vb : Nat) (cur : Array Value) (v0 : Value) (w : World) (hn : n ≤ 100) (hin : i < n) (hroom : n + 1 ≤ c) (hg : w.heap[g]? = some (.cells cur 9 (0, 0))) (hsz : cur.size = c) (hones : ∀ u ∈ cur.toList.take (n), u.oneCell' = true)
    (h1 : v0.oneCell' = true) (hv : w.heap[vb]? = some (.cells #[v0] 9 (0, 0))) (hne : vb ≠ g) :
    Calls Tryz.prog 59 #[.slice (some ⟨g, 0, none⟩) n c, .int .i64 (i : Int), .slice (some ⟨vb, 0, none⟩) 1 1] w fun e w' => e = .returned (.slice (some ⟨g, 0, none⟩) (n + 1) c) ∧ ∃ d cur', w' = (w.drewN d).setRow g cur' ∧ cur'.size = c ∧ cur'.toList.take ((n + 1)) = (cur.toList.take (n)).take (i) ++ [v0] ++ (cur.toList.take (n)).drop (i) := by
  obtain ⟨i0, hi, hz0, hz1, hz2⟩ := info_parts infoTx
  have hq : (Tryz.prog.info? 9).map (·.size) = some 1 := by rw [hi]; simp [hz1]
  have hnc : ¬ n = i := by omega
  have hnc' : ¬ ((i : Int) = (n : Int)) := by omega
  have hci : ¬ c = i := by omega
  have hci1 : ¬ c = i + 1 := by omega
  have hov := fun off lb cb => apart_lnS g vb cur #[v0] w hg (by omega) hv hne off lb cb
  have hcurl : cur.toList.length = c := by simpa using hsz
  obtain ⟨cs, hcs⟩ : ∃ cs, cs = (cur.toList.take (n)).drop (i) := ⟨_, rfl⟩
  have hcl : cs.length = (n - i) := by rw [hcs, List.length_drop, List.length_take]; omega
  obtain ⟨R1, hR1⟩ : ∃ R1, R1 = cur.toList.take ((i + 1)) ++ cs ++ cur.toList.drop ((i + 1) + cs.length) := ⟨_, rfl⟩
  have hR1l : R1.length = c := by rw [hR1]; simp only [List.length_append, List.length_take, List.length_drop]; omega
  have hcp1 : ∀ ty dc sc, (Builtin.copy_ #[23, 23] ty #[.slice (some ⟨g, (i + 1), none⟩) (n - i) dc, .slice (some ⟨g, i, none⟩) (n + 1 - i) sc]).run Tryz.prog w.drew = .ok (goInt ((n - i : Nat) : Int)) (w.drew.setRow g R1.toArray) := fun ty dc sc => by
    have h := run_copy_rowq Tryz.prog w.drew 23 23 ty 9 1 g ((i + 1)) (n - i) dc ⟨g, i, none⟩ (n + 1 - i) sc cur 9 cs Tryz.underlying23 hq hg (by rw [hcl]; congr 1; simp only [Nat.min_def]; split <;> omega)
      (fun j v hj => by
        rw [add_off, row_cell (w := w.drew) hg, ← Array.getElem?_toList]
        rw [hcs, List.getElem?_drop, List.getElem?_take] at hj
        split at hj
        · exact hj
        · cases hj) (by omega) (fun u hu => hones u (by rw [hcs] at hu; exact List.mem_of_mem_drop hu))
    rw [h, hR1, show Nat.min (n + 1 - i) (n - i) = n - i by simp only [Nat.min_def]; split <;> omega]
  have hcp2 : ∀ (W : World), W.heap[g]? = some (.cells R1.toArray 9 (0, 0)) → W.heap[vb]? = some (.cells #[v0] 9 (0, 0)) → ∀ ty dc, (Builtin.copy_ #[23, 23] ty #[.slice (some ⟨g, i, none⟩) (n + 1 - i) dc, .slice (some ⟨vb, 0, none⟩) 1 1]).run Tryz.prog W = .ok (goInt 1) (W.setRow g (R1.take (i) ++ [v0] ++ R1.drop (i + 1)).toArray) := fun W hWg hWv ty dc => by
    have h := run_copy_rowq Tryz.prog W 23 23 ty 9 1 g (i) (n + 1 - i) dc ⟨vb, 0, none⟩ 1 1 R1.toArray 9 [v0] Tryz.underlying23 hq hWg (by simp only [Nat.min_def]; split <;> simp <;> omega)
      (fun j v hj => by
        rw [add_off, row_cell hWv, ← Array.getElem?_toList, Nat.zero_add]
        exact hj) (by simp only [List.length_cons, List.length_nil, List.size_toArray]; omega) (fun u hu => by simp at hu; subst hu; exact h1)
    rw [h, show Nat.min 1 (n + 1 - i) = 1 by simp only [Nat.min_def]; split <;> omega]
    rfl
  obtain ⟨R2, hR2⟩ : ∃ R2, R2 = R1.take (i) ++ [v0] ++ R1.drop (i + 1) := ⟨_, rfl⟩
  rw [← hR2] at hcp2
  have hR2l : R2.length = c := by rw [hR2]; simp only [List.length_append, List.length_take, List.length_drop, List.length_cons, List.length_nil]; omega
  have HF : Hid (R2.take ((n + 1)) = (cur.toList.take (n)).take (i) ++ [v0] ++ (cur.toList.take (n)).drop (i)) := by
    rw [Hid, hR2, hR1, hcs]
    simpa using room_list cur.toList [v0] i n 1 hin rfl (by omega)
  have HG1 : Hid ((w.drew.setRow g R1.toArray).heap[g]? = some (.cells R1.toArray 9 (0, 0))) := setRow_heap w.drew g _ _ _ _ hg
  have HV1 : Hid ((w.drew.setRow g R1.toArray).heap[vb]? = some (.cells #[v0] 9 (0, 0))) := (setRow_other w.drew g vb _ hne).trans hv
  have HSS : Hid ((w.drew.setRow g R1.toArray).setRow g R2.toArray = (w.drewN 1).setRow g R2.toArray) := setRow_setRow _ _ _ _
  have HCP2 := hcp2 _ HG1.out HV1.out
  have mixed : Tryz.prog.follows Departure.mixedOrders = true := by kernel_rfl
  have hw1 : IntKind.i64.wrap ((i : Int) + 1) = (i : Int) + 1 := by rw [IntKind.wrap_i64]; omega
  have hb1 : (0 : Int) ≤ (i : Int) + 1 := by omega
  have hinn : i ≤ n := by omega
  have htn : ((i : Int) + 1).toNat = i + 1 := by omega
  have hb3 : (i : Int) ≤ (n : Int) + 1 := by omega
  clear hR1 hR2 hcs hcp2 hones h1
  go_enter Tryz.func59, Tryz.ntmps59
  go_wp2_with (simp only [hov])
  go_region_law_o (refine step_copy_runI rfl _ _ 23 23 rfl _ _ (by simp [Act.eval, Act.put]) (by simp [Act.eval, Act.put]) (hcp1 _ _ _) ?_)
  go_wp2_with (at_builtin; refine wpList_copy_runI _ rfl _ _ 23 23 rfl _ _ rfl rfl (HCP2 _ _) ?_)
  refine bodyPost_ret (v := .slice (some ⟨g, 0, none⟩) (n + 1) c) ?_ rfl ⟨rfl, 1, R2.toArray, HSS.out, by simpa using hR2l, by simpa using HF.out⟩
  simp [results, Tryz.results59, go_sem]
end Go.Proofs.YtepkmbfedblhdaaGreatDoor
namespace Go.Proofs.YtepkmbfedblhdaaGreatDoor
open Go.RowKit Go.Lib
open Go.Proofs.YtepkmbfedblhdaaGreatDoor.Draw

theorem cells_zS : (Value.string ⟨#[]⟩).cells.size = 1 := rfl
set_option maxRecDepth 100000 in
set_option maxHeartbeats 8000000 in
theorem insert_growS (g n c i vb : Nat) (cur : Array Value) (v0 : Value) (w : World) (hn : n ≤ 100) (hin : i < n) (hnc0 : n ≤ c) (hroom : c < n + 1) (hg : w.heap[g]? = some (.cells cur 9 (0, 0))) (hsz : cur.size = c) (hones : ∀ u ∈ cur.toList.take (n), u.oneCell' = true)
    (h1 : v0.oneCell' = true) (hv : w.heap[vb]? = some (.cells #[v0] 9 (0, 0))) :
    Calls Tryz.prog 59 #[.slice (some ⟨g, 0, none⟩) n c, .int .i64 (i : Int), .slice (some ⟨vb, 0, none⟩) 1 1] w fun e w' => ∃ G R, e = .returned (.slice (some ⟨w.heap.size, 0, none⟩) (n + 1) G) ∧ w.grownBy w' none ∧ w'.heap[w.heap.size]? = some (.cells R 9 (0, 0)) ∧ n + 1 ≤ G ∧ G ≤ maxLen ∧ R.size = G ∧ R.toList.take ((n + 1)) = (cur.toList.take (n)).take (i) ++ [v0] ++ (cur.toList.take (n)).drop (i) := by
  obtain rfl : c = n := by omega
  obtain ⟨i0, hi, hz0, hz1, hz2⟩ := info_parts infoTx
  have hq : (Tryz.prog.info? 9).map (·.size) = some 1 := by rw [hi]; simp [hz1]
  have hgw : g < w.heap.size := (Array.getElem?_eq_some_iff.1 hg).1
  have hvw : vb < w.heap.size := (Array.getElem?_eq_some_iff.1 hv).1
  have hci : ¬ c = i := by omega
  have hci' : ¬ ((i : Int) = (c : Int)) := by omega
  have hcurl : cur.toList.length = c := by simpa using hsz
  have hxs : cur.toList.take (c) = cur.toList := List.take_of_length_le (by omega)
  rw [hxs] at hones ⊢
  have hold : (Builtin.firstCells i0.size i (.slice (some ⟨g, 0, none⟩) i c)).run Tryz.prog w.drew = .ok (cur.toList.take (i)).toArray w.drew := by
    rw [hz1]
    exact run_firstCells_some w.drew 1 i ⟨g, 0, none⟩ i c (cur.toList.take (i)) (by rw [List.length_take]; omega) (fun j v hj => by
      rw [add_off, row_cell (w := w.drew) hg, ← Array.getElem?_toList, Nat.zero_add]
      rw [List.getElem?_take] at hj
      split at hj
      · exact hj
      · cases hj)
  have hik : i + (c + 1 - i) = c + 1 := by omega
  have hrz : ∀ ty, (Builtin.append_ #[23, 3] ty #[.slice (some ⟨g, 0, none⟩) i c, .int .i64 ((c : Int) + 1 - (i : Int))]).run Tryz.prog w =
      .ok (.slice (some ⟨w.heap.size, 0, none⟩) (c + 1) (grownCap w (c + 1) c 9)) (w.drew.alloc (.cells ((cur.toList.take (i)).toArray ++ Builtin.zeroCells (Value.string ⟨#[]⟩).cells (c + 1 - i) ++ Builtin.zeroCells (Value.string ⟨#[]⟩).cells (grownCap w (c + 1) c 9 - (c + 1))) 9)) := fun ty => by
    have h := Lib.run_append_grow_zeros w 23 3 ty 9 i0 _ .i64 .i64 Tryz.underlying23 Tryz.underlying3 hi hz0 (some ⟨g, 0, none⟩) i c (cur.toList.take (i)) hold (c + 1 - i) (by omega) (by omega) (by omega) (by omega) (by rw [hz2]; omega) (by rw [hz2, hik]; exact growslice_fits hroom (by omega))
    rw [hik] at h
    rw [show (c : Int) + 1 - (i : Int) = ((c + 1 - i : Nat) : Int) by omega]
    exact h
  obtain ⟨G, hG⟩ : ∃ G, G = grownCap w (c + 1) c 9 := ⟨_, rfl⟩
  have hGn : c + 1 ≤ G := by rw [hG]; exact grownCap_ge w _ _ _
  have hG63 : G ≤ maxLen := by rw [hG]; exact grownCap_le_maxLen w (c + 1) c 9 (by unfold maxLen; omega)
  rw [← hG] at hrz
  obtain ⟨Z1, hZ1⟩ : ∃ Z1, Z1 = Builtin.zeroCells (Value.string ⟨#[]⟩).cells (c + 1 - i) := ⟨_, rfl⟩
  obtain ⟨Z2, hZ2⟩ : ∃ Z2, Z2 = Builtin.zeroCells (Value.string ⟨#[]⟩).cells (G - (c + 1)) := ⟨_, rfl⟩
  have hZ1s : Z1.size = (c + 1 - i) := by rw [hZ1]; simp [Builtin.zeroCells, Value.cells]
  have hZ2s : Z2.size = (G - (c + 1)) := by rw [hZ2]; simp [Builtin.zeroCells, Value.cells]
  rw [← hZ1, ← hZ2] at hrz
  have HN : Hid (w.drew.heap.size = w.heap.size) := rfl
  obtain ⟨ROW, hROW⟩ : ∃ ROW : Array Value, ROW = (cur.toList.take (i)).toArray ++ Z1 ++ Z2 := ⟨_, rfl⟩
  rw [← hROW] at hrz
  have hRl : ROW.size = G := by rw [hROW]; simp only [Array.size_append, List.size_toArray, List.length_take]; omega
  have hROWl : ROW.toList = cur.toList.take (i) ++ Z1.toList ++ Z2.toList := by rw [hROW]; simp
  have hg1 : ∀ W : World, W.heap = w.heap.push (.cells ROW 9 (0, 0)) → W.heap[w.heap.size]? = some (.cells ROW 9 (0, 0)) ∧ W.heap[vb]? = some (.cells #[v0] 9 (0, 0)) ∧ W.heap[g]? = some (.cells cur 9 (0, 0)) := fun W hW => by
    rw [hW]
    exact ⟨by simp, by rw [Array.getElem?_push_lt hvw, ← Array.getElem?_eq_getElem hvw]; exact hv, by rw [Array.getElem?_push_lt hgw, ← Array.getElem?_eq_getElem hgw]; exact hg⟩
  obtain ⟨R1, hR1⟩ : ∃ R1, R1 = ROW.toList.take (i) ++ [v0] ++ ROW.toList.drop (i + 1) := ⟨_, rfl⟩
  have hROWll : ROW.toList.length = G := by simpa using hRl
  have hR1l : R1.length = G := by rw [hR1]; simp only [List.length_append, List.length_take, List.length_drop, List.length_cons, List.length_nil]; omega
  have hcpA : ∀ (W : World), W.heap[w.heap.size]? = some (.cells ROW 9 (0, 0)) → W.heap[vb]? = some (.cells #[v0] 9 (0, 0)) → ∀ ty dc, (Builtin.copy_ #[23, 23] ty #[.slice (some ⟨w.heap.size, i, none⟩) (c + 1 - i) dc, .slice (some ⟨vb, 0, none⟩) 1 1]).run Tryz.prog W = .ok (goInt 1) (W.setRow w.heap.size R1.toArray) := fun W hWg hWv ty dc => by
    have h := run_copy_rowq Tryz.prog W 23 23 ty 9 1 w.heap.size (i) (c + 1 - i) dc ⟨vb, 0, none⟩ 1 1 ROW 9 [v0] Tryz.underlying23 hq hWg (by simp only [Nat.min_def]; split <;> simp <;> omega)
      (fun j v hj => by
        rw [add_off, row_cell hWv, ← Array.getElem?_toList, Nat.zero_add]
        exact hj) (by simp only [List.length_cons, List.length_nil]; omega) (fun u hu => by simp at hu; subst hu; exact h1)
    rw [h, hR1, show Nat.min 1 (c + 1 - i) = 1 by simp only [Nat.min_def]; split <;> omega]
    rfl
  obtain ⟨cs, hcs⟩ : ∃ cs, cs = cur.toList.drop (i) := ⟨_, rfl⟩
  have hcl : cs.length = (c - i) := by rw [hcs, List.length_drop]; omega
  obtain ⟨R2, hR2⟩ : ∃ R2, R2 = R1.take ((i + 1)) ++ cs ++ R1.drop ((i + 1) + cs.length) := ⟨_, rfl⟩
  have hR2l : R2.length = G := by rw [hR2]; simp only [List.length_append, List.length_take, List.length_drop]; omega
  have hcpB : ∀ (W : World), W.heap[w.heap.size]? = some (.cells R1.toArray 9 (0, 0)) → W.heap[g]? = some (.cells cur 9 (0, 0)) → ∀ ty dc sc, (Builtin.copy_ #[23, 23] ty #[.slice (some ⟨w.heap.size, (i + 1), none⟩) (c - i) dc, .slice (some ⟨g, i, none⟩) (c - i) sc]).run Tryz.prog W = .ok (goInt ((c - i : Nat) : Int)) (W.setRow w.heap.size R2.toArray) := fun W hWg hWv ty dc sc => by
    have h := run_copy_rowq Tryz.prog W 23 23 ty 9 1 w.heap.size ((i + 1)) (c - i) dc ⟨g, i, none⟩ (c - i) sc R1.toArray 9 cs Tryz.underlying23 hq hWg (by rw [hcl]; congr 1; simp only [Nat.min_def]; split <;> omega)
      (fun j v hj => by
        rw [add_off, row_cell hWv, ← Array.getElem?_toList]
        rw [hcs, List.getElem?_drop] at hj
        exact hj) (by simp only [List.size_toArray]; omega) (fun u hu => hones u (by rw [hcs] at hu; exact List.mem_of_mem_drop hu))
    rw [h, hR2, show Nat.min (c - i) (c - i) = c - i by simp only [Nat.min_def]; split <;> omega]
  have HF : Hid (R2.take ((c + 1)) = cur.toList.take (i) ++ [v0] ++ cur.toList.drop (i)) := by
    rw [Hid, hR2, hR1, hcs, hROWl]
    simpa using grow_list cur.toList [v0] Z1.toList Z2.toList i c 1 hin rfl (by omega)
  obtain ⟨A0, A1, A2⟩ := hg1 ((w.alloc (.cells ROW 9)).drew) rfl
  have HA0 : Hid _ := A0
  have HA1 : Hid _ := A1
  have HB0 : Hid (((w.alloc (.cells ROW 9)).drew.setRow w.heap.size R1.toArray).heap[w.heap.size]? = some (.cells R1.toArray 9 (0, 0))) := setRow_heap _ _ _ _ _ _ A0
  have HB1 : Hid (((w.alloc (.cells ROW 9)).drew.setRow w.heap.size R1.toArray).heap[g]? = some (.cells cur 9 (0, 0))) := (setRow_other _ _ _ _ (by omega)).trans A2
  have hcA := fun ty dc => hcpA ((w.alloc (.cells ROW 9)).drew) A0 A1 ty dc
  have hcB := fun ty dc sc => hcpB (((w.alloc (.cells ROW 9)).drew.setRow w.heap.size R1.toArray).drew) HB0.out HB1.out ty dc sc
  have hGr : w.grownBy (((w.alloc (.cells ROW 9)).drew.setRow w.heap.size R1.toArray).drew.setRow w.heap.size R2.toArray) none := ⟨rfl, rfl, rfl, by simp [World.setRow], fun k hk _ => by
    rw [setRow_other _ _ _ _ (by omega)]
    show ((w.alloc (.cells ROW 9)).drew.setRow w.heap.size R1.toArray).heap[k]? = _
    rw [setRow_other _ _ _ _ (by omega)]
    show (w.heap.push _)[k]? = _
    rw [Array.getElem?_push_lt hk, ← Array.getElem?_eq_getElem hk]⟩
  have HGr : Hid _ := hGr
  have mixed : Tryz.prog.follows Departure.mixedOrders = true := by kernel_rfl
  have hw1 : IntKind.i64.wrap ((i : Int) + 1) = (i : Int) + 1 := by rw [IntKind.wrap_i64]; omega
  have hb1 : (0 : Int) ≤ (i : Int) + 1 := by omega
  have hinn : i ≤ c := by omega
  have htn : ((i : Int) + 1).toNat = i + 1 := by omega
  have hb3 : (i : Int) ≤ (c : Int) := by omega
  have hGi : ¬ G = i := by omega
  have hGi1 : ¬ G = i + 1 := by omega
  have hz3 : (c : Int) < (c : Int) + 1 := by omega
  clear hcpB hgw hvw hold hik hG hZ1 hZ2 hROW hROWl hg1 hR1 hcs hR2 hones h1 hGr A0 A1 A2 hcpA
  go_enter Tryz.func59, Tryz.ntmps59
  go_wp2_with (first
    | (at_builtin; refine Lib.wpList_append_run _ rfl _ _ _ _ rfl _ _ rfl rfl _ _ (hrz _) ?_)
    | (at_builtin; refine wpList_copy_runI _ rfl _ _ 23 23 rfl _ _ rfl rfl (hcA _ _) ?_))
  go_region_law_o (refine step_copy_runI rfl _ _ 23 23 rfl (.slice (some ⟨w.heap.size, (i + 1), none⟩) (c - i) (G - (i + 1))) (.slice (some ⟨g, i, none⟩) (c - i) (c - i)) (by simp [Act.eval, Act.put]) (by simp [Act.eval, Act.put]) (hcB 3 (G - (i + 1)) (c - i)) ?_)
  go_wp2_with fail
  refine bodyPost_ret (v := .slice (some ⟨w.heap.size, 0, none⟩) (c + 1) G) ?_ rfl ⟨G, R2.toArray, rfl, HGr.out, setRow_heap _ _ _ _ _ _ HB0.out, hGn, hG63, by simpa using hR2l, by simpa using HF.out⟩
  simp [results, Tryz.results59, go_sem]
end Go.Proofs.YtepkmbfedblhdaaGreatDoor
namespace Go.Proofs.YtepkmbfedblhdaaGreatDoor
open Go.RowKit Go.Lib
open Go.Proofs.YtepkmbfedblhdaaGreatDoor.Draw

theorem insert_lineS (B : Nat) (ad : Option Addr) (n c i vb : Nat) (xs : List Value) (v0 : Value) (w : World) (hB : B ≤ w.heap.size) (hn : n ≤ 100) (hi : i ≤ n) (hown : w.ownsRow B 9 1 (.slice ad n c) n xs) (hones : ∀ u ∈ xs, u.oneCell' = true)
    (h1 : v0.oneCell' = true) (hv : w.heap[vb]? = some (.cells #[v0] 9 (0, 0))) (hne : ∀ k, ad.map Addr.block = some k → vb ≠ k) :
    Calls Tryz.prog 59 #[.slice ad n c, .int .i64 (i : Int), .slice (some ⟨vb, 0, none⟩) 1 1] w fun e w' => ∃ ad' c', e = .returned (.slice ad' (n + 1) c') ∧ w'.ownsRow B 9 1 (.slice ad' (n + 1) c') (n + 1) (xs.take i ++ [v0] ++ xs.drop i) ∧ w.grownBy w' (ad.map Addr.block) := by
  have hl : xs.length = n := by simpa using hown.1
  by_cases hin : i = n
  · subst hin
    have hcap : c ≤ maxLen := by
      rcases hown with ⟨_, ⟨e, _⟩ | ⟨g, cap, cur, e, _, _, _, e4, _⟩⟩
      · simp at e; unfold maxLen; omega
      · simp at e; omega
    refine (insert_endS B ad i c vb xs v0 w hB hn hcap hown h1 (fun j u hj => by
      rw [add_off, row_cell hv, ← Array.getElem?_toList, Nat.zero_add]; exact hj)).mono ?_
    rintro e w' ⟨v', rfl, ho, hg⟩
    obtain ⟨a', c', rfl⟩ := owns_slice ho
    exact ⟨a', c', rfl, by rw [List.take_of_length_le (by omega), List.drop_eq_nil_of_le (by omega), List.append_nil]; exact ho, hg⟩
  · obtain ⟨_, ⟨e, e0⟩ | ⟨g, cap, cur, e, hB', hg, hnc, hcap, hsz, htk⟩⟩ := id hown
    · omega
    · simp at e
      obtain ⟨rfl, rfl⟩ := e
      rw [Nat.mul_one] at hsz htk
      subst htk
      by_cases hroom : n + 1 ≤ c
      · refine (insert_roomS g n c i vb cur v0 w hn (by omega) hroom hg hsz hones h1 hv (hne g rfl)).mono ?_
        rintro e w' ⟨rfl, d, cur', rfl, hs', ht'⟩
        refine ⟨_, c, rfl, ⟨by rw [← ht', List.length_take]; simp only [Array.length_toList]; omega, Or.inr ⟨g, c, cur', rfl, hB', setRow_heap (w.drewN d) g _ _ _ _ hg, hroom, hcap, by omega, by rw [Nat.mul_one]; exact ht'⟩⟩, ?_⟩
        exact ⟨rfl, rfl, rfl, by simp [World.setRow], fun k hk hk' => setRow_other (w.drewN d) g k _ (by simpa using hk')⟩
      · refine (insert_growS g n c i vb cur v0 w hn (by omega) hnc (by omega) hg hsz hones h1 hv).mono ?_
        rintro e w' ⟨G, R, rfl, hgr, hh, hG1, hG2, hRs, hRt⟩
        refine ⟨_, G, rfl, ⟨by rw [← hRt, List.length_take]; simp only [Array.length_toList]; omega, Or.inr ⟨w.heap.size, G, R, rfl, hB, hh, hG1, hG2, by omega, by rw [Nat.mul_one]; exact hRt⟩⟩, ?_⟩
        exact ⟨hgr.os, hgr.tape, hgr.output, hgr.size, fun k hk _ => hgr.block k hk (by simp)⟩
end Go.Proofs.YtepkmbfedblhdaaGreatDoor
namespace Go.Proofs.YtepkmbfedblhdaaGreatDoor
open Go.RowKit Go.Lib
open Go.Proofs.YtepkmbfedblhdaaGreatDoor.Draw

/-- Where a name belongs. -/
def IsMark (I : Nat → Tx) (z : ByteArray) (m k : Nat) : Prop := k ≤ m ∧ (∀ j, j < k → ltS (I j).t z = true) ∧ ∀ j, k ≤ j → j < m → ltS (I j).t z = false
theorem ltS_trans {a b c : ByteArray} (h : ltS a b = true) (h' : ltS b c = true) : ltS a c = true := bl_trans _ _ _ h h'
theorem ltS_irrefl (a : ByteArray) : ltS a a = false := bl_irrefl _
theorem okId_less {I : Nat → Tx} {j : Nat} (h : okId I (j + 1) = true) : ltS (I j).t (I (j + 1)).t = true := by
  simp only [okId, Bool.and_eq_true] at h
  have := h.2
  simpa using this
theorem ids_less {I : Nat → Tx} {n : Nat} (h : ∀ j, j < n → okId I j = true) (i : Nat) : ∀ k, i + k + 1 < n → ltS (I i).t (I (i + k + 1)).t = true
  | 0, hk => okId_less (h _ hk)
  | k + 1, hk => ltS_trans (ids_less h i k (by omega)) (okId_less (h _ hk))
theorem ids_lt {I : Nat → Tx} {n : Nat} (h : ∀ j, j < n → okId I j = true) {i j : Nat} (hij : i < j) (hj : j < n) : ltS (I i).t (I j).t = true := by
  have := ids_less h i (j - i - 1) (by omega)
  rwa [show i + (j - i - 1) + 1 = j by omega] at this
theorem mark_is {I : Nat → Tx} {n : Nat} (hok : ∀ j, j < n → okId I j = true) (z : ByteArray) : ∃ k, IsMark I z n k := by
  obtain ⟨k, h1, h2, h3⟩ := first_not (fun j => ltS (I j).t z) n
  refine ⟨k, h1, h2, fun j hkj hj => ?_⟩
  by_cases e : j = k
  · rw [e]; exact h3 (by omega)
  · cases hl : ltS (I j).t z with
    | false => rfl
    | true =>
      have h4 := ltS_trans (ids_lt hok (show k < j by omega) hj) hl
      have h5 := h3 (by omega)
      rw [h4] at h5
      cases h5
/-- Is it there? -/
def thereB (I : Nat → Tx) (z : ByteArray) (m k : Nat) : Bool := decide (k < m ∧ (I k).t = z)
theorem there_at {I : Nat → Tx} {z : ByteArray} {m k : Nat} (hok : ∀ j, j < m → okId I j = true) (hk : IsMark I z m k) (j : Nat) (hj : j < m) (e : (I j).t = z) : thereB I z m k = true := by
  have h1 : k ≤ j := Nat.le_of_not_lt fun h => by
    have h2 := hk.2.1 j h
    rw [e, ltS_irrefl] at h2
    cases h2
  have h3 : j = k := by
    refine Nat.le_antisymm (Nat.le_of_not_lt fun h => ?_) h1
    have h2 := ids_lt hok h hj
    rw [e, hk.2.2 k (Nat.le_refl _) (by omega)] at h2
    cases h2
  subst h3
  exact decide_eq_true ⟨hj, e⟩
/-- One name more. -/
def insT (I : Nat → Tx) (k : Nat) (z : ByteArray) (i : Nat) : Tx := if i < k then I i else if i = k then ⟨z⟩ else I (i - 1)
theorem ins_texts (I : Nat → Tx) (k : Nat) (z : ByteArray) (n : Nat) (hk : k ≤ n) : textsC (insT I k z) (n + 1) = (textsC I n).take k ++ [.string z] ++ (textsC I n).drop k := by
  apply List.ext_getElem?
  intro j
  by_cases hj : j < n + 1
  · rw [textsC_at _ _ _ hj]
    by_cases h1 : j < k
    · rw [List.append_assoc, List.getElem?_append_left (by rw [List.length_take, textsC_len]; omega), List.getElem?_take, if_pos h1, textsC_at _ _ _ (by omega)]
      unfold textF insT; rw [if_pos h1]
    · by_cases h2 : j = k
      · subst h2
        rw [List.append_assoc, List.getElem?_append_right (by rw [List.length_take, textsC_len]; omega), List.length_take, textsC_len, show j - min j (n * 1) = 0 by omega]
        unfold textF insT; rw [if_neg (by omega), if_pos rfl]; rfl
      · rw [List.getElem?_append_right (by simp [textsC_len]; omega), List.getElem?_drop]
        simp only [List.length_append, List.length_take, textsC_len, List.length_cons, List.length_nil]
        rw [show k + (j - (min k (n * 1) + (0 + 1))) = j - 1 by omega, textsC_at _ _ _ (by omega)]
        unfold textF insT; rw [if_neg (by omega), if_neg (by omega)]
  · rw [List.getElem?_eq_none (by rw [textsC_len]; omega), List.getElem?_eq_none (by simp [textsC_len]; omega)]
theorem insT_fits {I : Nat → Tx} {k n : Nat} {z : ByteArray} (hz : z.size ≤ maxLen) (hf : ∀ i, i < n → (I i).fits) (i : Nat) (hi : i < n + 1) (hk : k ≤ n) : (insT I k z i).fits := by
  unfold insT
  split
  · exact hf i (by omega)
  · split
    · exact hz
    · exact hf _ (by omega)
theorem search_str (ad : Option Addr) (m c : Nat) (I : Nat → Tx) (hm : m ≤ 100) (z : ByteArray) (k : Nat) (hk : IsMark I z m k) (w : World) (h : TextsAt w ad m I) :
    Calls Tryz.prog 58 #[.slice ad m c, .string z] w fun e w' => e = .returned (.tuple #[.int .i64 (k : Int), .bool (thereB I z m k)]) ∧ ∃ q, w' = w.drewN q := by
  rcases h with rfl | ⟨g, o, rfl, hg, hc⟩
  · have h0 : k = 0 := by have := hk.1; omega
    subst h0
    refine (Any2.slices_BinarySearch_string_empty lays26 ad c z w).mono ?_
    rintro e w' ⟨rfl, rfl⟩
    exact ⟨rfl, 0, rfl⟩
  · obtain ⟨S, hS⟩ : ∃ S : Nat → ByteArray, S = fun j => if j < m then (I j).t else z := ⟨_, rfl⟩
    have S1 : ∀ j, j < m → S j = (I j).t := fun j hj => by rw [hS]; simp only []; rw [if_pos hj]
    have S2 : ∀ j, ¬ j < m → S j = z := fun j hj => by rw [hS]; simp only []; rw [if_neg hj]
    have hb : Lib.bsGo (fun t => Op.bytesLess (S t).toList z.toList) m 0 m = k := Lib.bsGo_spec _ k (fun t ht => by
      have := hk.2.1 t ht
      rw [S1 t (by have := hk.1; omega)]; exact this) (fun t ht => by
      by_cases e : t < m
      · rw [S1 t e]; exact hk.2.2 t ht e
      · rw [S2 t e]; exact ltS_irrefl z) m 0 m (by omega) (by omega) hk.1
    refine (Any2.slices_BinarySearch_string lays26 g o m c S z w (by omega) (fun j hj => by rw [S1 j hj]; exact hc j hj)).mono ?_
    rintro e w' ⟨rfl, q, rfl⟩
    rw [hb]
    refine ⟨?_, q, rfl⟩
    have : (k < m ∧ S k = z) ↔ (k < m ∧ (I k).t = z) := ⟨fun h => ⟨h.1, by rw [← S1 k h.1]; exact h.2⟩, fun h => ⟨h.1, by rw [S1 k h.1]; exact h.2⟩⟩
    unfold thereB
    rw [decide_eq_decide.2 this]
end Go.Proofs.YtepkmbfedblhdaaGreatDoor
namespace Go.Proofs.YtepkmbfedblhdaaGreatDoor
open Go.RowKit
open Go.Proofs.YtepkmbfedblhdaaGreatDoor.Draw

/-- A block of one line's cells. -/
structure Lc (W : World) (b : Nat) (x y : ByteArray) (m : Int) : Prop where
  c0 : W.cell? ⟨b, 0, none⟩ = some (.string x)
  c1 : W.cell? ⟨b, 1, none⟩ = some (.string y)
  c2 : W.cell? ⟨b, 2, none⟩ = some (.int .i64 m)
  lt : b < W.heap.size
theorem Lc.below {W W' : World} {b : Nat} {x y : ByteArray} {m : Int} (h : Lc W b x y m) (hb : Below W.heap.size W W') : Lc W' b x y m := ⟨(hb.cell (p := ⟨b, 0, none⟩) h.lt).trans h.c0, (hb.cell (p := ⟨b, 1, none⟩) h.lt).trans h.c1, (hb.cell (p := ⟨b, 2, none⟩) h.lt).trans h.c2, Nat.lt_of_lt_of_le h.lt hb.size⟩
theorem Lc.new (w : World) (x y : ByteArray) (m : Int) (t : TypeId) : Lc (w.alloc (.cells #[.string x, .string y, .int .i64 m] t)) w.heap.size x y m := ⟨by simp, by simp, by simp, by simp⟩
end Go.Proofs.YtepkmbfedblhdaaGreatDoor
namespace Go.Proofs.YtepkmbfedblhdaaGreatDoor
open Go.RowKit
open Go.Proofs.YtepkmbfedblhdaaGreatDoor.Draw

/-- A block of a spot's cells. -/
structure Sc (W : World) (b : Nat) (x y : ByteArray) : Prop where
  c0 : W.cell? ⟨b, 0, none⟩ = some (.string x)
  c1 : W.cell? ⟨b, 1, none⟩ = some (.string y)
  lt : b < W.heap.size
theorem Sc.below {W W' : World} {b : Nat} {x y : ByteArray} (h : Sc W b x y) (hb : Below W.heap.size W W') : Sc W' b x y := ⟨(hb.cell (p := ⟨b, 0, none⟩) h.lt).trans h.c0, (hb.cell (p := ⟨b, 1, none⟩) h.lt).trans h.c1, Nat.lt_of_lt_of_le h.lt hb.size⟩
theorem Sc.new (w : World) (x y : ByteArray) (t : TypeId) : Sc (w.alloc (.cells #[.string x, .string y] t)) w.heap.size x y := ⟨by simp, by simp, by simp⟩
theorem map_below {W W' : World} {M n : Nat} {D : DataW Unit} (h : W.ownsMap Tryz.prog 57 (plainElem Tryz.prog 3) M n D) (hb : Below W.heap.size W W') : W'.ownsMap Tryz.prog 57 (plainElem Tryz.prog 3) M n D := h.kept (row := none) ⟨hb.os, hb.tape, hb.output, hb.size, fun k hk _ => hb.block k hk⟩ (by simp)
end Go.Proofs.YtepkmbfedblhdaaGreatDoor
namespace Go.Proofs.YtepkmbfedblhdaaGreatDoor
open Go.RowKit
open Go.Proofs.YtepkmbfedblhdaaGreatDoor.Draw

theorem own_line_at {w : World} {B n c : Nat} {a : Option Addr} {L : Nat → Ln} (h : w.ownsRow B 84 3 (.slice a n c) n (linesC L n)) : LinesAt w a n L := by
  obtain ⟨a', c', e, hl, _⟩ := own_linesAt h
  simp at e
  rw [e.1]
  exact hl
theorem row_not_led {w : World} {B N c l b d : Nat} {ad a : Option Addr} {L : Nat → Ln} (h : w.ownsRow B 84 3 (.slice ad (N + 1) c) (N + 1) (linesC L (N + 1))) (hc : w.cell? ⟨l, 0, none⟩ = some (.slice a b d)) (k : Nat) (e : ad.map Addr.block = some k) : k ≠ l := by
  rintro rfl
  have h0 := h.cells (g := k) (by rw [ownBlock_map]; exact e) 0 _ (linesC_at L (N + 1) 0 (by omega))
  rw [add_off, hc] at h0
  simp [lineF] at h0
theorem rows_apart {w : World} {B N c m c2 : Nat} {ad a2 : Option Addr} {xs ys : List Value} (h : w.ownsRow B 84 3 (.slice ad N c) N xs) (h2 : w.ownsRow B 9 1 (.slice a2 m c2) m ys) (k : Nat) (e : ad.map Addr.block = some k) (e2 : a2.map Addr.block = some k) : False := by
  rcases h with ⟨_, ⟨hv, _⟩ | ⟨g, cap, cur, hv, _, hg, _⟩⟩
  · simp at hv; rw [hv.1] at e; cases e
  rcases h2 with ⟨_, ⟨hv2, _⟩ | ⟨g2, cap2, cur2, hv2, _, hg2, _⟩⟩
  · simp at hv2; rw [hv2.1] at e2; cases e2
  simp at hv hv2
  rw [hv.1] at e
  rw [hv2.1] at e2
  simp at e e2
  subst e e2
  rw [hg] at hg2
  simp at hg2
end Go.Proofs.YtepkmbfedblhdaaGreatDoor
namespace Go.Proofs.YtepkmbfedblhdaaGreatDoor
open Go.RowKit Go.Lib
open Go.Proofs.YtepkmbfedblhdaaGreatDoor.Draw

theorem own_texts_at {w : World} {B n c : Nat} {a : Option Addr} {I : Nat → Tx} (h : w.ownsRow B 9 1 (.slice a n c) n (textsC I n)) : TextsAt w a n I := by
  rcases id h with ⟨_, ⟨e, e2⟩ | ⟨g, cap, cur, e, _⟩⟩
  · exact Or.inl e2
  · simp at e
    obtain ⟨rfl, rfl⟩ := e
    obtain ⟨ho, _⟩ := own_row h (fun j hj => textsC_at I n j (by omega))
    exact Or.inr ⟨g, 0, rfl, ho.1, fun i hi => by rw [Nat.zero_add]; exact ho.2.1 i (by omega)⟩
theorem ones_texts1 (I : Nat → Tx) : ∀ n, ∀ u ∈ textsC I n, u.oneCell' = true
  | 0 => fun u hu => by simp [textsC] at hu
  | n + 1 => fun u hu => by
    rw [textsC, List.mem_append] at hu
    rcases hu with hu | hu
    · exact ones_texts1 I n u hu
    · simp at hu; subst hu; rfl
theorem row_not_led1 {w : World} {B N c l b d : Nat} {ad a : Option Addr} {I : Nat → Tx} (h : w.ownsRow B 9 1 (.slice ad (N + 1) c) (N + 1) (textsC I (N + 1))) (hc : w.cell? ⟨l, 0, none⟩ = some (.slice a b d)) (k : Nat) (e : ad.map Addr.block = some k) : k ≠ l := by
  rintro rfl
  have h0 := h.cells (g := k) (by rw [ownBlock_map]; exact e) 0 _ (textsC_at I (N + 1) 0 (by omega))
  rw [add_off, hc] at h0
  simp [textF] at h0
theorem row_not_map {w : World} {B N c M : Nat} {ad : Option Addr} {xs : List Value} (h : w.ownsRow B 9 1 (.slice ad (N + 1) c) (N + 1) xs) (hM : ∃ es ck, w.heap[M]? = some (.map es ck)) (e : ad.map Addr.block = some M) : False := by
  obtain ⟨es, ck, hM⟩ := hM
  rcases h with ⟨_, ⟨hv, _⟩ | ⟨g, cap, cur, hv, _, hg, _⟩⟩
  · simp at hv
  · simp at hv
    rw [hv.1] at e
    simp at e
    subst e
    rw [hg] at hM
    simp at hM
set_option maxRecDepth 100000 in
set_option maxHeartbeats 8000000 in
theorem mark_there (B l : Nat) (a1 : Option Addr) (n c1 : Nat) (L : Nat → Ln) (a2 : Option Addr) (m c2 : Nat) (I : Nat → Tx) (M r s : Nat) (z : ByteArray) (k : Nat) (hm : m ≤ 100) (hk : IsMark I z m k) (hth : thereB I z m k = true) (w : World) (h : LS w B l a1 n c1 L a2 m c2 I M r s) :
    Calls Tryz.prog 30 #[.pointer (some ⟨l, 0, none⟩), .string z] w fun e w' => e = .returned (errV 7) ∧ LS w' B l a1 n c1 L a2 m c2 I M r s ∧ Below w.heap.size w w' := by
  have HSE : Hid (∀ W, TextsAt W a2 m I → Calls Tryz.prog 58 #[.slice a2 m c2, .string z] W fun e w' => e = .returned (.tuple #[.int .i64 (k : Int), .bool true]) ∧ Below W.heap.size W w') := fun W h => by
    have := search_str a2 m c2 I hm z k hk W h
    rw [hth] at this
    refine this.mono ?_
    rintro e w' ⟨rfl, q, rfl⟩
    exact ⟨rfl, ⟨rfl, rfl, rfl, Nat.le_refl _, fun _ _ => rfl⟩⟩
  have HS0 : Hid (LS w B l a1 n c1 L a2 m c2 I M r s) := h
  obtain ⟨l0, l1, l2, l3, lf, llt⟩ := h.led
  clear h hth
  go_enter Tryz.func30, Tryz.ntmps30
  go_wp2_with fail
  refine (HSE.out _ (own_texts_at HS0.out.rows.r2)).mono ?_
  rintro e wx ⟨rfl, hz⟩
  have HSx : Hid (LS wx B l a1 n c1 L a2 m c2 I M r s) := HS0.out.below hz
  have HBx : Hid (Below w.heap.size w wx) := hz
  clear hz HSE l0 l1 l2 l3 lf llt HS0
  go_wp2_with fail
  refine bodyPost_ret (v := errV 7) ?_ rfl ⟨rfl, HSx.out, HBx.out⟩
  simp [results, Tryz.results30, go_sem, errV]
set_option maxRecDepth 100000 in
set_option maxHeartbeats 8000000 in
theorem mark_full (B l : Nat) (a1 : Option Addr) (n c1 : Nat) (L : Nat → Ln) (a2 : Option Addr) (m c2 : Nat) (I : Nat → Tx) (M r s : Nat) (z : ByteArray) (k : Nat) (hm : m ≤ 100) (hk : IsMark I z m k) (hth : thereB I z m k = false) (hfull : 100 ≤ m) (w : World) (h : LS w B l a1 n c1 L a2 m c2 I M r s) :
    Calls Tryz.prog 30 #[.pointer (some ⟨l, 0, none⟩), .string z] w fun e w' => e = .returned (errV 16) ∧ LS w' B l a1 n c1 L a2 m c2 I M r s ∧ Below w.heap.size w w' := by
  have q0 : decide (100 ≤ m) = true := by simpa using hfull
  have q1 : decide ((100 : Int) ≤ (m : Int)) = true := by simp; omega
  have HSE : Hid (∀ W, TextsAt W a2 m I → Calls Tryz.prog 58 #[.slice a2 m c2, .string z] W fun e w' => e = .returned (.tuple #[.int .i64 (k : Int), .bool false]) ∧ Below W.heap.size W w') := fun W h => by
    have := search_str a2 m c2 I hm z k hk W h
    rw [hth] at this
    refine this.mono ?_
    rintro e w' ⟨rfl, q, rfl⟩
    exact ⟨rfl, ⟨rfl, rfl, rfl, Nat.le_refl _, fun _ _ => rfl⟩⟩
  have HS0 : Hid (LS w B l a1 n c1 L a2 m c2 I M r s) := h
  obtain ⟨l0, l1, l2, l3, lf, llt⟩ := h.led
  clear h hth
  go_enter Tryz.func30, Tryz.ntmps30
  go_wp2_with fail
  refine (HSE.out _ (own_texts_at HS0.out.rows.r2)).mono ?_
  rintro e wx ⟨rfl, hz⟩
  have HSx : Hid (LS wx B l a1 n c1 L a2 m c2 I M r s) := HS0.out.below hz
  have HBx : Hid (Below w.heap.size w wx) := hz
  clear hz HSE l0 l1 l2 l3 lf llt HS0
  obtain ⟨l0, l1, l2, l3, lf, llt⟩ := HSx.out.led
  go_wp2_with fail
  refine bodyPost_ret (v := errV 16) ?_ rfl ⟨rfl, HSx.out, HBx.out⟩
  simp [results, Tryz.results30, go_sem, errV]
set_option maxRecDepth 100000 in
set_option maxHeartbeats 8000000 in
theorem mark_ok (B l : Nat) (a1 : Option Addr) (n c1 : Nat) (L : Nat → Ln) (a2 : Option Addr) (m c2 : Nat) (I : Nat → Tx) (M r s : Nat) (z : ByteArray) (k : Nat) (hm : m ≤ 100) (hk : IsMark I z m k) (hth : thereB I z m k = false) (hroom : m < 100) (w : World) (hBw : B ≤ w.heap.size) (h : LS w B l a1 n c1 L a2 m c2 I M r s) :
    Calls Tryz.prog 30 #[.pointer (some ⟨l, 0, none⟩), .string z] w fun e w' => e = .returned .nilIface ∧ (∃ a2' c2', LS w' B l a1 n c1 L a2' (m + 1) c2' (insT I k z) M r s) ∧ Below B w w' := by
  have q0 : decide (100 ≤ m) = false := by simp; omega
  have q1 : decide ((100 : Int) ≤ (m : Int)) = false := by simp; omega
  have HMK : Hid (IsMark I z m k) := hk
  have HSE : Hid (∀ W, TextsAt W a2 m I → Calls Tryz.prog 58 #[.slice a2 m c2, .string z] W fun e w' => e = .returned (.tuple #[.int .i64 (k : Int), .bool false]) ∧ Below W.heap.size W w') := fun W h => by
    have := search_str a2 m c2 I hm z k hk W h
    rw [hth] at this
    refine this.mono ?_
    rintro e w' ⟨rfl, q, rfl⟩
    exact ⟨rfl, ⟨rfl, rfl, rfl, Nat.le_refl _, fun _ _ => rfl⟩⟩
  have HS0 : Hid (LS w B l a1 n c1 L a2 m c2 I M r s) := h
  obtain ⟨l0, l1, l2, l3, lf, llt⟩ := h.led
  clear h hth
  go_enter Tryz.func30, Tryz.ntmps30
  go_wp2_with fail
  refine (HSE.out _ (own_texts_at HS0.out.rows.r2)).mono ?_
  rintro e wx ⟨rfl, hz⟩
  have HSx : Hid (LS wx B l a1 n c1 L a2 m c2 I M r s) := HS0.out.below hz
  have HBx : Hid (Below w.heap.size w wx) := hz
  clear hz HSE l0 l1 l2 l3 lf llt HS0
  have HIN : Hid (∀ W vb, Below wx.heap.size wx W → wx.heap.size ≤ vb → W.heap[vb]? = some (.cells #[.string z] 9 (0, 0)) → Calls Tryz.prog 59 #[.slice a2 m c2, .int .i64 (k : Int), .slice (some ⟨vb, 0, none⟩) 1 1] W fun e w' => ∃ ad c', e = .returned (.slice ad (m + 1) c') ∧ w'.ownsRow B 9 1 (.slice ad (m + 1) c') (m + 1) (textsC (insT I k z) (m + 1)) ∧ W.grownBy w' (a2.map Addr.block)) := fun W vb hb hvb hh => by
    rw [ins_texts I k z m HMK.out.1]
    exact insert_lineS B a2 m c2 k vb (textsC I m) _ W (by have := hb.size; have := HBx.out.size; omega) (by omega) HMK.out.1 (own_below HSx.out.rows.r2 hb) (ones_texts1 I m) rfl hh (fun j e => by have := (HSx.out.rows.lt2 j e).2; omega)
  obtain ⟨e0, e1, e2, e3, ef, elt⟩ := HSx.out.led
  have nl : wx.heap.size ≠ l := by omega
  go_wp2_with fail
  refine (HIN.out _ _ (by first | exact ((Below.refl _ _).alloc (Nat.le_refl _) _) | exact ((Below.refl _ _).alloc (Nat.le_refl _) _).drew | exact ((Below.refl _ _).drew).alloc (Nat.le_refl _) _) (by first | exact Nat.le_refl _ | omega) (by show (wx.heap.push (.cells #[.string z] 9 (0, 0)))[wx.heap.size]? = _; simp)).mono ?_
  rintro e w5 ⟨ad, cc, rfl, ho, hg⟩
  have hbW : Below wx.heap.size wx (wx.alloc (.cells #[.string z] 9)) := (Below.refl _ _).alloc (Nat.le_refl _) _
  have D5 := (HSx.out.led.below hbW).grown hg (fun e => (HSx.out.n2 l e.symm).1 rfl)
  have SW := HSx.out.below hbW
  obtain ⟨g0, g1, g2, g3, gf, glt⟩ := id D5
  have hadl := row_not_led1 ho g0
  have hr1 := SW.rows.r1.kept hg (by
    rw [ownBlock_map]
    cases e : a1.map Addr.block with
    | none => exact Or.inl rfl
    | some j => exact Or.inr (fun e' => HSx.out.rows.ne j e e'.symm))
  have M5 := SW.map.kept hg (fun e => (HSx.out.n2 M e.symm).2 rfl)
  have R5 : Rows2 w5 B a1 n c1 L ad (m + 1) cc (insT I k z) := ⟨hr1, ho, fun j e e' => rows_apart hr1 ho j e e'⟩
  have R6 := R5.kept (row := some l) (W' := w5.setCell ⟨l, 1, none⟩ (.slice ad (m + 1) cc)) (setGrown (World.grownBy.refl _ _)) (fun j e => by simpa using (HSx.out.n1 j e).1) (fun j e => by simpa using hadl j e)
  have M6 := M5.kept (row := some l) (w' := w5.setCell ⟨l, 1, none⟩ (.slice ad (m + 1) cc)) (setGrown (World.grownBy.refl _ _)) (by simpa using HSx.out.hM)
  have hadM : ∀ j, ad.map Addr.block = some j → j ≠ M := fun j e e2 => by
    subst e2
    exact row_not_map ho (by obtain ⟨es, ck, hh, _⟩ := M5; exact ⟨es, ck, hh⟩) e
  have HF : Hid (LS (w5.setCell ⟨l, 1, none⟩ (.slice ad (m + 1) cc)) B l a1 n c1 L ad (m + 1) cc (insT I k z) M r s) := ⟨D5.set1 _, R6, M6, HSx.out.n1, fun j e => ⟨hadl j e, hadM j e⟩, HSx.out.hM, HSx.out.hB⟩
  have hBc : B ≤ wx.heap.size := by have := HBx.out.size; omega
  have hBl : B ≤ l := HSx.out.hB
  have HBF : Hid (Below B w (w5.setCell ⟨l, 1, none⟩ (.slice ad (m + 1) cc))) := (((HBx.out.mono hBw).trans (hbW.mono hBc)).grown hg (by have := hbW.size; omega) (fun j e => (HSx.out.rows.lt2 j e).1)).setCell (by show B ≤ l; omega) _
  clear hg ho hr1 M5 R5 R6 M6 hadM hadl SW hbW D5 HIN
  go_wp2_with fail
  refine bodyPost_ret (v := .nilIface) ?_ rfl ⟨rfl, ⟨ad, cc, HF.out⟩, HBF.out⟩
  simp [results, Tryz.results30, go_sem]
end Go.Proofs.YtepkmbfedblhdaaGreatDoor
namespace Go.Proofs.YtepkmbfedblhdaaGreatDoor
open Go.RowKit
open Go.Proofs.YtepkmbfedblhdaaGreatDoor.Draw

/-- What a book handed out is. -/
def BkOut (w : World) (N K : Nat) (L : Nat → Ln) (I : Nat → Tx) (p cd : Int) (e : Ending) (w' : World) : Prop := ∃ a c b d, e = .returned (.agg #[.slice a N c, .slice b K d, .int .i64 p, .int .i64 cd]) ∧ OwnR w' a N 3 (lineF L) ∧ OwnR w' b K 1 (textF I) ∧ (∀ k, a.map Addr.block = some k → w.heap.size ≤ k ∧ k < w'.heap.size) ∧ (∀ k, b.map Addr.block = some k → w.heap.size ≤ k ∧ k < w'.heap.size) ∧ (∀ k, a.map Addr.block = some k → b.map Addr.block = some k → False) ∧ Below w.heap.size w w'
theorem BkOut.err {w w' : World} {L : Nat → Ln} {I : Nat → Tx} {p cd : Int} (h : Below w.heap.size w w') : BkOut w 0 0 L I p cd (.returned (.agg #[.slice none 0 0, .slice none 0 0, .int .i64 p, .int .i64 cd])) w' :=
  ⟨none, 0, none, 0, rfl, Or.inl rfl, Or.inl rfl, fun k e => by simp at e, fun k e => by simp at e, fun k e => by simp at e, h⟩
/-- What opening a line answers: how many lines and ids, which lines, which code. -/
structure Op0 where
  N : Nat
  K : Nat
  L : Nat → Ln
  cd : Int
def openB (n m : Nat) (L : Nat → Ln) (I : Nat → Tx) (x y : ByteArray) (k : Nat) : Op0 :=
  if (bookB n m L I && (nameB x && nameB y)) = true then (match findB L x y n with
    | some _ => ⟨0, 0, L, 7⟩
    | none => if 60 ≤ n then ⟨0, 0, L, 16⟩ else ⟨n + 1, m, insL L k x y, 0⟩) else ⟨0, 0, L, 1⟩
theorem openB_no {n m : Nat} {L : Nat → Ln} {I : Nat → Tx} {x y : ByteArray} {k : Nat} (h : (bookB n m L I && (nameB x && nameB y)) = false) : openB n m L I x y k = ⟨0, 0, L, 1⟩ := by unfold openB; rw [h]; rfl
theorem openB_7 {n m : Nat} {L : Nat → Ln} {I : Nat → Tx} {x y : ByteArray} {k i : Nat} (h : (bookB n m L I && (nameB x && nameB y)) = true) (hf : findB L x y n = some i) : openB n m L I x y k = ⟨0, 0, L, 7⟩ := by unfold openB; rw [h, hf]; rfl
theorem openB_16 {n m : Nat} {L : Nat → Ln} {I : Nat → Tx} {x y : ByteArray} {k : Nat} (h : (bookB n m L I && (nameB x && nameB y)) = true) (hf : findB L x y n = none) (hn : 60 ≤ n) : openB n m L I x y k = ⟨0, 0, L, 16⟩ := by unfold openB; rw [h, hf]; simp [hn]
theorem openB_ok {n m : Nat} {L : Nat → Ln} {I : Nat → Tx} {x y : ByteArray} {k : Nat} (h : (bookB n m L I && (nameB x && nameB y)) = true) (hf : findB L x y n = none) (hn : n < 60) : openB n m L I x y k = ⟨n + 1, m, insL L k x y, 0⟩ := by unfold openB; rw [h, hf]; simp [show ¬ 60 ≤ n by omega]
set_option maxRecDepth 100000 in
set_option maxHeartbeats 8000000 in
theorem bout_ok (a : Option Addr) (n c : Nat) (b : Option Addr) (m d : Nat) (p : Int) (w : World) :
    Calls Tryz.prog 31 #[.agg #[.slice a n c, .slice b m d], .int .i64 p, .nilIface] w fun e w' => e = .returned (.agg #[.slice a n c, .slice b m d, .int .i64 0, .int .i64 0]) ∧ Below w.heap.size w w' := by
  have T0 := two_now w #[.slice a n c, .slice b m d] #[.slice none 0 0, .slice none 0 0, .int .i64 0, .int .i64 0] 31 33
  have HT0 : Hid (Both w ((w.alloc (.cells #[.slice a n c, .slice b m d] 31)).alloc (.cells #[.slice none 0 0, .slice none 0 0, .int .i64 0, .int .i64 0] 33)) #[.slice a n c, .slice b m d] #[.slice none 0 0, .slice none 0 0, .int .i64 0, .int .i64 0]) := T0
  clear T0
  go_enter Tryz.func31, Tryz.ntmps31
  go_wp2_with fail
  refine (code_nil _).mono ?_
  rintro e w1 ⟨rfl, hb⟩
  have T1 := HT0.out.next hb
  have r0 := T1.res 0
  have r1 := T1.res 1
  have r2 := T1.res 2
  have r3 := T1.res 3
  have b0 := T1.box 0
  have b1 := T1.box 1
  have rf : ∀ j, w1.frozen? ⟨w.heap.size + 1, j, none⟩ = false := fun j => (hb.frozen (p := ⟨w.heap.size + 1, j, none⟩) (by simp)).trans (fnew' (by simp) j)
  simp at r0 r1 r2 r3 b0 b1
  have HB1 : Hid (Below w.heap.size w w1) := T1.bel
  have s1 : w.heap.size ≤ w.heap.size + 1 := by omega
  clear T1 hb HT0
  go_wp2_with fail
  refine bodyPost_ret (v := .agg #[.slice a n c, .slice b m d, .int .i64 0, .int .i64 0]) ?_ rfl ⟨rfl, ?_⟩
  · simp [results, Tryz.results31, go_sem, r0, r1, r2, r3]
  · exact ((((HB1.out.setCell s1 _).setCell s1 _).setCell s1 _).setCell s1 _)
set_option maxRecDepth 100000 in
set_option maxHeartbeats 8000000 in
theorem bout_err (a : Option Addr) (n c : Nat) (b : Option Addr) (m d : Nat) (p cd : Int) (hc : cd ≠ 0) (w : World) (hL : Lay w) :
    Calls Tryz.prog 31 #[.agg #[.slice a n c, .slice b m d], .int .i64 p, errV cd] w fun e w' => e = .returned (.agg #[.slice none 0 0, .slice none 0 0, .int .i64 p, .int .i64 cd]) ∧ Below w.heap.size w w' := by
  have tc : (cd != 0) = true := by rw [bne_iff_ne]; exact hc
  have H : Hid (∀ w, Lay w → Calls Tryz.prog 60 #[errV cd] w fun e w' => e = .returned (.int .i64 cd) ∧ Below w.heap.size w w') := fun w h => code_err cd w h
  have HLy : Hid (Lay w) := hL
  generalize errV cd = E at *
  clear hc hL
  have T0 := two_now w #[.slice a n c, .slice b m d] #[.slice none 0 0, .slice none 0 0, .int .i64 0, .int .i64 0] 31 33
  have HT0 : Hid (Both w ((w.alloc (.cells #[.slice a n c, .slice b m d] 31)).alloc (.cells #[.slice none 0 0, .slice none 0 0, .int .i64 0, .int .i64 0] 33)) #[.slice a n c, .slice b m d] #[.slice none 0 0, .slice none 0 0, .int .i64 0, .int .i64 0]) := T0
  clear T0
  go_enter Tryz.func31, Tryz.ntmps31
  go_wp2_with fail
  refine (H.out _ (HLy.out.below HT0.out.bel)).mono ?_
  rintro e w1 ⟨rfl, hb⟩
  have T1 := HT0.out.next hb
  have r0 := T1.res 0
  have r1 := T1.res 1
  have r2 := T1.res 2
  have r3 := T1.res 3
  have rf : ∀ j, w1.frozen? ⟨w.heap.size + 1, j, none⟩ = false := fun j => (hb.frozen (p := ⟨w.heap.size + 1, j, none⟩) (by simp)).trans (fnew' (by simp) j)
  simp at r0 r1 r2 r3
  have HB1 : Hid (Below w.heap.size w w1) := T1.bel
  have s1 : w.heap.size ≤ w.heap.size + 1 := by omega
  clear T1 hb HT0
  go_wp2_with fail
  refine bodyPost_ret (v := .agg #[.slice none 0 0, .slice none 0 0, .int .i64 p, .int .i64 cd]) ?_ rfl ⟨rfl, ?_⟩
  · simp [results, Tryz.results31, go_sem, r0, r1, r2, r3]
  · exact ((((HB1.out.setCell s1 _).setCell s1 _).setCell s1 _).setCell s1 _)
end Go.Proofs.YtepkmbfedblhdaaGreatDoor
namespace Go.Proofs.YtepkmbfedblhdaaGreatDoor
open Go.RowKit
open Go.Proofs.YtepkmbfedblhdaaGreatDoor.Draw

theorem Three.low {w W W' : World} {cs rs os : Array Value} (h : Three w W cs rs os) (hb : Below (w.heap.size + 3) W W') : Three w W' cs rs os := by
  have hs := h.size
  have hk0 : W'.heap[w.heap.size]? = W.heap[w.heap.size]? := hb.block _ (by omega)
  have hk1 : W'.heap[w.heap.size + 1]? = W.heap[w.heap.size + 1]? := hb.block _ (by omega)
  have hk2 : W'.heap[w.heap.size + 1 + 1]? = W.heap[w.heap.size + 1 + 1]? := hb.block _ (by omega)
  exact ⟨fun j => (World.cell?_of_block (a := ⟨w.heap.size, j, none⟩) hk0).trans (h.box j), fun j => (World.cell?_of_block (a := ⟨w.heap.size + 1, j, none⟩) hk1).trans (h.res j), fun j => (World.cell?_of_block (a := ⟨w.heap.size + 1 + 1, j, none⟩) hk2).trans (h.out j),
    fun j => (World.frozen?_of_block (a := ⟨w.heap.size + 1, j, none⟩) hk1).trans (h.rfr j), fun j => (World.frozen?_of_block (a := ⟨w.heap.size + 1 + 1, j, none⟩) hk2).trans (h.ofr j), Nat.le_trans hs hb.size, h.bel.trans (hb.mono (by omega))⟩
theorem own_linesR {w : World} {B n c : Nat} {a : Option Addr} {L : Nat → Ln} (h : w.ownsRow B 84 3 (.slice a n c) n (linesC L n)) : OwnR w a n 3 (lineF L) := by
  rcases id h with ⟨_, ⟨e, e2⟩ | ⟨g, cap, cur, e, _⟩⟩
  · exact Or.inl e2
  · simp at e
    obtain ⟨rfl, rfl⟩ := e
    exact Or.inr ⟨g, rfl, (own_row h (fun j hj => linesC_at L n j hj)).1⟩
theorem own_textsR {w : World} {B n c : Nat} {a : Option Addr} {I : Nat → Tx} (h : w.ownsRow B 9 1 (.slice a n c) n (textsC I n)) : OwnR w a n 1 (textF I) := by
  obtain ⟨a', cap, e, hO, _⟩ := own_texts h
  simp at e
  rw [e.1]
  exact hO
theorem OwnR.set4 {w : World} {a : Option Addr} {n c b j : Nat} {F : Nat → Value} {u : Value} (h : OwnR w a n c F) (hne : ∀ k, a.map Addr.block = some k → k ≠ b) : OwnR (w.setCell ⟨b, j, none⟩ u) a n c F := h.grown (setGrown (World.grownBy.refl _ _)) (fun k e => by simpa using hne k e)
end Go.Proofs.YtepkmbfedblhdaaGreatDoor
