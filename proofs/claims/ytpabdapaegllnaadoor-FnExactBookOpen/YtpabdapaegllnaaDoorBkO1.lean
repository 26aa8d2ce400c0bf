/- A line opened in a ledger ((*impl.ledger).open): what the call does. -/
import Derived.Test.YtpabdapaegllnaaDoorBkN4
import Derived.Test.YtpabdapaegllnaaDoorBkB
import Derived.Test.YtpabdapaegllnaaDoorBbW
import Derived.Deep.RegionWith
namespace Go.Proofs.YtpabdapaegllnaaDoor
open Go.RowKit
open Go.Proofs.YtpabdapaegllnaaDoor.Draw

/-- A block of a spot's cells. -/
structure Sc (W : World) (b : Nat) (x y : ByteArray) : Prop where
  c0 : W.cell? ⟨b, 0, none⟩ = some (.string x)
  c1 : W.cell? ⟨b, 1, none⟩ = some (.string y)
  lt : b < W.heap.size
theorem Sc.below {W W' : World} {b : Nat} {x y : ByteArray} (h : Sc W b x y) (hb : Below W.heap.size W W') : Sc W' b x y := ⟨(hb.cell (p := ⟨b, 0, none⟩) h.lt).trans h.c0, (hb.cell (p := ⟨b, 1, none⟩) h.lt).trans h.c1, Nat.lt_of_lt_of_le h.lt hb.size⟩
theorem Sc.new (w : World) (x y : ByteArray) (t : TypeId) : Sc (w.alloc (.cells #[.string x, .string y] t)) w.heap.size x y := ⟨by simp, by simp, by simp⟩
theorem map_below {W W' : World} {M n : Nat} {D : DataW Unit} (h : W.ownsMap Tryd.prog 38 (plainElem Tryd.prog 3) M n D) (hb : Below W.heap.size W W') : W'.ownsMap Tryd.prog 38 (plainElem Tryd.prog 3) M n D := h.kept (row := none) ⟨hb.os, hb.tape, hb.output, hb.size, fun k hk _ => hb.block k hk⟩ (by simp)
set_option maxRecDepth 100000 in
set_option maxHeartbeats 16000000 in
theorem open_no1 (l : Nat) (x y : ByteArray) (hx : x.size ≤ maxLen) (hy : y.size ≤ maxLen) (hno : (nameB x && nameB y) = false) (w : World) :
    Calls Tryd.prog 48 #[.pointer (some ⟨l, 0, none⟩), .agg #[.string x, .string y]] w fun e w' => e = .returned (errV 1) ∧ Below w.heap.size w w' := by
  have HSR : Hid (∀ W, Calls Tryd.prog 64 #[.agg #[.string x, .string y]] W fun e w' => e = .returned (.bool (nameB x && nameB y)) ∧ Below W.heap.size W w') := fun W => impl_spot x y hx hy W
  have HB0 : Hid (Below w.heap.size w (w.alloc (.cells #[.string x, .string y] 38))) := (Below.refl _ _).alloc (Nat.le_refl _) _
  have HS0 : Hid (Sc (w.alloc (.cells #[.string x, .string y] 38)) w.heap.size x y) := Sc.new _ _ _ _
  rw [hno] at HSR
  go_enter Tryd.func48, Tryd.ntmps48
  go_wp2_with fail
  refine (HSR.out _).mono ?_
  rintro e w1 ⟨rfl, hb⟩
  have HB1 : Hid (Below w.heap.size w w1) := HB0.out.trans (hb.mono HB0.out.size)
  clear hb HB0 HS0
  go_wp2_with fail
  refine bodyPost_ret (v := errV 1) ?_ rfl ⟨rfl, HB1.out⟩
  simp [results, Tryd.results48, go_sem, errV]
set_option maxRecDepth 100000 in
set_option maxHeartbeats 16000000 in
theorem open_no7 (l : Nat) (a1 : Option Addr) (n c1 : Nat) (v1 v3 : Value) (M : Nat) (L : Nat → Ln) (x y : ByteArray) (hx : x.size ≤ maxLen) (hy : y.size ≤ maxLen) (hyes : (nameB x && nameB y) = true) (hok : ∀ j, j < n → okLine L j = true) (hf : ∀ j, j < n → (L j).fits) (i : Nat) (hfb : findB L x y n = some i) (w : World) (hD : Led w l (.slice a1 n c1) v1 (.map (some M)) v3) (hmp : w.ownsMap Tryd.prog 38 (plainElem Tryd.prog 3) M n (placesD L n)) :
    Calls Tryd.prog 48 #[.pointer (some ⟨l, 0, none⟩), .agg #[.string x, .string y]] w fun e w' => e = .returned (errV 7) ∧ Below w.heap.size w w' := by
  have HSR : Hid (∀ W, Calls Tryd.prog 64 #[.agg #[.string x, .string y]] W fun e w' => e = .returned (.bool (nameB x && nameB y)) ∧ Below W.heap.size W w') := fun W => impl_spot x y hx hy W
  have HB0 : Hid (Below w.heap.size w (w.alloc (.cells #[.string x, .string y] 38))) := (Below.refl _ _).alloc (Nat.le_refl _) _
  have HS0 : Hid (Sc (w.alloc (.cells #[.string x, .string y] 38)) w.heap.size x y) := Sc.new _ _ _ _
  rw [hyes] at HSR
  have hll := hD.lt
  have HD0 : Hid (Led (w.alloc (.cells #[.string x, .string y] 38)) l (.slice a1 n c1) v1 (.map (some M)) v3) := hD.below HB0.out
  go_enter Tryd.func48, Tryd.ntmps48
  go_wp2_with fail
  refine (HSR.out _).mono ?_
  rintro e w1 ⟨rfl, hb⟩
  have hmp' : w1.drew.ownsMap Tryd.prog 38 (plainElem Tryd.prog 3) M n (placesD L n) := (map_below (map_below (map_below hmp HB0.out) hb) (Below.refl _ _).drew)
  obtain ⟨v, ps, hrun, hv⟩ := hmp'.look_ok keySpot Tryd.underlying69 (zeroInt _) (plainElem_int Tryd.underlying3 (by decide)) (spotK_of x y hx hy)
  obtain ⟨cz, rfl, hcz, _⟩ := plainElem_int_inv Tryd.underlying3 hv
  have hfind := places_find hok hf hx hy n (Nat.le_refl _)
  rw [hfind.1] at hrun
  rw [hfb] at hrun
  have hsome : (some i : Option Nat).isSome = true := rfl
  rw [hsome] at hrun
  have HB1 : Hid (Below w.heap.size w w1) := HB0.out.trans (hb.mono HB0.out.size)
  obtain ⟨s0, s1, slt⟩ := HS0.out.below hb
  obtain ⟨e0, e1, e2, e3, ef, elt⟩ := HD0.out.below hb
  have n0 : w.heap.size ≠ l := by omega
  have n1 : l ≠ w.heap.size := by omega
  clear hmp hmp' hfind hcz hv hfb hb HB0 HS0 HD0 hok hf
  go_upto_region 3 with fail
  go_region_held3 (fun W => W.cell? ⟨l, 2, none⟩ = some (.map (some M)) ∧ W.cell? ⟨w.heap.size, 0, none⟩ = some (.string x) ∧ W.cell? ⟨w.heap.size, 1, none⟩ = some (.string y)) (go_keep) (fail)
  go_wp2_with fail
  refine bodyPost_ret (v := errV 7) ?_ rfl ⟨rfl, HB1.out.drew⟩
  simp [results, Tryd.results48, go_sem, errV]
set_option maxRecDepth 100000 in
set_option maxHeartbeats 16000000 in
theorem open_no16 (l : Nat) (a1 : Option Addr) (n c1 : Nat) (v1 v3 : Value) (M : Nat) (L : Nat → Ln) (x y : ByteArray) (hx : x.size ≤ maxLen) (hy : y.size ≤ maxLen) (hyes : (nameB x && nameB y) = true) (hok : ∀ j, j < n → okLine L j = true) (hf : ∀ j, j < n → (L j).fits) (hfb : findB L x y n = none) (hn : 60 ≤ n) (w : World) (hD : Led w l (.slice a1 n c1) v1 (.map (some M)) v3) (hmp : w.ownsMap Tryd.prog 38 (plainElem Tryd.prog 3) M n (placesD L n)) :
    Calls Tryd.prog 48 #[.pointer (some ⟨l, 0, none⟩), .agg #[.string x, .string y]] w fun e w' => e = .returned (errV 16) ∧ Below w.heap.size w w' := by
  have HSR : Hid (∀ W, Calls Tryd.prog 64 #[.agg #[.string x, .string y]] W fun e w' => e = .returned (.bool (nameB x && nameB y)) ∧ Below W.heap.size W w') := fun W => impl_spot x y hx hy W
  have HB0 : Hid (Below w.heap.size w (w.alloc (.cells #[.string x, .string y] 38))) := (Below.refl _ _).alloc (Nat.le_refl _) _
  have HS0 : Hid (Sc (w.alloc (.cells #[.string x, .string y] 38)) w.heap.size x y) := Sc.new _ _ _ _
  rw [hyes] at HSR
  have hll := hD.lt
  have HD0 : Hid (Led (w.alloc (.cells #[.string x, .string y] 38)) l (.slice a1 n c1) v1 (.map (some M)) v3) := hD.below HB0.out
  have q0 : decide (60 ≤ n) = true := by simpa using hn
  have q1 : decide ((60 : Int) ≤ (n : Int)) = true := by simp; omega
  go_enter Tryd.func48, Tryd.ntmps48
  go_wp2_with fail
  refine (HSR.out _).mono ?_
  rintro e w1 ⟨rfl, hb⟩
  have hmp' : w1.drew.ownsMap Tryd.prog 38 (plainElem Tryd.prog 3) M n (placesD L n) := (map_below (map_below (map_below hmp HB0.out) hb) (Below.refl _ _).drew)
  obtain ⟨v, ps, hrun, hv⟩ := hmp'.look_ok keySpot Tryd.underlying69 (zeroInt _) (plainElem_int Tryd.underlying3 (by decide)) (spotK_of x y hx hy)
  obtain ⟨cz, rfl, hcz, _⟩ := plainElem_int_inv Tryd.underlying3 hv
  have hfind := places_find hok hf hx hy n (Nat.le_refl _)
  rw [hfind.1] at hrun
  rw [hfb] at hrun
  have hsome : (none : Option Nat).isSome = false := rfl
  rw [hsome] at hrun
  have HB1 : Hid (Below w.heap.size w w1) := HB0.out.trans (hb.mono HB0.out.size)
  obtain ⟨s0, s1, slt⟩ := HS0.out.below hb
  obtain ⟨e0, e1, e2, e3, ef, elt⟩ := HD0.out.below hb
  have n0 : w.heap.size ≠ l := by omega
  have n1 : l ≠ w.heap.size := by omega
  clear hmp hmp' hfind hcz hv hfb hb HB0 HS0 HD0 hok hf
  go_upto_region 3 with fail
  go_region_held3 (fun W => W.cell? ⟨l, 2, none⟩ = some (.map (some M)) ∧ W.cell? ⟨w.heap.size, 0, none⟩ = some (.string x) ∧ W.cell? ⟨w.heap.size, 1, none⟩ = some (.string y)) (go_keep) (fail)
  go_wp2_with fail
  refine bodyPost_ret (v := errV 16) ?_ rfl ⟨rfl, HB1.out.drew⟩
  simp [results, Tryd.results48, go_sem, errV]
end Go.Proofs.YtpabdapaegllnaaDoor
