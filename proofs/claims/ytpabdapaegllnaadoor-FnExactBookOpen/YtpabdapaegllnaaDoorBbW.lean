/- A balance asked (BookBalance of spec and impl): what each call does. -/
import Derived.Test.YtpabdapaegllnaaDoorBbM
import Derived.Test.YtpabdapaegllnaaDoorBkS
namespace Go.Proofs.YtpabdapaegllnaaDoor
open Go.RowKit
open Go.Proofs.YtpabdapaegllnaaDoor.Draw

theorem neqS {a b : ByteArray} (h : a ≠ b) : (a.toList == b.toList) = false := by
  rw [beq_eq_false_iff_ne, Lib.toList_data, Lib.toList_data]
  intro e
  exact h (by cases a; cases b; simp at e; rw [e])
def findI (L : Nat → Ln) (x y : ByteArray) (n : Nat) : Int := match findB L x y n with
  | some i => (i : Int)
  | none => -1
def balB (n m : Nat) (L : Nat → Ln) (I : Nat → Tx) (x y : ByteArray) : Int × Int := if bookB n m L I = true then (match findB L x y n with
  | some i => ((L i).m, 0)
  | none => (0, 8)) else (0, 1)
set_option maxRecDepth 100000 in
set_option maxHeartbeats 8000000 in
theorem spec_find (a : Option Addr) (n cap : Nat) (v1 : Value) (L : Nat → Ln) (hn : n ≤ 1048576) (x y : ByteArray) (w : World) (h : LinesAt w a n L) :
    Calls Tryd.prog 75 #[.agg #[.slice a n cap, v1], .agg #[.string x, .string y]] w fun e w' => e = .returned (.int .i64 (findI L x y n)) ∧ Below w.heap.size w w' := by
  have HL : Hid (LinesAt w a n L) := h
  have T0 := two_now w #[.slice a n cap, v1] #[.string x, .string y] 26 38
  have HT0 : Hid (Both w ((w.alloc (.cells #[.slice a n cap, v1] 26)).alloc (.cells #[.string x, .string y] 38)) #[.slice a n cap, v1] #[.string x, .string y]) := T0
  have hxx : ∀ z : List UInt8, (z == z) = true := fun z => by simp
  clear h T0
  go_enter Tryd.func75, Tryd.ntmps75
  go_wp2_with fail
  go_loopw [5] (fun j wr => ∃ k : Nat, j = .int .i64 (k : Int) ∧ k ≤ n ∧ Hid (findB L x y k = none) ∧ Hid (Both w wr #[.slice a n cap, v1] #[.string x, .string y])) (fun j _ => n - (intOf j).toNat)
  case atStart => exact ⟨0, rfl, by omega, rfl, HT0⟩
  case round =>
    obtain ⟨k, rfl, hk, HN, HT⟩ := hrel
    have b0 := HT.out.box 0
    have r0 := HT.out.res 0
    have r1 := HT.out.res 1
    simp at b0 r0 r1
    by_cases hkn : k < n
    · have p0 : decide (k < n) = true := by simpa using hkn
      have p1 : decide ((k : Int) < (n : Int)) = true := by simpa using hkn
      rcases HL.out with h0 | ⟨g, o, rfl, hg, hc⟩
      · omega
      obtain ⟨c0, c1, _⟩ := hc k hkn
      have d0 := (HT.out.bel.cell (p := ⟨g, _, none⟩) hg).trans c0
      have d1 := (HT.out.bel.cell (p := ⟨g, _, none⟩) hg).trans c1
      have HT' : Hid (Both w wr.drew #[.slice (some ⟨g, o, none⟩) n cap, v1] #[.string x, .string y]) := HT.out.next (Below.refl _ wr).drew
      have HM : Hid (¬ ((L k).a = x ∧ (L k).s = y) → findB L x y (k + 1) = none) := fun h => findB_miss HN.out h
      have HH : Hid ((L k).a = x ∧ (L k).s = y → findI L x y n = (k : Int)) := fun h => by unfold findI; rw [findB_hit HN.out h hkn]
      clear hc c0 c1
      generalize (L k).a = z0 at *
      generalize (L k).s = z1 at *
      by_cases e0 : z0 = x
      · subst e0
        by_cases e1 : z1 = y
        · subst e1
          have HV : Hid (findI L z0 z1 n = (k : Int)) := HH.out ⟨rfl, rfl⟩
          go_upto_region 4 with fail
          go_region_held3 (fun W => W.cell? ⟨w.heap.size, 0, none⟩ = some (.slice (some ⟨g, o, none⟩) n cap) ∧ W.cell? ⟨g, o + k * 3, none⟩ = some (.string z0) ∧ W.cell? ⟨g, o + k * 3 + 1, none⟩ = some (.string z1) ∧ W.cell? ⟨w.heap.size + 1, 0, none⟩ = some (.string z0) ∧ W.cell? ⟨w.heap.size + 1, 1, none⟩ = some (.string z1)) (go_keep) (fail)
          go_wp2_with fail
          go_ret
          exact ⟨by rw [HV.out]; rfl, HT'.out.bel⟩
        · have q1 := neqS e1
          have HV : Hid (findB L z0 y (k + 1) = none) := HM.out (fun e => e1 e.2)
          go_upto_region 4 with fail
          go_region_held3 (fun W => W.cell? ⟨w.heap.size, 0, none⟩ = some (.slice (some ⟨g, o, none⟩) n cap) ∧ W.cell? ⟨g, o + k * 3, none⟩ = some (.string z0) ∧ W.cell? ⟨g, o + k * 3 + 1, none⟩ = some (.string z1) ∧ W.cell? ⟨w.heap.size + 1, 0, none⟩ = some (.string z0) ∧ W.cell? ⟨w.heap.size + 1, 1, none⟩ = some (.string y)) (go_keep) (fail)
          go_wp2_with fail
          go_roundw
          case rel => exact ⟨k + 1, by go_num, by omega, HV, HT'⟩
          case measure => simp [intOf]; omega
      · have q1 := neqS e0
        have HV : Hid (findB L x y (k + 1) = none) := HM.out (fun e => e0 e.1)
        go_upto_region 4 with fail
        go_region_held3 (fun W => W.cell? ⟨w.heap.size, 0, none⟩ = some (.slice (some ⟨g, o, none⟩) n cap) ∧ W.cell? ⟨g, o + k * 3, none⟩ = some (.string z0) ∧ W.cell? ⟨g, o + k * 3 + 1, none⟩ = some (.string z1) ∧ W.cell? ⟨w.heap.size + 1, 0, none⟩ = some (.string x) ∧ W.cell? ⟨w.heap.size + 1, 1, none⟩ = some (.string y)) (go_keep) (fail)
        go_wp2_with fail
        go_roundw
        case rel => exact ⟨k + 1, by go_num, by omega, HV, HT'⟩
        case measure => simp [intOf]; omega
    · have p0 : decide (k < n) = false := by simpa using hkn
      have p1 : decide ((k : Int) < (n : Int)) = false := by simpa using hkn
      obtain rfl : k = n := by omega
      have HV : Hid (findI L x y k = -1) := by unfold findI; rw [HN.out]; exact rfl
      go_wp2_with fail
      go_ret
      exact ⟨by rw [HV.out]; rfl, HT.out.bel⟩
theorem zeroInt (w : World) : (zeroValue 3).run Tryd.prog w = .ok (.int .i64 0) w := by kernel_rfl
set_option maxRecDepth 100000 in
set_option maxHeartbeats 8000000 in
theorem impl_balance (l : Nat) (a : Option Addr) (n c M : Nat) (v1 v3 : Value) (L : Nat → Ln) (hok : ∀ j, j < n → okLine L j = true) (hf : ∀ j, j < n → (L j).fits) (x y : ByteArray) (hx : x.size ≤ maxLen) (hy : y.size ≤ maxLen) (w : World) (hD : Led w l (.slice a n c) v1 (.map (some M)) v3) (hmp : w.ownsMap Tryd.prog 38 (plainElem Tryd.prog 3) M n (placesD L n)) (h : LinesAt w a n L) :
    Calls Tryd.prog 50 #[.pointer (some ⟨l, 0, none⟩), .agg #[.string x, .string y]] w fun e w' => (match findB L x y n with
      | some i => e = .returned (.tuple #[.int .i64 (L i).m, .nilIface])
      | none => e = .returned (.tuple #[.int .i64 0, errV 8])) ∧ Below w.heap.size w w' := by
  have hal : Below w.heap.size w (w.alloc (.cells #[.string x, .string y] 38)).drew := ((Below.refl _ _).alloc (Nat.le_refl _) _).drew
  have hmp' : (w.alloc (.cells #[.string x, .string y] 38)).drew.ownsMap Tryd.prog 38 (plainElem Tryd.prog 3) M n (placesD L n) := hmp.kept (row := none) ⟨rfl, rfl, rfl, by simp, fun k hk _ => by show (w.alloc _).heap[k]? = _; exact Below.heap_alloc _ _ _ hk⟩ (by simp)
  obtain ⟨v, ps, hrun, hv⟩ := hmp'.look_ok keySpot Tryd.underlying69 (zeroInt _) (plainElem_int Tryd.underlying3 (by decide)) (spotK_of x y hx hy)
  obtain ⟨cz, rfl, hcz, _⟩ := plainElem_int_inv Tryd.underlying3 hv
  have hfind := places_find hok hf hx hy n (Nat.le_refl _)
  obtain ⟨c0, c1, c2, c3, cf, clt⟩ := hD
  have HB : Hid (Below w.heap.size w (w.alloc (.cells #[.string x, .string y] 38)).drew) := hal
  have HL : Hid (LinesAt w a n L) := h
  have n0 : w.heap.size ≠ l := by omega
  have n1 : l ≠ w.heap.size := by omega
  rw [hfind.1] at hrun
  cases hfb : findB L x y n with
  | none =>
    rw [hfb] at hrun
    have hsome : (none : Option Nat).isSome = false := rfl
    rw [hsome] at hrun
    clear hfind hfb hmp hmp' hal h hcz hv
    go_enter Tryd.func50, Tryd.ntmps50
    go_upto_region 1 with fail
    go_region_held3 (fun W => W.cell? ⟨l, 2, none⟩ = some (.map (some M)) ∧ W.cell? ⟨w.heap.size, 0, none⟩ = some (.string x) ∧ W.cell? ⟨w.heap.size, 1, none⟩ = some (.string y)) (go_keep) (fail)
    go_wp2_with fail
    refine bodyPost_ret (v := .tuple #[.int .i64 0, errV 8]) ?_ rfl ⟨rfl, HB.out⟩
    simp [results, Tryd.results50, go_sem, errV]
  | some i =>
    obtain ⟨hin, _, _⟩ := findB_some hfb
    have hci : cz = (i : Int) := by
      have e1 := hfind.2 i hfb
      have e2 := congrArg Prod.fst hcz
      rw [e1] at e2
      simp at e2
      exact e2.symm
    subst hci
    rw [hfb] at hrun
    have hsome : (some i : Option Nat).isSome = true := rfl
    rw [hsome] at hrun
    rcases HL.out with h0 | ⟨g, o, rfl, hg, hc⟩
    · omega
    obtain ⟨_, _, d2⟩ := hc i hin
    have d2' := (HB.out.cell (p := ⟨g, o + i * 3 + 2, none⟩) hg).trans d2
    have hgn : g ≠ w.heap.size := by omega
    have hgn' : w.heap.size ≠ g := by omega
    have hi0 : (0 : Int) ≤ (i : Int) := by omega
    have hi1 : (i : Int) < (n : Int) := by omega
    clear hfind hfb hmp hmp' hal h hcz hv hc hok hf
    go_enter Tryd.func50, Tryd.ntmps50
    go_upto_region 1 with fail
    go_region_held3 (fun W => W.cell? ⟨l, 2, none⟩ = some (.map (some M)) ∧ W.cell? ⟨w.heap.size, 0, none⟩ = some (.string x) ∧ W.cell? ⟨w.heap.size, 1, none⟩ = some (.string y)) (go_keep) (fail)
    go_wp2_with fail
    refine bodyPost_ret (v := .tuple #[.int .i64 (L i).m, .nilIface]) ?_ rfl ⟨rfl, HB.out⟩
    simp [results, Tryd.results50, go_sem]
end Go.Proofs.YtpabdapaegllnaaDoor
