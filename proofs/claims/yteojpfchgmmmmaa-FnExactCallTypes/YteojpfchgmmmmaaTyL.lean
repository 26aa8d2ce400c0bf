/- The law of CallTypes. -/
import Derived.Test.YteojpfchgmmmmaaTyC
namespace Go.Proofs.Yteojpfchgmmmmaa
open Go.RowKit


set_option maxRecDepth 100000 in
set_option maxHeartbeats 8000000 in
theorem law_callTypes (s : ByteArray) (hs : s.size ≤ maxLen) (w : World) :
    Calls Try.prog 3 #[.string s] w fun e w' => e = .returned (.bool true) ∧ Below w.heap.size w w' := by
  unfold maxLen at hs
  by_cases hl : s.size ≤ 1048576
  rotate_left
  · have q0 : decide (1048576 < s.size) = true := by simp; omega
    have q1 : decide ((1048576 : Int) < (s.size : Int)) = true := by simp; omega
    go_enter Try.func3, Try.ntmps3
    go_wp2_with fail
    go_ret
    exact ⟨rfl, Below.refl _ _⟩
  have q0 : decide (1048576 < s.size) = false := by simp; omega
  have q1 : decide ((1048576 : Int) < (s.size : Int)) = false := by simp; omega
  have HS : Hid (∀ W, Calls Try.prog 5 #[.string s] W fun e w' => IntsOut W (callT s) e w') := fun W => spec_callT s W
  have HI : Hid (∀ W, Calls Try.prog 6 #[.string s] W fun e w' => IntsOut W (callT s) e w') := fun W => impl_callT s W
  have hn5 := callT_len s
  generalize callT s = l at *
  obtain ⟨n, hn⟩ : ∃ n, n = l.length := ⟨_, rfl⟩
  have HF : Hid (∀ j, j < n → intF l j = .int .i64 (l.getD j 0)) := fun j _ => rfl
  unfold IntsOut at HS HI
  rw [← hn] at HS HI hn5
  clear hn
  generalize intF l = F at *
  have hn6 : n ≤ 1048576 := by omega
  go_enter Try.func3, Try.ntmps3
  go_wp2_with fail
  refine (HS.out _).mono ?_
  rintro e w1 ⟨sa, sc, rfl, hO, hk, hb⟩
  have HB1 : Hid (Below w.heap.size w w1) := hb
  have HO1 : Hid (OwnR w1 sa n 1 F) := hO
  have HLs : Hid (∀ k, sa.map Addr.block = some k → k < w1.heap.size) := fun k e => (hk k e).2
  clear hO hk hb HS
  go_wp2_with fail
  refine (HI.out _).mono ?_
  rintro e w2 ⟨ga, gk, rfl, hO, hk, hb⟩
  have HB2 : Hid (Below w.heap.size w w2) := HB1.out.trans (hb.mono HB1.out.size)
  have HO2 : Hid (OwnR w2 sa n 1 F) := HO1.out.below hb
  have HQ2 : Hid (OwnR w2 ga n 1 F) := hO
  have HLg : Hid (∀ k, ga.map Addr.block = some k → w1.heap.size ≤ k) := fun k e => (hk k e).1
  have HW1 : Hid (w.heap.size ≤ w1.heap.size) := HB1.out.size
  clear hO hk hb HB1 HO1
  go_wp2_with fail
  refine (eq_ints ga sa n gk sc F (fun j => l.getD j 0) HF.out hn6 _ HQ2.out HO2.out).mono ?_
  rintro e w3 ⟨rfl, hb⟩
  have HB3 : Hid (Below w.heap.size w w3) := HB2.out.trans (hb.mono HB2.out.size)
  have HO3 : Hid (OwnR w3 sa n 1 F) := HO2.out.below hb
  have HQ3 : Hid (OwnR w3 ga n 1 F) := HQ2.out.below hb
  clear hb HB2 HO2 HQ2
  go_wp2_with fail
  refine (mark_ints ga n gk F hn6 1 (by omega) _ HQ3.out).mono ?_
  rintro e w4 ⟨rfl, hO, hg⟩
  have HB4 : Hid (Below w.heap.size w w4) := HB3.out.grown hg HB3.out.size (fun k hk => by have := HLg.out k hk; have := HW1.out; omega)
  have HO4 : Hid (OwnR w4 sa n 1 F) := HO3.out.grown hg (fun k e e' => by have := HLs.out k e; have := HLg.out k e'.symm; omega)
  have HQ4 : Hid (OwnR w4 ga n 1 (mkI 1)) := hO
  clear hO hg HB3 HO3 HQ3
  go_wp2_with fail
  refine (held_ints ga n gk hn6 1 (by omega) _ HQ4.out).mono ?_
  rintro e w5 ⟨rfl, hb⟩
  have HB5 : Hid (Below w.heap.size w w5) := HB4.out.trans (hb.mono HB4.out.size)
  have HO5 : Hid (OwnR w5 sa n 1 F) := HO4.out.below hb
  have HQ5 : Hid (OwnR w5 ga n 1 (mkI 1)) := HQ4.out.below hb
  clear hb HB4 HO4 HQ4
  have qc : decide (((1 + n : Nat) : Int) < 0) = false := by simp; omega
  have qc' : decide ((1 : Int) + (n : Int) < 0) = false := by simp; omega
  have qq : ∀ z : Int, (z != z) = false := fun z => by simp
  go_wp2_with fail
  refine (HI.out _).mono ?_
  rintro e w6 ⟨ha, hk, rfl, hO, _, hb⟩
  have HB6 : Hid (Below w.heap.size w w6) := HB5.out.trans (hb.mono HB5.out.size)
  have HO6 : Hid (OwnR w6 sa n 1 F) := HO5.out.below hb
  have HQ6 : Hid (OwnR w6 ga n 1 (mkI 1)) := HQ5.out.below hb
  have HH6 : Hid (OwnR w6 ha n 1 F) := hO
  clear hO hb HB5 HO5 HQ5
  go_wp2_with fail
  refine (eq_ints ha sa n hk sc F (fun j => l.getD j 0) HF.out hn6 _ HH6.out HO6.out).mono ?_
  rintro e w7 ⟨rfl, hb⟩
  have HB7 : Hid (Below w.heap.size w w7) := HB6.out.trans (hb.mono HB6.out.size)
  have HQ7 : Hid (OwnR w7 ga n 1 (mkI 1)) := HQ6.out.below hb
  clear hb HB6 HO6 HQ6 HH6
  go_wp2_with fail
  refine (held_ints ga n gk hn6 1 (by omega) _ HQ7.out).mono ?_
  rintro e w8 ⟨rfl, hb⟩
  have HB8 : Hid (Below w.heap.size w w8) := HB7.out.trans (hb.mono HB7.out.size)
  clear hb HB7 HQ7
  go_wp2_with fail
  go_ret
  exact ⟨rfl, HB8.out⟩
end Go.Proofs.Yteojpfchgmmmmaa
