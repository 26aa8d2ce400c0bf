/- A record read (impl.readRecord): what the call does. -/
import Derived.Test.YthjanamnkhggfaaDoorRcB
import Derived.Test.YthjanamnkhggfaaDoorGetLaw
import Derived.Test.YthjanamnkhggfaaDoorNumBack
import Derived.Test.YthjanamnkhggfaaDoorCash
namespace Go.Proofs.YthjanamnkhggfaaDoor
open Go.RowKit
open Go.Proofs.YthjanamnkhggfaaDoor.Draw

/-- What is read at a place: the body, the place behind it, the code. -/
def readR (s : ByteArray) (a : Nat) : ByteArray × Nat × Int :=
  if (getB s a).2.2 ≠ 0 then (⟨#[]⟩, 0, (getB s a).2.2)
  else if ¬ (1 ≤ (getB s a).1 ∧ (getB s a).1 ≤ 10000) then (⟨#[]⟩, 0, 3)
  else if (getB s (getB s a).2.1).2.2 ≠ 0 then (⟨#[]⟩, 0, (getB s (getB s a).2.1).2.2)
  else if (s.size : Int) < (getB s (getB s a).2.1).2.1 + (getB s a).1 then (⟨#[]⟩, 0, 4)
  else if recSum (s.extract (getB s (getB s a).2.1).2.1.toNat ((getB s (getB s a).2.1).2.1 + (getB s a).1).toNat) ≠ (getB s (getB s a).2.1).1 then (⟨#[]⟩, 0, 5)
  else (s.extract (getB s (getB s a).2.1).2.1.toNat ((getB s (getB s a).2.1).2.1 + (getB s a).1).toNat, ((getB s (getB s a).2.1).2.1 + (getB s a).1).toNat, 0)
def errOf (c : Int) : Value := if c = 0 then .nilIface else .iface 124 (.agg #[.int .i64 c])
/-- A record's block that is still zero. -/
structure Rr (w W : World) : Prop where
  r0 : W.cell? ⟨w.heap.size, 0, none⟩ = some (.string ⟨#[]⟩)
  r1 : W.cell? ⟨w.heap.size, 1, none⟩ = some (.int .i64 0)
  rf : ∀ j, W.frozen? ⟨w.heap.size, j, none⟩ = false
  lt : w.heap.size < W.heap.size
  bel : Below w.heap.size w W
theorem Rr.new (w : World) (t : TypeId) : Rr w (w.alloc (.cells #[.string ⟨#[]⟩, .int .i64 0] t)) := ⟨by simp, by simp, fun j => fnew' rfl j, by simp, (Below.refl _ _).alloc (Nat.le_refl _) _⟩
theorem Rr.next {w W W' : World} (h : Rr w W) (hb : Below W.heap.size W W') : Rr w W' :=
  ⟨(hb.cell (p := ⟨w.heap.size, 0, none⟩) h.lt).trans h.r0, (hb.cell (p := ⟨w.heap.size, 1, none⟩) h.lt).trans h.r1, fun j => (hb.frozen (p := ⟨w.heap.size, j, none⟩) h.lt).trans (h.rf j), Nat.lt_of_lt_of_le h.lt hb.size, h.bel.trans (hb.mono h.bel.size)⟩
/-- A number's block. -/
structure Nb (W : World) (A : Nat) (N P C : Int) : Prop where
  c0 : W.cell? ⟨A, 0, none⟩ = some (.int .i64 N)
  c1 : W.cell? ⟨A, 1, none⟩ = some (.int .i64 P)
  c2 : W.cell? ⟨A, 2, none⟩ = some (.int .i64 C)
  lt : A < W.heap.size
theorem Nb.new (w : World) (N P C : Int) (t : TypeId) : Nb (w.alloc (.cells #[.int .i64 N, .int .i64 P, .int .i64 C] t)) w.heap.size N P C := ⟨by simp, by simp, by simp, by simp⟩
theorem Nb.below {W W' : World} {A : Nat} {N P C : Int} (h : Nb W A N P C) (hb : Below W.heap.size W W') : Nb W' A N P C :=
  ⟨(hb.cell (p := ⟨A, 0, none⟩) h.lt).trans h.c0, (hb.cell (p := ⟨A, 1, none⟩) h.lt).trans h.c1, (hb.cell (p := ⟨A, 2, none⟩) h.lt).trans h.c2, Nat.lt_of_lt_of_le h.lt hb.size⟩
set_option maxRecDepth 100000 in
set_option maxHeartbeats 8000000 in
theorem impl_readRec (s : ByteArray) (a : Nat) (hs : s.size ≤ 20000) (ha : a ≤ 20000) (w : World) :
    Calls Tryd.prog 100 #[.string s, .int .i64 (a : Int)] w fun e w' => e = .returned (.tuple #[.agg #[.string (readR s a).1, .int .i64 ((readR s a).2.1 : Int)], errOf (readR s a).2.2]) ∧ Below w.heap.size w w' := by
  have HG : Hid (∀ z W, -9223372036854775808 ≤ z → z ≤ 9223372036854775807 → Calls Tryd.prog 119 #[.string s, .int .i64 z] W fun e w' => e = .returned (.agg #[.int .i64 (getB s z).1, .int .i64 (getB s z).2.1, .int .i64 (getB s z).2.2]) ∧ Below W.heap.size W w') := fun z W h0 h1 => impl_get s z W (by unfold maxLen; omega) h0 h1
  have HRd : Hid (readR s a = if (getB s a).2.2 ≠ 0 then (⟨#[]⟩, 0, (getB s a).2.2)
    else if ¬ (1 ≤ (getB s a).1 ∧ (getB s a).1 ≤ 10000) then (⟨#[]⟩, 0, 3)
    else if (getB s (getB s a).2.1).2.2 ≠ 0 then (⟨#[]⟩, 0, (getB s (getB s a).2.1).2.2)
    else if (s.size : Int) < (getB s (getB s a).2.1).2.1 + (getB s a).1 then (⟨#[]⟩, 0, 4)
    else if recSum (s.extract (getB s (getB s a).2.1).2.1.toNat ((getB s (getB s a).2.1).2.1 + (getB s a).1).toNat) ≠ (getB s (getB s a).2.1).1 then (⟨#[]⟩, 0, 5)
    else (s.extract (getB s (getB s a).2.1).2.1.toNat ((getB s (getB s a).2.1).2.1 + (getB s a).1).toNat, ((getB s (getB s a).2.1).2.1 + (getB s a).1).toNat, 0)) := rfl
  obtain ⟨N, P, C, hg1⟩ : ∃ N P C, getB s a = (N, P, C) := ⟨_, _, _, rfl⟩
  rw [hg1] at HRd
  have HG1 : Hid (∀ W, Calls Tryd.prog 119 #[.string s, .int .i64 (a : Int)] W fun e w' => e = .returned (.agg #[.int .i64 N, .int .i64 P, .int .i64 C]) ∧ Below W.heap.size W w') := fun W => by have := HG.out a W (by omega) (by omega); rw [hg1] at this; exact this
  have HBK1 : Hid (C = 0 → 0 ≤ P ∧ P ≤ 20000) := fun e => by
    rw [e] at hg1
    obtain ⟨_, h2, h3⟩ := getB_back hs hg1
    omega
  clear hg1
  dsimp only at HRd
  have HR0 : Hid (Rr w (w.alloc (.cells #[.string ⟨#[]⟩, .int .i64 0] 105))) := Rr.new _ _
  have s0 := Nat.le_refl w.heap.size
  go_enter Tryd.func100, Tryd.ntmps100
  go_wp2_with fail
  refine (HG1.out _).mono ?_
  rintro e w1 ⟨rfl, hb1⟩
  have HR1 : Hid (Rr w (w1.alloc (.cells #[.int .i64 N, .int .i64 P, .int .i64 C] 157))) := (HR0.out.next hb1).next ((Below.refl _ _).alloc (Nat.le_refl _) _)
  have HN1 : Hid (Nb (w1.alloc (.cells #[.int .i64 N, .int .i64 P, .int .i64 C] 157)) w1.heap.size N P C) := Nb.new _ _ _ _ _
  clear hb1 HR0 HG1
  by_cases hC : C ≠ 0
  · have HV : Hid (readR s a = (⟨#[]⟩, 0, C)) := by rw [HRd.out, if_pos hC]; exact rfl
    have HE : Hid (errOf C = .iface 124 (.agg #[.int .i64 C])) := if_neg hC
    have q0 : (C != 0) = true := by rw [bne_iff_ne]; exact hC
    go_upto_region 3 with fail
    obtain ⟨W1, hW1⟩ : ∃ W, W = w1.alloc (.cells #[.int .i64 N, .int .i64 P, .int .i64 C] 157) := ⟨_, rfl⟩
    obtain ⟨A, hA⟩ : ∃ A, A = w1.heap.size := ⟨_, rfl⟩
    rw [← hW1] at HR1 HN1 ⊢
    rw [← hA] at HN1 ⊢
    clear hW1 hA
    obtain ⟨r0, r1, rf, rlt, rbel⟩ := HR1.out
    obtain ⟨n0, n1, n2, nlt⟩ := HN1.out
    have nA : A ≠ w.heap.size := fun e => by rw [e, r0] at n0; cases n0
    have nA' : w.heap.size ≠ A := fun e => nA e.symm
    go_region_held3 (fun W => W.cell? ⟨A, 2, none⟩ = some (.int .i64 C)) (go_keep) (fail)
    all_goals
      go_wp2_with fail
      refine bodyPost_ret (v := .tuple #[.agg #[.string ⟨#[]⟩, .int .i64 0], .iface 124 (.agg #[.int .i64 C])]) ?_ rfl ⟨by rw [HV.out]; show _ = Ending.returned (.tuple #[.agg #[.string ⟨#[]⟩, .int .i64 ((0 : Nat) : Int)], errOf C]); rw [HE.out]; rfl, ?_⟩
      · simp [results, Tryd.results100, go_sem, r0, r1]
      · exact (HR1.out.bel.drew.setCell s0 _).setCell s0 _
  have hC : C = 0 := by omega
  subst hC
  have HBK := HBK1.out rfl
  clear HBK1
  have q0 : ((0 : Int) != 0) = false := rfl
  have HZ : Hid (∀ W, Calls Tryd.prog 63 #[.int .i64 N] W fun e w' => e = .returned (.bool (decide (1 ≤ N) && decide (N ≤ 10000))) ∧ w' = W) := fun W => impl_bsize N W
  go_wp2_with fail
  refine (HZ.out _).mono ?_
  rintro e w2 ⟨rfl, rfl⟩
  obtain ⟨W1, hW1⟩ : ∃ W, W = w1.alloc (.cells #[.int .i64 N, .int .i64 P, .int .i64 0] 157) := ⟨_, rfl⟩
  obtain ⟨A, hA⟩ : ∃ A, A = w1.heap.size := ⟨_, rfl⟩
  rw [← hW1] at HR1 HN1 ⊢
  rw [← hA] at HN1 ⊢
  clear hW1 hA HZ
  obtain ⟨r0, r1, rf, rlt, rbel⟩ := HR1.out
  obtain ⟨n0, n1, n2, nlt⟩ := HN1.out
  have nA : A ≠ w.heap.size := fun e => by rw [e, r0] at n0; cases n0
  have nA' : w.heap.size ≠ A := fun e => nA e.symm
  by_cases hN : ¬ (1 ≤ N ∧ N ≤ 10000)
  · have HV : Hid (readR s a = (⟨#[]⟩, 0, 3)) := by rw [HRd.out, if_neg (by omega), if_pos hN]; exact rfl
    have hz : (decide (1 ≤ N) && decide (N ≤ 10000)) = false := by
      cases h : (decide (1 ≤ N) && decide (N ≤ 10000))
      · rfl
      · simp at h; omega
    rw [hz]
    clear hz
    go_wp2_with fail
    refine bodyPost_ret (v := .tuple #[.agg #[.string ⟨#[]⟩, .int .i64 0], .iface 124 (.agg #[.int .i64 3])]) ?_ rfl ⟨by rw [HV.out]; rfl, ?_⟩
    · simp [results, Tryd.results100, go_sem, r0, r1]
    · exact (HR1.out.bel.setCell s0 _).setCell s0 _
  have hN : 1 ≤ N ∧ N ≤ 10000 := by omega
  have hz : (decide (1 ≤ N) && decide (N ≤ 10000)) = true := by simp; omega
  rw [hz]
  clear hz
  obtain ⟨N2, P2, C2, hg2⟩ : ∃ N P' C, getB s P = (N, P', C) := ⟨_, _, _, rfl⟩
  rw [hg2] at HRd
  dsimp only at HRd
  have HG2 : Hid (∀ W, Calls Tryd.prog 119 #[.string s, .int .i64 P] W fun e w' => e = .returned (.agg #[.int .i64 N2, .int .i64 P2, .int .i64 C2]) ∧ Below W.heap.size W w') := fun W => by have := HG.out P W (by omega) (by omega); rw [hg2] at this; exact this
  have HBK2 : Hid (C2 = 0 → 0 ≤ P2 ∧ P2 ≤ (s.size : Int)) := fun e => by
    rw [e, show P = ((P.toNat : Nat) : Int) by omega] at hg2
    obtain ⟨_, h2, h3⟩ := getB_back hs hg2
    omega
  clear hg2 HG
  go_wp2_with fail
  refine (HG2.out _).mono ?_
  rintro e w3 ⟨rfl, hb3⟩
  have hal : Below w3.heap.size w3 (w3.alloc (.cells #[.int .i64 N2, .int .i64 P2, .int .i64 C2] 157)) := (Below.refl _ _).alloc (Nat.le_refl _) _
  have HR3 : Hid (Rr w (w3.alloc (.cells #[.int .i64 N2, .int .i64 P2, .int .i64 C2] 157))) := (HR1.out.next hb3).next hal
  have HN3 : Hid (Nb (w3.alloc (.cells #[.int .i64 N2, .int .i64 P2, .int .i64 C2] 157)) A N P 0) := (HN1.out.below hb3).below hal
  have HM3 : Hid (Nb (w3.alloc (.cells #[.int .i64 N2, .int .i64 P2, .int .i64 C2] 157)) w3.heap.size N2 P2 C2) := Nb.new _ _ _ _ _
  have nlt3 := (HN1.out.below hb3).lt
  have HNw : Hid (Nb w3 A N P 0) := HN1.out.below hb3
  have HRw : Hid (Rr w w3) := HR1.out.next hb3
  clear hb3 hal HG2 HR1 HN1 r0 r1 rf rlt rbel n0 n1 n2 nlt
  by_cases hC2 : C2 ≠ 0
  · have HV : Hid (readR s a = (⟨#[]⟩, 0, C2)) := by rw [HRd.out, if_neg (by omega), if_neg (by omega), if_pos hC2]; exact rfl
    have HE : Hid (errOf C2 = .iface 124 (.agg #[.int .i64 C2])) := if_neg hC2
    have q2 : (C2 != 0) = true := by rw [bne_iff_ne]; exact hC2
    go_upto_region 8 with fail
    obtain ⟨W3, hW3⟩ : ∃ W, W = w3.alloc (.cells #[.int .i64 N2, .int .i64 P2, .int .i64 C2] 157) := ⟨_, rfl⟩
    obtain ⟨B, hB⟩ : ∃ A, A = w3.heap.size := ⟨_, rfl⟩
    rw [← hW3] at HR3 HM3 ⊢
    rw [← hB] at HM3 ⊢
    clear hW3 hB
    obtain ⟨r0, r1, rf, rlt, rbel⟩ := HR3.out
    obtain ⟨m0, m1, m2, mlt⟩ := HM3.out
    have nB : B ≠ w.heap.size := fun e => by rw [e, r0] at m0; cases m0
    have nB' : w.heap.size ≠ B := fun e => nB e.symm
    go_region_held3 (fun W => W.cell? ⟨B, 2, none⟩ = some (.int .i64 C2)) (go_keep) (fail)
    all_goals
      go_wp2_with fail
      refine bodyPost_ret (v := .tuple #[.agg #[.string ⟨#[]⟩, .int .i64 0], .iface 124 (.agg #[.int .i64 C2])]) ?_ rfl ⟨by rw [HV.out]; show _ = Ending.returned (.tuple #[.agg #[.string ⟨#[]⟩, .int .i64 ((0 : Nat) : Int)], errOf C2]); rw [HE.out]; rfl, ?_⟩
      · simp [results, Tryd.results100, go_sem, r0, r1]
      · exact (HR3.out.bel.drew.setCell s0 _).setCell s0 _
  have hC2 : C2 = 0 := by omega
  subst hC2
  obtain ⟨hp0, hp1⟩ := HBK2.out rfl
  clear HBK2
  obtain ⟨p, rfl⟩ : ∃ p : Nat, P2 = (p : Int) := ⟨P2.toNat, by omega⟩
  obtain ⟨n, rfl⟩ : ∃ n : Nat, N = (n : Int) := ⟨N.toNat, by omega⟩
  rw [show ((p : Int) + (n : Int)).toNat = p + n by omega, Int.toNat_natCast] at HRd
  by_cases hE : s.size < p + n
  · have HV : Hid (readR s a = (⟨#[]⟩, 0, 4)) := by rw [HRd.out, if_neg (by omega), if_neg (by omega), if_neg (by omega), if_pos (by omega)]; exact rfl
    have t0 : decide ((s.size : Int) < (p : Int) + (n : Int)) = true := by simp; omega
    have t1 : decide (s.size < p + n) = true := by simp; omega
    obtain ⟨r0, r1, rf, rlt, rbel⟩ := HRw.out
    obtain ⟨n0, n1, n2, nlt⟩ := HNw.out
    have nw : w3.heap.size ≠ A := by omega
    have nw' : w3.heap.size ≠ w.heap.size := by omega
    have q2 : ((0 : Int) != 0) = false := rfl
    go_wp2_with fail
    refine bodyPost_ret (v := .tuple #[.agg #[.string ⟨#[]⟩, .int .i64 0], .iface 124 (.agg #[.int .i64 4])]) ?_ rfl ⟨by rw [HV.out]; rfl, ?_⟩
    · simp [results, Tryd.results100, go_sem, r0, r1, rlt]
    · first
        | exact (HR3.out.bel.setCell s0 _).setCell s0 _
        | exact ((HRw.out.bel.setCell s0 _).setCell s0 _).alloc (by simpa using HRw.out.bel.size) _
  have hE : p + n ≤ s.size := by omega
  have t0 : decide ((s.size : Int) < (p : Int) + (n : Int)) = false := by simp; omega
  have t1 : decide (s.size < p + n) = false := by simp; omega
  have hsl : ∀ W : World, (Instr.slice 9 (.string s) (some (.int .i64 (p : Int))) (some (.int .i64 ((p : Int) + (n : Int)))) none).run Tryd.prog W = .ok (.string (s.extract p (p + n))) W := fun W => by
    rw [run_slice_string (P := Tryd.prog) (w := W) 9 s .i64 .i64 (p : Int) ((p : Int) + (n : Int)) Tryd.underlying9 (by omega) (by omega) (by omega), show ((p : Int) + (n : Int)).toNat = p + n by omega, Int.toNat_natCast]
  have hbs : (s.extract p (p + n)).size ≤ 10000 := by rw [ByteArray.size_extract]; omega
  have HRS : Hid (∀ W, Calls Tryd.prog 66 #[.string (s.extract p (p + n))] W fun e w' => e = .returned (.int .i64 (recSum (s.extract p (p + n)))) ∧ Below W.heap.size W w') := fun W => impl_recSum _ hbs W
  obtain ⟨bd, hbd⟩ : ∃ b, s.extract p (p + n) = b := ⟨_, rfl⟩
  rw [hbd] at HRd HRS hsl hbs
  obtain ⟨rs, hrs⟩ : ∃ r, recSum bd = r := ⟨_, rfl⟩
  rw [hrs] at HRd HRS
  clear hbd hrs
  obtain ⟨r0, r1, rf, rlt, rbel⟩ := HRw.out
  obtain ⟨n0, n1, n2, nlt⟩ := HNw.out
  have nw : w3.heap.size ≠ A := by omega
  have nw' : w3.heap.size ≠ w.heap.size := by omega
  have q2 : ((0 : Int) != 0) = false := rfl
  go_wp2_with fail
  refine (join_one bd (by omega) _ _ (by simp)).mono ?_
  rintro e w4 ⟨rfl, hb4⟩
  have HR4 : Hid (Rr w w4) := HR3.out.next hb4
  have HM4 : Hid (Nb w4 w3.heap.size N2 (p : Int) 0) := HM3.out.below hb4
  obtain ⟨B, hB⟩ : ∃ A, A = w3.heap.size := ⟨_, rfl⟩
  rw [← hB] at HM4 ⊢
  clear hb4 HR3 HN3 HM3 HNw HRw r0 r1 rf rlt rbel n0 n1 n2 nlt nw nw' hB nlt3
  obtain ⟨m0, m1, m2, mlt⟩ := HM4.out
  go_upto_region 13 with fail
  go_region_held3 (fun W => W.cell? ⟨B, 0, none⟩ = some (.int .i64 N2)) (go_keep) (first | (go_at_call 66; refine (HRS.out _).mono ?_; rintro e w5 ⟨rfl, hb5⟩; have hx5 : Below w4.heap.size w4 w5 := (by first | exact hb5 | exact (Below.refl _ w4).drew.trans hb5); have M5 := HM4.out.below hx5; have d0 := M5.c0))
  all_goals
    have HR5 : Hid (Rr w w5) := HR4.out.next hx5
    obtain ⟨r0, r1, rf, rlt, rbel⟩ := HR5.out
    clear hb5 hx5
    by_cases hq : rs ≠ N2
    · have HV : Hid (readR s a = (⟨#[]⟩, 0, 5)) := by rw [HRd.out, if_neg (by omega), if_neg (by omega), if_neg (by omega), if_neg (by omega), if_pos hq]; exact rfl
      have u0 : (rs != N2) = true := by rw [bne_iff_ne]; exact hq
      go_wp2_with fail
      refine bodyPost_ret (v := .tuple #[.agg #[.string ⟨#[]⟩, .int .i64 0], .iface 124 (.agg #[.int .i64 5])]) ?_ rfl ⟨by rw [HV.out]; rfl, ?_⟩
      · simp [results, Tryd.results100, go_sem, r0, r1]
      · exact (HR5.out.bel.setCell s0 _).setCell s0 _
    · have hq : rs = N2 := by omega
      have HV : Hid (readR s a = (bd, p + n, 0)) := by rw [HRd.out, if_neg (by omega), if_neg (by omega), if_neg (by omega), if_neg (by omega), if_neg (by omega)]; exact rfl
      have u0 : (rs != N2) = false := by rw [hq]; simp
      clear hq
      go_wp2_with fail
      refine bodyPost_ret (v := .tuple #[.agg #[.string bd, .int .i64 ((p : Int) + (n : Int))], .nilIface]) ?_ rfl ⟨by rw [HV.out]; show _ = Ending.returned (.tuple #[.agg #[.string bd, .int .i64 ((p + n : Nat) : Int)], errOf 0]); rw [Int.natCast_add]; rfl, ?_⟩
      · simp [results, Tryd.results100, go_sem, r0, r1]
      · exact (HR5.out.bel.setCell s0 _).setCell s0 _
end Go.Proofs.YthjanamnkhggfaaDoor
