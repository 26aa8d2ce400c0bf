/- Are two lists the same: what the calls do (the model's and the program's). -/
import Derived.Test.YthfjekpmaafhaaaNodes
import Derived.Test.YthfjekpmaafhaaaTxs
import Derived.Laws.StructEq
namespace Go.Proofs.Ythfjekpmaafhaaa
open Go.RowKit


theorem ne_str' {a b : ByteArray} (h : ¬ a = b) : (a.toList == b.toList) = false := by
  rw [beq_eq_false_iff_ne, ByteArray.toList_eq, ByteArray.toList_eq]
  intro e
  exact h (ByteArray.ext (Array.toList_inj.1 e))
noncomputable def sameL {α : Type} (n m : Nat) (L L' : Nat → α) : Bool := @decide (n = m ∧ ∀ i, i < n → L i = L' i) (Classical.propDecidable _)
theorem sameL_len {α : Type} {n m : Nat} {L L' : Nat → α} (h : ¬ n = m) : sameL n m L L' = false := @decide_eq_false _ (Classical.propDecidable _) (fun q => h q.1)
theorem sameL_at {α : Type} {n k : Nat} {L L' : Nat → α} (hk : k < n) (h : ¬ L k = L' k) : sameL n n L L' = false := @decide_eq_false _ (Classical.propDecidable _) (fun q => h (q.2 k hk))
theorem sameL_true {α : Type} {n : Nat} {L L' : Nat → α} (h : ∀ j, j < n → L j = L' j) : sameL n n L L' = true := @decide_eq_true _ (Classical.propDecidable _) ⟨rfl, h⟩
set_option maxRecDepth 100000 in
set_option maxHeartbeats 8000000 in
theorem spec_sameT (a a' : Option Addr) (n m cap cap' : Nat) (L L' : Nat → Tx) (hn : n ≤ 1048576) (hm : m ≤ 1048576) (w : World) (h : TextsAt w a n L) (h' : TextsAt w a' m L') :
    Calls Try.prog 23 #[.slice a n cap, .slice a' m cap'] w fun e w' => e = .returned (.bool (sameL n m L L')) ∧ Below w.heap.size w w' := by
  have HR : Hid (TextsAt w a n L) := h
  have HR' : Hid (TextsAt w a' m L') := h'
  clear h h'
  have hxx : ∀ x : List UInt8, (x == x) = true := fun x => by simp
  have hii : ∀ x : Int, (x == x) = true := fun x => by simp
  by_cases hnm : n = m
  rotate_left
  · have q0 : ((n : Int) != (m : Int)) = true := by rw [bne_iff_ne]; omega
    have HF : Hid (sameL n m L L' = false) := sameL_len hnm
    clear hnm
    go_enter Try.func23, Try.ntmps23
    go_wp2_with fail
    go_ret
    exact ⟨ret_bool HF.out.symm, Below.refl _ _⟩
  subst hnm
  have hnn : ((n : Int) != (n : Int)) = false := by simp
  go_enter Try.func23, Try.ntmps23
  go_wp2_with fail
  go_loopw [5] (fun i wr => ∃ k : Nat, i = .int .i64 k ∧ k ≤ n ∧ Hid (∀ j, j < k → L j = L' j) ∧ Hid (Below w.heap.size w wr)) (fun i _ => n - (intOf i).toNat)
  case atStart => exact ⟨0, rfl, by omega, fun j hj => by omega, Below.refl _ _⟩
  case round =>
    obtain ⟨k, rfl, hk, HQ, HB⟩ := hrel
    by_cases hkn : k < n
    · have q0 : decide (k < n) = true := by simpa using hkn
      have q1 : decide ((k : Int) < (n : Int)) = true := by simpa using hkn
      rcases HR.out with h0 | ⟨g, o, rfl, hg, hc⟩
      · omega
      rcases HR'.out with h0 | ⟨g', o', rfl, hg', hc'⟩
      · omega
      have c0 := hc k hkn
      have d0 := hc' k hkn
      have a0 := (HB.out.cell (p := ⟨g, _, none⟩) hg).trans c0
      have b0 := (HB.out.cell (p := ⟨g', _, none⟩) hg').trans d0
      have HS : Hid ((L k).t = (L k).t → (L k).t = (L' k).t → ∀ j, j < k + 1 → L j = L' j) := fun _ e0 j hj => by
        by_cases q : j = k
        · subst q
          cases hl : L j
          cases hl' : L' j
          simp_all
        · exact HQ.out j (by omega)
      have HD0 : Hid (¬ (L k).t = (L' k).t → sameL n n L L' = false) := fun e => sameL_at hkn (fun q => e (by rw [q]))
      clear hc hc' HQ c0 d0
      generalize (L k).t = x0 at *
      generalize (L' k).t = z0 at *
      have HBd : Hid (Below w.heap.size w wr.drew) := HB.out.drew
      by_cases e0 : x0 = z0
      rotate_left
      · have t0 : (x0.toList == z0.toList) = false := ne_str' e0
        have HF : Hid (sameL n n L L' = false) := HD0.out e0
        clear e0 HS HD0
        go_upto_region 6 with fail
        go_region_held3 (fun W => W.cell? ⟨g, o + k, none⟩ = some (.string x0) ∧ W.cell? ⟨g', o' + k, none⟩ = some (.string z0)) (go_keep) (fail)
        go_wp2_with fail
        go_ret
        exact ⟨ret_bool HF.out.symm, HBd.out⟩
      subst e0
      have HS2 : Hid (∀ j, j < k + 1 → L j = L' j) := HS.out rfl rfl
      clear HS HD0
      go_upto_region 6 with fail
      go_region_held3 (fun W => W.cell? ⟨g, o + k, none⟩ = some (.string x0) ∧ W.cell? ⟨g', o' + k, none⟩ = some (.string x0)) (go_keep) (fail)
      go_wp2_with fail
      go_roundw
      case rel => exact ⟨k + 1, by go_num, by omega, HS2, HBd⟩
      case measure => simp [intOf]; omega
    · have q0 : decide (k < n) = false := by simpa using hkn
      have q1 : decide ((k : Int) < (n : Int)) = false := by simpa using hkn
      obtain rfl : k = n := by omega
      have HF : Hid (sameL k k L L' = true) := sameL_true HQ.out
      go_wp2_with fail
      go_ret
      exact ⟨ret_bool HF.out.symm, HB.out⟩
set_option maxRecDepth 100000 in
set_option maxHeartbeats 8000000 in
theorem impl_sameT (a a' : Option Addr) (n m cap cap' : Nat) (L L' : Nat → Tx) (hn : n ≤ 1048576) (hm : m ≤ 1048576) (w : World) (h : TextsAt w a n L) (h' : TextsAt w a' m L') :
    Calls Try.prog 28 #[.slice a n cap, .slice a' m cap'] w fun e w' => e = .returned (.bool (sameL n m L L')) ∧ Below w.heap.size w w' := by
  have HR : Hid (TextsAt w a n L) := h
  have HR' : Hid (TextsAt w a' m L') := h'
  clear h h'
  have hxx : ∀ x : List UInt8, (x == x) = true := fun x => by simp
  have hii : ∀ x : Int, (x == x) = true := fun x => by simp
  by_cases hnm : n = m
  rotate_left
  · have q0 : ((n : Int) != (m : Int)) = true := by rw [bne_iff_ne]; omega
    have HF : Hid (sameL n m L L' = false) := sameL_len hnm
    clear hnm
    go_enter Try.func28, Try.ntmps28
    go_wp2_with fail
    go_ret
    exact ⟨ret_bool HF.out.symm, Below.refl _ _⟩
  subst hnm
  have hnn : ((n : Int) != (n : Int)) = false := by simp
  go_enter Try.func28, Try.ntmps28
  go_wp2_with fail
  go_loopw [13] (fun i wr => ∃ k : Nat, i = .int .i64 k ∧ k ≤ n ∧ Hid (∀ j, j < k → L j = L' j) ∧ Hid (Below w.heap.size w wr)) (fun i _ => n - (intOf i).toNat)
  case atStart => exact ⟨0, rfl, by omega, fun j hj => by omega, Below.refl _ _⟩
  case round =>
    obtain ⟨k, rfl, hk, HQ, HB⟩ := hrel
    by_cases hkn : k < n
    · have q0 : decide (k < n) = true := by simpa using hkn
      have q1 : decide ((k : Int) < (n : Int)) = true := by simpa using hkn
      rcases HR.out with h0 | ⟨g, o, rfl, hg, hc⟩
      · omega
      rcases HR'.out with h0 | ⟨g', o', rfl, hg', hc'⟩
      · omega
      have c0 := hc k hkn
      have d0 := hc' k hkn
      have a0 := (HB.out.cell (p := ⟨g, _, none⟩) hg).trans c0
      have b0 := (HB.out.cell (p := ⟨g', _, none⟩) hg').trans d0
      have HS : Hid ((L k).t = (L k).t → (L k).t = (L' k).t → ∀ j, j < k + 1 → L j = L' j) := fun _ e0 j hj => by
        by_cases q : j = k
        · subst q
          cases hl : L j
          cases hl' : L' j
          simp_all
        · exact HQ.out j (by omega)
      have HD0 : Hid (¬ (L k).t = (L' k).t → sameL n n L L' = false) := fun e => sameL_at hkn (fun q => e (by rw [q]))
      clear hc hc' HQ c0 d0
      generalize (L k).t = x0 at *
      generalize (L' k).t = z0 at *
      have HBd : Hid (Below w.heap.size w wr.drew) := HB.out.drew
      by_cases e0 : x0 = z0
      rotate_left
      · have t0 : (x0.toList == z0.toList) = false := ne_str' e0
        have HF : Hid (sameL n n L L' = false) := HD0.out e0
        clear e0 HS HD0
        go_upto_region 6 with fail
        go_region_held3 (fun W => W.cell? ⟨g, o + k, none⟩ = some (.string x0) ∧ W.cell? ⟨g', o' + k, none⟩ = some (.string z0)) (go_keep) (fail)
        go_wp2_with fail
        go_ret
        exact ⟨ret_bool HF.out.symm, HBd.out⟩
      subst e0
      have HS2 : Hid (∀ j, j < k + 1 → L j = L' j) := HS.out rfl rfl
      clear HS HD0
      go_upto_region 6 with fail
      go_region_held3 (fun W => W.cell? ⟨g, o + k, none⟩ = some (.string x0) ∧ W.cell? ⟨g', o' + k, none⟩ = some (.string x0)) (go_keep) (fail)
      go_wp2_with fail
      go_roundw
      case rel => exact ⟨k + 1, by go_num, by omega, HS2, HBd⟩
      case measure => simp [intOf]; omega
    · have q0 : decide (k < n) = false := by simpa using hkn
      have q1 : decide ((k : Int) < (n : Int)) = false := by simpa using hkn
      obtain rfl : k = n := by omega
      have HF : Hid (sameL k k L L' = true) := sameL_true HQ.out
      go_wp2_with fail
      go_ret
      exact ⟨ret_bool HF.out.symm, HB.out⟩
set_option maxRecDepth 100000 in
set_option maxHeartbeats 8000000 in
theorem spec_sameN (a a' : Option Addr) (n m cap cap' : Nat) (L L' : Nat → Nd) (hn : n ≤ 1048576) (hm : m ≤ 1048576) (w : World) (h : NodesAt w a n L) (h' : NodesAt w a' m L') :
    Calls Try.prog 24 #[.slice a n cap, .slice a' m cap'] w fun e w' => e = .returned (.bool (sameL n m L L')) ∧ Below w.heap.size w w' := by
  have HR : Hid (NodesAt w a n L) := h
  have HR' : Hid (NodesAt w a' m L') := h'
  clear h h'
  have hxx : ∀ x : List UInt8, (x == x) = true := fun x => by simp
  have hii : ∀ x : Int, (x == x) = true := fun x => by simp
  by_cases hnm : n = m
  rotate_left
  · have q0 : ((n : Int) != (m : Int)) = true := by rw [bne_iff_ne]; omega
    have HF : Hid (sameL n m L L' = false) := sameL_len hnm
    clear hnm
    go_enter Try.func24, Try.ntmps24
    go_wp2_with fail
    go_ret
    exact ⟨ret_bool HF.out.symm, Below.refl _ _⟩
  subst hnm
  have hnn : ((n : Int) != (n : Int)) = false := by simp
  go_enter Try.func24, Try.ntmps24
  go_wp2_with fail
  go_loopw [5] (fun i wr => ∃ k : Nat, i = .int .i64 k ∧ k ≤ n ∧ Hid (∀ j, j < k → L j = L' j) ∧ Hid (Below w.heap.size w wr)) (fun i _ => n - (intOf i).toNat)
  case atStart => exact ⟨0, rfl, by omega, fun j hj => by omega, Below.refl _ _⟩
  case round =>
    obtain ⟨k, rfl, hk, HQ, HB⟩ := hrel
    by_cases hkn : k < n
    · have q0 : decide (k < n) = true := by simpa using hkn
      have q1 : decide ((k : Int) < (n : Int)) = true := by simpa using hkn
      rcases HR.out with h0 | ⟨g, o, rfl, hg, hc⟩
      · omega
      rcases HR'.out with h0 | ⟨g', o', rfl, hg', hc'⟩
      · omega
      obtain ⟨c0, c1, c2, c3, c4⟩ := hc k hkn
      obtain ⟨d0, d1, d2, d3, d4⟩ := hc' k hkn
      have a0 := (HB.out.cell (p := ⟨g, _, none⟩) hg).trans c0
      have a1 := (HB.out.cell (p := ⟨g, _, none⟩) hg).trans c1
      have a2 := (HB.out.cell (p := ⟨g, _, none⟩) hg).trans c2
      have a3 := (HB.out.cell (p := ⟨g, _, none⟩) hg).trans c3
      have a4 := (HB.out.cell (p := ⟨g, _, none⟩) hg).trans c4
      have b0 := (HB.out.cell (p := ⟨g', _, none⟩) hg').trans d0
      have b1 := (HB.out.cell (p := ⟨g', _, none⟩) hg').trans d1
      have b2 := (HB.out.cell (p := ⟨g', _, none⟩) hg').trans d2
      have b3 := (HB.out.cell (p := ⟨g', _, none⟩) hg').trans d3
      have b4 := (HB.out.cell (p := ⟨g', _, none⟩) hg').trans d4
      have HS : Hid ((L k).k = (L k).k → (L k).k = (L' k).k → (L k).t = (L' k).t → (L k).m = (L' k).m → (L k).n = (L' k).n → (L k).y = (L' k).y → ∀ j, j < k + 1 → L j = L' j) := fun _ e0 e1 e2 e3 e4 j hj => by
        by_cases q : j = k
        · subst q
          cases hl : L j
          cases hl' : L' j
          simp_all
        · exact HQ.out j (by omega)
      have HD0 : Hid (¬ (L k).k = (L' k).k → sameL n n L L' = false) := fun e => sameL_at hkn (fun q => e (by rw [q]))
      have HD1 : Hid (¬ (L k).t = (L' k).t → sameL n n L L' = false) := fun e => sameL_at hkn (fun q => e (by rw [q]))
      have HD2 : Hid (¬ (L k).m = (L' k).m → sameL n n L L' = false) := fun e => sameL_at hkn (fun q => e (by rw [q]))
      have HD3 : Hid (¬ (L k).n = (L' k).n → sameL n n L L' = false) := fun e => sameL_at hkn (fun q => e (by rw [q]))
      have HD4 : Hid (¬ (L k).y = (L' k).y → sameL n n L L' = false) := fun e => sameL_at hkn (fun q => e (by rw [q]))
      clear hc hc' HQ c0 d0 c1 d1 c2 d2 c3 d3 c4 d4
      generalize (L k).k = x0 at *
      generalize (L' k).k = z0 at *
      generalize (L k).t = x1 at *
      generalize (L' k).t = z1 at *
      generalize (L k).m = x2 at *
      generalize (L' k).m = z2 at *
      generalize (L k).n = x3 at *
      generalize (L' k).n = z3 at *
      generalize (L k).y = x4 at *
      generalize (L' k).y = z4 at *
      have HBd : Hid (Below w.heap.size w wr.drew) := HB.out.drew
      by_cases e0 : x0 = z0
      rotate_left
      · have t0 : (x0 == z0) = false := beq_eq_false_iff_ne.2 e0
        have HF : Hid (sameL n n L L' = false) := HD0.out e0
        clear e0 HS HD0 HD1 HD2 HD3 HD4
        go_upto_region 6 with fail
        go_region_held3 (fun W => W.cell? ⟨g, o + k * 5, none⟩ = some (.int .i64 x0) ∧ W.cell? ⟨g, o + k * 5 + 1, none⟩ = some (.string x1) ∧ W.cell? ⟨g, o + k * 5 + 2, none⟩ = some (.string x2) ∧ W.cell? ⟨g, o + k * 5 + 3, none⟩ = some (.int .i64 x3) ∧ W.cell? ⟨g, o + k * 5 + 4, none⟩ = some (.int .i64 x4) ∧ W.cell? ⟨g', o' + k * 5, none⟩ = some (.int .i64 z0) ∧ W.cell? ⟨g', o' + k * 5 + 1, none⟩ = some (.string z1) ∧ W.cell? ⟨g', o' + k * 5 + 2, none⟩ = some (.string z2) ∧ W.cell? ⟨g', o' + k * 5 + 3, none⟩ = some (.int .i64 z3) ∧ W.cell? ⟨g', o' + k * 5 + 4, none⟩ = some (.int .i64 z4)) (go_keep) (fail)
        go_wp2_with fail
        go_ret
        exact ⟨ret_bool HF.out.symm, HBd.out⟩
      by_cases e1 : x1 = z1
      rotate_left
      · have t1 : (x1.toList == z1.toList) = false := ne_str' e1
        have HF : Hid (sameL n n L L' = false) := HD1.out e1
        clear e1 HS HD0 HD1 HD2 HD3 HD4
        go_upto_region 6 with fail
        go_region_held3 (fun W => W.cell? ⟨g, o + k * 5, none⟩ = some (.int .i64 x0) ∧ W.cell? ⟨g, o + k * 5 + 1, none⟩ = some (.string x1) ∧ W.cell? ⟨g, o + k * 5 + 2, none⟩ = some (.string x2) ∧ W.cell? ⟨g, o + k * 5 + 3, none⟩ = some (.int .i64 x3) ∧ W.cell? ⟨g, o + k * 5 + 4, none⟩ = some (.int .i64 x4) ∧ W.cell? ⟨g', o' + k * 5, none⟩ = some (.int .i64 z0) ∧ W.cell? ⟨g', o' + k * 5 + 1, none⟩ = some (.string z1) ∧ W.cell? ⟨g', o' + k * 5 + 2, none⟩ = some (.string z2) ∧ W.cell? ⟨g', o' + k * 5 + 3, none⟩ = some (.int .i64 z3) ∧ W.cell? ⟨g', o' + k * 5 + 4, none⟩ = some (.int .i64 z4)) (go_keep) (fail)
        go_wp2_with fail
        go_ret
        exact ⟨ret_bool HF.out.symm, HBd.out⟩
      by_cases e2 : x2 = z2
      rotate_left
      · have t2 : (x2.toList == z2.toList) = false := ne_str' e2
        have HF : Hid (sameL n n L L' = false) := HD2.out e2
        clear e2 HS HD0 HD1 HD2 HD3 HD4
        go_upto_region 6 with fail
        go_region_held3 (fun W => W.cell? ⟨g, o + k * 5, none⟩ = some (.int .i64 x0) ∧ W.cell? ⟨g, o + k * 5 + 1, none⟩ = some (.string x1) ∧ W.cell? ⟨g, o + k * 5 + 2, none⟩ = some (.string x2) ∧ W.cell? ⟨g, o + k * 5 + 3, none⟩ = some (.int .i64 x3) ∧ W.cell? ⟨g, o + k * 5 + 4, none⟩ = some (.int .i64 x4) ∧ W.cell? ⟨g', o' + k * 5, none⟩ = some (.int .i64 z0) ∧ W.cell? ⟨g', o' + k * 5 + 1, none⟩ = some (.string z1) ∧ W.cell? ⟨g', o' + k * 5 + 2, none⟩ = some (.string z2) ∧ W.cell? ⟨g', o' + k * 5 + 3, none⟩ = some (.int .i64 z3) ∧ W.cell? ⟨g', o' + k * 5 + 4, none⟩ = some (.int .i64 z4)) (go_keep) (fail)
        go_wp2_with fail
        go_ret
        exact ⟨ret_bool HF.out.symm, HBd.out⟩
      by_cases e3 : x3 = z3
      rotate_left
      · have t3 : (x3 == z3) = false := beq_eq_false_iff_ne.2 e3
        have HF : Hid (sameL n n L L' = false) := HD3.out e3
        clear e3 HS HD0 HD1 HD2 HD3 HD4
        go_upto_region 6 with fail
        go_region_held3 (fun W => W.cell? ⟨g, o + k * 5, none⟩ = some (.int .i64 x0) ∧ W.cell? ⟨g, o + k * 5 + 1, none⟩ = some (.string x1) ∧ W.cell? ⟨g, o + k * 5 + 2, none⟩ = some (.string x2) ∧ W.cell? ⟨g, o + k * 5 + 3, none⟩ = some (.int .i64 x3) ∧ W.cell? ⟨g, o + k * 5 + 4, none⟩ = some (.int .i64 x4) ∧ W.cell? ⟨g', o' + k * 5, none⟩ = some (.int .i64 z0) ∧ W.cell? ⟨g', o' + k * 5 + 1, none⟩ = some (.string z1) ∧ W.cell? ⟨g', o' + k * 5 + 2, none⟩ = some (.string z2) ∧ W.cell? ⟨g', o' + k * 5 + 3, none⟩ = some (.int .i64 z3) ∧ W.cell? ⟨g', o' + k * 5 + 4, none⟩ = some (.int .i64 z4)) (go_keep) (fail)
        go_wp2_with fail
        go_ret
        exact ⟨ret_bool HF.out.symm, HBd.out⟩
      by_cases e4 : x4 = z4
      rotate_left
      · have t4 : (x4 == z4) = false := beq_eq_false_iff_ne.2 e4
        have HF : Hid (sameL n n L L' = false) := HD4.out e4
        clear e4 HS HD0 HD1 HD2 HD3 HD4
        go_upto_region 6 with fail
        go_region_held3 (fun W => W.cell? ⟨g, o + k * 5, none⟩ = some (.int .i64 x0) ∧ W.cell? ⟨g, o + k * 5 + 1, none⟩ = some (.string x1) ∧ W.cell? ⟨g, o + k * 5 + 2, none⟩ = some (.string x2) ∧ W.cell? ⟨g, o + k * 5 + 3, none⟩ = some (.int .i64 x3) ∧ W.cell? ⟨g, o + k * 5 + 4, none⟩ = some (.int .i64 x4) ∧ W.cell? ⟨g', o' + k * 5, none⟩ = some (.int .i64 z0) ∧ W.cell? ⟨g', o' + k * 5 + 1, none⟩ = some (.string z1) ∧ W.cell? ⟨g', o' + k * 5 + 2, none⟩ = some (.string z2) ∧ W.cell? ⟨g', o' + k * 5 + 3, none⟩ = some (.int .i64 z3) ∧ W.cell? ⟨g', o' + k * 5 + 4, none⟩ = some (.int .i64 z4)) (go_keep) (fail)
        go_wp2_with fail
        go_ret
        exact ⟨ret_bool HF.out.symm, HBd.out⟩
      subst e0
      subst e1
      subst e2
      subst e3
      subst e4
      have HS2 : Hid (∀ j, j < k + 1 → L j = L' j) := HS.out rfl rfl rfl rfl rfl rfl
      clear HS HD0 HD1 HD2 HD3 HD4
      go_upto_region 6 with fail
      go_region_held3 (fun W => W.cell? ⟨g, o + k * 5, none⟩ = some (.int .i64 x0) ∧ W.cell? ⟨g, o + k * 5 + 1, none⟩ = some (.string x1) ∧ W.cell? ⟨g, o + k * 5 + 2, none⟩ = some (.string x2) ∧ W.cell? ⟨g, o + k * 5 + 3, none⟩ = some (.int .i64 x3) ∧ W.cell? ⟨g, o + k * 5 + 4, none⟩ = some (.int .i64 x4) ∧ W.cell? ⟨g', o' + k * 5, none⟩ = some (.int .i64 x0) ∧ W.cell? ⟨g', o' + k * 5 + 1, none⟩ = some (.string x1) ∧ W.cell? ⟨g', o' + k * 5 + 2, none⟩ = some (.string x2) ∧ W.cell? ⟨g', o' + k * 5 + 3, none⟩ = some (.int .i64 x3) ∧ W.cell? ⟨g', o' + k * 5 + 4, none⟩ = some (.int .i64 x4)) (go_keep) (fail)
      go_wp2_with fail
      go_roundw
      case rel => exact ⟨k + 1, by go_num, by omega, HS2, HBd⟩
      case measure => simp [intOf]; omega
    · have q0 : decide (k < n) = false := by simpa using hkn
      have q1 : decide ((k : Int) < (n : Int)) = false := by simpa using hkn
      obtain rfl : k = n := by omega
      have HF : Hid (sameL k k L L' = true) := sameL_true HQ.out
      go_wp2_with fail
      go_ret
      exact ⟨ret_bool HF.out.symm, HB.out⟩
set_option maxRecDepth 100000 in
set_option maxHeartbeats 8000000 in
theorem impl_sameN (a a' : Option Addr) (n m cap cap' : Nat) (L L' : Nat → Nd) (hn : n ≤ 1048576) (hm : m ≤ 1048576) (w : World) (h : NodesAt w a n L) (h' : NodesAt w a' m L') :
    Calls Try.prog 30 #[.slice a n cap, .slice a' m cap'] w fun e w' => e = .returned (.bool (sameL n m L L')) ∧ Below w.heap.size w w' := by
  have HR : Hid (NodesAt w a n L) := h
  have HR' : Hid (NodesAt w a' m L') := h'
  clear h h'
  have hxx : ∀ x : List UInt8, (x == x) = true := fun x => by simp
  have hii : ∀ x : Int, (x == x) = true := fun x => by simp
  by_cases hnm : n = m
  rotate_left
  · have q0 : ((n : Int) != (m : Int)) = true := by rw [bne_iff_ne]; omega
    have HF : Hid (sameL n m L L' = false) := sameL_len hnm
    clear hnm
    go_enter Try.func30, Try.ntmps30
    go_wp2_with fail
    go_ret
    exact ⟨ret_bool HF.out.symm, Below.refl _ _⟩
  subst hnm
  have hnn : ((n : Int) != (n : Int)) = false := by simp
  go_enter Try.func30, Try.ntmps30
  go_wp2_with fail
  go_loopw [13] (fun i wr => ∃ k : Nat, i = .int .i64 k ∧ k ≤ n ∧ Hid (∀ j, j < k → L j = L' j) ∧ Hid (Below w.heap.size w wr)) (fun i _ => n - (intOf i).toNat)
  case atStart => exact ⟨0, rfl, by omega, fun j hj => by omega, Below.refl _ _⟩
  case round =>
    obtain ⟨k, rfl, hk, HQ, HB⟩ := hrel
    by_cases hkn : k < n
    · have q0 : decide (k < n) = true := by simpa using hkn
      have q1 : decide ((k : Int) < (n : Int)) = true := by simpa using hkn
      rcases HR.out with h0 | ⟨g, o, rfl, hg, hc⟩
      · omega
      rcases HR'.out with h0 | ⟨g', o', rfl, hg', hc'⟩
      · omega
      obtain ⟨c0, c1, c2, c3, c4⟩ := hc k hkn
      obtain ⟨d0, d1, d2, d3, d4⟩ := hc' k hkn
      have a0 := (HB.out.cell (p := ⟨g, _, none⟩) hg).trans c0
      have a1 := (HB.out.cell (p := ⟨g, _, none⟩) hg).trans c1
      have a2 := (HB.out.cell (p := ⟨g, _, none⟩) hg).trans c2
      have a3 := (HB.out.cell (p := ⟨g, _, none⟩) hg).trans c3
      have a4 := (HB.out.cell (p := ⟨g, _, none⟩) hg).trans c4
      have b0 := (HB.out.cell (p := ⟨g', _, none⟩) hg').trans d0
      have b1 := (HB.out.cell (p := ⟨g', _, none⟩) hg').trans d1
      have b2 := (HB.out.cell (p := ⟨g', _, none⟩) hg').trans d2
      have b3 := (HB.out.cell (p := ⟨g', _, none⟩) hg').trans d3
      have b4 := (HB.out.cell (p := ⟨g', _, none⟩) hg').trans d4
      have HS : Hid ((L k).k = (L k).k → (L k).k = (L' k).k → (L k).t = (L' k).t → (L k).m = (L' k).m → (L k).n = (L' k).n → (L k).y = (L' k).y → ∀ j, j < k + 1 → L j = L' j) := fun _ e0 e1 e2 e3 e4 j hj => by
        by_cases q : j = k
        · subst q
          cases hl : L j
          cases hl' : L' j
          simp_all
        · exact HQ.out j (by omega)
      have HD0 : Hid (¬ (L k).k = (L' k).k → sameL n n L L' = false) := fun e => sameL_at hkn (fun q => e (by rw [q]))
      have HD1 : Hid (¬ (L k).t = (L' k).t → sameL n n L L' = false) := fun e => sameL_at hkn (fun q => e (by rw [q]))
      have HD2 : Hid (¬ (L k).m = (L' k).m → sameL n n L L' = false) := fun e => sameL_at hkn (fun q => e (by rw [q]))
      have HD3 : Hid (¬ (L k).n = (L' k).n → sameL n n L L' = false) := fun e => sameL_at hkn (fun q => e (by rw [q]))
      have HD4 : Hid (¬ (L k).y = (L' k).y → sameL n n L L' = false) := fun e => sameL_at hkn (fun q => e (by rw [q]))
      clear hc hc' HQ c0 d0 c1 d1 c2 d2 c3 d3 c4 d4
      generalize (L k).k = x0 at *
      generalize (L' k).k = z0 at *
      generalize (L k).t = x1 at *
      generalize (L' k).t = z1 at *
      generalize (L k).m = x2 at *
      generalize (L' k).m = z2 at *
      generalize (L k).n = x3 at *
      generalize (L' k).n = z3 at *
      generalize (L k).y = x4 at *
      generalize (L' k).y = z4 at *
      have HBd : Hid (Below w.heap.size w wr.drew) := HB.out.drew
      by_cases e0 : x0 = z0
      rotate_left
      · have t0 : (x0 == z0) = false := beq_eq_false_iff_ne.2 e0
        have HF : Hid (sameL n n L L' = false) := HD0.out e0
        clear e0 HS HD0 HD1 HD2 HD3 HD4
        go_upto_region 6 with fail
        go_region_held3 (fun W => W.cell? ⟨g, o + k * 5, none⟩ = some (.int .i64 x0) ∧ W.cell? ⟨g, o + k * 5 + 1, none⟩ = some (.string x1) ∧ W.cell? ⟨g, o + k * 5 + 2, none⟩ = some (.string x2) ∧ W.cell? ⟨g, o + k * 5 + 3, none⟩ = some (.int .i64 x3) ∧ W.cell? ⟨g, o + k * 5 + 4, none⟩ = some (.int .i64 x4) ∧ W.cell? ⟨g', o' + k * 5, none⟩ = some (.int .i64 z0) ∧ W.cell? ⟨g', o' + k * 5 + 1, none⟩ = some (.string z1) ∧ W.cell? ⟨g', o' + k * 5 + 2, none⟩ = some (.string z2) ∧ W.cell? ⟨g', o' + k * 5 + 3, none⟩ = some (.int .i64 z3) ∧ W.cell? ⟨g', o' + k * 5 + 4, none⟩ = some (.int .i64 z4)) (go_keep) (fail)
        go_wp2_with fail
        go_ret
        exact ⟨ret_bool HF.out.symm, HBd.out⟩
      by_cases e1 : x1 = z1
      rotate_left
      · have t1 : (x1.toList == z1.toList) = false := ne_str' e1
        have HF : Hid (sameL n n L L' = false) := HD1.out e1
        clear e1 HS HD0 HD1 HD2 HD3 HD4
        go_upto_region 6 with fail
        go_region_held3 (fun W => W.cell? ⟨g, o + k * 5, none⟩ = some (.int .i64 x0) ∧ W.cell? ⟨g, o + k * 5 + 1, none⟩ = some (.string x1) ∧ W.cell? ⟨g, o + k * 5 + 2, none⟩ = some (.string x2) ∧ W.cell? ⟨g, o + k * 5 + 3, none⟩ = some (.int .i64 x3) ∧ W.cell? ⟨g, o + k * 5 + 4, none⟩ = some (.int .i64 x4) ∧ W.cell? ⟨g', o' + k * 5, none⟩ = some (.int .i64 z0) ∧ W.cell? ⟨g', o' + k * 5 + 1, none⟩ = some (.string z1) ∧ W.cell? ⟨g', o' + k * 5 + 2, none⟩ = some (.string z2) ∧ W.cell? ⟨g', o' + k * 5 + 3, none⟩ = some (.int .i64 z3) ∧ W.cell? ⟨g', o' + k * 5 + 4, none⟩ = some (.int .i64 z4)) (go_keep) (fail)
        go_wp2_with fail
        go_ret
        exact ⟨ret_bool HF.out.symm, HBd.out⟩
      by_cases e2 : x2 = z2
      rotate_left
      · have t2 : (x2.toList == z2.toList) = false := ne_str' e2
        have HF : Hid (sameL n n L L' = false) := HD2.out e2
        clear e2 HS HD0 HD1 HD2 HD3 HD4
        go_upto_region 6 with fail
        go_region_held3 (fun W => W.cell? ⟨g, o + k * 5, none⟩ = some (.int .i64 x0) ∧ W.cell? ⟨g, o + k * 5 + 1, none⟩ = some (.string x1) ∧ W.cell? ⟨g, o + k * 5 + 2, none⟩ = some (.string x2) ∧ W.cell? ⟨g, o + k * 5 + 3, none⟩ = some (.int .i64 x3) ∧ W.cell? ⟨g, o + k * 5 + 4, none⟩ = some (.int .i64 x4) ∧ W.cell? ⟨g', o' + k * 5, none⟩ = some (.int .i64 z0) ∧ W.cell? ⟨g', o' + k * 5 + 1, none⟩ = some (.string z1) ∧ W.cell? ⟨g', o' + k * 5 + 2, none⟩ = some (.string z2) ∧ W.cell? ⟨g', o' + k * 5 + 3, none⟩ = some (.int .i64 z3) ∧ W.cell? ⟨g', o' + k * 5 + 4, none⟩ = some (.int .i64 z4)) (go_keep) (fail)
        go_wp2_with fail
        go_ret
        exact ⟨ret_bool HF.out.symm, HBd.out⟩
      by_cases e3 : x3 = z3
      rotate_left
      · have t3 : (x3 == z3) = false := beq_eq_false_iff_ne.2 e3
        have HF : Hid (sameL n n L L' = false) := HD3.out e3
        clear e3 HS HD0 HD1 HD2 HD3 HD4
        go_upto_region 6 with fail
        go_region_held3 (fun W => W.cell? ⟨g, o + k * 5, none⟩ = some (.int .i64 x0) ∧ W.cell? ⟨g, o + k * 5 + 1, none⟩ = some (.string x1) ∧ W.cell? ⟨g, o + k * 5 + 2, none⟩ = some (.string x2) ∧ W.cell? ⟨g, o + k * 5 + 3, none⟩ = some (.int .i64 x3) ∧ W.cell? ⟨g, o + k * 5 + 4, none⟩ = some (.int .i64 x4) ∧ W.cell? ⟨g', o' + k * 5, none⟩ = some (.int .i64 z0) ∧ W.cell? ⟨g', o' + k * 5 + 1, none⟩ = some (.string z1) ∧ W.cell? ⟨g', o' + k * 5 + 2, none⟩ = some (.string z2) ∧ W.cell? ⟨g', o' + k * 5 + 3, none⟩ = some (.int .i64 z3) ∧ W.cell? ⟨g', o' + k * 5 + 4, none⟩ = some (.int .i64 z4)) (go_keep) (fail)
        go_wp2_with fail
        go_ret
        exact ⟨ret_bool HF.out.symm, HBd.out⟩
      by_cases e4 : x4 = z4
      rotate_left
      · have t4 : (x4 == z4) = false := beq_eq_false_iff_ne.2 e4
        have HF : Hid (sameL n n L L' = false) := HD4.out e4
        clear e4 HS HD0 HD1 HD2 HD3 HD4
        go_upto_region 6 with fail
        go_region_held3 (fun W => W.cell? ⟨g, o + k * 5, none⟩ = some (.int .i64 x0) ∧ W.cell? ⟨g, o + k * 5 + 1, none⟩ = some (.string x1) ∧ W.cell? ⟨g, o + k * 5 + 2, none⟩ = some (.string x2) ∧ W.cell? ⟨g, o + k * 5 + 3, none⟩ = some (.int .i64 x3) ∧ W.cell? ⟨g, o + k * 5 + 4, none⟩ = some (.int .i64 x4) ∧ W.cell? ⟨g', o' + k * 5, none⟩ = some (.int .i64 z0) ∧ W.cell? ⟨g', o' + k * 5 + 1, none⟩ = some (.string z1) ∧ W.cell? ⟨g', o' + k * 5 + 2, none⟩ = some (.string z2) ∧ W.cell? ⟨g', o' + k * 5 + 3, none⟩ = some (.int .i64 z3) ∧ W.cell? ⟨g', o' + k * 5 + 4, none⟩ = some (.int .i64 z4)) (go_keep) (fail)
        go_wp2_with fail
        go_ret
        exact ⟨ret_bool HF.out.symm, HBd.out⟩
      subst e0
      subst e1
      subst e2
      subst e3
      subst e4
      have HS2 : Hid (∀ j, j < k + 1 → L j = L' j) := HS.out rfl rfl rfl rfl rfl rfl
      clear HS HD0 HD1 HD2 HD3 HD4
      go_upto_region 6 with fail
      go_region_held3 (fun W => W.cell? ⟨g, o + k * 5, none⟩ = some (.int .i64 x0) ∧ W.cell? ⟨g, o + k * 5 + 1, none⟩ = some (.string x1) ∧ W.cell? ⟨g, o + k * 5 + 2, none⟩ = some (.string x2) ∧ W.cell? ⟨g, o + k * 5 + 3, none⟩ = some (.int .i64 x3) ∧ W.cell? ⟨g, o + k * 5 + 4, none⟩ = some (.int .i64 x4) ∧ W.cell? ⟨g', o' + k * 5, none⟩ = some (.int .i64 x0) ∧ W.cell? ⟨g', o' + k * 5 + 1, none⟩ = some (.string x1) ∧ W.cell? ⟨g', o' + k * 5 + 2, none⟩ = some (.string x2) ∧ W.cell? ⟨g', o' + k * 5 + 3, none⟩ = some (.int .i64 x3) ∧ W.cell? ⟨g', o' + k * 5 + 4, none⟩ = some (.int .i64 x4)) (go_keep) (fail)
      go_wp2_with fail
      go_roundw
      case rel => exact ⟨k + 1, by go_num, by omega, HS2, HBd⟩
      case measure => simp [intOf]; omega
    · have q0 : decide (k < n) = false := by simpa using hkn
      have q1 : decide ((k : Int) < (n : Int)) = false := by simpa using hkn
      obtain rfl : k = n := by omega
      have HF : Hid (sameL k k L L' = true) := sameL_true HQ.out
      go_wp2_with fail
      go_ret
      exact ⟨ret_bool HF.out.symm, HB.out⟩
set_option maxRecDepth 100000 in
set_option maxHeartbeats 8000000 in
theorem impl_sameP (a a' : Option Addr) (n m cap cap' : Nat) (L L' : Nat → Pm) (hn : n ≤ 1048576) (hm : m ≤ 1048576) (w : World) (h : ParamsAt w a n L) (h' : ParamsAt w a' m L') :
    Calls Try.prog 29 #[.slice a n cap, .slice a' m cap'] w fun e w' => e = .returned (.bool (sameL n m L L')) ∧ Below w.heap.size w w' := by
  have HR : Hid (ParamsAt w a n L) := h
  have HR' : Hid (ParamsAt w a' m L') := h'
  clear h h'
  have hxx : ∀ x : List UInt8, (x == x) = true := fun x => by simp
  have hii : ∀ x : Int, (x == x) = true := fun x => by simp
  by_cases hnm : n = m
  rotate_left
  · have q0 : ((n : Int) != (m : Int)) = true := by rw [bne_iff_ne]; omega
    have HF : Hid (sameL n m L L' = false) := sameL_len hnm
    clear hnm
    go_enter Try.func29, Try.ntmps29
    go_wp2_with fail
    go_ret
    exact ⟨ret_bool HF.out.symm, Below.refl _ _⟩
  subst hnm
  have hnn : ((n : Int) != (n : Int)) = false := by simp
  go_enter Try.func29, Try.ntmps29
  go_wp2_with fail
  go_loopw [13] (fun i wr => ∃ k : Nat, i = .int .i64 k ∧ k ≤ n ∧ Hid (∀ j, j < k → L j = L' j) ∧ Hid (Below w.heap.size w wr)) (fun i _ => n - (intOf i).toNat)
  case atStart => exact ⟨0, rfl, by omega, fun j hj => by omega, Below.refl _ _⟩
  case round =>
    obtain ⟨k, rfl, hk, HQ, HB⟩ := hrel
    by_cases hkn : k < n
    · have q0 : decide (k < n) = true := by simpa using hkn
      have q1 : decide ((k : Int) < (n : Int)) = true := by simpa using hkn
      rcases HR.out with h0 | ⟨g, o, rfl, hg, hc⟩
      · omega
      rcases HR'.out with h0 | ⟨g', o', rfl, hg', hc'⟩
      · omega
      obtain ⟨c0, c1, c2, c3⟩ := hc k hkn
      obtain ⟨d0, d1, d2, d3⟩ := hc' k hkn
      have a0 := (HB.out.cell (p := ⟨g, _, none⟩) hg).trans c0
      have a1 := (HB.out.cell (p := ⟨g, _, none⟩) hg).trans c1
      have a2 := (HB.out.cell (p := ⟨g, _, none⟩) hg).trans c2
      have a3 := (HB.out.cell (p := ⟨g, _, none⟩) hg).trans c3
      have b0 := (HB.out.cell (p := ⟨g', _, none⟩) hg').trans d0
      have b1 := (HB.out.cell (p := ⟨g', _, none⟩) hg').trans d1
      have b2 := (HB.out.cell (p := ⟨g', _, none⟩) hg').trans d2
      have b3 := (HB.out.cell (p := ⟨g', _, none⟩) hg').trans d3
      have HS : Hid ((L k).a = (L k).a → (L k).a = (L' k).a → (L k).t = (L' k).t → (L k).l = (L' k).l → (L k).h = (L' k).h → ∀ j, j < k + 1 → L j = L' j) := fun _ e0 e1 e2 e3 j hj => by
        by_cases q : j = k
        · subst q
          cases hl : L j
          cases hl' : L' j
          simp_all
        · exact HQ.out j (by omega)
      have HD0 : Hid (¬ (L k).a = (L' k).a → sameL n n L L' = false) := fun e => sameL_at hkn (fun q => e (by rw [q]))
      have HD1 : Hid (¬ (L k).t = (L' k).t → sameL n n L L' = false) := fun e => sameL_at hkn (fun q => e (by rw [q]))
      have HD2 : Hid (¬ (L k).l = (L' k).l → sameL n n L L' = false) := fun e => sameL_at hkn (fun q => e (by rw [q]))
      have HD3 : Hid (¬ (L k).h = (L' k).h → sameL n n L L' = false) := fun e => sameL_at hkn (fun q => e (by rw [q]))
      clear hc hc' HQ c0 d0 c1 d1 c2 d2 c3 d3
      generalize (L k).a = x0 at *
      generalize (L' k).a = z0 at *
      generalize (L k).t = x1 at *
      generalize (L' k).t = z1 at *
      generalize (L k).l = x2 at *
      generalize (L' k).l = z2 at *
      generalize (L k).h = x3 at *
      generalize (L' k).h = z3 at *
      have HBd : Hid (Below w.heap.size w wr.drew) := HB.out.drew
      by_cases e0 : x0 = z0
      rotate_left
      · have t0 : (x0.toList == z0.toList) = false := ne_str' e0
        have HF : Hid (sameL n n L L' = false) := HD0.out e0
        clear e0 HS HD0 HD1 HD2 HD3
        go_upto_region 6 with fail
        go_region_held3 (fun W => W.cell? ⟨g, o + k * 4, none⟩ = some (.string x0) ∧ W.cell? ⟨g, o + k * 4 + 1, none⟩ = some (.int .i64 x1) ∧ W.cell? ⟨g, o + k * 4 + 2, none⟩ = some (.int .i64 x2) ∧ W.cell? ⟨g, o + k * 4 + 3, none⟩ = some (.int .i64 x3) ∧ W.cell? ⟨g', o' + k * 4, none⟩ = some (.string z0) ∧ W.cell? ⟨g', o' + k * 4 + 1, none⟩ = some (.int .i64 z1) ∧ W.cell? ⟨g', o' + k * 4 + 2, none⟩ = some (.int .i64 z2) ∧ W.cell? ⟨g', o' + k * 4 + 3, none⟩ = some (.int .i64 z3)) (go_keep) (fail)
        go_wp2_with fail
        go_ret
        exact ⟨ret_bool HF.out.symm, HBd.out⟩
      by_cases e1 : x1 = z1
      rotate_left
      · have t1 : (x1 == z1) = false := beq_eq_false_iff_ne.2 e1
        have HF : Hid (sameL n n L L' = false) := HD1.out e1
        clear e1 HS HD0 HD1 HD2 HD3
        go_upto_region 6 with fail
        go_region_held3 (fun W => W.cell? ⟨g, o + k * 4, none⟩ = some (.string x0) ∧ W.cell? ⟨g, o + k * 4 + 1, none⟩ = some (.int .i64 x1) ∧ W.cell? ⟨g, o + k * 4 + 2, none⟩ = some (.int .i64 x2) ∧ W.cell? ⟨g, o + k * 4 + 3, none⟩ = some (.int .i64 x3) ∧ W.cell? ⟨g', o' + k * 4, none⟩ = some (.string z0) ∧ W.cell? ⟨g', o' + k * 4 + 1, none⟩ = some (.int .i64 z1) ∧ W.cell? ⟨g', o' + k * 4 + 2, none⟩ = some (.int .i64 z2) ∧ W.cell? ⟨g', o' + k * 4 + 3, none⟩ = some (.int .i64 z3)) (go_keep) (fail)
        go_wp2_with fail
        go_ret
        exact ⟨ret_bool HF.out.symm, HBd.out⟩
      by_cases e2 : x2 = z2
      rotate_left
      · have t2 : (x2 == z2) = false := beq_eq_false_iff_ne.2 e2
        have HF : Hid (sameL n n L L' = false) := HD2.out e2
        clear e2 HS HD0 HD1 HD2 HD3
        go_upto_region 6 with fail
        go_region_held3 (fun W => W.cell? ⟨g, o + k * 4, none⟩ = some (.string x0) ∧ W.cell? ⟨g, o + k * 4 + 1, none⟩ = some (.int .i64 x1) ∧ W.cell? ⟨g, o + k * 4 + 2, none⟩ = some (.int .i64 x2) ∧ W.cell? ⟨g, o + k * 4 + 3, none⟩ = some (.int .i64 x3) ∧ W.cell? ⟨g', o' + k * 4, none⟩ = some (.string z0) ∧ W.cell? ⟨g', o' + k * 4 + 1, none⟩ = some (.int .i64 z1) ∧ W.cell? ⟨g', o' + k * 4 + 2, none⟩ = some (.int .i64 z2) ∧ W.cell? ⟨g', o' + k * 4 + 3, none⟩ = some (.int .i64 z3)) (go_keep) (fail)
        go_wp2_with fail
        go_ret
        exact ⟨ret_bool HF.out.symm, HBd.out⟩
      by_cases e3 : x3 = z3
      rotate_left
      · have t3 : (x3 == z3) = false := beq_eq_false_iff_ne.2 e3
        have HF : Hid (sameL n n L L' = false) := HD3.out e3
        clear e3 HS HD0 HD1 HD2 HD3
        go_upto_region 6 with fail
        go_region_held3 (fun W => W.cell? ⟨g, o + k * 4, none⟩ = some (.string x0) ∧ W.cell? ⟨g, o + k * 4 + 1, none⟩ = some (.int .i64 x1) ∧ W.cell? ⟨g, o + k * 4 + 2, none⟩ = some (.int .i64 x2) ∧ W.cell? ⟨g, o + k * 4 + 3, none⟩ = some (.int .i64 x3) ∧ W.cell? ⟨g', o' + k * 4, none⟩ = some (.string z0) ∧ W.cell? ⟨g', o' + k * 4 + 1, none⟩ = some (.int .i64 z1) ∧ W.cell? ⟨g', o' + k * 4 + 2, none⟩ = some (.int .i64 z2) ∧ W.cell? ⟨g', o' + k * 4 + 3, none⟩ = some (.int .i64 z3)) (go_keep) (fail)
        go_wp2_with fail
        go_ret
        exact ⟨ret_bool HF.out.symm, HBd.out⟩
      subst e0
      subst e1
      subst e2
      subst e3
      have HS2 : Hid (∀ j, j < k + 1 → L j = L' j) := HS.out rfl rfl rfl rfl rfl
      clear HS HD0 HD1 HD2 HD3
      go_upto_region 6 with fail
      go_region_held3 (fun W => W.cell? ⟨g, o + k * 4, none⟩ = some (.string x0) ∧ W.cell? ⟨g, o + k * 4 + 1, none⟩ = some (.int .i64 x1) ∧ W.cell? ⟨g, o + k * 4 + 2, none⟩ = some (.int .i64 x2) ∧ W.cell? ⟨g, o + k * 4 + 3, none⟩ = some (.int .i64 x3) ∧ W.cell? ⟨g', o' + k * 4, none⟩ = some (.string x0) ∧ W.cell? ⟨g', o' + k * 4 + 1, none⟩ = some (.int .i64 x1) ∧ W.cell? ⟨g', o' + k * 4 + 2, none⟩ = some (.int .i64 x2) ∧ W.cell? ⟨g', o' + k * 4 + 3, none⟩ = some (.int .i64 x3)) (go_keep) (fail)
      go_wp2_with fail
      go_roundw
      case rel => exact ⟨k + 1, by go_num, by omega, HS2, HBd⟩
      case measure => simp [intOf]; omega
    · have q0 : decide (k < n) = false := by simpa using hkn
      have q1 : decide ((k : Int) < (n : Int)) = false := by simpa using hkn
      obtain rfl : k = n := by omega
      have HF : Hid (sameL k k L L' = true) := sameL_true HQ.out
      go_wp2_with fail
      go_ret
      exact ⟨ret_bool HF.out.symm, HB.out⟩
end Go.Proofs.Ythfjekpmaafhaaa
