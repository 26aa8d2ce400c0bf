/- What the model's calls do that look at one node. -/
import Derived.Test.YtnefcldjigndgaaDoorNrA
namespace Go.Proofs.YtnefcldjigndgaaDoor
open Go.RowKit Go.Maps
open Go.Proofs.YtnefcldjigndgaaDoor.Draw

def bndB (k n : Int) : Bool := decide (loB k ≤ n) && decide (n ≤ hiB k)
set_option maxRecDepth 100000 in
set_option maxHeartbeats 8000000 in
theorem spec_rateR (n : Int) (w : World) :
    Calls Tryd.prog 73 #[.int .i64 n] w fun e w' => e = .returned (.bool (decide (0 ≤ n) && decide (n ≤ 1000000))) ∧ w' = w := by
  by_cases h : 0 ≤ n
  · have q : decide (0 ≤ n) = true := by simpa using h
    go_enter Tryd.func73, Tryd.ntmps73
    go_wp2_with fail
    go_ret
    exact ⟨ret_bool (by first | rfl | (rw [q]; rfl) | simp [q]), rfl⟩
  · have q : decide (0 ≤ n) = false := by simpa using h
    go_enter Tryd.func73, Tryd.ntmps73
    go_wp2_with fail
    go_ret
    exact ⟨ret_bool (by first | rfl | (rw [q]; rfl) | simp [q]), rfl⟩
set_option maxRecDepth 100000 in
set_option maxHeartbeats 8000000 in
theorem spec_dayR (n : Int) (w : World) :
    Calls Tryd.prog 62 #[.int .i64 n] w fun e w' => e = .returned (.bool (decide (0 ≤ n) && decide (n ≤ 36524))) ∧ w' = w := by
  by_cases h : 0 ≤ n
  · have q : decide (0 ≤ n) = true := by simpa using h
    go_enter Tryd.func62, Tryd.ntmps62
    go_wp2_with fail
    go_ret
    exact ⟨ret_bool (by first | rfl | (rw [q]; rfl) | simp [q]), rfl⟩
  · have q : decide (0 ≤ n) = false := by simpa using h
    go_enter Tryd.func62, Tryd.ntmps62
    go_wp2_with fail
    go_ret
    exact ⟨ret_bool (by first | rfl | (rw [q]; rfl) | simp [q]), rfl⟩
set_option maxRecDepth 100000 in
set_option maxHeartbeats 8000000 in
theorem spec_monR (n : Int) (w : World) :
    Calls Tryd.prog 61 #[.int .i64 n] w fun e w' => e = .returned (.bool (decide ((-1000000000000) ≤ n) && decide (n ≤ 1000000000000))) ∧ w' = w := by
  by_cases h : (-1000000000000) ≤ n
  · have q : decide ((-1000000000000) ≤ n) = true := by simpa using h
    go_enter Tryd.func61, Tryd.ntmps61
    go_wp2_with fail
    go_ret
    exact ⟨ret_bool (by first | rfl | (rw [q]; rfl) | simp [q]), rfl⟩
  · have q : decide ((-1000000000000) ≤ n) = false := by simpa using h
    go_enter Tryd.func61, Tryd.ntmps61
    go_wp2_with fail
    go_ret
    exact ⟨ret_bool (by first | rfl | (rw [q]; rfl) | simp [q]), rfl⟩
set_option maxRecDepth 100000 in
set_option maxHeartbeats 8000000 in
theorem spec_bound (k n : Int) (w : World) :
    Calls Tryd.prog 54 #[.int .i64 k, .int .i64 n] w fun e w' => e = .returned (.bool (bndB k n)) ∧ w' = w := by
  by_cases h1 : k = 1
  · subst h1
    have HF : Hid (bndB 1 n = (decide ((-1000000000000) ≤ n) && decide (n ≤ 1000000000000))) := rfl
    go_enter Tryd.func54, Tryd.ntmps54
    go_wp2_with fail
    refine (spec_monR n _).mono ?_
    rintro e w1 ⟨rfl, rfl⟩
    go_wp2_with fail
    go_ret
    exact ⟨ret_bool HF.out.symm, rfl⟩
  have t1 : (k == 1) = false := beq_eq_false_iff_ne.2 h1
  by_cases h2 : k = 2
  · subst h2
    have HF : Hid (bndB 2 n = (decide ((-1000000000000) ≤ n) && decide (n ≤ 1000000000000))) := rfl
    go_enter Tryd.func54, Tryd.ntmps54
    go_wp2_with fail
    refine (spec_monR n _).mono ?_
    rintro e w1 ⟨rfl, rfl⟩
    go_wp2_with fail
    go_ret
    exact ⟨ret_bool HF.out.symm, rfl⟩
  have t2 : (k == 2) = false := beq_eq_false_iff_ne.2 h2
  by_cases h3 : k = 3
  · subst h3
    have HF : Hid (bndB 3 n = (decide (0 ≤ n) && decide (n ≤ 1000000))) := rfl
    go_enter Tryd.func54, Tryd.ntmps54
    go_wp2_with fail
    refine (spec_rateR n _).mono ?_
    rintro e w1 ⟨rfl, rfl⟩
    go_wp2_with fail
    go_ret
    exact ⟨ret_bool HF.out.symm, rfl⟩
  have t3 : (k == 3) = false := beq_eq_false_iff_ne.2 h3
  by_cases h4 : k = 4
  · subst h4
    have HF : Hid (bndB 4 n = (decide (0 ≤ n) && decide (n ≤ 36524))) := rfl
    go_enter Tryd.func54, Tryd.ntmps54
    go_wp2_with fail
    refine (spec_dayR n _).mono ?_
    rintro e w1 ⟨rfl, rfl⟩
    go_wp2_with fail
    go_ret
    exact ⟨ret_bool HF.out.symm, rfl⟩
  have t4 : (k == 4) = false := beq_eq_false_iff_ne.2 h4
  by_cases h5 : k = 5
  · subst h5
    by_cases c0 : n = 0
    · subst c0
      go_enter Tryd.func54, Tryd.ntmps54
      go_wp2_with fail
      go_ret
      exact ⟨ret_bool rfl, rfl⟩
    · have q0 : (n == 0) = false := beq_eq_false_iff_ne.2 c0
      have hF : bndB 5 n = (n == 1) := by
        show (decide (0 ≤ n) && decide (n ≤ 1)) = (n == 1)
        rw [Bool.eq_iff_iff]; simp; omega
      have HF : Hid (bndB 5 n = (n == 1)) := hF
      clear hF c0
      go_enter Tryd.func54, Tryd.ntmps54
      go_wp2_with fail
      go_ret
      exact ⟨ret_bool HF.out.symm, rfl⟩
  have t5 : (k == 5) = false := beq_eq_false_iff_ne.2 h5
  have hF : bndB k n = false := by
    unfold bndB loB hiB
    rw [if_neg h1, if_neg h2, if_neg h3, if_neg h4, if_neg h5, if_neg h1, if_neg h2, if_neg h3, if_neg h4, if_neg h5, Bool.eq_false_iff]
    simp; omega
  have HF : Hid (bndB k n = false) := hF
  clear hF h1 h2 h3 h4 h5
  go_enter Tryd.func54, Tryd.ntmps54
  go_wp2_with fail
  go_ret
  exact ⟨ret_bool HF.out.symm, rfl⟩
set_option maxRecDepth 100000 in
set_option maxHeartbeats 8000000 in
theorem spec_namR (s : ByteArray) (hs : s.size ≤ maxLen) (w : World) :
    Calls Tryd.prog 35 #[.string s] w fun e w' => e = .returned (.bool (namR s)) ∧ Below w.heap.size w w' := by
  have HN : Hid (Calls Tryd.prog 53 #[.string s] w fun e w' => e = .returned (.bool (nameB s)) ∧ w' = w) := spec_name s w hs
  have HH : Hid (∀ W, Calls Tryd.prog 7 #[.string s] W fun e w' => e = .returned (.bool (resB s)) ∧ Below W.heap.size W w') := fun W => spec_reserved s W
  have HE : Hid (namR s = (nameB s && !resB s)) := rfl
  generalize nameB s = N at *
  generalize resB s = R at *
  go_enter Tryd.func35, Tryd.ntmps35
  go_wp2_with fail
  refine HN.out.mono ?_
  rintro e w1 ⟨rfl, rfl⟩
  cases N
  · go_wp2_with fail
    go_ret
    exact ⟨by rw [HE.out]; rfl, Below.refl _ _⟩
  · go_wp2_with fail
    refine (HH.out _).mono ?_
    rintro e w2 ⟨rfl, hb⟩
    have HB2 : Hid (Below w1.heap.size w1 w2) := hb
    clear hb
    go_wp2_with fail
    go_ret
    exact ⟨by rw [HE.out]; cases R <;> rfl, HB2.out⟩
theorem str_lit (s : ByteArray) (l : List UInt8) : (s.toList == l) = decide ((⟨l.toArray⟩ : ByteArray) = s) := by
  rw [Bool.eq_iff_iff]
  simp only [beq_iff_eq, decide_eq_true_eq, ByteArray.toList_eq]
  constructor
  · intro h; rw [← h]
  · intro h; rw [← h]
def opwI (i : Nat) : Tx := ⟨⟨(([[43], [45], [42], [60], [60, 61], [61], [97, 110, 100], [111, 114]] : List (List UInt8)).getD i []).toArray⟩⟩
theorem opw_in (s : ByteArray) : inB opwI 8 s = opB s := by
  unfold inB opB
  have hr : List.range 8 = [0, 1, 2, 3, 4, 5, 6, 7] := rfl
  rw [hr]
  simp only [str_lit, List.any_cons, List.any_nil, Bool.or_false]
  rfl
theorem texts_opw (w : World) : TextsAt (w.alloc (.cells #[.string ⟨#[43]⟩, .string ⟨#[45]⟩, .string ⟨#[42]⟩, .string ⟨#[60]⟩, .string ⟨#[60, 61]⟩, .string ⟨#[61]⟩, .string ⟨#[97, 110, 100]⟩, .string ⟨#[111, 114]⟩] 9)) (some ⟨w.heap.size, 0, none⟩) 8 opwI :=
  Or.inr ⟨_, 0, rfl, by simp, fun i hi => by
    rw [Nat.zero_add, World.cell?_alloc_new]
    have e : (#[.string ⟨#[43]⟩, .string ⟨#[45]⟩, .string ⟨#[42]⟩, .string ⟨#[60]⟩, .string ⟨#[60, 61]⟩, .string ⟨#[61]⟩, .string ⟨#[97, 110, 100]⟩, .string ⟨#[111, 114]⟩] : Array Value) = (([[43], [45], [42], [60], [60, 61], [61], [97, 110, 100], [111, 114]] : List (List UInt8)).map fun l => Value.string ⟨l.toArray⟩).toArray := rfl
    have hl : i < ([[43], [45], [42], [60], [60, 61], [61], [97, 110, 100], [111, 114]] : List (List UInt8)).length := hi
    rw [e, List.getElem?_toArray, List.getElem?_map, List.getElem?_eq_getElem hl]
    simp [opwI, List.getD_eq_getElem?_getD, List.getElem?_eq_getElem hl]⟩
set_option maxRecDepth 100000 in
set_option maxHeartbeats 8000000 in
theorem spec_op (s : ByteArray) (w : World) :
    Calls Tryd.prog 68 #[.string s] w fun e w' => e = .returned (.bool (opB s)) ∧ Below w.heap.size w w' := by
  have HT : Hid (TextsAt (w.alloc (.cells #[.string ⟨#[43]⟩, .string ⟨#[45]⟩, .string ⟨#[42]⟩, .string ⟨#[60]⟩, .string ⟨#[60, 61]⟩, .string ⟨#[61]⟩, .string ⟨#[97, 110, 100]⟩, .string ⟨#[111, 114]⟩] 9)) (some ⟨w.heap.size, 0, none⟩) 8 opwI) := texts_opw w
  have HI : Hid (∀ b W, TextsAt W b 8 opwI → Calls Tryd.prog 24 #[.slice b 8 8, .string s] W fun e w' => e = .returned (.bool (opB s)) ∧ w' = W) := fun b W hT => by
    have := spec_in b 8 8 opwI s (by omega) W hT
    rw [opw_in] at this
    exact this
  generalize opB s = R at *
  go_enter Tryd.func68, Tryd.ntmps68
  go_wp2_with fail
  refine (HI.out _ _ HT.out).mono ?_
  rintro e w2 ⟨rfl, rfl⟩
  go_wp2_with fail
  go_ret
  exact ⟨rfl, (Below.refl _ _).alloc (Nat.le_refl _) _⟩
def calI (i : Nat) : Tx := ⟨⟨(([[105, 110, 116, 101, 114, 101, 115, 116], [105, 110, 115, 116, 97, 108, 109, 101, 110, 116], [108, 97, 116, 101, 114], [100, 97, 121, 115], [108, 101, 97, 115, 116], [109, 111, 115, 116], [115, 104, 97, 114, 101]] : List (List UInt8)).getD i []).toArray⟩⟩
theorem cal_in (s : ByteArray) : inB calI 7 s = callB s := by
  unfold inB callB
  have hr : List.range 7 = [0, 1, 2, 3, 4, 5, 6] := rfl
  rw [hr]
  simp only [str_lit, List.any_cons, List.any_nil, Bool.or_false]
  rfl
theorem texts_cal (w : World) : TextsAt (w.alloc (.cells #[.string ⟨#[105, 110, 116, 101, 114, 101, 115, 116]⟩, .string ⟨#[105, 110, 115, 116, 97, 108, 109, 101, 110, 116]⟩, .string ⟨#[108, 97, 116, 101, 114]⟩, .string ⟨#[100, 97, 121, 115]⟩, .string ⟨#[108, 101, 97, 115, 116]⟩, .string ⟨#[109, 111, 115, 116]⟩, .string ⟨#[115, 104, 97, 114, 101]⟩] 9)) (some ⟨w.heap.size, 0, none⟩) 7 calI :=
  Or.inr ⟨_, 0, rfl, by simp, fun i hi => by
    rw [Nat.zero_add, World.cell?_alloc_new]
    have e : (#[.string ⟨#[105, 110, 116, 101, 114, 101, 115, 116]⟩, .string ⟨#[105, 110, 115, 116, 97, 108, 109, 101, 110, 116]⟩, .string ⟨#[108, 97, 116, 101, 114]⟩, .string ⟨#[100, 97, 121, 115]⟩, .string ⟨#[108, 101, 97, 115, 116]⟩, .string ⟨#[109, 111, 115, 116]⟩, .string ⟨#[115, 104, 97, 114, 101]⟩] : Array Value) = (([[105, 110, 116, 101, 114, 101, 115, 116], [105, 110, 115, 116, 97, 108, 109, 101, 110, 116], [108, 97, 116, 101, 114], [100, 97, 121, 115], [108, 101, 97, 115, 116], [109, 111, 115, 116], [115, 104, 97, 114, 101]] : List (List UInt8)).map fun l => Value.string ⟨l.toArray⟩).toArray := rfl
    have hl : i < ([[105, 110, 116, 101, 114, 101, 115, 116], [105, 110, 115, 116, 97, 108, 109, 101, 110, 116], [108, 97, 116, 101, 114], [100, 97, 121, 115], [108, 101, 97, 115, 116], [109, 111, 115, 116], [115, 104, 97, 114, 101]] : List (List UInt8)).length := hi
    rw [e, List.getElem?_toArray, List.getElem?_map, List.getElem?_eq_getElem hl]
    simp [calI, List.getD_eq_getElem?_getD, List.getElem?_eq_getElem hl]⟩
set_option maxRecDepth 100000 in
set_option maxHeartbeats 8000000 in
theorem spec_call (s : ByteArray) (w : World) :
    Calls Tryd.prog 69 #[.string s] w fun e w' => e = .returned (.bool (callB s)) ∧ Below w.heap.size w w' := by
  have HT : Hid (TextsAt (w.alloc (.cells #[.string ⟨#[105, 110, 116, 101, 114, 101, 115, 116]⟩, .string ⟨#[105, 110, 115, 116, 97, 108, 109, 101, 110, 116]⟩, .string ⟨#[108, 97, 116, 101, 114]⟩, .string ⟨#[100, 97, 121, 115]⟩, .string ⟨#[108, 101, 97, 115, 116]⟩, .string ⟨#[109, 111, 115, 116]⟩, .string ⟨#[115, 104, 97, 114, 101]⟩] 9)) (some ⟨w.heap.size, 0, none⟩) 7 calI) := texts_cal w
  have HI : Hid (∀ b W, TextsAt W b 7 calI → Calls Tryd.prog 24 #[.slice b 7 7, .string s] W fun e w' => e = .returned (.bool (callB s)) ∧ w' = W) := fun b W hT => by
    have := spec_in b 7 7 calI s (by omega) W hT
    rw [cal_in] at this
    exact this
  generalize callB s = R at *
  go_enter Tryd.func69, Tryd.ntmps69
  go_wp2_with fail
  refine (HI.out _ _ HT.out).mono ?_
  rintro e w2 ⟨rfl, rfl⟩
  go_wp2_with fail
  go_ret
  exact ⟨rfl, (Below.refl _ _).alloc (Nat.le_refl _) _⟩
end Go.Proofs.YtnefcldjigndgaaDoor
