/- Records written (spec.RecBytes, impl.RecBytes): what each call does; the law. -/
import Derived.Test.YthjanamnkhggfaaDoorPut
import Derived.Test.YthjanamnkhggfaaDoorSum
import Derived.Test.YthjanamnkhggfaaDoorDkT
namespace Go.Proofs.YthjanamnkhggfaaDoor
open Go.RowKit
open Go.Proofs.YthjanamnkhggfaaDoor.Draw

def encB (n : Int) : ByteArray := ⟨(encN n).toArray⟩
theorem encB_size (n : Int) : (encB n).size ≤ 10 := by
  have := encF_len 10 (foldZ n).toNat
  simpa [encB, encN, ByteArray.size] using this
def recSum (b : ByteArray) : Int := sumB (encB (b.size : Int) ++ b)
theorem recSum_bd (b : ByteArray) : 0 ≤ recSum b ∧ recSum b < 4294967291 := by
  unfold recSum sumB
  split
  · exact sumL_bd _
  · omega
def recB (b : ByteArray) : ByteArray := if 1 ≤ b.size ∧ b.size ≤ 10000 then encB (b.size : Int) ++ encB (recSum b) ++ b else ⟨#[]⟩
def tripT (r s t : ByteArray) (j : Nat) : Tx := if j = 0 then ⟨r⟩ else if j = 1 then ⟨s⟩ else ⟨t⟩
theorem catT_trip (r s t : ByteArray) : catT (tripT r s t) 3 = r ++ s ++ t := by
  show ((⟨#[]⟩ ++ r) ++ s) ++ t = r ++ s ++ t
  rw [nil_cat]
theorem lenT_trip (r s t : ByteArray) : lenT (tripT r s t) 3 = r.size + s.size + t.size := by
  show 0 + r.size + s.size + t.size = _
  rw [Nat.zero_add]
theorem texts_trip (w : World) (r s t : ByteArray) : TextsAt (w.alloc (.cells #[.string r, .string s, .string t] 9)) (some ⟨w.heap.size, 0, none⟩) 3 (tripT r s t) :=
  Or.inr ⟨_, 0, rfl, by simp, fun i hi => by
    rcases (by omega : i = 0 ∨ i = 1 ∨ i = 2) with rfl | rfl | rfl
    · simp [tripT]
    · simp [tripT]
    · simp [tripT]⟩
theorem join_trip (r s t : ByteArray) (hr : r.size ≤ 2097152) (hs : s.size ≤ 2097152) (ht : t.size ≤ 2097152) (w : World) (b : Nat) (hb : b = w.heap.size) :
    Calls Tryd.prog 64 #[.slice (some ⟨b, 0, none⟩) 3 3] (w.alloc (.cells #[.string r, .string s, .string t] 9)) fun e w' => e = .returned (.string (r ++ s ++ t)) ∧ Below w.heap.size w w' := by
  subst hb
  refine (impl_joined _ 3 3 (tripT r s t) (by omega) (by rw [lenT_trip]; omega) _ (texts_trip w r s t)).mono ?_
  rintro e w' ⟨rfl, hb⟩
  exact ⟨by rw [catT_trip], ((Below.refl _ _).alloc (Nat.le_refl _) _).trans (hb.mono (by simp))⟩
set_option maxRecDepth 100000 in
set_option maxHeartbeats 4000000 in
theorem impl_bsize (z : Int) (w : World) :
    Calls Tryd.prog 63 #[.int .i64 z] w fun e w' => e = .returned (.bool (decide (1 ≤ z) && decide (z ≤ 10000))) ∧ w' = w := by
  by_cases h1 : 1 ≤ z
  · have q0 : decide (1 ≤ z) = true := by simpa using h1
    go_enter Tryd.func63, Tryd.ntmps63
    go_wp2
    go_ret
    exact ⟨ret_bool (by first | rfl | (rw [q0]; rfl) | simp [q0]), rfl⟩
  · have q0 : decide (1 ≤ z) = false := by simpa using h1
    go_enter Tryd.func63, Tryd.ntmps63
    go_wp2
    go_ret
    exact ⟨ret_bool (by first | rfl | (rw [q0]; rfl) | simp [q0]), rfl⟩
set_option maxRecDepth 100000 in
set_option maxHeartbeats 4000000 in
theorem impl_recSum (b : ByteArray) (hb : b.size ≤ 10000) (w : World) :
    Calls Tryd.prog 66 #[.string b] w fun e w' => e = .returned (.int .i64 (recSum b)) ∧ Below w.heap.size w w' := by
  have HP : Hid (∀ W, Calls Tryd.prog 65 #[.int .i64 (b.size : Int)] W fun e w' => e = .returned (.string (encB (b.size : Int))) ∧ Below W.heap.size W w') := fun W => impl_put (b.size : Int) W (by omega) (by omega)
  have HE : Hid (recSum b = sumB (encB (b.size : Int) ++ b)) := rfl
  have hes := encB_size (b.size : Int)
  generalize encB (b.size : Int) = E at *
  have HS : Hid (∀ W, Calls Tryd.prog 98 #[.string (E ++ b)] W fun e w' => e = .returned (.int .i64 (sumB (E ++ b))) ∧ Below W.heap.size W w') := fun W => impl_sum (E ++ b) W (by rw [ByteArray.size_append]; unfold maxLen; omega)
  go_enter Tryd.func66, Tryd.ntmps66
  go_wp2_with fail
  refine (HP.out _).mono ?_
  rintro e w1 ⟨rfl, hb1⟩
  have HB1 : Hid (Below w.heap.size w w1) := hb1
  clear hb1
  go_wp2_with fail
  refine (HS.out _).mono ?_
  rintro e w2 ⟨rfl, hb2⟩
  have HB2 : Hid (Below w.heap.size w w2) := HB1.out.trans (hb2.mono HB1.out.size)
  clear hb2
  go_wp2_with fail
  go_ret
  exact ⟨by rw [HE.out]; rfl, HB2.out⟩
set_option maxRecDepth 100000 in
set_option maxHeartbeats 4000000 in
theorem impl_rec (b : ByteArray) (hb : b.size ≤ 1048576) (w : World) :
    Calls Tryd.prog 21 #[.string b] w fun e w' => e = .returned (.string (recB b)) ∧ Below w.heap.size w w' := by
  have HV : Hid (recB b = if 1 ≤ b.size ∧ b.size ≤ 10000 then encB (b.size : Int) ++ encB (recSum b) ++ b else ⟨#[]⟩) := rfl
  have HZ : Hid (∀ W, Calls Tryd.prog 63 #[.int .i64 (b.size : Int)] W fun e w' => e = .returned (.bool (decide (1 ≤ (b.size : Int)) && decide ((b.size : Int) ≤ 10000))) ∧ w' = W) := fun W => impl_bsize _ W
  by_cases hok : 1 ≤ b.size ∧ b.size ≤ 10000
  · obtain ⟨o1, o2⟩ := hok
    have hz : (decide (1 ≤ (b.size : Int)) && decide ((b.size : Int) ≤ 10000)) = true := by simp; omega
    rw [hz] at HZ
    have HV' : Hid (recB b = encB (b.size : Int) ++ encB (recSum b) ++ b) := by rw [HV.out, if_pos ⟨o1, o2⟩]; exact rfl
    have HP : Hid (∀ W, Calls Tryd.prog 65 #[.int .i64 (b.size : Int)] W fun e w' => e = .returned (.string (encB (b.size : Int))) ∧ Below W.heap.size W w') := fun W => impl_put (b.size : Int) W (by omega) (by omega)
    have HR : Hid (∀ W, Calls Tryd.prog 66 #[.string b] W fun e w' => e = .returned (.int .i64 (recSum b)) ∧ Below W.heap.size W w') := fun W => impl_recSum b o2 W
    have HQ : Hid (∀ W, Calls Tryd.prog 65 #[.int .i64 (recSum b)] W fun e w' => e = .returned (.string (encB (recSum b))) ∧ Below W.heap.size W w') := fun W => impl_put (recSum b) W (by have := recSum_bd b; omega) (by have := recSum_bd b; omega)
    have hes := encB_size (b.size : Int)
    have hfs := encB_size (recSum b)
    generalize encB (b.size : Int) = E at *
    generalize encB (recSum b) = F at *
    generalize recSum b = R at *
    clear hz HV
    go_enter Tryd.func21, Tryd.ntmps21
    go_wp2_with fail
    refine (HZ.out _).mono ?_
    rintro e w0 ⟨rfl, rfl⟩
    go_wp2_with fail
    refine (HP.out _).mono ?_
    rintro e w1 ⟨rfl, hb1⟩
    have HB1 : Hid (Below w0.heap.size w0 w1) := hb1
    clear hb1
    go_wp2_with fail
    refine (HR.out _).mono ?_
    rintro e w2 ⟨rfl, hb2⟩
    have HB2 : Hid (Below w0.heap.size w0 w2) := HB1.out.trans (hb2.mono HB1.out.size)
    clear hb2
    go_wp2_with fail
    refine (HQ.out _).mono ?_
    rintro e w3 ⟨rfl, hb3⟩
    have HB3 : Hid (Below w0.heap.size w0 w3) := HB2.out.trans (hb3.mono HB2.out.size)
    clear hb3
    go_wp2_with fail
    refine (join_trip E F b (by omega) (by omega) (by omega) _ _ rfl).mono ?_
    rintro e w4 ⟨rfl, hb4⟩
    have HB4 : Hid (Below w0.heap.size w0 w4) := HB3.out.trans (hb4.mono HB3.out.size)
    clear hb4
    go_wp2_with fail
    go_ret
    exact ⟨by rw [HV'.out]; rfl, HB4.out⟩
  · have hz : (decide (1 ≤ (b.size : Int)) && decide ((b.size : Int) ≤ 10000)) = false := by
      cases h : (decide (1 ≤ (b.size : Int)) && decide ((b.size : Int) ≤ 10000))
      · rfl
      · simp at h; omega
    rw [hz] at HZ
    have HV' : Hid (recB b = ⟨#[]⟩) := by rw [HV.out, if_neg hok]; exact rfl
    clear hz HV hok
    go_enter Tryd.func21, Tryd.ntmps21
    go_wp2_with fail
    refine (HZ.out _).mono ?_
    rintro e w0 ⟨rfl, rfl⟩
    go_wp2_with fail
    go_ret
    exact ⟨by rw [HV'.out]; rfl, Below.refl _ _⟩
set_option maxRecDepth 100000 in
set_option maxHeartbeats 4000000 in
theorem spec_rec (b : ByteArray) (hb : b.size ≤ 1048576) (w : World) :
    Calls Tryd.prog 20 #[.string b] w fun e w' => e = .returned (.string (recB b)) ∧ Below w.heap.size w w' := by
  have HV : Hid (recB b = if 1 ≤ b.size ∧ b.size ≤ 10000 then encB (b.size : Int) ++ encB (recSum b) ++ b else ⟨#[]⟩) := rfl
  by_cases o1 : b.size < 1
  · have p0 : decide (b.size < 1) = true := by simpa using o1
    have p1 : decide ((b.size : Int) < 1) = true := by simp; omega
    have HV' : Hid (recB b = ⟨#[]⟩) := by rw [HV.out, if_neg (by omega)]; exact rfl
    clear o1
    go_enter Tryd.func20, Tryd.ntmps20
    go_wp2_with fail
    go_ret
    exact ⟨by rw [HV'.out]; rfl, Below.refl _ _⟩
  have p0 : decide (b.size < 1) = false := by simpa using o1
  have p1 : decide ((b.size : Int) < 1) = false := by simp; omega
  by_cases o2 : 10000 < b.size
  · have p2 : decide (10000 < b.size) = true := by simpa using o2
    have p3 : decide ((10000 : Int) < (b.size : Int)) = true := by simp; omega
    have HV' : Hid (recB b = ⟨#[]⟩) := by rw [HV.out, if_neg (by omega)]; exact rfl
    clear o1 o2
    go_enter Tryd.func20, Tryd.ntmps20
    go_wp2_with fail
    go_ret
    exact ⟨by rw [HV'.out]; rfl, Below.refl _ _⟩
  have p2 : decide (10000 < b.size) = false := by simpa using o2
  have p3 : decide ((10000 : Int) < (b.size : Int)) = false := by simp; omega
  have HV' : Hid (recB b = encB (b.size : Int) ++ encB (recSum b) ++ b) := by rw [HV.out, if_pos (by omega)]; exact rfl
  have HP : Hid (∀ W, Calls Tryd.prog 61 #[.int .i64 (b.size : Int)] W fun e w' => e = .returned (.string (encB (b.size : Int))) ∧ Below W.heap.size W w') := fun W => spec_put (b.size : Int) W (by omega) (by omega)
  have HQ : Hid (∀ W, Calls Tryd.prog 61 #[.int .i64 (recSum b)] W fun e w' => e = .returned (.string (encB (recSum b))) ∧ Below W.heap.size W w') := fun W => spec_put (recSum b) W (by have := recSum_bd b; omega) (by have := recSum_bd b; omega)
  have hes := encB_size (b.size : Int)
  have hfs := encB_size (recSum b)
  have HR : Hid (∀ W, Calls Tryd.prog 62 #[.string (encB (b.size : Int) ++ b)] W fun e w' => e = .returned (.int .i64 (recSum b)) ∧ w' = W) := fun W => spec_sum (encB (b.size : Int) ++ b) W (by rw [ByteArray.size_append]; unfold maxLen; omega)
  generalize encB (b.size : Int) = E at *
  generalize encB (recSum b) = F at *
  generalize recSum b = R at *
  clear HV
  go_enter Tryd.func20, Tryd.ntmps20
  go_wp2_with fail
  refine (HP.out _).mono ?_
  rintro e w1 ⟨rfl, hb1⟩
  have HB1 : Hid (Below w.heap.size w w1) := hb1
  clear hb1
  go_wp2_with fail
  refine (HR.out _).mono ?_
  rintro e w2 ⟨rfl, rfl⟩
  go_wp2_with fail
  refine (HQ.out _).mono ?_
  rintro e w3 ⟨rfl, hb3⟩
  have HB3 : Hid (Below w.heap.size w w3) := HB1.out.trans (hb3.mono HB1.out.size)
  clear hb3
  go_wp2_with fail
  go_ret
  exact ⟨by rw [HV'.out]; rfl, HB3.out⟩
end Go.Proofs.YthjanamnkhggfaaDoor
