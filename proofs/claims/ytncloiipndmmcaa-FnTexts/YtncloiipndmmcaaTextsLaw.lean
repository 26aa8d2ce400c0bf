/- The law FnTexts: what its call does. -/
import Derived.Test.YtncloiipndmmcaaNames
import Derived.Test.YtncloiipndmmcaaPutText
import Derived.Test.YtncloiipndmmcaaText
import Derived.Test.YtncloiipndmmcaaNumMath
namespace Go.Proofs.Ytncloiipndmmcaa
open Go.RowKit

theorem putB_list (s : ByteArray) (h : s.size ≤ 200) (hp : plainB s = true) : (putB s).data.toList = encN s.size ++ s.data.toList := by
  unfold putB
  rw [if_pos h, if_pos hp, ByteArray.data_append]
  simp
theorem putB_full (s : ByteArray) (h : (putB s).toList.isEmpty = false) : s.size ≤ 200 ∧ plainB s = true := by
  unfold putB at h
  split at h
  · split at h
    · exact ⟨by assumption, by assumption⟩
    · exact absurd h (by rw [ByteArray.toList_eq]; simp)
  · exact absurd h (by rw [ByteArray.toList_eq]; simp)
theorem putB_size (s : ByteArray) : (putB s).size ≤ 400 := by
  unfold putB
  split
  · split
    · rw [ByteArray.size_append]
      have := encN_size s.size
      omega
    · show (0 : Nat) ≤ 400
      omega
  · show (0 : Nat) ≤ 400
    omega
theorem size_len (s : ByteArray) : s.size = s.data.toList.length := by
  simp only [Array.length_toList]
  rfl

/-- What stands in T from place p on: a text that was put, and more behind it. -/
theorem textB_put (T s : ByteArray) (p : Nat) (more : List UInt8) (hs : s.size ≤ 200) (hp : plainB s = true) (hT : T.size ≤ 20000) (hd : T.data.toList.drop p = encN s.size ++ s.data.toList ++ more) (hpl : p ≤ T.size) :
    textB T p = (s, (p : Int) + (encN s.size).length + s.size, 0) := by
  have hlen : p + (encN s.size).length + s.size + more.length = T.size := by
    have := congrArg List.length hd
    rw [List.length_drop, List.length_append, List.length_append, ← size_len, ← size_len] at this
    omega
  have hst : StandAt T p (encN s.size) := by
    intro j hj
    rw [byteAt_list, List.getD_eq_getElem?_getD, List.getD_eq_getElem?_getD, ← List.getElem?_drop, hd, List.append_assoc, List.getElem?_append_left hj]
  have hg := getB_enc T p s.size (by omega) (by omega) hT hst (by omega)
  have hext : T.extract (p + (encN s.size).length) (p + (encN s.size).length + s.size) = s := by
    apply ByteArray.ext
    apply Array.ext'
    have e : (T.extract (p + (encN s.size).length) (p + (encN s.size).length + s.size)).data.toList = (T.data.toList.drop (p + (encN s.size).length)).take s.size := by
      simp [ByteArray.data_extract]
    rw [e, ← List.drop_drop, hd, List.append_assoc, List.drop_left, size_len, List.take_left]
  have e1 : ((p : Int) + ((encN s.size).length : Int)).toNat = p + (encN s.size).length := by omega
  unfold textB
  rw [hg]
  simp only [e1, Int.toNat_natCast, hext]
  rw [if_pos trivial, if_neg (by omega), if_neg (by omega), if_pos hp]

theorem both_put (s t : ByteArray) (hs : s.size ≤ 200) (hp : plainB s = true) (ht : t.size ≤ 200) (hq : plainB t = true) :
    textB (putB s ++ putB t) 0 = (s, ((putB s).size : Int), 0) ∧ textB (putB s ++ putB t) (putB s).size = (t, ((putB s ++ putB t).size : Int), 0) := by
  have l1 := putB_list s hs hp
  have l2 := putB_list t ht hq
  have n1 : (putB s).size = (encN s.size).length + s.size := by rw [size_len, l1, List.length_append, ← size_len]
  have n2 : (putB t).size = (encN t.size).length + t.size := by rw [size_len, l2, List.length_append, ← size_len]
  have b1 := encF_len 10 (foldZ s.size).toNat
  have b2 := encF_len 10 (foldZ t.size).toNat
  have hsz : (putB s ++ putB t).size = (putB s).size + (putB t).size := ByteArray.size_append
  have hdl : (putB s ++ putB t).data.toList = (putB s).data.toList ++ (putB t).data.toList := by rw [ByteArray.data_append]; simp
  have k1 : (encN s.size).length ≤ 10 := b1
  have k2 : (encN t.size).length ≤ 10 := b2
  constructor
  · have h := textB_put (putB s ++ putB t) s 0 (putB t).data.toList hs hp (by omega) (by rw [List.drop_zero, hdl, l1]) (by omega)
    rw [show ((0 : Nat) : Int) = 0 from rfl] at h
    rw [h, n1]
    simp
  · have h := textB_put (putB s ++ putB t) t (putB s).size [] ht hq (by omega) (by rw [hdl, size_len, List.drop_left, l2, List.append_nil]) (by omega)
    rw [h, hsz, n2]
    simp
    omega

set_option maxRecDepth 100000 in
set_option maxHeartbeats 4000000 in
theorem law_texts (a : Option Addr) (len cap : Nat) (zs : List Int) (a' : Option Addr) (len' cap' : Nat) (zs' : List Int) (w : World) (hrow : IsRow .u8 w a len cap zs) (hrow' : IsRow .u8 w a' len' cap' zs') :
    Calls Try.prog 4 #[.slice a len cap, .slice a' len' cap'] w fun e w' => e = .returned (.bool true) ∧ Below w.heap.size w w' := by
  have hlm : len ≤ 9223372036854775807 := by
    rcases hrow with ⟨_, rfl, _⟩ | ⟨x, rfl, hl, hm, _⟩
    · omega
    · unfold maxLen at hm; omega
  have hlm' : len' ≤ 9223372036854775807 := by
    rcases hrow' with ⟨_, rfl, _⟩ | ⟨x, rfl, hl, hm, _⟩
    · omega
    · unfold maxLen at hm; omega
  by_cases hbig : 1048576 < (len : Int)
  · have b1 : decide (1048576 < (len : Int)) = true := by simpa using hbig
    go_enter Try.func4, Try.ntmps4
    go_wp2_with fail
    go_ret
    exact ⟨rfl, Below.refl _ _⟩
  have b1 : decide (1048576 < (len : Int)) = false := by simpa using hbig
  by_cases hbig' : 1048576 < (len' : Int)
  · have b2 : decide (1048576 < (len' : Int)) = true := by simpa using hbig'
    go_enter Try.func4, Try.ntmps4
    go_wp2_with fail
    go_ret
    exact ⟨rfl, Below.refl _ _⟩
  have b2 : decide (1048576 < (len' : Int)) = false := by simpa using hbig'
  go_enter Try.func4, Try.ntmps4
  go_wp2_with fail
  refine (draw_putText hrow (by omega) w (Below.refl _ _)).mono ?_
  rintro e w1 ⟨s, rfl, hs, hb1⟩
  go_wp2_with fail
  refine (draw_putText hrow' (by omega) w1 hb1).mono ?_
  rintro e w2 ⟨t, rfl, ht, hb2⟩
  have hb2' : Below w.heap.size w w2 := hb1.trans (hb2.mono hb1.size)
  have hsm : s.size ≤ maxLen := by unfold maxLen; omega
  have htm : t.size ≤ maxLen := by unfold maxLen; omega
  clear hb1 hb2 hrow hrow'
  go_wp2_with fail
  refine (spec_putText s _ hsm).mono ?_
  rintro e w3 ⟨rfl, hb3⟩
  have hb3' : Below w.heap.size w w3 := hb2'.trans (hb3.mono hb2'.size)
  clear hb3 hb2'
  have hfull := putB_full s
  have hfull' := putB_full t
  have hboth := both_put s t
  have Hi := fun W => impl_putText s W hsm
  have Ht := fun W => impl_putText t W htm
  have Hs2 := fun W => spec_putText s W hsm
  have Ht2 := fun W => spec_putText t W htm
  have hX : (putB s).size ≤ 400 := putB_size s
  have hY : (putB t).size ≤ 400 := putB_size t
  cases hq : (putB s).toList.isEmpty
  · have hs2 := hfull hq
    generalize hXX : putB s = X at *
    have H1 : Hid (∀ W, Calls Try.prog 12 #[.string s] W fun e w' => e = .returned (.string X) ∧ Below W.heap.size W w') := Hi
    have H2 : Hid (∀ W, Calls Try.prog 11 #[.string s] W fun e w' => e = .returned (.string X) ∧ Below W.heap.size W w') := Hs2
    clear Hi Hs2 hfull hXX
    go_wp2_with fail
    refine (Ht2 _).mono ?_
    rintro e w4 ⟨rfl, hb4⟩
    have hb4' : Below w.heap.size w w4 := hb3'.trans (hb4.mono hb3'.size)
    clear Ht2 hb4 hb3'
    cases hq2 : (putB t).toList.isEmpty
    · have ht2 := hfull' hq2
      obtain ⟨g1, g2⟩ := hboth hs2.1 hs2.2 ht2.1 ht2.2
      generalize hYY : putB t = Y at *
      have H3 : Hid (∀ W, Calls Try.prog 12 #[.string t] W fun e w' => e = .returned (.string Y) ∧ Below W.heap.size W w') := Ht
      have hTs : (X ++ Y).size = X.size + Y.size := ByteArray.size_append
      have hTm : (X ++ Y).size ≤ maxLen := by rw [hTs]; unfold maxLen; omega
      have G1 := fun W => impl_getText (X ++ Y) 0 W hTm (by omega) (by omega)
      have G2 := fun W => impl_getText (X ++ Y) (X.size : Int) W hTm (by omega) (by omega)
      simp only [g1] at G1
      simp only [g2] at G2
      have HG1 : Hid (∀ W, Calls Try.prog 13 #[.string (X ++ Y), .int .i64 0] W fun e w' => e = .returned (textV (s, (X.size : Int), 0)) ∧ Below W.heap.size W w') := G1
      have HG2 : Hid (∀ W, Calls Try.prog 13 #[.string (X ++ Y), .int .i64 (X.size : Int)] W fun e w' => e = .returned (textV (t, ((X ++ Y).size : Int), 0)) ∧ Below W.heap.size W w') := G2
      clear Ht hfull' hboth hYY g1 g2 G1 G2 hs2 ht2 hTs
      go_wp2_with fail
      refine (H1.out _).mono ?_
      rintro e w5 ⟨rfl, hb5⟩
      go_wp2_with fail
      refine (H3.out _).mono ?_
      rintro e w6 ⟨rfl, hb6⟩
      have hb6' : Below w.heap.size w w6 := (hb4'.trans (hb5.mono hb4'.size)).trans (hb6.mono (by have := hb4'.size; have := hb5.size; omega))
      clear hb4' hb5 hb6
      go_wp2_with fail
      refine (HG1.out _).mono ?_
      rintro e w7 ⟨rfl, hb7⟩
      simp only [textV]
      have hb7' : Below w.heap.size w w7 := hb6'.trans (hb7.mono hb6'.size)
      clear hb7 hb6'
      go_wp2_with fail
      refine (HG2.out _).mono ?_
      rintro e w8 ⟨rfl, hb8⟩
      simp only [textV]
      have hb8' : Below w.heap.size w w8 := (hb7'.alloc hb7'.size _).trans (hb8.mono (by have := hb7'.size; simp; omega))
      clear hb8 hb7'
      go_wp2_with fail
      go_ret
      exact ⟨rfl, hb8'⟩
    · have H4 := H1
      clear Ht hfull' hboth
      go_wp2_with fail
      refine (H1.out _).mono ?_
      rintro e w5 ⟨rfl, hb5⟩
      go_wp2_with fail
      refine (H2.out _).mono ?_
      rintro e w6 ⟨rfl, hb6⟩
      have hb6' : Below w.heap.size w w6 := (hb4'.trans (hb5.mono hb4'.size)).trans (hb6.mono (by have := hb4'.size; have := hb5.size; omega))
      clear hb4' hb5 hb6
      go_wp2_with fail
      go_ret
      exact ⟨rfl, hb6'⟩
  · generalize putB s = X at *
    have H1 : Hid (∀ W, Calls Try.prog 12 #[.string s] W fun e w' => e = .returned (.string X) ∧ Below W.heap.size W w') := Hi
    have H2 : Hid (∀ W, Calls Try.prog 11 #[.string s] W fun e w' => e = .returned (.string X) ∧ Below W.heap.size W w') := Hs2
    clear Hi Ht Hs2 Ht2 hfull hfull' hboth
    go_wp2_with fail
    refine (H1.out _).mono ?_
    rintro e w5 ⟨rfl, hb5⟩
    go_wp2_with fail
    refine (H2.out _).mono ?_
    rintro e w6 ⟨rfl, hb6⟩
    have hb6' : Below w.heap.size w w6 := (hb3'.trans (hb5.mono hb3'.size)).trans (hb6.mono (by have := hb3'.size; have := hb5.size; omega))
    clear hb3' hb5 hb6
    go_wp2_with fail
    go_ret
    exact ⟨rfl, hb6'⟩
end Go.Proofs.Ytncloiipndmmcaa
