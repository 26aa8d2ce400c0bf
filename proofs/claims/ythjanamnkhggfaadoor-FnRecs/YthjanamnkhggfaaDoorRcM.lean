/- Plain facts: records put one behind the other are read as they are; what breaks off is short; a turned byte makes the sum wrong. -/
import Derived.Test.YthjanamnkhggfaaDoorRcS
namespace Go.Proofs.YthjanamnkhggfaaDoor
open Go.RowKit
open Go.Proofs.YthjanamnkhggfaaDoor.Draw

theorem stand_of {s : ByteArray} (x l y : List UInt8) (h : s.data.toList = x ++ (l ++ y)) : StandAt s x.length l := fun j hj => by
  simp only [byteAt]
  rw [h, List.getD_eq_getElem?_getD, List.getD_eq_getElem?_getD, List.getElem?_append_right (by omega), Nat.add_sub_cancel_left, List.getElem?_append_left hj]
theorem size_of {s : ByteArray} {l : List UInt8} (h : s.data.toList = l) : s.size = l.length := by
  rw [← h, Array.length_toList]; rfl
theorem get_cut' (s : ByteArray) (a : Nat) : ∀ (f i u v m : Nat), f + 1 + i = 10 → m < (encF (f + 1) v).length → StandAt s (a + i) ((encF (f + 1) v).take m) → s.size = a + i + m →
    getF s a (f + 1) i u = (0, 0, 4)
  | f, i, u, v, 0, hfi, hm, hst, hsz => getF_short (by omega)
  | f, i, u, v, m + 1, hfi, hm, hst, hsz => by
    by_cases h128 : v < 128
    · rw [encF_small f v h128] at hm
      simp at hm
    · cases f with
      | zero => rw [encF_big _ v h128] at hm; simp [encF] at hm
      | succ g =>
        rw [encF_big _ v h128] at hst hm
        rw [List.take_succ_cons] at hst
        have hb := hst.head
        rw [ofNat_nat _ (by omega)] at hb
        rw [getF, hb, if_neg (by omega), if_neg (by omega), if_neg (by omega)]
        exact get_cut' s a g (i + 1) _ (v / 128) m (by omega) (by simp at hm; exact hm) (by rw [← Nat.add_assoc]; exact hst.tail) (by omega)
theorem getB_cut' (s : ByteArray) (a m : Nat) (n : Int) (hs : s.size ≤ 20000) (hm : m < (encN n).length) (hst : StandAt s a ((encN n).take m)) (hsz : s.size = a + m) : getB s a = (0, 0, 4) := by
  rw [getB_nat s a hs]
  exact get_cut' s a 9 0 0 (foldZ n).toNat m (by omega) hm hst hsz
/-- The bytes of a record. -/
theorem recB_list {b : ByteArray} (h1 : 1 ≤ b.size) (h2 : b.size ≤ 10000) : (recB b).data.toList = encN (b.size : Int) ++ (encN (recSum b) ++ b.data.toList) := by
  unfold recB
  rw [if_pos ⟨h1, h2⟩]
  rw [bytes_cat, bytes_cat, List.append_assoc]
  rfl
theorem enc_le (n : Int) : (encN n).length ≤ 10 := encF_len 10 _
theorem recB_size {b : ByteArray} (h1 : 1 ≤ b.size) (h2 : b.size ≤ 10000) : (recB b).size = (encN (b.size : Int)).length + (encN (recSum b)).length + b.size := by
  have := size_of (recB_list h1 h2)
  have hl : b.data.toList.length = b.size := (size_of rfl).symm
  rw [this]; simp only [List.length_append, hl]; omega
/-- The two numbers ahead of a body. -/
theorem heads {s : ByteArray} {n : Nat} {z : Int} {x y : List UInt8} (hs : s.size ≤ 20000) (hn : n ≤ 10000) (hz0 : 0 ≤ z) (hz1 : z < 4294967291) (h : s.data.toList = x ++ (encN (n : Int) ++ (encN z ++ y))) :
    getB s (x.length : Int) = ((n : Int), ((x.length + (encN (n : Int)).length : Nat) : Int), 0) ∧ getB s ((x.length + (encN (n : Int)).length : Nat) : Int) = (z, ((x.length + (encN (n : Int)).length + (encN z).length : Nat) : Int), 0) ∧ s.size = x.length + (encN (n : Int)).length + (encN z).length + y.length := by
  have hsz := size_of h
  simp only [List.length_append] at hsz
  refine ⟨?_, ?_, by omega⟩
  · rw [getB_enc s x.length n (by omega) (by omega) hs (stand_of x _ _ h) (by omega), Int.natCast_add]
  · have h' : s.data.toList = (x ++ encN (n : Int)) ++ (encN z ++ y) := by rw [h, List.append_assoc]
    have hst := stand_of _ _ _ h'
    rw [List.length_append] at hst
    rw [getB_enc s _ z (by omega) (by omega) hs hst (by omega)]
    simp
/-- A record that stands in a text is read. -/
theorem readR_rec {s b : ByteArray} {x y : List UInt8} (h1 : 1 ≤ b.size) (h2 : b.size ≤ 10000) (hs : s.size ≤ 20000) (h : s.data.toList = x ++ ((recB b).data.toList ++ y)) :
    readR s x.length = (b, x.length + (recB b).size, 0) := by
  have hz := recSum_bd b
  rw [recB_list h1 h2] at h
  have h' : s.data.toList = x ++ (encN (b.size : Int) ++ (encN (recSum b) ++ (b.data.toList ++ y))) := by rw [h]; simp only [List.append_assoc]
  obtain ⟨g1, g2, hsz⟩ := heads hs h2 hz.1 hz.2 h'
  have hl : b.data.toList.length = b.size := (size_of rfl).symm
  simp only [List.length_append, hl] at hsz
  have h'' : s.data.toList = (x ++ encN (b.size : Int) ++ encN (recSum b)) ++ (b.data.toList ++ y) := by rw [h']; simp only [List.append_assoc]
  have hst := stand_of _ _ _ h''
  simp only [List.length_append] at hst
  have hx := ext_stand hst (by rw [hl]; omega)
  rw [hl] at hx
  have hbb : (⟨b.data.toList.toArray⟩ : ByteArray) = b := rfl
  rw [hbb] at hx
  have e1 : ((x.length + (encN (b.size : Int)).length + (encN (recSum b)).length : Nat) : Int).toNat = x.length + (encN (b.size : Int)).length + (encN (recSum b)).length := Int.toNat_natCast _
  have e2 : (((x.length + (encN (b.size : Int)).length + (encN (recSum b)).length : Nat) : Int) + (b.size : Int)).toNat = x.length + (encN (b.size : Int)).length + (encN (recSum b)).length + b.size := by omega
  unfold readR
  simp only [g1, g2, e1, e2, hx]
  rw [if_neg (by simp), if_neg (by omega), if_neg (by simp), if_neg (by omega), if_neg (by simp), recB_size h1 h2]
  simp only [Nat.add_assoc]
/-- A record that breaks off is short. -/
theorem readR_cut {s b : ByteArray} {x : List UInt8} {k : Nat} (h1 : 1 ≤ b.size) (h2 : b.size ≤ 10000) (hs : s.size ≤ 20000) (hk : k < (recB b).size) (h : s.data.toList = x ++ (recB b).data.toList.take k) :
    (readR s x.length).2.2 = 4 := by
  have hz := recSum_bd b
  have hl : b.data.toList.length = b.size := (size_of rfl).symm
  rw [recB_size h1 h2] at hk
  rw [recB_list h1 h2] at h
  by_cases c1 : k < (encN (b.size : Int)).length
  · rw [List.take_append_of_le_length (by omega)] at h
    have hsz := size_of h
    rw [List.length_append, List.length_take] at hsz
    have g : getB s (x.length : Int) = (0, 0, 4) := getB_cut' s x.length k _ hs c1 (stand_of x _ [] (by simpa using h)) (by omega)
    unfold readR
    rw [g, if_pos (by simp)]
  obtain ⟨j, rfl⟩ : ∃ j, k = (encN (b.size : Int)).length + j := ⟨k - (encN (b.size : Int)).length, by omega⟩
  rw [List.take_length_add_append] at h
  by_cases c2 : j < (encN (recSum b)).length
  · rw [List.take_append_of_le_length (by omega)] at h
    have hsz := size_of h
    simp only [List.length_append, List.length_take] at hsz
    have g1 : getB s (x.length : Int) = ((b.size : Int), ((x.length + (encN (b.size : Int)).length : Nat) : Int), 0) := by
      rw [getB_enc s x.length _ (by omega) (by omega) hs (stand_of x _ _ h) (by omega), Int.natCast_add]
    have h' : s.data.toList = (x ++ encN (b.size : Int)) ++ ((encN (recSum b)).take j ++ []) := by rw [h]; simp
    have hst := stand_of _ _ _ h'
    rw [List.length_append] at hst
    have g2 : getB s ((x.length + (encN (b.size : Int)).length : Nat) : Int) = (0, 0, 4) := getB_cut' s _ j _ hs c2 hst (by omega)
    unfold readR
    simp only [g1, g2]
    rw [if_neg (by simp), if_neg (by omega), if_pos (by simp)]
  obtain ⟨i, rfl⟩ : ∃ i, j = (encN (recSum b)).length + i := ⟨j - (encN (recSum b)).length, by omega⟩
  rw [List.take_length_add_append] at h
  obtain ⟨g1, g2, hsz⟩ := heads hs h2 hz.1 hz.2 h
  rw [List.length_take] at hsz
  unfold readR
  simp only [g1, g2]
  rw [if_neg (by simp), if_neg (by omega), if_neg (by simp), if_pos (by omega)]
theorem sum_apart' : ∀ (l : List UInt8) (x y : Int), 0 ≤ x → x < 4294967291 → 0 ≤ y → y < 4294967291 → x ≠ y → l.foldl sumStep x ≠ l.foldl sumStep y
  | [], _, _, _, _, _, _, h => h
  | b :: l, x, y, hx0, hx1, hy0, hy1, h => by
    rw [List.foldl_cons, List.foldl_cons]
    refine sum_apart' l _ _ (by unfold sumStep; omega) (by unfold sumStep; omega) (by unfold sumStep; omega) (by unfold sumStep; omega) ?_
    unfold sumStep
    omega
theorem sumL_set' (l : List UInt8) (k : Nat) (hk : k < l.length) (c : UInt8) (hc : c ≠ l[k]) : sumL (l.set k c) ≠ sumL l := by
  have e : l = l.take k ++ l[k] :: l.drop (k + 1) := by
    rw [← List.drop_eq_getElem_cons hk, List.take_append_drop]
  have e' : l.set k c = l.take k ++ c :: l.drop (k + 1) := by
    rw [List.set_eq_take_append_cons_drop, if_pos hk]
  have hb := sumL_bd (l.take k)
  have hc' : (c.toNat : Int) ≠ (l[k].toNat : Int) := fun h => hc (UInt8.toNat_inj.1 (by omega))
  have h1 : c.toNat < 256 := UInt8.toNat_lt c
  have h2 : (l[k]).toNat < 256 := UInt8.toNat_lt _
  rw [e']
  have h3 : sumL l = sumL (l.take k ++ l[k] :: l.drop (k + 1)) := congrArg sumL e
  rw [h3]
  unfold sumL at hb ⊢
  rw [List.foldl_append, List.foldl_append, List.foldl_cons, List.foldl_cons]
  refine sum_apart' _ _ _ (by unfold sumStep; omega) (by unfold sumStep; omega) (by unfold sumStep; omega) (by unfold sumStep; omega) ?_
  unfold sumStep
  omega
/-- A body of which one byte is another one has another sum. -/
theorem recSum_set {b b' : ByteArray} {k : Nat} {c : UInt8} (h2 : b.size ≤ 10000) (hk : k < b.data.toList.length) (hc : c ≠ b.data.toList[k]) (h : b'.data.toList = b.data.toList.set k c) : recSum b' ≠ recSum b := by
  have hsz : b'.size = b.size := by rw [size_of h, List.length_set]; exact (size_of rfl).symm
  have hE := enc_le (b.size : Int)
  have hl : b.data.toList.length = b.size := (size_of rfl).symm
  have t1 : (encB (b.size : Int) ++ b').size ≤ 20000 := by
    rw [ByteArray.size_append]; have := encB_size (b.size : Int); omega
  have t2 : (encB (b.size : Int) ++ b).size ≤ 20000 := by
    rw [ByteArray.size_append]; have := encB_size (b.size : Int); omega
  unfold recSum sumB
  rw [hsz, if_pos t1, if_pos t2, bytes_cat, bytes_cat, h]
  have he : (encB (b.size : Int)).data.toList = encN (b.size : Int) := rfl
  rw [he]
  have hset : encN (b.size : Int) ++ b.data.toList.set k c = (encN (b.size : Int) ++ b.data.toList).set ((encN (b.size : Int)).length + k) c := by
    rw [List.set_append_right _ _ (by omega), Nat.add_sub_cancel_left]
  rw [hset]
  refine sumL_set' _ _ (by rw [List.length_append]; omega) _ ?_
  rw [List.getElem_append_right (by omega)]
  simpa using hc
/-- A record whose body has one byte that is another one: its sum is wrong. -/
theorem readR_turn {s b : ByteArray} {x : List UInt8} {k : Nat} {c : UInt8} (h1 : 1 ≤ b.size) (h2 : b.size ≤ 10000) (hs : s.size ≤ 20000) (hk : k < b.data.toList.length) (hc : c ≠ b.data.toList[k])
    (h : s.data.toList = x ++ (encN (b.size : Int) ++ (encN (recSum b) ++ b.data.toList.set k c))) : (readR s x.length).2.2 = 5 := by
  have hz := recSum_bd b
  obtain ⟨g1, g2, hsz⟩ := heads hs h2 hz.1 hz.2 h
  have hl : b.data.toList.length = b.size := (size_of rfl).symm
  have hl' : (b.data.toList.set k c).length = b.size := by rw [List.length_set, hl]
  have h'' : s.data.toList = (x ++ encN (b.size : Int) ++ encN (recSum b)) ++ (b.data.toList.set k c ++ []) := by rw [h]; simp only [List.append_assoc, List.append_nil]
  have hst := stand_of _ _ _ h''
  simp only [List.length_append] at hst
  have hx := ext_stand hst (by omega)
  rw [hl'] at hx
  have e1 : ((x.length + (encN (b.size : Int)).length + (encN (recSum b)).length : Nat) : Int).toNat = x.length + (encN (b.size : Int)).length + (encN (recSum b)).length := Int.toNat_natCast _
  have e2 : (((x.length + (encN (b.size : Int)).length + (encN (recSum b)).length : Nat) : Int) + (b.size : Int)).toNat = x.length + (encN (b.size : Int)).length + (encN (recSum b)).length + b.size := by omega
  have hne := recSum_set (b' := ⟨(b.data.toList.set k c).toArray⟩) h2 hk hc rfl
  unfold readR
  simp only [g1, g2, e1, e2, hx]
  rw [if_neg (by simp), if_neg (by omega), if_neg (by simp), if_neg (by omega), if_pos hne]
/-- Two records, one behind the other. -/
theorem recs_two {a b s : ByteArray} (a1 : 1 ≤ a.size) (a2 : a.size ≤ 10000) (b1 : 1 ≤ b.size) (b2 : b.size ≤ 10000) (hs : s.size ≤ 20000) (h : s = recB a ++ recB b) :
    RecsIs s 2 0 ∧ seqA s 2 = (recB a).size + (recB b).size ∧ recT s 0 = ⟨a⟩ ∧ recT s 1 = ⟨b⟩ := by
  have hl : s.data.toList = (recB a).data.toList ++ (recB b).data.toList := by rw [h, bytes_cat]
  have hla : (recB a).data.toList.length = (recB a).size := (size_of rfl).symm
  have hlb : (recB b).data.toList.length = (recB b).size := (size_of rfl).symm
  have hsz := size_of hl
  rw [List.length_append, hla, hlb] at hsz
  have r0 := readR_rec (x := []) a1 a2 hs (by simpa using hl)
  have r1 := readR_rec (x := (recB a).data.toList) (y := []) b1 b2 hs (by simpa using hl)
  rw [hla] at r1
  have s0 : seqA s 0 = 0 := rfl
  have r0' : readR s 0 = (a, (recB a).size, 0) := by simpa using r0
  have s1 : seqA s 1 = (recB a).size := by show (readR s (seqA s 0)).2.1 = _; rw [s0, r0']
  have s2 : seqA s 2 = (recB a).size + (recB b).size := by show (readR s (seqA s 1)).2.1 = _; rw [s1, r1]
  have pa := recB_size a1 a2
  have pb := recB_size b1 b2
  refine ⟨⟨fun j hj => ?_, Or.inl ⟨by omega, rfl⟩⟩, s2, ?_, ?_⟩
  · rcases (by omega : j = 0 ∨ j = 1) with rfl | rfl
    · rw [s0, r0']; exact ⟨by omega, rfl⟩
    · rw [s1, r1]; exact ⟨by omega, rfl⟩
  · show Tx.mk (readR s (seqA s 0)).1 = _; rw [s0, r0']
  · show Tx.mk (readR s (seqA s 1)).1 = _; rw [s1, r1]
/-- A record, and behind it what is refused. -/
theorem recs_one {a s : ByteArray} {y : List UInt8} {c : Int} (a1 : 1 ≤ a.size) (a2 : a.size ≤ 10000) (hs : s.size ≤ 20000) (h : s.data.toList = (recB a).data.toList ++ y) (hy : y ≠ []) (hc : (readR s (recB a).size).2.2 = c) (h0 : c ≠ 0) :
    RecsIs s 1 c ∧ seqA s 1 = (recB a).size ∧ recT s 0 = ⟨a⟩ := by
  have hla : (recB a).data.toList.length = (recB a).size := (size_of rfl).symm
  have hsz := size_of h
  rw [List.length_append, hla] at hsz
  have hyl : 0 < y.length := List.length_pos_iff.2 hy
  have r0 := readR_rec (x := []) a1 a2 hs (by simpa using h)
  have s0 : seqA s 0 = 0 := rfl
  have r0' : readR s 0 = (a, (recB a).size, 0) := by simpa using r0
  have s1 : seqA s 1 = (recB a).size := by show (readR s (seqA s 0)).2.1 = _; rw [s0, r0']
  refine ⟨⟨fun j hj => ?_, Or.inr ⟨by omega, by rw [s1, hc], h0⟩⟩, s1, ?_⟩
  · obtain rfl : j = 0 := by omega
    rw [s0, r0']; exact ⟨by have := recB_size a1 a2; omega, rfl⟩
  · show Tx.mk (readR s (seqA s 0)).1 = _; rw [s0, r0']
/-- A record and one that breaks off. -/
theorem recs_cut {a b s : ByteArray} {k : Nat} (a1 : 1 ≤ a.size) (a2 : a.size ≤ 10000) (b1 : 1 ≤ b.size) (b2 : b.size ≤ 10000) (hs : s.size ≤ 20000) (k1 : 1 ≤ k) (k2 : k < (recB b).size) (h : s = recB a ++ (recB b).extract 0 k) :
    RecsIs s 1 4 ∧ seqA s 1 = (recB a).size ∧ recT s 0 = ⟨a⟩ := by
  have hx : ((recB b).extract 0 k).data.toList = (recB b).data.toList.take k := by
    obtain ⟨⟨l⟩⟩ := recB b
    show ((ByteArray.mk l.toArray).extract 0 k).data.toList = l.take k
    rw [ByteArray.extract_mk]; simp
  have hl : s.data.toList = (recB a).data.toList ++ (recB b).data.toList.take k := by rw [h, bytes_cat, hx]
  have hla : (recB a).data.toList.length = (recB a).size := (size_of rfl).symm
  have hlb : (recB b).data.toList.length = (recB b).size := (size_of rfl).symm
  refine recs_one a1 a2 hs hl (fun e => ?_) ?_ (by omega)
  · have := congrArg List.length e
    rw [List.length_take, List.length_nil] at this
    omega
  · rw [← hla]; exact readR_cut b1 b2 hs k2 hl
/-- A record and one with a turned byte in its body. -/
theorem recs_turn {a b s g : ByteArray} {p : Nat} {c : UInt8} (a1 : 1 ≤ a.size) (a2 : a.size ≤ 10000) (b1 : 1 ≤ b.size) (b2 : b.size ≤ 10000) (hs : s.size ≤ 20000) (p1 : (recB b).size ≤ p + b.size) (p2 : p < (recB b).data.toList.length) (hc : c ≠ (recB b).data.toList[p])
    (hg : g.data.toList = (recB b).data.toList.set p c) (h : s = recB a ++ g) : RecsIs s 1 5 ∧ seqA s 1 = (recB a).size ∧ recT s 0 = ⟨a⟩ := by
  have hla : (recB a).data.toList.length = (recB a).size := (size_of rfl).symm
  have hlb : (recB b).data.toList.length = (recB b).size := (size_of rfl).symm
  have hbl : b.data.toList.length = b.size := (size_of rfl).symm
  have hsz := recB_size b1 b2
  have hl : s.data.toList = (recB a).data.toList ++ (recB b).data.toList.set p c := by rw [h, bytes_cat, hg]
  refine recs_one a1 a2 hs hl (fun e => ?_) ?_ (by omega)
  · have := congrArg List.length e
    rw [List.length_set, List.length_nil] at this
    omega
  rw [← hla]
  obtain ⟨i, hi⟩ : ∃ i, p = (encN (b.size : Int)).length + ((encN (recSum b)).length + i) := ⟨p - (encN (b.size : Int)).length - (encN (recSum b)).length, by omega⟩
  have hib : i < b.data.toList.length := by omega
  have e1 : (recB b).data.toList.set p c = encN (b.size : Int) ++ (encN (recSum b) ++ b.data.toList.set i c) := by
    rw [recB_list b1 b2, hi, List.set_append_right _ _ (by omega), Nat.add_sub_cancel_left, List.set_append_right _ _ (by omega), Nat.add_sub_cancel_left]
  have e2 : (recB b).data.toList[p] = b.data.toList[i] := by
    have h1 : (recB b).data.toList[p]? = some b.data.toList[i] := by
      rw [recB_list b1 b2, hi, List.getElem?_append_right (by omega), Nat.add_sub_cancel_left, List.getElem?_append_right (by omega), Nat.add_sub_cancel_left, List.getElem?_eq_getElem hib]
    rw [List.getElem?_eq_getElem p2] at h1
    exact Option.some.inj h1
  rw [e2] at hc
  rw [e1] at hl
  exact readR_turn b1 b2 hs hib hc hl
end Go.Proofs.YthjanamnkhggfaaDoor
