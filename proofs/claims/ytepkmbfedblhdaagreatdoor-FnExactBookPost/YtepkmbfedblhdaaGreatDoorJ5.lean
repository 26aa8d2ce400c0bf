/- Legs posted to a book: what the program's call does. · Legs posted to a book: what the program's call does. · A line opened in a right book: what the model's call does. · A line opened in a right book, where it is opened: what the model's call does. · A book copied: what the model's call does. · Is a name among others: the model's own search. · Legs done in a copy of a book: what the model's call does. -/
import Derived.Test.YtepkmbfedblhdaaGreatDoorJ4
import Derived.Test.YtepkmbfedblhdaaGreatDoorJ3
import Derived.Deep.RegionHeld3
import Derived.Deep.DeepCutAuto
import Derived.BigQuiet
import Derived.Deep.AppendLies
import Derived.Test.YtepkmbfedblhdaaGreatDoorJ1
namespace Go.Proofs.YtepkmbfedblhdaaGreatDoor
open Go.RowKit Go.Lib
open Go.Proofs.YtepkmbfedblhdaaGreatDoor.Draw

/-- A call's two own blocks. -/
structure Bp (w W : World) (cs rs : Array Value) : Prop where
  box : ∀ j, W.cell? ⟨w.heap.size, j, none⟩ = cs[j]?
  out : ∀ j, W.cell? ⟨w.heap.size + 1, j, none⟩ = rs[j]?
  ofr : ∀ j, W.frozen? ⟨w.heap.size + 1, j, none⟩ = false
  size : w.heap.size + 2 ≤ W.heap.size
  bel : Below w.heap.size w W
theorem Bp.now (w : World) (cs rs : Array Value) (t t' : TypeId) : Bp w ((w.alloc (.cells cs t)).alloc (.cells rs t')) cs rs :=
  ⟨fun j => by rw [World.cell?_alloc_past _ _ _ (by simp), cnew], fun j => cnew' (by simp) j, fun j => fnew' (by simp) j, by simp, ((Below.refl _ _).alloc (Nat.le_refl _) _).alloc (by simp) _⟩
theorem Bp.next {w W W' : World} {cs rs : Array Value} (h : Bp w W cs rs) (hb : Below W.heap.size W W') : Bp w W' cs rs := by
  have hs := h.size
  exact ⟨fun j => (hb.cell (p := ⟨w.heap.size, j, none⟩) (by show w.heap.size < _; omega)).trans (h.box j), fun j => (hb.cell (p := ⟨w.heap.size + 1, j, none⟩) (by show w.heap.size + 1 < _; omega)).trans (h.out j), fun j => (hb.frozen (p := ⟨w.heap.size + 1, j, none⟩) (by show w.heap.size + 1 < _; omega)).trans (h.ofr j), Nat.le_trans hs hb.size, h.bel.trans (hb.mono h.bel.size)⟩
theorem Bp.low {w W W' : World} {cs rs : Array Value} (h : Bp w W cs rs) (hb : Below (w.heap.size + 2) W W') : Bp w W' cs rs :=
  ⟨fun j => (hb.cell (p := ⟨w.heap.size, j, none⟩) (by show w.heap.size < _; omega)).trans (h.box j), fun j => (hb.cell (p := ⟨w.heap.size + 1, j, none⟩) (by show w.heap.size + 1 < _; omega)).trans (h.out j), fun j => (hb.frozen (p := ⟨w.heap.size + 1, j, none⟩) (by show w.heap.size + 1 < _; omega)).trans (h.ofr j), Nat.le_trans h.size hb.size, h.bel.trans (hb.mono (by omega))⟩
set_option maxRecDepth 100000 in
set_option maxHeartbeats 8000000 in
theorem bp_size (g o g' o' n m cap cap' : Nat) (L : Nat → Ln) (I : Nat → Tx) (z : ByteArray) (a : Option Addr) (K kc : Nat) (w : World) (hs : 20000 < z.size ∨ 400 < K) :
    Calls Tryz.prog 9 #[.agg #[.slice (some ⟨g, o, none⟩) n cap, .slice (some ⟨g', o', none⟩) m cap'], .string z, .slice a K kc] w (BkOut w 0 0 L I 0 2) := by
  have s2 : w.heap.size ≤ w.heap.size + 1 := by omega
  by_cases h1 : 20000 < z.size
  · have q0 : decide (20000 < z.size) = true := by simpa using h1
    have q1 : decide ((20000 : Int) < (z.size : Int)) = true := by simp; omega
    clear hs
    go_enter Tryz.func9, Tryz.ntmps9
    go_wp2_with fail
    refine bodyPost_ret (v := .agg #[.slice none 0 0, .slice none 0 0, .int .i64 0, .int .i64 2]) ?_ rfl ?_
    · simp [results, Tryz.results9, go_sem]
    · exact BkOut.err (by first | exact ((Below.refl _ _).alloc (Nat.le_refl _) _).alloc (by simp) _ | exact (((Below.refl _ _).alloc (Nat.le_refl _) _).alloc (by simp) _).drew | exact below_drewN (((Below.refl _ _).alloc (Nat.le_refl _) _).alloc (by simp) _) _ | exact (((((((Below.refl _ _).alloc (Nat.le_refl _) _).alloc (by simp) _).setCell s2 _).setCell s2 _).setCell s2 _).setCell s2 _))
  · have h2 : 400 < K := by omega
    have q0 : decide (20000 < z.size) = false := by simpa using h1
    have q1 : decide ((20000 : Int) < (z.size : Int)) = false := by simp; omega
    have r0 : decide (400 < K) = true := by simpa using h2
    have r1 : decide ((400 : Int) < (K : Int)) = true := by simp; omega
    clear hs
    go_enter Tryz.func9, Tryz.ntmps9
    go_wp2_with fail
    refine bodyPost_ret (v := .agg #[.slice none 0 0, .slice none 0 0, .int .i64 0, .int .i64 2]) ?_ rfl ?_
    · simp [results, Tryz.results9, go_sem]
    · exact BkOut.err (by first | exact ((Below.refl _ _).alloc (Nat.le_refl _) _).alloc (by simp) _ | exact (((Below.refl _ _).alloc (Nat.le_refl _) _).alloc (by simp) _).drew | exact below_drewN (((Below.refl _ _).alloc (Nat.le_refl _) _).alloc (by simp) _) _ | exact (((((((Below.refl _ _).alloc (Nat.le_refl _) _).alloc (by simp) _).setCell s2 _).setCell s2 _).setCell s2 _).setCell s2 _))
set_option maxRecDepth 100000 in
set_option maxHeartbeats 8000000 in
theorem bp_form (g o g' o' n m cap cap' : Nat) (L : Nat → Ln) (I : Nat → Tx) (z : ByteArray) (hz : z.size ≤ maxLen) (a : Option Addr) (K kc : Nat) (Q : Nat → Lg) (hK : K ≤ 1048576) (hfit : ∀ i, i < K → (Q i).fits) (w : World) (hQ : LegsAt w a K Q) (hs : ¬ (20000 < z.size ∨ 400 < K)) (hno : (nameB z && legsB K Q) = false) :
    Calls Tryz.prog 9 #[.agg #[.slice (some ⟨g, o, none⟩) n cap, .slice (some ⟨g', o', none⟩) m cap'], .string z, .slice a K kc] w (BkOut w 0 0 L I 0 1) := by
  have HT0 : Hid (Bp w ((w.alloc (.cells #[.slice (some ⟨g, o, none⟩) n cap, .slice (some ⟨g', o', none⟩) m cap'] 31)).alloc (.cells #[.slice none 0 0, .slice none 0 0, .int .i64 0, .int .i64 0] 33)) #[.slice (some ⟨g, o, none⟩) n cap, .slice (some ⟨g', o', none⟩) m cap'] #[.slice none 0 0, .slice none 0 0, .int .i64 0, .int .i64 0]) := Bp.now _ _ _ _ _
  have s2 : w.heap.size ≤ w.heap.size + 1 := by omega
  have HNM : Hid (∀ W, Calls Tryz.prog 27 #[.string z] W fun e w' => e = .returned (.bool (nameB z)) ∧ Below W.heap.size W w') := fun W => impl_name _ W hz
  have HLG : Hid (∀ W, LegsAt W a K Q → Calls Tryz.prog 28 #[.slice a K kc] W fun e w' => e = .returned (.bool (legsB K Q)) ∧ Below W.heap.size W w') := fun W hW => impl_legs a K kc Q hK hfit W hW
  have HQ : Hid (LegsAt w a K Q) := hQ
  have q0 : decide (20000 < z.size) = false := by simp; omega
  have q1 : decide ((20000 : Int) < (z.size : Int)) = false := by simp; omega
  have r0 : decide (400 < K) = false := by simp; omega
  have r1 : decide ((400 : Int) < (K : Int)) = false := by simp; omega
  clear hQ hfit hs
  generalize nameB z = nz at *
  generalize legsB K Q = lq at *
  go_enter Tryz.func9, Tryz.ntmps9
  go_wp2_with fail
  refine (HNM.out _).mono ?_
  rintro e w1 ⟨rfl, hb1⟩
  have HT1 : Hid (Bp w w1 #[.slice (some ⟨g, o, none⟩) n cap, .slice (some ⟨g', o', none⟩) m cap'] #[.slice none 0 0, .slice none 0 0, .int .i64 0, .int .i64 0]) := HT0.out.next hb1
  clear hb1 HT0
  cases nz with
  | false =>
    obtain ⟨o0, o1, o2, o3⟩ : _ ∧ _ ∧ _ ∧ _ := ⟨HT1.out.out 0, HT1.out.out 1, HT1.out.out 2, HT1.out.out 3⟩
    have of := HT1.out.ofr
    have HB : Hid (Below w.heap.size w w1) := HT1.out.bel
    simp at o0 o1 o2 o3
    clear HT1
    go_wp2_with fail
    refine bodyPost_ret (v := .agg #[.slice none 0 0, .slice none 0 0, .int .i64 0, .int .i64 1]) ?_ rfl ?_
    · simp [results, Tryz.results9, go_sem, o0, o1, o2, o3]
    · exact BkOut.err ((((HB.out.setCell s2 _).setCell s2 _).setCell s2 _).setCell s2 _)
  | true =>
    have hlq : lq = false := by simpa using hno
    subst hlq
    go_wp2_with fail
    refine (HLG.out _ (HQ.out.below HT1.out.bel)).mono ?_
    rintro e w2 ⟨rfl, hb2⟩
    have HT2 : Hid (Bp w w2 #[.slice (some ⟨g, o, none⟩) n cap, .slice (some ⟨g', o', none⟩) m cap'] #[.slice none 0 0, .slice none 0 0, .int .i64 0, .int .i64 0]) := HT1.out.next hb2
    clear hb2 HT1
    obtain ⟨o0, o1, o2, o3⟩ : _ ∧ _ ∧ _ ∧ _ := ⟨HT2.out.out 0, HT2.out.out 1, HT2.out.out 2, HT2.out.out 3⟩
    have of := HT2.out.ofr
    have HB : Hid (Below w.heap.size w w2) := HT2.out.bel
    simp at o0 o1 o2 o3
    clear HT2
    go_wp2_with fail
    refine bodyPost_ret (v := .agg #[.slice none 0 0, .slice none 0 0, .int .i64 0, .int .i64 1]) ?_ rfl ?_
    · simp [results, Tryz.results9, go_sem, o0, o1, o2, o3]
    · exact BkOut.err ((((HB.out.setCell s2 _).setCell s2 _).setCell s2 _).setCell s2 _)
end Go.Proofs.YtepkmbfedblhdaaGreatDoor
namespace Go.Proofs.YtepkmbfedblhdaaGreatDoor
open Go.RowKit Go.Lib
open Go.Proofs.YtepkmbfedblhdaaGreatDoor.Draw

/-- What the call comes to. -/
structure Pf where
  N : Nat
  K : Nat
  L : Nat → Ln
  I : Nat → Tx
  p : Int
  cd : Int
def postF (n m K : Nat) (L : Nat → Ln) (I : Nat → Tx) (z : ByteArray) (k : Nat) (Q : Nat → Lg) : Pf :=
  if 20000 < z.size ∨ 400 < K then ⟨0, 0, L, I, 0, 2⟩
  else if (bookB n m L I && (nameB z && legsB K Q)) = false then ⟨0, 0, L, I, 0, 1⟩
  else if thereB I z m k = true then ⟨0, 0, L, I, 0, 7⟩
  else if 100 ≤ m then ⟨0, 0, L, I, 0, 16⟩
  else if (postB n Q K 0 L).2.2 = 0 then ⟨n, m + 1, (postB n Q K 0 L).1, insT I k z, 0, 0⟩
  else ⟨0, 0, L, I, ((postB n Q K 0 L).2.1 : Int), (postB n Q K 0 L).2.2⟩
set_option maxRecDepth 100000 in
set_option maxHeartbeats 8000000 in
theorem bp_rest (g o g' o' n m cap cap' : Nat) (L : Nat → Ln) (I : Nat → Tx) (hn : n ≤ 1048576) (hm : m ≤ 1048576) (hf : ∀ i, i < n → (L i).fits) (hfi : ∀ i, i < m → (I i).fits) (z : ByteArray) (hz : z.size ≤ maxLen) (a : Option Addr) (K kc : Nat) (Q : Nat → Lg) (hK : K ≤ 1048576) (hfit : ∀ i, i < K → (Q i).fits) (k : Nat) (hk : idsB m I = true → IsMark I z m k) (w : World) (hL : Lay w) (h : LinesAt w (some ⟨g, o, none⟩) n L) (h' : TextsAt w (some ⟨g', o', none⟩) m I) (hQ : LegsAt w a K Q) (hs : ¬ (20000 < z.size ∨ 400 < K)) (hyes : (nameB z && legsB K Q) = true) :
    Calls Tryz.prog 9 #[.agg #[.slice (some ⟨g, o, none⟩) n cap, .slice (some ⟨g', o', none⟩) m cap'], .string z, .slice a K kc] w (BkOut w (postF n m K L I z k Q).N (postF n m K L I z k Q).K (postF n m K L I z k Q).L (postF n m K L I z k Q).I (postF n m K L I z k Q).p (postF n m K L I z k Q).cd) := by
  have HT0 : Hid (Bp w ((w.alloc (.cells #[.slice (some ⟨g, o, none⟩) n cap, .slice (some ⟨g', o', none⟩) m cap'] 31)).alloc (.cells #[.slice none 0 0, .slice none 0 0, .int .i64 0, .int .i64 0] 33)) #[.slice (some ⟨g, o, none⟩) n cap, .slice (some ⟨g', o', none⟩) m cap'] #[.slice none 0 0, .slice none 0 0, .int .i64 0, .int .i64 0]) := Bp.now _ _ _ _ _
  have s2 : w.heap.size ≤ w.heap.size + 1 := by omega
  have hnz : nameB z = true := by rw [Bool.and_eq_true] at hyes; exact hyes.1
  have hlq : legsB K Q = true := by rw [Bool.and_eq_true] at hyes; exact hyes.2
  obtain ⟨hK20, hQok⟩ := (legsB_iff K Q).1 hlq
  have HNM : Hid (∀ W, Calls Tryz.prog 27 #[.string z] W fun e w' => e = .returned (.bool (nameB z)) ∧ Below W.heap.size W w') := fun W => impl_name _ W hz
  have HLG : Hid (∀ W, LegsAt W a K Q → Calls Tryz.prog 28 #[.slice a K kc] W fun e w' => e = .returned (.bool (legsB K Q)) ∧ Below W.heap.size W w') := fun W hW => impl_legs a K kc Q hK hfit W hW
  rw [hnz] at HNM
  rw [hlq] at HLG
  have HQ : Hid (LegsAt w a K Q) := hQ
  have HLy : Hid (Lay w) := hL
  have HOE : Hid (∀ c, c ≠ 0 → ∀ (p : Int) (a : Option Addr) (n1 c1 : Nat) (b : Option Addr) (m1 d1 : Nat) W, Lay W → Calls Tryz.prog 31 #[.agg #[.slice a n1 c1, .slice b m1 d1], .int .i64 p, .iface 94 (.agg #[.int .i64 c])] W fun e w' => e = .returned (.agg #[.slice none 0 0, .slice none 0 0, .int .i64 p, .int .i64 c]) ∧ Below W.heap.size W w') := fun c hc p a n1 c1 b m1 d1 W hW => bout_err a n1 c1 b m1 d1 p c hc W hW
  have q0 : decide (20000 < z.size) = false := by simp; omega
  have q1 : decide ((20000 : Int) < (z.size : Int)) = false := by simp; omega
  have r0 : decide (400 < K) = false := by simp; omega
  have r1 : decide ((400 : Int) < (K : Int)) = false := by simp; omega
  have HF1 : Hid (postF n m K L I z k Q = if bookB n m L I = false then ⟨0, 0, L, I, 0, 1⟩ else if thereB I z m k = true then ⟨0, 0, L, I, 0, 7⟩
      else if 100 ≤ m then ⟨0, 0, L, I, 0, 16⟩ else if (postB n Q K 0 L).2.2 = 0 then ⟨n, m + 1, (postB n Q K 0 L).1, insT I k z, 0, 0⟩
      else ⟨0, 0, L, I, ((postB n Q K 0 L).2.1 : Int), (postB n Q K 0 L).2.2⟩) := by
    show _ = _
    unfold postF
    rw [if_neg hs, hyes, Bool.and_true]
  clear hs hyes hnz hlq hL
  cases hno : (linesB n L && idsB m I)
  · have HV : Hid (postF n m K L I z k Q = ⟨0, 0, L, I, 0, 1⟩) := by show _ = _; rw [HF1.out, if_pos (by unfold bookB; rw [hno]; rfl)]
    have HC : Hid (∀ W, Below w.heap.size w W → Calls Tryz.prog 29 #[.agg #[.slice (some ⟨g, o, none⟩) n cap, .slice (some ⟨g', o', none⟩) m cap']] W fun e w' => e = .returned (.tuple #[.agg #[.slice none 0 0, .slice none 0 0, .map none, .complex .f64 0 0], .iface 94 (.agg #[.int .i64 1])]) ∧ Below W.heap.size W w') := fun W hb => impl_ledger_no g o g' o' n m cap cap' L I hn hm hf hfi hno W (h.below hb) (h'.below hb)
    clear h h' hQ hf hfi hfit hk hno HF1 hQok
    go_enter Tryz.func9, Tryz.ntmps9
    go_wp2_with fail
    refine (HNM.out _).mono ?_
    rintro e w1 ⟨rfl, hb1⟩
    have HT1 : Hid (Bp w w1 #[.slice (some ⟨g, o, none⟩) n cap, .slice (some ⟨g', o', none⟩) m cap'] #[.slice none 0 0, .slice none 0 0, .int .i64 0, .int .i64 0]) := HT0.out.next hb1
    clear hb1
    go_wp2_with fail
    refine (HLG.out _ (HQ.out.below HT1.out.bel)).mono ?_
    rintro e w2 ⟨rfl, hb2⟩
    have HT2 : Hid (Bp w w2 #[.slice (some ⟨g, o, none⟩) n cap, .slice (some ⟨g', o', none⟩) m cap'] #[.slice none 0 0, .slice none 0 0, .int .i64 0, .int .i64 0]) := HT1.out.next hb2
    obtain ⟨b0, b1⟩ : _ ∧ _ := ⟨HT2.out.box 0, HT2.out.box 1⟩
    simp at b0 b1
    clear hb2 HT1
    go_wp2_with fail
    refine (HC.out _ HT2.out.bel).mono ?_
    rintro e w3 ⟨rfl, hb3⟩
    have T3 := HT2.out.next hb3
    have hal : Below w3.heap.size w3 (w3.alloc (.cells #[.slice none 0 0, .slice none 0 0, .map none, .complex .f64 0 0] 64)) := (Below.refl _ _).alloc (Nat.le_refl _) _
    have HT4 : Hid (Bp w (w3.alloc (.cells #[.slice none 0 0, .slice none 0 0, .map none, .complex .f64 0 0] 64)) #[.slice (some ⟨g, o, none⟩) n cap, .slice (some ⟨g', o', none⟩) m cap'] #[.slice none 0 0, .slice none 0 0, .int .i64 0, .int .i64 0]) := T3.next hal
    have hst := fun (W : World) (x y : Nat) (hc : W.cell? ⟨w3.heap.size, 3, none⟩ = some (.complex .f64 0 0)) (hf : W.frozen? ⟨w3.heap.size, 3, none⟩ = false) => store_cx ⟨w3.heap.size, 3, none⟩ x y _ W hc hf
    clear hb3 HC T3 hal HT2 HT0 HNM HLG
    go_wp2_with fail
    refine (HOE.out 1 (by first | decide | exact HNZ.out) 0 _ _ _ _ _ _ _ (HLy.out.below HT4.out.bel)).mono ?_
    rintro e w9 ⟨rfl, hb9⟩
    have T9 := HT4.out.next hb9
    obtain ⟨o0, o1, o2, o3⟩ : _ ∧ _ ∧ _ ∧ _ := ⟨T9.out 0, T9.out 1, T9.out 2, T9.out 3⟩
    have of := T9.ofr
    have HB9 : Hid (Below w.heap.size w w9) := T9.bel
    simp at o0 o1 o2 o3
    clear hb9 T9
    go_wp2_with fail
    refine bodyPost_ret (v := .agg #[.slice none 0 0, .slice none 0 0, .int .i64 0, .int .i64 1]) ?_ rfl ?_
    · simp [results, Tryz.results9, go_sem, o0, o1, o2, o3]
    · rw [HV.out]
      exact BkOut.err ((((HB9.out.setCell s2 _).setCell s2 _).setCell s2 _).setCell s2 _)
  · have hA : linesB n L = true := by cases hl : linesB n L; · rw [hl] at hno; cases hno
                                      · rfl
    have hJ : idsB m I = true := by rw [hA] at hno; exact hno
    obtain ⟨hn60, hok⟩ := (linesB_iff n L).1 hA
    obtain ⟨hm100, hokI⟩ := (idsB_iff m I).1 hJ
    have hp := hk hJ
    have HC : Hid (∀ W, Below w.heap.size w W → Calls Tryz.prog 29 _ W _) := fun W hb => impl_ledger_own g o g' o' n m cap cap' L I hf hfi hA hJ W (h.below hb) (h'.below hb)
    have HBK : Hid (bookB n m L I = (sumL L n == 0)) := by unfold bookB; rw [hno]; rfl
    clear h h' hQ hfi hk hno
    go_enter Tryz.func9, Tryz.ntmps9
    go_wp2_with fail
    refine (HNM.out _).mono ?_
    rintro e w1 ⟨rfl, hb1⟩
    have HT1 : Hid (Bp w w1 #[.slice (some ⟨g, o, none⟩) n cap, .slice (some ⟨g', o', none⟩) m cap'] #[.slice none 0 0, .slice none 0 0, .int .i64 0, .int .i64 0]) := HT0.out.next hb1
    clear hb1
    go_wp2_with fail
    refine (HLG.out _ (HQ.out.below HT1.out.bel)).mono ?_
    rintro e w2 ⟨rfl, hb2⟩
    have HT2 : Hid (Bp w w2 #[.slice (some ⟨g, o, none⟩) n cap, .slice (some ⟨g', o', none⟩) m cap'] #[.slice none 0 0, .slice none 0 0, .int .i64 0, .int .i64 0]) := HT1.out.next hb2
    obtain ⟨b0, b1⟩ : _ ∧ _ := ⟨HT2.out.box 0, HT2.out.box 1⟩
    simp at b0 b1
    clear hb2 HT1
    go_wp2_with fail
    refine (HC.out _ HT2.out.bel).mono ?_
    rintro e w3 ⟨a1, c1, a2, c2, M, fr, fi, er, rfl, her, hmp, hla, hb3, hrr, hMM, r, ri, rfl, rfl, hri, hr0, hr1⟩
    have T3 := HT2.out.next hb3
    have hn0 : w2.heap.size ≤ w3.heap.size := hb3.size
    have HBW : Hid (Below w2.heap.size w2 w3) := hb3
    have hn2 : w.heap.size + 2 ≤ w2.heap.size := HT2.out.size
    have hMlt : M < w3.heap.size := hmp.lt
    rcases her with ⟨rfl, hsm⟩ | ⟨rfl, hsm⟩
    · obtain rfl : r = ri := by omega
      have hal : Below w3.heap.size w3 (w3.alloc (.cells #[.slice a1 n c1, .slice a2 m c2, .map (some M), .complex .f64 (fl r) (fl r)] 64)) := (Below.refl _ _).alloc (Nat.le_refl _) _
      have HT4 : Hid (Bp w (w3.alloc (.cells #[.slice a1 n c1, .slice a2 m c2, .map (some M), .complex .f64 (fl r) (fl r)] 64)) #[.slice (some ⟨g, o, none⟩) n cap, .slice (some ⟨g', o', none⟩) m cap'] #[.slice none 0 0, .slice none 0 0, .int .i64 0, .int .i64 0]) := T3.next hal
      have HLS : Hid (LS (w3.alloc (.cells #[.slice a1 n c1, .slice a2 m c2, .map (some M), .complex .f64 (fl r) (fl r)] 64)) w2.heap.size w3.heap.size a1 n c1 L a2 m c2 I M r r) := ⟨⟨by simp, by simp, by simp, by simp, fun j => fnew' rfl j, by simp⟩, hrr.below hal, hmp.alloc _, fun k e => ⟨by have := hrr.lt1 k e; omega, hMM.2.1 k e⟩, fun k e => ⟨by have := hrr.lt2 k e; omega, hMM.2.2 k e⟩, by omega, hn0⟩
      have HB4 : Hid (Below w2.heap.size w2 (w3.alloc (.cells #[.slice a1 n c1, .slice a2 m c2, .map (some M), .complex .f64 (fl r) (fl r)] 64))) := hb3.trans (hal.mono hn0)
      have HBK' : Hid (bookB n m L I = true) := by show _ = _; rw [HBK.out, hsm]; rfl
      have hB4 : w2.heap.size ≤ ((w3.alloc (.cells #[.slice a1 n c1, .slice a2 m c2, .map (some M), .complex .f64 (fl r) (fl r)] 64))).heap.size := by simp; omega
      have hr60 : r ≤ 60000000000000 := by omega
      have hst := fun (W : World) (x y : Nat) (hc : W.cell? ⟨w3.heap.size, 3, none⟩ = some (.complex .f64 0 0)) (hf : W.frozen? ⟨w3.heap.size, 3, none⟩ = false) => store_cx ⟨w3.heap.size, 3, none⟩ x y _ W hc hf
      clear hb3 HC T3 hal HT0 HNM HLG hmp hla hrr hMM hri hr0 hr1 hsm HBW HBK
      cases hth : thereB I z m k with
      | true =>
        have HV : Hid (postF n m K L I z k Q = ⟨0, 0, L, I, 0, 7⟩) := by show _ = _; rw [HF1.out, if_neg (by rw [HBK'.out]; decide), if_pos hth]
        have HM : Hid (Calls Tryz.prog 30 _ _ _) := mark_there w2.heap.size w3.heap.size a1 n c1 L a2 m c2 I M r r z k hm100 hp hth _ HLS.out
        clear hok hf hp hokI hfit hQok HF1 HLS
        go_wp2_with fail
        refine HM.out.mono ?_
        rintro e w5 ⟨rfl, hS5, hb5⟩
        have HT5 : Hid (Bp w w5 #[.slice (some ⟨g, o, none⟩) n cap, .slice (some ⟨g', o', none⟩) m cap'] #[.slice none 0 0, .slice none 0 0, .int .i64 0, .int .i64 0]) := HT4.out.next hb5
        clear hb5 hS5 HM HT4
        simp only [errV]
        go_wp2_with fail
        refine (HOE.out 7 (by first | decide | exact HNZ.out) 0 _ _ _ _ _ _ _ (HLy.out.below HT5.out.bel)).mono ?_
        rintro e w9 ⟨rfl, hb9⟩
        have T9 := HT5.out.next hb9
        obtain ⟨o0, o1, o2, o3⟩ : _ ∧ _ ∧ _ ∧ _ := ⟨T9.out 0, T9.out 1, T9.out 2, T9.out 3⟩
        have of := T9.ofr
        have HB9 : Hid (Below w.heap.size w w9) := T9.bel
        simp at o0 o1 o2 o3
        clear hb9 T9
        go_wp2_with fail
        refine bodyPost_ret (v := .agg #[.slice none 0 0, .slice none 0 0, .int .i64 0, .int .i64 7]) ?_ rfl ?_
        · simp [results, Tryz.results9, go_sem, o0, o1, o2, o3]
        · rw [HV.out]
          exact BkOut.err ((((HB9.out.setCell s2 _).setCell s2 _).setCell s2 _).setCell s2 _)
      | false =>
        by_cases hfull : 100 ≤ m
        · have HV : Hid (postF n m K L I z k Q = ⟨0, 0, L, I, 0, 16⟩) := by show _ = _; rw [HF1.out, if_neg (by rw [HBK'.out]; decide), if_neg (by rw [hth]; decide), if_pos hfull]
          have HM : Hid (Calls Tryz.prog 30 _ _ _) := mark_full w2.heap.size w3.heap.size a1 n c1 L a2 m c2 I M r r z k hm100 hp hth hfull _ HLS.out
          clear hok hf hp hokI hfit hQok HF1 HLS
          go_wp2_with fail
          refine HM.out.mono ?_
          rintro e w5 ⟨rfl, hS5, hb5⟩
          have HT5 : Hid (Bp w w5 #[.slice (some ⟨g, o, none⟩) n cap, .slice (some ⟨g', o', none⟩) m cap'] #[.slice none 0 0, .slice none 0 0, .int .i64 0, .int .i64 0]) := HT4.out.next hb5
          clear hb5 hS5 HM HT4
          simp only [errV]
          go_wp2_with fail
          refine (HOE.out 16 (by first | decide | exact HNZ.out) 0 _ _ _ _ _ _ _ (HLy.out.below HT5.out.bel)).mono ?_
          rintro e w9 ⟨rfl, hb9⟩
          have T9 := HT5.out.next hb9
          obtain ⟨o0, o1, o2, o3⟩ : _ ∧ _ ∧ _ ∧ _ := ⟨T9.out 0, T9.out 1, T9.out 2, T9.out 3⟩
          have of := T9.ofr
          have HB9 : Hid (Below w.heap.size w w9) := T9.bel
          simp at o0 o1 o2 o3
          clear hb9 T9
          go_wp2_with fail
          refine bodyPost_ret (v := .agg #[.slice none 0 0, .slice none 0 0, .int .i64 0, .int .i64 16]) ?_ rfl ?_
          · simp [results, Tryz.results9, go_sem, o0, o1, o2, o3]
          · rw [HV.out]
            exact BkOut.err ((((HB9.out.setCell s2 _).setCell s2 _).setCell s2 _).setCell s2 _)
        · have HM : Hid (Calls Tryz.prog 30 _ _ _) := mark_ok w2.heap.size w3.heap.size a1 n c1 L a2 m c2 I M r r z k hm100 hp hth (by omega) _ hB4 HLS.out
          have HPO : Hid (∀ (a2' : Option Addr) (c2' : Nat) (W : World), Below w2.heap.size w2 W → LS W w2.heap.size w3.heap.size a1 n c1 L a2' (m + 1) c2' (insT I k z) M r r → Calls Tryz.prog 32 _ W _) := fun a2' c2' W hb hS => impl_post w2.heap.size w3.heap.size a1 n c1 L a2' (m + 1) c2' (insT I k z) M r r a K kc Q hK20 hfit hQok hr60 rfl hok hf w2 W rfl hb (HQ.out.below HT2.out.bel) hS
          have HV : Hid (postF n m K L I z k Q = if (postB n Q K 0 L).2.2 = 0 then ⟨n, m + 1, (postB n Q K 0 L).1, insT I k z, 0, 0⟩ else ⟨0, 0, L, I, ((postB n Q K 0 L).2.1 : Int), (postB n Q K 0 L).2.2⟩) := by show _ = _; rw [HF1.out, if_neg (by rw [HBK'.out]; decide), if_neg (by rw [hth]; decide), if_neg hfull]
          have HOO : Hid (∀ (p : Int) (a : Option Addr) (n1 c1 : Nat) (b : Option Addr) (m1 d1 : Nat) W, Calls Tryz.prog 31 #[.agg #[.slice a n1 c1, .slice b m1 d1], .int .i64 p, .nilIface] W fun e w' => e = .returned (.agg #[.slice a n1 c1, .slice b m1 d1, .int .i64 0, .int .i64 0]) ∧ Below W.heap.size W w') := fun p a n1 c1 b m1 d1 W => bout_ok a n1 c1 b m1 d1 p W
          clear hok hf hp hokI hfit hQok HF1 HLS
          generalize postB n Q K 0 L = PB at *
          obtain ⟨LL, pp, cd⟩ := PB
          go_wp2_with fail
          refine HM.out.mono ?_
          rintro e w5 ⟨rfl, ⟨a2', c2', hS5⟩, hb5⟩
          have HT5 : Hid (Bp w w5 #[.slice (some ⟨g, o, none⟩) n cap, .slice (some ⟨g', o', none⟩) m cap'] #[.slice none 0 0, .slice none 0 0, .int .i64 0, .int .i64 0]) := HT4.out.low (hb5.mono hn2)
          have HP5 : Hid (Calls Tryz.prog 32 _ _ _) := HPO.out a2' c2' w5 (HB4.out.trans hb5) hS5
          clear hb5 hS5 HM HT4 HPO
          go_wp2_with fail
          refine HP5.out.mono ?_
          rintro e w6 ⟨L', r', s', hS6, hb6, hL', rfl⟩
          have HT6 : Hid (Bp w w6 #[.slice (some ⟨g, o, none⟩) n cap, .slice (some ⟨g', o', none⟩) m cap'] #[.slice none 0 0, .slice none 0 0, .int .i64 0, .int .i64 0]) := HT5.out.low (hb6.mono hn2)
          have HL' : Hid (cd = 0 → L' = LL) := hL'
          have HR6 : Hid (Rows2 w6 w2.heap.size a1 n c1 L' a2' (m + 1) c2' (insT I k z)) := hS6.rows
          obtain ⟨d0, d1, d2, d3, df, dlt⟩ := hS6.led
          clear hb6 hS6 hL' HP5 HT5
          by_cases hcd : cd = 0
          · subst hcd
            have hLL := HL'.out rfl
            have HV : Hid (postF n m K L I z k Q = ⟨n, m + 1, LL, insT I k z, 0, 0⟩) := HV.out
            subst hLL
            simp only [errOf]
            go_wp2_with fail
            refine (HOO.out _ _ _ _ _ _ _ _).mono ?_
            rintro e w9 ⟨rfl, hb9⟩
            have T9 := HT6.out.next hb9
            have HR9 : Hid (Rows2 w9 w2.heap.size a1 n c1 L' a2' (m + 1) c2' (insT I k z)) := HR6.out.below hb9
            obtain ⟨o0, o1, o2, o3⟩ : _ ∧ _ ∧ _ ∧ _ := ⟨T9.out 0, T9.out 1, T9.out 2, T9.out 3⟩
            have of := T9.ofr
            have HB9 : Hid (Below w.heap.size w w9) := T9.bel
            simp at o0 o1 o2 o3
            clear hb9 T9 d0 d1 d2 d3 df dlt
            go_wp2_with fail
            refine bodyPost_ret (v := .agg #[.slice a1 n c1, .slice a2' (m + 1) c2', .int .i64 0, .int .i64 0]) ?_ rfl ?_
            · simp [results, Tryz.results9, go_sem, o0, o1, o2, o3]
            · rw [HV.out]
              have q1 : ∀ j, a1.map Addr.block = some j → j ≠ w.heap.size + 1 := fun j e => by have := (HR9.out.lt1 j e).1; omega
              have q2 : ∀ j, a2'.map Addr.block = some j → j ≠ w.heap.size + 1 := fun j e => by have := (HR9.out.lt2 j e).1; omega
              exact ⟨a1, c1, a2', c2', rfl, ((((own_linesR HR9.out.r1).set4 q1).set4 q1).set4 q1).set4 q1, ((((own_textsR HR9.out.r2).set4 q2).set4 q2).set4 q2).set4 q2, fun j e => by have := HR9.out.lt1 j e; simp; omega, fun j e => by have := HR9.out.lt2 j e; simp; omega, HR9.out.ne, (((HB9.out.setCell s2 _).setCell s2 _).setCell s2 _).setCell s2 _⟩
          · have HNZ : Hid (cd ≠ 0) := hcd
            have HV : Hid (postF n m K L I z k Q = ⟨0, 0, L, I, (pp : Int), cd⟩) := by have := HV.out; rw [if_neg hcd] at this; exact this
            simp only [errOf]
            rw [if_neg hcd]
            clear hcd HL'
            simp only [errV]
            go_wp2_with fail
            refine (HOE.out cd (by first | decide | exact HNZ.out) (pp : Int) _ _ _ _ _ _ _ (HLy.out.below HT6.out.bel)).mono ?_
            rintro e w9 ⟨rfl, hb9⟩
            have T9 := HT6.out.next hb9
            obtain ⟨o0, o1, o2, o3⟩ : _ ∧ _ ∧ _ ∧ _ := ⟨T9.out 0, T9.out 1, T9.out 2, T9.out 3⟩
            have of := T9.ofr
            have HB9 : Hid (Below w.heap.size w w9) := T9.bel
            simp at o0 o1 o2 o3
            clear hb9 T9
            go_wp2_with fail
            refine bodyPost_ret (v := .agg #[.slice none 0 0, .slice none 0 0, .int .i64 (pp : Int), .int .i64 cd]) ?_ rfl ?_
            · simp [results, Tryz.results9, go_sem, o0, o1, o2, o3]
            · rw [HV.out]
              exact BkOut.err ((((HB9.out.setCell s2 _).setCell s2 _).setCell s2 _).setCell s2 _)
    · have HV : Hid (postF n m K L I z k Q = ⟨0, 0, L, I, 0, 1⟩) := by show _ = _; rw [HF1.out, if_pos (by rw [HBK.out]; exact beq_eq_false_iff_ne.2 hsm)]
      have hal : Below w3.heap.size w3 (w3.alloc (.cells #[.slice a1 n c1, .slice a2 m c2, .map (some M), .complex .f64 (fl r) (fl ri)] 64)) := (Below.refl _ _).alloc (Nat.le_refl _) _
      have HT4 : Hid (Bp w (w3.alloc (.cells #[.slice a1 n c1, .slice a2 m c2, .map (some M), .complex .f64 (fl r) (fl ri)] 64)) #[.slice (some ⟨g, o, none⟩) n cap, .slice (some ⟨g', o', none⟩) m cap'] #[.slice none 0 0, .slice none 0 0, .int .i64 0, .int .i64 0]) := T3.next hal
      have hst := fun (W : World) (x y : Nat) (hc : W.cell? ⟨w3.heap.size, 3, none⟩ = some (.complex .f64 0 0)) (hf : W.frozen? ⟨w3.heap.size, 3, none⟩ = false) => store_cx ⟨w3.heap.size, 3, none⟩ x y _ W hc hf
      clear hb3 HC T3 hal HT0 HNM HLG hmp hla hrr hMM hri hr0 hr1 hsm HBW HBK hok hf hp hokI hfit hQok HF1
      go_wp2_with fail
      refine (HOE.out 1 (by first | decide | exact HNZ.out) 0 _ _ _ _ _ _ _ (HLy.out.below HT4.out.bel)).mono ?_
      rintro e w9 ⟨rfl, hb9⟩
      have T9 := HT4.out.next hb9
      obtain ⟨o0, o1, o2, o3⟩ : _ ∧ _ ∧ _ ∧ _ := ⟨T9.out 0, T9.out 1, T9.out 2, T9.out 3⟩
      have of := T9.ofr
      have HB9 : Hid (Below w.heap.size w w9) := T9.bel
      simp at o0 o1 o2 o3
      clear hb9 T9
      go_wp2_with fail
      refine bodyPost_ret (v := .agg #[.slice none 0 0, .slice none 0 0, .int .i64 0, .int .i64 1]) ?_ rfl ?_
      · simp [results, Tryz.results9, go_sem, o0, o1, o2, o3]
      · rw [HV.out]
        exact BkOut.err ((((HB9.out.setCell s2 _).setCell s2 _).setCell s2 _).setCell s2 _)
end Go.Proofs.YtepkmbfedblhdaaGreatDoor
namespace Go.Proofs.YtepkmbfedblhdaaGreatDoor
open Go.RowKit Go.Lib
open Go.Proofs.YtepkmbfedblhdaaGreatDoor.Draw

/-- An append whose run is known, as a step of a region that draws. -/
theorem step_appl {ops : Array Oper} {o : Oper} {a : Act} {w : World} {K : Act → World → Prop} {Q : Exit → Act → World → Prop} {E : Prop} (hg : o.guard = none) (d x : Operand) (t : TypeId) (ho : o.op = .call { callee := .builtin .append, args := #[d, x], argTypes := #[t, t] })
    (v u : Value) (hd : a.eval d = v) (hx : a.eval x = u) {v' : Value} {w' : World} (hr : (Builtin.append_ #[t, t] o.type #[v, u]).run Tryz.prog w = .ok v' w') (hK : K (a.put o.dst v') w') :
    if Region.wanted o (yielded ops a.tmps) = true then Oper.wp Tryz.prog o a w K Q else E := by
  have hw : Region.wanted o (yielded ops a.tmps) = true := by simp [Region.wanted, hg]
  rw [if_pos hw]
  unfold Oper.wp
  simp [execOp, ho, resolve, invoke, builtin, hd, hx, hr, Result.andThen]
  exact hK
theorem LinesAt.less {w : World} {a : Option Addr} {n k : Nat} {L : Nat → Ln} (h : LinesAt w a n L) (hk : k ≤ n) : LinesAt w a k L := by
  rcases h with h | ⟨g, o, rfl, hg, hc⟩
  · exact Or.inl (by omega)
  · exact Or.inr ⟨g, o, rfl, hg, fun i hi => hc i (by omega)⟩
theorem take_lines (L : Nat → Ln) (k n : Nat) (hk : k ≤ n) : (linesC L n).take (k * 3) = linesC L k := by
  apply List.ext_getElem?
  intro j
  rw [List.getElem?_take]
  by_cases hj : j < k * 3
  · rw [if_pos hj, linesC_at _ _ _ (by omega), linesC_at _ _ _ hj]
  · rw [if_neg hj, List.getElem?_eq_none (by rw [linesC_len]; omega)]
theorem ones_drop (L : Nat → Ln) (n i : Nat) : ∀ u ∈ (linesC L n).drop i, u.oneCell' = true := fun u hu => ones_lines L n u (List.mem_of_mem_drop hu)
/-- A block of a book's two lists. -/
structure Ox (W : World) (X : Nat) (u v : Value) : Prop where
  c0 : W.cell? ⟨X, 0, none⟩ = some u
  c1 : W.cell? ⟨X, 1, none⟩ = some v
  fz : ∀ j, W.frozen? ⟨X, j, none⟩ = false
  lt : X < W.heap.size
theorem Ox.new (w : World) (u v : Value) (t : TypeId) : Ox (w.alloc (.cells #[u, v] t)) w.heap.size u v := ⟨by simp, by simp, fun j => fnew' rfl j, by simp⟩
theorem Ox.below {W W' : World} {X : Nat} {u v : Value} (h : Ox W X u v) (hb : Below W.heap.size W W') : Ox W' X u v := ⟨(hb.cell (p := ⟨X, 0, none⟩) h.lt).trans h.c0, (hb.cell (p := ⟨X, 1, none⟩) h.lt).trans h.c1, fun j => (hb.frozen (p := ⟨X, j, none⟩) h.lt).trans (h.fz j), Nat.lt_of_lt_of_le h.lt hb.size⟩
theorem Ox.grown {W W' : World} {X : Nat} {u v : Value} {row : Option Nat} (h : Ox W X u v) (hg : W.grownBy W' row) (hne : some X ≠ row) : Ox W' X u v := by
  have hb := hg.block X h.lt hne
  exact ⟨(World.cell?_of_block (a := ⟨X, 0, none⟩) hb).trans h.c0, (World.cell?_of_block (a := ⟨X, 1, none⟩) hb).trans h.c1, fun j => (World.frozen?_of_block (a := ⟨X, j, none⟩) hb).trans (h.fz j), Nat.lt_of_lt_of_le h.lt hg.size⟩
theorem Ox.set0 {W : World} {X : Nat} {u v : Value} (h : Ox W X u v) (z : Value) : Ox (W.setCell ⟨X, 0, none⟩ z) X z v := by
  have a0 := h.c0
  exact ⟨by simp [go_sem, a0], by rw [World.cell?_setCell_other _ _ _ _ (by simp)]; exact h.c1, fun j => by simp only [World.frozen?_setCell]; exact h.fz j, by simpa using h.lt⟩
end Go.Proofs.YtepkmbfedblhdaaGreatDoor
namespace Go.Proofs.YtepkmbfedblhdaaGreatDoor
open Go.RowKit
open Go.Proofs.YtepkmbfedblhdaaGreatDoor.Draw

theorem row_first {w : World} {B e size N c l b d : Nat} {ad a : Option Addr} {xs : List Value} {z : ByteArray} (h : w.ownsRow B e size (.slice ad N c) N xs) (h0 : xs[0]? = some (.string z)) (hc : w.cell? ⟨l, 0, none⟩ = some (.slice a b d)) (k : Nat) (e' : ad.map Addr.block = some k) : k ≠ l := by
  rintro rfl
  have h1 := h.cells (g := k) (by rw [ownBlock_map]; exact e') 0 _ h0
  rw [add_off, hc] at h1
  simp at h1
theorem first_lines (L : Nat → Ln) (K : Nat) (x y : ByteArray) (xs : List Value) : ∃ z, (linesC L K ++ [.string x, .string y, .int .i64 0] ++ xs)[0]? = some (.string z) := by
  cases K with
  | zero => exact ⟨x, rfl⟩
  | succ K => exact ⟨(L 0).a, by rw [List.append_assoc, List.getElem?_append_left (by rw [linesC_len]; omega), linesC_at L (K + 1) 0 (by omega)]; rfl⟩

end Go.Proofs.YtepkmbfedblhdaaGreatDoor
namespace Go.Proofs.YtepkmbfedblhdaaGreatDoor
open Go.RowKit Go.Lib
open Go.Proofs.YtepkmbfedblhdaaGreatDoor.Draw

/-- An append whose run is known to come to something, as a step of a region that draws. -/
theorem step_appx {ops : Array Oper} {o : Oper} {a : Act} {w : World} {K : Act → World → Prop} {Q : Exit → Act → World → Prop} {E : Prop} (hg : o.guard = none) (d x : Operand) (t : TypeId) (ho : o.op = .call { callee := .builtin .append, args := #[d, x], argTypes := #[t, t] })
    (v u : Value) (hd : a.eval d = v) (hx : a.eval x = u) {Post : Value → World → Prop} (hr : ∃ v' w', (Builtin.append_ #[t, t] o.type #[v, u]).run Tryz.prog w = .ok v' w' ∧ Post v' w') (hK : ∀ v' w', Post v' w' → K (a.put o.dst v') w') :
    if Region.wanted o (yielded ops a.tmps) = true then Oper.wp Tryz.prog o a w K Q else E := by
  obtain ⟨v', w', hr, hp⟩ := hr
  exact step_appl hg d x t ho v u hd hx hr (hK v' w' hp)
theorem app_lines (W : World) (B G : Nat) (a : Option Addr) (n cap : Nat) (L : Nat → Ln) (hn : n ≤ 1024) (hBW : B ≤ W.heap.size) (hO : W.ownsRow B 84 3 (.slice (some ⟨G, 0, none⟩) 0 0) 0 []) (h : LinesAt W a n L) :
    ∃ v' w', (Builtin.append_ #[29, 29] 29 #[.slice (some ⟨G, 0, none⟩) 0 0, .slice a n cap]).run Tryz.prog W = .ok v' w' ∧ ∃ a' c', v' = .slice a' n c' ∧ w'.ownsRow B 84 3 (.slice a' n c') n (linesC L n) ∧ W.grownBy w' (some G) := by
  obtain ⟨i0, hi, hz0, hz1, hz2⟩ := info_parts infoLn
  rcases Nat.eq_zero_or_pos n with h0 | hpos
  · subst h0
    refine ⟨_, _, ?_, _, _, rfl, hO, World.grownBy.refl _ _⟩
    cases a <;> simp [Builtin.append_, run_underlying Tryz.underlying29, sizeOf, typeInfo, hi, Builtin.lenOf, Builtin.firstCells, storeCells, loadCells, loadCellsFrom]
  · rcases h with e | ⟨b, o, rfl, hb, hc⟩
    · omega
    have hT : LinesAt W (some ⟨b, o, none⟩) n L := Or.inr ⟨b, o, rfl, hb, hc⟩
    obtain ⟨g2, c2, w', hr, hown, hgr, _, _⟩ := run_append_lies (P := Tryz.prog) W 29 29 B 84 i0 (.agg #[.string ⟨#[]⟩, .string ⟨#[]⟩, .int .i64 0]) 3 40 Tryz.underlying29 hi hz0 hz1 hz2 rfl (by decide) _ 0 [] hO ⟨b, o, none⟩ n cap (linesC L n) (linesC_len L n) (news_lines hT) (ones_lines L n) hpos (by unfold maxLen; omega) (by omega) hBW _ rfl
    rw [Nat.zero_add] at hr hown
    rw [List.nil_append] at hown
    exact ⟨_, w', hr, _, _, rfl, hown, by simpa [Value.ownBlock] using hgr⟩
theorem app_texts (W : World) (B G : Nat) (a : Option Addr) (n cap : Nat) (I : Nat → Tx) (hn : n ≤ 1024) (hBW : B ≤ W.heap.size) (hO : W.ownsRow B 9 1 (.slice (some ⟨G, 0, none⟩) 0 0) 0 []) (h : TextsAt W a n I) :
    ∃ v' w', (Builtin.append_ #[23, 23] 23 #[.slice (some ⟨G, 0, none⟩) 0 0, .slice a n cap]).run Tryz.prog W = .ok v' w' ∧ ∃ a' c', v' = .slice a' n c' ∧ w'.ownsRow B 9 1 (.slice a' n c') n (textsC I n) ∧ W.grownBy w' (some G) := by
  obtain ⟨i0, hi, hz0, hz1, hz2⟩ := info_parts infoTx
  rcases Nat.eq_zero_or_pos n with h0 | hpos
  · subst h0
    refine ⟨_, _, ?_, _, _, rfl, hO, World.grownBy.refl _ _⟩
    cases a <;> simp [Builtin.append_, run_underlying Tryz.underlying23, sizeOf, typeInfo, hi, Builtin.lenOf, Builtin.firstCells, storeCells, loadCells, loadCellsFrom]
  · rcases h with e | ⟨b, o, rfl, hb, hc⟩
    · omega
    have hT : TextsAt W (some ⟨b, o, none⟩) n I := Or.inr ⟨b, o, rfl, hb, hc⟩
    obtain ⟨g2, c2, w', hr, hown, hgr, _, _⟩ := run_append_lies (P := Tryz.prog) W 23 23 B 9 i0 (.string ⟨#[]⟩) 1 16 Tryz.underlying23 hi hz0 hz1 hz2 rfl (by decide) _ 0 [] hO ⟨b, o, none⟩ n cap (textsC I n) (textsC_len I n) (news_texts hT) (ones_texts I n) hpos (by unfold maxLen; omega) (by omega) hBW _ rfl
    rw [Nat.zero_add] at hr hown
    rw [List.nil_append] at hown
    exact ⟨_, w', hr, _, _, rfl, hown, by simpa [Value.ownBlock] using hgr⟩
set_option maxRecDepth 100000 in
set_option maxHeartbeats 8000000 in
theorem spec_copy (g o g' o' n m cap cap' : Nat) (L : Nat → Ln) (I : Nat → Tx) (hn : n ≤ 60) (hm : m ≤ 100) (w : World) (h : LinesAt w (some ⟨g, o, none⟩) n L) (h' : TextsAt w (some ⟨g', o', none⟩) m I) :
    Calls Tryz.prog 66 #[.agg #[.slice (some ⟨g, o, none⟩) n cap, .slice (some ⟨g', o', none⟩) m cap']] w fun e w' => ∃ a c b d, e = .returned (.agg #[.slice a n c, .slice b m d]) ∧ Rows2 w' (w.heap.size + 2) a n c L b m d I ∧ Below w.heap.size w w' := by
  have hT0 : Below w.heap.size w ((w.alloc (.cells #[.slice (some ⟨g, o, none⟩) n cap, .slice (some ⟨g', o', none⟩) m cap'] 31)).alloc (.cells #[.slice none 0 0, .slice none 0 0] 31)) := ((Below.refl _ _).alloc (Nat.le_refl _) _).alloc (by simp) _
  have hT1 := two_now w #[.slice (some ⟨g, o, none⟩) n cap, .slice (some ⟨g', o', none⟩) m cap'] #[.slice none 0 0, .slice none 0 0] 31 31
  have b0 := hT1.box 0
  have b1 := hT1.box 1
  have r0 := hT1.res 0
  have r1 := hT1.res 1
  have rf : ∀ j, (((w.alloc (.cells #[.slice (some ⟨g, o, none⟩) n cap, .slice (some ⟨g', o', none⟩) m cap'] 31)).alloc (.cells #[.slice none 0 0, .slice none 0 0] 31))).frozen? ⟨w.heap.size + 1, j, none⟩ = false := fun j => fnew' (by simp) j
  simp only [List.getElem?_toArray, List.getElem?_cons_zero, List.getElem?_cons_succ] at b0 b1 r0 r1
  have hq : w.heap.size + 1 + 1 = (((w.alloc (.cells #[.slice (some ⟨g, o, none⟩) n cap, .slice (some ⟨g', o', none⟩) m cap'] 31)).alloc (.cells #[.slice none 0 0, .slice none 0 0] 31))).heap.size := by simp
  obtain ⟨W0, hW0⟩ : ∃ W, W = ((w.alloc (.cells #[.slice (some ⟨g, o, none⟩) n cap, .slice (some ⟨g', o', none⟩) m cap'] 31)).alloc (.cells #[.slice none 0 0, .slice none 0 0] 31)) := ⟨_, rfl⟩
  rw [← hW0] at hT0 b0 b1 r0 r1 rf hq
  have HA1 : Hid (∀ W G, Below (w.heap.size + 2) W0 W → W.ownsRow (w.heap.size + 2) 84 3 (.slice (some ⟨G, 0, none⟩) 0 0) 0 [] → ∃ v' w', (Builtin.append_ #[29, 29] 29 #[.slice (some ⟨G, 0, none⟩) 0 0, .slice (some ⟨g, o, none⟩) n cap]).run Tryz.prog W = .ok v' w' ∧ ∃ a' c', v' = .slice a' n c' ∧ w'.ownsRow (w.heap.size + 2) 84 3 (.slice a' n c') n (linesC L n) ∧ W.grownBy w' (some G) ∧ w.heap.size + 2 ≤ G ∧ Below (w.heap.size + 2) W0 w' ∧ ∀ (b : Option Addr) (m' d' : Nat) (ys : List Value), W.ownsRow (w.heap.size + 2) 9 1 (.slice b m' d') m' ys → w'.ownsRow (w.heap.size + 2) 9 1 (.slice b m' d') m' ys) := fun W G hb hO => by
    have hs : w.heap.size + 2 ≤ W.heap.size := by have := hb.size; omega
    obtain ⟨v', w', hr, a', c', e, ho, hg⟩ := app_lines W _ G _ n cap L (by omega) hs hO (h.below (hT0.trans (hb.mono (by omega))))
    have hG := (hO.lt G rfl).1
    exact ⟨v', w', hr, a', c', e, ho, hg, hG, hb.grown hg hs (fun k e => by simp at e; omega), fun b m' d' ys hy => hy.kept hg (by
      rw [ownBlock_map]
      cases e : b.map Addr.block with
      | none => exact Or.inl rfl
      | some j => exact Or.inr (fun e' => rows_apart hO hy j (by rw [e']; rfl) e))⟩
  have HA2 : Hid (∀ W G, Below (w.heap.size + 2) W0 W → W.ownsRow (w.heap.size + 2) 9 1 (.slice (some ⟨G, 0, none⟩) 0 0) 0 [] → ∃ v' w', (Builtin.append_ #[23, 23] 23 #[.slice (some ⟨G, 0, none⟩) 0 0, .slice (some ⟨g', o', none⟩) m cap']).run Tryz.prog W = .ok v' w' ∧ ∃ a' c', v' = .slice a' m c' ∧ w'.ownsRow (w.heap.size + 2) 9 1 (.slice a' m c') m (textsC I m) ∧ W.grownBy w' (some G) ∧ w.heap.size + 2 ≤ G ∧ Below (w.heap.size + 2) W0 w' ∧ ∀ (b : Option Addr) (m' d' : Nat) (ys : List Value), W.ownsRow (w.heap.size + 2) 84 3 (.slice b m' d') m' ys → w'.ownsRow (w.heap.size + 2) 84 3 (.slice b m' d') m' ys) := fun W G hb hO => by
    have hs : w.heap.size + 2 ≤ W.heap.size := by have := hb.size; omega
    obtain ⟨v', w', hr, a', c', e, ho, hg⟩ := app_texts W _ G _ m cap' I (by omega) hs hO (h'.below (hT0.trans (hb.mono (by omega))))
    have hG := (hO.lt G rfl).1
    exact ⟨v', w', hr, a', c', e, ho, hg, hG, hb.grown hg hs (fun k e => by simp at e; omega), fun b m' d' ys hy => hy.kept hg (by
      rw [ownBlock_map]
      cases e : b.map Addr.block with
      | none => exact Or.inl rfl
      | some j => exact Or.inr (fun e' => rows_apart hy hO j e (by rw [e']; rfl)))⟩
  have HCL : Hid (∀ W, Below (w.heap.size + 2) W0 W → W.cell? ⟨w.heap.size, 0, none⟩ = some (.slice (some ⟨g, o, none⟩) n cap) ∧ W.cell? ⟨w.heap.size, 1, none⟩ = some (.slice (some ⟨g', o', none⟩) m cap') ∧ W.cell? ⟨w.heap.size + 1, 0, none⟩ = some (.slice none 0 0) ∧ W.cell? ⟨w.heap.size + 1, 1, none⟩ = some (.slice none 0 0) ∧ (∀ j, W.frozen? ⟨w.heap.size + 1, j, none⟩ = false) ∧ w.heap.size + 2 ≤ W.heap.size ∧ W.heap.size ≠ w.heap.size ∧ W.heap.size ≠ w.heap.size + 1 ∧ W.heap.size + 1 ≠ w.heap.size ∧ W.heap.size + 1 ≠ w.heap.size + 1 ∧ w.heap.size ≠ W.heap.size ∧ w.heap.size + 1 ≠ W.heap.size ∧ w.heap.size < W.heap.size ∧ w.heap.size + 1 < W.heap.size) := fun W hb =>
    ⟨(hb.cell (p := ⟨w.heap.size, 0, none⟩) (by show w.heap.size < _; omega)).trans b0, (hb.cell (p := ⟨w.heap.size, 1, none⟩) (by show w.heap.size < _; omega)).trans b1, (hb.cell (p := ⟨w.heap.size + 1, 0, none⟩) (by show w.heap.size + 1 < _; omega)).trans r0, (hb.cell (p := ⟨w.heap.size + 1, 1, none⟩) (by show w.heap.size + 1 < _; omega)).trans r1, fun j => (hb.frozen (p := ⟨w.heap.size + 1, j, none⟩) (by show w.heap.size + 1 < _; omega)).trans (rf j), by have := hb.size; omega, by have := hb.size; omega, by have := hb.size; omega, by have := hb.size; omega, by have := hb.size; omega, by have := hb.size; omega, by have := hb.size; omega, by have := hb.size; omega, by have := hb.size; omega⟩
  have mixed : Tryz.prog.follows Departure.mixedOrders = true := by kernel_rfl
  clear h h' hT1
  go_enter Tryz.func66, Tryz.ntmps66
  go_upto_region 1 with fail
  rw [← hW0]
  have HQ : Hid (w.heap.size + 1 + 1 = W0.heap.size) := hq
  obtain ⟨x0, x1, y0, y1, yf, ys, nn0, nn1, nn2, nn3, nn4, nn5, nn6, nn7⟩ := HCL.out W0 (Below.refl _ _)
  clear hW0 hq b0 b1 r0 r1 rf
  go_region_held3 (fun W => W.cell? ⟨w.heap.size, 0, none⟩ = some (.slice (some ⟨g, o, none⟩) n cap) ∧ W.cell? ⟨w.heap.size, 1, none⟩ = some (.slice (some ⟨g', o', none⟩) m cap')) (go_keep) (first | (refine step_appx (by rfl) (.tmp 3) (.tmp 5) 29 (by rfl) _ _ (by rfl) (by rfl) (HA1.out _ _ (by first | exact (Below.refl _ _).alloc (by omega) _ | exact ((Below.refl _ _).alloc (by omega) _).drew | exact (((Below.refl _ _).alloc (by omega) _).alloc (by simp; omega) _).drew | exact hba | exact hba.drew | exact (hba.alloc (by omega) _) | exact (hba.alloc (by omega) _).drew | exact (((Below.refl _ _).alloc (by omega) _).alloc (by simp; omega) _)) (by first | assumption | exact own_below (own_new0 (w := W0) (e := 84) (B := w.heap.size + 2) (by first | rfl | exact HQ.out) (by omega)) (Below.refl _ _).drew | exact (own_new0 (w := W0) (e := 84) (B := w.heap.size + 2) (by first | rfl | exact HQ.out) (by omega)) | exact own_below (own_new0 (w := W0) (e := 84) (B := w.heap.size + 2) (by first | rfl | exact HQ.out) (by omega)) ((Below.refl _ _).alloc (Nat.le_refl _) _).drew | exact own_below (own_new0 (w := W0) (e := 84) (B := w.heap.size + 2) (by first | rfl | exact HQ.out) (by omega)) ((Below.refl _ _).alloc (Nat.le_refl _) _) | exact own_below (own_new0 (w := W0.alloc (.cells #[] 9)) (e := 84) (B := w.heap.size + 2) (by first | simp | (simp; omega)) (by simp; omega)) (Below.refl _ _).drew | exact (own_new0 (w := W0.alloc (.cells #[] 9)) (e := 84) (B := w.heap.size + 2) (by first | simp | (simp; omega)) (by simp; omega)) | exact (own_new0 (w := wa) (e := 84) (B := w.heap.size + 2) rfl (by omega)) | exact own_below (own_new0 (w := wa) (e := 84) (B := w.heap.size + 2) rfl (by omega)) (Below.refl _ _).drew | exact hk2 _ _ _ _ (own_below (own_new0 (w := W0.alloc (.cells #[] 9)) (e := 84) (B := w.heap.size + 2) (by first | simp | (simp; omega)) (by simp; omega)) (Below.refl _ _).drew) | exact hk2 _ _ _ _ (own_new0 (w := W0.alloc (.cells #[] 9)) (e := 84) (B := w.heap.size + 2) (by first | simp | (simp; omega)) (by simp; omega)) | exact hk2 _ _ _ _ (own_below (own_new0 (w := W0) (e := 84) (B := w.heap.size + 2) (by first | rfl | exact HQ.out) (by omega)) ((Below.refl _ _).alloc (Nat.le_refl _) _).drew) | exact hk2 _ _ _ _ (own_below (own_new0 (w := W0) (e := 84) (B := w.heap.size + 2) (by first | rfl | exact HQ.out) (by omega)) ((Below.refl _ _).alloc (Nat.le_refl _) _)) | exact own_below (hk2 _ _ _ _ (own_below (own_new0 (w := W0.alloc (.cells #[] 9)) (e := 84) (B := w.heap.size + 2) (by first | simp | (simp; omega)) (by simp; omega)) (Below.refl _ _).drew)) (Below.refl _ _).drew | exact own_below (hk2 _ _ _ _ (own_below (own_new0 (w := W0) (e := 84) (B := w.heap.size + 2) (by first | rfl | exact HQ.out) (by omega)) ((Below.refl _ _).alloc (Nat.le_refl _) _).drew)) (Below.refl _ _).drew)) ?_; rintro _ wa ⟨a1, c1, rfl, ho1, hg1, hG1, hba, hk1⟩; have x0 := (HCL.out wa hba).1; have x1 := (HCL.out wa hba).2.1; have y0 := (HCL.out wa hba).2.2.1; have y1 := (HCL.out wa hba).2.2.2.1; have yf := (HCL.out wa hba).2.2.2.2.1; obtain ⟨nn0, nn1, nn2, nn3, nn4, nn5, nn6, nn7⟩ := (HCL.out wa hba).2.2.2.2.2.2) | (refine step_appx (by rfl) (.tmp 7) (.tmp 9) 23 (by rfl) _ _ (by rfl) (by rfl) (HA2.out _ _ (by first | exact (Below.refl _ _).alloc (by omega) _ | exact ((Below.refl _ _).alloc (by omega) _).drew | exact (((Below.refl _ _).alloc (by omega) _).alloc (by simp; omega) _).drew | exact hba | exact hba.drew | exact (hba.alloc (by omega) _) | exact (hba.alloc (by omega) _).drew | exact (((Below.refl _ _).alloc (by omega) _).alloc (by simp; omega) _)) (by first | assumption | exact own_below (own_new0 (w := W0) (e := 9) (B := w.heap.size + 2) (by first | rfl | exact HQ.out) (by omega)) (Below.refl _ _).drew | exact (own_new0 (w := W0) (e := 9) (B := w.heap.size + 2) (by first | rfl | exact HQ.out) (by omega)) | exact own_below (own_new0 (w := W0) (e := 9) (B := w.heap.size + 2) (by first | rfl | exact HQ.out) (by omega)) ((Below.refl _ _).alloc (Nat.le_refl _) _).drew | exact own_below (own_new0 (w := W0) (e := 9) (B := w.heap.size + 2) (by first | rfl | exact HQ.out) (by omega)) ((Below.refl _ _).alloc (Nat.le_refl _) _) | exact own_below (own_new0 (w := W0.alloc (.cells #[] 84)) (e := 9) (B := w.heap.size + 2) (by first | simp | (simp; omega)) (by simp; omega)) (Below.refl _ _).drew | exact (own_new0 (w := W0.alloc (.cells #[] 84)) (e := 9) (B := w.heap.size + 2) (by first | simp | (simp; omega)) (by simp; omega)) | exact (own_new0 (w := wa) (e := 9) (B := w.heap.size + 2) rfl (by omega)) | exact own_below (own_new0 (w := wa) (e := 9) (B := w.heap.size + 2) rfl (by omega)) (Below.refl _ _).drew | exact hk1 _ _ _ _ (own_below (own_new0 (w := W0.alloc (.cells #[] 84)) (e := 9) (B := w.heap.size + 2) (by first | simp | (simp; omega)) (by simp; omega)) (Below.refl _ _).drew) | exact hk1 _ _ _ _ (own_new0 (w := W0.alloc (.cells #[] 84)) (e := 9) (B := w.heap.size + 2) (by first | simp | (simp; omega)) (by simp; omega)) | exact hk1 _ _ _ _ (own_below (own_new0 (w := W0) (e := 9) (B := w.heap.size + 2) (by first | rfl | exact HQ.out) (by omega)) ((Below.refl _ _).alloc (Nat.le_refl _) _).drew) | exact hk1 _ _ _ _ (own_below (own_new0 (w := W0) (e := 9) (B := w.heap.size + 2) (by first | rfl | exact HQ.out) (by omega)) ((Below.refl _ _).alloc (Nat.le_refl _) _)) | exact own_below (hk1 _ _ _ _ (own_below (own_new0 (w := W0.alloc (.cells #[] 84)) (e := 9) (B := w.heap.size + 2) (by first | simp | (simp; omega)) (by simp; omega)) (Below.refl _ _).drew)) (Below.refl _ _).drew | exact own_below (hk1 _ _ _ _ (own_below (own_new0 (w := W0) (e := 9) (B := w.heap.size + 2) (by first | rfl | exact HQ.out) (by omega)) ((Below.refl _ _).alloc (Nat.le_refl _) _).drew)) (Below.refl _ _).drew)) ?_; rintro _ wa ⟨a2, c2, rfl, ho2, hg2, hG2, hba, hk2⟩; have x0 := (HCL.out wa hba).1; have x1 := (HCL.out wa hba).2.1; have y0 := (HCL.out wa hba).2.2.1; have y1 := (HCL.out wa hba).2.2.2.1; have yf := (HCL.out wa hba).2.2.2.2.1; obtain ⟨nn0, nn1, nn2, nn3, nn4, nn5, nn6, nn7⟩ := (HCL.out wa hba).2.2.2.2.2.2))
  all_goals
    have R1 : wa.ownsRow (w.heap.size + 2) 84 3 (.slice a1 n c1) n (linesC L n) := by first | assumption | exact hk2 _ _ _ _ ho1 | exact hk2 _ _ _ _ (own_below ho1 ((Below.refl _ _).alloc (Nat.le_refl _) _)) | exact hk2 _ _ _ _ (own_below ho1 ((Below.refl _ _).alloc (Nat.le_refl _) _).drew)
    have R2 : wa.ownsRow (w.heap.size + 2) 9 1 (.slice a2 m c2) m (textsC I m) := by first | assumption | exact hk1 _ _ _ _ ho2 | exact hk1 _ _ _ _ (own_below ho2 ((Below.refl _ _).alloc (Nat.le_refl _) _)) | exact hk1 _ _ _ _ (own_below ho2 ((Below.refl _ _).alloc (Nat.le_refl _) _).drew)
    have RR : Rows2 wa (w.heap.size + 2) a1 n c1 L a2 m c2 I := ⟨R1, R2, fun j e e' => rows_apart R1 R2 j e e'⟩
    have HRR : Hid (Rows2 ((wa.setCell ⟨w.heap.size + 1, 0, none⟩ (.slice a1 n c1)).setCell ⟨w.heap.size + 1, 1, none⟩ (.slice a2 m c2)) (w.heap.size + 2) a1 n c1 L a2 m c2 I) := RR.kept (row := some (w.heap.size + 1)) (setGrown (setGrown (World.grownBy.refl _ _))) (fun j e => by have := (RR.lt1 j e).1; simp; omega) (fun j e => by have := (RR.lt2 j e).1; simp; omega)
    have s2 : w.heap.size ≤ w.heap.size + 1 := by omega
    have HBB : Hid (Below w.heap.size w ((wa.setCell ⟨w.heap.size + 1, 0, none⟩ (.slice a1 n c1)).setCell ⟨w.heap.size + 1, 1, none⟩ (.slice a2 m c2))) := ((hT0.trans (hba.mono (by omega))).setCell s2 _).setCell s2 _
    go_wp2_with fail
    refine bodyPost_ret (v := .agg #[.slice a1 n c1, .slice a2 m c2]) ?_ rfl ⟨a1, c1, a2, c2, rfl, HRR.out, HBB.out⟩
    simp [results, Tryz.results66, go_sem, y0, y1]
end Go.Proofs.YtepkmbfedblhdaaGreatDoor
namespace Go.Proofs.YtepkmbfedblhdaaGreatDoor
open Go.RowKit
open Go.Proofs.YtepkmbfedblhdaaGreatDoor.Draw

theorem ne_str {a b : ByteArray} (h : ¬ a = b) : (a.toList == b.toList) = false := by
  rw [beq_eq_false_iff_ne, ByteArray.toList_eq, ByteArray.toList_eq]
  intro e
  exact h (ByteArray.ext (Array.toList_inj.1 e))
/-- Is it one of n texts? -/
def inB (I : Nat → Tx) (n : Nat) (s : ByteArray) : Bool := (List.range n).any fun i => decide ((I i).t = s)
theorem inB_true {I : Nat → Tx} {n : Nat} {s : ByteArray} {k : Nat} (hk : k < n) (h : (I k).t = s) : inB I n s = true := List.any_eq_true.2 ⟨k, List.mem_range.2 hk, by simpa using h⟩
theorem inB_false {I : Nat → Tx} {n : Nat} {s : ByteArray} (h : ∀ j, j < n → ¬ (I j).t = s) : inB I n s = false := List.any_eq_false.2 fun j hj => by simpa using h j (List.mem_range.1 hj)
set_option maxRecDepth 100000 in
set_option maxHeartbeats 4000000 in
theorem spec_in (a : Option Addr) (n cap : Nat) (I : Nat → Tx) (s : ByteArray) (hn : n ≤ 1048576) (w : World) (h : TextsAt w a n I) :
    Calls Tryz.prog 46 #[.slice a n cap, .string s] w fun e w' => e = .returned (.bool (inB I n s)) ∧ w' = w := by
  have HT : Hid (TextsAt w a n I) := h
  clear h
  have hxx : ∀ x : List UInt8, (x == x) = true := fun x => by simp
  go_enter Tryz.func46, Tryz.ntmps46
  go_wp2_with fail
  go_loop [5] (fun i => ∃ k : Nat, k ≤ n ∧ i = .int .i64 k ∧ Hid (∀ j, j < k → ¬ (I j).t = s)) (fun i => n - (intOf i).toNat)
  case atStart => exact ⟨0, Nat.zero_le _, rfl, fun j hj => by omega⟩
  case round =>
    obtain ⟨k, hk, rfl, H⟩ := hrel
    by_cases hkn : k < n
    · have p0 : decide (k < n) = true := by simpa using hkn
      have p1 : decide ((k : Int) < (n : Int)) = true := by simpa using hkn
      rcases HT.out with h0 | ⟨g, o, rfl, hg, hc⟩
      · omega
      have c0 := hc k hkn
      clear hc
      by_cases e : (I k).t = s
      · have HR : Hid (inB I n s = true) := inB_true hkn e
        rw [e] at c0
        clear e
        go_wp2_with fail
        go_ret
        exact ⟨ret_bool HR.out.symm, rfl⟩
      · have hne := ne_str e
        have H' : Hid (∀ j, j < k + 1 → ¬ (I j).t = s) := fun j hj => by
          by_cases q : j = k
          · rw [q]; exact e
          · exact H.out j (by omega)
        clear e H
        generalize (I k).t = x at *
        go_wp2_with fail
        go_round
        case rel => exact ⟨k + 1, by omega, by go_num, H'⟩
        case measure => simp [intOf]; omega
    · have p0 : decide (k < n) = false := by simpa using hkn
      have p1 : decide ((k : Int) < (n : Int)) = false := by simpa using hkn
      obtain rfl : k = n := by omega
      have HR : Hid (inB I k s = false) := inB_false H.out
      go_wp2_with fail
      go_ret
      exact ⟨ret_bool HR.out.symm, rfl⟩
end Go.Proofs.YtepkmbfedblhdaaGreatDoor
namespace Go.Proofs.YtepkmbfedblhdaaGreatDoor
open Go.RowKit
open Go.Proofs.YtepkmbfedblhdaaGreatDoor.Draw

/-- What the call comes to. -/
def LegsOut (w : World) (n m : Nat) (I : Nat → Tx) (P : (Nat → Ln) × Nat × Int) (e : Ending) (w' : World) : Prop :=
  (P.2.2 = 0 ∧ ∃ a c b d, e = .returned (.agg #[.slice a n c, .slice b m d, .int .i64 0, .int .i64 0]) ∧ Rows2 w' w.heap.size a n c P.1 b m d I ∧ Below w.heap.size w w') ∨
  (P.2.2 ≠ 0 ∧ e = .returned (.agg #[.slice none 0 0, .slice none 0 0, .int .i64 (P.2.1 : Int), .int .i64 P.2.2]) ∧ Below w.heap.size w w')
set_option maxRecDepth 100000 in
set_option maxHeartbeats 16000000 in
theorem spec_legs_post (g o g' o' n m cap cap' : Nat) (L : Nat → Ln) (I : Nat → Tx) (hn : n ≤ 60) (hm : m ≤ 100) (hok : ∀ j, j < n → okLine L j = true) (hf : ∀ j, j < n → (L j).fits) (q : Option Addr) (K kc : Nat) (Q : Nat → Lg) (hK : K ≤ 20) (hleg : ∀ i, i < K → okLeg (Q i) = true) (w : World) (h : LinesAt w (some ⟨g, o, none⟩) n L) (h' : TextsAt w (some ⟨g', o', none⟩) m I) (hQ : LegsAt w q K Q) :
    Calls Tryz.prog 47 #[.agg #[.slice (some ⟨g, o, none⟩) n cap, .slice (some ⟨g', o', none⟩) m cap'], .slice q K kc] w (LegsOut w n m I (postB n Q K 0 L)) := by
  have HT0 : Hid (Bp w ((w.alloc (.cells #[.slice (some ⟨g, o, none⟩) n cap, .slice (some ⟨g', o', none⟩) m cap'] 31)).alloc (.cells #[.slice none 0 0, .slice none 0 0, .int .i64 0, .int .i64 0] 33)) #[.slice (some ⟨g, o, none⟩) n cap, .slice (some ⟨g', o', none⟩) m cap'] #[.slice none 0 0, .slice none 0 0, .int .i64 0, .int .i64 0]) := Bp.now _ _ _ _ _
  have s2 : w.heap.size ≤ w.heap.size + 1 := by omega
  have HQ : Hid (LegsAt w q K Q) := hQ
  have HG : Hid (∀ i, i < K → okLeg (Q i) = true) := hleg
  have HKp : Hid (Kept n L L) := Kept.refl hok hf
  have HCP : Hid (∀ W, Below w.heap.size w W → Calls Tryz.prog 66 _ W _) := fun W hb => spec_copy g o g' o' n m cap cap' L I hn hm W (h.below hb) (h'.below hb)
  have HFI : Hid (∀ (L' : Nat → Ln) (a : Option Addr) (c : Nat) (b : Option Addr) (d : Nat) (x y : ByteArray) (W : World), LinesAt W a n L' → Calls Tryz.prog 67 #[.agg #[.slice a n c, .slice b m d], .agg #[.string x, .string y]] W fun e w' => e = .returned (.int .i64 (findI L' x y n)) ∧ Below W.heap.size W w') := fun L' a c b d x y W hW => spec_find a n c (.slice b m d) L' (by omega) x y W hW
  obtain ⟨P, hP⟩ : ∃ P, P = postB n Q K 0 L := ⟨_, rfl⟩
  have HP : Hid (P = postB n Q K 0 L) := hP
  rw [← hP]
  clear hP h h' hQ hleg hok hf
  go_enter Tryz.func47, Tryz.ntmps47
  obtain ⟨b0, b1⟩ : _ ∧ _ := ⟨HT0.out.box 0, HT0.out.box 1⟩
  simp at b0 b1
  go_wp2_with fail
  refine (HCP.out _ HT0.out.bel).mono ?_
  rintro e w1 ⟨a, c, b, d, rfl, hR1, hb1⟩
  have T1 := HT0.out.next hb1
  have hal : Below w1.heap.size w1 (w1.alloc (.cells #[.slice a n c, .slice b m d] 31)) := (Below.refl _ _).alloc (Nat.le_refl _) _
  obtain ⟨X, hX⟩ : ∃ X, X = w1.heap.size := ⟨_, rfl⟩
  obtain ⟨B, hB⟩ : ∃ B, B = (((w.alloc (.cells #[.slice (some ⟨g, o, none⟩) n cap, .slice (some ⟨g', o', none⟩) m cap'] 31)).alloc (.cells #[.slice none 0 0, .slice none 0 0, .int .i64 0, .int .i64 0] 33))).heap.size + 2 := ⟨_, rfl⟩
  rw [← hB] at hR1
  have HB0 : Hid (w.heap.size + 2 ≤ B ∧ w.heap.size + 2 ≤ X ∧ ∀ k, a.map Addr.block = some k → k ≠ X) := ⟨by rw [hB]; simp, by rw [hX]; exact T1.size, fun k e => by have := (hR1.lt1 k e).2; omega⟩
  obtain ⟨W2, hW2⟩ : ∃ W, W = w1.alloc (.cells #[.slice a n c, .slice b m d] 31) := ⟨_, rfl⟩
  have HT2 : Hid (Bp w W2 #[.slice (some ⟨g, o, none⟩) n cap, .slice (some ⟨g', o', none⟩) m cap'] #[.slice none 0 0, .slice none 0 0, .int .i64 0, .int .i64 0]) := by rw [hW2]; exact T1.next hal
  have HX2 : Hid (Ox W2 X (.slice a n c) (.slice b m d)) := by rw [hW2, hX]; exact Ox.new _ _ _ _
  have HR2 : Hid (Rows2 W2 B a n c L b m d I) := by rw [hW2]; exact hR1.below hal
  clear hR1 hb1 T1 hal HT0 HCP b0 b1
  go_upto_region 2 with fail
  rw [← hW2, ← hX]
  clear hW2 hX hB
  go_wp2_with fail
  go_loopw [6] (fun i wr => ∃ (k : Nat) (L' : Nat → Ln), i = .int .i64 (k : Int) ∧ k ≤ K ∧ Hid (Bp w wr #[.slice (some ⟨g, o, none⟩) n cap, .slice (some ⟨g', o', none⟩) m cap'] #[.slice none 0 0, .slice none 0 0, .int .i64 0, .int .i64 0]) ∧ Hid (Ox wr X (.slice a n c) (.slice b m d)) ∧ Hid (Rows2 wr B a n c L' b m d I) ∧ Hid (Kept n L L') ∧ Hid (P = postB n Q (K - k) k L')) (fun i _ => K - (intOf i).toNat)
  case atStart => exact ⟨0, L, rfl, by omega, HT2, HX2, HR2, HKp, HP⟩
  case round =>
    clear HT2 HX2 HR2
    obtain ⟨k, L', rfl, hk, HT, HX, HR, HKk, HPk⟩ := hrel
    by_cases hkn : k < K
    · have p0 : decide (k < K) = true := by simpa using hkn
      have p1 : decide ((k : Int) < (K : Int)) = true := by simpa using hkn
      rcases HQ.out with h0 | ⟨e, f, rfl, hgw, hc⟩
      · omega
      obtain ⟨z0, z1, z2, z3, z4⟩ := hc k hkn
      have hge : e < wr.heap.size := by have := HT.out.size; omega
      have g0 := (HT.out.bel.cell (p := ⟨e, _, none⟩) hgw).trans z0
      have g1 := (HT.out.bel.cell (p := ⟨e, _, none⟩) hgw).trans z1
      obtain ⟨c0, c1, cf, cl⟩ := HX.out
      have HZ : Hid ((k + 1 ≤ K) ∧ w.cell? ⟨e, f + k * 5 + 2, none⟩ = some (.string (Q k).ta) ∧ w.cell? ⟨e, f + k * 5 + 3, none⟩ = some (.string (Q k).ts) ∧ w.cell? ⟨e, f + k * 5 + 4, none⟩ = some (.int .i64 (Q k).m)) := ⟨hkn, z2, z3, z4⟩
      have HV : Hid (P = if (moveB n L' (Q k)).2 = 0 then postB n Q (K - (k + 1)) (k + 1) (moveB n L' (Q k)).1 else (L', k, (moveB n L' (Q k)).2)) := by
        show _ = _
        rw [HPk.out, show K - k = (K - (k + 1)) + 1 by omega]; rfl
      have HOQ : Hid (okLeg (Q k) = true) := HG.out k hkn
      have HKq : Hid (Kept n L (moveB n L' (Q k)).1) := HKk.out.trans (move_kept HKk.out.ok HKk.out.fits (Q k))
      clear hc z0 z1 z2 z3 z4
      have HMV : Hid (moveB n L' (Q k) = moveB n L' (Q k)) := rfl
      generalize hqk : Q k = q at *
      obtain ⟨x0, x1, x2, x3, x4⟩ := q
      simp only [] at g0 g1
      go_upto_region 5 with fail
      go_cut [7] (fun v wx => v = .int .i64 (findI L' x0 x1 n) ∧ Hid (Bp w wx #[.slice (some ⟨g, o, none⟩) n cap, .slice (some ⟨g', o', none⟩) m cap'] #[.slice none 0 0, .slice none 0 0, .int .i64 0, .int .i64 0]) ∧ Hid (Ox wx X (.slice a n c) (.slice b m d)) ∧ Hid (Rows2 wx B a n c L' b m d I))
      case first =>
        go_region_held3 (fun V => V.cell? ⟨X, 0, none⟩ = some (.slice a n c) ∧ V.cell? ⟨X, 1, none⟩ = some (.slice b m d) ∧ V.cell? ⟨e, f + k * 5, none⟩ = some (.string x0) ∧ V.cell? ⟨e, f + k * 5 + 1, none⟩ = some (.string x1)) (go_keep) (first | (go_at_call 67; refine (HFI.out L' _ _ _ _ _ _ _ (own_line_at (by first | exact HR.out.r1 | exact (HR.out.below (Below.refl _ _).drew).r1))).mono ?_; rintro ee wa ⟨rfl, hba⟩; have hz : Below wr.heap.size wr wa := (by first | exact hba | exact (Below.refl _ _).drew.trans hba); have xa := (HX.out.below hz).c0; have xb := (HX.out.below hz).c1; have la := (hz.cell (p := ⟨e, f + k * 5, none⟩) hge).trans g0; have lb := (hz.cell (p := ⟨e, f + k * 5 + 1, none⟩) hge).trans g1))
        all_goals go_wp2_with fail
        all_goals go_meet
        all_goals exact ⟨rfl, HT.out.next hz, HX.out.below hz, HR.out.below hz⟩
      case rest =>
        obtain ⟨rfl, HTc, HXc, HRc⟩ := hcut
        clear g0 g1 c0 c1 cf cl HT HX HR hge
        have hge : e < wc.heap.size := by have := HTc.out.size; omega
        have g2 := (HTc.out.bel.cell (p := ⟨e, _, none⟩) hgw).trans HZ.out.2.1
        have g3 := (HTc.out.bel.cell (p := ⟨e, _, none⟩) hgw).trans HZ.out.2.2.1
        simp only [] at g2 g3
        obtain ⟨c0, c1, cf, cl⟩ := HXc.out
        go_upto_region 6 with fail
        go_cut [8] (fun v wx => v = .int .i64 (findI L' x2 x3 n) ∧ Hid (Bp w wx #[.slice (some ⟨g, o, none⟩) n cap, .slice (some ⟨g', o', none⟩) m cap'] #[.slice none 0 0, .slice none 0 0, .int .i64 0, .int .i64 0]) ∧ Hid (Ox wx X (.slice a n c) (.slice b m d)) ∧ Hid (Rows2 wx B a n c L' b m d I))
        case first =>
          go_region_held3 (fun V => V.cell? ⟨X, 0, none⟩ = some (.slice a n c) ∧ V.cell? ⟨X, 1, none⟩ = some (.slice b m d) ∧ V.cell? ⟨e, f + k * 5 + 2, none⟩ = some (.string x2) ∧ V.cell? ⟨e, f + k * 5 + 3, none⟩ = some (.string x3)) (go_keep) (first | (go_at_call 67; refine (HFI.out L' _ _ _ _ _ _ _ (own_line_at (by first | exact HRc.out.r1 | exact (HRc.out.below (Below.refl _ _).drew).r1))).mono ?_; rintro ee wa ⟨rfl, hba⟩; have hz : Below wc.heap.size wc wa := (by first | exact hba | exact (Below.refl _ _).drew.trans hba); have xa := (HXc.out.below hz).c0; have xb := (HXc.out.below hz).c1; have la := (hz.cell (p := ⟨e, f + k * 5 + 2, none⟩) hge).trans g2; have lb := (hz.cell (p := ⟨e, f + k * 5 + 3, none⟩) hge).trans g3))
          all_goals go_wp2_with fail
          all_goals go_meet
          all_goals exact ⟨rfl, HTc.out.next hz, HXc.out.below hz, HRc.out.below hz⟩
        case rest =>
          obtain ⟨rfl, HTd, HXd, HRd⟩ := hcut
          clear g2 g3 c0 c1 cf cl HTc HXc HRc hge
          cases hF : findB L' x0 x1 n with
          | none =>
            have hI : findI L' x0 x1 n = -1 := by unfold findI; rw [hF]
            have hm8 : moveB n L' ⟨x0, x1, x2, x3, x4⟩ = (L', 8) := by unfold moveB; simp only []; rw [hF]
            have q0 : decide ((-1 : Int) < 0) = true := rfl
            rw [hI]
            have HV8 : Hid (P = (L', k, 8)) := by have := HV.out; rw [hm8, if_neg (by simp)] at this; exact this
            clear HV HKq HFI
            obtain ⟨o0, o1, o2, o3⟩ : _ ∧ _ ∧ _ ∧ _ := ⟨HTd.out.out 0, HTd.out.out 1, HTd.out.out 2, HTd.out.out 3⟩
            have of := HTd.out.ofr
            simp at o0 o1 o2 o3
            have HBd : Hid (Below w.heap.size w _) := HTd.out.bel
            go_wp2_with fail
            refine bodyPost_ret (v := .agg #[.slice none 0 0, .slice none 0 0, .int .i64 (k : Int), .int .i64 8]) ?_ rfl ?_
            · simp [results, Tryz.results47, go_sem, o0, o1, o2, o3]
            · rw [HV8.out]
              exact Or.inr ⟨by simp, rfl, (((HBd.out.setCell s2 _).setCell s2 _).setCell s2 _).setCell s2 _⟩
          | some f' =>
            have hI : findI L' x0 x1 n = (f' : Int) := by unfold findI; rw [hF]
            have q1 : decide ((f' : Int) < 0) = false := by simp
            rw [hI]
            cases hT : findB L' x2 x3 n with
            | none =>
              have hJ : findI L' x2 x3 n = -1 := by unfold findI; rw [hT]
              have hm8 : moveB n L' ⟨x0, x1, x2, x3, x4⟩ = (L', 8) := by unfold moveB; simp only []; rw [hF]; simp only []; rw [hT]
              have q0 : decide ((-1 : Int) < 0) = true := rfl
              rw [hJ]
              have HV8 : Hid (P = (L', k, 8)) := by have := HV.out; rw [hm8, if_neg (by simp)] at this; exact this
              clear HV HKq HFI
              obtain ⟨o0, o1, o2, o3⟩ : _ ∧ _ ∧ _ ∧ _ := ⟨HTd.out.out 0, HTd.out.out 1, HTd.out.out 2, HTd.out.out 3⟩
              have of := HTd.out.ofr
              simp at o0 o1 o2 o3
              have HBd : Hid (Below w.heap.size w _) := HTd.out.bel
              go_wp2_with fail
              refine bodyPost_ret (v := .agg #[.slice none 0 0, .slice none 0 0, .int .i64 (k : Int), .int .i64 8]) ?_ rfl ?_
              · simp [results, Tryz.results47, go_sem, o0, o1, o2, o3]
              · rw [HV8.out]
                exact Or.inr ⟨by simp, rfl, (((HBd.out.setCell s2 _).setCell s2 _).setCell s2 _).setCell s2 _⟩
            | some t' =>
              have hJ : findI L' x2 x3 n = (t' : Int) := by unfold findI; rw [hT]
              have q2 : decide ((t' : Int) < 0) = false := by simp
              rw [hJ]
              have f1 := (findB_some hF).1
              have t1 := (findB_some hT).1
              obtain ⟨G, rfl, hO⟩ : ∃ G, a = some ⟨G, 0, none⟩ ∧ Own _ G (n * 3) (lineF L') := by
                rcases own_linesR' HRd.out.r1 with e | h0
                · omega
                · exact h0
              have HM : Hid (moveB n L' ⟨x0, x1, x2, x3, x4⟩ = (if rightB ((L' f').m - x4) = true then (if rightB ((setM L' f' ((L' f').m - x4) t').m + x4) = true then (setM (setM L' f' ((L' f').m - x4)) t' ((setM L' f' ((L' f').m - x4) t').m + x4), 0) else (L', 13)) else (L', 13))) := by
                show _ = _
                unfold moveB
                simp only []
                rw [hF]
                simp only []
                rw [hT]
              clear hI hJ hF hT HFI
              have c2 := hO.2.1 (f' * 3 + 2) (by omega)
              rw [(lineF_at L' f').2.2] at c2
              obtain ⟨m0, m1⟩ : -1000000000000 ≤ (L' f').m ∧ (L' f').m ≤ 1000000000000 := (rightB_iff _).1 (by have := HKk.out.ok f' f1; simp only [okLine, Bool.and_eq_true] at this; exact this.1.2)
              obtain ⟨y0, y1⟩ : 0 ≤ x4 ∧ x4 ≤ 1000000000000 := by have := HOQ.out; simp only [okLeg, Bool.and_eq_true, decide_eq_true_eq] at this; exact ⟨this.1.2, this.2⟩
              have g4 := (HTd.out.bel.cell (p := ⟨e, _, none⟩) hgw).trans HZ.out.2.2.2
              simp only [] at g4
              obtain ⟨c0, c1, cf, cl⟩ := HXd.out
              have hGX : G ≠ X := HB0.out.2.2 G rfl
              have hGB : w.heap.size + 2 ≤ G := Nat.le_trans HB0.out.1 (HRd.out.lt1 G rfl).1
              obtain ⟨z0, hz0⟩ : ∃ z, z = (L' f').m := ⟨_, rfl⟩
              rw [← hz0] at c2 m0 m1 HM
              clear hz0 hO
              have hd : ∀ (W : World) d, Below W.heap.size W (W.drewN d) := fun W d => ⟨rfl, rfl, rfl, Nat.le_refl _, fun _ _ => rfl⟩
              have HD : Hid (∀ dd, Hid (Bp w (wc.drewN dd) #[.slice (some ⟨g, o, none⟩) n cap, .slice (some ⟨g', o', none⟩) m cap'] #[.slice none 0 0, .slice none 0 0, .int .i64 0, .int .i64 0]) ∧ Hid (Ox (wc.drewN dd) X (.slice (some ⟨G, 0, none⟩) n c) (.slice b m d)) ∧ Hid (Rows2 (wc.drewN dd) B (some ⟨G, 0, none⟩) n c L' b m d I)) := fun d => ⟨HTd.out.next (hd _ d), HXd.out.below (hd _ d), HRd.out.below (hd _ d)⟩
              go_upto_region 9 with fail
              go_cut [9] (fun v wx => v = .int .i64 (z0 - x4) ∧ Hid (Bp w wx #[.slice (some ⟨g, o, none⟩) n cap, .slice (some ⟨g', o', none⟩) m cap'] #[.slice none 0 0, .slice none 0 0, .int .i64 0, .int .i64 0]) ∧ Hid (Ox wx X (.slice (some ⟨G, 0, none⟩) n c) (.slice b m d)) ∧ Hid (Rows2 wx B (some ⟨G, 0, none⟩) n c L' b m d I))
              case first =>
                go_quiet (fail)
                go_wp2_with fail
                go_meet
                exact ⟨rfl, HD.out _⟩
              case rest =>
                obtain ⟨rfl, HTe, HXe, HRe⟩ := hcut
                clear HD HTd HXd HRd g4 c0 c1 c2 cf cl
                cases hr1 : rightB (z0 - x4) with
                | false =>
                  have hm13 : moveB n L' ⟨x0, x1, x2, x3, x4⟩ = (L', 13) := by rw [HM.out, hr1, if_neg (by decide)]
                  have HV13 : Hid (P = (L', k, 13)) := by have := HV.out; rw [hm13, if_neg (by simp)] at this; exact this
                  have HR1 : Hid (rightB (z0 - x4) = false) := hr1
                  clear HV HKq HM hr1
                  obtain ⟨o0, o1, o2, o3⟩ : _ ∧ _ ∧ _ ∧ _ := ⟨HTe.out.out 0, HTe.out.out 1, HTe.out.out 2, HTe.out.out 3⟩
                  have of := HTe.out.ofr
                  simp at o0 o1 o2 o3
                  have HBd : Hid (Below w.heap.size w _) := HTe.out.bel
                  go_wp2_with fail
                  refine (spec_right _ _).mono ?_
                  rintro ee w7 ⟨rfl, rfl⟩
                  rw [HR1.out]
                  go_wp2_with fail
                  refine bodyPost_ret (v := .agg #[.slice none 0 0, .slice none 0 0, .int .i64 (k : Int), .int .i64 13]) ?_ rfl ?_
                  · simp [results, Tryz.results47, go_sem, o0, o1, o2, o3]
                  · rw [HV13.out]
                    exact Or.inr ⟨by simp, rfl, (((HBd.out.setCell s2 _).setCell s2 _).setCell s2 _).setCell s2 _⟩
                | true =>
                  have HR1 : Hid (rightB (z0 - x4) = true) := hr1
                  have HM2 : Hid (moveB n L' ⟨x0, x1, x2, x3, x4⟩ = (if rightB ((setM L' f' (z0 - x4) t').m + x4) = true then (setM (setM L' f' (z0 - x4)) t' ((setM L' f' (z0 - x4) t').m + x4), 0) else (L', 13))) := by show _ = _; rw [HM.out, if_pos hr1]
                  have hOK1 := setM_ok HKk.out.ok f' hr1
                  obtain ⟨n0, n1⟩ : -1000000000000 ≤ (setM L' f' (z0 - x4) t').m ∧ (setM L' f' (z0 - x4) t').m ≤ 1000000000000 := (rightB_iff _).1 (by have := hOK1 t' t1; simp only [okLine, Bool.and_eq_true] at this; exact this.1.2)
                  clear hr1 HM hOK1
                  obtain ⟨c0, c1, cf, cl⟩ := HXe.out
                  obtain ⟨hO1, hO2, hO3⟩ : Own wc G (n * 3) (lineF L') := by
                    rcases own_linesR' HRe.out.r1 with e | ⟨G', e, h0⟩
                    · omega
                    · simp at e; subst e; exact h0
                  have c2 := hO2 (f' * 3 + 2) (by omega)
                  have c3 := hO3 (f' * 3 + 2)
                  rw [(lineF_at L' f').2.2] at c2
                  have hg1 : wc.grownBy (wc.setCell ⟨G, f' * 3 + 2, none⟩ (.int .i64 (z0 - x4))) (some G) := setGrown (World.grownBy.refl _ _)
                  have hr1' := own_set HRe.out.r1 (f' * 3 + 2) (.int .i64 (z0 - x4))
                  rw [← lines_set L' f' n (z0 - x4) f1] at hr1'
                  have HR6 : Hid (Rows2 (wc.setCell ⟨G, f' * 3 + 2, none⟩ (.int .i64 (z0 - x4))) B (some ⟨G, 0, none⟩) n c (setM L' f' (z0 - x4)) b m d I) := ⟨hr1', HRe.out.r2.kept hg1 (by
                    rw [ownBlock_map]
                    cases e : b.map Addr.block with
                    | none => exact Or.inl rfl
                    | some j => exact Or.inr (fun e' => HRe.out.ne j (by simpa using e'.symm) e)), HRe.out.ne⟩
                  have HX6 : Hid (Ox (wc.setCell ⟨G, f' * 3 + 2, none⟩ (.int .i64 (z0 - x4))) X (.slice (some ⟨G, 0, none⟩) n c) (.slice b m d)) := HXe.out.grown hg1 (by simpa using fun e => hGX e.symm)
                  have HT6 : Hid (Bp w (wc.setCell ⟨G, f' * 3 + 2, none⟩ (.int .i64 (z0 - x4))) #[.slice (some ⟨g, o, none⟩) n cap, .slice (some ⟨g', o', none⟩) m cap'] #[.slice none 0 0, .slice none 0 0, .int .i64 0, .int .i64 0]) := HTe.out.low ((Below.refl _ _).setCell (by exact hGB) _)
                  clear hO1 hO2 hO3 hg1 hr1' HTe HXe HRe
                  obtain ⟨W6, hW6⟩ : ∃ W, W = wc.setCell ⟨G, f' * 3 + 2, none⟩ (.int .i64 (z0 - x4)) := ⟨_, rfl⟩
                  rw [← hW6] at HR6 HX6 HT6
                  go_upto_region 10 with fail
                  go_wp2_with fail
                  refine (spec_right _ _).mono ?_
                  rintro ee w7 ⟨rfl, rfl⟩
                  rw [HR1.out]
                  go_upto_region 13 with fail
                  rw [← hW6]
                  clear hW6 c0 c1 c2 c3 cf cl
                  obtain ⟨c0, c1, cf, cl⟩ := HX6.out
                  obtain ⟨hO1, hO2, hO3⟩ : Own W6 G (n * 3) (lineF (setM L' f' (z0 - x4))) := by
                    rcases own_linesR' HR6.out.r1 with e | ⟨G', e, h0⟩
                    · omega
                    · simp at e; subst e; exact h0
                  have c2 := hO2 (t' * 3 + 2) (by omega)
                  rw [(lineF_at _ t').2.2] at c2
                  have g4 := (HT6.out.bel.cell (p := ⟨e, _, none⟩) hgw).trans HZ.out.2.2.2
                  obtain ⟨L1, hL1⟩ : ∃ L1, L1 = setM L' f' (z0 - x4) := ⟨_, rfl⟩
                  rw [← hL1] at c2 n0 n1 HR6 HM2
                  clear hL1 hO1 hO2 hO3
                  obtain ⟨z1, hz1⟩ : ∃ z, z = (L1 t').m := ⟨_, rfl⟩
                  rw [← hz1] at c2 n0 n1 HM2
                  clear hz1
                  have HD : Hid (∀ dd, Hid (Bp w (W6.drewN dd) #[.slice (some ⟨g, o, none⟩) n cap, .slice (some ⟨g', o', none⟩) m cap'] #[.slice none 0 0, .slice none 0 0, .int .i64 0, .int .i64 0]) ∧ Hid (Ox (W6.drewN dd) X (.slice (some ⟨G, 0, none⟩) n c) (.slice b m d)) ∧ Hid (Rows2 (W6.drewN dd) B (some ⟨G, 0, none⟩) n c L1 b m d I)) := fun d => ⟨HT6.out.next (hd _ d), HX6.out.below (hd _ d), HR6.out.below (hd _ d)⟩
                  go_cut [9] (fun v wx => v = .int .i64 (z1 + x4) ∧ Hid (Bp w wx #[.slice (some ⟨g, o, none⟩) n cap, .slice (some ⟨g', o', none⟩) m cap'] #[.slice none 0 0, .slice none 0 0, .int .i64 0, .int .i64 0]) ∧ Hid (Ox wx X (.slice (some ⟨G, 0, none⟩) n c) (.slice b m d)) ∧ Hid (Rows2 wx B (some ⟨G, 0, none⟩) n c L1 b m d I))
                  case first =>
                    go_quiet (fail)
                    go_wp2_with fail
                    go_meet
                    exact ⟨rfl, HD.out _⟩
                  case rest =>
                    obtain ⟨rfl, HTe, HXe, HRe⟩ := hcut
                    clear HD HT6 HX6 HR6 g4 c0 c1 c2 cf cl
                    cases hr2 : rightB (z1 + x4) with
                    | false =>
                      have hm13 : moveB n L' ⟨x0, x1, x2, x3, x4⟩ = (L', 13) := by rw [HM2.out, hr2, if_neg (by decide)]
                      have HV13 : Hid (P = (L', k, 13)) := by have := HV.out; rw [hm13, if_neg (by simp)] at this; exact this
                      have HR2 : Hid (rightB (z1 + x4) = false) := hr2
                      clear HV HKq HM2 hr2
                      obtain ⟨o0, o1, o2, o3⟩ : _ ∧ _ ∧ _ ∧ _ := ⟨HTe.out.out 0, HTe.out.out 1, HTe.out.out 2, HTe.out.out 3⟩
                      have of := HTe.out.ofr
                      simp at o0 o1 o2 o3
                      have HBd : Hid (Below w.heap.size w _) := HTe.out.bel
                      go_wp2_with fail
                      refine (spec_right _ _).mono ?_
                      rintro ee w7 ⟨rfl, rfl⟩
                      rw [HR2.out]
                      go_wp2_with fail
                      refine bodyPost_ret (v := .agg #[.slice none 0 0, .slice none 0 0, .int .i64 (k : Int), .int .i64 13]) ?_ rfl ?_
                      · simp [results, Tryz.results47, go_sem, o0, o1, o2, o3]
                      · rw [HV13.out]
                        exact Or.inr ⟨by simp, rfl, (((HBd.out.setCell s2 _).setCell s2 _).setCell s2 _).setCell s2 _⟩
                    | true =>
                      have HR2 : Hid (rightB (z1 + x4) = true) := hr2
                      have hMv : moveB n L' ⟨x0, x1, x2, x3, x4⟩ = (setM L1 t' (z1 + x4), 0) := by rw [HM2.out, if_pos hr2]
                      have HVN : Hid (P = postB n Q (K - (k + 1)) (k + 1) (setM L1 t' (z1 + x4))) := by have := HV.out; rw [hMv, if_pos rfl] at this; exact this
                      have HKN : Hid (Kept n L (setM L1 t' (z1 + x4))) := by have := HKq.out; rw [hMv] at this; exact this
                      clear hr2 HM2 HV HKq hMv
                      obtain ⟨c0, c1, cf, cl⟩ := HXe.out
                      obtain ⟨hO1, hO2, hO3⟩ : Own wc G (n * 3) (lineF L1) := by
                        rcases own_linesR' HRe.out.r1 with e | ⟨G', e, h0⟩
                        · omega
                        · simp at e; subst e; exact h0
                      have c2 := hO2 (t' * 3 + 2) (by omega)
                      have c3 := hO3 (t' * 3 + 2)
                      rw [(lineF_at L1 t').2.2] at c2
                      have hg1 : wc.grownBy (wc.setCell ⟨G, t' * 3 + 2, none⟩ (.int .i64 (z1 + x4))) (some G) := setGrown (World.grownBy.refl _ _)
                      have hr1' := own_set HRe.out.r1 (t' * 3 + 2) (.int .i64 (z1 + x4))
                      rw [← lines_set L1 t' n (z1 + x4) t1] at hr1'
                      have HR6 : Hid (Rows2 (wc.setCell ⟨G, t' * 3 + 2, none⟩ (.int .i64 (z1 + x4))) B (some ⟨G, 0, none⟩) n c (setM L1 t' (z1 + x4)) b m d I) := ⟨hr1', HRe.out.r2.kept hg1 (by
                        rw [ownBlock_map]
                        cases e : b.map Addr.block with
                        | none => exact Or.inl rfl
                        | some j => exact Or.inr (fun e' => HRe.out.ne j (by simpa using e'.symm) e)), HRe.out.ne⟩
                      have HX6 : Hid (Ox (wc.setCell ⟨G, t' * 3 + 2, none⟩ (.int .i64 (z1 + x4))) X (.slice (some ⟨G, 0, none⟩) n c) (.slice b m d)) := HXe.out.grown hg1 (by simpa using fun e => hGX e.symm)
                      have HT6 : Hid (Bp w (wc.setCell ⟨G, t' * 3 + 2, none⟩ (.int .i64 (z1 + x4))) #[.slice (some ⟨g, o, none⟩) n cap, .slice (some ⟨g', o', none⟩) m cap'] #[.slice none 0 0, .slice none 0 0, .int .i64 0, .int .i64 0]) := HTe.out.low ((Below.refl _ _).setCell (by exact hGB) _)
                      clear hO1 hO2 hO3 hg1 hr1' HTe HXe HRe
                      go_upto_region 14 with fail
                      go_wp2_with fail
                      refine (spec_right _ _).mono ?_
                      rintro ee w7 ⟨rfl, rfl⟩
                      rw [HR2.out]
                      go_wp2_with fail
                      go_roundw
                      case rel => exact ⟨k + 1, _, by go_num, by omega, HT6, HX6, HR6, HKN, HVN⟩
                      case measure => simp [intOf]; omega
    · have p0 : decide (k < K) = false := by simpa using hkn
      have p1 : decide ((k : Int) < (K : Int)) = false := by simpa using hkn
      obtain rfl : k = K := by omega
      have HV0 : Hid (P = (L', 0, 0)) := by show _ = _; rw [HPk.out, Nat.sub_self]; rfl
      obtain ⟨c0, c1, cf, cl⟩ := HX.out
      obtain ⟨o0, o1, o2, o3⟩ : _ ∧ _ ∧ _ ∧ _ := ⟨HT.out.out 0, HT.out.out 1, HT.out.out 2, HT.out.out 3⟩
      have of := HT.out.ofr
      simp at o0 o1 o2 o3
      have HBd : Hid (Below w.heap.size w _) := HT.out.bel
      go_wp2_with fail
      refine bodyPost_ret (v := .agg #[.slice a n c, .slice b m d, .int .i64 0, .int .i64 0]) ?_ rfl ?_
      · simp [results, Tryz.results47, go_sem, o0, o1, o2, o3]
      · rw [HV0.out]
        have h4 := HR.out.kept (row := some (w.heap.size + 1)) (setGrown (j := 3) (u := .int .i64 0) (setGrown (j := 2) (u := .int .i64 0) (setGrown (j := 1) (u := .slice b m d) (setGrown (j := 0) (u := .slice a n c) (World.grownBy.refl _ _))))) (fun j e => by have := (HR.out.lt1 j e).1; have := HB0.out.1; simp; omega) (fun j e => by have := (HR.out.lt2 j e).1; have := HB0.out.1; simp; omega)
        have hlow : w.heap.size ≤ B := by have := HB0.out.1; omega
        exact Or.inl ⟨rfl, a, c, b, d, rfl, ⟨own_low hlow h4.r1, own_low hlow h4.r2, h4.ne⟩, (((HBd.out.setCell s2 _).setCell s2 _).setCell s2 _).setCell s2 _⟩
end Go.Proofs.YtepkmbfedblhdaaGreatDoor
