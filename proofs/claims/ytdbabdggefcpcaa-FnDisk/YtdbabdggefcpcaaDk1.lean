/- Disks handed over: their sizes, copies and comparison, marks: what the laws' helpers do. -/
import Derived.Test.YtdbabdggefcpcaaDkM
namespace Go.Proofs.Ytdbabdggefcpcaa
open Go.RowKit


theorem gr_trans {a b c : World} {row : Option Nat} (h : a.grownBy b row) (k : b.grownBy c row) : a.grownBy c row :=
  ⟨k.os.trans h.os, k.tape.trans h.tape, k.output.trans h.output, Nat.le_trans h.size k.size, fun j hj hne => (k.block j (Nat.lt_of_lt_of_le hj h.size) hne).trans (h.block j hj hne)⟩
set_option maxRecDepth 100000 in
set_option maxHeartbeats 4000000 in
theorem sz_disk (s : ByteArray) (b : Option Addr) (m cap : Nat) (I : Nat → Tx) (hs : s.size ≤ maxLen) (hm : m ≤ maxLen) (hg : ∀ i, i < m → (I i).fits) (left : Nat) (hl : left ≤ 1048576) (w : World) (h : TextsAt w b m I) :
    Calls Try.prog 25 #[.agg #[.string s, .slice b m cap], .int .i64 (left : Int)] w fun e w' => (e = .returned (.int .i64 (-1)) ∨ ∃ r : Nat, e = .returned (.int .i64 (r : Int)) ∧ r ≤ left ∧ s.size ≤ left ∧ m ≤ left ∧ ∀ i, i < m → (I i).small) ∧ Below w.heap.size w w' := by
  have HI : Hid (TextsAt (w.alloc (.cells #[.string s, .slice b m cap] 44)) b m I) := h.below ((Below.refl _ _).alloc (Nat.le_refl _) _)
  have HF : Hid (∀ i, i < m → (I i).fits) := hg
  have HN : Hid (m ≤ maxLen) := hm
  clear h hg hm
  unfold maxLen at hs
  by_cases h0 : s.size ≤ left
  · have q0 : decide ((left : Int) - (s.size : Int) < 0) = false := by simp; omega
    have HT := fun r (hr : r ≤ 1048576) => sz_texts b m cap I HN.out HF.out r hr _ HI.out
    have HT : Hid (∀ r, r ≤ 1048576 → _) := HT
    obtain ⟨r0, hr0⟩ : ∃ r0, left = r0 + s.size := ⟨left - s.size, by omega⟩
    have he : (left : Int) - (s.size : Int) = (r0 : Int) := by omega
    have HE : Hid ((left : Int) - (s.size : Int) = (r0 : Int)) := he
    have HR0 : Hid (left = r0 + s.size) := hr0
    have hr0' : r0 ≤ 1048576 := by omega
    clear he hr0
    go_enter Try.func25, Try.ntmps25
    go_wp2_with fail
    try rw [HE.out]
    refine (HT.out r0 hr0').mono ?_
    rintro e w1 ⟨he, hb1⟩
    have HB1 : Hid (Below w.heap.size w w1) := ((Below.refl _ _).alloc (Nat.le_refl _) _).trans (hb1.mono (by simp))
    clear hb1 HI HT
    rcases he with rfl | ⟨r, rfl, hr, hml, hsm⟩
    · have q : decide ((-1 : Int) < 0) = true := rfl
      go_wp2_with fail
      go_ret
      exact ⟨Or.inl rfl, HB1.out⟩
    have HS : Hid (∀ i, i < m → (I i).small) := hsm
    clear hsm
    have q : decide ((r : Int) < 0) = false := by simp
    go_wp2_with fail
    go_ret
    have := HR0.out
    exact ⟨Or.inr ⟨r, rfl, by omega, h0, by omega, HS.out⟩, HB1.out⟩
  · have q0 : decide ((left : Int) - (s.size : Int) < 0) = true := by simp; omega
    go_enter Try.func25, Try.ntmps25
    go_wp2_with fail
    go_ret
    exact ⟨Or.inl rfl, (Below.refl _ _).alloc (Nat.le_refl _) _⟩
set_option maxRecDepth 100000 in
set_option maxHeartbeats 4000000 in
theorem to_disk (s : ByteArray) (b : Option Addr) (m cap : Nat) (I : Nat → Tx) (hm : m ≤ 1048576) (w : World) (h : TextsAt w b m I) :
    Calls Try.prog 26 #[.agg #[.string s, .slice b m cap]] w fun e w' => ∃ k, e = .returned (.agg #[.string s, .slice (some ⟨k, 0, none⟩) m m]) ∧ w.heap.size ≤ k ∧ Own w' k m (textF I) ∧ Below w.heap.size w w' := by
  have HI : Hid (TextsAt w b m I) := h
  clear h
  have HT0 : Hid (∀ cs, Three w (((w.alloc (.cells cs 44)).alloc (.cells #[.string ⟨#[]⟩, .slice none 0 0] 25)).alloc (.cells #[.string s, .slice none 0 0] 25)) cs #[.string ⟨#[]⟩, .slice none 0 0] #[.string s, .slice none 0 0]) := fun cs => three_new w cs #[.string ⟨#[]⟩, .slice none 0 0] #[.string s, .slice none 0 0] _ _ _
  go_enter Try.func26, Try.ntmps26
  go_wp2_with fail
  refine (to_texts b m cap I hm _ (HI.out.below (HT0.out _).bel)).mono ?_
  rintro e w1 ⟨g, rfl, hg, hO, hb1⟩
  have T1 := (HT0.out _).next hb1
  have hg3 : w.heap.size + 3 ≤ g := by simp at hg; omega
  have p0 := T1.out 0
  have p1 := T1.out 1
  have pf := T1.ofr
  have r0 := T1.res 0
  have r1 := T1.res 1
  have rf := T1.rfr
  simp at p0 p1 r0 r1
  have HB : Hid (Below w.heap.size w w1) := T1.bel
  have HO : Hid (Own w1 g m (textF I)) := hO
  clear hb1 T1 hg hO HT0
  go_wp2_with fail
  refine bodyPost_ret (v := .agg #[.string s, .slice (some ⟨g, 0, none⟩) m m]) ?_ rfl ⟨g, rfl, by omega, ?_, ?_⟩
  · simp [results, Try.results26, go_sem, r0, r1]
  · exact ((HO.out.grown (setGrown (World.grownBy.refl _ _)) (by omega)).grown (setGrown (World.grownBy.refl _ _)) (by omega)).grown (setGrown (World.grownBy.refl _ _)) (by omega)
  · have a1 : w.heap.size ≤ w.heap.size + 1 := by omega
    have a2 : w.heap.size ≤ w.heap.size + 1 + 1 := by omega
    exact ((HB.out.setCell a2 _).setCell a1 _).setCell a1 _
set_option maxRecDepth 100000 in
set_option maxHeartbeats 4000000 in
theorem eq_disk (s : ByteArray) (b b' : Option Addr) (m c1 c2 : Nat) (I : Nat → Tx) (hm : m ≤ 1048576) (w : World) (hi : TextsAt w b m I) (hi' : TextsAt w b' m I) :
    Calls Try.prog 27 #[.agg #[.string s, .slice b m c1], .agg #[.string s, .slice b' m c2]] w fun e w' => e = .returned (.bool true) ∧ Below w.heap.size w w' := by
  have HT0 : Hid (∀ cs rs, Both w ((w.alloc (.cells cs 25)).alloc (.cells rs 25)) cs rs) := fun cs rs => two_now w cs rs _ _
  have HI : Hid (TextsAt w b m I ∧ TextsAt w b' m I) := ⟨hi, hi'⟩
  have hxx : ∀ x : List UInt8, (x == x) = true := fun x => by simp
  clear hi hi'
  go_enter Try.func27, Try.ntmps27
  go_wp2_with fail
  refine (eq_texts b b' m c1 c2 I hm _ (HI.out.1.below ?_) (HI.out.2.below ?_)).mono ?_
  · exact (HT0.out _ _).bel
  · exact (HT0.out _ _).bel
  rintro e w1 ⟨rfl, hb1⟩
  have T1 := (HT0.out _ _).next hb1
  have HB1 : Hid (Below w.heap.size w w1) := T1.bel
  clear hb1 T1
  go_wp2_with fail
  go_ret
  exact ⟨rfl, HB1.out⟩
set_option maxRecDepth 100000 in
set_option maxHeartbeats 4000000 in
theorem mark_disk (s : ByteArray) (a : Option Addr) (m cap : Nat) (F : Nat → Value) (hm : m ≤ 1048576) (k0 : Nat) (hk1 : 1 ≤ k0) (hk2 : k0 ≤ 549755813888) (w : World) (h : OwnR w a m 1 F) :
    Calls Try.prog 30 #[.agg #[.string s, .slice a m cap], .int .i64 (k0 : Int)] w fun e w' => e = .returned (.int .i64 ((k0 + m : Nat) : Int)) ∧ OwnR w' a m 1 (mkT k0) ∧ w.grownBy w' (a.map Addr.block) := by
  have HO : Hid (OwnR (w.alloc (.cells #[.string s, .slice a m cap] 25)) a m 1 F) := h.below ((Below.refl _ _).alloc (Nat.le_refl _) _)
  have HG : Hid (∀ r, w.grownBy (w.alloc (.cells #[.string s, .slice a m cap] 25)) r) := fun r => World.grownBy_alloc _ _ _
  clear h
  go_enter Try.func30, Try.ntmps30
  go_wp2_with fail
  refine (mark_texts a m cap F hm k0 hk1 hk2 _ HO.out).mono ?_
  rintro e w1 ⟨rfl, hO, hg⟩
  have HO1 : Hid (OwnR w1 a m 1 (mkT k0)) := hO
  have HG1 : Hid (w.grownBy w1 (a.map Addr.block)) := gr_trans (HG.out _) hg
  clear hO hg HO
  go_wp2_with fail
  go_ret
  exact ⟨rfl, HO1.out, HG1.out⟩
set_option maxRecDepth 100000 in
set_option maxHeartbeats 4000000 in
theorem held_disk (s : ByteArray) (a : Option Addr) (m cap : Nat) (hm : m ≤ 1048576) (k0 : Nat) (hk1 : 1 ≤ k0) (hk2 : k0 ≤ 549755813888) (w : World) (h : OwnR w a m 1 (mkT k0)) :
    Calls Try.prog 31 #[.agg #[.string s, .slice a m cap], .int .i64 (k0 : Int)] w fun e w' => e = .returned (.int .i64 ((k0 + m : Nat) : Int)) ∧ Below w.heap.size w w' := by
  have HO : Hid (OwnR (w.alloc (.cells #[.string s, .slice a m cap] 25)) a m 1 (mkT k0)) := h.below ((Below.refl _ _).alloc (Nat.le_refl _) _)
  clear h
  go_enter Try.func31, Try.ntmps31
  go_wp2_with fail
  refine (held_texts a m cap hm k0 hk1 hk2 _ HO.out).mono ?_
  rintro e w1 ⟨rfl, hb1⟩
  have HB1 : Hid (Below w.heap.size w w1) := ((Below.refl _ _).alloc (Nat.le_refl _) _).trans (hb1.mono (by simp))
  clear hb1 HO
  have q : decide (((k0 + m : Nat) : Int) < 0) = false := by simp; omega
  have q' : decide ((k0 : Int) + (m : Int) < 0) = false := by simp; omega
  go_wp2_with fail
  go_ret
  exact ⟨rfl, HB1.out⟩
end Go.Proofs.Ytdbabdggefcpcaa
