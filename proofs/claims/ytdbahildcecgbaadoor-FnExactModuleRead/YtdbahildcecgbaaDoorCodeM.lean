/- What code does to the height of a stack, as mathematics: places that are reached, code that has no fault, and what following the places one by one finds (no program in it). -/
import Derived.WalkKit
namespace Go.Proofs.YtdbahildcecgbaaDoor

/-- An instruction. -/
structure In where
  o : Int
  a : Int
  b : Int
def takeO (o : Int) : Int := if o = 4 then 1 else if o = 21 then 1 else if o = 23 then 1 else if o = 25 then 1 else if o = 19 then 1 else if 11 ≤ o ∧ o ≤ 18 then 2 else 0
def putO (o : Int) : Int := if o = 2 then 1 else if o = 3 then 1 else if 5 ≤ o ∧ o ≤ 10 then 1 else if 11 ≤ o ∧ o ≤ 20 then 1 else 0
def takeI (x : In) : Int := if x.o = 20 then (if x.a = 1 then 4 else if x.a = 2 then 4 else 2) else takeO x.o
def putI (x : In) : Int := putO x.o
def endI (x : In) : Bool := x.o == 22 || (x.o == 24 || x.o == 26)
def jmpI (x : In) : Bool := x.o == 21 || x.o == 22
theorem take_range (x : In) : 0 ≤ takeI x ∧ takeI x ≤ 4 := by unfold takeI takeO; repeat' split <;> omega
theorem put_range (x : In) : 0 ≤ putI x ∧ putI x ≤ 1 := by unfold putI putO; repeat' split <;> omega

def RchN (L : Nat → In) : Nat → Nat → Int → Prop
  | 0, k, h => k = 0 ∧ h = 0
  | m + 1, k, h => ∃ k' h', RchN L m k' h' ∧ ((endI (L k') = false ∧ k = k' + 1) ∨ (jmpI (L k') = true ∧ k = (L k').a.toNat)) ∧ h = h' - takeI (L k') + putI (L k')
/-- A place that is come to, at a height. -/
def Rch (L : Nat → In) (k : Nat) (h : Int) : Prop := ∃ m, RchN L m k h
theorem Rch.start {L : Nat → In} : Rch L 0 0 := ⟨0, rfl, rfl⟩
theorem Rch.next {L : Nat → In} {k : Nat} {h : Int} (hr : Rch L k h) (he : endI (L k) = false) : Rch L (k + 1) (h - takeI (L k) + putI (L k)) := by
  obtain ⟨m, hm⟩ := hr; exact ⟨m + 1, k, h, hm, Or.inl ⟨he, rfl⟩, rfl⟩
theorem Rch.jump {L : Nat → In} {k : Nat} {h : Int} (hr : Rch L k h) (he : jmpI (L k) = true) : Rch L (L k).a.toNat (h - takeI (L k) + putI (L k)) := by
  obtain ⟨m, hm⟩ := hr; exact ⟨m + 1, k, h, hm, Or.inr ⟨he, rfl⟩, rfl⟩
/-- No fault is met, wherever one comes. -/
def Good (L : Nat → In) (n : Nat) : Prop := ∀ k h, Rch L k h → k < n ∧ takeI (L k) ≤ h ∧ h ≤ 60 ∧ ∀ h', Rch L k h' → h' = h
/-- The heights of all places: -1 of one that is not come to. -/
def HgtIs (L : Nat → In) (n : Nat) (lv : Nat → Int) : Prop := ∀ k, k < n → (0 ≤ lv k ∧ lv k ≤ 60 ∧ Rch L k (lv k)) ∨ (lv k = -1 ∧ ∀ z, ¬ Rch L k z)
theorem HgtIs.one {L : Nat → In} {n : Nat} {lv lv' : Nat → Int} (g : Good L n) (h : HgtIs L n lv) (h' : HgtIs L n lv') {k : Nat} (hk : k < n) : lv k = lv' k := by
  rcases h k hk with ⟨_, _, r⟩ | ⟨e, r⟩ <;> rcases h' k hk with ⟨_, _, r'⟩ | ⟨e', r'⟩
  · exact (g k _ r').2.2.2 _ r
  · exact absurd r (r' _)
  · exact absurd r' (r _)
  · rw [e, e']

/-- What is left behind a place: it goes on rightly. -/
def Shut (L : Nat → In) (n : Nat) (lv : Nat → Int) (k : Nat) : Prop :=
  takeI (L k) ≤ lv k ∧ (endI (L k) = false → k + 1 < n ∧ lv (k + 1) = lv k - takeI (L k) + putI (L k)) ∧ (jmpI (L k) = true → (L k).a.toNat < n ∧ lv (L k).a.toNat = lv k - takeI (L k) + putI (L k))
structure Climb (L : Nat → In) (n : Nat) (lv : Nat → Int) (U : Nat → Prop) : Prop where
  zero : 0 < n ∧ lv 0 = 0
  low : ∀ k, k < n → -1 ≤ lv k
  sound : ∀ k, k < n → 0 ≤ lv k → Rch L k (lv k) ∧ lv k ≤ 60
  shut : ∀ k, k < n → 0 ≤ lv k → ¬ U k → Shut L n lv k
def putL (lv : Nat → Int) (k : Nat) (h : Int) (j : Nat) : Int := if j = k then h else lv j
theorem Climb.first {L : Nat → In} {n : Nat} (hn : 0 < n) : Climb L n (putL (fun _ => -1) 0 0) (fun k => k = 0) := by
  refine ⟨⟨hn, by simp [putL]⟩, fun k _ => ?_, fun k _ h => ?_, fun k _ h hu => ?_⟩
  · show -1 ≤ (if k = 0 then 0 else (-1 : Int)); split <;> omega
  · by_cases e : k = 0
    · subst e; simp [putL]; exact Rch.start
    · simp [putL, e] at h
  · have e : ¬ k = 0 := hu
    simp [putL, e] at h
theorem Climb.wider {L : Nat → In} {n : Nat} {lv : Nat → Int} {U V : Nat → Prop} (h : Climb L n lv U) (huv : ∀ k, U k → V k) : Climb L n lv V :=
  ⟨h.zero, h.low, h.sound, fun k hk h0 hv => h.shut k hk h0 (fun hu => hv (huv k hu))⟩
theorem Climb.mark {L : Nat → In} {n : Nat} {lv : Nat → Int} {U : Nat → Prop} (h : Climb L n lv U) {k : Nat} {z : Int} (hk : lv k < 0) (hr : Rch L k z) (hz : z ≤ 60) (hz0 : 0 ≤ z) : Climb L n (putL lv k z) (fun j => U j ∨ j = k) := by
  have ne : ∀ j, 0 ≤ lv j → putL lv k z j = lv j := fun j hj => by
    unfold putL; rw [if_neg]; intro e; subst e; omega
  refine ⟨⟨h.zero.1, by rw [ne 0 (by rw [h.zero.2]; omega)]; exact h.zero.2⟩, fun j hj => ?_, fun j hj h0 => ?_, fun j hj h0 hu => ?_⟩
  · unfold putL; split
    · omega
    · exact h.low j hj
  · by_cases e : j = k
    · subst e; simp [putL]; exact ⟨hr, hz⟩
    · simp [putL, e] at h0 ⊢; exact h.sound j hj h0
  · have e : ¬ j = k := fun e => hu (Or.inr e)
    have hu' : ¬ U j := fun e => hu (Or.inl e)
    have hj0 : 0 ≤ lv j := by simpa [putL, e] using h0
    obtain ⟨s1, s2, s3⟩ := h.shut j hj hj0 hu'
    have hp := put_range (L j)
    refine ⟨by rw [ne j hj0]; exact s1, fun he => ?_, fun he => ?_⟩
    · have t := s2 he
      refine ⟨t.1, ?_⟩
      rw [ne j hj0, ne (j + 1) (by omega)]; exact t.2
    · have t := s3 he
      refine ⟨t.1, ?_⟩
      rw [ne j hj0, ne _ (by omega)]; exact t.2
theorem Climb.closed {L : Nat → In} {n : Nat} {lv : Nat → Int} {U V : Nat → Prop} (h : Climb L n lv U) {k : Nat} (hs : Shut L n lv k) (hv : ∀ j, U j → j = k ∨ V j) : Climb L n lv V := by
  refine ⟨h.zero, h.low, h.sound, fun j hj h0 hn => ?_⟩
  by_cases e : j = k
  · subst e; exact hs
  · exact h.shut j hj h0 (fun hu => (hv j hu).elim e hn)
theorem Climb.all {L : Nat → In} {n : Nat} {lv : Nat → Int} (h : Climb L n lv (fun _ => False)) {k : Nat} {z : Int} (hr : Rch L k z) : k < n ∧ lv k = z ∧ takeI (L k) ≤ z := by
  have key : ∀ m k z, RchN L m k z → k < n ∧ lv k = z ∧ 0 ≤ z := by
    intro m
    induction m with
    | zero => rintro k z ⟨rfl, rfl⟩; exact ⟨h.zero.1, h.zero.2, by omega⟩
    | succ m ih =>
      rintro k z ⟨k', z', hr, hs, rfl⟩
      obtain ⟨i1, i2, i3⟩ := ih k' z' hr
      obtain ⟨s1, s2, s3⟩ := h.shut k' i1 (by omega) (fun x => x)
      have hp := put_range (L k')
      rcases hs with ⟨he, rfl⟩ | ⟨he, rfl⟩
      · have t := s2 he
        exact ⟨t.1, by rw [t.2, i2], by rw [i2] at s1; omega⟩
      · have t := s3 he
        exact ⟨t.1, by rw [t.2, i2], by rw [i2] at s1; omega⟩
  obtain ⟨m, hm⟩ := hr
  obtain ⟨i1, i2, i3⟩ := key m k z hm
  exact ⟨i1, i2, by rw [← i2]; exact (h.shut k i1 (by omega) (fun x => x)).1⟩
theorem Climb.good {L : Nat → In} {n : Nat} {lv : Nat → Int} (h : Climb L n lv (fun _ => False)) : Good L n := by
  intro k z hr
  obtain ⟨i1, i2, i3⟩ := h.all hr
  have ht := take_range (L k)
  refine ⟨i1, i3, by rw [← i2]; exact (h.sound k i1 (by omega)).2, fun z' hr' => by rw [← (h.all hr').2.1, i2]⟩
theorem Climb.hgts {L : Nat → In} {n : Nat} {lv : Nat → Int} (h : Climb L n lv (fun _ => False)) : HgtIs L n lv := by
  intro k hk
  have l := h.low k hk
  rcases (by omega : lv k = -1 ∨ 0 ≤ lv k) with e | e
  · exact Or.inr ⟨e, fun z hz => by have t := h.all hz; have := take_range (L k); omega⟩
  · exact Or.inl ⟨e, (h.sound k hk e).2, (h.sound k hk e).1⟩
/-- Faults. -/
theorem bad_take {L : Nat → In} {n k : Nat} {z : Int} (hr : Rch L k z) (h : z < takeI (L k)) : ¬ Good L n := fun g => by have := (g k z hr).2.1; omega
theorem bad_place {L : Nat → In} {n k : Nat} {z : Int} (hr : Rch L k z) (h : n ≤ k) : ¬ Good L n := fun g => by have := (g k z hr).1; omega
theorem bad_high {L : Nat → In} {n k : Nat} {z : Int} (hr : Rch L k z) (h : 60 < z) : ¬ Good L n := fun g => by have := (g k z hr).2.2.1; omega
theorem bad_two {L : Nat → In} {n k : Nat} {z z' : Int} (hr : Rch L k z) (hr' : Rch L k z') (h : z ≠ z') : ¬ Good L n := fun g => h ((g k z' hr').2.2.2 z hr)
/-- How many places are not reached yet. -/
def unl (lv : Nat → Int) : Nat → Nat
  | 0 => 0
  | n + 1 => unl lv n + (if lv n < 0 then 1 else 0)
theorem unl_congr {lv lv' : Nat → Int} {n : Nat} (h : ∀ k, k < n → lv k = lv' k) : unl lv n = unl lv' n := by
  induction n with
  | zero => rfl
  | succ n ih => rw [unl, unl, ih (fun k hk => h k (by omega)), h n (by omega)]
theorem unl_put {lv : Nat → Int} {n k : Nat} {z : Int} (hk : k < n) (h0 : lv k < 0) (hz : 0 ≤ z) : unl (putL lv k z) n + 1 = unl lv n := by
  induction n with
  | zero => omega
  | succ n ih =>
    rw [unl, unl]
    by_cases e : k = n
    · subst e
      rw [unl_congr (lv' := lv) (fun j hj => by unfold putL; rw [if_neg (by omega)])]
      simp only [putL, if_pos]
      rw [if_neg (by omega), if_pos h0]
    · have := ih (by omega)
      have e' : putL lv k z n = lv n := by unfold putL; rw [if_neg (fun x => e x.symm)]
      rw [e']
      omega
theorem unl_le (lv : Nat → Int) (n : Nat) : unl lv n ≤ n := by
  induction n with
  | zero => simp [unl]
  | succ n ih => rw [unl]; split <;> omega
end Go.Proofs.YtdbahildcecgbaaDoor
