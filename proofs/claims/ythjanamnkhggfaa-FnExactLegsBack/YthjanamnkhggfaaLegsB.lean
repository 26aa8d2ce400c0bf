/- Legs turned back (spec.LegsBack, impl.LegsBack): what each call does. -/
import Derived.Test.YthjanamnkhggfaaLegsR
import Derived.Test.YthjanamnkhggfaaLegsM
import Derived.Deep.RegionHeldLaw
import Derived.Deep.AppendLies
namespace Go.Proofs.Ythjanamnkhggfaa
open Go.RowKit


def swp (x : Lg) : Lg := ⟨x.ta, x.ts, x.fa, x.fs, x.m⟩
def backL (n : Nat) (L : Nat → Lg) (t : Nat) : Lg := swp (L (n - 1 - t))
def backN (n : Nat) (L : Nat → Lg) : Nat := if legsB n L = true then n else 0
def legC (x : Lg) : List Value := [.string x.fa, .string x.fs, .string x.ta, .string x.ts, .int .i64 x.m]
def legsC (B : Nat → Lg) : Nat → List Value
  | 0 => []
  | k + 1 => legsC B k ++ legC (B k)
theorem legsC_len (B : Nat → Lg) (k : Nat) : (legsC B k).length = k * 5 := by
  induction k with
  | zero => rfl
  | succ k ih => rw [legsC, List.length_append, ih]; simp [legC]; omega
theorem legC_at (L : Nat → Lg) (i r : Nat) (h : r < 5) : (legC (L i))[r]? = some (legF L (i * 5 + r)) := by
  obtain ⟨e0, e1, e2, e3, e4⟩ := legF_at L i
  rcases (by omega : r = 0 ∨ r = 1 ∨ r = 2 ∨ r = 3 ∨ r = 4) with rfl | rfl | rfl | rfl | rfl
  · rw [Nat.add_zero, e0]; rfl
  · rw [e1]; rfl
  · rw [e2]; rfl
  · rw [e3]; rfl
  · rw [e4]; rfl
theorem legsC_at (B : Nat → Lg) (k j : Nat) (h : j < k * 5) : (legsC B k)[j]? = some (legF B j) := by
  induction k with
  | zero => omega
  | succ k ih =>
    rw [legsC]
    by_cases hj : j < k * 5
    · rw [List.getElem?_append_left (by rw [legsC_len]; exact hj)]; exact ih hj
    · rw [List.getElem?_append_right (by rw [legsC_len]; omega), legsC_len, legC_at B k _ (by omega)]
      congr 2; omega
/-- An owned row of legs as its cells. -/
theorem own_legs {w : World} {B n : Nat} {v : Value} {L : Nat → Lg} (h : w.ownsRow B 70 5 v n (legsC L n)) : ∃ a cap, v = .slice a n cap ∧ OwnR w a n 5 (legF L) ∧ ∀ k, a.map Addr.block = some k → B ≤ k ∧ k < w.heap.size := by
  obtain ⟨_, ⟨rfl, rfl⟩ | ⟨g, cap, cur, rfl, hB, hblk, _⟩⟩ := id h
  · exact ⟨none, 0, rfl, Or.inl rfl, fun k e => by cases e⟩
  · refine ⟨_, cap, rfl, Or.inr ⟨g, rfl, (own_row h (fun j hj => legsC_at L n j hj)).1⟩, fun k e => ?_⟩
    simp at e
    subst e
    exact ⟨hB, (Array.getElem?_eq_some_iff.1 hblk).1⟩
theorem OwnR.legs {w : World} {a : Option Addr} {n : Nat} {L : Nat → Lg} (h : OwnR w a n 5 (legF L)) : LegsAt w a n L := by
  rcases h with h | ⟨g, rfl, hO⟩
  · exact Or.inl h
  · exact hO.legs
theorem news5 (w : World) (x0 x1 x2 x3 x4 : Value) : ∀ j u, [x0, x1, x2, x3, x4][j]? = some u → (w.alloc (.cells #[x0, x1, x2, x3, x4] 70)).cell? ((⟨w.heap.size, 0, none⟩ : Addr).add j) = some u := by
  intro j u hj
  have hadd : (⟨w.heap.size, 0, none⟩ : Addr).add j = ⟨w.heap.size, j, none⟩ := by unfold Addr.add; split <;> simp_all
  rw [hadd, World.cell?_alloc_new, ← hj]
  simp
theorem ones5 (x0 x1 x2 x3 : ByteArray) (x4 : Int) : ∀ u ∈ [Value.string x0, .string x1, .string x2, .string x3, .int .i64 x4], u.oneCell' = true := by
  intro u hu; simp at hu; rcases hu with rfl | rfl | rfl | rfl | rfl <;> rfl
/-- A leg more behind the owned legs. -/
theorem legs_snoc {w w1 wr : World} {B : Nat} {v v' : Value} {L : Nat → Lg} {k : Nat} {o : Obj} (hb : Below B w wr) (hB : B ≤ w.heap.size) (hown : wr.ownsRow B 70 5 v k (legsC L k))
    (hown' : w1.ownsRow B 70 5 v' (k + 1) (legsC L k ++ legC (L k))) (hg : (wr.alloc o).grownBy w1 v.ownBlock) :
    w1.ownsRow B 70 5 v' (k + 1) (legsC L (k + 1)) ∧ Below B w w1 := by
  have hs := hb.size
  exact ⟨hown', (hb.alloc (by omega) o).grown hg (by simp; omega) (fun k hk => (hown.lt k hk).1)⟩

set_option maxRecDepth 100000 in
set_option maxHeartbeats 4000000 in
theorem impl_back (a : Option Addr) (n cap : Nat) (L : Nat → Lg) (hn : n ≤ 1048576) (hfit : ∀ i, i < n → (L i).fits) (w : World) (h : LegsAt w a n L) :
    Calls Try.prog 17 #[.slice a n cap] w fun e w' => ∃ v, e = .returned v ∧ w'.ownsRow w.heap.size 70 5 v (backN n L) (legsC (backL n L) (backN n L)) ∧ Below w.heap.size w w' := by
  obtain ⟨i0, hi, hz0, hz1, hz2⟩ := info_parts infoLeg
  have HL : Hid (LegsAt w a n L) := h
  have HR := impl_legs a n cap L hn hfit w h
  have HBN : Hid (backN n L = if legsB n L = true then n else 0) := rfl
  have H20 : Hid (legsB n L = true → n ≤ 20) := fun h => ((legsB_iff n L).1 h).1
  generalize legsB n L = b at *
  have HR : Hid (Calls Try.prog 14 #[.slice a n cap] w fun e w' => e = .returned (.bool b) ∧ Below w.heap.size w w') := HR
  clear h hfit
  go_enter Try.func17, Try.ntmps17
  go_wp2_with fail
  refine HR.out.mono ?_
  rintro e w1 ⟨rfl, hb1⟩
  have HB1 : Hid (Below w.heap.size w w1) := hb1
  clear hb1 HR
  cases b
  · have HZ : Hid (backN n L = 0) := HBN.out
    go_wp2_with fail
    go_ret
    exact ⟨_, rfl, by rw [HZ.out]; exact World.ownsRow_nil _ _ _ _, HB1.out⟩
  have HZ : Hid (backN n L = n) := HBN.out
  have hn20 : n ≤ 20 := H20.out rfl
  clear HBN H20 hn
  go_wp2_with fail
  go_loopw [3, 11] (fun v i wr => ∃ k : Nat, i = .int .i64 (k : Int) ∧ k ≤ n ∧ Hid (wr.ownsRow w.heap.size 70 5 v k (legsC (backL n L) k)) ∧ Hid (Below w.heap.size w wr)) (fun _ i _ => n - (intOf i).toNat)
  case atStart => exact ⟨0, rfl, by omega, World.ownsRow_nil _ _ _ _, HB1⟩
  case round =>
    obtain ⟨k, rfl, hk, HO, HB⟩ := hrel
    by_cases hkn : k < n
    · have p0 : decide (k < n) = true := by simpa using hkn
      have p1 : decide ((k : Int) < (n : Int)) = true := by simpa using hkn
      rcases HL.out with h0 | ⟨g, o, rfl, hg, hc⟩
      · omega
      obtain ⟨q, hq⟩ : ∃ q, q = n - 1 - k := ⟨_, rfl⟩
      obtain ⟨c0, c1, c2, c3, c4⟩ := hc q (by omega)
      have d0 := (HB.out.cell (p := ⟨g, _, none⟩) hg).trans c0
      have d1 := (HB.out.cell (p := ⟨g, _, none⟩) hg).trans c1
      have d2 := (HB.out.cell (p := ⟨g, _, none⟩) hg).trans c2
      have d3 := (HB.out.cell (p := ⟨g, _, none⟩) hg).trans c3
      have d4 := (HB.out.cell (p := ⟨g, _, none⟩) hg).trans c4
      have hqn : q < n := by omega
      have hqi : (n : Int) - 1 - (k : Int) = (q : Int) := by omega
      have HQ : Hid (legC (backL n L k) = [.string (L q).ta, .string (L q).ts, .string (L q).fa, .string (L q).fs, .int .i64 (L q).m]) := by rw [hq]; rfl
      clear hc c0 c1 c2 c3 c4 hq
      generalize (L q).fa = x0 at *
      generalize (L q).fs = x1 at *
      generalize (L q).ta = x2 at *
      generalize (L q).ts = x3 at *
      generalize (L q).m = x4 at *
      have hown := (HO.out.alloc (.cells #[.string x0, .string x1, .string x2, .string x3, .int .i64 x4] 70))
      have HBa : Hid (Below w.heap.size w (wr.alloc (.cells #[.string x0, .string x1, .string x2, .string x3, .int .i64 x4] 70))) := HB.out.alloc HB.out.size _
      have hsz := HB.out.size
      go_wp2_with (at_builtin; refine wpList_append_own _ rfl (.tmp 22) (.tmp 30) 37 rfl w.heap.size 70 i0 (.agg #[.string ⟨#[]⟩, .string ⟨#[]⟩, .string ⟨#[]⟩, .string ⟨#[]⟩, .int .i64 0]) 5 72 Try.underlying37 hi hz0 hz1 hz2 rfl (by decide) _ _ _ rfl (hown.alloc _) ⟨wr.heap.size + 1, 0, none⟩ 1 1 [.string x2, .string x3, .string x0, .string x1, .int .i64 x4] rfl rfl ?c1 ?c2 ?c3 ?c4 ?c5 ?_)
      case c1 => have := news5 (wr.alloc (.cells #[.string x0, .string x1, .string x2, .string x3, .int .i64 x4] 70)) (.string x2) (.string x3) (.string x0) (.string x1) (.int .i64 x4); simpa using this
      case c2 => exact ones5 _ _ _ _ _
      case c3 => unfold maxLen; omega
      case c4 => omega
      case c5 => simp; omega
      intro v' w3 hown3 hg3 _
      rw [← HQ.out] at hown3
      have R := legs_snoc HBa.out (Nat.le_refl _) hown hown3 hg3
      have HR1 : Hid (w3.ownsRow w.heap.size 70 5 v' (k + 1) (legsC (backL n L) (k + 1))) := R.1
      have HR2 : Hid (Below w.heap.size w w3) := R.2
      clear hown3 hg3 hown R d0 d1 d2 d3 d4
      go_wp2_with fail
      go_roundw
      case rel => exact ⟨k + 1, by go_num, by omega, HR1, HR2⟩
      case measure => simp [intOf]; omega
    · have p0 : decide (k < n) = false := by simpa using hkn
      have p1 : decide ((k : Int) < (n : Int)) = false := by simpa using hkn
      obtain rfl : k = n := by omega
      go_wp2_with fail
      go_ret
      exact ⟨_, rfl, by rw [HZ.out]; exact HO.out, HB.out⟩
set_option maxRecDepth 100000 in
set_option maxHeartbeats 4000000 in
theorem spec_back (a : Option Addr) (n cap : Nat) (L : Nat → Lg) (hn : n ≤ 1048576) (hfit : ∀ i, i < n → (L i).fits) (w : World) (h : LegsAt w a n L) :
    Calls Try.prog 16 #[.slice a n cap] w fun e w' => ∃ v, e = .returned v ∧ w'.ownsRow w.heap.size 70 5 v (backN n L) (legsC (backL n L) (backN n L)) ∧ Below w.heap.size w w' := by
  obtain ⟨i0, hi, hz0, hz1, hz2⟩ := info_parts infoLeg
  have HL : Hid (LegsAt w a n L) := h
  have HR := spec_legs a n cap L hn hfit (w.alloc (.cells #[] 70)) (h.below ((Below.refl _ _).alloc (Nat.le_refl _) _))
  have HBN : Hid (backN n L = if legsB n L = true then n else 0) := rfl
  have H20 : Hid (legsB n L = true → n ≤ 20) := fun h => ((legsB_iff n L).1 h).1
  generalize legsB n L = b at *
  have HR : Hid (Calls Try.prog 12 #[.slice a n cap] (w.alloc (.cells #[] 70)) fun e w' => e = .returned (.bool b) ∧ Below (w.alloc (.cells #[] 70)).heap.size (w.alloc (.cells #[] 70)) w') := HR
  clear h hfit
  go_enter Try.func16, Try.ntmps16
  go_wp2_with fail
  refine HR.out.mono ?_
  rintro e w1 ⟨rfl, hb1⟩
  have HB1 : Hid (Below w.heap.size w w1) := ((Below.refl _ _).alloc (Nat.le_refl _) _).trans (hb1.mono (by simp))
  have HO1 : Hid (w1.ownsRow w.heap.size 70 5 (.slice (some ⟨w.heap.size, 0, none⟩) 0 0) 0 []) := own_below (own_new0 rfl (Nat.le_refl _)) hb1
  clear hb1 HR
  cases b
  · have HZ : Hid (backN n L = 0) := HBN.out
    go_wp2_with fail
    go_ret
    exact ⟨_, rfl, by rw [HZ.out]; exact HO1.out, HB1.out⟩
  have HZ : Hid (backN n L = n) := HBN.out
  have hn20 : n ≤ 20 := H20.out rfl
  clear HBN H20 hn
  go_wp2_with fail
  go_loopw [3, 4] (fun v i wr => ∃ k : Nat, i = .int .i64 ((n : Int) - 1 - (k : Int)) ∧ k ≤ n ∧ Hid (wr.ownsRow w.heap.size 70 5 v k (legsC (backL n L) k)) ∧ Hid (Below w.heap.size w wr)) (fun _ i _ => (intOf i + 1).toNat)
  case atStart => exact ⟨0, by go_num, by omega, HO1, HB1⟩
  case round =>
    obtain ⟨k, rfl, hk, HO, HB⟩ := hrel
    by_cases hkn : k < n
    · have p0 : decide (0 ≤ (n : Int) - 1 - (k : Int)) = true := by simp; omega
      rcases HL.out with h0 | ⟨g, o, rfl, hg, hc⟩
      · omega
      obtain ⟨q, hq⟩ : ∃ q, q = n - 1 - k := ⟨_, rfl⟩
      obtain ⟨c0, c1, c2, c3, c4⟩ := hc q (by omega)
      have d0 := (HB.out.cell (p := ⟨g, _, none⟩) hg).trans c0
      have d1 := (HB.out.cell (p := ⟨g, _, none⟩) hg).trans c1
      have d2 := (HB.out.cell (p := ⟨g, _, none⟩) hg).trans c2
      have d3 := (HB.out.cell (p := ⟨g, _, none⟩) hg).trans c3
      have d4 := (HB.out.cell (p := ⟨g, _, none⟩) hg).trans c4
      have hqn : q < n := by omega
      have hqi : (n : Int) - 1 - (k : Int) = (q : Int) := by omega
      have HQ : Hid (legC (backL n L k) = [.string (L q).ta, .string (L q).ts, .string (L q).fa, .string (L q).fs, .int .i64 (L q).m]) := by rw [hq]; rfl
      have p1 : decide (0 ≤ (q : Int)) = true := by simp
      rw [hqi]
      have HQI : Hid ((n : Int) - 1 - (k : Int) = (q : Int)) := hqi
      clear hc c0 c1 c2 c3 c4 hq hqi p0
      generalize (L q).fa = x0 at *
      generalize (L q).fs = x1 at *
      generalize (L q).ta = x2 at *
      generalize (L q).ts = x3 at *
      generalize (L q).m = x4 at *
      have hgr : g < wr.heap.size := Nat.lt_of_lt_of_le hg HB.out.size
      have hsz := HB.out.size
      go_upto_region 7 with fail
      go_region_held_law (fun W => W.cell? ⟨g, o + q * 5, none⟩ = some (.string x0) ∧ W.cell? ⟨g, o + q * 5 + 1, none⟩ = some (.string x1) ∧ W.cell? ⟨g, o + q * 5 + 2, none⟩ = some (.string x2) ∧ W.cell? ⟨g, o + q * 5 + 3, none⟩ = some (.string x3) ∧ W.cell? ⟨g, o + q * 5 + 4, none⟩ = some (.int .i64 x4)) (go_keep)
        ((refine step_append_lies _ (by rfl) _ _ _ (by rfl) w.heap.size 70 i0 (.agg #[.string ⟨#[]⟩, .string ⟨#[]⟩, .string ⟨#[]⟩, .string ⟨#[]⟩, .int .i64 0]) 5 72 Try.underlying37 hi hz0 hz1 hz2 (by rfl) (by decide) _ k _ (by rfl) (HO.out.alloc _) ⟨wr.heap.size, 0, none⟩ 1 1 [.string x2, .string x3, .string x0, .string x1, .int .i64 x4] (by rfl) (by rfl) (news5 wr _ _ _ _ _) (ones5 _ _ _ _ _) (by omega) (by unfold maxLen; omega) (by omega) (by simp; omega) (wr.heap.size + 1) (by simp) ?_; intro g2 cap2 w3 hown3 hg3 hat hlt; have k0 : w3.cell? ⟨g, o + q * 5, none⟩ = some (.string x0) := hg3.cell (a := ⟨g, o + q * 5, none⟩) ((World.cell?_alloc_past _ _ _ hgr).trans d0) (fun e => Nat.lt_irrefl g (Nat.lt_of_lt_of_le hg (HO.out.lt g e.symm).1)); have k1 : w3.cell? ⟨g, o + q * 5 + 1, none⟩ = some (.string x1) := hg3.cell (a := ⟨g, o + q * 5 + 1, none⟩) ((World.cell?_alloc_past _ _ _ hgr).trans d1) (fun e => Nat.lt_irrefl g (Nat.lt_of_lt_of_le hg (HO.out.lt g e.symm).1)); have k2 : w3.cell? ⟨g, o + q * 5 + 2, none⟩ = some (.string x2) := hg3.cell (a := ⟨g, o + q * 5 + 2, none⟩) ((World.cell?_alloc_past _ _ _ hgr).trans d2) (fun e => Nat.lt_irrefl g (Nat.lt_of_lt_of_le hg (HO.out.lt g e.symm).1)); have k3 : w3.cell? ⟨g, o + q * 5 + 3, none⟩ = some (.string x3) := hg3.cell (a := ⟨g, o + q * 5 + 3, none⟩) ((World.cell?_alloc_past _ _ _ hgr).trans d3) (fun e => Nat.lt_irrefl g (Nat.lt_of_lt_of_le hg (HO.out.lt g e.symm).1)); have k4 : w3.cell? ⟨g, o + q * 5 + 4, none⟩ = some (.int .i64 x4) := hg3.cell (a := ⟨g, o + q * 5 + 4, none⟩) ((World.cell?_alloc_past _ _ _ hgr).trans d4) (fun e => Nat.lt_irrefl g (Nat.lt_of_lt_of_le hg (HO.out.lt g e.symm).1))))
      rw [← HQ.out] at hown3
      have R := legs_snoc HB.out (Nat.le_refl _) HO.out hown3 ⟨hg3.os, hg3.tape, hg3.output, hg3.size, hg3.block⟩
      have HR1 : Hid (w3.ownsRow w.heap.size 70 5 (.slice (some ⟨g2, 0, none⟩) (k + 1) cap2) (k + 1) (legsC (backL n L) (k + 1))) := R.1
      have HR2 : Hid (Below w.heap.size w w3) := R.2
      clear hown3 hg3 hat hlt R d0 d1 d2 d3 d4 k0 k1 k2 k3 k4
      go_wp2_with fail
      go_roundw
      case rel => exact ⟨k + 1, by have := HQI.out; congr 1; omega, by omega, HR1, HR2⟩
      case measure => first | (simp [intOf]; done) | (simp [intOf]; omega)
    · have p0 : decide (0 ≤ (n : Int) - 1 - (k : Int)) = false := by simp; omega
      obtain rfl : k = n := by omega
      go_wp2_with fail
      go_ret
      exact ⟨_, rfl, by rw [HZ.out]; exact HO.out, HB.out⟩
set_option maxRecDepth 100000 in
set_option maxHeartbeats 4000000 in
theorem law_legsBack (a : Option Addr) (n cap : Nat) (L : Nat → Lg) (hn : n ≤ maxLen) (hfit : ∀ i, i < n → (L i).fits) (w : World) (h : LegsAt w a n L) :
    Calls Try.prog 5 #[.slice a n cap] w fun e w' => e = .returned (.bool true) ∧ Below w.heap.size w w' := by
  have HL : Hid (LegsAt w a n L) := h
  have HF : Hid (∀ i, i < n → (L i).fits) := hfit
  have HN : Hid (n ≤ maxLen) := hn
  have h20 : backN n L ≤ 20 := by
    unfold backN
    split
    · rename_i e; exact ((legsB_iff n L).1 e).1
    · omega
  obtain ⟨m, hm⟩ : ∃ m, m = backN n L := ⟨_, rfl⟩
  obtain ⟨B, hB⟩ : ∃ B, B = backL n L := ⟨_, rfl⟩
  have HS : Hid (∀ (g cap : Nat) (W : World), n ≤ 1048576 → (∀ i, i < n → (L i).fits) → LegsAt W (some ⟨g, 0, none⟩) n L → Calls Try.prog 16 #[.slice (some ⟨g, 0, none⟩) n cap] W fun e w' => ∃ a' c', e = .returned (.slice a' m c') ∧ OwnR w' a' m 5 (legF B) ∧ (∀ k, a'.map Addr.block = some k → W.heap.size ≤ k ∧ k < w'.heap.size) ∧ Below W.heap.size W w') := fun g cap W h1 h2 h3 => by
    refine (spec_back _ n cap L h1 h2 W h3).mono ?_
    rintro e w' ⟨v, rfl, ho, hb⟩
    rw [← hm, ← hB] at ho
    obtain ⟨a', c', rfl, hO, hl⟩ := own_legs ho
    exact ⟨a', c', rfl, hO, hl, hb⟩
  have HI : Hid (∀ (g cap : Nat) (W : World), n ≤ 1048576 → (∀ i, i < n → (L i).fits) → LegsAt W (some ⟨g, 0, none⟩) n L → Calls Try.prog 17 #[.slice (some ⟨g, 0, none⟩) n cap] W fun e w' => ∃ a' c', e = .returned (.slice a' m c') ∧ OwnR w' a' m 5 (legF B) ∧ (∀ k, a'.map Addr.block = some k → W.heap.size ≤ k ∧ k < w'.heap.size) ∧ Below W.heap.size W w') := fun g cap W h1 h2 h3 => by
    refine (impl_back _ n cap L h1 h2 W h3).mono ?_
    rintro e w' ⟨v, rfl, ho, hb⟩
    rw [← hm, ← hB] at ho
    obtain ⟨a', c', rfl, hO, hl⟩ := own_legs ho
    exact ⟨a', c', rfl, hO, hl, hb⟩
  rw [← hm] at h20
  clear h hfit hn hm hB
  go_enter Try.func5, Try.ntmps5
  go_wp2_with fail
  refine (sz_legs a n cap L HN.out HF.out 1048576 (by omega) w HL.out).mono ?_
  rintro e w1 ⟨he, hb1⟩
  have HB1 : Hid (Below w.heap.size w w1) := hb1
  clear hb1
  rcases he with rfl | ⟨r, rfl, hr, hnl, hsm⟩
  · have q' : decide ((-1 : Int) < 0) = true := rfl
    go_wp2_with fail
    go_ret
    exact ⟨rfl, HB1.out⟩
  have HF : Hid (∀ i, i < n → (L i).fits) := fun i hi => (hsm i hi).fits
  clear hsm
  have q' : decide ((r : Int) < 0) = false := by simp
  go_wp2_with fail
  refine (to_legs a n cap L hnl _ (HL.out.below HB1.out)).mono ?_
  rintro e w2 ⟨g, rfl, hg, hO, hb2⟩
  have HB2 : Hid (Below w.heap.size w w2) := HB1.out.trans (hb2.mono HB1.out.size)
  have HO : Hid (Own w2 g (n * 5) (legF L)) := hO
  clear hg hO hb2
  go_wp2_with fail
  refine (HS.out g n _ hnl HF.out HO.out.legs).mono ?_
  rintro e w3 ⟨sa, cs, rfl, hOs, hls, hb3⟩
  have HB3 : Hid (Below w.heap.size w w3) := HB2.out.trans (hb3.mono HB2.out.size)
  have HOs3 : Hid (OwnR w3 sa m 5 (legF B)) := hOs
  have HLs : Hid (∀ k, sa.map Addr.block = some k → k < w3.heap.size ∧ w.heap.size ≤ k) := fun k e => ⟨(hls k e).2, Nat.le_trans HB2.out.size (hls k e).1⟩
  clear hb3 HO hOs hls
  go_wp2_with fail
  refine (to_legs a n cap L hnl _ (HL.out.below HB3.out)).mono ?_
  rintro e w4 ⟨x, rfl, hx, hO', hb4⟩
  have HB4 : Hid (Below w.heap.size w w4) := HB3.out.trans (hb4.mono HB3.out.size)
  have HO4 : Hid (Own w4 x (n * 5) (legF L)) := hO'
  have HOs4 : Hid (OwnR w4 sa m 5 (legF B)) := HOs3.out.below hb4
  have HX : Hid (w3.heap.size ≤ x) := hx
  clear hx hO' hb4 HOs3
  go_wp2_with fail
  refine (HI.out x n _ hnl HF.out HO4.out.legs).mono ?_
  rintro e w5 ⟨ag, cg, rfl, hOg, hlg, hb5⟩
  have HB5 : Hid (Below w.heap.size w w5) := HB4.out.trans (hb5.mono HB4.out.size)
  have HO5 : Hid (Own w5 x (n * 5) (legF L)) := HO4.out.below hb5
  have HOs5 : Hid (OwnR w5 sa m 5 (legF B)) := HOs4.out.below hb5
  have HOg5 : Hid (OwnR w5 ag m 5 (legF B)) := hOg
  have HNG : Hid (∀ k, ag.map Addr.block = some k → x < k ∧ w.heap.size ≤ k) := fun k e => ⟨Nat.lt_of_lt_of_le HO4.out.1 (hlg k e).1, Nat.le_trans HB4.out.size (hlg k e).1⟩
  clear hb5 HO4 HOs4 hOg hlg
  go_wp2_with fail
  refine (eq_legs ag sa m cg cs B (by omega) _ HOg5.out.legs HOs5.out.legs).mono ?_
  rintro e w6 ⟨rfl, hb6⟩
  have HB6 : Hid (Below w.heap.size w w6) := HB5.out.trans (hb6.mono HB5.out.size)
  have HO6 : Hid (Own w6 x (n * 5) (legF L)) := HO5.out.below hb6
  have HOs6 : Hid (OwnR w6 sa m 5 (legF B)) := HOs5.out.below hb6
  have HOg6 : Hid (OwnR w6 ag m 5 (legF B)) := HOg5.out.below hb6
  clear hb6 HO5 HOs5 HOg5
  go_wp2_with fail
  refine (to_legs a n cap L hnl _ (HL.out.below HB6.out)).mono ?_
  rintro e w7 ⟨y, rfl, hy, hO', hb7⟩
  have HB7 : Hid (Below w.heap.size w w7) := HB6.out.trans (hb7.mono HB6.out.size)
  have HO7 : Hid (Own w7 x (n * 5) (legF L)) := HO6.out.below hb7
  have HOs7 : Hid (OwnR w7 sa m 5 (legF B)) := HOs6.out.below hb7
  have HOg7 : Hid (OwnR w7 ag m 5 (legF B)) := HOg6.out.below hb7
  have HOy : Hid (Own w7 y (n * 5) (legF L)) := hO'
  clear hb7 HO6 HOs6 HOg6 hy hO'
  go_wp2_with fail
  refine (eq_legs (some ⟨x, 0, none⟩) (some ⟨y, 0, none⟩) n n n L hnl _ HO7.out.legs HOy.out.legs).mono ?_
  rintro e w8 ⟨rfl, hb8⟩
  have HB8 : Hid (Below w.heap.size w w8) := HB7.out.trans (hb8.mono HB7.out.size)
  have HO8 : Hid (Own w8 x (n * 5) (legF L)) := HO7.out.below hb8
  have HOs8 : Hid (OwnR w8 sa m 5 (legF B)) := HOs7.out.below hb8
  have HOg8 : Hid (OwnR w8 ag m 5 (legF B)) := HOg7.out.below hb8
  clear hb8 HO7 HOs7 HOg7 HOy
  go_wp2_with fail
  refine (mark_legs (some ⟨x, 0, none⟩) n n (legF L) hnl 1 (by omega) (by omega) _ (Or.inr ⟨x, rfl, HO8.out⟩)).mono ?_
  rintro e w9 ⟨rfl, _, hg9⟩
  have hxw : w.heap.size ≤ x := Nat.le_trans HB3.out.size HX.out
  have HB9 : Hid (Below w.heap.size w w9) := HB8.out.grown hg9 HB8.out.size (fun k hk => by simp at hk; omega)
  have HOs9 : Hid (OwnR w9 sa m 5 (legF B)) := HOs8.out.grown hg9 (fun k e => by have := (HLs.out k e).1; have := HX.out; simp; omega)
  have HOg9 : Hid (OwnR w9 ag m 5 (legF B)) := HOg8.out.grown hg9 (fun k e => by have := (HNG.out k e).1; simp; omega)
  clear hg9 HO8 HOs8 HOg8
  have q9 : decide (((1 + n * 5 : Nat) : Int) < 0) = false := by simp; omega
  have q9' : decide ((1 : Int) + (n : Int) * 5 < 0) = false := by simp; omega
  go_wp2_with fail
  refine (eq_legs ag sa m cg cs B (by omega) _ HOg9.out.legs HOs9.out.legs).mono ?_
  rintro e wa ⟨rfl, hba⟩
  have HBa : Hid (Below w.heap.size w wa) := HB9.out.trans (hba.mono HB9.out.size)
  have HOsa : Hid (OwnR wa sa m 5 (legF B)) := HOs9.out.below hba
  have HOga : Hid (OwnR wa ag m 5 (legF B)) := HOg9.out.below hba
  clear hba HOs9 HOg9
  go_wp2_with fail
  refine (mark_legs ag m cg (legF B) (by omega) 1 (by omega) (by omega) _ HOga.out).mono ?_
  rintro e wb ⟨rfl, hOb, hgb⟩
  have HBb : Hid (Below w.heap.size w wb) := HBa.out.grown hgb HBa.out.size (fun k hk => (HNG.out k hk).2)
  have HOsb : Hid (OwnR wb sa m 5 (legF B)) := HOsa.out.grown hgb (fun k e e' => by have := (HLs.out k e).1; have := (HNG.out k e'.symm).1; have := HX.out; omega)
  have HOgb : Hid (OwnR wb ag m 5 (mkL 1)) := hOb
  clear hgb hOb HOsa HOga
  go_wp2_with fail
  refine (held_legs ag m cg (by omega) 1 (by omega) (by omega) _ HOgb.out).mono ?_
  rintro e wc ⟨rfl, hbc⟩
  have HBc : Hid (Below w.heap.size w wc) := HBb.out.trans (hbc.mono HBb.out.size)
  have HOsc : Hid (OwnR wc sa m 5 (legF B)) := HOsb.out.below hbc
  have HOgc : Hid (OwnR wc ag m 5 (mkL 1)) := HOgb.out.below hbc
  clear hbc HOsb HOgb
  have qc : decide (((1 + m * 5 : Nat) : Int) < 0) = false := by simp; omega
  have qc' : decide ((1 : Int) + (m : Int) * 5 < 0) = false := by simp; omega
  have qq : ∀ z : Int, (z != z) = false := fun z => by simp
  go_wp2_with fail
  refine (to_legs a n cap L hnl _ (HL.out.below HBc.out)).mono ?_
  rintro e wd ⟨h, rfl, hh, hO', hbd⟩
  have HBd : Hid (Below w.heap.size w wd) := HBc.out.trans (hbd.mono HBc.out.size)
  have HOsd : Hid (OwnR wd sa m 5 (legF B)) := HOsc.out.below hbd
  have HOgd : Hid (OwnR wd ag m 5 (mkL 1)) := HOgc.out.below hbd
  have HOh : Hid (Own wd h (n * 5) (legF L)) := hO'
  clear hbd hh hO' HOsc HOgc
  go_wp2_with fail
  refine (HI.out h n _ hnl HF.out HOh.out.legs).mono ?_
  rintro e we ⟨ah, ch, rfl, hOh, _, hbe⟩
  have HBe : Hid (Below w.heap.size w we) := HBd.out.trans (hbe.mono HBd.out.size)
  have HOse : Hid (OwnR we sa m 5 (legF B)) := HOsd.out.below hbe
  have HOge : Hid (OwnR we ag m 5 (mkL 1)) := HOgd.out.below hbe
  have HOhe : Hid (OwnR we ah m 5 (legF B)) := hOh
  clear hbe hOh HOsd HOgd HOh
  go_wp2_with fail
  refine (eq_legs ah sa m ch cs B (by omega) _ HOhe.out.legs HOse.out.legs).mono ?_
  rintro e wf ⟨rfl, hbf⟩
  have HBf : Hid (Below w.heap.size w wf) := HBe.out.trans (hbf.mono HBe.out.size)
  have HOgf : Hid (OwnR wf ag m 5 (mkL 1)) := HOge.out.below hbf
  clear hbf HOge HOse HOhe
  go_wp2_with fail
  refine (held_legs ag m cg (by omega) 1 (by omega) (by omega) _ HOgf.out).mono ?_
  rintro e wg ⟨rfl, hbg⟩
  have HBg : Hid (Below w.heap.size w wg) := HBf.out.trans (hbg.mono HBf.out.size)
  clear hbg HOgf
  go_wp2_with fail
  go_ret
  exact ⟨rfl, HBg.out⟩
end Go.Proofs.Ythjanamnkhggfaa
