/- Lists of whole numbers in memory: their sizes and copies. -/
import Derived.Test.YtnefcldjigndgaaGreatDoorTyC
namespace Go.Proofs.YtnefcldjigndgaaGreatDoor
open Go.RowKit
open Go.Proofs.YtnefcldjigndgaaGreatDoor.Draw

/-- n whole numbers in memory. -/
def IntsAt (w : World) (a : Option Addr) (n : Nat) (T : Nat → Int) : Prop := n = 0 ∨ ∃ g o, a = some ⟨g, o, none⟩ ∧ g < w.heap.size ∧ ∀ i, i < n → w.cell? ⟨g, o + i, none⟩ = some (.int .i64 (T i))
theorem IntsAt.below {w w' : World} {a : Option Addr} {n : Nat} {T : Nat → Int} (h : IntsAt w a n T) (hb : Below w.heap.size w w') : IntsAt w' a n T := by
  rcases h with h | ⟨g, o, rfl, hg, hc⟩
  · exact Or.inl h
  · refine Or.inr ⟨g, o, rfl, Nat.lt_of_lt_of_le hg hb.size, fun i hi => ?_⟩
    have c0 := hc i hi
    exact (hb.cell (p := ⟨g, _, none⟩) hg).trans c0
theorem IntsAt.grown {w w' : World} {a : Option Addr} {n : Nat} {row : Option Nat} {T : Nat → Int} (h : IntsAt w a n T) (hg : w.grownBy w' row) (hne : ∀ k, a.map Addr.block = some k → some k ≠ row) : IntsAt w' a n T := by
  rcases h with h | ⟨g, o, rfl, hl, hc⟩
  · exact Or.inl h
  · have hb := hg.block g hl (hne g rfl)
    refine Or.inr ⟨g, o, rfl, Nat.lt_of_lt_of_le hl hg.size, fun i hi => ?_⟩
    have c0 := hc i hi
    exact (World.cell?_of_block (a := ⟨g, _, none⟩) hb).trans c0
/-- Their cells by number. -/
def numF (T : Nat → Int) (j : Nat) : Value := .int .i64 (T j)
theorem numF_at (T : Nat → Int) (i : Nat) : numF T (i) = .int .i64 (T i) := by
  rw [numF]
theorem Own.ints {w : World} {g n : Nat} {T : Nat → Int} (h : Own w g (n) (numF T)) : IntsAt w (some ⟨g, 0, none⟩) n T := by
  refine Or.inr ⟨g, 0, rfl, h.1, fun i hi => ?_⟩
  have e0 := numF_at T i
  rw [Nat.zero_add, ← e0]
  exact h.2.1 _ (by omega)
/-- One more is written. -/
theorem num_step {w : World} {g n I : Nat} {F G : Nat → Value} (h : Own w g (n) (fun j => if j < I then G j else F j)) (hI : I < n) {v0 : Value} (e0 : G (I) = v0) :
    Own (w.setCell ⟨g, I, none⟩ v0) g (n) (fun j => if j < (I + 1) then G j else F j) := by
  refine (h.set (i := I) (by omega) v0).congr fun j _ => ?_
  show (if j = I then v0 else if j < I then G j else F j) = if j < (I + 1) then G j else F j
  by_cases c0 : j = I
  · rw [if_pos c0, if_pos (by omega), c0, e0]
  rw [if_neg c0]
  by_cases c : j < I
  · rw [if_pos c, if_pos (by omega)]
  · rw [if_neg c, if_neg (by omega)]
theorem OwnR.ints {w : World} {a : Option Addr} {n : Nat} {T : Nat → Int} (h : OwnR w a n 1 (numF T)) : IntsAt w a n T := by
  rcases h with h | ⟨g, rfl, h⟩
  · exact Or.inl h
  · rw [Nat.mul_one] at h; exact h.ints
theorem Own.nums {w : World} {g n : Nat} {T : Nat → Int} (h : Own w g n (numF T)) : OwnR w (some ⟨g, 0, none⟩) n 1 (numF T) := Or.inr ⟨g, rfl, by rw [Nat.mul_one]; exact h⟩
theorem infoNum : (Tryz.prog.info? 2).map (fun i => (i.zero, i.size, i.bytes)) = some (some (.int .i64 0), 1, 8) := by kernel_rfl
set_option maxRecDepth 100000 in
set_option maxHeartbeats 4000000 in
theorem to_ints (a : Option Addr) (n cap : Nat) (T : Nat → Int) (hn : n ≤ 1048576) (w : World) (h : IntsAt w a n T) :
    Calls Tryz.prog 5 #[.slice a n cap] w fun e w' => ∃ g, e = .returned (.slice (some ⟨g, 0, none⟩) n n) ∧ w.heap.size ≤ g ∧ Own w' g (n) (numF T) ∧ Below w.heap.size w w' := by
  obtain ⟨i0, hi, hz0, hz1, hz2⟩ := info_parts infoNum
  have HL : Hid (IntsAt w a n T) := h
  clear h
  go_enter Tryz.func5, Tryz.ntmps5
  go_wp2_with (refine wpList_make_full _ rfl (.tmp 6) (.tmp 6) 22 rfl w.heap.size 2 i0 (.int .i64 0) 1 Tryz.underlying22 hi hz0 hz1 .i64 .i64 _ _ n rfl rfl rfl rfl (by rw [hz2]; omega) (by unfold maxLen; omega) (Nat.le_refl _) ?_)
  intro w1 hown hg1
  have HB1 : Hid (Below w.heap.size w w1) := (Below.refl _ _).grown hg1 (Nat.le_refl _) (fun k hk => by cases hk)
  obtain ⟨F0, hO⟩ := own_some hown
  rw [Nat.mul_one] at hO
  have HO : Hid (Own w1 w.heap.size (n) F0) := hO
  clear hO
  clear hg1 hown
  go_wp2_with fail
  go_loopw [4] (fun i wr => ∃ k : Nat, i = .int .i64 (k : Int) ∧ k ≤ n ∧ Hid (Own wr w.heap.size (n) (fun j => if j < k then numF T j else F0 j)) ∧ Hid (Below w.heap.size w wr)) (fun i _ => n - (intOf i).toNat)
  case atStart => exact ⟨0, rfl, by omega, HO.out.congr (fun j _ => by rw [if_neg (by omega)]), HB1⟩
  case round =>
    obtain ⟨k, rfl, hk, HOr, HB⟩ := hrel
    by_cases hkn : k < n
    · have p0 : decide (k < n) = true := by simpa using hkn
      have p1 : decide ((k : Int) < (n : Int)) = true := by simpa using hkn
      rcases HL.out with h0 | ⟨g, o, rfl, hg, hc⟩
      · omega
      have c0 := hc k hkn
      have d0 := (HB.out.cell (p := ⟨g, _, none⟩) hg).trans c0
      have HE : Hid (numF T (k) = .int .i64 (T k)) := numF_at T k
      clear hc c0
      generalize T k = x0 at *
      have HO2 : Hid (Own wr w.heap.size (n) (fun j => if j < k then numF T j else F0 j)) := HOr.out
      have HB2 : Hid (Below w.heap.size w wr) := HB.out
      have a0 := HO2.out.2.1 (k) (by omega)
      have hf := HO2.out.2.2
      simp only [show ¬ k < k by omega, if_false] at a0
      generalize F0 (k) = y0 at a0
      have HN := fun (_ : Unit) => num_step HO2.out hkn HE.out
      have HN : Hid (Unit → _) := HN
      skip
      go_wp2_with fail
      go_roundw
      case rel =>
        have s := Nat.le_refl w.heap.size
        exact ⟨k + 1, by go_num, by omega, HN.out (), (HB2.out.setCell s _)⟩
      case measure => simp [intOf]; omega
    · have p0 : decide (k < n) = false := by simpa using hkn
      have p1 : decide ((k : Int) < (n : Int)) = false := by simpa using hkn
      obtain rfl : k = n := by omega
      go_wp2_with fail
      go_ret
      exact ⟨w.heap.size, rfl, Nat.le_refl _, HOr.out.congr (fun j hj => by rw [if_pos hj]), HB.out⟩
end Go.Proofs.YtnefcldjigndgaaGreatDoor
