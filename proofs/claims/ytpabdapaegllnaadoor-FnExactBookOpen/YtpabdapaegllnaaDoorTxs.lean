/- Lists of texts: their cells in a row; marked and looked at again: what the laws' helpers do. -/
import Derived.Test.YtpabdapaegllnaaDoorLines
namespace Go.Proofs.YtpabdapaegllnaaDoor
open Go.RowKit
open Go.Proofs.YtpabdapaegllnaaDoor.Draw

def textsC (I : Nat → Tx) : Nat → List Value
  | 0 => []
  | k + 1 => textsC I k ++ [.string (I k).t]
theorem textsC_len (I : Nat → Tx) (k : Nat) : (textsC I k).length = k * 1 := by
  induction k with
  | zero => rfl
  | succ k ih => rw [textsC, List.length_append, ih]; simp
theorem textsC_at (I : Nat → Tx) (k j : Nat) (h : j < k) : (textsC I k)[j]? = some (textF I j) := by
  induction k with
  | zero => omega
  | succ k ih =>
    rw [textsC]
    by_cases hj : j < k
    · rw [List.getElem?_append_left (by rw [textsC_len]; omega)]; exact ih hj
    · obtain rfl : j = k := by omega
      rw [List.getElem?_append_right (by rw [textsC_len]; omega), textsC_len, show j - j * 1 = 0 by omega, textF_at]; rfl
theorem news_texts {w : World} {g o n : Nat} {I : Nat → Tx} (h : TextsAt w (some ⟨g, o, none⟩) n I) : ∀ j u, (textsC I n)[j]? = some u → w.cell? ((⟨g, o, none⟩ : Addr).add j) = some u := by
  intro j u hj
  have hlt : j < n := by have := (List.getElem?_eq_some_iff.1 hj).1; rw [textsC_len] at this; omega
  rw [textsC_at I n j hlt] at hj
  rw [add_off, ← hj]
  rcases h with h0 | ⟨g', o', e, _, hc⟩
  · omega
  · simp at e
    obtain ⟨rfl, rfl⟩ := e
    rw [textF_at]; exact hc j hlt
theorem ones_texts (I : Nat → Tx) (n : Nat) : ∀ u ∈ textsC I n, u.oneCell' = true := by
  induction n with
  | zero => intro u hu; simp [textsC] at hu
  | succ n ih =>
    intro u hu
    rw [textsC, List.mem_append] at hu
    rcases hu with hu | hu
    · exact ih u hu
    · simp at hu; subst hu; rfl
/-- An owned row of texts. -/
theorem own_texts {w : World} {B n : Nat} {v : Value} {I : Nat → Tx} (h : w.ownsRow B 9 1 v n (textsC I n)) : ∃ a cap, v = .slice a n cap ∧ OwnR w a n 1 (textF I) ∧ ∀ k, a.map Addr.block = some k → B ≤ k ∧ k < w.heap.size := by
  obtain ⟨_, ⟨rfl, rfl⟩ | ⟨g, cap, cur, rfl, hB, hblk, _⟩⟩ := id h
  · exact ⟨none, 0, rfl, Or.inl rfl, fun k e => by cases e⟩
  · refine ⟨_, cap, rfl, Or.inr ⟨g, rfl, (own_row h (fun j hj => textsC_at I n j (by omega))).1⟩, fun k e => ?_⟩
    simp at e
    subst e
    exact ⟨hB, (Array.getElem?_eq_some_iff.1 hblk).1⟩
theorem OwnR.texts {w : World} {a : Option Addr} {n : Nat} {I : Nat → Tx} (h : OwnR w a n 1 (textF I)) : TextsAt w a n I := by
  rcases h with h | ⟨g, rfl, hO⟩
  · exact Or.inl h
  · rw [Nat.mul_one] at hO; exact hO.texts
/-- What marked texts' cells read. -/
def mkT (k0 : Nat) (j : Nat) : Value := .string (mtx (k0 + j))
set_option maxRecDepth 100000 in
set_option maxHeartbeats 4000000 in
theorem mark_texts (a : Option Addr) (n cap : Nat) (F : Nat → Value) (hn : n ≤ 1048576) (k0 : Nat) (hk1 : 1 ≤ k0) (hk2 : k0 ≤ 549755813888) (w : World) (h : OwnR w a n 1 F) :
    Calls Tryd.prog 58 #[.slice a n cap, .int .i64 (k0 : Int)] w fun e w' => e = .returned (.int .i64 ((k0 + n : Nat) : Int)) ∧ OwnR w' a n 1 (mkT k0) ∧ w.grownBy w' (a.map Addr.block) := by
  rcases h with h0 | ⟨g, rfl, hO⟩
  · subst h0
    go_enter Tryd.func58, Tryd.ntmps58
    go_wp2_with fail
    refine wp_loop_rounds 1 ?_
    rw [rounds_succ]
    go_wp2
    go_ret
    exact ⟨ret_int (by omega), Or.inl rfl, World.grownBy.refl _ _⟩
  rw [Nat.mul_one] at hO
  have HO : Hid (Own w g n F) := hO
  clear hO
  go_enter Tryd.func58, Tryd.ntmps58
  go_wp2_with fail
  go_loopw [1, 5] (fun x i wr => ∃ I K : Nat, x = .int .i64 (K : Int) ∧ i = .int .i64 (I : Int) ∧ I ≤ n ∧ K = k0 + I ∧ Hid (Own wr g n (fun j => if j < I then mkT k0 j else F j)) ∧ Hid (w.grownBy wr (some g))) (fun _ i _ => n - (intOf i).toNat)
  case atStart => exact ⟨0, k0, rfl, rfl, by omega, by omega, HO.out.congr (fun j _ => by rw [if_neg (by omega)]), World.grownBy.refl _ _⟩
  case round =>
    obtain ⟨I, K, rfl, rfl, hI, hK, HOr, HG⟩ := hrel
    by_cases hin : I < n
    · have p0 : decide (I < n) = true := by simpa using hin
      have p1 : decide ((I : Int) < (n : Int)) = true := by simpa using hin
      have HE : Hid (mkT k0 I = .string (mtx K)) := by rw [hK]; rfl
      have hKb : K ≤ 1099511627000 := by omega
      have hK1 : 1 ≤ K := by omega
      have HK : Hid (K = k0 + I) := hK
      clear hK
      have M0 := fun z hz W => mark_text' z K hz (by omega) (by omega) W
      generalize mtx K = T0 at *
      have M0 : Hid (∀ z, z = ((K : Nat) : Int) → ∀ W, Calls Tryd.prog 82 #[.int .i64 z] W fun e w' => e = .returned (.string T0) ∧ Below W.heap.size W w') := M0
      go_wp2_with fail
      refine (M0.out _ (by omega) _).mono ?_
      rintro e w1 ⟨rfl, hb⟩
      have HO0 := HOr.out.below hb
      obtain ⟨y0, hc0⟩ : ∃ y, w1.cell? ⟨g, I, none⟩ = some y := ⟨_, HO0.2.1 I hin⟩
      have hf0 := HO0.2.2 I
      have HO1 : Hid (Own (w1.setCell ⟨g, I, none⟩ (.string T0)) g n (fun j => if j < I + 1 then mkT k0 j else F j)) := text_step HO0 hin HE.out
      have HG0 : Hid (w.grownBy (w1.setCell ⟨g, I, none⟩ (.string T0)) (some g)) := setGrown (below_grown HG.out hb)
      clear hb HO0 HOr HG M0 HE
      go_wp2_with fail
      go_roundw
      case rel => exact ⟨I + 1, K + 1, by go_num, by go_num, by omega, by have := HK.out; omega, HO1, HG0⟩
      case measure => simp [intOf]; omega
    · have p0 : decide (I < n) = false := by simpa using hin
      have p1 : decide ((I : Int) < (n : Int)) = false := by simpa using hin
      obtain rfl : I = n := by omega
      go_wp2_with fail
      go_ret
      exact ⟨ret_int (by omega), Or.inr ⟨g, rfl, by rw [Nat.mul_one]; exact HOr.out.congr (fun j hj => by rw [if_pos hj])⟩, HG.out⟩
set_option maxRecDepth 100000 in
set_option maxHeartbeats 4000000 in
theorem held_texts (a : Option Addr) (n cap : Nat) (hn : n ≤ 1048576) (k0 : Nat) (hk1 : 1 ≤ k0) (hk2 : k0 ≤ 549755813888) (w : World) (h : OwnR w a n 1 (mkT k0)) :
    Calls Tryd.prog 84 #[.slice a n cap, .int .i64 (k0 : Int)] w fun e w' => e = .returned (.int .i64 ((k0 + n : Nat) : Int)) ∧ Below w.heap.size w w' := by
  rcases h with h0 | ⟨g, rfl, hO⟩
  · subst h0
    go_enter Tryd.func84, Tryd.ntmps84
    go_wp2_with fail
    refine wp_loop_rounds 1 ?_
    rw [rounds_succ]
    go_wp2
    go_ret
    exact ⟨ret_int (by omega), Below.refl _ _⟩
  rw [Nat.mul_one] at hO
  have HO : Hid (Own w g n (mkT k0)) := hO
  clear hO
  go_enter Tryd.func84, Tryd.ntmps84
  go_wp2_with fail
  go_loopw [1, 5] (fun x i wr => ∃ I K : Nat, x = .int .i64 (K : Int) ∧ i = .int .i64 (I : Int) ∧ I ≤ n ∧ K = k0 + I ∧ Hid (Below w.heap.size w wr)) (fun _ i _ => n - (intOf i).toNat)
  case atStart => exact ⟨0, k0, rfl, rfl, by omega, by omega, Below.refl _ _⟩
  case round =>
    obtain ⟨I, K, rfl, rfl, hI, hK, HB⟩ := hrel
    by_cases hin : I < n
    · have p0 : decide (I < n) = true := by simpa using hin
      have p1 : decide ((I : Int) < (n : Int)) = true := by simpa using hin
      have HE : Hid (mkT k0 I = .string (mtx K)) := by rw [hK]; rfl
      have hKb : K ≤ 1099511627000 := by omega
      have hK1 : 1 ≤ K := by omega
      have HK : Hid (K = k0 + I) := hK
      clear hK
      have M0 := fun z hz W => mark_text' z K hz (by omega) (by omega) W
      generalize mtx K = T0 at *
      have M0 : Hid (∀ z, z = ((K : Nat) : Int) → ∀ W, Calls Tryd.prog 82 #[.int .i64 z] W fun e w' => e = .returned (.string T0) ∧ Below W.heap.size W w') := M0
      have hxx : ∀ x : List UInt8, (x == x) = true := fun x => by simp
      have hgw : g < w.heap.size := HO.out.1
      have hO := HO.out.below HB.out
      have b0 : wr.cell? ⟨g, I, none⟩ = some (.string T0) := (hO.2.1 _ hin).trans (by rw [HE.out])
      have hgr : g < wr.heap.size := hO.1
      have hsr := HB.out.size
      clear hO HE
      go_upto_region 5 with fail
      go_region_held3 (fun W => W.cell? ⟨g, I, none⟩ = some (.string T0)) (go_keep) (first | (go_at_call 82; refine (M0.out _ (by omega) _).mono ?_; rintro e v0 ⟨rfl, hb⟩; have e0 : v0.cell? ⟨g, I, none⟩ = some (.string T0) := (hb.cell (p := ⟨g, I, none⟩) hgr).trans b0))
      have HB0 : Hid (Below w.heap.size w v0) := HB.out.drew.trans (hb.mono HB.out.size)
      clear hb e0
      go_wp2_with fail
      go_roundw
      case rel => exact ⟨I + 1, K + 1, by go_num, by go_num, by omega, by have := HK.out; omega, HB0⟩
      case measure => simp [intOf]; omega
    · have p0 : decide (I < n) = false := by simpa using hin
      have p1 : decide ((I : Int) < (n : Int)) = false := by simpa using hin
      obtain rfl : I = n := by omega
      go_wp2_with fail
      go_ret
      exact ⟨ret_int (by omega), HB.out⟩
end Go.Proofs.YtpabdapaegllnaaDoor
