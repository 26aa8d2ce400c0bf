/- The two ways to get a text from bytes (spec.GetText, impl.GetText): what each call does. -/
import Derived.Test.YtncloiipndmmcaaGetLaw
import Derived.Test.YtncloiipndmmcaaPlain
import Derived.Test.YtncloiipndmmcaaClone
namespace Go.Proofs.Ytncloiipndmmcaa
open Go.RowKit
set_option linter.unusedSimpArgs false

def textB (s : ByteArray) (a : Int) : ByteArray × Int × Int :=
  if (getB s a).2.2 = 0 then
    (if (getB s a).1 < 0 ∨ 200 < (getB s a).1 then (⟨#[]⟩, 0, 3)
    else if (s.size : Int) < (getB s a).2.1 + (getB s a).1 then (⟨#[]⟩, 0, 4)
    else if plainB (s.extract (getB s a).2.1.toNat ((getB s a).2.1.toNat + (getB s a).1.toNat)) then
      (s.extract (getB s a).2.1.toNat ((getB s a).2.1.toNat + (getB s a).1.toNat), (getB s a).2.1 + (getB s a).1, 0)
    else (⟨#[]⟩, 0, 3))
  else (⟨#[]⟩, 0, (getB s a).2.2)
def textV (r : ByteArray × Int × Int) : Value := .agg #[.string r.1, .int .i64 r.2.1, .int .i64 r.2.2]

theorem getF_ok (s : ByteArray) (a : Nat) : ∀ (f i u : Nat), (getF s a f i u).2.2 = 0 → 0 ≤ (getF s a f i u).2.1 ∧ (getF s a f i u).2.1 ≤ s.size
  | 0, i, u => by simp [getF]
  | f + 1, i, u => by
    unfold getF
    split
    · simp
    split
    · simp
    split
    · split
      · simp
      · simp; omega
    · exact getF_ok s a f _ _
theorem getB_ok (s : ByteArray) (a : Int) (h : (getB s a).2.2 = 0) : s.size ≤ 20000 ∧ 0 ≤ (getB s a).2.1 ∧ (getB s a).2.1 ≤ s.size := by
  unfold getB at h ⊢
  split at h
  · rename_i hs
    refine ⟨hs, ?_⟩
    rw [if_pos hs]
    split at h
    · simp at h
    · rename_i h0
      rw [if_neg h0]
      split at h
      · simp at h
      · rename_i h1
        rw [if_neg h1]
        exact getF_ok s _ _ _ _ h
  · simp at h


set_option maxRecDepth 100000 in
set_option maxHeartbeats 4000000 in
theorem impl_getText (s : ByteArray) (a : Int) (w : World) (hs : s.size ≤ maxLen) (h0 : -9223372036854775808 ≤ a) (h1 : a ≤ 9223372036854775807) :
    Calls Try.prog 13 #[.string s, .int .i64 a] w fun e w' => e = .returned (textV (textB s a)) ∧ Below w.heap.size w w' := by
  have hget := fun w => impl_get s a w hs h0 h1
  have hok := getB_ok s a
  unfold maxLen at hs
  obtain ⟨T, hT⟩ : ∃ T, T = textB s a := ⟨_, rfl⟩
  rw [← hT]
  unfold textB at hT
  obtain ⟨⟨n, p, c⟩, hRR⟩ : ∃ R, R = getB s a := ⟨_, rfl⟩
  simp only [← hRR] at hget hok hT
  have Hget : Hid (∀ w, Calls Try.prog 9 #[.string s, .int .i64 a] w fun e w' => e = .returned (numV (n, p, c)) ∧ Below w.heap.size w w') := hget
  clear hget hRR
  by_cases hc : c = 0
  · subst hc
    obtain ⟨hsz, hp0, hp1⟩ := hok rfl
    rw [if_pos rfl] at hT
    clear hok
    obtain ⟨P, rfl⟩ : ∃ P : Nat, p = P := ⟨p.toNat, by omega⟩
    by_cases hn : n < 0
    · have HT : Hid (T = (⟨#[]⟩, 0, 3)) := by rw [if_pos (Or.inl hn)] at hT; exact hT
      have b2 : decide (n < 0) = true := by simp; omega
      clear hT
      go_enter Try.func13, Try.ntmps13
      go_wp2_with fail
      refine (Hget.out _).mono ?_
      rintro e w1 ⟨rfl, hb⟩
      simp only [numV]
      obtain ⟨hcl, hf⟩ := bcell hb
      have hz : w.heap.size < w1.heap.size := by have := hb.size; simp at this; omega
      have hbb : Below w.heap.size w w1 := ((Below.refl w.heap.size w).alloc (Nat.le_refl _) _).trans (hb.mono (by simp))
      go_wp2_with fail
      refine bodyPost_ret (v := textV T) ?_ rfl ⟨rfl, ?_⟩
      · simp [results, Try.results13, go_sem, hcl, hz]
        simp [HT.out, textV]
      · repeat (first | exact hbb | refine Below.setCell ?_ (by exact Nat.le_refl _) _ | refine Below.alloc ?_ (by simp [World.setCell]; omega) _)
    · have b2 : decide (n < 0) = false := by simp; omega
      by_cases hn2 : 200 < n
      · have HT : Hid (T = (⟨#[]⟩, 0, 3)) := by rw [if_pos (Or.inr hn2)] at hT; exact hT
        have b3 : decide (200 < n) = true := by simp; omega
        clear hT
        go_enter Try.func13, Try.ntmps13
        go_wp2_with fail
        refine (Hget.out _).mono ?_
        rintro e w1 ⟨rfl, hb⟩
        simp only [numV]
        obtain ⟨hcl, hf⟩ := bcell hb
        have hz : w.heap.size < w1.heap.size := by have := hb.size; simp at this; omega
        have hbb : Below w.heap.size w w1 := ((Below.refl w.heap.size w).alloc (Nat.le_refl _) _).trans (hb.mono (by simp))
        go_wp2_with fail
        refine bodyPost_ret (v := textV T) ?_ rfl ⟨rfl, ?_⟩
        · simp [results, Try.results13, go_sem, hcl, hz]
          simp [HT.out, textV]
        · repeat (first | exact hbb | refine Below.setCell ?_ (by exact Nat.le_refl _) _ | refine Below.alloc ?_ (by simp [World.setCell]; omega) _)
      · have b3 : decide (200 < n) = false := by simp; omega
        obtain ⟨N, rfl⟩ : ∃ N : Nat, n = N := ⟨n.toNat, by omega⟩
        rw [if_neg (by omega)] at hT
        by_cases hsh : (s.size : Int) < (P : Int) + N
        · have HT : Hid (T = (⟨#[]⟩, 0, 4)) := by rw [if_pos hsh] at hT; exact hT
          clear hT
          go_enter Try.func13, Try.ntmps13
          go_wp2_with fail
          refine (Hget.out _).mono ?_
          rintro e w1 ⟨rfl, hb⟩
          simp only [numV]
          obtain ⟨hcl, hf⟩ := bcell hb
          have hz : w.heap.size < w1.heap.size := by have := hb.size; simp at this; omega
          have hbb : Below w.heap.size w w1 := ((Below.refl w.heap.size w).alloc (Nat.le_refl _) _).trans (hb.mono (by simp))
          go_wp2_with fail
          refine bodyPost_ret (v := textV T) ?_ rfl ⟨rfl, ?_⟩
          · simp [results, Try.results13, go_sem, hcl, hz]
            simp [HT.out, textV]
          · repeat (first | exact hbb | refine Below.setCell ?_ (by exact Nat.le_refl _) _ | refine Below.alloc ?_ (by simp [World.setCell]; omega) _)
        · rw [if_neg hsh] at hT
          simp only [Int.toNat_natCast] at hT
          have hsl : ∀ W : World, (Instr.slice 9 (.string s) (some (.int .i64 (P : Int))) (some (.int .i64 ((P : Int) + (N : Int)))) none).run Try.prog W = .ok (.string (s.extract P (P + N))) W := fun W => by
            have h := run_slice_string (P := Try.prog) W 9 s .i64 .i64 (P : Int) ((P : Int) + (N : Int)) Try.underlying9 (by omega) (by omega) (by omega)
            rw [h, Int.toNat_natCast, show ((P : Int) + (N : Int)).toNat = P + N by omega]
          have hts : (s.extract P (P + N)).size ≤ 200 := by rw [ByteArray.size_extract]; omega
          generalize htt : s.extract P (P + N) = t at *
          clear htt
          cases hq : plainB t
          · have HT : Hid (T = (⟨#[]⟩, 0, 3)) := by rw [hq] at hT; exact hT
            have Hq : Hid (plainB t = false) := hq
            clear hT hq
            go_enter Try.func13, Try.ntmps13
            go_wp2_with fail
            refine (Hget.out _).mono ?_
            rintro e w1 ⟨rfl, hb⟩
            simp only [numV]
            obtain ⟨hcl, hf⟩ := bcell hb
            have hz : w.heap.size < w1.heap.size := by have := hb.size; simp at this; omega
            have hbb : Below w.heap.size w w1 := ((Below.refl w.heap.size w).alloc (Nat.le_refl _) _).trans (hb.mono (by simp))
            go_wp2_with fail
            refine (impl_plain _ _).mono ?_
            rintro e w2 ⟨rfl, hb2⟩
            rw [Hq.out]
            have hb' := (hb.alloc hb.size (.cells #[.int .i64 (N : Int), .int .i64 (P : Int), .int .i64 0] 26)).trans (hb2.mono (by have := hb.size; simp at this ⊢; omega))
            have hz2 : w.heap.size < w2.heap.size := by have := hb'.size; simp at this; omega
            have hbb2 : Below w.heap.size w w2 := ((Below.refl w.heap.size w).alloc (Nat.le_refl _) _).trans (hb'.mono (by simp))
            clear hb hcl hf hbb hz hb2
            obtain ⟨hcl, hf⟩ := bcell hb'
            have hz := hz2
            go_wp2_with fail
            refine bodyPost_ret (v := textV T) ?_ rfl ⟨rfl, ?_⟩
            · simp [results, Try.results13, go_sem, hcl, hz]
              simp [HT.out, textV]
            · repeat (first | exact hbb2 | refine Below.setCell ?_ (by exact Nat.le_refl _) _ | refine Below.alloc ?_ (by simp [World.setCell]; omega) _)
          · have HT : Hid (T = (t, (P : Int) + N, 0)) := by rw [hq] at hT; exact hT
            have Hq : Hid (plainB t = true) := hq
            clear hT hq
            go_enter Try.func13, Try.ntmps13
            go_wp2_with fail
            refine (Hget.out _).mono ?_
            rintro e w1 ⟨rfl, hb⟩
            simp only [numV]
            obtain ⟨hcl, hf⟩ := bcell hb
            have hz : w.heap.size < w1.heap.size := by have := hb.size; simp at this; omega
            have hbb : Below w.heap.size w w1 := ((Below.refl w.heap.size w).alloc (Nat.le_refl _) _).trans (hb.mono (by simp))
            go_wp2_with fail
            refine (impl_plain _ _).mono ?_
            rintro e w2 ⟨rfl, hb2⟩
            rw [Hq.out]
            go_wp2_with fail
            refine (str_clone _ _ (by omega)).mono ?_
            rintro e w3 ⟨rfl, hb3⟩
            have hb' := ((hb.alloc hb.size (.cells #[.int .i64 (N : Int), .int .i64 (P : Int), .int .i64 0] 26)).trans (hb2.mono (by have := hb.size; simp at this ⊢; omega))).trans (hb3.mono (by have := hb.size; have := hb2.size; simp at *; omega))
            have hz2 : w.heap.size < w3.heap.size := by have := hb'.size; simp at this; omega
            have hbb2 : Below w.heap.size w w3 := ((Below.refl w.heap.size w).alloc (Nat.le_refl _) _).trans (hb'.mono (by simp))
            clear hb hcl hf hbb hz hb2 hb3
            obtain ⟨hcl, hf⟩ := bcell hb'
            have hz := hz2
            go_wp2_with fail
            refine bodyPost_ret (v := textV T) ?_ rfl ⟨rfl, ?_⟩
            · simp [results, Try.results13, go_sem, hcl, hz]
              simp [HT.out, textV]
            · repeat (first | exact hbb2 | refine Below.setCell ?_ (by exact Nat.le_refl _) _ | refine Below.alloc ?_ (by simp [World.setCell]; omega) _)
  · have HT : Hid (T = (⟨#[]⟩, 0, c)) := by rw [if_neg hc] at hT; exact hT
    have b1 : (c != 0) = true := by rw [bne_iff_ne]; exact hc
    clear hT hok
    go_enter Try.func13, Try.ntmps13
    go_wp2_with fail
    refine (Hget.out _).mono ?_
    rintro e w1 ⟨rfl, hb⟩
    simp only [numV]
    obtain ⟨hcl, hf⟩ := bcell hb
    have hz : w.heap.size < w1.heap.size := by have := hb.size; simp at this; omega
    have hbb : Below w.heap.size w w1 := ((Below.refl w.heap.size w).alloc (Nat.le_refl _) _).trans (hb.mono (by simp))
    go_wp2_with fail
    refine bodyPost_ret (v := textV T) ?_ rfl ⟨rfl, ?_⟩
    · simp [results, Try.results13, go_sem, hcl, hz]
      simp [HT.out, textV]
    · repeat (first | exact hbb | refine Below.setCell ?_ (by exact Nat.le_refl _) _ | refine Below.alloc ?_ (by simp [World.setCell]; omega) _)

end Go.Proofs.Ytncloiipndmmcaa
