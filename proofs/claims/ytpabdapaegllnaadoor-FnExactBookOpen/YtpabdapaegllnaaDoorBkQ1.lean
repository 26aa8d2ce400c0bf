/- A book told, or a refusal (impl.bookOut); a line opened (impl.BookOpen): what the calls do. -/
import Derived.Test.YtpabdapaegllnaaDoorBkO2
namespace Go.Proofs.YtpabdapaegllnaaDoor
open Go.RowKit
open Go.Proofs.YtpabdapaegllnaaDoor.Draw

/-- What a book handed out is. -/
def BkOut (w : World) (N K : Nat) (L : Nat → Ln) (I : Nat → Tx) (p cd : Int) (e : Ending) (w' : World) : Prop := ∃ a c b d, e = .returned (.agg #[.slice a N c, .slice b K d, .int .i64 p, .int .i64 cd]) ∧ OwnR w' a N 3 (lineF L) ∧ OwnR w' b K 1 (textF I) ∧ (∀ k, a.map Addr.block = some k → w.heap.size ≤ k ∧ k < w'.heap.size) ∧ (∀ k, b.map Addr.block = some k → w.heap.size ≤ k ∧ k < w'.heap.size) ∧ (∀ k, a.map Addr.block = some k → b.map Addr.block = some k → False) ∧ Below w.heap.size w w'
theorem BkOut.err {w w' : World} {L : Nat → Ln} {I : Nat → Tx} {p cd : Int} (h : Below w.heap.size w w') : BkOut w 0 0 L I p cd (.returned (.agg #[.slice none 0 0, .slice none 0 0, .int .i64 p, .int .i64 cd])) w' :=
  ⟨none, 0, none, 0, rfl, Or.inl rfl, Or.inl rfl, fun k e => by simp at e, fun k e => by simp at e, fun k e => by simp at e, h⟩
/-- What opening a line answers: how many lines and ids, which lines, which code. -/
structure Op0 where
  N : Nat
  K : Nat
  L : Nat → Ln
  cd : Int
def openB (n m : Nat) (L : Nat → Ln) (I : Nat → Tx) (x y : ByteArray) (k : Nat) : Op0 :=
  if (bookB n m L I && (nameB x && nameB y)) = true then (match findB L x y n with
    | some _ => ⟨0, 0, L, 7⟩
    | none => if 60 ≤ n then ⟨0, 0, L, 16⟩ else ⟨n + 1, m, insL L k x y, 0⟩) else ⟨0, 0, L, 1⟩
theorem openB_no {n m : Nat} {L : Nat → Ln} {I : Nat → Tx} {x y : ByteArray} {k : Nat} (h : (bookB n m L I && (nameB x && nameB y)) = false) : openB n m L I x y k = ⟨0, 0, L, 1⟩ := by unfold openB; rw [h]; rfl
theorem openB_7 {n m : Nat} {L : Nat → Ln} {I : Nat → Tx} {x y : ByteArray} {k i : Nat} (h : (bookB n m L I && (nameB x && nameB y)) = true) (hf : findB L x y n = some i) : openB n m L I x y k = ⟨0, 0, L, 7⟩ := by unfold openB; rw [h, hf]; rfl
theorem openB_16 {n m : Nat} {L : Nat → Ln} {I : Nat → Tx} {x y : ByteArray} {k : Nat} (h : (bookB n m L I && (nameB x && nameB y)) = true) (hf : findB L x y n = none) (hn : 60 ≤ n) : openB n m L I x y k = ⟨0, 0, L, 16⟩ := by unfold openB; rw [h, hf]; simp [hn]
theorem openB_ok {n m : Nat} {L : Nat → Ln} {I : Nat → Tx} {x y : ByteArray} {k : Nat} (h : (bookB n m L I && (nameB x && nameB y)) = true) (hf : findB L x y n = none) (hn : n < 60) : openB n m L I x y k = ⟨n + 1, m, insL L k x y, 0⟩ := by unfold openB; rw [h, hf]; simp [show ¬ 60 ≤ n by omega]
set_option maxRecDepth 100000 in
set_option maxHeartbeats 8000000 in
theorem bout_ok (a : Option Addr) (n c : Nat) (b : Option Addr) (m d : Nat) (p : Int) (w : World) :
    Calls Tryd.prog 40 #[.agg #[.slice a n c, .slice b m d], .int .i64 p, .nilIface] w fun e w' => e = .returned (.agg #[.slice a n c, .slice b m d, .int .i64 0, .int .i64 0]) ∧ Below w.heap.size w w' := by
  have T0 := two_now w #[.slice a n c, .slice b m d] #[.slice none 0 0, .slice none 0 0, .int .i64 0, .int .i64 0] 26 31
  have HT0 : Hid (Both w ((w.alloc (.cells #[.slice a n c, .slice b m d] 26)).alloc (.cells #[.slice none 0 0, .slice none 0 0, .int .i64 0, .int .i64 0] 31)) #[.slice a n c, .slice b m d] #[.slice none 0 0, .slice none 0 0, .int .i64 0, .int .i64 0]) := T0
  clear T0
  go_enter Tryd.func40, Tryd.ntmps40
  go_wp2_with fail
  refine (code_nil _).mono ?_
  rintro e w1 ⟨rfl, hb⟩
  have T1 := HT0.out.next hb
  have r0 := T1.res 0
  have r1 := T1.res 1
  have r2 := T1.res 2
  have r3 := T1.res 3
  have b0 := T1.box 0
  have b1 := T1.box 1
  have rf : ∀ j, w1.frozen? ⟨w.heap.size + 1, j, none⟩ = false := fun j => (hb.frozen (p := ⟨w.heap.size + 1, j, none⟩) (by simp)).trans (fnew' (by simp) j)
  simp at r0 r1 r2 r3 b0 b1
  have HB1 : Hid (Below w.heap.size w w1) := T1.bel
  have s1 : w.heap.size ≤ w.heap.size + 1 := by omega
  clear T1 hb HT0
  go_wp2_with fail
  refine bodyPost_ret (v := .agg #[.slice a n c, .slice b m d, .int .i64 0, .int .i64 0]) ?_ rfl ⟨rfl, ?_⟩
  · simp [results, Tryd.results40, go_sem, r0, r1, r2, r3]
  · exact ((((HB1.out.setCell s1 _).setCell s1 _).setCell s1 _).setCell s1 _)
set_option maxRecDepth 100000 in
set_option maxHeartbeats 8000000 in
theorem bout_err (a : Option Addr) (n c : Nat) (b : Option Addr) (m d : Nat) (p cd : Int) (hc : cd ≠ 0) (w : World) (hL : Lay w) :
    Calls Tryd.prog 40 #[.agg #[.slice a n c, .slice b m d], .int .i64 p, errV cd] w fun e w' => e = .returned (.agg #[.slice none 0 0, .slice none 0 0, .int .i64 p, .int .i64 cd]) ∧ Below w.heap.size w w' := by
  have tc : (cd != 0) = true := by rw [bne_iff_ne]; exact hc
  have H : Hid (∀ w, Lay w → Calls Tryd.prog 73 #[errV cd] w fun e w' => e = .returned (.int .i64 cd) ∧ Below w.heap.size w w') := fun w h => code_err cd w h
  have HLy : Hid (Lay w) := hL
  generalize errV cd = E at *
  clear hc hL
  have T0 := two_now w #[.slice a n c, .slice b m d] #[.slice none 0 0, .slice none 0 0, .int .i64 0, .int .i64 0] 26 31
  have HT0 : Hid (Both w ((w.alloc (.cells #[.slice a n c, .slice b m d] 26)).alloc (.cells #[.slice none 0 0, .slice none 0 0, .int .i64 0, .int .i64 0] 31)) #[.slice a n c, .slice b m d] #[.slice none 0 0, .slice none 0 0, .int .i64 0, .int .i64 0]) := T0
  clear T0
  go_enter Tryd.func40, Tryd.ntmps40
  go_wp2_with fail
  refine (H.out _ (HLy.out.below HT0.out.bel)).mono ?_
  rintro e w1 ⟨rfl, hb⟩
  have T1 := HT0.out.next hb
  have r0 := T1.res 0
  have r1 := T1.res 1
  have r2 := T1.res 2
  have r3 := T1.res 3
  have rf : ∀ j, w1.frozen? ⟨w.heap.size + 1, j, none⟩ = false := fun j => (hb.frozen (p := ⟨w.heap.size + 1, j, none⟩) (by simp)).trans (fnew' (by simp) j)
  simp at r0 r1 r2 r3
  have HB1 : Hid (Below w.heap.size w w1) := T1.bel
  have s1 : w.heap.size ≤ w.heap.size + 1 := by omega
  clear T1 hb HT0
  go_wp2_with fail
  refine bodyPost_ret (v := .agg #[.slice none 0 0, .slice none 0 0, .int .i64 p, .int .i64 cd]) ?_ rfl ⟨rfl, ?_⟩
  · simp [results, Tryd.results40, go_sem, r0, r1, r2, r3]
  · exact ((((HB1.out.setCell s1 _).setCell s1 _).setCell s1 _).setCell s1 _)
end Go.Proofs.YtpabdapaegllnaaDoor
