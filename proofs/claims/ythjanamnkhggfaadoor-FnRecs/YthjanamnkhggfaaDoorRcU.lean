/- The iterator of records (impl.records): its contract. -/
import Derived.Test.YthjanamnkhggfaaDoorRcS
import Derived.RangeFuncNested
import Derived.RangeFuncBound
import Derived.RangeFuncCalls
import Derived.RangeFuncLeaves
import Derived.Shelf.Abstract
import Derived.Shelf.RegionOpen
import Derived.WalkKit
import Derived.OwnWalkIn
import Derived.TacticsInMore
import Derived.LoopNIn
import Derived.LoopIn
namespace Go.Proofs.YthjanamnkhggfaaDoor
open Go.RowKit Go.Shelf
open Go.Proofs.YthjanamnkhggfaaDoor.Draw
attribute [local go_sem] Oper.semAt_some

/-- What a round is handed, by the record's place. -/
def encR (s : ByteArray) (a : Nat) : Array Value := #[.agg #[.string (readR s a).1, .int .i64 ((readR s a).2.1 : Int)], errOf (readR s a).2.2]
def uptoA (s : ByteArray) (k : Nat) : List Nat := (List.range k).map (seqA s)
theorem uptoA_succ (s : ByteArray) (k : Nat) : uptoA s (k + 1) = uptoA s k ++ [seqA s k] := by simp [uptoA, List.range_succ]
theorem uptoA_length (s : ByteArray) (k : Nat) : (uptoA s k).length = k := by simp [uptoA]
/-- What a round that goes on keeps: the text's box, and each record's block. -/
def Kr (Bs : Nat) (W W' : World) : Prop := W.heap.size ≤ W'.heap.size ∧ W'.heap[Bs]? = W.heap[Bs]? ∧ ∀ (g : Nat) (cs : Array Value), W.heap[g]? = some (.cells cs 105) → W'.heap[g]? = some (.cells cs 105)
theorem Kr.trans {Bs : Nat} {A B C : World} (h : Kr Bs A B) (k : Kr Bs B C) : Kr Bs A C := ⟨Nat.le_trans h.1 k.1, k.2.1.trans h.2.1, fun g cs e => k.2.2 g cs (h.2.2 g cs e)⟩
/-- All have come; or those up to the first that can't be read, which comes too. -/
def AllCame (s : ByteArray) (xs : List Nat) : Prop := ∃ k, OkTo s k ∧ (s.size ≤ seqA s k ∧ xs = uptoA s k ∨ seqA s k < s.size ∧ (readR s (seqA s k)).2.2 ≠ 0 ∧ xs = uptoA s (k + 1))
def PartCame (s : ByteArray) (xs : List Nat) : Prop := ∃ k, OkTo s k ∧ seqA s k < s.size ∧ xs = uptoA s (k + 1)
theorem quietly {A B : World} (h : Below A.heap.size A B) : A.grownBy B none := ⟨h.os, h.tape, h.output, h.size, fun k hk _ => h.block k hk⟩
set_option maxRecDepth 100000 in
set_option maxHeartbeats 4000000 in
theorem recs_in (n : Nat) (hn : 1 ≤ n) (l Bs : Nat) (s : ByteArray) (hs : s.size ≤ 20000) (J Jx : List Nat → World → Prop) (W0 : World) (hJ : AbidesFrom W0.heap.size J)
    (hY : ∀ pre x W, J pre W → pre.length < 20000 → YieldAt Fence.wide (n - 1) Tryd.prog l (encR s x) W fun e W' =>
      (e = .returned (.bool true) ∧ J (pre ++ [x]) W' ∧ Kr Bs W W') ∨ (e = .returned (.bool false) ∧ Jx (pre ++ [x]) W'))
    (hBn : Bs < W0.heap.size) (hc : W0.cell? ⟨Bs, 0, none⟩ = some (.string s)) (h0 : J [] W0) :
    CallsIn Fence.wide n Tryd.prog 99 #[.func (.yield l) #[] #[], .pointer (some ⟨Bs, 0, none⟩)] W0 fun e W' => (∃ v, e = .returned v) ∧ ((∃ xs, AllCame s xs ∧ J xs W') ∨ (∃ pre, PartCame s pre ∧ Jx pre W')) := by
  refine callsIn_of_wp Tryd.func99 rfl trivial ?_ rfl
  simp only [Tryd.ntmps99, List.size_toArray, List.length_cons, List.length_nil, Nat.reduceAdd, Nat.reduceSub, Array.replicate_succ, Array.replicate_zero, List.push_toArray, List.append_toArray, List.nil_append, List.cons_append]
  gi_wp2
  gi_loopw [3] (fun i wr => ∃ k : Nat, Hid (OkTo s k) ∧ i = .int .i64 (seqA s k : Int) ∧ Hid (J (uptoA s k) wr) ∧ Hid (wr.heap[Bs]? = W0.heap[Bs]? ∧ Bs < wr.heap.size)) (fun i _ => 20001 - (intOf i).toNat)
  case atStart => exact ⟨0, fun j hj => by omega, rfl, h0, rfl, hBn⟩
  case round =>
    obtain ⟨k, HK, rfl, HJ, HB⟩ := hrel
    obtain ⟨hka, ha2⟩ := okTo_le hs k HK.out
    have hcx : wr.cell? ⟨Bs, 0, none⟩ = some (.string s) := (World.cell?_of_block (a := ⟨Bs, 0, none⟩) HB.out.1).trans hc
    have HX : Hid (uptoA s (k + 1) = uptoA s k ++ [seqA s k]) := uptoA_succ s k
    have HSQ : Hid (seqA s (k + 1) = (readR s (seqA s k)).2.1) := rfl
    have HKS : Hid (seqA s k < s.size → (readR s (seqA s k)).2.2 = 0 → OkTo s (k + 1)) := fun h1 h2 => okTo_succ HK.out h1 h2
    have HAC : Hid (s.size ≤ seqA s k → AllCame s (uptoA s k)) := fun h => ⟨k, HK.out, Or.inl ⟨h, rfl⟩⟩
    have HAE : Hid (seqA s k < s.size → (readR s (seqA s k)).2.2 ≠ 0 → AllCame s (uptoA s (k + 1))) := fun h1 h2 => ⟨k, HK.out, Or.inr ⟨h1, h2, rfl⟩⟩
    have HPC : Hid (seqA s k < s.size → PartCame s (uptoA s (k + 1))) := fun h => ⟨k, HK.out, h, rfl⟩
    generalize seqA s k = a at *
    by_cases hlt : s.size ≤ a
    · have t0 : decide ((a : Int) < (s.size : Int)) = false := by simp; omega
      have t1 : decide (a < s.size) = false := by simp; omega
      gi_wp2
      go_end0
      exact ⟨⟨_, rfl⟩, .inl ⟨_, HAC.out hlt, HJ.out⟩⟩
    have hlt : a < s.size := by omega
    have t0 : decide ((a : Int) < (s.size : Int)) = true := by simp; omega
    have t1 : decide (a < s.size) = true := by simp; omega
    have HRD : Hid (∀ W, CallsIn Fence.wide (n - 1) Tryd.prog 100 #[.string s, .int .i64 (a : Int)] W fun e w' => e = .returned (.tuple #[.agg #[.string (readR s a).1, .int .i64 ((readR s a).2.1 : Int)], errOf (readR s a).2.2]) ∧ Below W.heap.size W w') := fun W => callsIn_wide.2 (impl_readRec s a hs ha2 W)
    have HYA : Hid (∀ W, J (uptoA s k) W → YieldAt Fence.wide (n - 1) Tryd.prog l #[.agg #[.string (readR s a).1, .int .i64 ((readR s a).2.1 : Int)], errOf (readR s a).2.2] W fun e W' =>
      (e = .returned (.bool true) ∧ J (uptoA s (k + 1)) W' ∧ Kr Bs W W') ∨ (e = .returned (.bool false) ∧ Jx (uptoA s (k + 1)) W')) := fun W hj => by
      have := hY (uptoA s k) a W hj (by rw [uptoA_length]; omega)
      rw [HX.out]; exact this
    have HGE : Hid ((readR s a).2.2 = 0 → a < (readR s a).2.1 ∧ (readR s a).2.1 ≤ s.size) := fun h => ⟨(readR_ok hs h).1, (readR_ok hs h).2.1⟩
    have HEO : Hid (∀ c : Int, errOf c = if c = 0 then .nilIface else .iface 124 (.agg #[.int .i64 c])) := fun _ => rfl
    obtain ⟨⟨bd, r, c⟩, hrd⟩ : ∃ x, readR s a = x := ⟨_, rfl⟩
    rw [hrd] at HRD HYA HGE HKS HAE HSQ
    dsimp only at HRD HYA HGE HKS HAE HSQ
    clear hrd
    obtain ⟨er, her⟩ : ∃ e, errOf c = e := ⟨_, rfl⟩
    rw [her] at HRD HYA
    gi_wp2_with (first | (gi_at_call 100; refine (HRD.out _).mono ?_; rintro e w1 ⟨rfl, hb1⟩) | (refine ⟨trivial, ?_⟩; gi_at_call 100; refine (HRD.out _).mono ?_; rintro e w1 ⟨rfl, hb1⟩))
    have hal1 : Below wr.heap.size wr (w1.alloc (.cells #[.string bd, .int .i64 (r : Int)] 105)) := hb1.alloc hb1.size _
    have hJ1 := hJ _ _ _ none HJ.out (quietly hal1) (fun r e => by cases e)
    have HB1 : Hid ((w1.alloc (.cells #[.string bd, .int .i64 (r : Int)] 105)).heap[Bs]? = W0.heap[Bs]? ∧ Bs < (w1.alloc (.cells #[.string bd, .int .i64 (r : Int)] 105)).heap.size) := ⟨(hal1.block Bs HB.out.2).trans HB.out.1, Nat.lt_of_lt_of_le HB.out.2 hal1.size⟩
    have hnew := World.alloc_heap_new w1 (.cells #[.string bd, .int .i64 (r : Int)] 105)
    have hnc : (w1.alloc (.cells #[.string bd, .int .i64 (r : Int)] 105)).cell? ⟨w1.heap.size, 1, none⟩ = some (.int .i64 (r : Int)) := by simp
    obtain ⟨fn, tmps, assign, body, hy, hR⟩ := HYA.out _ hJ1
    rw [hy]
    gi_wp2
    refine hR.mono ?_
    rintro e W3 (⟨rfl, hJ3, hk3⟩ | ⟨rfl, hJx3⟩)
    · by_cases hc0 : c = 0
      · have hee : er = .nilIface := by rw [← her, HEO.out c, if_pos hc0]
        subst hee
        have hc3 : W3.cell? ⟨w1.heap.size, 1, none⟩ = some (.int .i64 (r : Int)) := (World.cell?_of_block (a := ⟨w1.heap.size, 1, none⟩) ((hk3.2.2 _ _ hnew).trans hnew.symm)).trans hnc
        have HJ3 : Hid (J (uptoA s (k + 1)) W3) := hJ3
        have HB3 : Hid (W3.heap[Bs]? = W0.heap[Bs]? ∧ Bs < W3.heap.size) := ⟨hk3.2.1.trans HB1.out.1, Nat.lt_of_lt_of_le HB1.out.2 hk3.1⟩
        obtain ⟨hg0, hg1⟩ := HGE.out hc0
        have HOK := HKS.out hlt hc0
        clear hk3 hJ3 hJ1 hy hR hnew hnc hal1 hb1 her
        gi_wp2
        go_roundw
        case rel => exact ⟨k + 1, HOK, by rw [HSQ.out], HJ3, HB3⟩
        case measure => simp [intOf]; omega
      · have hee : er = .iface 124 (.agg #[.int .i64 c]) := by rw [← her, HEO.out c, if_neg hc0]
        subst hee
        have HAE := HAE.out hlt hc0
        gi_wp2
        refine bodyPost_ret (results_none rfl _ _ _) rfl ?_
        exact ⟨⟨_, rfl⟩, .inl ⟨_, HAE, hJ3⟩⟩
    · have HPC := HPC.out hlt
      gi_wp2
      refine bodyPost_ret (results_none rfl _ _ _) rfl ?_
      exact ⟨⟨_, rfl⟩, .inr ⟨_, HPC, hJx3⟩⟩
theorem recs_stops (n : Nat) (hn : 1 ≤ n) (Bs : Nat) (s : ByteArray) (hs : s.size ≤ 20000) (w : World) (hB : Bs < w.heap.size) (hc : w.cell? ⟨Bs, 0, none⟩ = some (.string s)) :
    SeqStopsK Fence.wide n Tryd.prog 99 #[.pointer (some ⟨Bs, 0, none⟩)] (encR s) (Kr Bs) (AllCame s) (PartCame s) 20000 w := fun l J Jx W hW hJ _ hY h0 =>
  recs_in n hn l Bs s hs J Jx W hJ hY (Nat.lt_of_lt_of_le hB hW.size) ((hW.cell (p := ⟨Bs, 0, none⟩) hB).trans hc) h0
end Go.Proofs.YthjanamnkhggfaaDoor
