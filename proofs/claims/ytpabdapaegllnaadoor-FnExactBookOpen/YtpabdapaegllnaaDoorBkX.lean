/- The places of lines in a map by their spot (impl.index): what the call does. -/
import Derived.Test.YtpabdapaegllnaaDoorLines
import Derived.Maps.OwnSet
import Derived.DeepKeys4
import Derived.Deep.RegionHeld3
import Derived.Deep.DeepCutAuto
import Derived.Deep.CutRange
namespace Go.Proofs.YtpabdapaegllnaaDoor
open Go.RowKit Go.Maps
open Go.Proofs.YtpabdapaegllnaaDoor.Draw

theorem laidOutX : laidOutB Tryd.prog = true := by kernel_rfl
theorem keySpot : Keyed Tryd.prog 38 := Keyed.of_law (deep_law_laid laidOutX (m := 3) (by omega) (of_decide_eq_true (by kernel_rfl)) (by kernel_rfl) (by kernel_rfl))
/-- A spot as a key. -/
def spotK (a s : ByteArray) : Lit := .string (keyBytes [.string a.data.toList, .string s.data.toList])
theorem cellsSp : Tryd.prog.cellsOf 38 = 2 := by kernel_rfl
theorem cellsSt : Tryd.prog.cellsOf 9 = 1 := by kernel_rfl
theorem formedSp (a s : ByteArray) : (Tryd.prog.keyType 38 && (Value.agg #[.string a, .string s]).formed Tryd.prog 38) = true := by kernel_rfl
theorem litsSt (d : Nat) (a : ByteArray) (ha : a.size ≤ maxLen) : Tryd.prog.keyLits (d + 1) 9 [.string a] = some [.string a.data.toList] := by
  unfold Program.keyLits
  simp only [Tryd.underlying9]
  rw [if_pos ha]
theorem spotK_of (a s : ByteArray) (ha : a.size ≤ maxLen) (hs : s.size ≤ maxLen) : keyOf Tryd.prog 38 (.agg #[.string a, .string s]) = some (spotK a s) := by
  obtain ⟨N, hd⟩ : ∃ N, Tryd.prog.types.size = N + 1 := ⟨196 - 1, by kernel_rfl⟩
  unfold keyOf
  rw [Tryd.underlying38]
  simp only [formedSp, if_true]
  rw [hd]
  unfold Program.keyLits
  simp only [Tryd.underlying38]
  simp [Value.cells, cellsSp, cellsSt, litsSt _ a ha, litsSt _ s hs, spotK]
/-- The map of the first k lines. -/
def placesD (L : Nat → Ln) : Nat → DataW Unit
  | 0 => .map []
  | k + 1 => (placesD L k).put (spotK (L k).a (L k).s) (.lit (.int .i64 (k : Int)))
theorem step_put {H : Type} {P : Program} (w : World) {ops : Array Oper} {o : Oper} {a : Act} {K : Act → World → Prop} {Q : Exit → Act → World → Prop} {E : Prop} (hgd : o.guard = none) (m x v : Operand) (t : TypeId) (ho : o.op = Op.mapUpdate t m x v)
    (k e : TypeId) (Kd : Keyed P k) (ht : P.underlying t = some (.map k e)) (R : Value → Option (DataW H × List MemPlace)) (b n : Nat) (D : DataW H)
    (hm : a.eval m = .map (some b)) (hown : w.ownsMap P k R b n D) (hn : n < maxLen) (key val : Value) (kl : Lit) (hx : a.eval x = key) (hv : a.eval v = val) (hkey : keyOf P k key = some kl)
    (d : DataW H) (ps : List MemPlace) (hval : R val = some (d, ps))
    (h : ∀ w', w'.ownsMap P k R b (n + 1) (D.put kl d) → w.grownBy w' (some b) → K (a.put o.dst undef) w') :
    if Region.wanted o (yielded ops a.tmps) = true then Oper.wp P o a w K Q else E := by
  have hw : Region.wanted o (yielded ops a.tmps) = true := by simp [Region.wanted, hgd]
  rw [if_pos hw]
  obtain ⟨w', hrun, r1, r2⟩ := hown.update Kd ht hn hkey hval
  unfold Oper.wp
  simp [execOp, ho, hm, hx, hv, hrun, Result.andThen]
  exact h w' r1 r2
theorem make_map (n : Int) (w : World) : (Instr.makeMap 69 (some (.int .i64 n))).run Tryd.prog w = .ok (.map (some w.heap.size)) (w.alloc (.map #[] 0)) := by kernel_rfl
set_option maxRecDepth 100000 in
set_option maxHeartbeats 4000000 in
theorem impl_index (B : Nat) (a : Option Addr) (n cap : Nat) (L : Nat → Ln) (hn : n ≤ 60) (hfit : ∀ i, i < n → (L i).fits) (old : Value) (w : World) (h : LinesAt w a n L) (hne : ∀ k, a.map Addr.block = some k → k ≠ B) (hB : B < w.heap.size) (h0 : w.cell? ⟨B, 0, none⟩ = some (.slice a n cap)) (h2 : w.cell? ⟨B, 2, none⟩ = some old) (hf : w.frozen? ⟨B, 2, none⟩ = false) :
    Calls Tryd.prog 68 #[.pointer (some ⟨B, 0, none⟩)] w fun e w' => e = .returned (.tuple #[]) ∧ ∃ M, w.heap.size ≤ M ∧ w'.cell? ⟨B, 2, none⟩ = some (.map (some M)) ∧ w'.ownsMap Tryd.prog 38 (plainElem Tryd.prog 3) M n (placesD L n) ∧ w.grownBy w' (some B) ∧ (∀ j, j ≠ 2 → w'.cell? ⟨B, j, none⟩ = w.cell? ⟨B, j, none⟩) ∧ (∀ j, w'.frozen? ⟨B, j, none⟩ = w.frozen? ⟨B, j, none⟩) := by
  have HL : Hid (LinesAt w a n L) := h
  have HNE : Hid (∀ k, a.map Addr.block = some k → k ≠ B) := hne
  have HF : Hid (∀ i, i < n → (L i).fits) := hfit
  clear h hne hfit
  have hBM : w.heap.size ≠ B := by omega
  have hmk := make_map (n : Int) w
  go_enter Tryd.func68, Tryd.ntmps68
  go_wp2_with fail
  obtain ⟨w1, hw1⟩ : ∃ w1, w1 = (w.setCell ⟨B, 2, none⟩ (.map (some w.heap.size))).alloc (.map #[] 0) := ⟨_, rfl⟩
  have HG1 : Hid (w.grownBy w1 (some B)) := by
    rw [Hid, hw1]
    exact ⟨rfl, rfl, rfl, by simp, fun k hk hne => by
      rw [Below.heap_alloc _ _ _ (by simpa using hk), heap_setCell_other _ _ _ _ (by simpa using hne)]⟩
  have HC2 : Hid (w1.cell? ⟨B, 2, none⟩ = some (.map (some w.heap.size))) := by
    rw [Hid, hw1, World.cell?_alloc_past _ _ _ (by simpa using hB)]; simp [go_sem, h2]
  have HCJ : Hid (∀ j, j ≠ 2 → w1.cell? ⟨B, j, none⟩ = w.cell? ⟨B, j, none⟩) := fun j hj => by
    rw [hw1, World.cell?_alloc_past _ _ _ (by simpa using hB), World.cell?_setCell_other _ _ _ _ (by first | (simp; done) | (simp; omega))]
  have HFJ : Hid (∀ j, w1.frozen? ⟨B, j, none⟩ = w.frozen? ⟨B, j, none⟩) := fun j => by
    rw [hw1, World.frozen?_alloc_past _ _ _ (by simpa using hB)]; simp
  have HO1 : Hid (w1.ownsMap Tryd.prog 38 (plainElem Tryd.prog 3) w.heap.size 0 (placesD L 0)) := by
    rw [Hid, hw1]; have := World.ownsMap_made (H := Unit) (w.setCell ⟨B, 2, none⟩ (.map (some w.heap.size))) Tryd.prog 38 (plainElem Tryd.prog 3); rw [show placesD L 0 = DataW.map [] from rfl]; simpa using this
  have HS1 : Hid (w.heap.size < w1.heap.size) := by rw [Hid, hw1]; simp
  rw [← hw1]
  clear hw1 hmk h2 hf
  obtain ⟨M, hM⟩ : ∃ M, M = w.heap.size := ⟨_, rfl⟩
  rw [← hM] at HC2 HO1 HS1 hBM ⊢
  have HMw : Hid (M = w.heap.size) := hM
  clear hM h0
  go_loopw [20] (fun i wr => ∃ k : Nat, i = .int .i64 (k : Int) ∧ k ≤ n ∧ Hid (wr.ownsMap Tryd.prog 38 (plainElem Tryd.prog 3) M k (placesD L k)) ∧ Hid (w1.grownBy wr (some M))) (fun i _ => n - (intOf i).toNat)
  case atStart => exact ⟨0, rfl, by omega, HO1, World.grownBy.refl _ _⟩
  case round =>
    obtain ⟨k, rfl, hk, HO, HG⟩ := hrel
    have cM : wr.cell? ⟨B, 2, none⟩ = some (.map (some M)) := HG.out.cell (a := ⟨B, 2, none⟩) HC2.out (by simp; omega)
    by_cases hkn : k < n
    · have p0 : decide (k < n) = true := by simpa using hkn
      have p1 : decide ((k : Int) < (n : Int)) = true := by simpa using hkn
      rcases HL.out with h0 | ⟨g, o, rfl, hg, hc⟩
      · omega
      have hgB : g ≠ B := HNE.out g rfl
      have hgM : g ≠ M := by have := HMw.out; omega
      obtain ⟨c0, c1, c2⟩ := hc k hkn
      have up : ∀ j v, w.cell? ⟨g, j, none⟩ = some v → wr.cell? ⟨g, j, none⟩ = some v := fun j v h => HG.out.cell (a := ⟨g, j, none⟩) (HG1.out.cell (a := ⟨g, j, none⟩) h (by simp; omega)) (by simp; omega)
      have d0 := up _ _ c0
      have d1 := up _ _ c1
      have d2 := up _ _ c2
      obtain ⟨f0, f1⟩ := HF.out k hkn
      have HK : Hid (keyOf Tryd.prog 38 (.agg #[.string (L k).a, .string (L k).s]) = some (spotK (L k).a (L k).s)) := spotK_of _ _ f0 f1
      have HP : Hid (placesD L (k + 1) = (placesD L k).put (spotK (L k).a (L k).s) (.lit (.int .i64 (k : Int)))) := rfl
      clear hc c0 c1 c2 up f0 f1
      generalize spotK (L k).a (L k).s = kl at *
      generalize (L k).a = x0 at *
      generalize (L k).s = x1 at *
      generalize (L k).m = x2 at *
      have hBr : B < wr.heap.size := World.block_lt_of_cell? _ _ cM
      have hne : wr.heap.size ≠ B := by omega
      have hMr : M < wr.heap.size := Nat.lt_of_lt_of_le HS1.out HG.out.size
      go_upto_region 4 with fail
      obtain ⟨V, hV⟩ : ∃ V, V = wr.alloc (.cells #[.string x0, .string x1, .int .i64 x2] 46) := ⟨_, rfl⟩
      have hb : Below wr.heap.size wr V := by rw [hV]; exact (Below.refl _ _).alloc (Nat.le_refl _) _
      have e0 : V.cell? ⟨wr.heap.size, 0, none⟩ = some (.string x0) := by rw [hV]; simp
      have e1 : V.cell? ⟨wr.heap.size, 1, none⟩ = some (.string x1) := by rw [hV]; simp
      have eM : V.cell? ⟨B, 2, none⟩ = some (.map (some M)) := (hb.cell (p := ⟨B, 2, none⟩) hBr).trans cM
      have HOV : Hid (V.ownsMap Tryd.prog 38 (plainElem Tryd.prog 3) M k (placesD L k)) := HO.out.kept (row := none) ⟨hb.os, hb.tape, hb.output, hb.size, fun q hq _ => hb.block q hq⟩ (by simp)
      have HGV : Hid (w1.grownBy V (some M)) := ⟨hb.os.trans HG.out.os, hb.tape.trans HG.out.tape, hb.output.trans HG.out.output, Nat.le_trans HG.out.size hb.size, fun q hq hne => (hb.block q (Nat.lt_of_lt_of_le hq HG.out.size)).trans (HG.out.block q hq hne)⟩
      rw [← hV]
      clear hV hb cM d0 d1 d2
      obtain ⟨Q, hQ⟩ : ∃ Q, Q = wr.heap.size := ⟨_, rfl⟩
      have hQM : Q ≠ M := by omega
      have hBM2 : B ≠ M := by omega
      rw [← hQ] at e0 e1 ⊢
      clear hQ hne
      have hwf : (Lit.int .i64 (k : Int)).wf = true := WalkArith.wf_i64 (by omega)
      have HWF : Hid (plainElem (H := Unit) Tryd.prog 3 (.int .i64 (k : Int)) = some (.lit (.int .i64 (k : Int)), [])) := plainElem_int Tryd.underlying3 hwf
      clear hwf
      obtain ⟨w3, hrun, hown3, hg3⟩ := HOV.out.drew.update keySpot Tryd.underlying69 (by unfold maxLen; omega) HK.out HWF.out
      have s0 : w3.cell? ⟨B, 2, none⟩ = some (.map (some M)) := hg3.cell (a := ⟨B, 2, none⟩) eM (by simpa using hBM2)
      have s1 : w3.cell? ⟨Q, 0, none⟩ = some (.string x0) := hg3.cell (a := ⟨Q, 0, none⟩) e0 (by simpa using hQM)
      have s2 : w3.cell? ⟨Q, 1, none⟩ = some (.string x1) := hg3.cell (a := ⟨Q, 1, none⟩) e1 (by simpa using hQM)
      rw [← HP.out] at hown3
      have HO3 : Hid (w3.ownsMap Tryd.prog 38 (plainElem Tryd.prog 3) M (k + 1) (placesD L (k + 1))) := hown3
      have HG3 : Hid (w1.grownBy w3 (some M)) := ⟨hg3.os.trans HGV.out.os, hg3.tape.trans HGV.out.tape, hg3.output.trans HGV.out.output, Nat.le_trans HGV.out.size hg3.size, fun q hq hne => (hg3.block q (Nat.lt_of_lt_of_le hq HGV.out.size) hne).trans (HGV.out.block q hq hne)⟩
      clear hown3 hg3 HO HG HGV HOV HK HP HWF
      go_region_held3 (fun W => W.cell? ⟨B, 2, none⟩ = some (.map (some M)) ∧ W.cell? ⟨Q, 0, none⟩ = some (.string x0) ∧ W.cell? ⟨Q, 1, none⟩ = some (.string x1)) (go_keep) (fail)
      go_wp2_with fail
      go_roundw
      case rel => exact ⟨k + 1, by go_num, by omega, HO3, HG3⟩
      case measure => simp [intOf]; omega
    · have p0 : decide (k < n) = false := by simpa using hkn
      have p1 : decide ((k : Int) < (n : Int)) = false := by simpa using hkn
      obtain rfl : k = n := by omega
      go_wp2_with fail
      refine bodyPost_end (v := .tuple #[]) ?_ rfl ⟨rfl, M, by have := HMw.out; omega, cM, HO.out, ?_, ?_, ?_⟩
      · simp [results, Tryd.results68]
      · exact ⟨HG.out.os.trans HG1.out.os, HG.out.tape.trans HG1.out.tape, HG.out.output.trans HG1.out.output, Nat.le_trans HG1.out.size HG.out.size, fun q hq hne => (HG.out.block q (Nat.lt_of_lt_of_le hq HG1.out.size) (by have := HMw.out; simp; omega)).trans (HG1.out.block q hq hne)⟩
      · intro j hj
        rw [World.cell?_of_block (a := ⟨B, j, none⟩) (HG.out.block B (Nat.lt_of_lt_of_le hB HG1.out.size) (by simp; omega))]; exact HCJ.out j hj
      · intro j
        rw [World.frozen?_of_block (a := ⟨B, j, none⟩) (HG.out.block B (Nat.lt_of_lt_of_le hB HG1.out.size) (by simp; omega))]; exact HFJ.out j
end Go.Proofs.YtpabdapaegllnaaDoor
