/- Bytes of modules: what the program's builder and its calls do. -/
import Derived.Test.YtkhjmjlmbeealaaDoorMrS
import Derived.Test.YtkhjmjlmbeealaaDoorLayBld
import Derived.Test.YtkhjmjlmbeealaaDoorPut
import Derived.Shelf.Strings.Builder1
namespace Go.Proofs.YtkhjmjlmbeealaaDoor
open Go.RowKit
open Go.Proofs.YtkhjmjlmbeealaaDoor.Draw

theorem bytes_str (l : List UInt8) : Lib.strCells ⟨l.toArray⟩ = Lib.byteCells l := by simp [Lib.strCells, Lib.byteCells]
theorem bytes_app (l m : List UInt8) : Lib.byteCells l ++ Lib.byteCells m = Lib.byteCells (l ++ m) := by simp [Lib.byteCells]
theorem bytes_len (l : List UInt8) : (Lib.byteCells l).length = l.length := by simp [Lib.byteCells]
theorem enc_len10 (n : Int) : (encN n).length ≤ 10 := encF_len 10 _
theorem enc_size10 (n : Int) : (⟨(encN n).toArray⟩ : ByteArray).size = (encN n).length := rfl
/-- The numbers' bytes, one behind the other. -/
def catN (T : Nat → Int) : Nat → List UInt8
  | 0 => []
  | k + 1 => catN T k ++ encN (T k)
theorem catN_len (T : Nat → Int) (k : Nat) : (catN T k).length ≤ 10 * k := by
  induction k with
  | zero => simp [catN]
  | succ k ih => rw [catN, List.length_append]; have := enc_len10 (T k); omega
/-- Blocks of other types stay as they are. -/
def Kept5 (w w' : World) (b : Nat) : Prop := ∀ j cs t, t ≠ 5 → j ≠ b → w.heap[j]? = some (.cells cs t (0, 0)) → w'.heap[j]? = some (.cells cs t (0, 0))
theorem Kept5.refl (w : World) (b : Nat) : Kept5 w w b := fun _ _ _ _ _ h => h
theorem Kept5.trans {w w' w'' : World} {b : Nat} (h : Kept5 w w' b) (h' : Kept5 w' w'' b) : Kept5 w w'' b := fun j cs t ht hj hb => h' j cs t ht hj (h j cs t ht hj hb)
theorem Kept5.below {w w' : World} {b : Nat} (h : Below w.heap.size w w') : Kept5 w w' b := fun j _ _ _ _ hb => (h.block j (Array.getElem?_eq_some_iff.1 hb).1).trans hb
def Bld (B b : Nat) (l : List UInt8) (w : World) : Prop := Lib.IsBuilder 75 5 B b (Lib.byteCells l) w
theorem Bld.next {B b : Nat} {l : List UInt8} {w w' : World} (h : Bld B b l w) (hb : Below w.heap.size w w') : Bld B b l w' := by
  have key : ∀ p, Lib.BuilderAt 75 5 B b p (Lib.byteCells l) w → Lib.BuilderAt 75 5 B b p (Lib.byteCells l) w' := fun p h => by
    have hlt := h.lt
    obtain ⟨hB, v, hbk, hown, hne⟩ := h
    exact ⟨hB, v, (hb.block b hlt).trans hbk, own_below hown hb, hne⟩
  exact h.imp (key _) (key _)
theorem Bld.lt {B b : Nat} {l : List UInt8} {w : World} (h : Bld B b l w) : b < w.heap.size := by
  rcases h with h | h <;> exact h.lt
theorem bldX : Builder.Extra Tryd.prog ren166 := { sizeBuilder := by kernel_rfl, liesBuilder := by kernel_rfl, t5 := by kernel_rfl, a5 := fun _ => by kernel_rfl, z5 := fun _ => by kernel_rfl, v5 := fun _ => by kernel_rfl, infoByte := by kernel_rfl, cellsByte := by kernel_rfl, sizeByte := by kernel_rfl, neB5 := by decide }
theorem bldX9 : Builder.Extra Tryd.prog ren169 := { sizeBuilder := by kernel_rfl, liesBuilder := by kernel_rfl, t5 := by kernel_rfl, a5 := fun _ => by kernel_rfl, z5 := fun _ => by kernel_rfl, v5 := fun _ => by kernel_rfl, infoByte := by kernel_rfl, cellsByte := by kernel_rfl, sizeByte := by kernel_rfl, neB5 := by decide }
def WrOut (B b : Nat) (l : List UInt8) (w : World) (w' : World) : Prop := Bld B b l w' ∧ Below B w w' ∧ Kept5 w w' b
set_option maxRecDepth 100000 in
set_option maxHeartbeats 16000000 in
theorem impl_check (B b : Nat) (l : List UInt8) (w : World) (h : Bld B b l w) :
    Calls Tryd.prog 71 #[.pointer (some ⟨b, 0, none⟩)] w fun e w' => e = .returned (.tuple #[]) ∧ Lib.BuilderAt 75 5 B b (.pointer (some ⟨b, 0, none⟩)) (Lib.byteCells l) w' ∧ Below B w w' ∧ Kept5 w w' b := by
  rcases h with h | h
  · refine (Any.Builder_copyCheck_fresh { lays166 with } bldX.toX72 b w h.cell0 h.shape h.frozen0).mono ?_
    rintro e w' ⟨rfl, rfl⟩
    exact ⟨rfl, h.used _, (Below.refl B w).setCell (p := ⟨b, 0, none⟩) h.1 _, fun j cs t _ hj hb => by rw [heap_setCell_other _ _ _ _ (by simpa using hj)]; exact hb⟩
  · refine (Any.Builder_copyCheck_used { lays166 with } bldX.toX72 b w h.cell0).mono ?_
    rintro e w' ⟨rfl, rfl⟩
    exact ⟨rfl, h, Below.refl B _, Kept5.refl _ _⟩
set_option maxRecDepth 100000 in
set_option maxHeartbeats 16000000 in
theorem impl_write (B b : Nat) (l m : List UInt8) (w : World) (hl : l.length + m.length ≤ 1000000) (hBw : B ≤ w.heap.size) (h : Bld B b l w) :
    Calls Tryd.prog 61 #[.pointer (some ⟨b, 0, none⟩), .string ⟨m.toArray⟩] w fun e w' => e = .returned (.tuple #[.int .i64 (m.length : Int), .nilIface]) ∧ WrOut B b (l ++ m) w w' := by
  obtain ⟨i0, hi, hz0, hz1, hz2⟩ := info_parts info5
  have HK := impl_check B b l w h
  have HK : Hid (Calls Tryd.prog 71 _ _ _) := HK
  have hsz : (⟨m.toArray⟩ : ByteArray).size = m.length := rfl
  have HM : Hid (Lib.strCells ⟨m.toArray⟩ = Lib.byteCells m) := bytes_str m
  generalize (⟨m.toArray⟩ : ByteArray) = S at *
  clear h
  go_enter Tryd.func61, Tryd.ntmps61
  go_wp2_with fail
  refine HK.out.mono ?_
  rintro e w1 ⟨rfl, h1, hb1, hk1⟩
  obtain ⟨hB, v, hbk, hown, hne⟩ := h1
  have HK1 : Hid (Kept5 w w1 b) := hk1
  have HB1 : Hid (Below B w w1) := hb1
  have c1 : w1.cell? ⟨b, 1, none⟩ = some v := by rw [Lib.cell_of_heap hbk]; rfl
  have hll := bytes_len l
  go_wp2_with (at_builtin; refine Lib.wpList_append_own_string _ rfl _ _ 22 9 rfl B 5 i0 Tryd.underlying22 Tryd.underlying9 hi hz0 hz1 hz2 _ _ _ rfl hown S rfl ?c3 ?c4 ?c5 ?_)
  case c3 => unfold maxLen; omega
  case c4 => omega
  case c5 => have := HB1.out.size; omega
  intro v' w2 hown' hgrow _
  have hlt : b < w1.heap.size := (Array.getElem?_eq_some_iff.1 hbk).1
  have hb2 : w2.heap[b]? = some (.cells #[.pointer (some ⟨b, 0, none⟩), v] 75 (0, 0)) := by
    rw [hgrow.block b hlt (fun e => hne e.symm)]
    exact hbk
  have d1 : w2.cell? ⟨b, 1, none⟩ = some v := by rw [Lib.cell_of_heap hb2]; rfl
  have f1 : w2.frozen? ⟨b, 1, none⟩ = false := Lib.frozen_of_heap hb2 1
  have HKK : Hid (Kept5 w (w2.setCell ⟨b, 1, none⟩ v') b) := fun j cs t ht hj hb => by
    have k1 := HK1.out j cs t ht hj hb
    have hjr : some j ≠ v.ownBlock := fun e => Lib.ownBlock_ne hown k1 ht e.symm
    rw [heap_setCell_other _ _ _ _ (by simpa using hj), hgrow.block j (Array.getElem?_eq_some_iff.1 k1).1 hjr]
    exact k1
  have HR : Hid (Bld B b (l ++ m) (w2.setCell ⟨b, 1, none⟩ v')) := Or.inr (Lib.BuilderAt.put hB hb2 (by rw [HM.out, bytes_app] at hown'; rw [bytes_len, List.length_append]; first | exact hown' | (rw [← hsz, ← hll]; exact hown')) (by decide))
  have HBB : Hid (Below B w (w2.setCell ⟨b, 1, none⟩ v')) := (HB1.out.grown hgrow (by have := HB1.out.size; omega) (fun k hk => (hown.lt k hk).1)).setCell (p := ⟨b, 1, none⟩) hB _
  obtain ⟨ao, n', cap, rfl⟩ : ∃ ao n' cap, v' = .slice ao n' cap := by
    rcases hown'.2 with ⟨hv, _⟩ | ⟨g, cap, cur, hv, _⟩
    · exact ⟨_, _, _, hv⟩
    · exact ⟨_, _, _, hv⟩
  clear hown' hgrow hown hbk hb2 hne c1 hlt
  go_wp2_with fail
  refine bodyPost_ret (v := .tuple #[.int .i64 (m.length : Int), .nilIface]) ?_ rfl ⟨rfl, HR.out, HBB.out, HKK.out⟩
  simp [results, Tryd.results61, go_sem]
set_option maxRecDepth 100000 in
set_option maxHeartbeats 16000000 in
theorem impl_putNums (B b g N cap : Nat) (T : Nat → Int) (t : TypeId) (hg : g ≠ b) (ht : t ≠ 5) (cs : Array Value) (hcs : ∀ j, j < N → cs[j]? = some (.int .i64 (T j))) (hN : N ≤ 1000) (hT : ∀ j, j < N → -9223372036854775808 ≤ T j ∧ T j ≤ 9223372036854775807) (l : List UInt8) (hl : l.length ≤ 900000) (w : World) (hBw : B ≤ w.heap.size) (hb : w.heap[g]? = some (.cells cs t (0, 0))) (h : Bld B b l w) :
    Calls Tryd.prog 50 #[.pointer (some ⟨b, 0, none⟩), .slice (some ⟨g, 0, none⟩) N cap] w fun e w' => e = .returned (.tuple #[]) ∧ WrOut B b (l ++ catN T N) w w' := by
  have HG : Hid (w.heap[g]? = some (.cells cs t (0, 0))) := hb
  have HC : Hid (∀ j, j < N → cs[j]? = some (.int .i64 (T j))) := hcs
  have HT : Hid (∀ j, j < N → -9223372036854775808 ≤ T j ∧ T j ≤ 9223372036854775807) := hT
  have HB0 : Hid (WrOut B b (l ++ catN T 0) w w) := ⟨by rw [catN, List.append_nil]; exact h, Below.refl _ _, Kept5.refl _ _⟩
  clear hb hcs hT h
  go_enter Tryd.func50, Tryd.ntmps50
  go_wp2_with fail
  go_loopw [8] (fun i wr => ∃ k : Nat, i = .int .i64 (k : Int) ∧ k ≤ N ∧ Hid (WrOut B b (l ++ catN T k) w wr)) (fun i _ => N - (intOf i).toNat)
  case atStart => exact ⟨0, rfl, by omega, HB0⟩
  case round =>
    obtain ⟨k, rfl, hk, HW⟩ := hrel
    by_cases hkn : k < N
    · have q0 : decide (k < N) = true := by simpa using hkn
      have q1 : decide ((k : Int) < (N : Int)) = true := by simpa using hkn
      have hgb := HW.out.2.2 g cs t ht hg HG.out
      have c0 : wr.cell? ⟨g, k, none⟩ = some (.int .i64 (T k)) := (Lib.cell_of_heap hgb k).trans (HC.out k hkn)
      have hbd := HT.out k hkn
      have HP : Hid (∀ W, Calls Tryd.prog 62 #[.int .i64 (T k)] W fun e w' => e = .returned (.string ⟨(encN (T k)).toArray⟩) ∧ Below W.heap.size W w') := fun W => impl_put (T k) W hbd.1 hbd.2
      have HWR : Hid (∀ W, B ≤ W.heap.size → Bld B b (l ++ catN T k) W → Calls Tryd.prog 61 #[.pointer (some ⟨b, 0, none⟩), .string ⟨(encN (T k)).toArray⟩] W fun e w' => e = .returned (.tuple #[.int .i64 ((encN (T k)).length : Int), .nilIface]) ∧ WrOut B b (l ++ catN T k ++ encN (T k)) W w') := fun W h1 h2 => impl_write B b (l ++ catN T k) (encN (T k)) W (by have := catN_len T k; have := enc_len10 (T k); rw [List.length_append]; omega) h1 h2
      have HE : Hid (l ++ catN T (k + 1) = l ++ catN T k ++ encN (T k)) := by show _ = _; rw [catN, List.append_assoc]
      generalize T k = x at *
      generalize (⟨(encN x).toArray⟩ : ByteArray) = S at *
      clear hgb hbd
      go_wp2_with fail
      refine (HP.out _).mono ?_
      rintro e w1 ⟨rfl, hb1⟩
      have H1 : Hid (WrOut B b (l ++ catN T k) w w1) := ⟨HW.out.1.next hb1, HW.out.2.1.trans (hb1.mono (by have := HW.out.2.1.size; omega)), HW.out.2.2.trans (Kept5.below hb1)⟩
      clear hb1 HW
      go_wp2_with fail
      refine (HWR.out _ (by have := H1.out.2.1.size; omega) H1.out.1).mono ?_
      rintro e w2 ⟨rfl, ho, hb2, hk2⟩
      have H2 : Hid (WrOut B b (l ++ catN T (k + 1)) w w2) := ⟨by rw [HE.out]; exact ho, H1.out.2.1.trans hb2, H1.out.2.2.trans hk2⟩
      clear ho hb2 hk2 H1
      go_wp2_with fail
      go_roundw
      case rel => exact ⟨k + 1, by go_num, by omega, H2⟩
      case measure => simp [intOf]; omega
    · have q0 : decide (k < N) = false := by simpa using hkn
      have q1 : decide ((k : Int) < (N : Int)) = false := by simpa using hkn
      obtain rfl : N = k := by omega
      go_wp2_with fail
      go_end0
      exact ⟨rfl, HW.out⟩
end Go.Proofs.YtkhjmjlmbeealaaDoor
