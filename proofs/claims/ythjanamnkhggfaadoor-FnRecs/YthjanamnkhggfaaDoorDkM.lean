/- Disks, without a program: what is right, what stands there. -/
import Derived.Test.YthjanamnkhggfaaDoorTxs
import Derived.Lib.SlBuf
import Derived.Lib.BufferWrite
import Derived.Lib.LazyBuf
namespace Go.Proofs.YthjanamnkhggfaaDoor
open Go.RowKit
open Go.Proofs.YthjanamnkhggfaaDoor.Draw

def lenT (I : Nat → Tx) : Nat → Nat
  | 0 => 0
  | k + 1 => lenT I k + (I k).t.size
def catT (I : Nat → Tx) : Nat → ByteArray
  | 0 => ⟨#[]⟩
  | k + 1 => catT I k ++ (I k).t
theorem catT_size (I : Nat → Tx) (k : Nat) : (catT I k).size = lenT I k := by
  induction k with
  | zero => rfl
  | succ k ih => rw [catT, lenT, ByteArray.size_append, ih]
theorem lenT_mono (I : Nat → Tx) {k m : Nat} (h : k ≤ m) : lenT I k ≤ lenT I m := by
  induction m with
  | zero => obtain rfl : k = 0 := by omega
            exact Nat.le_refl _
  | succ m ih =>
    by_cases e : k = m + 1
    · rw [e]; exact Nat.le_refl _
    · have := ih (by omega)
      rw [lenT]; omega
theorem lenT_one (I : Nat → Tx) {k m : Nat} (h : k < m) : lenT I k + (I k).t.size ≤ lenT I m := lenT_mono I (k := k + 1) h
theorem lenT_small (I : Nat → Tx) (m : Nat) (h : ∀ i, i < m → (I i).small) : lenT I m ≤ m * 1048576 := by
  induction m with
  | zero => exact Nat.le_refl _
  | succ m ih =>
    have h0 := ih (fun i hi => h i (by omega))
    have h1 : (I m).t.size ≤ 1048576 := h m (by omega)
    rw [lenT]; omega
def DiskOk (s : ByteArray) (m : Nat) (I : Nat → Tx) : Prop := m ≤ 100 ∧ (∀ i, i < m → (I i).t.size ≠ 0) ∧ s.size + lenT I m ≤ 20000
instance (s : ByteArray) (m : Nat) (I : Nat → Tx) : Decidable (DiskOk s m I) := by unfold DiskOk; exact inferInstance
def diskB (s : ByteArray) (m : Nat) (I : Nat → Tx) : Bool := decide (DiskOk s m I)
theorem diskB_iff (s : ByteArray) (m : Nat) (I : Nat → Tx) : diskB s m I = true ↔ DiskOk s m I := by unfold diskB; simp
theorem diskB_no {s : ByteArray} {m : Nat} {I : Nat → Tx} (h : ¬ DiskOk s m I) : diskB s m I = false := by unfold diskB; simp [h]
theorem diskB_end {s : ByteArray} {m : Nat} {I : Nat → Tx} (h1 : m ≤ 100) (h2 : ∀ i, i < m → (I i).t.size ≠ 0) : diskB s m I = decide (s.size + lenT I m ≤ 20000) := by
  unfold diskB
  by_cases h : s.size + lenT I m ≤ 20000
  · rw [decide_eq_true h]; exact decide_eq_true (show DiskOk s m I from ⟨h1, h2, h⟩)
  · rw [decide_eq_false h]; exact decide_eq_false (fun (e : DiskOk s m I) => h e.2.2)
/-- A text more behind them. -/
def snocT (I : Nat → Tx) (m : Nat) (t : ByteArray) (j : Nat) : Tx := if j = m then ⟨t⟩ else I j
theorem lenT_congr {I J : Nat → Tx} (m : Nat) (h : ∀ i, i < m → I i = J i) : lenT I m = lenT J m := by
  induction m with
  | zero => rfl
  | succ m ih => rw [lenT, lenT, ih (fun i hi => h i (by omega)), h m (by omega)]
theorem lenT_snoc (I : Nat → Tx) (m : Nat) (t : ByteArray) : lenT (snocT I m t) (m + 1) = lenT I m + t.size := by
  rw [lenT, lenT_congr (J := I) m (fun i hi => by unfold snocT; rw [if_neg (by omega)])]
  unfold snocT; simp
theorem snoc_ok {s : ByteArray} {m : Nat} {I : Nat → Tx} {t : ByteArray} (h : DiskOk s (m + 1) (snocT I m t)) : DiskOk s m I ∧ t.size ≠ 0 := by
  obtain ⟨h1, h2, h3⟩ := h
  rw [lenT_snoc] at h3
  refine ⟨⟨by omega, fun i hi => ?_, by omega⟩, ?_⟩
  · have := h2 i (by omega)
    unfold snocT at this; rwa [if_neg (by omega)] at this
  · have := h2 m (by omega)
    unfold snocT at this; simpa using this
/-- The bytes of a text. -/
theorem bytes_cat (a b : ByteArray) : (a ++ b).data.toList = a.data.toList ++ b.data.toList := by simp
theorem bytes_eq {a b : ByteArray} (h : a.data.toList = b.data.toList) : a = b := by
  obtain ⟨⟨l⟩⟩ := a; obtain ⟨⟨k⟩⟩ := b
  simp at h; rw [h]
/-- 'copy(b[at:], s)', s a text, at = how much is filled. -/
theorem copy_text (w0 wr : World) (h N : Nat) (acc : List UInt8) (s : ByteArray) (t u ty e : TypeId) (hu : Tryd.prog.underlying t = some (.slice e)) (hs : (Tryd.prog.info? e).map (·.size) = some 1) (hz : ∀ w, (Go.sizeOf e).run Tryd.prog w = .ok 1 w)
    (hb : Lib.Buf w0 wr h N acc) (hfit : acc.length + s.size ≤ N) :
    ∃ wr', (Builtin.copy_ #[t, u] ty #[Lib.tailV h N acc.length, .string s]).run Tryd.prog wr = .ok (.int .i64 (s.size : Int)) wr' ∧ Lib.Buf w0 wr' h N (acc ++ s.data.toList) := by
  have hsz : s.data.toList.length = s.size := by rw [← Lib.size_eq]
  by_cases hl : s.size = 0
  · have hnil : s.data.toList = [] := List.length_eq_zero_iff.1 (hsz.trans hl)
    refine ⟨wr, ?_, by rw [hnil, List.append_nil]; exact hb⟩
    rw [hl]
    exact Lib.run_copy_empty_string wr t u ty e _ _ _ s hu (by rw [hs]; rfl) hl
  · have hne : ¬ N = acc.length := by omega
    have hr := run_copy_string (P := Tryd.prog) wr t u ty e h acc.length (N - acc.length) (N - acc.length) s hu hz (by omega) (fun j hj => hb.there _ (by omega)) (fun j hj => hb.free _ (by omega))
    refine ⟨_, by unfold Lib.tailV; rw [if_neg hne]; exact hr, ?_⟩
    have hin := World.cell?_setCells_in h (s.data.toList.map fun x => Value.int .u8 (x.toNat : Int)) acc.length wr (fun j hj => by rw [List.length_map, hsz] at hj; exact hb.there _ (by omega))
    have hout := World.cell?_setCells_out h (s.data.toList.map fun x => Value.int .u8 (x.toNat : Int)) acc.length wr
    refine ⟨?_, ?_, ?_, ?_, by rw [List.length_append, hsz]; exact hfit⟩
    · exact Lib.below_setCells h (Nat.le_refl _) _ _ hb.below
    · intro j hj
      by_cases h1 : acc.length ≤ j ∧ j < acc.length + s.size
      · obtain ⟨d, rfl⟩ : ∃ d, j = acc.length + d := ⟨j - acc.length, by omega⟩
        rw [hin d (by rw [List.length_map, hsz]; omega)]
        rfl
      · rw [hout ⟨h, j, none⟩ (fun _ _ => by rw [List.length_map, hsz]; show j < _ ∨ _ ≤ j; omega)]
        exact hb.there j hj
    · intro j hj
      rw [World.frozen?_setCells]
      exact hb.free j hj
    · intro j x hx
      by_cases h1 : j < acc.length
      · rw [List.getElem?_append_left h1] at hx
        rw [hout ⟨h, j, none⟩ (fun _ _ => Or.inl h1)]
        exact hb.holds j x hx
      · rw [List.getElem?_append_right (by omega)] at hx
        obtain ⟨d, rfl⟩ : ∃ d, j = acc.length + d := ⟨j - acc.length, by omega⟩
        rw [Nat.add_sub_cancel_left] at hx
        have hd : d < s.data.toList.length := (List.getElem?_eq_some_iff.1 hx).1
        rw [hin d (by rw [List.length_map]; exact hd)]
        simp [List.getElem_map, (List.getElem?_eq_some_iff.1 hx).2]
end Go.Proofs.YthjanamnkhggfaaDoor
