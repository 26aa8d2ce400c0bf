/- A line opened in a right book: what the model's call does. -/
import Derived.Test.YtpabdapaegllnaaDoorBkQ2
import Derived.Test.YtpabdapaegllnaaDoorBkS
namespace Go.Proofs.YtpabdapaegllnaaDoor
open Go.RowKit Go.Lib
open Go.Proofs.YtpabdapaegllnaaDoor.Draw

/-- An append whose run is known, as a step of a region that draws. -/
theorem step_appl {ops : Array Oper} {o : Oper} {a : Act} {w : World} {K : Act → World → Prop} {Q : Exit → Act → World → Prop} {E : Prop} (hg : o.guard = none) (d x : Operand) (t : TypeId) (ho : o.op = .call { callee := .builtin .append, args := #[d, x], argTypes := #[t, t] })
    (v u : Value) (hd : a.eval d = v) (hx : a.eval x = u) {v' : Value} {w' : World} (hr : (Builtin.append_ #[t, t] o.type #[v, u]).run Tryd.prog w = .ok v' w') (hK : K (a.put o.dst v') w') :
    if Region.wanted o (yielded ops a.tmps) = true then Oper.wp Tryd.prog o a w K Q else E := by
  have hw : Region.wanted o (yielded ops a.tmps) = true := by simp [Region.wanted, hg]
  rw [if_pos hw]
  unfold Oper.wp
  simp [execOp, ho, resolve, invoke, builtin, hd, hx, hr, Result.andThen]
  exact hK
theorem LinesAt.less {w : World} {a : Option Addr} {n k : Nat} {L : Nat → Ln} (h : LinesAt w a n L) (hk : k ≤ n) : LinesAt w a k L := by
  rcases h with h | ⟨g, o, rfl, hg, hc⟩
  · exact Or.inl (by omega)
  · exact Or.inr ⟨g, o, rfl, hg, fun i hi => hc i (by omega)⟩
theorem take_lines (L : Nat → Ln) (k n : Nat) (hk : k ≤ n) : (linesC L n).take (k * 3) = linesC L k := by
  apply List.ext_getElem?
  intro j
  rw [List.getElem?_take]
  by_cases hj : j < k * 3
  · rw [if_pos hj, linesC_at _ _ _ (by omega), linesC_at _ _ _ hj]
  · rw [if_neg hj, List.getElem?_eq_none (by rw [linesC_len]; omega)]
theorem ones_drop (L : Nat → Ln) (n i : Nat) : ∀ u ∈ (linesC L n).drop i, u.oneCell' = true := fun u hu => ones_lines L n u (List.mem_of_mem_drop hu)
/-- A block of a book's two lists. -/
structure Ox (W : World) (X : Nat) (u v : Value) : Prop where
  c0 : W.cell? ⟨X, 0, none⟩ = some u
  c1 : W.cell? ⟨X, 1, none⟩ = some v
  fz : ∀ j, W.frozen? ⟨X, j, none⟩ = false
  lt : X < W.heap.size
theorem Ox.new (w : World) (u v : Value) (t : TypeId) : Ox (w.alloc (.cells #[u, v] t)) w.heap.size u v := ⟨by simp, by simp, fun j => fnew' rfl j, by simp⟩
theorem Ox.below {W W' : World} {X : Nat} {u v : Value} (h : Ox W X u v) (hb : Below W.heap.size W W') : Ox W' X u v := ⟨(hb.cell (p := ⟨X, 0, none⟩) h.lt).trans h.c0, (hb.cell (p := ⟨X, 1, none⟩) h.lt).trans h.c1, fun j => (hb.frozen (p := ⟨X, j, none⟩) h.lt).trans (h.fz j), Nat.lt_of_lt_of_le h.lt hb.size⟩
theorem Ox.grown {W W' : World} {X : Nat} {u v : Value} {row : Option Nat} (h : Ox W X u v) (hg : W.grownBy W' row) (hne : some X ≠ row) : Ox W' X u v := by
  have hb := hg.block X h.lt hne
  exact ⟨(World.cell?_of_block (a := ⟨X, 0, none⟩) hb).trans h.c0, (World.cell?_of_block (a := ⟨X, 1, none⟩) hb).trans h.c1, fun j => (World.frozen?_of_block (a := ⟨X, j, none⟩) hb).trans (h.fz j), Nat.lt_of_lt_of_le h.lt hg.size⟩
theorem Ox.set0 {W : World} {X : Nat} {u v : Value} (h : Ox W X u v) (z : Value) : Ox (W.setCell ⟨X, 0, none⟩ z) X z v := by
  have a0 := h.c0
  exact ⟨by simp [go_sem, a0], by rw [World.cell?_setCell_other _ _ _ _ (by simp)]; exact h.c1, fun j => by simp only [World.frozen?_setCell]; exact h.fz j, by simpa using h.lt⟩
set_option maxRecDepth 100000 in
set_option maxHeartbeats 16000000 in
theorem spec_open_no (g g' n m : Nat) (L : Nat → Ln) (I : Nat → Tx) (hn : n ≤ 60) (x y : ByteArray) (w : World) (h : LinesAt w (some ⟨g, 0, none⟩) n L) (cd : Int) (hc : ((∃ i, findB L x y n = some i) ∧ cd = 7) ∨ (findB L x y n = none ∧ 60 ≤ n ∧ cd = 16)) :
    Calls Tryd.prog 47 #[.agg #[.slice (some ⟨g, 0, none⟩) n n, .slice (some ⟨g', 0, none⟩) m m], .agg #[.string x, .string y]] w (BkOut w 0 0 L I 0 cd) := by
  have T0 := three_new w #[.slice (some ⟨g, 0, none⟩) n n, .slice (some ⟨g', 0, none⟩) m m] #[.string x, .string y] #[.slice none 0 0, .slice none 0 0, .int .i64 0, .int .i64 0] 26 38 31
  have HT0 : Hid (Three w (((w.alloc (.cells #[.slice (some ⟨g, 0, none⟩) n n, .slice (some ⟨g', 0, none⟩) m m] 26)).alloc (.cells #[.string x, .string y] 38)).alloc (.cells #[.slice none 0 0, .slice none 0 0, .int .i64 0, .int .i64 0] 31)) #[.slice (some ⟨g, 0, none⟩) n n, .slice (some ⟨g', 0, none⟩) m m] #[.string x, .string y] #[.slice none 0 0, .slice none 0 0, .int .i64 0, .int .i64 0]) := T0
  have s2 : w.heap.size ≤ w.heap.size + 1 + 1 := by omega
  have HFI := spec_find (some ⟨g, 0, none⟩) n n (.slice (some ⟨g', 0, none⟩) m m) L (by omega) x y (((w.alloc (.cells #[.slice (some ⟨g, 0, none⟩) n n, .slice (some ⟨g', 0, none⟩) m m] 26)).alloc (.cells #[.string x, .string y] 38)).alloc (.cells #[.slice none 0 0, .slice none 0 0, .int .i64 0, .int .i64 0] 31)) (h.below T0.bel)
  rcases hc with ⟨⟨i, hi⟩, rfl⟩ | ⟨hf, h60, rfl⟩
  · have hI : findI L x y n = (i : Int) := by unfold findI; rw [hi]
    rw [hI] at HFI
    have HFI : Hid (Calls Tryd.prog 75 _ _ _) := HFI
    have q0 : decide ((0 : Int) ≤ (i : Int)) = true := by simp
    clear hi hI h T0
    go_enter Tryd.func47, Tryd.ntmps47
    go_wp2_with fail
    refine HFI.out.mono ?_
    rintro e w1 ⟨rfl, hb⟩
    have HT1 : Hid (Three w w1 #[.slice (some ⟨g, 0, none⟩) n n, .slice (some ⟨g', 0, none⟩) m m] #[.string x, .string y] #[.slice none 0 0, .slice none 0 0, .int .i64 0, .int .i64 0]) := HT0.out.next hb
    clear hb HT0 HFI
    have o0 := HT1.out.out 0
    have o1 := HT1.out.out 1
    have o2 := HT1.out.out 2
    have o3 := HT1.out.out 3
    have of := HT1.out.ofr
    simp at o0 o1 o2 o3
    have HB9 : Hid (Below w.heap.size w _) := HT1.out.bel
    go_wp2_with fail
    refine bodyPost_ret (v := .agg #[.slice none 0 0, .slice none 0 0, .int .i64 0, .int .i64 7]) ?_ rfl ?_
    · simp [results, Tryd.results47, go_sem, o0, o1, o2, o3]
    · exact BkOut.err ((((HB9.out.setCell s2 _).setCell s2 _).setCell s2 _).setCell s2 _)
  · have hI : findI L x y n = -1 := by unfold findI; rw [hf]
    rw [hI] at HFI
    have HFI : Hid (Calls Tryd.prog 75 _ _ _) := HFI
    have q0 : decide ((0 : Int) ≤ -1) = false := rfl
    have q1 : decide (60 ≤ n) = true := by simpa using h60
    have q2 : decide ((60 : Int) ≤ (n : Int)) = true := by simp; omega
    clear hf hI h T0
    go_enter Tryd.func47, Tryd.ntmps47
    go_wp2_with fail
    refine HFI.out.mono ?_
    rintro e w1 ⟨rfl, hb⟩
    have HT1 : Hid (Three w w1 #[.slice (some ⟨g, 0, none⟩) n n, .slice (some ⟨g', 0, none⟩) m m] #[.string x, .string y] #[.slice none 0 0, .slice none 0 0, .int .i64 0, .int .i64 0]) := HT0.out.next hb
    have b0 := HT1.out.box 0
    simp at b0
    clear hb HT0 HFI
    have o0 := HT1.out.out 0
    have o1 := HT1.out.out 1
    have o2 := HT1.out.out 2
    have o3 := HT1.out.out 3
    have of := HT1.out.ofr
    simp at o0 o1 o2 o3
    have HB9 : Hid (Below w.heap.size w _) := HT1.out.bel
    go_wp2_with fail
    refine bodyPost_ret (v := .agg #[.slice none 0 0, .slice none 0 0, .int .i64 0, .int .i64 16]) ?_ rfl ?_
    · simp [results, Tryd.results47, go_sem, o0, o1, o2, o3]
    · exact BkOut.err ((((HB9.out.setCell s2 _).setCell s2 _).setCell s2 _).setCell s2 _)
end Go.Proofs.YtpabdapaegllnaaDoor
