/- Trees of nodes: what is right, and what the model's calls do. -/
import Derived.Test.YtnefcldjigndgaaDoorNrQ1
import Derived.Test.YtnefcldjigndgaaDoorNrQ2
import Derived.Test.YtnefcldjigndgaaDoorNrQ3
import Derived.Test.YtnefcldjigndgaaDoorNrQ4
namespace Go.Proofs.YtnefcldjigndgaaDoor
open Go.RowKit Go.Maps
open Go.Proofs.YtnefcldjigndgaaDoor.Draw

def shB (x : Nd) : Bool := !((shp x.k).p == 0) && nodeB x
def isB (k q : Int) : Bool := if q = 1 then decide (k < 20) else if q = 2 then ((decide (20 ≤ k) && decide (k < 27)) || (k == 27)) else (k == 27)
def sortB (k i : Int) : Int := if k = 27 then 2 else if 0 < i ∧ (k = 22 ∨ k = 26) then 3 else 1
def okB (x : Nd) (q : Int) : Bool := standB (shp x.k).p q && nodeB x
/-- A kind is one of the table's, or none. -/
theorem kinds (k : Int) : k = 1 ∨ k = 2 ∨ k = 3 ∨ k = 4 ∨ k = 5 ∨ k = 6 ∨ k = 7 ∨ k = 8 ∨ k = 9 ∨ k = 10 ∨ k = 11 ∨ k = 12 ∨ k = 13 ∨ k = 14 ∨ k = 20 ∨ k = 21 ∨ k = 22 ∨ k = 23 ∨ k = 24 ∨ k = 25 ∨ k = 26 ∨ k = 27 ∨ (¬ k = 1 ∧ ¬ k = 2 ∧ ¬ k = 3 ∧ ¬ k = 4 ∧ ¬ k = 5 ∧ ¬ k = 6 ∧ ¬ k = 7 ∧ ¬ k = 8 ∧ ¬ k = 9 ∧ ¬ k = 10 ∧ ¬ k = 11 ∧ ¬ k = 12 ∧ ¬ k = 13 ∧ ¬ k = 14 ∧ ¬ k = 20 ∧ ¬ k = 21 ∧ ¬ k = 22 ∧ ¬ k = 23 ∧ ¬ k = 24 ∧ ¬ k = 25 ∧ ¬ k = 26 ∧ ¬ k = 27) := by omega
theorem ok_shape {x : Nd} {q : Int} (hq : q = 1 ∨ q = 2 ∨ q = 3) : okB x q = (shB x && isB x.k q) := by
  obtain ⟨k, t, m, n, y⟩ := x
  show (standB (shp k).p q && nodeB ⟨k, t, m, n, y⟩) = ((!((shp k).p == 0) && nodeB ⟨k, t, m, n, y⟩) && isB k q)
  generalize nodeB ⟨k, t, m, n, y⟩ = N
  rcases kinds k with rfl | rfl | rfl | rfl | rfl | rfl | rfl | rfl | rfl | rfl | rfl | rfl | rfl | rfl | rfl | rfl | rfl | rfl | rfl | rfl | rfl | rfl | hk
  all_goals first
    | (rcases hq with rfl | rfl | rfl <;> cases N <;> rfl)
    | (obtain ⟨h1, h2, h3, h4, h5, h6, h7, h8, h9, h10, h11, h12, h13, h14, h20, h21, h22, h23, h24, h25, h26, h27⟩ := hk
       rw [shp_none h1 h2 h3 h4 h5 h6 h7 h8 h9 h10 h11 h12 h13 h14 h20 h21 h22 h23 h24 h25 h26 h27]
       rcases hq with rfl | rfl | rfl <;> cases N <;> rfl)
theorem ok_many {x : Nd} {q : Int} (h : okB x q = true) : 0 ≤ x.y ∧ x.y ≤ 40 ∧ (∀ i : Int, 0 ≤ i → i < x.y → sortB x.k i = if i = 0 then (shp x.k).f else (shp x.k).o) ∧ ((shp x.k).f = 0 ∨ (shp x.k).f = 1 ∨ (shp x.k).f = 2) ∧ (0 < x.y → (shp x.k).f = 1 ∨ (shp x.k).f = 2) ∧ (1 < x.y → (shp x.k).o = 1 ∨ (shp x.k).o = 2 ∨ (shp x.k).o = 3) := by
  obtain ⟨k, t, m, n, y⟩ := x
  have h' : (standB (shp k).p q && bodyB (shp k) ⟨k, t, m, n, y⟩) = true := h
  rw [Bool.and_eq_true] at h'
  obtain ⟨h1, h2⟩ := h'
  unfold bodyB at h2
  simp only [Bool.and_eq_true, decide_eq_true_eq] at h2
  obtain ⟨_, _, h3, h4, _⟩ := h2
  show 0 ≤ y ∧ y ≤ 40 ∧ (∀ i : Int, 0 ≤ i → i < y → sortB k i = if i = 0 then (shp k).f else (shp k).o) ∧ ((shp k).f = 0 ∨ (shp k).f = 1 ∨ (shp k).f = 2) ∧ (0 < y → (shp k).f = 1 ∨ (shp k).f = 2) ∧ (1 < y → (shp k).o = 1 ∨ (shp k).o = 2 ∨ (shp k).o = 3)
  have h3 : (shp k).few ≤ y := h3
  have h4 : y ≤ (shp k).most := h4
  clear h h1
  rcases kinds k with rfl | rfl | rfl | rfl | rfl | rfl | rfl | rfl | rfl | rfl | rfl | rfl | rfl | rfl | rfl | rfl | rfl | rfl | rfl | rfl | rfl | rfl | hk
  · have h3 : (0 : Int) ≤ y := h3
    have h4 : y ≤ (0 : Int) := h4
    refine ⟨by omega, by omega, fun i i0 i1 => ?_, Or.inl rfl, fun _ => by omega, fun _ => by omega⟩
    show sortB 1 i = if i = 0 then (0 : Int) else (0 : Int)
    unfold sortB
    split <;> split <;> (try split) <;> omega
  · have h3 : (0 : Int) ≤ y := h3
    have h4 : y ≤ (0 : Int) := h4
    refine ⟨by omega, by omega, fun i i0 i1 => ?_, Or.inl rfl, fun _ => by omega, fun _ => by omega⟩
    show sortB 2 i = if i = 0 then (0 : Int) else (0 : Int)
    unfold sortB
    split <;> split <;> (try split) <;> omega
  · have h3 : (0 : Int) ≤ y := h3
    have h4 : y ≤ (0 : Int) := h4
    refine ⟨by omega, by omega, fun i i0 i1 => ?_, Or.inl rfl, fun _ => by omega, fun _ => by omega⟩
    show sortB 3 i = if i = 0 then (0 : Int) else (0 : Int)
    unfold sortB
    split <;> split <;> (try split) <;> omega
  · have h3 : (0 : Int) ≤ y := h3
    have h4 : y ≤ (0 : Int) := h4
    refine ⟨by omega, by omega, fun i i0 i1 => ?_, Or.inl rfl, fun _ => by omega, fun _ => by omega⟩
    show sortB 4 i = if i = 0 then (0 : Int) else (0 : Int)
    unfold sortB
    split <;> split <;> (try split) <;> omega
  · have h3 : (0 : Int) ≤ y := h3
    have h4 : y ≤ (0 : Int) := h4
    refine ⟨by omega, by omega, fun i i0 i1 => ?_, Or.inl rfl, fun _ => by omega, fun _ => by omega⟩
    show sortB 5 i = if i = 0 then (0 : Int) else (0 : Int)
    unfold sortB
    split <;> split <;> (try split) <;> omega
  · have h3 : (0 : Int) ≤ y := h3
    have h4 : y ≤ (0 : Int) := h4
    refine ⟨by omega, by omega, fun i i0 i1 => ?_, Or.inl rfl, fun _ => by omega, fun _ => by omega⟩
    show sortB 6 i = if i = 0 then (0 : Int) else (0 : Int)
    unfold sortB
    split <;> split <;> (try split) <;> omega
  · have h3 : (0 : Int) ≤ y := h3
    have h4 : y ≤ (0 : Int) := h4
    refine ⟨by omega, by omega, fun i i0 i1 => ?_, Or.inl rfl, fun _ => by omega, fun _ => by omega⟩
    show sortB 7 i = if i = 0 then (0 : Int) else (0 : Int)
    unfold sortB
    split <;> split <;> (try split) <;> omega
  · have h3 : (0 : Int) ≤ y := h3
    have h4 : y ≤ (0 : Int) := h4
    refine ⟨by omega, by omega, fun i i0 i1 => ?_, Or.inl rfl, fun _ => by omega, fun _ => by omega⟩
    show sortB 8 i = if i = 0 then (0 : Int) else (0 : Int)
    unfold sortB
    split <;> split <;> (try split) <;> omega
  · have h3 : (0 : Int) ≤ y := h3
    have h4 : y ≤ (0 : Int) := h4
    refine ⟨by omega, by omega, fun i i0 i1 => ?_, Or.inl rfl, fun _ => by omega, fun _ => by omega⟩
    show sortB 9 i = if i = 0 then (0 : Int) else (0 : Int)
    unfold sortB
    split <;> split <;> (try split) <;> omega
  · have h3 : (0 : Int) ≤ y := h3
    have h4 : y ≤ (0 : Int) := h4
    refine ⟨by omega, by omega, fun i i0 i1 => ?_, Or.inl rfl, fun _ => by omega, fun _ => by omega⟩
    show sortB 10 i = if i = 0 then (0 : Int) else (0 : Int)
    unfold sortB
    split <;> split <;> (try split) <;> omega
  · have h3 : (0 : Int) ≤ y := h3
    have h4 : y ≤ (0 : Int) := h4
    refine ⟨by omega, by omega, fun i i0 i1 => ?_, Or.inl rfl, fun _ => by omega, fun _ => by omega⟩
    show sortB 11 i = if i = 0 then (0 : Int) else (0 : Int)
    unfold sortB
    split <;> split <;> (try split) <;> omega
  · have h3 : (2 : Int) ≤ y := h3
    have h4 : y ≤ (2 : Int) := h4
    refine ⟨by omega, by omega, fun i i0 i1 => ?_, Or.inr (Or.inl rfl), fun _ => Or.inl rfl, fun _ => Or.inl rfl⟩
    show sortB 12 i = if i = 0 then (1 : Int) else (1 : Int)
    unfold sortB
    split <;> split <;> (try split) <;> omega
  · have h3 : (1 : Int) ≤ y := h3
    have h4 : y ≤ (1 : Int) := h4
    refine ⟨by omega, by omega, fun i i0 i1 => ?_, Or.inr (Or.inl rfl), fun _ => Or.inl rfl, fun _ => by omega⟩
    show sortB 13 i = if i = 0 then (1 : Int) else (0 : Int)
    unfold sortB
    split <;> split <;> (try split) <;> omega
  · have h3 : (1 : Int) ≤ y := h3
    have h4 : y ≤ (4 : Int) := h4
    refine ⟨by omega, by omega, fun i i0 i1 => ?_, Or.inr (Or.inl rfl), fun _ => Or.inl rfl, fun _ => Or.inl rfl⟩
    show sortB 14 i = if i = 0 then (1 : Int) else (1 : Int)
    unfold sortB
    split <;> split <;> (try split) <;> omega
  · have h3 : (1 : Int) ≤ y := h3
    have h4 : y ≤ (1 : Int) := h4
    refine ⟨by omega, by omega, fun i i0 i1 => ?_, Or.inr (Or.inl rfl), fun _ => Or.inl rfl, fun _ => by omega⟩
    show sortB 20 i = if i = 0 then (1 : Int) else (0 : Int)
    unfold sortB
    split <;> split <;> (try split) <;> omega
  · have h3 : (1 : Int) ≤ y := h3
    have h4 : y ≤ (1 : Int) := h4
    refine ⟨by omega, by omega, fun i i0 i1 => ?_, Or.inr (Or.inl rfl), fun _ => Or.inl rfl, fun _ => by omega⟩
    show sortB 21 i = if i = 0 then (1 : Int) else (0 : Int)
    unfold sortB
    split <;> split <;> (try split) <;> omega
  · have h3 : (3 : Int) ≤ y := h3
    have h4 : y ≤ (3 : Int) := h4
    refine ⟨by omega, by omega, fun i i0 i1 => ?_, Or.inr (Or.inl rfl), fun _ => Or.inl rfl, fun _ => Or.inr (Or.inr rfl)⟩
    show sortB 22 i = if i = 0 then (1 : Int) else (3 : Int)
    unfold sortB
    split <;> split <;> (try split) <;> omega
  · have h3 : (1 : Int) ≤ y := h3
    have h4 : y ≤ (1 : Int) := h4
    refine ⟨by omega, by omega, fun i i0 i1 => ?_, Or.inr (Or.inl rfl), fun _ => Or.inl rfl, fun _ => by omega⟩
    show sortB 23 i = if i = 0 then (1 : Int) else (0 : Int)
    unfold sortB
    split <;> split <;> (try split) <;> omega
  · have h3 : (0 : Int) ≤ y := h3
    have h4 : y ≤ (0 : Int) := h4
    refine ⟨by omega, by omega, fun i i0 i1 => ?_, Or.inl rfl, fun _ => by omega, fun _ => by omega⟩
    show sortB 24 i = if i = 0 then (0 : Int) else (0 : Int)
    unfold sortB
    split <;> split <;> (try split) <;> omega
  · have h3 : (1 : Int) ≤ y := h3
    have h4 : y ≤ (1 : Int) := h4
    refine ⟨by omega, by omega, fun i i0 i1 => ?_, Or.inr (Or.inl rfl), fun _ => Or.inl rfl, fun _ => by omega⟩
    show sortB 25 i = if i = 0 then (1 : Int) else (0 : Int)
    unfold sortB
    split <;> split <;> (try split) <;> omega
  · have h3 : (2 : Int) ≤ y := h3
    have h4 : y ≤ (2 : Int) := h4
    refine ⟨by omega, by omega, fun i i0 i1 => ?_, Or.inr (Or.inl rfl), fun _ => Or.inl rfl, fun _ => Or.inr (Or.inr rfl)⟩
    show sortB 26 i = if i = 0 then (1 : Int) else (3 : Int)
    unfold sortB
    split <;> split <;> (try split) <;> omega
  · have h3 : (0 : Int) ≤ y := h3
    have h4 : y ≤ (40 : Int) := h4
    refine ⟨by omega, by omega, fun i i0 i1 => ?_, Or.inr (Or.inr rfl), fun _ => Or.inr rfl, fun _ => Or.inr (Or.inl rfl)⟩
    show sortB 27 i = if i = 0 then (2 : Int) else (2 : Int)
    unfold sortB
    split <;> split <;> (try split) <;> omega
  · obtain ⟨h1x, h2x, h3x, h4x, h5x, h6x, h7x, h8x, h9x, h10x, h11x, h12x, h13x, h14x, h20x, h21x, h22x, h23x, h24x, h25x, h26x, h27x⟩ := hk
    rw [shp_none h1x h2x h3x h4x h5x h6x h7x h8x h9x h10x h11x h12x h13x h14x h20x h21x h22x h23x h24x h25x h26x h27x] at h3 h4 ⊢
    have h3 : (0 : Int) ≤ y := h3
    have h4 : y ≤ (0 : Int) := h4
    exact ⟨by omega, by omega, fun i i0 i1 => by omega, Or.inl rfl, fun _ => by omega, fun _ => by omega⟩
/-- So many trees, one behind the other. -/
def kidsT (f : Nat → Int → Option Nat) (s2 : Int) : Nat → Int → Nat → Option Nat
  | 0, _, a => some a
  | m + 1, c, a => match f a c with
    | none => none
    | some b => kidsT f s2 m s2 b
/-- The place behind the tree at a place, at most so many levels deep. -/
def treeT (L : Nat → Nd) (n : Nat) : Nat → Nat → Int → Option Nat
  | 0, _, _ => none
  | d + 1, a, q => if a < n ∧ okB (L a) q = true then kidsT (treeT L n d) (shp (L a).k).o (L a).y.toNat (shp (L a).k).f (a + 1) else none
theorem kidsT_le {n : Nat} {f : Nat → Int → Option Nat} {s2 : Int} (hf : ∀ a c b, f a c = some b → b ≤ n) : ∀ m c a b, a ≤ n → kidsT f s2 m c a = some b → b ≤ n
  | 0, c, a, b, ha, h => by simp [kidsT] at h; omega
  | m + 1, c, a, b, ha, h => by
    rw [kidsT] at h
    cases hh : f a c with
    | none => rw [hh] at h; simp at h
    | some b' => rw [hh] at h; exact kidsT_le hf m s2 b' b (hf _ _ _ hh) h
theorem treeT_le (L : Nat → Nd) (n : Nat) : ∀ d a q b, treeT L n d a q = some b → b ≤ n
  | 0, a, q, b, h => by simp [treeT] at h
  | d + 1, a, q, b, h => by
    rw [treeT] at h
    split at h
    · rename_i hh
      exact kidsT_le (fun a c b h => treeT_le L n d a c b h) _ _ _ _ (by omega) h
    · simp at h
def outV (r : Option Nat) : Int := match r with
  | none => -1
  | some b => (b : Int)
set_option maxRecDepth 100000 in
set_option maxHeartbeats 8000000 in
theorem spec_shape (x : Nd) (hf : x.fits) (w : World) :
    Calls Tryd.prog 48 #[.agg #[.int .i64 x.k, .string x.t, .string x.m, .int .i64 x.n, .int .i64 x.y]] w fun e w' => e = .returned (.bool (shB x)) ∧ Below w.heap.size w w' := by
  obtain ⟨k, t, m, n, y⟩ := x
  obtain ⟨h1, h2⟩ := hf
  show Calls Tryd.prog 48 #[.agg #[.int .i64 k, .string t, .string m, .int .i64 n, .int .i64 y]] w fun e w' => e = .returned (.bool (!((shp k).p == 0) && nodeB ⟨k, t, m, n, y⟩)) ∧ Below w.heap.size w w'
  rcases kinds k with rfl | rfl | rfl | rfl | rfl | rfl | rfl | rfl | rfl | rfl | rfl | rfl | rfl | rfl | rfl | rfl | rfl | rfl | rfl | rfl | rfl | rfl | hk
  · exact (shape_1 t m n y h1 h2 w).mono fun e w' h => ⟨by rw [h.1]; rfl, h.2⟩
  · exact (shape_2 t m n y h1 h2 w).mono fun e w' h => ⟨by rw [h.1]; rfl, h.2⟩
  · exact (shape_3 t m n y h1 h2 w).mono fun e w' h => ⟨by rw [h.1]; rfl, h.2⟩
  · exact (shape_4 t m n y h1 h2 w).mono fun e w' h => ⟨by rw [h.1]; rfl, h.2⟩
  · exact (shape_5 t m n y h1 h2 w).mono fun e w' h => ⟨by rw [h.1]; rfl, h.2⟩
  · exact (shape_6 t m n y h1 h2 w).mono fun e w' h => ⟨by rw [h.1]; rfl, h.2⟩
  · exact (shape_7 t m n y h1 h2 w).mono fun e w' h => ⟨by rw [h.1]; rfl, h.2⟩
  · exact (shape_8 t m n y h1 h2 w).mono fun e w' h => ⟨by rw [h.1]; rfl, h.2⟩
  · exact (shape_9 t m n y h1 h2 w).mono fun e w' h => ⟨by rw [h.1]; rfl, h.2⟩
  · exact (shape_10 t m n y h1 h2 w).mono fun e w' h => ⟨by rw [h.1]; rfl, h.2⟩
  · exact (shape_11 t m n y h1 h2 w).mono fun e w' h => ⟨by rw [h.1]; rfl, h.2⟩
  · exact (shape_12 t m n y h1 h2 w).mono fun e w' h => ⟨by rw [h.1]; rfl, h.2⟩
  · exact (shape_13 t m n y h1 h2 w).mono fun e w' h => ⟨by rw [h.1]; rfl, h.2⟩
  · exact (shape_14 t m n y h1 h2 w).mono fun e w' h => ⟨by rw [h.1]; rfl, h.2⟩
  · exact (shape_20 t m n y h1 h2 w).mono fun e w' h => ⟨by rw [h.1]; rfl, h.2⟩
  · exact (shape_21 t m n y h1 h2 w).mono fun e w' h => ⟨by rw [h.1]; rfl, h.2⟩
  · exact (shape_22 t m n y h1 h2 w).mono fun e w' h => ⟨by rw [h.1]; rfl, h.2⟩
  · exact (shape_23 t m n y h1 h2 w).mono fun e w' h => ⟨by rw [h.1]; rfl, h.2⟩
  · exact (shape_24 t m n y h1 h2 w).mono fun e w' h => ⟨by rw [h.1]; rfl, h.2⟩
  · exact (shape_25 t m n y h1 h2 w).mono fun e w' h => ⟨by rw [h.1]; rfl, h.2⟩
  · exact (shape_26 t m n y h1 h2 w).mono fun e w' h => ⟨by rw [h.1]; rfl, h.2⟩
  · exact (shape_27 t m n y h1 h2 w).mono fun e w' h => ⟨by rw [h.1]; rfl, h.2⟩
  obtain ⟨h1x, h2x, h3x, h4x, h5x, h6x, h7x, h8x, h9x, h10x, h11x, h12x, h13x, h14x, h20x, h21x, h22x, h23x, h24x, h25x, h26x, h27x⟩ := hk
  have hz : (!((shp k).p == 0) && nodeB ⟨k, t, m, n, y⟩) = false := by rw [shp_none h1x h2x h3x h4x h5x h6x h7x h8x h9x h10x h11x h12x h13x h14x h20x h21x h22x h23x h24x h25x h26x h27x]; rfl
  rw [hz]
  have t1 : (k == 1) = false := beq_eq_false_iff_ne.2 h1x
  have t2 : (k == 2) = false := beq_eq_false_iff_ne.2 h2x
  have t3 : (k == 3) = false := beq_eq_false_iff_ne.2 h3x
  have t4 : (k == 4) = false := beq_eq_false_iff_ne.2 h4x
  have t5 : (k == 5) = false := beq_eq_false_iff_ne.2 h5x
  have t6 : (k == 6) = false := beq_eq_false_iff_ne.2 h6x
  have t7 : (k == 7) = false := beq_eq_false_iff_ne.2 h7x
  have t8 : (k == 8) = false := beq_eq_false_iff_ne.2 h8x
  have t9 : (k == 9) = false := beq_eq_false_iff_ne.2 h9x
  have t10 : (k == 10) = false := beq_eq_false_iff_ne.2 h10x
  have t11 : (k == 11) = false := beq_eq_false_iff_ne.2 h11x
  have t12 : (k == 12) = false := beq_eq_false_iff_ne.2 h12x
  have t13 : (k == 13) = false := beq_eq_false_iff_ne.2 h13x
  have t14 : (k == 14) = false := beq_eq_false_iff_ne.2 h14x
  have t20 : (k == 20) = false := beq_eq_false_iff_ne.2 h20x
  have t21 : (k == 21) = false := beq_eq_false_iff_ne.2 h21x
  have t22 : (k == 22) = false := beq_eq_false_iff_ne.2 h22x
  have t23 : (k == 23) = false := beq_eq_false_iff_ne.2 h23x
  have t24 : (k == 24) = false := beq_eq_false_iff_ne.2 h24x
  have t25 : (k == 25) = false := beq_eq_false_iff_ne.2 h25x
  have t26 : (k == 26) = false := beq_eq_false_iff_ne.2 h26x
  have t27 : (k == 27) = false := beq_eq_false_iff_ne.2 h27x
  have t23' : (k != 23) = true := by rw [bne_iff_ne]; exact h23x
  have HB0 : Hid (Below w.heap.size w (w.alloc (.cells #[.int .i64 k, .string t, .string m, .int .i64 n, .int .i64 y] 60))) := (Below.refl _ _).alloc (Nat.le_refl _) _
  clear hz h1 h2 h1x h2x h3x h4x h5x h6x h7x h8x h9x h10x h11x h12x h13x h14x h20x h21x h22x h23x h24x h25x h26x h27x
  cases hm : m.toList.isEmpty
  · go_enter Tryd.func48, Tryd.ntmps48
    go_wp2_with fail
    go_ret
    exact ⟨rfl, HB0.out⟩
  · go_enter Tryd.func48, Tryd.ntmps48
    go_wp2_with fail
    go_ret
    exact ⟨rfl, HB0.out⟩
set_option maxRecDepth 100000 in
set_option maxHeartbeats 8000000 in
theorem spec_is (k q : Int) (hq : q = 1 ∨ q = 2 ∨ q = 3) (w : World) :
    Calls Tryd.prog 49 #[.int .i64 k, .int .i64 q] w fun e w' => e = .returned (.bool (isB k q)) ∧ w' = w := by
  rcases hq with rfl | rfl | rfl
  · have HF : Hid (isB k 1 = decide (k < 20)) := rfl
    go_enter Tryd.func49, Tryd.ntmps49
    go_wp2_with fail
    go_ret
    exact ⟨ret_bool HF.out.symm, rfl⟩
  · have HF : Hid (isB k 2 = ((decide (20 ≤ k) && decide (k < 27)) || (k == 27))) := rfl
    by_cases c1 : 20 ≤ k
    · have q1 : decide (20 ≤ k) = true := by simpa using c1
      by_cases c2 : k < 27
      · have q2 : decide (k < 27) = true := by simpa using c2
        have hG : isB k 2 = true := by rw [HF.out, q1, q2]; rfl
        have HG : Hid (isB k 2 = true) := hG
        clear HF hG c1 c2
        go_enter Tryd.func49, Tryd.ntmps49
        go_wp2_with fail
        go_ret
        exact ⟨ret_bool HG.out.symm, rfl⟩
      · have q2 : decide (k < 27) = false := by simpa using c2
        have hG : isB k 2 = (k == 27) := by rw [HF.out, q1, q2]; rfl
        have HG : Hid (isB k 2 = (k == 27)) := hG
        clear HF hG c1 c2
        go_enter Tryd.func49, Tryd.ntmps49
        go_wp2_with fail
        go_ret
        exact ⟨ret_bool HG.out.symm, rfl⟩
    · have q1 : decide (20 ≤ k) = false := by simpa using c1
      have hG : isB k 2 = (k == 27) := by rw [HF.out, q1]; rfl
      have HG : Hid (isB k 2 = (k == 27)) := hG
      clear HF hG c1
      go_enter Tryd.func49, Tryd.ntmps49
      go_wp2_with fail
      go_ret
      exact ⟨ret_bool HG.out.symm, rfl⟩
  · have HF : Hid (isB k 3 = (k == 27)) := rfl
    go_enter Tryd.func49, Tryd.ntmps49
    go_wp2_with fail
    go_ret
    exact ⟨ret_bool HF.out.symm, rfl⟩
set_option maxRecDepth 100000 in
set_option maxHeartbeats 8000000 in
theorem spec_sort (k i : Int) (w : World) :
    Calls Tryd.prog 50 #[.int .i64 k, .int .i64 i] w fun e w' => e = .returned (.int .i64 (sortB k i)) ∧ w' = w := by
  by_cases c1 : k = 27
  · subst c1
    have HF : Hid (sortB 27 i = 2) := rfl
    go_enter Tryd.func50, Tryd.ntmps50
    go_wp2_with fail
    go_ret
    exact ⟨by rw [HF.out]; rfl, rfl⟩
  have q1 : (k == 27) = false := beq_eq_false_iff_ne.2 c1
  by_cases c2 : k = 22
  · subst c2
    by_cases c3 : 0 < i
    · have q3 : decide (0 < i) = true := by simpa using c3
      have hG : sortB 22 i = 3 := by unfold sortB; rw [if_neg (by omega), if_pos ⟨c3, Or.inl rfl⟩]
      have HG : Hid (sortB 22 i = 3) := hG
      clear hG c1 c3
      go_enter Tryd.func50, Tryd.ntmps50
      go_wp2_with fail
      go_ret
      exact ⟨by rw [HG.out]; rfl, rfl⟩
    · have q3 : decide (0 < i) = false := by simpa using c3
      have hG : sortB 22 i = 1 := by unfold sortB; rw [if_neg (by omega), if_neg (fun h => c3 h.1)]
      have HG : Hid (sortB 22 i = 1) := hG
      clear hG c1 c3
      go_enter Tryd.func50, Tryd.ntmps50
      go_wp2_with fail
      go_ret
      exact ⟨by rw [HG.out]; rfl, rfl⟩
  have q2 : (k == 22) = false := beq_eq_false_iff_ne.2 c2
  by_cases c4 : k = 26
  · subst c4
    by_cases c3 : 0 < i
    · have q3 : decide (0 < i) = true := by simpa using c3
      have hG : sortB 26 i = 3 := by unfold sortB; rw [if_neg (by omega), if_pos ⟨c3, Or.inr rfl⟩]
      have HG : Hid (sortB 26 i = 3) := hG
      clear hG c1 c2 c3
      go_enter Tryd.func50, Tryd.ntmps50
      go_wp2_with fail
      go_ret
      exact ⟨by rw [HG.out]; rfl, rfl⟩
    · have q3 : decide (0 < i) = false := by simpa using c3
      have hG : sortB 26 i = 1 := by unfold sortB; rw [if_neg (by omega), if_neg (fun h => c3 h.1)]
      have HG : Hid (sortB 26 i = 1) := hG
      clear hG c1 c2 c3
      go_enter Tryd.func50, Tryd.ntmps50
      go_wp2_with fail
      go_ret
      exact ⟨by rw [HG.out]; rfl, rfl⟩
  have q4 : (k == 26) = false := beq_eq_false_iff_ne.2 c4
  have hG : sortB k i = 1 := by unfold sortB; rw [if_neg c1, if_neg (fun h => by omega)]
  have HG : Hid (sortB k i = 1) := hG
  clear hG c1 c2 c4
  go_enter Tryd.func50, Tryd.ntmps50
  go_wp2_with fail
  go_ret
  exact ⟨by rw [HG.out]; rfl, rfl⟩
end Go.Proofs.YtnefcldjigndgaaDoor
