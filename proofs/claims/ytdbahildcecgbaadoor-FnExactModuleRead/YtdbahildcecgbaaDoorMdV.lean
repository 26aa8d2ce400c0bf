/- Modules read: what the program's call answers. -/
import Derived.Test.YtdbahildcecgbaaDoorMdU
namespace Go.Proofs.YtdbahildcecgbaaDoor
open Go.RowKit
open Go.Proofs.YtdbahildcecgbaaDoor.Draw

/-- A refused state is the only one, however many numbers were asked for. -/
theorem RdSt.fail_one {s : ByteArray} {k k' : Nat} {p c p' c' : Int} (h : RdSt s k p c) (h' : RdSt s k' p' c') (hc : c ≠ 0) (hc' : c' ≠ 0) : p = p' ∧ c = c' := by
  rcases h with ⟨_, e, _⟩ | ⟨f, b1, b2, b3, b4, b5⟩
  · exact absurd e hc
  rcases h' with ⟨_, e, _⟩ | ⟨f', e1, e2, e3, e4, e5⟩
  · exact absurd e hc'
  obtain rfl : f = f' := by
    rcases Nat.lt_trichotomy f f' with h | h | h
    · exact absurd (e2 f h) b3
    · exact h
    · exact absurd (b2 f' h) e3
  exact ⟨b4.trans e4.symm, b5.trans e5.symm⟩
theorem RdSt.not_good {s : ByteArray} {k n : Nat} {p c : Int} (h : RdSt s k p c) (hc : c ≠ 0) (hk : k ≤ n) : ¬ ∀ i, i < n → cod s i = 0 := by
  rcases h with ⟨_, e, _⟩ | ⟨f, b1, b2, b3, b4, b5⟩
  · exact absurd e hc
  · exact fun h => b3 (h f (by omega))
theorem RdEnd.one {s : ByteArray} {m m' : Nat} {p c p' c' : Int} (h : RdEnd s m p c) (h' : RdEnd s m' p' c') : p = p' ∧ c = c' ∧ (c = 0 → m = m') := by
  rcases h with ⟨a1, a2, a3, a4, a5, a6⟩ | ⟨b1, b2, b3, b4⟩ | ⟨K, d1, d2, d3⟩ <;> rcases h' with ⟨a1', a2', a3', a4', a5', a6'⟩ | ⟨b1', b2', b3', b4'⟩ | ⟨K', d1', d2', d3'⟩
  · obtain rfl : m = m' := by omega
    have := a5.one a5'
    exact ⟨this.1, this.2, fun _ => rfl⟩
  · exact absurd ⟨by omega, by omega⟩ b2'
  · exfalso
    have hgd := a5.good.1 a6
    rcases d3' with rfl | ⟨_, _, _, h3⟩
    · exact d1'.not_good d2' (Nat.le_refl 5) a1
    · exact d1'.not_good d2' (by omega : K' ≤ 5 + 3 * m) hgd
  · exact absurd ⟨by omega, by omega⟩ b2
  · exact ⟨b3.trans b3'.symm, b4.trans b4'.symm, fun e => by omega⟩
  · exfalso
    rcases d3' with rfl | ⟨_, h1, h2, _⟩
    · exact d1'.not_good d2' (Nat.le_refl 5) b1
    · exact b2 ⟨h1, h2⟩
  · exfalso
    have hgd := a5'.good.1 a6'
    rcases d3 with rfl | ⟨_, _, _, h3⟩
    · exact d1.not_good d2 (Nat.le_refl 5) a1'
    · exact d1.not_good d2 (by omega : K ≤ 5 + 3 * m') hgd
  · exfalso
    rcases d3 with rfl | ⟨_, h1, h2, _⟩
    · exact d1.not_good d2 (Nat.le_refl 5) b1'
    · exact b2' ⟨h1, h2⟩
  · have := d1.fail_one d1' d2 d2'
    exact ⟨this.1, this.2, fun e => absurd e d2⟩
/-- What is read: the module's numbers, how many instructions, the place and the code. -/
def ResIs (s : ByteArray) (y0 y1 y2 y3 : Int) (m : Nat) (At Cd : Int) : Prop :=
  (20000 < s.size ∧ y0 = 0 ∧ y1 = 0 ∧ y2 = 0 ∧ y3 = 0 ∧ m = 0 ∧ At = 0 ∧ Cd = 2) ∨
  (s.size ≤ 20000 ∧ ∃ (k : Nat) (p c : Int), RdEnd s k p c ∧
    ((c ≠ 0 ∧ y0 = 0 ∧ y1 = 0 ∧ y2 = 0 ∧ y3 = 0 ∧ m = 0 ∧ At = p ∧ Cd = c) ∨
     (c = 0 ∧ p < s.size ∧ y0 = 0 ∧ y1 = 0 ∧ y2 = 0 ∧ y3 = 0 ∧ m = 0 ∧ At = p ∧ Cd = 3) ∨
     (c = 0 ∧ ¬ p < s.size ∧ ¬ ModP (vlu s 0) (vlu s 1) (vlu s 2) (vlu s 3) k (rowL s) ∧ y0 = 0 ∧ y1 = 0 ∧ y2 = 0 ∧ y3 = 0 ∧ m = 0 ∧ At = 0 ∧ Cd = 1) ∨
     (c = 0 ∧ ¬ p < s.size ∧ ModP (vlu s 0) (vlu s 1) (vlu s 2) (vlu s 3) k (rowL s) ∧ y0 = vlu s 0 ∧ y1 = vlu s 1 ∧ y2 = vlu s 2 ∧ y3 = vlu s 3 ∧ m = k ∧ At = 0 ∧ Cd = 0)))
/-- There is one outcome. -/
theorem ResIs.one {s : ByteArray} {y0 y1 y2 y3 x0 x1 x2 x3 : Int} {m m' : Nat} {At Cd At' Cd' : Int} (h : ResIs s y0 y1 y2 y3 m At Cd) (h' : ResIs s x0 x1 x2 x3 m' At' Cd') : y0 = x0 ∧ y1 = x1 ∧ y2 = x2 ∧ y3 = x3 ∧ m = m' ∧ At = At' ∧ Cd = Cd' := by
  rcases h with ⟨s1, rfl, rfl, rfl, rfl, rfl, rfl, rfl⟩ | ⟨s1, k, p, c, he, h⟩ <;> rcases h' with ⟨s2, rfl, rfl, rfl, rfl, rfl, rfl, rfl⟩ | ⟨s2, k', p', c', he', h'⟩
  · exact ⟨rfl, rfl, rfl, rfl, rfl, rfl, rfl⟩
  · omega
  · omega
  · obtain ⟨rfl, rfl, hk⟩ := he.one he'
    rcases h with ⟨c1, rfl, rfl, rfl, rfl, rfl, rfl, rfl⟩ | ⟨c1, p1, rfl, rfl, rfl, rfl, rfl, rfl, rfl⟩ | ⟨c1, p1, g1, rfl, rfl, rfl, rfl, rfl, rfl, rfl⟩ | ⟨c1, p1, g1, rfl, rfl, rfl, rfl, rfl, rfl, rfl⟩ <;> rcases h' with ⟨c2, rfl, rfl, rfl, rfl, rfl, rfl, rfl⟩ | ⟨c2, p2, rfl, rfl, rfl, rfl, rfl, rfl, rfl⟩ | ⟨c2, p2, g2, rfl, rfl, rfl, rfl, rfl, rfl, rfl⟩ | ⟨c2, p2, g2, rfl, rfl, rfl, rfl, rfl, rfl, rfl⟩
    all_goals first
      | exact ⟨rfl, rfl, rfl, rfl, rfl, rfl, rfl⟩
      | exact absurd c2 c1
      | exact absurd c1 c2
      | exact absurd p1 p2
      | exact absurd p2 p1
      | (obtain rfl := hk c1; first | exact absurd g1 g2 | exact absurd g2 g1 | exact ⟨rfl, rfl, rfl, rfl, rfl, rfl, rfl⟩)
def RdOut (s : ByteArray) (w : World) (e : Ending) (w' : World) : Prop := ∃ (y0 y1 y2 y3 : Int) (a : Option Addr) (m cap : Nat) (At Cd : Int), e = .returned (.agg #[.int .i64 y0, .int .i64 y1, .int .i64 y2, .int .i64 y3, .slice a m cap, .int .i64 At, .int .i64 Cd]) ∧ OwnR w' a m 3 (insF (rowL s)) ∧ (∀ k, a.map Addr.block = some k → w.heap.size ≤ k ∧ k < w'.heap.size) ∧ Below w.heap.size w w' ∧ ResIs s y0 y1 y2 y3 m At Cd
end Go.Proofs.YtdbahildcecgbaaDoor
