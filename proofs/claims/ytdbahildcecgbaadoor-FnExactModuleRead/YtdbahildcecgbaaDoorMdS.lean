/- Numbers read one behind the other: what the program's reader does with a module. -/
import Derived.Test.YtdbahildcecgbaaDoorMdR
namespace Go.Proofs.YtdbahildcecgbaaDoor
open Go.RowKit
open Go.Proofs.YtdbahildcecgbaaDoor.Draw

/-- A reader after its k numbers. -/
def RdAt (b : Nat) (s : ByteArray) (k : Nat) (w w' : World) : Prop := ∃ p c, RdSt s k p c ∧ Bxs w' b #[.string s, .int .i64 p, .int .i64 c] 41 ∧ Tn b w w'
theorem impl_number (s : ByteArray) (k : Nat) (p c : Int) (hs : s.size ≤ 20000) (h : RdSt s k p c) (b : Nat) (w : World) (hx : Bxs w b #[.string s, .int .i64 p, .int .i64 c] 41) :
    Calls Tryd.prog 25 #[.pointer (some ⟨b, 0, none⟩)] w fun e w' => e = .returned (.int .i64 (vlu s k)) ∧ RdAt b s (k + 1) w w' := by
  obtain ⟨⟨N, P, C⟩, hg⟩ : ∃ R, getB s p = R := ⟨_, rfl⟩
  have hp := h.place
  obtain ⟨h1, h2⟩ := h.next hg
  refine (impl_number0 s p c N P C (by unfold maxLen; omega) (by omega) (by omega) hg b w hx).mono ?_
  rintro e w' ⟨rfl, hx', ht⟩
  exact ⟨by rw [h2], _, _, h1, hx', ht⟩
/-- How many instructions are told. -/
def SizeOut (b : Nat) (s : ByteArray) (w : World) (e : Ending) (w' : World) : Prop := ∃ n p c : Int, e = .returned (.int .i64 n) ∧ Bxs w' b #[.string s, .int .i64 p, .int .i64 c] 41 ∧ Tn b w w' ∧
  (((∀ i, i < 5 → cod s i = 0) ∧ 1 ≤ n ∧ n ≤ 2000 ∧ n = num s 4 ∧ RdSt s 5 p c) ∨ ((∀ i, i < 5 → cod s i = 0) ∧ ¬ (1 ≤ num s 4 ∧ num s 4 ≤ 2000) ∧ n = 0 ∧ p = plc s 4 ∧ c = 1) ∨ (RdSt s 5 p c ∧ c ≠ 0 ∧ n = 0))
set_option maxRecDepth 100000 in
set_option maxHeartbeats 16000000 in
theorem impl_size (s : ByteArray) (p c : Int) (hs : s.size ≤ 20000) (h : RdSt s 4 p c) (b : Nat) (w : World) (hx : Bxs w b #[.string s, .int .i64 p, .int .i64 c] 41) :
    Calls Tryd.prog 26 #[.pointer (some ⟨b, 0, none⟩)] w (SizeOut b s w) := by
  have HN := impl_number s 4 p c hs h b w hx
  have HN : Hid (Calls Tryd.prog 25 _ _ _) := HN
  have H4 : Hid (RdSt s 4 p c) := h
  have c1 : w.cell? ⟨b, 1, none⟩ = some (.int .i64 p) := hx.cell 1
  clear h hx
  obtain ⟨V, hV⟩ : ∃ V, V = vlu s 4 := ⟨_, rfl⟩
  rw [← hV] at HN
  have HV : Hid (V = vlu s 4) := hV
  clear hV
  go_enter Tryd.func26, Tryd.ntmps26
  go_wp2_with fail
  refine HN.out.mono ?_
  rintro e w1 ⟨rfl, p', c', h5, hx1, ht1⟩
  have H5 : Hid (RdSt s 5 p' c') := h5
  have HX : Hid (Bxs w1 b #[.string s, .int .i64 p', .int .i64 c'] 41) := hx1
  have HT : Hid (Tn b w w1) := ht1
  have d2 : w1.cell? ⟨b, 2, none⟩ = some (.int .i64 c') := hx1.cell 2
  have d1 : w1.cell? ⟨b, 1, none⟩ = some (.int .i64 p') := hx1.cell 1
  have f1 : w1.frozen? ⟨b, 1, none⟩ = false := hx1.fz 1
  have f2 : w1.frozen? ⟨b, 2, none⟩ = false := hx1.fz 2
  clear h5 hx1 ht1 HN c1
  by_cases hc : c' = 0
  · have hgood := H5.out.good.1 hc
    have hV : V = num s 4 := by rw [HV.out]; unfold vlu; rw [if_pos hgood]
    by_cases hr : 1 ≤ V ∧ V ≤ 2000
    · have HR : Hid (SizeOut b s w (.returned (.int .i64 V)) w1) := ⟨V, p', c', rfl, HX.out, HT.out, Or.inl ⟨hgood, hr.1, hr.2, hV, H5.out⟩⟩
      have q0 : (c' == 0) = true := by simpa using hc
      have q1 : decide (V < 1) = false := by simp; omega
      have q2 : decide (2000 < V) = false := by simp; omega
      clear H4 HV H5 HX HT hV hgood
      go_wp2_with fail
      go_ret
      exact HR.out
    · have hp : p = plc s 4 := by
        rcases H4.out with ⟨e, _⟩ | ⟨f, hf, _, hcf, _⟩
        · exact e
        · exact absurd (hgood f (by omega)) hcf
      have HR : Hid (SizeOut b s w (.returned (.int .i64 0)) ((w1.setCell ⟨b, 1, none⟩ (.int .i64 p)).setCell ⟨b, 2, none⟩ (.int .i64 1))) := ⟨0, p, 1, rfl, (HX.out.set 1 _).set 2 _, (HT.out.set 1 _).set 2 _, Or.inr (Or.inl ⟨hgood, by rw [← hV]; exact hr, rfl, hp, rfl⟩)⟩
      have q0 : (c' == 0) = true := by simpa using hc
      by_cases h1 : V < 1
      · have q1 : decide (V < 1) = true := by simpa using h1
        clear H4 HV H5 HX HT hV hgood hr hp
        go_wp2_with fail
        go_ret
        exact HR.out
      · have q1 : decide (V < 1) = false := by simpa using h1
        have q2 : decide (2000 < V) = true := by simp; omega
        clear H4 HV H5 HX HT hV hgood hr hp
        go_wp2_with fail
        go_ret
        exact HR.out
  · have hV : V = 0 := by
      rw [HV.out]; unfold vlu
      rw [if_neg (fun h => hc (H5.out.good.2 h))]
    have HR : Hid (SizeOut b s w (.returned (.int .i64 V)) w1) := ⟨V, p', c', rfl, HX.out, HT.out, Or.inr (Or.inr ⟨H5.out, hc, hV⟩)⟩
    have q0 : (c' == 0) = false := by simpa using hc
    clear H4 HV H5 HX HT hV
    go_wp2_with fail
    go_ret
    exact HR.out
end Go.Proofs.YtdbahildcecgbaaDoor
