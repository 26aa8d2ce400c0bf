/- The program's way through code: what its loop over the waiting places does. -/
import Derived.Test.YtdbahildcecgbaaDoorClL
namespace Go.Proofs.YtdbahildcecgbaaDoor
open Go.RowKit
open Go.Proofs.YtdbahildcecgbaaDoor.Draw

theorem own_cut {w : World} {B g e m cap : Nat} {xs : List Value} {x : Value} (hl : xs.length = m) (h : w.ownsRow B e 1 (.slice (some ⟨g, 0, none⟩) (m + 1) cap) (m + 1) (xs ++ [x])) : w.ownsRow B e 1 (.slice (some ⟨g, 0, none⟩) m cap) m xs := by
  obtain ⟨h1, ⟨h2, h3⟩ | ⟨g', cap', cur, h2, h3, h4, h5, h6, h7, h8⟩⟩ := h
  · omega
  · simp at h2
    obtain ⟨rfl, rfl⟩ := h2
    refine ⟨by simpa using hl, Or.inr ⟨_, _, cur, rfl, h3, h4, by omega, h6, h7, ?_⟩⟩
    have e : List.take m (xs ++ [x]) = xs := by rw [List.take_append_of_le_length (by omega), List.take_of_length_le (by omega)]
    rw [← e, ← h8, List.take_take]
    congr 1
    omega
theorem Clm.pop {w0 w : World} {B C G : Nat} {z0 z1 z2 z3 : Int} {a : Option Addr} {n c : Nat} {lv : Nat → Int} {V : List Nat} {k g' cap : Nat} (h : Clm w0 w B C G z0 z1 z2 z3 a n c lv (V ++ [k])) (hv : w.cell? ⟨C, 6, none⟩ = some (.slice (some ⟨g', 0, none⟩) (V.length + 1) cap)) (ho : w.ownsRow B 2 1 (.slice (some ⟨g', 0, none⟩) (V.length + 1) cap) (V.length + 1) (rowI V ++ [.int .i64 (k : Int)])) : Clm w0 (w.setCell ⟨C, 6, none⟩ (.slice (some ⟨g', 0, none⟩) V.length cap)) B C G z0 z1 z2 z3 a n c lv V := by
  obtain ⟨l1, l2, l3, l4, l5, l6, l7⟩ := h.lt
  have hm : ∀ j x, j ≠ 6 → w.cell? ⟨C, j, none⟩ = some x → (w.setCell ⟨C, 6, none⟩ (.slice (some ⟨g', 0, none⟩) V.length cap)).cell? ⟨C, j, none⟩ = some x := fun j x hj e => by
    rw [World.cell?_setCell_other _ _ _ _ (by first | (simp; done) | (simp; omega))]
    exact e
  have hgB := (ho.lt g' rfl).1
  refine ⟨hm 0 _ (by omega) h.m0, hm 1 _ (by omega) h.m1, hm 2 _ (by omega) h.m2, hm 3 _ (by omega) h.m3, hm 4 _ (by omega) h.m4, hm 5 _ (by omega) h.m5, ⟨_, ?_, (own_cut (rowI_len V) ho).kept (setGrown (World.grownBy.refl w (some C))) (Or.inr fun e => ?_)⟩, h.own.far (Ne.symm l5), fun j => ?_, ⟨l1, l2, l3, l4, l5, by simp; omega, by simp; omega⟩, h.bel.setCell l2 _⟩
  · simp [go_sem, hv]
  · have e' : g' = C := by simpa [Value.ownBlock] using e
    omega
  · have hf := h.frz j
    simp [hf]
/-- What is told of the way by its two lists in memory. -/
def sixL (w : World) (C : Nat) : Nat := match w.cell? ⟨C, 6, none⟩ with | some (.slice _ m _) => m | _ => 0
def unlW (w : World) (G n : Nat) : Nat := unl (fun k => match w.cell? ⟨G, k, none⟩ with | some (.int _ z) => z - 1 | _ => 0) n
def holdN (x : Value) : Nat := match x with | .bool true => 1 | _ => 0
theorem Clm.six {w0 w : World} {B C G : Nat} {z0 z1 z2 z3 : Int} {a : Option Addr} {n c : Nat} {lv : Nat → Int} {W : List Nat} (h : Clm w0 w B C G z0 z1 z2 z3 a n c lv W) : sixL w C = W.length := by
  obtain ⟨v, hv, ho⟩ := h.row
  obtain ⟨av, cv, rfl⟩ := own_slice ho
  unfold sixL
  rw [hv]
theorem Clm.unls {w0 w : World} {B C G : Nat} {z0 z1 z2 z3 : Int} {a : Option Addr} {n c : Nat} {lv : Nat → Int} {W : List Nat} (h : Clm w0 w B C G z0 z1 z2 z3 a n c lv W) : unlW w G n = unl lv n := by
  unfold unlW
  refine unl_congr fun k hk => ?_
  rw [h.own.2.1 k hk]
  show lv k + 1 - 1 = lv k
  omega
def ClimbOut (w0 : World) (B C G : Nat) (z0 z1 z2 z3 : Int) (a : Option Addr) (n c : Nat) (L : Nat → In) (e : Ending) (w' : World) : Prop := ∃ b lv' W', e = .returned (.bool b) ∧ Clm w0 w' B C G z0 z1 z2 z3 a n c lv' W' ∧ (if b then Climb L n lv' (fun _ => False) else ¬ Good L n)
set_option maxRecDepth 100000 in
set_option maxHeartbeats 16000000 in
theorem impl_climb {w0 w : World} {B C G : Nat} {z0 z1 z2 z3 : Int} {a : Option Addr} {n c : Nat} (hn : n ≤ 2000) (hn1 : 1 ≤ n) (L : Nat → In) (hA : InsAt w0 a n L) (hF : FunW w0) (hS : ShaW w0) (hI : ∀ j, j < n → insB z1 z2 z3 n (L j).o (L j).a (L j).b = true) (hC : Clm w0 w B C G z0 z1 z2 z3 a n c (fun _ => -1) []) :
    Calls Tryd.prog 39 #[.pointer (some ⟨C, 0, none⟩)] w (ClimbOut w0 B C G z0 z1 z2 z3 a n c L) := by
  have HR := impl_reach hn 0 (by omega) 0 (by omega) (by omega) (fun _ _ => by omega) (fun _ _ => by omega) (by simp) hC
  have HR : Hid (Calls Tryd.prog 45 #[.pointer (some ⟨C, 0, none⟩), .int .i64 0, .int .i64 0] w (RchOut w0 B C G z0 z1 z2 z3 a n c (fun _ => -1) [] 0 0 w)) := HR
  have HLV : Hid (∀ (lv : Nat → Int) (V : List Nat) (k : Nat) (w' : World), k < n → Climb L n lv (fun j => j ∈ V ∨ j = k) → Wts n lv V → 0 ≤ lv k → V.length ≤ 90000 → Clm w0 w' B C G z0 z1 z2 z3 a n c lv V → Calls Tryd.prog 46 #[.pointer (some ⟨C, 0, none⟩), .int .i64 (k : Int)] w' (LevOut w0 B C G z0 z1 z2 z3 a n c L lv V)) := fun lv V k w' h1 h2 h3 h4 h5 h6 => impl_leave hn k h1 L hA hF hS (hI k h1) h2 h3 h4 h5 h6
  clear hA hF hS hI hC
  go_enter Tryd.func39, Tryd.ntmps39
  go_wp2_with fail
  refine HR.out.mono ?_
  rintro e w1 ⟨b, lv1, W1, rfl, hC1, _, hb⟩
  cases b
  · have hb0 : NoStp n (fun _ => -1) 0 0 := by simpa using hb.1
    rcases hb0 with h | h | ⟨_, h, _⟩
    · omega
    · omega
    · have h : (0 : Int) ≤ -1 := h
      omega
  rw [if_pos rfl] at hb
  obtain ⟨_, _, hs⟩ := hb
  rcases hs with ⟨_, rfl, rfl⟩ | ⟨hs, _, _⟩
  rotate_left
  · exact absurd hs (by simp)
  have HI1 : Hid (Clm w0 w1 B C G z0 z1 z2 z3 a n c (putL (fun _ => -1) 0 0) [0] ∧ Climb L n (putL (fun _ => -1) 0 0) (fun j => j ∈ [0]) ∧ Wts n (putL (fun _ => -1) 0 0) [0]) := ⟨hC1, (Climb.first hn1).wider (fun k hk => by simp [hk]), ⟨fun j hj => by
    have e : j = 0 := by simpa using hj
    subst e
    exact ⟨hn1, by simp [putL]⟩⟩⟩
  clear hC1 HR
  go_wp2_with fail
  go_loopw [3] (fun x wr => ∃ (b : Bool) (lv : Nat → Int) (W : List Nat), x = .bool b ∧ W.length ≤ 2 * n + 1 ∧ 2 * unl lv n + W.length ≤ 2 * n + 1 ∧ Hid (Clm w0 wr B C G z0 z1 z2 z3 a n c lv W) ∧ Hid (if b then Climb L n lv (fun j => j ∈ W) ∧ Wts n lv W else ¬ Good L n)) (fun x wr => 2 * unlW wr G n + sixL wr C + holdN x)
  case atStart =>
    have := unl_le (putL (fun _ => -1) 0 0) n
    exact ⟨true, _, _, rfl, by simp, by simp; omega, HI1.out.1, by rw [if_pos rfl]; exact HI1.out.2⟩
  case round =>
    obtain ⟨b, lv, W, rfl, hWl, hM, HC, HB⟩ := hrel
    cases b
    · have hg0 : ¬ Good L n := by have := HB.out; simpa using this
      have HG : Hid (¬ Good L n) := hg0
      clear hg0
      clear HLV HI1
      go_wp2_with fail
      go_ret
      exact ⟨false, lv, W, rfl, HC.out, by rw [if_neg (by simp)]; exact HG.out⟩
    have HB2 : Hid (Climb L n lv (fun j => j ∈ W) ∧ Wts n lv W) := by have := HB.out; rw [if_pos rfl] at this; exact this
    have H6 := HC.out.six
    have HU := HC.out.unls
    have HMS : Hid (2 * unlW wr G n + sixL wr C + holdN (.bool true) = 2 * unl lv n + W.length + 1) := by show _ = _; rw [H6, HU]; rfl
    clear HB H6 HU
    obtain ⟨v, hv, ho⟩ := HC.out.row
    rcases Nat.eq_zero_or_pos W.length with h00 | hpos
    · obtain rfl : W = [] := List.eq_nil_of_length_eq_zero h00
      obtain ⟨av, cv, rfl⟩ := own_slice ho
      clear HLV HI1 ho
      have HG : Hid (Climb L n lv (fun _ => False)) := climb_end HB2.out.1
      simp only [List.length_nil] at hv
      go_wp2_with fail
      go_ret
      exact ⟨true, lv, [], rfl, HC.out, by rw [if_pos rfl]; exact HG.out⟩
    · obtain ⟨V, k, rfl⟩ := pop_of hpos
      have hVl : (V ++ [k]).length = V.length + 1 := by simp
      rw [rowI_snoc] at ho
      rw [hVl] at ho hWl hM HMS
      obtain ⟨g', cap, rfl⟩ : ∃ g' cap, v = .slice (some ⟨g', 0, none⟩) (V.length + 1) cap := by
        obtain ⟨_, ⟨_, h⟩ | ⟨g', cap, cur, h, _⟩⟩ := ho
        · omega
        · exact ⟨g', cap, h⟩
      have hcap : V.length ≤ cap := by
        obtain ⟨_, ⟨_, h⟩ | ⟨_, _, cur, h, _, _, h5, _⟩⟩ := ho
        · omega
        · simp at h; obtain ⟨_, rfl⟩ := h; omega
      have c0 : wr.cell? ⟨g', V.length, none⟩ = some (.int .i64 (k : Int)) := by
        rw [ho.cellAt V.length (by omega), List.getElem?_append_right (by rw [rowI_len]; omega), rowI_len]
        simp
      have HP : Hid (Clm w0 (wr.setCell ⟨C, 6, none⟩ (.slice (some ⟨g', 0, none⟩) V.length cap)) B C G z0 z1 z2 z3 a n c lv V) := Clm.pop HC.out hv ho
      have fz := HC.out.frz 6
      have hp := climb_pop HB2.out.1
      obtain ⟨hw, hkn, hk0⟩ := wts_pop HB2.out.2
      have HL0 := HLV.out lv V k _ hkn hp hw hk0 (by omega) HP.out
      have HL0 : Hid (Calls Tryd.prog 46 _ _ _) := HL0
      obtain ⟨N, hN⟩ : ∃ N, N = V.length + 1 := ⟨_, rfl⟩
      obtain ⟨m, hm⟩ : ∃ m, m = V.length := ⟨_, rfl⟩
      rw [← hN] at hv
      rw [← hm] at c0 hcap HL0
      have hNp : 0 < N := by omega
      have hNi : decide ((0 : Int) < (N : Int)) = true := by simp; omega
      have hNm : IntKind.i64.wrap ((N : Int) - 1) = (m : Int) := by rw [IntWalk.i64_in _ (by omega)]; omega
      have hmN : m < N := by omega
      have HMI : Hid (2 * unl lv n + (V.length + 1) ≤ 2 * n + 1) := hM
      clear ho hp hw hkn hk0 HP HB2 hN hm hWl hM hpos hVl HI1
      go_wp2_with fail
      refine HL0.out.mono ?_
      rintro e w2 ⟨b2, lv2, W2, rfl, hC2, hm2, hb2⟩
      have HC2 : Hid (Clm w0 w2 B C G z0 z1 z2 z3 a n c lv2 W2) := hC2
      have HB3 : Hid (if b2 then Climb L n lv2 (fun j => j ∈ W2) ∧ Wts n lv2 W2 else ¬ Good L n) := hb2
      have HMM : Hid (2 * unlW w2 G n + sixL w2 C + holdN (.bool b2) < 2 * unlW wr G n + sixL wr C + holdN (.bool true)) := by
        have e1 := hC2.six
        have e2 := hC2.unls
        have e3 := HMS.out
        show _ < _
        rw [e3, e1, e2]
        cases b2
        · show _ + 0 < _
          omega
        · show _ + 1 < _
          omega
      have HM2 : Hid (W2.length ≤ 2 * n + 1 ∧ 2 * unl lv2 n + W2.length ≤ 2 * n + 1) := by have := HMI.out; constructor <;> omega
      clear hC2 hb2 hm2 HL0
      go_wp2_with fail
      go_roundw
      case rel => exact ⟨b2, lv2, W2, rfl, HM2.out.1, HM2.out.2, HC2, HB3⟩
      case measure => exact HMM.out
end Go.Proofs.YtdbahildcecgbaaDoor
