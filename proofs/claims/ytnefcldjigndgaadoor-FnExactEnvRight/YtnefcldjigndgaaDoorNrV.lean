/- Trees of nodes: what the program's walk through them does (treeRight, hookRight, NodesRight). -/
import Derived.Test.YtnefcldjigndgaaDoorNrU
import Derived.Test.YtnefcldjigndgaaDoorNrS
import Derived.Deep.RegionHeld3
import Derived.Deep.DeepCutAuto
namespace Go.Proofs.YtnefcldjigndgaaDoor
open Go.RowKit Go.Maps
open Go.Proofs.YtnefcldjigndgaaDoor.Draw

def TreeOut (g o n : Nat) (r : Option Nat) (e : Ending) : Prop := match r with
  | none => e = .returned (.tuple #[.slice none 0 0, .bool false])
  | some b => ∃ ad : Addr, (b < n → ad = ⟨g, o + b * 5, none⟩) ∧ e = .returned (.tuple #[.slice (some ad) (n - b) (n - b), .bool true])
theorem node_size : ∀ w, (Go.sizeOf 60).run Tryd.prog w = .ok 5 w := fun w => by kernel_rfl
theorem slice_one (g p N : Nat) (hN : 1 ≤ N) (W : World) : (Instr.slice 26 (.slice (some ⟨g, p, none⟩) N N) (some (.int .i64 1)) none none).run Tryd.prog W = .ok (.slice (some (if N = 1 then ⟨g, p, none⟩ else ⟨g, p + 5, none⟩)) (N - 1) (N - 1)) W := by
  have ht' : Tryd.prog.underlying 26 = some (.slice (Tryd.prog.elem 26)) := by simp [Program.elem, Tryd.underlying26]
  have he : Tryd.prog.elem 26 = 60 := by simp [Program.elem, Tryd.underlying26]
  rw [run_slice_l W 26 _ _ _ ht' .i64 _ (by omega) (by omega), he, node_size]
  show Result.ok (sliced (some ⟨g, p, none⟩) 1 N N 5) W = _
  unfold sliced
  by_cases h : N = 1
  · rw [if_pos h, if_pos h]
  · rw [if_neg h, if_neg h]
    simp [add_off]
set_option maxRecDepth 100000 in
set_option maxHeartbeats 8000000 in
theorem impl_tree (L : Nat → Nd) (n g o : Nat) (hn : n ≤ 150) (hsm : ∀ i, i < n → (L i).small) (B : Nat) : ∀ d : Nat, d ≤ 20 → ∀ (p : Nat) (q : Int) (ad : Addr), p ≤ n → (p < n → ad = ⟨g, o + p * 5, none⟩) → ∀ w, NodesAt w (some ⟨g, o, none⟩) n L → Lex w B →
    Calls Tryd.prog 51 #[.map (some B), .slice (some ad) (n - p) (n - p), .int .i64 q, .int .i64 (d : Int)] w fun e w' => TreeOut g o n (treeT L n d p q) e ∧ Below w.heap.size w w' := by
  intro d
  induction d with
  | zero =>
    intro _ p q ad hp had w hL hX
    have HR : Hid (∀ e, TreeOut g o n (treeT L n 0 p q) e ↔ e = .returned (.tuple #[.slice none 0 0, .bool false])) := fun e => Iff.rfl
    by_cases hpn : n - p = 0
    · have q0 : (((n - p : Nat) : Int) == 0) = true := by rw [beq_iff_eq]; omega
      generalize n - p = N at *
      go_enter Tryd.func51, Tryd.ntmps51
      go_wp2_with fail
      refine bodyPost_ret (v := .tuple #[.slice none 0 0, .bool false]) ?_ rfl ⟨(HR.out _).2 rfl, Below.refl _ _⟩
      simp [results, Tryd.results51, go_sem]
    · have q0 : (((n - p : Nat) : Int) == 0) = false := beq_eq_false_iff_ne.2 (by omega)
      generalize n - p = N at *
      go_enter Tryd.func51, Tryd.ntmps51
      go_wp2_with fail
      refine bodyPost_ret (v := .tuple #[.slice none 0 0, .bool false]) ?_ rfl ⟨(HR.out _).2 rfl, Below.refl _ _⟩
      simp [results, Tryd.results51, go_sem]
  | succ d ih =>
    intro hd p q ad hp had w hL hX
    have IH : Hid (∀ (p : Nat) (q : Int) (ad : Addr), p ≤ n → (p < n → ad = ⟨g, o + p * 5, none⟩) → ∀ w, NodesAt w (some ⟨g, o, none⟩) n L → Lex w B → Calls Tryd.prog 51 #[.map (some B), .slice (some ad) (n - p) (n - p), .int .i64 q, .int .i64 (d : Int)] w fun e w' => TreeOut g o n (treeT L n d p q) e ∧ Below w.heap.size w w') := ih (by omega)
    have HLE : Hid (∀ p q b, treeT L n d p q = some b → b ≤ n) := fun p q b h => treeT_le L n d p q b h
    have HR : Hid (treeT L n (d + 1) p q = if p < n ∧ okB (L p) q = true then kidsT (treeT L n d) (shp (L p).k).o (L p).y.toNat (shp (L p).k).f (p + 1) else none) := rfl
    have HNo : Hid (treeT L n (d + 1) p q = none → TreeOut g o n (treeT L n (d + 1) p q) (.returned (.tuple #[.slice none 0 0, .bool false]))) := fun h => by rw [h]; exact rfl
    obtain ⟨E, hE⟩ : ∃ E : Int, E = ((d + 1 : Nat) : Int) := ⟨_, rfl⟩
    rw [← hE]
    have hE1 : E - 1 = (d : Int) := by omega
    have hE0 : (E == 0) = false := beq_eq_false_iff_ne.2 (by omega)
    have hE2 : 1 ≤ E ∧ E ≤ 20 := by omega
    clear ih hE
    generalize treeT L n d = F at *
    have HL : Hid (NodesAt w (some ⟨g, o, none⟩) n L) := hL
    have HX : Hid (Lex w B) := hX
    clear hL hX
    by_cases hpn : n - p = 0
    · have q0 : (((n - p : Nat) : Int) == 0) = true := by rw [beq_iff_eq]; omega
      have HG : Hid (TreeOut g o n (treeT L n (d + 1) p q) (.returned (.tuple #[.slice none 0 0, .bool false]))) := HNo.out (by rw [HR.out, if_neg (by omega)])
      clear HR HNo had
      generalize n - p = N at *
      go_enter Tryd.func51, Tryd.ntmps51
      go_wp2_with fail
      refine bodyPost_ret (v := .tuple #[.slice none 0 0, .bool false]) ?_ rfl ⟨HG.out, Below.refl _ _⟩
      simp [results, Tryd.results51, go_sem]
    have q0 : (((n - p : Nat) : Int) == 0) = false := beq_eq_false_iff_ne.2 (by omega)
    have hpl : p < n := by omega
    have had' := had hpl
    subst had'
    obtain ⟨N, hN⟩ : ∃ N, N = n - p := ⟨_, rfl⟩
    have hsl := fun W => slice_one g (o + p * 5) N (by omega) W
    obtain ⟨ad1, hd1⟩ : ∃ ad1 : Addr, ad1 = if N = 1 then (⟨g, o + p * 5, none⟩ : Addr) else ⟨g, o + p * 5 + 5, none⟩ := ⟨_, rfl⟩
    rw [← hd1] at hsl
    have HD1 : Hid (p + 1 < n → ad1 = ⟨g, o + (p + 1) * 5, none⟩) := fun h => by
      rw [hd1, if_neg (by omega)]
      congr 1
      omega
    have HN1 : Hid (N - 1 = n - (p + 1)) := (by omega : N - 1 = n - (p + 1))
    have hNa : 1 ≤ N := by omega
    have hNc : N ≤ 150 := by omega
    have hN0 : 0 < N := by omega
    have hN2 : (0 : Int) < (N : Int) := by omega
    have hN3 : decide ((0 : Int) < (N : Int)) = true := by simp; omega
    have hN4 : ¬ (N : Int) ≤ 0 := by omega
    have HNp : Hid (N = n - p) := hN
    rw [← hN] at q0 ⊢
    clear hN hd1 had
    rcases HL.out with h0 | ⟨g', o', hgo, hg, hc⟩
    · omega
    simp at hgo
    obtain ⟨rfl, rfl⟩ := hgo
    obtain ⟨c0, c1, c2, c3, c4⟩ := hc p hpl
    have HSm : (L p).small := hsm p hpl
    have HOk : Hid (okB (L p) q = (standB (shp (L p).k).p q && bodyB (shp (L p).k) (L p))) := rfl
    have HMy : Hid (okB (L p) q = true → 0 ≤ (L p).y ∧ (L p).y ≤ 40) := fun h => ⟨(ok_many h).1, (ok_many h).2.1⟩
    have HSh : Hid (∀ W, Calls Tryd.prog 70 #[.int .i64 (L p).k] W fun e w' => e = .returned (.agg (shA (shp (L p).k))) ∧ Below W.heap.size W w') := fun W => impl_shape (L p).k W
    have HNr : Hid (∀ W, Lex W B → Calls Tryd.prog 72 #[.map (some B), .agg #[.int .i64 (L p).k, .string (L p).t, .string (L p).m, .int .i64 (L p).n, .int .i64 (L p).y], .agg (shA (shp (L p).k))] W fun e w' => e = .returned (.bool (bodyB (shp (L p).k) (L p))) ∧ Below W.heap.size W w') := fun W h => impl_node (shp (L p).k) (L p) HSm.fits B W h
    clear hc HSm
    generalize okB (L p) q = OK at *
    obtain ⟨BB, hBB⟩ : ∃ BB, BB = bodyB (shp (L p).k) (L p) := ⟨_, rfl⟩
    rw [← hBB] at HOk HNr
    clear hBB
    obtain ⟨s, hs⟩ : ∃ s, s = shp (L p).k := ⟨_, rfl⟩
    rw [← hs] at HOk HSh HNr HR
    clear hs
    generalize (L p).k = x0 at *
    generalize (L p).t = x1 at *
    generalize (L p).m = x2 at *
    generalize (L p).n = x3 at *
    generalize (L p).y = x4 at *
    obtain ⟨sp, st, sm, lo, hi, few, most, sf, so⟩ := s
    have HSt : Hid (∀ W, Calls Tryd.prog 71 #[.agg #[.int .i64 sp, .int .i64 st, .int .i64 sm, .int .i64 lo, .int .i64 hi, .int .i64 few, .int .i64 most, .int .i64 sf, .int .i64 so], .int .i64 q] W fun e w' => e = .returned (.bool (standB sp q)) ∧ Below W.heap.size W w') := fun W => impl_stands ⟨sp, st, sm, lo, hi, few, most, sf, so⟩ q W
    have HSh : Hid (∀ W, Calls Tryd.prog 70 #[.int .i64 x0] W fun e w' => e = .returned (.agg #[.int .i64 sp, .int .i64 st, .int .i64 sm, .int .i64 lo, .int .i64 hi, .int .i64 few, .int .i64 most, .int .i64 sf, .int .i64 so]) ∧ Below W.heap.size W w') := HSh
    have HNr : Hid (∀ W, Lex W B → Calls Tryd.prog 72 #[.map (some B), .agg #[.int .i64 x0, .string x1, .string x2, .int .i64 x3, .int .i64 x4], .agg #[.int .i64 sp, .int .i64 st, .int .i64 sm, .int .i64 lo, .int .i64 hi, .int .i64 few, .int .i64 most, .int .i64 sf, .int .i64 so]] W fun e w' => e = .returned (.bool BB) ∧ Below W.heap.size W w') := HNr
    have HOk : Hid (OK = (standB sp q && BB)) := HOk
    have HR : Hid (treeT L n (d + 1) p q = if p < n ∧ OK = true then kidsT F so x4.toNat sf (p + 1) else none) := HR
    generalize standB sp q = ST at *
    go_enter Tryd.func51, Tryd.ntmps51
    go_upto_region 3 with fail
    go_cut [10, 11] (fun u v wx => ∃ Q : Nat, u = .pointer (some ⟨Q, 0, none⟩) ∧ v = .slice (some ad1) (N - 1) (N - 1) ∧ Hid (Cb wx Q #[.int .i64 x0, .string x1, .string x2, .int .i64 x3, .int .i64 x4]) ∧ Hid (Below w.heap.size w wx))
    case first =>
      go_region_held3 (fun W => W.cell? ⟨g, o + p * 5, none⟩ = some (.int .i64 x0) ∧ W.cell? ⟨g, o + p * 5 + 1, none⟩ = some (.string x1) ∧ W.cell? ⟨g, o + p * 5 + 2, none⟩ = some (.string x2) ∧ W.cell? ⟨g, o + p * 5 + 3, none⟩ = some (.int .i64 x3) ∧ W.cell? ⟨g, o + p * 5 + 4, none⟩ = some (.int .i64 x4)) (go_keep) (fail)
      all_goals go_wp2_with fail
      all_goals go_meet
      all_goals first
        | exact ⟨_, rfl, rfl, Cb.new _ _ _, (Below.refl _ _).alloc (Nat.le_refl _) _⟩
        | exact ⟨_, rfl, rfl, (Cb.new _ _ _).below ((Below.refl _ _).drew), ((Below.refl _ _).alloc (Nat.le_refl _) _).drew⟩
        | exact ⟨_, rfl, rfl, Cb.new _ _ _, ((Below.refl _ _).drew).alloc (Nat.le_refl _) _⟩
    case rest =>
      obtain ⟨Q, rfl, rfl, HC1, HB1⟩ := hcut
      have HL1 : Hid (Lex wc B) := HX.out.below HB1.out
      have qa0 : wc.cell? ⟨Q, 0, none⟩ = some (.int .i64 x0) := HC1.out.cell 0
      have qa1 : wc.cell? ⟨Q, 1, none⟩ = some (.string x1) := HC1.out.cell 1
      have qa2 : wc.cell? ⟨Q, 2, none⟩ = some (.string x2) := HC1.out.cell 2
      have qa3 : wc.cell? ⟨Q, 3, none⟩ = some (.int .i64 x3) := HC1.out.cell 3
      have qa4 : wc.cell? ⟨Q, 4, none⟩ = some (.int .i64 x4) := HC1.out.cell 4
      go_wp2_with fail
      refine (HSh.out _).mono ?_
      rintro e w2 ⟨rfl, hb⟩
      have hal : Below w2.heap.size w2 (w2.alloc (.cells #[.int .i64 sp, .int .i64 st, .int .i64 sm, .int .i64 lo, .int .i64 hi, .int .i64 few, .int .i64 most, .int .i64 sf, .int .i64 so] 98)) := (Below.refl _ _).alloc (Nat.le_refl _) _
      have HC2 : Hid (Cb (w2.alloc (.cells #[.int .i64 sp, .int .i64 st, .int .i64 sm, .int .i64 lo, .int .i64 hi, .int .i64 few, .int .i64 most, .int .i64 sf, .int .i64 so] 98)) Q #[.int .i64 x0, .string x1, .string x2, .int .i64 x3, .int .i64 x4]) := (HC1.out.below hb).below hal
      have HD2 : Hid (Cb (w2.alloc (.cells #[.int .i64 sp, .int .i64 st, .int .i64 sm, .int .i64 lo, .int .i64 hi, .int .i64 few, .int .i64 most, .int .i64 sf, .int .i64 so] 98)) w2.heap.size #[.int .i64 sp, .int .i64 st, .int .i64 sm, .int .i64 lo, .int .i64 hi, .int .i64 few, .int .i64 most, .int .i64 sf, .int .i64 so]) := Cb.new _ _ _
      have HB2 : Hid (Below w.heap.size w (w2.alloc (.cells #[.int .i64 sp, .int .i64 st, .int .i64 sm, .int .i64 lo, .int .i64 hi, .int .i64 few, .int .i64 most, .int .i64 sf, .int .i64 so] 98))) := (HB1.out.trans (hb.mono HB1.out.size)).trans (hal.mono (Nat.le_trans HB1.out.size hb.size))
      have HL2 : Hid (Lex (w2.alloc (.cells #[.int .i64 sp, .int .i64 st, .int .i64 sm, .int .i64 lo, .int .i64 hi, .int .i64 few, .int .i64 most, .int .i64 sf, .int .i64 so] 98)) B) := (HL1.out.below hb).below hal
      clear hb hal HC1 HB1 HL1 HSh qa0 qa1 qa2 qa3 qa4
      go_upto_region 5 with fail
      obtain ⟨W2, hW2⟩ : ∃ W, W = (w2.alloc (.cells #[.int .i64 sp, .int .i64 st, .int .i64 sm, .int .i64 lo, .int .i64 hi, .int .i64 few, .int .i64 most, .int .i64 sf, .int .i64 so] 98)) := ⟨_, rfl⟩
      obtain ⟨R, hR⟩ : ∃ R, R = w2.heap.size := ⟨_, rfl⟩
      rw [← hW2] at HC2 HD2 HB2 HL2 ⊢
      rw [← hR] at HD2 ⊢
      clear hW2 hR
      have ra0 : W2.cell? ⟨R, 0, none⟩ = some (.int .i64 sp) := HD2.out.cell 0
      have ra1 : W2.cell? ⟨R, 1, none⟩ = some (.int .i64 st) := HD2.out.cell 1
      have ra2 : W2.cell? ⟨R, 2, none⟩ = some (.int .i64 sm) := HD2.out.cell 2
      have ra3 : W2.cell? ⟨R, 3, none⟩ = some (.int .i64 lo) := HD2.out.cell 3
      have ra4 : W2.cell? ⟨R, 4, none⟩ = some (.int .i64 hi) := HD2.out.cell 4
      have ra5 : W2.cell? ⟨R, 5, none⟩ = some (.int .i64 few) := HD2.out.cell 5
      have ra6 : W2.cell? ⟨R, 6, none⟩ = some (.int .i64 most) := HD2.out.cell 6
      have ra7 : W2.cell? ⟨R, 7, none⟩ = some (.int .i64 sf) := HD2.out.cell 7
      have ra8 : W2.cell? ⟨R, 8, none⟩ = some (.int .i64 so) := HD2.out.cell 8
      go_wp2_with fail
      refine (HSt.out _).mono ?_
      rintro e w3 ⟨rfl, hb⟩
      have HC3 : Hid (Cb w3 Q #[.int .i64 x0, .string x1, .string x2, .int .i64 x3, .int .i64 x4]) := HC2.out.below hb
      have HD3 : Hid (Cb w3 R #[.int .i64 sp, .int .i64 st, .int .i64 sm, .int .i64 lo, .int .i64 hi, .int .i64 few, .int .i64 most, .int .i64 sf, .int .i64 so]) := HD2.out.below hb
      have HB3 : Hid (Below w.heap.size w w3) := HB2.out.trans (hb.mono HB2.out.size)
      have HL3 : Hid (Lex w3 B) := HL2.out.below hb
      clear hb HC2 HD2 HB2 HL2 HSt ra0 ra1 ra2 ra3 ra4 ra5 ra6 ra7 ra8
      cases ST
      · have HG : Hid (TreeOut g o n (treeT L n (d + 1) p q) (.returned (.tuple #[.slice none 0 0, .bool false]))) := HNo.out (by rw [HR.out, if_neg (fun h => by rw [HOk.out] at h; simp at h)])
        clear HR HNo
        go_wp2_with fail
        refine bodyPost_ret (v := .tuple #[.slice none 0 0, .bool false]) ?_ rfl ⟨HG.out, HB3.out⟩
        simp [results, Tryd.results51, go_sem]
      have qa0 : w3.cell? ⟨Q, 0, none⟩ = some (.int .i64 x0) := HC3.out.cell 0
      have qa1 : w3.cell? ⟨Q, 1, none⟩ = some (.string x1) := HC3.out.cell 1
      have qa2 : w3.cell? ⟨Q, 2, none⟩ = some (.string x2) := HC3.out.cell 2
      have qa3 : w3.cell? ⟨Q, 3, none⟩ = some (.int .i64 x3) := HC3.out.cell 3
      have qa4 : w3.cell? ⟨Q, 4, none⟩ = some (.int .i64 x4) := HC3.out.cell 4
      have ra0 : w3.cell? ⟨R, 0, none⟩ = some (.int .i64 sp) := HD3.out.cell 0
      have ra1 : w3.cell? ⟨R, 1, none⟩ = some (.int .i64 st) := HD3.out.cell 1
      have ra2 : w3.cell? ⟨R, 2, none⟩ = some (.int .i64 sm) := HD3.out.cell 2
      have ra3 : w3.cell? ⟨R, 3, none⟩ = some (.int .i64 lo) := HD3.out.cell 3
      have ra4 : w3.cell? ⟨R, 4, none⟩ = some (.int .i64 hi) := HD3.out.cell 4
      have ra5 : w3.cell? ⟨R, 5, none⟩ = some (.int .i64 few) := HD3.out.cell 5
      have ra6 : w3.cell? ⟨R, 6, none⟩ = some (.int .i64 most) := HD3.out.cell 6
      have ra7 : w3.cell? ⟨R, 7, none⟩ = some (.int .i64 sf) := HD3.out.cell 7
      have ra8 : w3.cell? ⟨R, 8, none⟩ = some (.int .i64 so) := HD3.out.cell 8
      go_wp2_with fail
      refine (HNr.out _ HL3.out).mono ?_
      rintro e w4 ⟨rfl, hb⟩
      have HC4 : Hid (Cb w4 Q #[.int .i64 x0, .string x1, .string x2, .int .i64 x3, .int .i64 x4]) := HC3.out.below hb
      have HD4 : Hid (Cb w4 R #[.int .i64 sp, .int .i64 st, .int .i64 sm, .int .i64 lo, .int .i64 hi, .int .i64 few, .int .i64 most, .int .i64 sf, .int .i64 so]) := HD3.out.below hb
      have HB4 : Hid (Below w.heap.size w w4) := HB3.out.trans (hb.mono HB3.out.size)
      have HL4 : Hid (Lex w4 B) := HL3.out.below hb
      clear hb HC3 HD3 HB3 HL3 HNr ra0 ra1 ra2 ra3 ra4 ra5 ra6 ra7 ra8 qa0 qa1 qa2 qa3 qa4
      cases BB
      · have HG : Hid (TreeOut g o n (treeT L n (d + 1) p q) (.returned (.tuple #[.slice none 0 0, .bool false]))) := HNo.out (by rw [HR.out, if_neg (fun h => by rw [HOk.out] at h; simp at h)])
        clear HR HNo
        go_wp2_with fail
        refine bodyPost_ret (v := .tuple #[.slice none 0 0, .bool false]) ?_ rfl ⟨HG.out, HB4.out⟩
        simp [results, Tryd.results51, go_sem]
      have hOK : OK = true := HOk.out
      obtain ⟨m0, m1⟩ := HMy.out hOK
      have hTot : treeT L n (d + 1) p q = kidsT F so x4.toNat sf (p + 1) := by rw [HR.out, if_pos ⟨hpl, hOK⟩]
      obtain ⟨tot, htot⟩ : ∃ t, t = kidsT F so x4.toNat sf (p + 1) := ⟨_, rfl⟩
      rw [← htot] at hTot
      have HTot : Hid (treeT L n (d + 1) p q = tot) := hTot
      have HT0 : Hid (kidsT F so x4.toNat sf (p + 1) = tot) := htot.symm
      clear htot hTot HR HOk HMy hOK
      have qa0 : w4.cell? ⟨Q, 0, none⟩ = some (.int .i64 x0) := HC4.out.cell 0
      have qa1 : w4.cell? ⟨Q, 1, none⟩ = some (.string x1) := HC4.out.cell 1
      have qa2 : w4.cell? ⟨Q, 2, none⟩ = some (.string x2) := HC4.out.cell 2
      have qa3 : w4.cell? ⟨Q, 3, none⟩ = some (.int .i64 x3) := HC4.out.cell 3
      have qa4 : w4.cell? ⟨Q, 4, none⟩ = some (.int .i64 x4) := HC4.out.cell 4
      have ra0 : w4.cell? ⟨R, 0, none⟩ = some (.int .i64 sp) := HD4.out.cell 0
      have ra1 : w4.cell? ⟨R, 1, none⟩ = some (.int .i64 st) := HD4.out.cell 1
      have ra2 : w4.cell? ⟨R, 2, none⟩ = some (.int .i64 sm) := HD4.out.cell 2
      have ra3 : w4.cell? ⟨R, 3, none⟩ = some (.int .i64 lo) := HD4.out.cell 3
      have ra4 : w4.cell? ⟨R, 4, none⟩ = some (.int .i64 hi) := HD4.out.cell 4
      have ra5 : w4.cell? ⟨R, 5, none⟩ = some (.int .i64 few) := HD4.out.cell 5
      have ra6 : w4.cell? ⟨R, 6, none⟩ = some (.int .i64 most) := HD4.out.cell 6
      have ra7 : w4.cell? ⟨R, 7, none⟩ = some (.int .i64 sf) := HD4.out.cell 7
      have ra8 : w4.cell? ⟨R, 8, none⟩ = some (.int .i64 so) := HD4.out.cell 8
      go_wp2_with fail
      go_loopw [11, 14, 45] (fun v c i wr => ∃ (j b : Nat) (ad : Addr) (N' : Nat), i = .int .i64 (j : Int) ∧ (j : Int) ≤ x4 ∧ b ≤ n ∧ v = .slice (some ad) N' N' ∧ N' ≤ 150 ∧ Hid (N' = n - b) ∧ Hid (b < n → ad = ⟨g, o + b * 5, none⟩) ∧ c = .int .i64 (if j = 0 then sf else so) ∧ Hid (kidsT F so (x4.toNat - j) (if j = 0 then sf else so) b = tot) ∧ Hid (Cb wr Q #[.int .i64 x0, .string x1, .string x2, .int .i64 x3, .int .i64 x4]) ∧ Hid (Cb wr R #[.int .i64 sp, .int .i64 st, .int .i64 sm, .int .i64 lo, .int .i64 hi, .int .i64 few, .int .i64 most, .int .i64 sf, .int .i64 so]) ∧ Hid (Below w.heap.size w wr) ∧ Hid (Lex wr B)) (fun _ _ i _ => x4.toNat - (intOf i).toNat)
      case atStart => exact ⟨0, p + 1, ad1, N - 1, rfl, by omega, by omega, rfl, by omega, HN1, HD1, rfl, HT0, HC4, HD4, HB4, HL4⟩
      case round =>
        clear HC4 HD4 HB4 HL4 ra0 ra1 ra2 ra3 ra4 ra5 ra6 ra7 ra8 qa0 qa1 qa2 qa3 qa4
        obtain ⟨j, b, ad', N', rfl, hj, hbn, rfl, hN', HNb, HAd, rfl, HK, HC, HD, HB, HLx⟩ := hrel
        have s8 : wr.cell? ⟨R, 8, none⟩ = some (.int .i64 so) := HD.out.cell 8
        by_cases hjy : (j : Int) < x4
        · have r0 : decide ((j : Int) < x4) = true := by simpa using hjy
          obtain ⟨c, hc⟩ : ∃ c, c = if j = 0 then sf else so := ⟨_, rfl⟩
          rw [← hc] at HK ⊢
          have hstep : kidsT F so (x4.toNat - j) c b = nextT F so (x4.toNat - (j + 1)) (F b c) := by
            rw [show x4.toNat - j = (x4.toNat - (j + 1)) + 1 by omega, kidsT_succ]
          have HIc := IH.out b c ad' hbn HAd.out
          rw [← HNb.out] at HIc
          have HLc : Hid (∀ b', F b c = some b' → b' ≤ n) := fun b' h => HLE.out b c b' h
          obtain ⟨r, hr⟩ : ∃ r, r = F b c := ⟨_, rfl⟩
          rw [← hr] at hstep HIc HLc
          have HIc : Hid (∀ w, _) := HIc
          have HS : Hid (nextT F so (x4.toNat - (j + 1)) r = tot) := by rw [← hstep]; exact HK.out
          clear hc hstep hr HK
          go_wp2_with fail
          refine (HIc.out _ (HL.out.below HB.out) HLx.out).mono ?_
          rintro e w5 ⟨he, hb⟩
          have HC5 : Hid (Cb w5 Q #[.int .i64 x0, .string x1, .string x2, .int .i64 x3, .int .i64 x4]) := HC.out.below hb
          have HD5 : Hid (Cb w5 R #[.int .i64 sp, .int .i64 st, .int .i64 sm, .int .i64 lo, .int .i64 hi, .int .i64 few, .int .i64 most, .int .i64 sf, .int .i64 so]) := HD.out.below hb
          have HB5 : Hid (Below w.heap.size w w5) := HB.out.trans (hb.mono HB.out.size)
          have HL5 : Hid (Lex w5 B) := HLx.out.below hb
          clear hb s8 HC HD HB HLx HIc
          have s8 : w5.cell? ⟨R, 8, none⟩ = some (.int .i64 so) := HD5.out.cell 8
          cases r with
          | none =>
            have he : e = .returned (.tuple #[.slice none 0 0, .bool false]) := he
            subst he
            have HG : Hid (TreeOut g o n (treeT L n (d + 1) p q) (.returned (.tuple #[.slice none 0 0, .bool false]))) := HNo.out (by rw [HTot.out]; exact HS.out.symm)
            go_wp2_with fail
            refine bodyPost_ret (v := .tuple #[.slice none 0 0, .bool false]) ?_ rfl ⟨HG.out, HB5.out⟩
            simp [results, Tryd.results51, go_sem]
          | some b' =>
            obtain ⟨ad2, hd2, he⟩ := he
            subst he
            have hb' : b' ≤ n := HLc.out b' rfl
            obtain ⟨N2, hN2'⟩ : ∃ N2, N2 = n - b' := ⟨_, rfl⟩
            rw [← hN2']
            have HN2 : Hid (N2 = n - b') := hN2'
            have hN2b : N2 ≤ 150 := by omega
            have HA2 : Hid (b' < n → ad2 = ⟨g, o + b' * 5, none⟩) := hd2
            have HK2 : Hid (kidsT F so (x4.toNat - (j + 1)) (if j + 1 = 0 then sf else so) b' = tot) := HS.out
            clear hd2 hN2'
            go_wp2_with fail
            go_roundw
            case rel => exact ⟨j + 1, b', ad2, N2, by go_num, by omega, hb', rfl, hN2b, HN2, HA2, by rw [if_neg (by omega)], HK2, HC5, HD5, HB5, HL5⟩
            case measure => simp [intOf]; omega
        · have r0 : decide ((j : Int) < x4) = false := by simpa using hjy
          have hz : x4.toNat - j = 0 := by omega
          have HN : Hid (tot = some b) := by have h := HK.out; rw [hz] at h; rw [← h]; exact rfl
          have HG : Hid (TreeOut g o n (treeT L n (d + 1) p q) (.returned (.tuple #[.slice (some ad') N' N', .bool true]))) := by rw [HTot.out, HN.out, HNb.out]; exact ⟨ad', HAd.out, rfl⟩
          clear HK HNo
          generalize (if j = 0 then sf else so) = c
          go_wp2_with fail
          refine bodyPost_ret (v := .tuple #[.slice (some ad') N' N', .bool true]) ?_ rfl ⟨HG.out, HB.out⟩
          simp [results, Tryd.results51, go_sem]
end Go.Proofs.YtnefcldjigndgaaDoor
