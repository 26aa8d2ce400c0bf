/- Trees of nodes: what the model's walk through them does (spec.l07Tree, spec.NodesRight). -/
import Derived.Test.YtnefcldjigndgaaDoorNrT
namespace Go.Proofs.YtnefcldjigndgaaDoor
open Go.RowKit Go.Maps
open Go.Proofs.YtnefcldjigndgaaDoor.Draw

/-- Cells of a block. -/
structure Cb (W : World) (Q : Nat) (cs : Array Value) : Prop where
  cell : ∀ j, W.cell? ⟨Q, j, none⟩ = cs[j]?
  lt : Q < W.heap.size
theorem Cb.new (w : World) (cs : Array Value) (t : TypeId) : Cb (w.alloc (.cells cs t)) w.heap.size cs := ⟨fun j => cnew' rfl j, by simp⟩
theorem Cb.below {W W' : World} {Q : Nat} {cs : Array Value} (h : Cb W Q cs) (hb : Below W.heap.size W W') : Cb W' Q cs := ⟨fun j => (hb.cell (p := ⟨Q, j, none⟩) h.lt).trans (h.cell j), Nat.lt_of_lt_of_le h.lt hb.size⟩
def rightT (L : Nat → Nd) (n : Nat) : Bool := decide (n ≤ 150) && decide (treeT L n 20 0 3 = some n)
def nextT (F : Nat → Int → Option Nat) (oo : Int) (m : Nat) (r : Option Nat) : Option Nat := match r with
  | none => none
  | some b => kidsT F oo m oo b
theorem kidsT_succ (F : Nat → Int → Option Nat) (oo : Int) (m : Nat) (c : Int) (a : Nat) : kidsT F oo (m + 1) c a = nextT F oo m (F a c) := by
  rw [kidsT]
  cases F a c <;> rfl
set_option maxRecDepth 100000 in
set_option maxHeartbeats 8000000 in
theorem spec_tree (L : Nat → Nd) (n : Nat) (a : Option Addr) (cap : Nat) (hn : n ≤ 150) (hsm : ∀ i, i < n → (L i).small) : ∀ d : Nat, d ≤ 20 → ∀ (p : Nat) (q : Int), p ≤ n → (q = 1 ∨ q = 2 ∨ q = 3) → ∀ w, NodesAt w a n L →
    Calls Tryd.prog 29 #[.slice a n cap, .int .i64 (p : Int), .int .i64 q, .int .i64 (21 - (d : Int))] w fun e w' => e = .returned (.int .i64 (outV (treeT L n d p q))) ∧ Below w.heap.size w w' := by
  intro d
  induction d with
  | zero =>
    intro _ p q hp hq w hL
    have HR : Hid (outV (treeT L n 0 p q) = -1) := rfl
    by_cases hpn : n ≤ p
    · have q0 : decide (n ≤ p) = true := by simpa using hpn
      have q1 : decide ((n : Int) ≤ (p : Int)) = true := by simpa using hpn
      go_enter Tryd.func29, Tryd.ntmps29
      go_wp2_with fail
      go_ret
      exact ⟨by rw [HR.out]; rfl, Below.refl _ _⟩
    · have q0 : decide (n ≤ p) = false := by simpa using hpn
      have q1 : decide ((n : Int) ≤ (p : Int)) = false := by simpa using hpn
      go_enter Tryd.func29, Tryd.ntmps29
      go_wp2_with fail
      go_ret
      exact ⟨by rw [HR.out]; rfl, Below.refl _ _⟩
  | succ d ih =>
    intro hd p q hp hq w hL
    have IH : Hid (∀ (p : Nat) (q : Int), p ≤ n → (q = 1 ∨ q = 2 ∨ q = 3) → ∀ w, NodesAt w a n L → Calls Tryd.prog 29 #[.slice a n cap, .int .i64 (p : Int), .int .i64 q, .int .i64 (21 - (d : Int))] w fun e w' => e = .returned (.int .i64 (outV (treeT L n d p q))) ∧ Below w.heap.size w w') := ih (by omega)
    have HLE : Hid (∀ p q b, treeT L n d p q = some b → b ≤ n) := fun p q b h => treeT_le L n d p q b h
    have HR : Hid (treeT L n (d + 1) p q = if p < n ∧ okB (L p) q = true then kidsT (treeT L n d) (shp (L p).k).o (L p).y.toNat (shp (L p).k).f (p + 1) else none) := rfl
    obtain ⟨E, hE⟩ : ∃ E : Int, E = 21 - ((d + 1 : Nat) : Int) := ⟨_, rfl⟩
    rw [← hE]
    have hE1 : E + 1 = 21 - (d : Int) := by omega
    have hE0 : 1 ≤ E ∧ E ≤ 20 := by omega
    clear ih hE
    generalize treeT L n d = F at *
    have HL : Hid (NodesAt w a n L) := hL
    clear hL
    by_cases hpn : n ≤ p
    · have q0 : decide (n ≤ p) = true := by simpa using hpn
      have q1 : decide ((n : Int) ≤ (p : Int)) = true := by simpa using hpn
      have hG : treeT L n (d + 1) p q = none := by rw [HR.out, if_neg (by omega)]
      have HG : Hid (outV (treeT L n (d + 1) p q) = -1) := by rw [hG]; exact rfl
      clear hG HR
      go_enter Tryd.func29, Tryd.ntmps29
      go_wp2_with fail
      go_ret
      exact ⟨by rw [HG.out]; rfl, Below.refl _ _⟩
    have q0 : decide (n ≤ p) = false := by simpa using hpn
    have q1 : decide ((n : Int) ≤ (p : Int)) = false := by simpa using hpn
    have q2 : decide (20 < E) = false := by simp; omega
    rcases HL.out with h0 | ⟨g, o, rfl, hg, hc⟩
    · omega
    obtain ⟨c0, c1, c2, c3, c4⟩ := hc p (by omega)
    have HSm : (L p).small := hsm p (by omega)
    have HSh : Hid (∀ W, Calls Tryd.prog 48 #[.agg #[.int .i64 (L p).k, .string (L p).t, .string (L p).m, .int .i64 (L p).n, .int .i64 (L p).y]] W fun e w' => e = .returned (.bool (shB (L p))) ∧ Below W.heap.size W w') := fun W => spec_shape (L p) HSm.fits W
    have HIs : Hid (∀ W, Calls Tryd.prog 49 #[.int .i64 (L p).k, .int .i64 q] W fun e w' => e = .returned (.bool (isB (L p).k q)) ∧ w' = W) := fun W => spec_is (L p).k q hq W
    have HSo : Hid (∀ i W, Calls Tryd.prog 50 #[.int .i64 (L p).k, .int .i64 i] W fun e w' => e = .returned (.int .i64 (sortB (L p).k i)) ∧ w' = W) := fun i W => spec_sort (L p).k i W
    have HOk : Hid (okB (L p) q = (shB (L p) && isB (L p).k q)) := ok_shape hq
    have HMy : Hid (okB (L p) q = true → _) := fun h => ok_many (x := L p) (q := q) h
    clear hc HSm
    generalize shB (L p) = SB at *
    generalize isB (L p).k q = IB at *
    generalize (shp (L p).k).f = f at *
    generalize (shp (L p).k).o = oo at *
    have HSo : Hid (∀ i W, Calls Tryd.prog 50 #[.int .i64 (L p).k, .int .i64 i] W fun e w' => e = .returned (.int .i64 (sortB (L p).k i)) ∧ w' = W) := HSo
    generalize okB (L p) q = OK at *
    generalize sortB (L p).k = so at *
    generalize (L p).k = x0 at *
    generalize (L p).t = x1 at *
    generalize (L p).m = x2 at *
    generalize (L p).n = x3 at *
    generalize (L p).y = x4 at *
    go_enter Tryd.func29, Tryd.ntmps29
    go_wp2_with fail
    refine (HSh.out _).mono ?_
    rintro e w1 ⟨rfl, hb⟩
    have HB1 : Hid (Below w.heap.size w w1) := hb
    have d0 := (hb.cell (p := ⟨g, _, none⟩) hg).trans c0
    have d1 := (hb.cell (p := ⟨g, _, none⟩) hg).trans c1
    have d2 := (hb.cell (p := ⟨g, _, none⟩) hg).trans c2
    have d3 := (hb.cell (p := ⟨g, _, none⟩) hg).trans c3
    have d4 := (hb.cell (p := ⟨g, _, none⟩) hg).trans c4
    clear hb c0 c1 c2 c3 c4
    cases SB
    · have hG : treeT L n (d + 1) p q = none := by rw [HR.out, if_neg (fun h => by rw [HOk.out] at h; simp at h)]
      have HG : Hid (outV (treeT L n (d + 1) p q) = -1) := by rw [hG]; exact rfl
      clear hG HR
      go_wp2_with fail
      go_ret
      exact ⟨by rw [HG.out]; rfl, HB1.out⟩
    go_wp2_with fail
    refine (HIs.out _).mono ?_
    rintro e w2 ⟨rfl, rfl⟩
    cases IB
    · have hG : treeT L n (d + 1) p q = none := by rw [HR.out, if_neg (fun h => by rw [HOk.out] at h; simp at h)]
      have HG : Hid (outV (treeT L n (d + 1) p q) = -1) := by rw [hG]; exact rfl
      clear hG HR
      go_wp2_with fail
      go_ret
      exact ⟨by rw [HG.out]; rfl, HB1.out⟩
    have hOK : OK = true := HOk.out
    obtain ⟨m0, m1, m2, m3, m4, m5⟩ := HMy.out hOK
    have HTot : Hid (treeT L n (d + 1) p q = kidsT F oo x4.toNat f (p + 1)) := by rw [HR.out, if_pos ⟨by omega, hOK⟩]; exact rfl
    obtain ⟨tot, htot⟩ : ∃ t, t = kidsT F oo x4.toNat f (p + 1) := ⟨_, rfl⟩
    rw [← htot] at HTot
    have HT0 : Hid (kidsT F oo x4.toNat f (p + 1) = tot) := htot.symm
    have HM2 : Hid (∀ i : Int, 0 ≤ i → i < x4 → so i = if i = 0 then f else oo) := m2
    have HM5 : Hid ((0 < x4 → f = 1 ∨ f = 2) ∧ (1 < x4 → oo = 1 ∨ oo = 2 ∨ oo = 3)) := ⟨m4, m5⟩
    clear htot HR HOk HMy hOK m2 m3 m4 m5 HSh HIs
    have HC1 : Hid (Cb (w2.alloc (.cells #[.int .i64 x0, .string x1, .string x2, .int .i64 x3, .int .i64 x4] 60)) w2.heap.size #[.int .i64 x0, .string x1, .string x2, .int .i64 x3, .int .i64 x4]) := Cb.new _ _ _
    have HB2 : Hid (Below w.heap.size w (w2.alloc (.cells #[.int .i64 x0, .string x1, .string x2, .int .i64 x3, .int .i64 x4] 60))) := HB1.out.alloc HB1.out.size _
    go_upto_region 4 with fail
    obtain ⟨W2, hW2⟩ : ∃ W, W = w2.alloc (.cells #[.int .i64 x0, .string x1, .string x2, .int .i64 x3, .int .i64 x4] 60) := ⟨_, rfl⟩
    obtain ⟨Q, hQ⟩ : ∃ Q, Q = w2.heap.size := ⟨_, rfl⟩
    rw [← hW2] at HC1 HB2 ⊢
    rw [← hQ] at HC1 ⊢
    clear hW2 hQ d0 d1 d2 d3 d4 HB1
    go_wp2_with fail
    go_loopw [1, 10] (fun v i wr => ∃ j : Nat, i = .int .i64 (j : Int) ∧ (j : Int) ≤ x4 ∧ Hid (Cb wr Q #[.int .i64 x0, .string x1, .string x2, .int .i64 x3, .int .i64 x4]) ∧ Hid (Below w.heap.size w wr) ∧ ((∃ b : Nat, b ≤ n ∧ v = .int .i64 (b : Int) ∧ Hid (kidsT F oo (x4.toNat - j) (if j = 0 then f else oo) b = tot)) ∨ (v = .int .i64 (-1) ∧ Hid (tot = none)))) (fun _ i _ => x4.toNat - (intOf i).toNat)
    case atStart => exact ⟨0, rfl, by omega, HC1, HB2, Or.inl ⟨p + 1, by omega, by go_num, HT0⟩⟩
    case round =>
      obtain ⟨j, rfl, hj, HC, HB, hcase⟩ := hrel
      have e0 : wr.cell? ⟨Q, 0, none⟩ = some (.int .i64 x0) := HC.out.cell 0
      have e4 : wr.cell? ⟨Q, 4, none⟩ = some (.int .i64 x4) := HC.out.cell 4
      rcases hcase with ⟨b, hbn, rfl, HK⟩ | ⟨rfl, HK⟩
      · by_cases hjy : (j : Int) < x4
        · have r0 : decide ((j : Int) < x4) = true := by simpa using hjy
          have r1 : decide (0 ≤ (b : Int)) = true := by simp
          obtain ⟨c, hc⟩ : ∃ c, c = so (j : Int) := ⟨_, rfl⟩
          have hc' : c = if j = 0 then f else oo := by
            rw [hc, HM2.out j (by omega) hjy]
            by_cases z : j = 0
            · rw [if_pos z, if_pos (by omega)]
            · rw [if_neg z, if_neg (by omega)]
          have hc3 : c = 1 ∨ c = 2 ∨ c = 3 := by
            by_cases z : j = 0
            · rw [hc', if_pos z]; have := HM5.out.1 (by omega); omega
            · rw [hc', if_neg z]; exact HM5.out.2 (by omega)
          have HSj : Hid (∀ W, Calls Tryd.prog 50 #[.int .i64 x0, .int .i64 (j : Int)] W fun e w' => e = .returned (.int .i64 c) ∧ w' = W) := fun W => by have := HSo.out (j : Int) W; rw [← hc] at this; exact this
          have hstep : kidsT F oo (x4.toNat - j) (if j = 0 then f else oo) b = nextT F oo (x4.toNat - (j + 1)) (F b c) := by
            rw [← hc', show x4.toNat - j = (x4.toNat - (j + 1)) + 1 by omega, kidsT_succ]
          have HIc := IH.out b c hbn hc3
          have HIc : Hid (∀ w, _) := HIc
          have HLc : Hid (∀ b', F b c = some b' → b' ≤ n) := fun b' h => HLE.out b c b' h
          obtain ⟨r, hr⟩ : ∃ r, r = F b c := ⟨_, rfl⟩
          rw [← hr] at hstep HIc HLc
          have HS : Hid (nextT F oo (x4.toNat - (j + 1)) r = tot) := by rw [← hstep]; exact HK.out
          clear hc hc' hstep hr HK
          go_wp2_with fail
          refine (HSj.out _).mono ?_
          rintro e w3 ⟨rfl, rfl⟩
          go_wp2_with fail
          refine (HIc.out _ (HL.out.below HB.out)).mono ?_
          rintro e w4 ⟨rfl, hb⟩
          have HC4 : Hid (Cb w4 Q #[.int .i64 x0, .string x1, .string x2, .int .i64 x3, .int .i64 x4]) := HC.out.below hb
          have HB4 : Hid (Below w.heap.size w w4) := HB.out.trans (hb.mono HB.out.size)
          clear hb e0 e4 HC HB HSj HIc
          cases r with
          | none =>
            have HN : Hid (tot = none) := HS.out.symm
            have ho : outV none = -1 := rfl
            rw [ho]
            go_wp2_with fail
            go_roundw
            case rel => exact ⟨j + 1, by go_num, by omega, HC4, HB4, Or.inr ⟨rfl, HN⟩⟩
            case measure => simp [intOf]; omega
          | some b' =>
            have hb' : b' ≤ n := HLc.out b' rfl
            have HN : Hid (kidsT F oo (x4.toNat - (j + 1)) (if j + 1 = 0 then f else oo) b' = tot) := HS.out
            have ho : outV (some b') = (b' : Int) := rfl
            rw [ho]
            go_wp2_with fail
            go_roundw
            case rel => exact ⟨j + 1, by go_num, by omega, HC4, HB4, Or.inl ⟨b', hb', rfl, HN⟩⟩
            case measure => simp [intOf]; omega
        · have r0 : decide ((j : Int) < x4) = false := by simpa using hjy
          have hz : x4.toNat - j = 0 := by omega
          have HN : Hid (outV tot = (b : Int)) := by have h := HK.out; rw [hz] at h; rw [← h]; exact rfl
          clear HK
          go_wp2_with fail
          go_ret
          exact ⟨by rw [HTot.out, HN.out]; rfl, HB.out⟩
      · have HN : Hid (outV tot = -1) := by rw [HK.out]; exact rfl
        by_cases hjy : (j : Int) < x4
        · have r0 : decide ((j : Int) < x4) = true := by simpa using hjy
          go_wp2_with fail
          go_ret
          exact ⟨by rw [HTot.out, HN.out]; rfl, HB.out⟩
        · have r0 : decide ((j : Int) < x4) = false := by simpa using hjy
          go_wp2_with fail
          go_ret
          exact ⟨by rw [HTot.out, HN.out]; rfl, HB.out⟩
end Go.Proofs.YtnefcldjigndgaaDoor
