/- Bytes of modules: what the model's call answers. -/
import Derived.Test.YtkhjmjlmbeealaaDoorMbL
namespace Go.Proofs.YtkhjmjlmbeealaaDoor
open Go.RowKit
open Go.Proofs.YtkhjmjlmbeealaaDoor.Draw

/-- A text that a call writes into a row of its own. -/
def Txt (B : Nat) (v : Value) (l : List UInt8) (W0 w : World) : Prop := w.ownsRow B 5 1 v l.length (Lib.byteCells l) ∧ Below B W0 w ∧ B ≤ w.heap.size
theorem Txt.next {B : Nat} {v : Value} {l : List UInt8} {W0 w w' : World} (h : Txt B v l W0 w) (hb : Below w.heap.size w w') : Txt B v l W0 w' := ⟨own_below h.1 hb, h.2.1.trans (hb.mono h.2.2), Nat.le_trans h.2.2 hb.size⟩
def encS (z : Int) : ByteArray := ⟨(encN z).toArray⟩
theorem encS_cells (z : Int) : Lib.strCells (encS z) = Lib.byteCells (encN z) := bytes_str _
theorem encS_size (z : Int) : (encS z).size = (encN z).length := rfl
theorem wp_txt {ops : Array Oper} {rest : List Oper} {o : Oper} {a : Act} {Q : Exit → Act → World → Prop} {w : World} (hgd : o.guard = none) (sl x : Operand)
    (ho : o.op = .call { callee := .builtin .append, args := #[sl, x], argTypes := #[22, 9] })
    (B : Nat) (v : Value) (l : List UInt8) (hs : a.eval sl = v) (W0 : World) (hb : Txt B v l W0 w) (z : Int) (hx : a.eval x = .string (encS z)) (hlen : l.length ≤ 1000000)
    (h : ∀ v' w', Txt B v' (l ++ encN z) W0 w' → wpList Tryd.prog ops Q rest (a.put o.dst v') w') : wpList Tryd.prog ops Q (o :: rest) a w := by
  obtain ⟨i0, hi, hz0, hz1, hz2⟩ := info_parts info5
  have he := enc_len10 z
  refine Lib.wpList_append_own_string w hgd sl x 22 9 ho B 5 i0 Tryd.underlying22 Tryd.underlying9 hi hz0 hz1 hz2 v _ _ hs hb.1 (encS z) hx (by rw [encS_size]; unfold maxLen; omega) (by rw [encS_size]; omega) hb.2.2 ?_
  intro v' w' hO hg _
  refine h v' w' ⟨?_, hb.2.1.grown hg hb.2.2 (fun k hk => (hb.1.lt k hk).1), Nat.le_trans hb.2.2 hg.size⟩
  rw [encS_cells, bytes_app, encS_size, ← List.length_append] at hO
  exact hO
set_option maxRecDepth 100000 in
set_option maxHeartbeats 32000000 in
theorem spec_modBytes (z0 z1 z2 z3 : Int) (g n c : Nat) (hn : n ≤ 9223372036854775807) (L : Nat → In) (w : World) (hA : InsAt w (some ⟨g, 0, none⟩) n L) :
    Calls Tryd.prog 27 #[.agg #[.int .i64 z0, .int .i64 z1, .int .i64 z2, .int .i64 z3, .slice (some ⟨g, 0, none⟩) n c]] w (BytOut z0 z1 z2 z3 n L w) := by
  have HX : Hid (BxM w (w.alloc (.cells #[.int .i64 z0, .int .i64 z1, .int .i64 z2, .int .i64 z3, .slice (some ⟨g, 0, none⟩) n c] 36)) #[.int .i64 z0, .int .i64 z1, .int .i64 z2, .int .i64 z3, .slice (some ⟨g, 0, none⟩) n c]) := BxM.new _ _ _
  have hal : Below w.heap.size w (w.alloc (.cells #[.int .i64 z0, .int .i64 z1, .int .i64 z2, .int .i64 z3, .slice (some ⟨g, 0, none⟩) n c] 36)) := (Below.refl _ _).alloc (Nat.le_refl _) _
  have HM := spec_modRight z0 z1 z2 z3 g n c hn L (w.alloc (.cells #[.int .i64 z0, .int .i64 z1, .int .i64 z2, .int .i64 z3, .slice (some ⟨g, 0, none⟩) n c] 36)) (hA.below hal)
  have HM : Hid (Calls Tryd.prog 25 _ _ _) := HM
  have HA : Hid (InsAt w (some ⟨g, 0, none⟩) n L) := hA
  have HPT : Hid (∀ (x : Int) W, -9223372036854775808 ≤ x → x ≤ 9223372036854775807 → Calls Tryd.prog 49 #[.int .i64 x] W fun e w' => e = .returned (.string (encS x)) ∧ Below W.heap.size W w') := fun x W h0 h1 => spec_put x W h0 h1
  clear hA hal
  go_enter Tryd.func27, Tryd.ntmps27
  go_wp2_with fail
  refine HM.out.mono ?_
  rintro e w1 ⟨b, rfl, hb, hbl⟩
  have HB1 : Hid (BxM w w1 #[.int .i64 z0, .int .i64 z1, .int .i64 z2, .int .i64 z3, .slice (some ⟨g, 0, none⟩) n c]) := HX.out.next hbl
  clear hbl HM HX
  have y0 := HB1.out.cell 0
  have y1 := HB1.out.cell 1
  have y2 := HB1.out.cell 2
  have y3 := HB1.out.cell 3
  have y4 := HB1.out.cell 4
  simp at y0 y1 y2 y3 y4
  cases b
  · have hno : ¬ ModP z0 z1 z2 z3 n L := fun h => by have := hb.2 h; cases this
    have HR : Hid (BytOut z0 z1 z2 z3 n L w (.returned (.string ⟨#[]⟩)) w1) := ⟨_, rfl, Or.inr ⟨hno, rfl⟩, HB1.out.bel⟩
    clear hb hno
    go_wp2_with fail
    go_ret
    exact HR.out
  have HY : Hid (ModP z0 z1 z2 z3 n L) := hb.1 rfl
  obtain ⟨⟨hn1, hn2⟩, hR1, hR2⟩ := modP_range HY.out
  have HR2 : Hid (∀ k, k < n → ∀ j, j < 3 → -9223372036854775808 ≤ insT (L k) j ∧ insT (L k) j ≤ 9223372036854775807) := hR2
  have r0 : -9223372036854775808 ≤ z0 ∧ z0 ≤ 9223372036854775807 := hR1 0 (by omega)
  have r1 : -9223372036854775808 ≤ z1 ∧ z1 ≤ 9223372036854775807 := hR1 1 (by omega)
  have r2 : -9223372036854775808 ≤ z2 ∧ z2 ≤ 9223372036854775807 := hR1 2 (by omega)
  have r3 : -9223372036854775808 ≤ z3 ∧ z3 ≤ 9223372036854775807 := hR1 3 (by omega)
  have r4 : -9223372036854775808 ≤ (n : Int) ∧ (n : Int) ≤ 9223372036854775807 := hR1 4 (by omega)
  have y1lt := HB1.out.lt
  have yne : w1.heap.size ≠ w.heap.size := by omega
  clear hb hR1 hR2
  obtain ⟨B, hB⟩ : ∃ B, B = w1.heap.size := ⟨_, rfl⟩
  have HBB : Hid (B = w1.heap.size) := hB
  have HT : Hid (Txt B (.slice (some ⟨w1.heap.size, 0, none⟩) 0 0) (catN (headT z0 z1 z2 z3 n) 0) w1 (w1.alloc (.cells #[] 5))) := by
    subst hB
    exact ⟨World.ownsRow_made w1 #[] 0 (Nat.le_refl _) (by unfold maxLen; omega) rfl, (Below.refl _ _).alloc (Nat.le_refl _) _, by simp⟩
  clear hB
  go_wp2_with fail
  generalize (Value.slice (some ⟨w1.heap.size, 0, none⟩) 0 0) = v0 at *
  generalize (w1.alloc (.cells #[] 5)) = p0 at *
  refine (HPT.out z0 _ r0.1 r0.2).mono ?_
  rintro e q0 ⟨rfl, hq⟩
  have HQ : Hid (Txt B v0 (catN (headT z0 z1 z2 z3 n) 0) w1 q0) := HT.out.next hq
  clear HT hq
  go_wp2_with (refine wp_txt rfl (.tmp 9) (.tmp 12) rfl B v0 _ rfl w1 HQ.out z0 rfl (by have := catN_len (headT z0 z1 z2 z3 n) 0; omega) ?_)
  intro v1 p1 hq
  have HT : Hid (Txt B v1 (catN (headT z0 z1 z2 z3 n) 1) w1 p1) := hq
  have HB2 : Hid (BxM w p1 #[.int .i64 z0, .int .i64 z1, .int .i64 z2, .int .i64 z3, .slice (some ⟨g, 0, none⟩) n c]) := HB1.out.next (by have := HT.out.2.1; rw [HBB.out] at this; exact this)
  clear hq HQ y0 y1 y2 y3 y4
  have y0 := HB2.out.cell 0
  have y1 := HB2.out.cell 1
  have y2 := HB2.out.cell 2
  have y3 := HB2.out.cell 3
  have y4 := HB2.out.cell 4
  simp at y0 y1 y2 y3 y4
  clear HB2
  go_wp2_with fail
  refine (HPT.out z1 _ r1.1 r1.2).mono ?_
  rintro e q1 ⟨rfl, hq⟩
  have HQ : Hid (Txt B v1 (catN (headT z0 z1 z2 z3 n) 1) w1 q1) := HT.out.next hq
  clear HT hq
  go_wp2_with (refine wp_txt rfl (.tmp 14) (.tmp 17) rfl B v1 _ rfl w1 HQ.out z1 rfl (by have := catN_len (headT z0 z1 z2 z3 n) 1; omega) ?_)
  intro v2 p2 hq
  have HT : Hid (Txt B v2 (catN (headT z0 z1 z2 z3 n) 2) w1 p2) := hq
  have HB2 : Hid (BxM w p2 #[.int .i64 z0, .int .i64 z1, .int .i64 z2, .int .i64 z3, .slice (some ⟨g, 0, none⟩) n c]) := HB1.out.next (by have := HT.out.2.1; rw [HBB.out] at this; exact this)
  clear hq HQ y0 y1 y2 y3 y4
  have y0 := HB2.out.cell 0
  have y1 := HB2.out.cell 1
  have y2 := HB2.out.cell 2
  have y3 := HB2.out.cell 3
  have y4 := HB2.out.cell 4
  simp at y0 y1 y2 y3 y4
  clear HB2
  go_wp2_with fail
  refine (HPT.out z2 _ r2.1 r2.2).mono ?_
  rintro e q2 ⟨rfl, hq⟩
  have HQ : Hid (Txt B v2 (catN (headT z0 z1 z2 z3 n) 2) w1 q2) := HT.out.next hq
  clear HT hq
  go_wp2_with (refine wp_txt rfl (.tmp 19) (.tmp 22) rfl B v2 _ rfl w1 HQ.out z2 rfl (by have := catN_len (headT z0 z1 z2 z3 n) 2; omega) ?_)
  intro v3 p3 hq
  have HT : Hid (Txt B v3 (catN (headT z0 z1 z2 z3 n) 3) w1 p3) := hq
  have HB2 : Hid (BxM w p3 #[.int .i64 z0, .int .i64 z1, .int .i64 z2, .int .i64 z3, .slice (some ⟨g, 0, none⟩) n c]) := HB1.out.next (by have := HT.out.2.1; rw [HBB.out] at this; exact this)
  clear hq HQ y0 y1 y2 y3 y4
  have y0 := HB2.out.cell 0
  have y1 := HB2.out.cell 1
  have y2 := HB2.out.cell 2
  have y3 := HB2.out.cell 3
  have y4 := HB2.out.cell 4
  simp at y0 y1 y2 y3 y4
  clear HB2
  go_wp2_with fail
  refine (HPT.out z3 _ r3.1 r3.2).mono ?_
  rintro e q3 ⟨rfl, hq⟩
  have HQ : Hid (Txt B v3 (catN (headT z0 z1 z2 z3 n) 3) w1 q3) := HT.out.next hq
  clear HT hq
  go_wp2_with (refine wp_txt rfl (.tmp 24) (.tmp 27) rfl B v3 _ rfl w1 HQ.out z3 rfl (by have := catN_len (headT z0 z1 z2 z3 n) 3; omega) ?_)
  intro v4 p4 hq
  have HT : Hid (Txt B v4 (catN (headT z0 z1 z2 z3 n) 4) w1 p4) := hq
  have HB2 : Hid (BxM w p4 #[.int .i64 z0, .int .i64 z1, .int .i64 z2, .int .i64 z3, .slice (some ⟨g, 0, none⟩) n c]) := HB1.out.next (by have := HT.out.2.1; rw [HBB.out] at this; exact this)
  clear hq HQ y0 y1 y2 y3 y4
  have y0 := HB2.out.cell 0
  have y1 := HB2.out.cell 1
  have y2 := HB2.out.cell 2
  have y3 := HB2.out.cell 3
  have y4 := HB2.out.cell 4
  simp at y0 y1 y2 y3 y4
  clear HB2
  go_wp2_with fail
  refine (HPT.out (n : Int) _ r4.1 r4.2).mono ?_
  rintro e q4 ⟨rfl, hq⟩
  have HQ : Hid (Txt B v4 (catN (headT z0 z1 z2 z3 n) 4) w1 q4) := HT.out.next hq
  clear HT hq
  go_wp2_with (refine wp_txt rfl (.tmp 29) (.tmp 33) rfl B v4 _ rfl w1 HQ.out (n : Int) rfl (by have := catN_len (headT z0 z1 z2 z3 n) 4; omega) ?_)
  intro v5 p5 hq
  have HT : Hid (Txt B v5 (catN (headT z0 z1 z2 z3 n) 5) w1 p5) := hq
  have HB2 : Hid (BxM w p5 #[.int .i64 z0, .int .i64 z1, .int .i64 z2, .int .i64 z3, .slice (some ⟨g, 0, none⟩) n c]) := HB1.out.next (by have := HT.out.2.1; rw [HBB.out] at this; exact this)
  clear hq HQ y0 y1 y2 y3 y4
  have y0 := HB2.out.cell 0
  have y1 := HB2.out.cell 1
  have y2 := HB2.out.cell 2
  have y3 := HB2.out.cell 3
  have y4 := HB2.out.cell 4
  simp at y0 y1 y2 y3 y4
  clear HB2
  have HT : Hid (Txt B v5 (catN (headT z0 z1 z2 z3 n) 5 ++ insL L 0) w1 p5) := by rw [insL, List.append_nil]; exact HT.out
  go_wp2_with fail
  go_loopw [3, 4] (fun v i wr => ∃ k : Nat, i = .int .i64 (k : Int) ∧ k ≤ n ∧ Hid (Txt B v (catN (headT z0 z1 z2 z3 n) 5 ++ insL L k) w1 wr)) (fun _ i _ => n - (intOf i).toNat)
  case atStart => exact ⟨0, rfl, by omega, HT⟩
  case round =>
    clear y0 y1 y2 y3 y4 HT
    obtain ⟨k, rfl, hk, HT⟩ := hrel
    have HB2 : Hid (BxM w wr #[.int .i64 z0, .int .i64 z1, .int .i64 z2, .int .i64 z3, .slice (some ⟨g, 0, none⟩) n c]) := HB1.out.next (by have := HT.out.2.1; rw [HBB.out] at this; exact this)
    have y0 := HB2.out.cell 0
    have y1 := HB2.out.cell 1
    have y2 := HB2.out.cell 2
    have y3 := HB2.out.cell 3
    have y4 := HB2.out.cell 4
    simp at y0 y1 y2 y3 y4
    clear HB2
    by_cases hkn : k < n
    · have q0 : decide (k < n) = true := by simpa using hkn
      have q1 : decide ((k : Int) < (n : Int)) = true := by simpa using hkn
      rcases HA.out.below HB1.out.bel with h0 | ⟨g2, o2, hgg, hg, hcs⟩
      · omega
      simp at hgg
      obtain ⟨rfl, rfl⟩ := hgg
      obtain ⟨d0, d1, d2⟩ := hcs k hkn
      rw [Nat.zero_add] at d0 d1 d2
      have hlen : (catN (headT z0 z1 z2 z3 n) 5 ++ insL L k).length ≤ 900000 := by rw [List.length_append]; have := catN_len (headT z0 z1 z2 z3 n) 5; have := insL_len L k; omega
      have HE : Hid (catN (headT z0 z1 z2 z3 n) 5 ++ insL L (k + 1) = catN (headT z0 z1 z2 z3 n) 5 ++ insL L k ++ encN (L k).o ++ encN (L k).a ++ encN (L k).b) := by show _ = _; simp [insL, catN, insT, List.append_assoc]
      have s0 : -9223372036854775808 ≤ (L k).o ∧ (L k).o ≤ 9223372036854775807 := HR2.out k hkn 0 (by omega)
      have s1 : -9223372036854775808 ≤ (L k).a ∧ (L k).a ≤ 9223372036854775807 := HR2.out k hkn 1 (by omega)
      have s2 : -9223372036854775808 ≤ (L k).b ∧ (L k).b ≤ 9223372036854775807 := HR2.out k hkn 2 (by omega)
      generalize (L k).o = u0 at *
      generalize (L k).a = u1 at *
      generalize (L k).b = u2 at *
      generalize catN (headT z0 z1 z2 z3 n) 5 ++ insL L k = X at *
      have hI : Hid (∀ W, Below B w1 W → W.cell? ⟨g, k * 3, none⟩ = some (.int .i64 u0) ∧ W.cell? ⟨g, k * 3 + 1, none⟩ = some (.int .i64 u1) ∧ W.cell? ⟨g, k * 3 + 2, none⟩ = some (.int .i64 u2)) := fun W hb => by
        rw [HBB.out] at hb
        exact ⟨(hb.cell (p := ⟨g, k * 3, none⟩) hg).trans d0, (hb.cell (p := ⟨g, k * 3 + 1, none⟩) hg).trans d1, (hb.cell (p := ⟨g, k * 3 + 2, none⟩) hg).trans d2⟩
      clear hcs d0 d1 d2
      obtain ⟨c0, c1, c2⟩ := hI.out _ HT.out.2.1

      go_wp2_with fail
      refine (HPT.out u0 _ s0.1 s0.2).mono ?_
      rintro e g1 ⟨rfl, hq⟩
      have HQ : Hid (Txt B u3 (X) w1 g1) := HT.out.next hq
      clear HT hq
      go_wp2_with (refine wp_txt rfl (.tmp 42) (.tmp 49) rfl B u3 _ rfl w1 HQ.out u0 rfl (by (try simp only [List.length_append]); have := enc_len10 u0; have := enc_len10 u1; have := enc_len10 u2; omega) ?_)
      intro t1 s1x hq
      have HT : Hid (Txt B t1 (X ++ encN u0) w1 s1x) := by first | exact hq | (show Txt B t1 (X ++ encN u0) w1 s1x; simpa only [List.append_assoc] using hq)
      have HB2 : Hid (BxM w s1x #[.int .i64 z0, .int .i64 z1, .int .i64 z2, .int .i64 z3, .slice (some ⟨g, 0, none⟩) n c]) := HB1.out.next (by have := HT.out.2.1; rw [HBB.out] at this; exact this)
      clear hq HQ y0 y1 y2 y3 y4 c0 c1 c2
      obtain ⟨c0, c1, c2⟩ := hI.out _ HT.out.2.1
      have y0 := HB2.out.cell 0
      have y1 := HB2.out.cell 1
      have y2 := HB2.out.cell 2
      have y3 := HB2.out.cell 3
      have y4 := HB2.out.cell 4
      simp at y0 y1 y2 y3 y4
      clear HB2
      go_wp2_with fail
      refine (HPT.out u1 _ s1.1 s1.2).mono ?_
      rintro e g2 ⟨rfl, hq⟩
      have HQ : Hid (Txt B t1 (X ++ encN u0) w1 g2) := HT.out.next hq
      clear HT hq
      go_wp2_with (refine wp_txt rfl (.tmp 51) (.tmp 58) rfl B t1 _ rfl w1 HQ.out u1 rfl (by (try simp only [List.length_append]); have := enc_len10 u0; have := enc_len10 u1; have := enc_len10 u2; omega) ?_)
      intro t2 s2x hq
      have HT : Hid (Txt B t2 (X ++ encN u0 ++ encN u1) w1 s2x) := by first | exact hq | (show Txt B t2 (X ++ encN u0 ++ encN u1) w1 s2x; simpa only [List.append_assoc] using hq)
      have HB2 : Hid (BxM w s2x #[.int .i64 z0, .int .i64 z1, .int .i64 z2, .int .i64 z3, .slice (some ⟨g, 0, none⟩) n c]) := HB1.out.next (by have := HT.out.2.1; rw [HBB.out] at this; exact this)
      clear hq HQ y0 y1 y2 y3 y4 c0 c1 c2
      obtain ⟨c0, c1, c2⟩ := hI.out _ HT.out.2.1
      have y0 := HB2.out.cell 0
      have y1 := HB2.out.cell 1
      have y2 := HB2.out.cell 2
      have y3 := HB2.out.cell 3
      have y4 := HB2.out.cell 4
      simp at y0 y1 y2 y3 y4
      clear HB2
      go_wp2_with fail
      refine (HPT.out u2 _ s2.1 s2.2).mono ?_
      rintro e g3 ⟨rfl, hq⟩
      have HQ : Hid (Txt B t2 (X ++ encN u0 ++ encN u1) w1 g3) := HT.out.next hq
      clear HT hq
      go_wp2_with (refine wp_txt rfl (.tmp 60) (.tmp 67) rfl B t2 _ rfl w1 HQ.out u2 rfl (by (try simp only [List.length_append]); have := enc_len10 u0; have := enc_len10 u1; have := enc_len10 u2; omega) ?_)
      intro t3 s3 hq
      have HT : Hid (Txt B t3 (X ++ encN u0 ++ encN u1 ++ encN u2) w1 s3) := by first | exact hq | (show Txt B t3 (X ++ encN u0 ++ encN u1 ++ encN u2) w1 s3; simpa only [List.append_assoc] using hq)
      have HB2 : Hid (BxM w s3 #[.int .i64 z0, .int .i64 z1, .int .i64 z2, .int .i64 z3, .slice (some ⟨g, 0, none⟩) n c]) := HB1.out.next (by have := HT.out.2.1; rw [HBB.out] at this; exact this)
      clear hq HQ y0 y1 y2 y3 y4 c0 c1 c2
      obtain ⟨c0, c1, c2⟩ := hI.out _ HT.out.2.1
      have y0 := HB2.out.cell 0
      have y1 := HB2.out.cell 1
      have y2 := HB2.out.cell 2
      have y3 := HB2.out.cell 3
      have y4 := HB2.out.cell 4
      simp at y0 y1 y2 y3 y4
      clear HB2
      have HT : Hid (Txt B t3 (catN (headT z0 z1 z2 z3 n) 5 ++ insL L (k + 1)) w1 s3) := by show Txt B t3 (catN (headT z0 z1 z2 z3 n) 5 ++ insL L (k + 1)) w1 s3; rw [HE.out]; exact HT.out
      clear hI HE
      go_wp2_with fail
      go_roundw
      case rel => exact ⟨k + 1, by go_num, by omega, HT⟩
      case measure => simp [intOf]; omega
    · have q0 : decide (k < n) = false := by simpa using hkn
      have q1 : decide ((k : Int) < (n : Int)) = false := by simpa using hkn
      obtain rfl : n = k := by omega
      have HR : Hid (BytOut z0 z1 z2 z3 n L w (.returned (.string ⟨(modL z0 z1 z2 z3 n L).toArray⟩)) wr) := ⟨_, rfl, Or.inl ⟨HY.out, rfl⟩, HB1.out.bel.trans ((HBB.out ▸ HT.out.2.1).mono (by omega))⟩
      have hcv := str_of_own HT.out.1
      obtain ⟨T, hT⟩ : ∃ T : ByteArray, T = ⟨(modL z0 z1 z2 z3 n L).toArray⟩ := ⟨_, rfl⟩
      have hT' : (⟨(catN (headT z0 z1 z2 z3 n) 5 ++ insL L n).toArray⟩ : ByteArray) = T := hT.symm
      rw [← hT] at HR
      rw [hT'] at hcv
      clear hT hT' HY HR2 HT
      go_wp2_with fail
      go_ret
      exact HR.out
end Go.Proofs.YtkhjmjlmbeealaaDoor
