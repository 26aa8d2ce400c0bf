/- Lists of nodes and of Params: their sizes, copies and comparison: what the laws' helpers do. -/
import Derived.Test.YtnefcldjigndgaaDoorLines
namespace Go.Proofs.YtnefcldjigndgaaDoor
open Go.RowKit
open Go.Proofs.YtnefcldjigndgaaDoor.Draw

structure Nd where
  k : Int
  t : ByteArray
  m : ByteArray
  n : Int
  y : Int
def Nd.fits (x : Nd) : Prop := x.t.size ≤ maxLen ∧ x.m.size ≤ maxLen
def Nd.small (x : Nd) : Prop := x.t.size ≤ 1048576 ∧ x.m.size ≤ 1048576
theorem Nd.small.fits {x : Nd} (h : x.small) : x.fits := by
  obtain ⟨h1, h2⟩ := h; unfold Nd.fits maxLen; omega
/-- n nodes in memory. -/
def NodesAt (w : World) (a : Option Addr) (n : Nat) (L : Nat → Nd) : Prop := n = 0 ∨ ∃ g o, a = some ⟨g, o, none⟩ ∧ g < w.heap.size ∧ ∀ i, i < n → w.cell? ⟨g, o + i * 5, none⟩ = some (.int .i64 (L i).k) ∧ w.cell? ⟨g, o + i * 5 + 1, none⟩ = some (.string (L i).t) ∧ w.cell? ⟨g, o + i * 5 + 2, none⟩ = some (.string (L i).m) ∧ w.cell? ⟨g, o + i * 5 + 3, none⟩ = some (.int .i64 (L i).n) ∧ w.cell? ⟨g, o + i * 5 + 4, none⟩ = some (.int .i64 (L i).y)
theorem NodesAt.below {w w' : World} {a : Option Addr} {n : Nat} {L : Nat → Nd} (h : NodesAt w a n L) (hb : Below w.heap.size w w') : NodesAt w' a n L := by
  rcases h with h | ⟨g, o, rfl, hg, hc⟩
  · exact Or.inl h
  · refine Or.inr ⟨g, o, rfl, Nat.lt_of_lt_of_le hg hb.size, fun i hi => ?_⟩
    obtain ⟨c0, c1, c2, c3, c4⟩ := hc i hi
    exact ⟨(hb.cell (p := ⟨g, _, none⟩) hg).trans c0, (hb.cell (p := ⟨g, _, none⟩) hg).trans c1, (hb.cell (p := ⟨g, _, none⟩) hg).trans c2, (hb.cell (p := ⟨g, _, none⟩) hg).trans c3, (hb.cell (p := ⟨g, _, none⟩) hg).trans c4⟩
theorem NodesAt.grown {w w' : World} {a : Option Addr} {n : Nat} {row : Option Nat} {L : Nat → Nd} (h : NodesAt w a n L) (hg : w.grownBy w' row) (hne : ∀ k, a.map Addr.block = some k → some k ≠ row) : NodesAt w' a n L := by
  rcases h with h | ⟨g, o, rfl, hl, hc⟩
  · exact Or.inl h
  · have hb := hg.block g hl (hne g rfl)
    refine Or.inr ⟨g, o, rfl, Nat.lt_of_lt_of_le hl hg.size, fun i hi => ?_⟩
    obtain ⟨c0, c1, c2, c3, c4⟩ := hc i hi
    exact ⟨(World.cell?_of_block (a := ⟨g, _, none⟩) hb).trans c0, (World.cell?_of_block (a := ⟨g, _, none⟩) hb).trans c1, (World.cell?_of_block (a := ⟨g, _, none⟩) hb).trans c2, (World.cell?_of_block (a := ⟨g, _, none⟩) hb).trans c3, (World.cell?_of_block (a := ⟨g, _, none⟩) hb).trans c4⟩
/-- Their cells by number. -/
def nodeF (L : Nat → Nd) (j : Nat) : Value := if j % 5 = 0 then .int .i64 (L (j / 5)).k else if j % 5 = 1 then .string (L (j / 5)).t else if j % 5 = 2 then .string (L (j / 5)).m else if j % 5 = 3 then .int .i64 (L (j / 5)).n else .int .i64 (L (j / 5)).y
theorem nodeF_at (L : Nat → Nd) (i : Nat) : nodeF L (i * 5) = .int .i64 (L i).k ∧ nodeF L (i * 5 + 1) = .string (L i).t ∧ nodeF L (i * 5 + 2) = .string (L i).m ∧ nodeF L (i * 5 + 3) = .int .i64 (L i).n ∧ nodeF L (i * 5 + 4) = .int .i64 (L i).y := by
  refine ⟨?_, ?_, ?_, ?_, ?_⟩
  · rw [nodeF, if_pos (by omega), show (i * 5) / 5 = i by omega]
  · rw [nodeF, if_neg (by omega), if_pos (by omega), show (i * 5 + 1) / 5 = i by omega]
  · rw [nodeF, if_neg (by omega), if_neg (by omega), if_pos (by omega), show (i * 5 + 2) / 5 = i by omega]
  · rw [nodeF, if_neg (by omega), if_neg (by omega), if_neg (by omega), if_pos (by omega), show (i * 5 + 3) / 5 = i by omega]
  · rw [nodeF, if_neg (by omega), if_neg (by omega), if_neg (by omega), if_neg (by omega), show (i * 5 + 4) / 5 = i by omega]
theorem Own.nodes {w : World} {g n : Nat} {L : Nat → Nd} (h : Own w g (n * 5) (nodeF L)) : NodesAt w (some ⟨g, 0, none⟩) n L := by
  refine Or.inr ⟨g, 0, rfl, h.1, fun i hi => ?_⟩
  obtain ⟨e0, e1, e2, e3, e4⟩ := nodeF_at L i
  rw [Nat.zero_add, ← e0, ← e1, ← e2, ← e3, ← e4]
  exact ⟨h.2.1 _ (by omega), h.2.1 _ (by omega), h.2.1 _ (by omega), h.2.1 _ (by omega), h.2.1 _ (by omega)⟩
/-- One more is written. -/
theorem node_step {w : World} {g n I : Nat} {F G : Nat → Value} (h : Own w g (n * 5) (fun j => if j < I * 5 then G j else F j)) (hI : I < n) {v0 v1 v2 v3 v4 : Value} (e0 : G (I * 5) = v0) (e1 : G (I * 5 + 1) = v1) (e2 : G (I * 5 + 2) = v2) (e3 : G (I * 5 + 3) = v3) (e4 : G (I * 5 + 4) = v4) :
    Own (((((w.setCell ⟨g, I * 5, none⟩ v0).setCell ⟨g, I * 5 + 1, none⟩ v1).setCell ⟨g, I * 5 + 2, none⟩ v2).setCell ⟨g, I * 5 + 3, none⟩ v3).setCell ⟨g, I * 5 + 4, none⟩ v4) g (n * 5) (fun j => if j < (I + 1) * 5 then G j else F j) := by
  refine (((((h.set (i := I * 5) (by omega) v0).set (i := I * 5 + 1) (by omega) v1).set (i := I * 5 + 2) (by omega) v2).set (i := I * 5 + 3) (by omega) v3).set (i := I * 5 + 4) (by omega) v4).congr fun j _ => ?_
  show (if j = I * 5 + 4 then v4 else if j = I * 5 + 3 then v3 else if j = I * 5 + 2 then v2 else if j = I * 5 + 1 then v1 else if j = I * 5 then v0 else if j < I * 5 then G j else F j) = if j < (I + 1) * 5 then G j else F j
  by_cases c4 : j = I * 5 + 4
  · rw [if_pos c4, if_pos (by omega), c4, e4]
  rw [if_neg c4]
  by_cases c3 : j = I * 5 + 3
  · rw [if_pos c3, if_pos (by omega), c3, e3]
  rw [if_neg c3]
  by_cases c2 : j = I * 5 + 2
  · rw [if_pos c2, if_pos (by omega), c2, e2]
  rw [if_neg c2]
  by_cases c1 : j = I * 5 + 1
  · rw [if_pos c1, if_pos (by omega), c1, e1]
  rw [if_neg c1]
  by_cases c0 : j = I * 5
  · rw [if_pos c0, if_pos (by omega), c0, e0]
  rw [if_neg c0]
  by_cases c : j < I * 5
  · rw [if_pos c, if_pos (by omega)]
  · rw [if_neg c, if_neg (by omega)]
set_option maxRecDepth 100000 in
set_option maxHeartbeats 4000000 in
theorem sz_node (x0 : Int) (x1 : ByteArray) (x2 : ByteArray) (x3 : Int) (x4 : Int) (h1 : x1.size ≤ maxLen) (h2 : x2.size ≤ maxLen) (left : Nat) (hl : left ≤ 1048576) (w : World) :
    Calls Tryd.prog 28 #[.agg #[.int .i64 x0, .string x1, .string x2, .int .i64 x3, .int .i64 x4], .int .i64 (left : Int)] w fun e w' => (e = .returned (.int .i64 (-1)) ∨ ∃ r : Nat, e = .returned (.int .i64 (r : Int)) ∧ r ≤ left ∧ x1.size ≤ left ∧ x2.size ≤ left) ∧ Below w.heap.size w w' := by
  unfold maxLen at h1 h2
  by_cases g1 : x1.size ≤ left
  · have q1 : decide ((left : Int) - (x1.size : Int) < 0) = false := by simp; omega
    by_cases g2 : x1.size + x2.size ≤ left
    · have q2 : decide ((left : Int) - (x1.size : Int) - (x2.size : Int) < 0) = false := by simp; omega
      go_enter Tryd.func28, Tryd.ntmps28
      go_wp2
      go_ret
      exact ⟨Or.inr ⟨left - (x1.size + x2.size), ret_int (by omega), by omega, by omega, by omega⟩, (Below.refl _ _).alloc (Nat.le_refl _) _⟩
    · have q2 : decide ((left : Int) - (x1.size : Int) - (x2.size : Int) < 0) = true := by simp; omega
      go_enter Tryd.func28, Tryd.ntmps28
      go_wp2
      go_ret
      exact ⟨Or.inl rfl, (Below.refl _ _).alloc (Nat.le_refl _) _⟩
  · have q1 : decide ((left : Int) - (x1.size : Int) < 0) = true := by simp; omega
    go_enter Tryd.func28, Tryd.ntmps28
    go_wp2
    go_ret
    exact ⟨Or.inl rfl, (Below.refl _ _).alloc (Nat.le_refl _) _⟩
set_option maxRecDepth 100000 in
set_option maxHeartbeats 4000000 in
theorem sz_nodes (a : Option Addr) (n cap : Nat) (L : Nat → Nd) (hn : n ≤ maxLen) (hfit : ∀ i, i < n → (L i).fits) (left : Nat) (hl : left ≤ 1048576) (w : World) (h : NodesAt w a n L) :
    Calls Tryd.prog 9 #[.slice a n cap, .int .i64 (left : Int)] w fun e w' => (e = .returned (.int .i64 (-1)) ∨ ∃ r : Nat, e = .returned (.int .i64 (r : Int)) ∧ r ≤ left ∧ n ≤ left ∧ ∀ i, i < n → (L i).small) ∧ Below w.heap.size w w' := by
  have HL : Hid (NodesAt w a n L) := h
  have HF : Hid (∀ i, i < n → (L i).fits) := hfit
  clear h hfit
  have hn' : n ≤ 9223372036854775807 := by unfold maxLen at hn; omega
  clear hn
  by_cases hnl : n ≤ left
  · have q0 : decide ((left : Int) - (n : Int) < 0) = false := by simp; omega
    go_enter Tryd.func9, Tryd.ntmps9
    go_wp2_with fail
    go_loopw [1, 5] (fun x i wr => ∃ (k r : Nat), x = .int .i64 (r : Int) ∧ i = .int .i64 (k : Int) ∧ k ≤ n ∧ r ≤ left ∧ Hid (∀ j, j < k → (L j).small) ∧ Hid (Below w.heap.size w wr)) (fun _ i _ => n - (intOf i).toNat)
    case atStart => exact ⟨0, left - n, by go_num, rfl, by omega, by omega, fun j hj => by omega, Below.refl _ _⟩
    case round =>
      obtain ⟨k, r, rfl, rfl, hk, hr, HS, HB⟩ := hrel
      by_cases hkn : k < n
      · have p0 : decide (k < n) = true := by simpa using hkn
        have p1 : decide ((k : Int) < (n : Int)) = true := by simpa using hkn
        rcases HL.out.below HB.out with h0 | ⟨g, o, rfl, hg, hc⟩
        · omega
        obtain ⟨c0, c1, c2, c3, c4⟩ := hc k hkn
        obtain ⟨f1, f2⟩ := HF.out k hkn
        have HS' : Hid ((L k).small → ∀ j, j < k + 1 → (L j).small) := fun hsm j hj => by
          by_cases e : j = k
          · rw [e]; exact hsm
          · exact HS.out j (by omega)
        have HSm : Hid ((L k).t.size ≤ left → (L k).m.size ≤ left → (L k).small) := fun a b => ⟨by omega, by omega⟩
        have H1 := fun W => sz_node (L k).k (L k).t (L k).m (L k).n (L k).y f1 f2 r (by omega) W
        have H1 : Hid (∀ W, _) := H1
        clear hc HS f1 f2
        generalize (L k).k = x0 at *
        generalize (L k).t = x1 at *
        generalize (L k).m = x2 at *
        generalize (L k).n = x3 at *
        generalize (L k).y = x4 at *
        go_wp2_with fail
        refine (H1.out _).mono ?_
        rintro e w1 ⟨he, hb1⟩
        have HB1 : Hid (Below w.heap.size w w1) := HB.out.trans (hb1.mono HB.out.size)
        clear hb1 c0 c1 c2 c3 c4 H1
        rcases he with rfl | ⟨t, rfl, ht, s1, s2⟩
        · have q' : decide ((-1 : Int) < 0) = true := rfl
          go_wp2_with fail
          go_ret
          exact ⟨Or.inl rfl, HB1.out⟩
        · have q' : decide ((t : Int) < 0) = false := by simp
          have HS2 : Hid (∀ j, j < k + 1 → (L j).small) := HS'.out (HSm.out (by omega) (by omega))
          clear HS' HSm s1 s2
          go_wp2_with fail
          go_roundw
          case rel => exact ⟨k + 1, t, rfl, by go_num, by omega, by omega, HS2, HB1⟩
          case measure => simp [intOf]; omega
      · have p0 : decide (k < n) = false := by simpa using hkn
        have p1 : decide ((k : Int) < (n : Int)) = false := by simpa using hkn
        obtain rfl : k = n := by omega
        go_wp2_with fail
        go_ret
        exact ⟨Or.inr ⟨r, rfl, hr, hnl, HS.out⟩, HB.out⟩
  · have q0 : decide ((left : Int) - (n : Int) < 0) = true := by simp; omega
    go_enter Tryd.func9, Tryd.ntmps9
    go_wp2_with fail
    go_ret
    exact ⟨Or.inl rfl, Below.refl _ _⟩
set_option maxRecDepth 100000 in
set_option maxHeartbeats 4000000 in
theorem to_node (x0 : Int) (x1 : ByteArray) (x2 : ByteArray) (x3 : Int) (x4 : Int) (w : World) :
    Calls Tryd.prog 30 #[.agg #[.int .i64 x0, .string x1, .string x2, .int .i64 x3, .int .i64 x4]] w fun e w' => e = .returned (.agg #[.int .i64 x0, .string x1, .string x2, .int .i64 x3, .int .i64 x4]) ∧ Below w.heap.size w w' := by
  go_enter Tryd.func30, Tryd.ntmps30
  go_wp2
  refine bodyPost_ret (v := .agg #[.int .i64 x0, .string x1, .string x2, .int .i64 x3, .int .i64 x4]) ?_ rfl ⟨rfl, ?_⟩
  · simp [results, Tryd.f30, go_sem]
  · exact (((Below.refl _ _).alloc (Nat.le_refl _) _).alloc (by simp) _).alloc (by simp; omega) _
theorem infoNode : (Tryd.prog.info? 60).map (fun i => (i.zero, i.size, i.bytes)) = some (some (.agg #[.int .i64 0, .string ⟨#[]⟩, .string ⟨#[]⟩, .int .i64 0, .int .i64 0]), 5, 56) := by kernel_rfl
set_option maxRecDepth 100000 in
set_option maxHeartbeats 4000000 in
theorem to_nodes (a : Option Addr) (n cap : Nat) (L : Nat → Nd) (hn : n ≤ 1048576) (w : World) (h : NodesAt w a n L) :
    Calls Tryd.prog 11 #[.slice a n cap] w fun e w' => ∃ g, e = .returned (.slice (some ⟨g, 0, none⟩) n n) ∧ w.heap.size ≤ g ∧ Own w' g (n * 5) (nodeF L) ∧ Below w.heap.size w w' := by
  obtain ⟨i0, hi, hz0, hz1, hz2⟩ := info_parts infoNode
  have HL : Hid (NodesAt w a n L) := h
  clear h
  go_enter Tryd.func11, Tryd.ntmps11
  go_wp2_with (refine wpList_make_full _ rfl (.tmp 6) (.tmp 6) 26 rfl w.heap.size 60 i0 (.agg #[.int .i64 0, .string ⟨#[]⟩, .string ⟨#[]⟩, .int .i64 0, .int .i64 0]) 5 Tryd.underlying26 hi hz0 hz1 .i64 .i64 _ _ n rfl rfl rfl rfl (by rw [hz2]; omega) (by unfold maxLen; omega) (Nat.le_refl _) ?_)
  intro w1 hown hg1
  have HB1 : Hid (Below w.heap.size w w1) := (Below.refl _ _).grown hg1 (Nat.le_refl _) (fun k hk => by cases hk)
  obtain ⟨F0, hO⟩ := own_some hown
  skip
  have HO : Hid (Own w1 w.heap.size (n * 5) F0) := hO
  clear hO
  clear hg1 hown
  go_wp2_with fail
  go_loopw [4] (fun i wr => ∃ k : Nat, i = .int .i64 (k : Int) ∧ k ≤ n ∧ Hid (Own wr w.heap.size (n * 5) (fun j => if j < k * 5 then nodeF L j else F0 j)) ∧ Hid (Below w.heap.size w wr)) (fun i _ => n - (intOf i).toNat)
  case atStart => exact ⟨0, rfl, by omega, HO.out.congr (fun j _ => by rw [if_neg (by omega)]), HB1⟩
  case round =>
    obtain ⟨k, rfl, hk, HOr, HB⟩ := hrel
    by_cases hkn : k < n
    · have p0 : decide (k < n) = true := by simpa using hkn
      have p1 : decide ((k : Int) < (n : Int)) = true := by simpa using hkn
      rcases HL.out with h0 | ⟨g, o, rfl, hg, hc⟩
      · omega
      obtain ⟨c0, c1, c2, c3, c4⟩ := hc k hkn
      have d0 := (HB.out.cell (p := ⟨g, _, none⟩) hg).trans c0
      have d1 := (HB.out.cell (p := ⟨g, _, none⟩) hg).trans c1
      have d2 := (HB.out.cell (p := ⟨g, _, none⟩) hg).trans c2
      have d3 := (HB.out.cell (p := ⟨g, _, none⟩) hg).trans c3
      have d4 := (HB.out.cell (p := ⟨g, _, none⟩) hg).trans c4
      have HE : Hid (nodeF L (k * 5) = .int .i64 (L k).k ∧ nodeF L (k * 5 + 1) = .string (L k).t ∧ nodeF L (k * 5 + 2) = .string (L k).m ∧ nodeF L (k * 5 + 3) = .int .i64 (L k).n ∧ nodeF L (k * 5 + 4) = .int .i64 (L k).y) := nodeF_at L k
      clear hc c0 c1 c2 c3 c4
      generalize (L k).k = x0 at *
      generalize (L k).t = x1 at *
      generalize (L k).m = x2 at *
      generalize (L k).n = x3 at *
      generalize (L k).y = x4 at *
      go_wp2_with fail
      refine (to_node x0 x1 x2 x3 x4 _).mono ?_
      rintro e w2 ⟨rfl, hb2⟩
      have HO2 : Hid (Own w2 w.heap.size (n * 5) (fun j => if j < k * 5 then nodeF L j else F0 j)) := HOr.out.below hb2
      have HB2 : Hid (Below w.heap.size w w2) := HB.out.trans (hb2.mono HB.out.size)
      clear hb2 d0 d1 d2 d3 d4
      have a0 := HO2.out.2.1 (k * 5) (by omega)
      have a1 := HO2.out.2.1 (k * 5 + 1) (by omega)
      have a2 := HO2.out.2.1 (k * 5 + 2) (by omega)
      have a3 := HO2.out.2.1 (k * 5 + 3) (by omega)
      have a4 := HO2.out.2.1 (k * 5 + 4) (by omega)
      have hf := HO2.out.2.2
      simp only [show ¬ k * 5 < k * 5 by omega, show ¬ k * 5 + 1 < k * 5 by omega, show ¬ k * 5 + 2 < k * 5 by omega, show ¬ k * 5 + 3 < k * 5 by omega, show ¬ k * 5 + 4 < k * 5 by omega, if_false] at a0 a1 a2 a3 a4
      generalize F0 (k * 5) = y0 at a0
      generalize F0 (k * 5 + 1) = y1 at a1
      generalize F0 (k * 5 + 2) = y2 at a2
      generalize F0 (k * 5 + 3) = y3 at a3
      generalize F0 (k * 5 + 4) = y4 at a4
      have HN := fun (_ : Unit) => node_step HO2.out hkn HE.out.1 HE.out.2.1 HE.out.2.2.1 HE.out.2.2.2.1 HE.out.2.2.2.2
      have HN : Hid (Unit → _) := HN
      skip
      go_wp2_with fail
      go_roundw
      case rel =>
        have s := Nat.le_refl w.heap.size
        exact ⟨k + 1, by go_num, by omega, HN.out (), (((((HB2.out.setCell s _).setCell s _).setCell s _).setCell s _).setCell s _)⟩
      case measure => simp [intOf]; omega
    · have p0 : decide (k < n) = false := by simpa using hkn
      have p1 : decide ((k : Int) < (n : Int)) = false := by simpa using hkn
      obtain rfl : k = n := by omega
      go_wp2_with fail
      go_ret
      exact ⟨w.heap.size, rfl, Nat.le_refl _, HOr.out.congr (fun j hj => by rw [if_pos hj]), HB.out⟩
set_option maxRecDepth 100000 in
set_option maxHeartbeats 4000000 in
theorem eq_node (x0 : Int) (x1 : ByteArray) (x2 : ByteArray) (x3 : Int) (x4 : Int) (w : World) :
    Calls Tryd.prog 32 #[.agg #[.int .i64 x0, .string x1, .string x2, .int .i64 x3, .int .i64 x4], .agg #[.int .i64 x0, .string x1, .string x2, .int .i64 x3, .int .i64 x4]] w fun e w' => e = .returned (.bool true) ∧ Below w.heap.size w w' := by
  have hxx : ∀ x : List UInt8, (x == x) = true := fun x => by simp
  have hii : ∀ x : Int, (x != x) = false := fun x => by simp
  go_enter Tryd.func32, Tryd.ntmps32
  go_wp2
  go_ret
  exact ⟨rfl, ((Below.refl _ _).alloc (Nat.le_refl _) _).alloc (by simp) _⟩
set_option maxRecDepth 100000 in
set_option maxHeartbeats 4000000 in
theorem eq_nodes (a a' : Option Addr) (n cap cap' : Nat) (L : Nat → Nd) (hn : n ≤ 1048576) (w : World) (h : NodesAt w a n L) (h' : NodesAt w a' n L) :
    Calls Tryd.prog 13 #[.slice a n cap, .slice a' n cap'] w fun e w' => e = .returned (.bool true) ∧ Below w.heap.size w w' := by
  have HR : Hid (NodesAt w a n L) := h
  have HR' : Hid (NodesAt w a' n L) := h'
  clear h h'
  have hnn : ((n : Int) != (n : Int)) = false := by simp
  have hxx : ∀ x : List UInt8, (x == x) = true := fun x => by simp
  go_enter Tryd.func13, Tryd.ntmps13
  go_wp2_with fail
  go_loopw [5] (fun i wr => ∃ k : Nat, i = .int .i64 k ∧ k ≤ n ∧ Below w.heap.size w wr) (fun i _ => n - (intOf i).toNat)
  case atStart => exact ⟨0, rfl, by omega, Below.refl _ _⟩
  case round =>
    obtain ⟨k, rfl, hk, hb⟩ := hrel
    have HB : Hid (Below w.heap.size w wr) := hb
    have hsr := hb.size
    clear hb
    by_cases hkn : k < n
    · have q0 : decide (k < n) = true := by simpa using hkn
      have q1 : decide ((k : Int) < (n : Int)) = true := by simpa using hkn
      rcases HR.out with h0 | ⟨g, o, rfl, hg, hc⟩
      · omega
      rcases HR'.out with h0 | ⟨g', o', rfl, hg', hc'⟩
      · omega
      obtain ⟨c0, c1, c2, c3, c4⟩ := hc k hkn
      obtain ⟨d0, d1, d2, d3, d4⟩ := hc' k hkn
      have a0 := (HB.out.cell (p := ⟨g, _, none⟩) hg).trans c0
      have a1 := (HB.out.cell (p := ⟨g, _, none⟩) hg).trans c1
      have a2 := (HB.out.cell (p := ⟨g, _, none⟩) hg).trans c2
      have a3 := (HB.out.cell (p := ⟨g, _, none⟩) hg).trans c3
      have a4 := (HB.out.cell (p := ⟨g, _, none⟩) hg).trans c4
      have b0 := (HB.out.cell (p := ⟨g', _, none⟩) hg').trans d0
      have b1 := (HB.out.cell (p := ⟨g', _, none⟩) hg').trans d1
      have b2 := (HB.out.cell (p := ⟨g', _, none⟩) hg').trans d2
      have b3 := (HB.out.cell (p := ⟨g', _, none⟩) hg').trans d3
      have b4 := (HB.out.cell (p := ⟨g', _, none⟩) hg').trans d4
      clear hc hc' c0 d0 c1 d1 c2 d2 c3 d3 c4 d4
      generalize (L k).k = x0 at *
      generalize (L k).t = x1 at *
      generalize (L k).m = x2 at *
      generalize (L k).n = x3 at *
      generalize (L k).y = x4 at *
      skip
      have hgr : g < wr.heap.size := by omega
      have hgr' : g' < wr.heap.size := by omega
      go_upto_region 6 with fail
      go_region_held3 (fun W => W.cell? ⟨g, o + k * 5, none⟩ = some (.int .i64 x0) ∧ W.cell? ⟨g, o + k * 5 + 1, none⟩ = some (.string x1) ∧ W.cell? ⟨g, o + k * 5 + 2, none⟩ = some (.string x2) ∧ W.cell? ⟨g, o + k * 5 + 3, none⟩ = some (.int .i64 x3) ∧ W.cell? ⟨g, o + k * 5 + 4, none⟩ = some (.int .i64 x4) ∧ W.cell? ⟨g', o' + k * 5, none⟩ = some (.int .i64 x0) ∧ W.cell? ⟨g', o' + k * 5 + 1, none⟩ = some (.string x1) ∧ W.cell? ⟨g', o' + k * 5 + 2, none⟩ = some (.string x2) ∧ W.cell? ⟨g', o' + k * 5 + 3, none⟩ = some (.int .i64 x3) ∧ W.cell? ⟨g', o' + k * 5 + 4, none⟩ = some (.int .i64 x4)) (go_keep) (first | (go_at_call 32; refine (eq_node _ _ _ _ _ _).mono ?_; rintro e w2 ⟨rfl, hb2⟩; have e0 : w2.cell? ⟨g, o + k * 5, none⟩ = some (.int .i64 x0) := (hb2.cell (p := ⟨g, o + k * 5, none⟩) hgr).trans a0; have e1 : w2.cell? ⟨g, o + k * 5 + 1, none⟩ = some (.string x1) := (hb2.cell (p := ⟨g, o + k * 5 + 1, none⟩) hgr).trans a1; have e2 : w2.cell? ⟨g, o + k * 5 + 2, none⟩ = some (.string x2) := (hb2.cell (p := ⟨g, o + k * 5 + 2, none⟩) hgr).trans a2; have e3 : w2.cell? ⟨g, o + k * 5 + 3, none⟩ = some (.int .i64 x3) := (hb2.cell (p := ⟨g, o + k * 5 + 3, none⟩) hgr).trans a3; have e4 : w2.cell? ⟨g, o + k * 5 + 4, none⟩ = some (.int .i64 x4) := (hb2.cell (p := ⟨g, o + k * 5 + 4, none⟩) hgr).trans a4; have f0 : w2.cell? ⟨g', o' + k * 5, none⟩ = some (.int .i64 x0) := (hb2.cell (p := ⟨g', o' + k * 5, none⟩) hgr').trans b0; have f1 : w2.cell? ⟨g', o' + k * 5 + 1, none⟩ = some (.string x1) := (hb2.cell (p := ⟨g', o' + k * 5 + 1, none⟩) hgr').trans b1; have f2 : w2.cell? ⟨g', o' + k * 5 + 2, none⟩ = some (.string x2) := (hb2.cell (p := ⟨g', o' + k * 5 + 2, none⟩) hgr').trans b2; have f3 : w2.cell? ⟨g', o' + k * 5 + 3, none⟩ = some (.int .i64 x3) := (hb2.cell (p := ⟨g', o' + k * 5 + 3, none⟩) hgr').trans b3; have f4 : w2.cell? ⟨g', o' + k * 5 + 4, none⟩ = some (.int .i64 x4) := (hb2.cell (p := ⟨g', o' + k * 5 + 4, none⟩) hgr').trans b4))
      have HB2 : Hid (Below w.heap.size w w2) := HB.out.drew.trans (hb2.mono hsr)
      clear hb2 a0 b0 e0 f0 a1 b1 e1 f1 a2 b2 e2 f2 a3 b3 e3 f3 a4 b4 e4 f4
      go_wp2
      go_roundw
      case rel => exact ⟨k + 1, by go_num, by omega, HB2.out⟩
      case measure => simp [intOf]; omega
    · have q0 : decide (k < n) = false := by simpa using hkn
      have q1 : decide ((k : Int) < (n : Int)) = false := by simpa using hkn
      go_wp2_with fail
      go_ret
      exact ⟨rfl, HB.out⟩
structure Pm where
  a : ByteArray
  t : Int
  l : Int
  h : Int
def Pm.fits (x : Pm) : Prop := x.a.size ≤ maxLen
def Pm.small (x : Pm) : Prop := x.a.size ≤ 1048576
theorem Pm.small.fits {x : Pm} (h : x.small) : x.fits := by
  have h0 : x.a.size ≤ 1048576 := h; unfold Pm.fits maxLen; omega
/-- n Params in memory. -/
def ParamsAt (w : World) (a : Option Addr) (n : Nat) (L : Nat → Pm) : Prop := n = 0 ∨ ∃ g o, a = some ⟨g, o, none⟩ ∧ g < w.heap.size ∧ ∀ i, i < n → w.cell? ⟨g, o + i * 4, none⟩ = some (.string (L i).a) ∧ w.cell? ⟨g, o + i * 4 + 1, none⟩ = some (.int .i64 (L i).t) ∧ w.cell? ⟨g, o + i * 4 + 2, none⟩ = some (.int .i64 (L i).l) ∧ w.cell? ⟨g, o + i * 4 + 3, none⟩ = some (.int .i64 (L i).h)
theorem ParamsAt.below {w w' : World} {a : Option Addr} {n : Nat} {L : Nat → Pm} (h : ParamsAt w a n L) (hb : Below w.heap.size w w') : ParamsAt w' a n L := by
  rcases h with h | ⟨g, o, rfl, hg, hc⟩
  · exact Or.inl h
  · refine Or.inr ⟨g, o, rfl, Nat.lt_of_lt_of_le hg hb.size, fun i hi => ?_⟩
    obtain ⟨c0, c1, c2, c3⟩ := hc i hi
    exact ⟨(hb.cell (p := ⟨g, _, none⟩) hg).trans c0, (hb.cell (p := ⟨g, _, none⟩) hg).trans c1, (hb.cell (p := ⟨g, _, none⟩) hg).trans c2, (hb.cell (p := ⟨g, _, none⟩) hg).trans c3⟩
theorem ParamsAt.grown {w w' : World} {a : Option Addr} {n : Nat} {row : Option Nat} {L : Nat → Pm} (h : ParamsAt w a n L) (hg : w.grownBy w' row) (hne : ∀ k, a.map Addr.block = some k → some k ≠ row) : ParamsAt w' a n L := by
  rcases h with h | ⟨g, o, rfl, hl, hc⟩
  · exact Or.inl h
  · have hb := hg.block g hl (hne g rfl)
    refine Or.inr ⟨g, o, rfl, Nat.lt_of_lt_of_le hl hg.size, fun i hi => ?_⟩
    obtain ⟨c0, c1, c2, c3⟩ := hc i hi
    exact ⟨(World.cell?_of_block (a := ⟨g, _, none⟩) hb).trans c0, (World.cell?_of_block (a := ⟨g, _, none⟩) hb).trans c1, (World.cell?_of_block (a := ⟨g, _, none⟩) hb).trans c2, (World.cell?_of_block (a := ⟨g, _, none⟩) hb).trans c3⟩
/-- Their cells by number. -/
def paramF (L : Nat → Pm) (j : Nat) : Value := if j % 4 = 0 then .string (L (j / 4)).a else if j % 4 = 1 then .int .i64 (L (j / 4)).t else if j % 4 = 2 then .int .i64 (L (j / 4)).l else .int .i64 (L (j / 4)).h
theorem paramF_at (L : Nat → Pm) (i : Nat) : paramF L (i * 4) = .string (L i).a ∧ paramF L (i * 4 + 1) = .int .i64 (L i).t ∧ paramF L (i * 4 + 2) = .int .i64 (L i).l ∧ paramF L (i * 4 + 3) = .int .i64 (L i).h := by
  refine ⟨?_, ?_, ?_, ?_⟩
  · rw [paramF, if_pos (by omega), show (i * 4) / 4 = i by omega]
  · rw [paramF, if_neg (by omega), if_pos (by omega), show (i * 4 + 1) / 4 = i by omega]
  · rw [paramF, if_neg (by omega), if_neg (by omega), if_pos (by omega), show (i * 4 + 2) / 4 = i by omega]
  · rw [paramF, if_neg (by omega), if_neg (by omega), if_neg (by omega), show (i * 4 + 3) / 4 = i by omega]
theorem Own.params {w : World} {g n : Nat} {L : Nat → Pm} (h : Own w g (n * 4) (paramF L)) : ParamsAt w (some ⟨g, 0, none⟩) n L := by
  refine Or.inr ⟨g, 0, rfl, h.1, fun i hi => ?_⟩
  obtain ⟨e0, e1, e2, e3⟩ := paramF_at L i
  rw [Nat.zero_add, ← e0, ← e1, ← e2, ← e3]
  exact ⟨h.2.1 _ (by omega), h.2.1 _ (by omega), h.2.1 _ (by omega), h.2.1 _ (by omega)⟩
/-- One more is written. -/
theorem param_step {w : World} {g n I : Nat} {F G : Nat → Value} (h : Own w g (n * 4) (fun j => if j < I * 4 then G j else F j)) (hI : I < n) {v0 v1 v2 v3 : Value} (e0 : G (I * 4) = v0) (e1 : G (I * 4 + 1) = v1) (e2 : G (I * 4 + 2) = v2) (e3 : G (I * 4 + 3) = v3) :
    Own ((((w.setCell ⟨g, I * 4, none⟩ v0).setCell ⟨g, I * 4 + 1, none⟩ v1).setCell ⟨g, I * 4 + 2, none⟩ v2).setCell ⟨g, I * 4 + 3, none⟩ v3) g (n * 4) (fun j => if j < (I + 1) * 4 then G j else F j) := by
  refine ((((h.set (i := I * 4) (by omega) v0).set (i := I * 4 + 1) (by omega) v1).set (i := I * 4 + 2) (by omega) v2).set (i := I * 4 + 3) (by omega) v3).congr fun j _ => ?_
  show (if j = I * 4 + 3 then v3 else if j = I * 4 + 2 then v2 else if j = I * 4 + 1 then v1 else if j = I * 4 then v0 else if j < I * 4 then G j else F j) = if j < (I + 1) * 4 then G j else F j
  by_cases c3 : j = I * 4 + 3
  · rw [if_pos c3, if_pos (by omega), c3, e3]
  rw [if_neg c3]
  by_cases c2 : j = I * 4 + 2
  · rw [if_pos c2, if_pos (by omega), c2, e2]
  rw [if_neg c2]
  by_cases c1 : j = I * 4 + 1
  · rw [if_pos c1, if_pos (by omega), c1, e1]
  rw [if_neg c1]
  by_cases c0 : j = I * 4
  · rw [if_pos c0, if_pos (by omega), c0, e0]
  rw [if_neg c0]
  by_cases c : j < I * 4
  · rw [if_pos c, if_pos (by omega)]
  · rw [if_neg c, if_neg (by omega)]
set_option maxRecDepth 100000 in
set_option maxHeartbeats 4000000 in
theorem sz_param (x0 : ByteArray) (x1 : Int) (x2 : Int) (x3 : Int) (h0 : x0.size ≤ maxLen) (left : Nat) (hl : left ≤ 1048576) (w : World) :
    Calls Tryd.prog 52 #[.agg #[.string x0, .int .i64 x1, .int .i64 x2, .int .i64 x3], .int .i64 (left : Int)] w fun e w' => (e = .returned (.int .i64 (-1)) ∨ ∃ r : Nat, e = .returned (.int .i64 (r : Int)) ∧ r ≤ left ∧ x0.size ≤ left) ∧ Below w.heap.size w w' := by
  unfold maxLen at h0
  by_cases g0 : x0.size ≤ left
  · have q0 : decide ((left : Int) - (x0.size : Int) < 0) = false := by simp; omega
    go_enter Tryd.func52, Tryd.ntmps52
    go_wp2
    go_ret
    exact ⟨Or.inr ⟨left - (x0.size), ret_int (by omega), by omega, by omega⟩, (Below.refl _ _).alloc (Nat.le_refl _) _⟩
  · have q0 : decide ((left : Int) - (x0.size : Int) < 0) = true := by simp; omega
    go_enter Tryd.func52, Tryd.ntmps52
    go_wp2
    go_ret
    exact ⟨Or.inl rfl, (Below.refl _ _).alloc (Nat.le_refl _) _⟩
set_option maxRecDepth 100000 in
set_option maxHeartbeats 4000000 in
theorem sz_params (a : Option Addr) (n cap : Nat) (L : Nat → Pm) (hn : n ≤ maxLen) (hfit : ∀ i, i < n → (L i).fits) (left : Nat) (hl : left ≤ 1048576) (w : World) (h : ParamsAt w a n L) :
    Calls Tryd.prog 34 #[.slice a n cap, .int .i64 (left : Int)] w fun e w' => (e = .returned (.int .i64 (-1)) ∨ ∃ r : Nat, e = .returned (.int .i64 (r : Int)) ∧ r ≤ left ∧ n ≤ left ∧ ∀ i, i < n → (L i).small) ∧ Below w.heap.size w w' := by
  have HL : Hid (ParamsAt w a n L) := h
  have HF : Hid (∀ i, i < n → (L i).fits) := hfit
  clear h hfit
  have hn' : n ≤ 9223372036854775807 := by unfold maxLen at hn; omega
  clear hn
  by_cases hnl : n ≤ left
  · have q0 : decide ((left : Int) - (n : Int) < 0) = false := by simp; omega
    go_enter Tryd.func34, Tryd.ntmps34
    go_wp2_with fail
    go_loopw [1, 5] (fun x i wr => ∃ (k r : Nat), x = .int .i64 (r : Int) ∧ i = .int .i64 (k : Int) ∧ k ≤ n ∧ r ≤ left ∧ Hid (∀ j, j < k → (L j).small) ∧ Hid (Below w.heap.size w wr)) (fun _ i _ => n - (intOf i).toNat)
    case atStart => exact ⟨0, left - n, by go_num, rfl, by omega, by omega, fun j hj => by omega, Below.refl _ _⟩
    case round =>
      obtain ⟨k, r, rfl, rfl, hk, hr, HS, HB⟩ := hrel
      by_cases hkn : k < n
      · have p0 : decide (k < n) = true := by simpa using hkn
        have p1 : decide ((k : Int) < (n : Int)) = true := by simpa using hkn
        rcases HL.out.below HB.out with h0 | ⟨g, o, rfl, hg, hc⟩
        · omega
        obtain ⟨c0, c1, c2, c3⟩ := hc k hkn
        have f0 : (L k).a.size ≤ maxLen := HF.out k hkn
        have HS' : Hid ((L k).small → ∀ j, j < k + 1 → (L j).small) := fun hsm j hj => by
          by_cases e : j = k
          · rw [e]; exact hsm
          · exact HS.out j (by omega)
        have HSm : Hid ((L k).a.size ≤ left → (L k).small) := fun a => (by show (L k).a.size ≤ 1048576; omega)
        have H1 := fun W => sz_param (L k).a (L k).t (L k).l (L k).h f0 r (by omega) W
        have H1 : Hid (∀ W, _) := H1
        clear hc HS f0
        generalize (L k).a = x0 at *
        generalize (L k).t = x1 at *
        generalize (L k).l = x2 at *
        generalize (L k).h = x3 at *
        go_wp2_with fail
        refine (H1.out _).mono ?_
        rintro e w1 ⟨he, hb1⟩
        have HB1 : Hid (Below w.heap.size w w1) := HB.out.trans (hb1.mono HB.out.size)
        clear hb1 c0 c1 c2 c3 H1
        rcases he with rfl | ⟨t, rfl, ht, s0⟩
        · have q' : decide ((-1 : Int) < 0) = true := rfl
          go_wp2_with fail
          go_ret
          exact ⟨Or.inl rfl, HB1.out⟩
        · have q' : decide ((t : Int) < 0) = false := by simp
          have HS2 : Hid (∀ j, j < k + 1 → (L j).small) := HS'.out (HSm.out (by omega))
          clear HS' HSm s0
          go_wp2_with fail
          go_roundw
          case rel => exact ⟨k + 1, t, rfl, by go_num, by omega, by omega, HS2, HB1⟩
          case measure => simp [intOf]; omega
      · have p0 : decide (k < n) = false := by simpa using hkn
        have p1 : decide ((k : Int) < (n : Int)) = false := by simpa using hkn
        obtain rfl : k = n := by omega
        go_wp2_with fail
        go_ret
        exact ⟨Or.inr ⟨r, rfl, hr, hnl, HS.out⟩, HB.out⟩
  · have q0 : decide ((left : Int) - (n : Int) < 0) = true := by simp; omega
    go_enter Tryd.func34, Tryd.ntmps34
    go_wp2_with fail
    go_ret
    exact ⟨Or.inl rfl, Below.refl _ _⟩
set_option maxRecDepth 100000 in
set_option maxHeartbeats 4000000 in
theorem to_param (x0 : ByteArray) (x1 : Int) (x2 : Int) (x3 : Int) (w : World) :
    Calls Tryd.prog 55 #[.agg #[.string x0, .int .i64 x1, .int .i64 x2, .int .i64 x3]] w fun e w' => e = .returned (.agg #[.string x0, .int .i64 x1, .int .i64 x2, .int .i64 x3]) ∧ Below w.heap.size w w' := by
  go_enter Tryd.func55, Tryd.ntmps55
  go_wp2
  refine bodyPost_ret (v := .agg #[.string x0, .int .i64 x1, .int .i64 x2, .int .i64 x3]) ?_ rfl ⟨rfl, ?_⟩
  · simp [results, Tryd.f55, go_sem]
  · exact (((Below.refl _ _).alloc (Nat.le_refl _) _).alloc (by simp) _).alloc (by simp; omega) _
theorem infoParam : (Tryd.prog.info? 66).map (fun i => (i.zero, i.size, i.bytes)) = some (some (.agg #[.string ⟨#[]⟩, .int .i64 0, .int .i64 0, .int .i64 0]), 4, 40) := by kernel_rfl
set_option maxRecDepth 100000 in
set_option maxHeartbeats 4000000 in
theorem to_params (a : Option Addr) (n cap : Nat) (L : Nat → Pm) (hn : n ≤ 1048576) (w : World) (h : ParamsAt w a n L) :
    Calls Tryd.prog 38 #[.slice a n cap] w fun e w' => ∃ g, e = .returned (.slice (some ⟨g, 0, none⟩) n n) ∧ w.heap.size ≤ g ∧ Own w' g (n * 4) (paramF L) ∧ Below w.heap.size w w' := by
  obtain ⟨i0, hi, hz0, hz1, hz2⟩ := info_parts infoParam
  have HL : Hid (ParamsAt w a n L) := h
  clear h
  go_enter Tryd.func38, Tryd.ntmps38
  go_wp2_with (refine wpList_make_full _ rfl (.tmp 6) (.tmp 6) 36 rfl w.heap.size 66 i0 (.agg #[.string ⟨#[]⟩, .int .i64 0, .int .i64 0, .int .i64 0]) 4 Tryd.underlying36 hi hz0 hz1 .i64 .i64 _ _ n rfl rfl rfl rfl (by rw [hz2]; omega) (by unfold maxLen; omega) (Nat.le_refl _) ?_)
  intro w1 hown hg1
  have HB1 : Hid (Below w.heap.size w w1) := (Below.refl _ _).grown hg1 (Nat.le_refl _) (fun k hk => by cases hk)
  obtain ⟨F0, hO⟩ := own_some hown
  skip
  have HO : Hid (Own w1 w.heap.size (n * 4) F0) := hO
  clear hO
  clear hg1 hown
  go_wp2_with fail
  go_loopw [4] (fun i wr => ∃ k : Nat, i = .int .i64 (k : Int) ∧ k ≤ n ∧ Hid (Own wr w.heap.size (n * 4) (fun j => if j < k * 4 then paramF L j else F0 j)) ∧ Hid (Below w.heap.size w wr)) (fun i _ => n - (intOf i).toNat)
  case atStart => exact ⟨0, rfl, by omega, HO.out.congr (fun j _ => by rw [if_neg (by omega)]), HB1⟩
  case round =>
    obtain ⟨k, rfl, hk, HOr, HB⟩ := hrel
    by_cases hkn : k < n
    · have p0 : decide (k < n) = true := by simpa using hkn
      have p1 : decide ((k : Int) < (n : Int)) = true := by simpa using hkn
      rcases HL.out with h0 | ⟨g, o, rfl, hg, hc⟩
      · omega
      obtain ⟨c0, c1, c2, c3⟩ := hc k hkn
      have d0 := (HB.out.cell (p := ⟨g, _, none⟩) hg).trans c0
      have d1 := (HB.out.cell (p := ⟨g, _, none⟩) hg).trans c1
      have d2 := (HB.out.cell (p := ⟨g, _, none⟩) hg).trans c2
      have d3 := (HB.out.cell (p := ⟨g, _, none⟩) hg).trans c3
      have HE : Hid (paramF L (k * 4) = .string (L k).a ∧ paramF L (k * 4 + 1) = .int .i64 (L k).t ∧ paramF L (k * 4 + 2) = .int .i64 (L k).l ∧ paramF L (k * 4 + 3) = .int .i64 (L k).h) := paramF_at L k
      clear hc c0 c1 c2 c3
      generalize (L k).a = x0 at *
      generalize (L k).t = x1 at *
      generalize (L k).l = x2 at *
      generalize (L k).h = x3 at *
      go_wp2_with fail
      refine (to_param x0 x1 x2 x3 _).mono ?_
      rintro e w2 ⟨rfl, hb2⟩
      have HO2 : Hid (Own w2 w.heap.size (n * 4) (fun j => if j < k * 4 then paramF L j else F0 j)) := HOr.out.below hb2
      have HB2 : Hid (Below w.heap.size w w2) := HB.out.trans (hb2.mono HB.out.size)
      clear hb2 d0 d1 d2 d3
      have a0 := HO2.out.2.1 (k * 4) (by omega)
      have a1 := HO2.out.2.1 (k * 4 + 1) (by omega)
      have a2 := HO2.out.2.1 (k * 4 + 2) (by omega)
      have a3 := HO2.out.2.1 (k * 4 + 3) (by omega)
      have hf := HO2.out.2.2
      simp only [show ¬ k * 4 < k * 4 by omega, show ¬ k * 4 + 1 < k * 4 by omega, show ¬ k * 4 + 2 < k * 4 by omega, show ¬ k * 4 + 3 < k * 4 by omega, if_false] at a0 a1 a2 a3
      generalize F0 (k * 4) = y0 at a0
      generalize F0 (k * 4 + 1) = y1 at a1
      generalize F0 (k * 4 + 2) = y2 at a2
      generalize F0 (k * 4 + 3) = y3 at a3
      have HN := fun (_ : Unit) => param_step HO2.out hkn HE.out.1 HE.out.2.1 HE.out.2.2.1 HE.out.2.2.2
      have HN : Hid (Unit → _) := HN
      skip
      go_wp2_with fail
      go_roundw
      case rel =>
        have s := Nat.le_refl w.heap.size
        exact ⟨k + 1, by go_num, by omega, HN.out (), ((((HB2.out.setCell s _).setCell s _).setCell s _).setCell s _)⟩
      case measure => simp [intOf]; omega
    · have p0 : decide (k < n) = false := by simpa using hkn
      have p1 : decide ((k : Int) < (n : Int)) = false := by simpa using hkn
      obtain rfl : k = n := by omega
      go_wp2_with fail
      go_ret
      exact ⟨w.heap.size, rfl, Nat.le_refl _, HOr.out.congr (fun j hj => by rw [if_pos hj]), HB.out⟩
set_option maxRecDepth 100000 in
set_option maxHeartbeats 4000000 in
theorem eq_param (x0 : ByteArray) (x1 : Int) (x2 : Int) (x3 : Int) (w : World) :
    Calls Tryd.prog 60 #[.agg #[.string x0, .int .i64 x1, .int .i64 x2, .int .i64 x3], .agg #[.string x0, .int .i64 x1, .int .i64 x2, .int .i64 x3]] w fun e w' => e = .returned (.bool true) ∧ Below w.heap.size w w' := by
  have hxx : ∀ x : List UInt8, (x == x) = true := fun x => by simp
  have hii : ∀ x : Int, (x != x) = false := fun x => by simp
  go_enter Tryd.func60, Tryd.ntmps60
  go_wp2
  go_ret
  exact ⟨rfl, ((Below.refl _ _).alloc (Nat.le_refl _) _).alloc (by simp) _⟩
set_option maxRecDepth 100000 in
set_option maxHeartbeats 4000000 in
theorem eq_params (a a' : Option Addr) (n cap cap' : Nat) (L : Nat → Pm) (hn : n ≤ 1048576) (w : World) (h : ParamsAt w a n L) (h' : ParamsAt w a' n L) :
    Calls Tryd.prog 41 #[.slice a n cap, .slice a' n cap'] w fun e w' => e = .returned (.bool true) ∧ Below w.heap.size w w' := by
  have HR : Hid (ParamsAt w a n L) := h
  have HR' : Hid (ParamsAt w a' n L) := h'
  clear h h'
  have hnn : ((n : Int) != (n : Int)) = false := by simp
  have hxx : ∀ x : List UInt8, (x == x) = true := fun x => by simp
  go_enter Tryd.func41, Tryd.ntmps41
  go_wp2_with fail
  go_loopw [5] (fun i wr => ∃ k : Nat, i = .int .i64 k ∧ k ≤ n ∧ Below w.heap.size w wr) (fun i _ => n - (intOf i).toNat)
  case atStart => exact ⟨0, rfl, by omega, Below.refl _ _⟩
  case round =>
    obtain ⟨k, rfl, hk, hb⟩ := hrel
    have HB : Hid (Below w.heap.size w wr) := hb
    have hsr := hb.size
    clear hb
    by_cases hkn : k < n
    · have q0 : decide (k < n) = true := by simpa using hkn
      have q1 : decide ((k : Int) < (n : Int)) = true := by simpa using hkn
      rcases HR.out with h0 | ⟨g, o, rfl, hg, hc⟩
      · omega
      rcases HR'.out with h0 | ⟨g', o', rfl, hg', hc'⟩
      · omega
      obtain ⟨c0, c1, c2, c3⟩ := hc k hkn
      obtain ⟨d0, d1, d2, d3⟩ := hc' k hkn
      have a0 := (HB.out.cell (p := ⟨g, _, none⟩) hg).trans c0
      have a1 := (HB.out.cell (p := ⟨g, _, none⟩) hg).trans c1
      have a2 := (HB.out.cell (p := ⟨g, _, none⟩) hg).trans c2
      have a3 := (HB.out.cell (p := ⟨g, _, none⟩) hg).trans c3
      have b0 := (HB.out.cell (p := ⟨g', _, none⟩) hg').trans d0
      have b1 := (HB.out.cell (p := ⟨g', _, none⟩) hg').trans d1
      have b2 := (HB.out.cell (p := ⟨g', _, none⟩) hg').trans d2
      have b3 := (HB.out.cell (p := ⟨g', _, none⟩) hg').trans d3
      clear hc hc' c0 d0 c1 d1 c2 d2 c3 d3
      generalize (L k).a = x0 at *
      generalize (L k).t = x1 at *
      generalize (L k).l = x2 at *
      generalize (L k).h = x3 at *
      skip
      have hgr : g < wr.heap.size := by omega
      have hgr' : g' < wr.heap.size := by omega
      go_upto_region 6 with fail
      go_region_held3 (fun W => W.cell? ⟨g, o + k * 4, none⟩ = some (.string x0) ∧ W.cell? ⟨g, o + k * 4 + 1, none⟩ = some (.int .i64 x1) ∧ W.cell? ⟨g, o + k * 4 + 2, none⟩ = some (.int .i64 x2) ∧ W.cell? ⟨g, o + k * 4 + 3, none⟩ = some (.int .i64 x3) ∧ W.cell? ⟨g', o' + k * 4, none⟩ = some (.string x0) ∧ W.cell? ⟨g', o' + k * 4 + 1, none⟩ = some (.int .i64 x1) ∧ W.cell? ⟨g', o' + k * 4 + 2, none⟩ = some (.int .i64 x2) ∧ W.cell? ⟨g', o' + k * 4 + 3, none⟩ = some (.int .i64 x3)) (go_keep) (first | (go_at_call 60; refine (eq_param _ _ _ _ _).mono ?_; rintro e w2 ⟨rfl, hb2⟩; have e0 : w2.cell? ⟨g, o + k * 4, none⟩ = some (.string x0) := (hb2.cell (p := ⟨g, o + k * 4, none⟩) hgr).trans a0; have e1 : w2.cell? ⟨g, o + k * 4 + 1, none⟩ = some (.int .i64 x1) := (hb2.cell (p := ⟨g, o + k * 4 + 1, none⟩) hgr).trans a1; have e2 : w2.cell? ⟨g, o + k * 4 + 2, none⟩ = some (.int .i64 x2) := (hb2.cell (p := ⟨g, o + k * 4 + 2, none⟩) hgr).trans a2; have e3 : w2.cell? ⟨g, o + k * 4 + 3, none⟩ = some (.int .i64 x3) := (hb2.cell (p := ⟨g, o + k * 4 + 3, none⟩) hgr).trans a3; have f0 : w2.cell? ⟨g', o' + k * 4, none⟩ = some (.string x0) := (hb2.cell (p := ⟨g', o' + k * 4, none⟩) hgr').trans b0; have f1 : w2.cell? ⟨g', o' + k * 4 + 1, none⟩ = some (.int .i64 x1) := (hb2.cell (p := ⟨g', o' + k * 4 + 1, none⟩) hgr').trans b1; have f2 : w2.cell? ⟨g', o' + k * 4 + 2, none⟩ = some (.int .i64 x2) := (hb2.cell (p := ⟨g', o' + k * 4 + 2, none⟩) hgr').trans b2; have f3 : w2.cell? ⟨g', o' + k * 4 + 3, none⟩ = some (.int .i64 x3) := (hb2.cell (p := ⟨g', o' + k * 4 + 3, none⟩) hgr').trans b3))
      have HB2 : Hid (Below w.heap.size w w2) := HB.out.drew.trans (hb2.mono hsr)
      clear hb2 a0 b0 e0 f0 a1 b1 e1 f1 a2 b2 e2 f2 a3 b3 e3 f3
      go_wp2
      go_roundw
      case rel => exact ⟨k + 1, by go_num, by omega, HB2.out⟩
      case measure => simp [intOf]; omega
    · have q0 : decide (k < n) = false := by simpa using hkn
      have q1 : decide ((k : Int) < (n : Int)) = false := by simpa using hkn
      go_wp2_with fail
      go_ret
      exact ⟨rfl, HB.out⟩
end Go.Proofs.YtnefcldjigndgaaDoor
