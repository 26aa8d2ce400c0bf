/- Lists of instructions, and modules: their sizes, copies, comparison and marks: what the laws' helpers do. -/
import Derived.Test.YtdbahildcecgbaaDoorLines
import Derived.Test.YtdbahildcecgbaaDoorInts
import Derived.Test.YtdbahildcecgbaaDoorCodeM
namespace Go.Proofs.YtdbahildcecgbaaDoor
open Go.RowKit
open Go.Proofs.YtdbahildcecgbaaDoor.Draw

/-- n instructions in memory. -/
def InsAt (w : World) (a : Option Addr) (n : Nat) (L : Nat → In) : Prop := n = 0 ∨ ∃ g o, a = some ⟨g, o, none⟩ ∧ g < w.heap.size ∧ ∀ i, i < n → w.cell? ⟨g, o + i * 3, none⟩ = some (.int .i64 (L i).o) ∧ w.cell? ⟨g, o + i * 3 + 1, none⟩ = some (.int .i64 (L i).a) ∧ w.cell? ⟨g, o + i * 3 + 2, none⟩ = some (.int .i64 (L i).b)
theorem InsAt.below {w w' : World} {a : Option Addr} {n : Nat} {L : Nat → In} (h : InsAt w a n L) (hb : Below w.heap.size w w') : InsAt w' a n L := by
  rcases h with h | ⟨g, o, rfl, hg, hc⟩
  · exact Or.inl h
  · refine Or.inr ⟨g, o, rfl, Nat.lt_of_lt_of_le hg hb.size, fun i hi => ?_⟩
    obtain ⟨c0, c1, c2⟩ := hc i hi
    exact ⟨(hb.cell (p := ⟨g, _, none⟩) hg).trans c0, (hb.cell (p := ⟨g, _, none⟩) hg).trans c1, (hb.cell (p := ⟨g, _, none⟩) hg).trans c2⟩
theorem InsAt.grown {w w' : World} {a : Option Addr} {n : Nat} {row : Option Nat} {L : Nat → In} (h : InsAt w a n L) (hg : w.grownBy w' row) (hne : ∀ k, a.map Addr.block = some k → some k ≠ row) : InsAt w' a n L := by
  rcases h with h | ⟨g, o, rfl, hl, hc⟩
  · exact Or.inl h
  · have hb := hg.block g hl (hne g rfl)
    refine Or.inr ⟨g, o, rfl, Nat.lt_of_lt_of_le hl hg.size, fun i hi => ?_⟩
    obtain ⟨c0, c1, c2⟩ := hc i hi
    exact ⟨(World.cell?_of_block (a := ⟨g, _, none⟩) hb).trans c0, (World.cell?_of_block (a := ⟨g, _, none⟩) hb).trans c1, (World.cell?_of_block (a := ⟨g, _, none⟩) hb).trans c2⟩
/-- Their cells by number. -/
def insF (L : Nat → In) (j : Nat) : Value := if j % 3 = 0 then .int .i64 (L (j / 3)).o else if j % 3 = 1 then .int .i64 (L (j / 3)).a else .int .i64 (L (j / 3)).b
theorem insF_at (L : Nat → In) (i : Nat) : insF L (i * 3) = .int .i64 (L i).o ∧ insF L (i * 3 + 1) = .int .i64 (L i).a ∧ insF L (i * 3 + 2) = .int .i64 (L i).b := by
  refine ⟨?_, ?_, ?_⟩
  · rw [insF, if_pos (by omega), show (i * 3) / 3 = i by omega]
  · rw [insF, if_neg (by omega), if_pos (by omega), show (i * 3 + 1) / 3 = i by omega]
  · rw [insF, if_neg (by omega), if_neg (by omega), show (i * 3 + 2) / 3 = i by omega]
theorem Own.inss {w : World} {g n : Nat} {L : Nat → In} (h : Own w g (n * 3) (insF L)) : InsAt w (some ⟨g, 0, none⟩) n L := by
  refine Or.inr ⟨g, 0, rfl, h.1, fun i hi => ?_⟩
  obtain ⟨e0, e1, e2⟩ := insF_at L i
  rw [Nat.zero_add, ← e0, ← e1, ← e2]
  exact ⟨h.2.1 _ (by omega), h.2.1 _ (by omega), h.2.1 _ (by omega)⟩
/-- One more is written. -/
theorem ins_step {w : World} {g n I : Nat} {F G : Nat → Value} (h : Own w g (n * 3) (fun j => if j < I * 3 then G j else F j)) (hI : I < n) {v0 v1 v2 : Value} (e0 : G (I * 3) = v0) (e1 : G (I * 3 + 1) = v1) (e2 : G (I * 3 + 2) = v2) :
    Own (((w.setCell ⟨g, I * 3, none⟩ v0).setCell ⟨g, I * 3 + 1, none⟩ v1).setCell ⟨g, I * 3 + 2, none⟩ v2) g (n * 3) (fun j => if j < (I + 1) * 3 then G j else F j) := by
  refine (((h.set (i := I * 3) (by omega) v0).set (i := I * 3 + 1) (by omega) v1).set (i := I * 3 + 2) (by omega) v2).congr fun j _ => ?_
  show (if j = I * 3 + 2 then v2 else if j = I * 3 + 1 then v1 else if j = I * 3 then v0 else if j < I * 3 then G j else F j) = if j < (I + 1) * 3 then G j else F j
  by_cases c2 : j = I * 3 + 2
  · rw [if_pos c2, if_pos (by omega), c2, e2]
  rw [if_neg c2]
  by_cases c1 : j = I * 3 + 1
  · rw [if_pos c1, if_pos (by omega), c1, e1]
  rw [if_neg c1]
  by_cases c0 : j = I * 3
  · rw [if_pos c0, if_pos (by omega), c0, e0]
  rw [if_neg c0]
  by_cases c : j < I * 3
  · rw [if_pos c, if_pos (by omega)]
  · rw [if_neg c, if_neg (by omega)]
set_option maxRecDepth 100000 in
set_option maxHeartbeats 4000000 in
theorem eq_ins (x0 x1 x2 : Int) (w : World) :
    Calls Tryd.prog 40 #[.agg #[.int .i64 x0, .int .i64 x1, .int .i64 x2], .agg #[.int .i64 x0, .int .i64 x1, .int .i64 x2]] w fun e w' => e = .returned (.bool true) ∧ Below w.heap.size w w' := by
  have hxx : ∀ x : Int, (x != x) = false := fun x => by simp
  go_enter Tryd.func40, Tryd.ntmps40
  go_wp2
  go_ret
  exact ⟨rfl, ((Below.refl _ _).alloc (Nat.le_refl _) _).alloc (by simp) _⟩
set_option maxRecDepth 100000 in
set_option maxHeartbeats 4000000 in
theorem eq_inss (a a' : Option Addr) (n cap cap' : Nat) (L : Nat → In) (hn : n ≤ 1048576) (w : World) (h : InsAt w a n L) (h' : InsAt w a' n L) :
    Calls Tryd.prog 30 #[.slice a n cap, .slice a' n cap'] w fun e w' => e = .returned (.bool true) ∧ Below w.heap.size w w' := by
  have HR : Hid (InsAt w a n L) := h
  have HR' : Hid (InsAt w a' n L) := h'
  clear h h'
  have hnn : ((n : Int) != (n : Int)) = false := by simp
  have hxx : ∀ x : List UInt8, (x == x) = true := fun x => by simp
  go_enter Tryd.func30, Tryd.ntmps30
  go_wp2_with fail
  go_loopw [5] (fun i wr => ∃ k : Nat, i = .int .i64 k ∧ k ≤ n ∧ Below w.heap.size w wr) (fun i _ => n - (intOf i).toNat)
  case atStart => exact ⟨0, rfl, by omega, Below.refl _ _⟩
  case round =>
    obtain ⟨k, rfl, hk, hb⟩ := hrel
    have HB : Hid (Below w.heap.size w wr) := hb
    have hsr := hb.size
    clear hb
    by_cases hkn : k < n
    · have q0 : decide (k < n) = true := by simpa using hkn
      have q1 : decide ((k : Int) < (n : Int)) = true := by simpa using hkn
      rcases HR.out with h0 | ⟨g, o, rfl, hg, hc⟩
      · omega
      rcases HR'.out with h0 | ⟨g', o', rfl, hg', hc'⟩
      · omega
      obtain ⟨c0, c1, c2⟩ := hc k hkn
      obtain ⟨d0, d1, d2⟩ := hc' k hkn
      have a0 := (HB.out.cell (p := ⟨g, _, none⟩) hg).trans c0
      have a1 := (HB.out.cell (p := ⟨g, _, none⟩) hg).trans c1
      have a2 := (HB.out.cell (p := ⟨g, _, none⟩) hg).trans c2
      have b0 := (HB.out.cell (p := ⟨g', _, none⟩) hg').trans d0
      have b1 := (HB.out.cell (p := ⟨g', _, none⟩) hg').trans d1
      have b2 := (HB.out.cell (p := ⟨g', _, none⟩) hg').trans d2
      clear hc hc' c0 d0 c1 d1 c2 d2
      generalize (L k).o = x0 at *
      generalize (L k).a = x1 at *
      generalize (L k).b = x2 at *
      skip
      have hgr : g < wr.heap.size := by omega
      have hgr' : g' < wr.heap.size := by omega
      go_upto_region 6 with fail
      go_region_held3 (fun W => W.cell? ⟨g, o + k * 3, none⟩ = some (.int .i64 x0) ∧ W.cell? ⟨g, o + k * 3 + 1, none⟩ = some (.int .i64 x1) ∧ W.cell? ⟨g, o + k * 3 + 2, none⟩ = some (.int .i64 x2) ∧ W.cell? ⟨g', o' + k * 3, none⟩ = some (.int .i64 x0) ∧ W.cell? ⟨g', o' + k * 3 + 1, none⟩ = some (.int .i64 x1) ∧ W.cell? ⟨g', o' + k * 3 + 2, none⟩ = some (.int .i64 x2)) (go_keep) (first | (go_at_call 40; refine (eq_ins _ _ _ _).mono ?_; rintro e w2 ⟨rfl, hb2⟩; have e0 : w2.cell? ⟨g, o + k * 3, none⟩ = some (.int .i64 x0) := (hb2.cell (p := ⟨g, o + k * 3, none⟩) hgr).trans a0; have e1 : w2.cell? ⟨g, o + k * 3 + 1, none⟩ = some (.int .i64 x1) := (hb2.cell (p := ⟨g, o + k * 3 + 1, none⟩) hgr).trans a1; have e2 : w2.cell? ⟨g, o + k * 3 + 2, none⟩ = some (.int .i64 x2) := (hb2.cell (p := ⟨g, o + k * 3 + 2, none⟩) hgr).trans a2; have f0 : w2.cell? ⟨g', o' + k * 3, none⟩ = some (.int .i64 x0) := (hb2.cell (p := ⟨g', o' + k * 3, none⟩) hgr').trans b0; have f1 : w2.cell? ⟨g', o' + k * 3 + 1, none⟩ = some (.int .i64 x1) := (hb2.cell (p := ⟨g', o' + k * 3 + 1, none⟩) hgr').trans b1; have f2 : w2.cell? ⟨g', o' + k * 3 + 2, none⟩ = some (.int .i64 x2) := (hb2.cell (p := ⟨g', o' + k * 3 + 2, none⟩) hgr').trans b2))
      have HB2 : Hid (Below w.heap.size w w2) := HB.out.drew.trans (hb2.mono hsr)
      clear hb2 a0 b0 e0 f0 a1 b1 e1 f1 a2 b2 e2 f2
      go_wp2
      go_roundw
      case rel => exact ⟨k + 1, by go_num, by omega, HB2.out⟩
      case measure => simp [intOf]; omega
    · have q0 : decide (k < n) = false := by simpa using hkn
      have q1 : decide ((k : Int) < (n : Int)) = false := by simpa using hkn
      go_wp2_with fail
      go_ret
      exact ⟨rfl, HB.out⟩
theorem Own.far {w : World} {g N b j : Nat} {F : Nat → Value} {u : Value} (h : Own w g N F) (hne : g ≠ b) : Own (w.setCell ⟨b, j, none⟩ u) g N F := h.grown (setGrown (World.grownBy.refl w (some b))) hne
set_option maxRecDepth 100000 in
set_option maxHeartbeats 4000000 in
theorem eq_mod (z0 z1 z2 z3 : Int) (a a' : Option Addr) (n c c' : Nat) (L : Nat → In) (hn : n ≤ 1048576) (w : World) (h : InsAt w a n L) (h' : InsAt w a' n L) :
    Calls Tryd.prog 16 #[.agg #[.int .i64 z0, .int .i64 z1, .int .i64 z2, .int .i64 z3, .slice a n c], .agg #[.int .i64 z0, .int .i64 z1, .int .i64 z2, .int .i64 z3, .slice a' n c']] w fun e w' => e = .returned (.bool true) ∧ Below w.heap.size w w' := by
  have hii : ∀ x : Int, (x != x) = false := fun x => by simp
  have HX0 : Hid (Both w ((w.alloc (.cells #[.int .i64 z0, .int .i64 z1, .int .i64 z2, .int .i64 z3, .slice a n c] 24)).alloc (.cells #[.int .i64 z0, .int .i64 z1, .int .i64 z2, .int .i64 z3, .slice a' n c'] 24)) #[.int .i64 z0, .int .i64 z1, .int .i64 z2, .int .i64 z3, .slice a n c] #[.int .i64 z0, .int .i64 z1, .int .i64 z2, .int .i64 z3, .slice a' n c']) := two_now w _ _ _ _
  have HA : Hid (InsAt w a n L ∧ InsAt w a' n L) := ⟨h, h'⟩
  clear h h'
  go_enter Tryd.func16, Tryd.ntmps16
  go_wp2_with fail
  refine (eq_inss a a' n c c' L hn _ (HA.out.1.below HX0.out.bel) (HA.out.2.below HX0.out.bel)).mono ?_
  rintro e w1 ⟨rfl, hb1⟩
  have HX1 : Hid (Both w w1 #[.int .i64 z0, .int .i64 z1, .int .i64 z2, .int .i64 z3, .slice a n c] #[.int .i64 z0, .int .i64 z1, .int .i64 z2, .int .i64 z3, .slice a' n c']) := HX0.out.next hb1
  have HBN : Hid (Below w.heap.size w w1) := HX1.out.bel
  go_wp2_with fail
  go_ret
  exact ⟨rfl, HBN.out⟩
set_option maxRecDepth 100000 in
set_option maxHeartbeats 4000000 in
theorem mark_inss (a : Option Addr) (n cap : Nat) (F : Nat → Value) (hn : n ≤ 1048576) (k0 : Nat) (hk2 : k0 ≤ 549755813888) (w : World) (h : OwnR w a n 3 F) :
    Calls Tryd.prog 31 #[.slice a n cap, .int .i64 (k0 : Int)] w fun e w' => e = .returned (.int .i64 ((k0 + n * 3 : Nat) : Int)) ∧ OwnR w' a n 3 (mkI k0) ∧ w.grownBy w' (a.map Addr.block) := by
  rcases h with h0 | ⟨g, rfl, hO⟩
  · subst h0
    go_enter Tryd.func31, Tryd.ntmps31
    go_wp2_with fail
    refine wp_loop_rounds 1 ?_
    rw [rounds_succ]
    go_wp2
    go_ret
    exact ⟨ret_int (by omega), Or.inl rfl, World.grownBy.refl _ _⟩
  have HO : Hid (Own w g (n * 3) F) := hO
  clear hO
  go_enter Tryd.func31, Tryd.ntmps31
  go_wp2_with fail
  go_loopw [1, 5] (fun x i wr => ∃ I K : Nat, x = .int .i64 (K : Int) ∧ i = .int .i64 (I : Int) ∧ I ≤ n ∧ K = k0 + I * 3 ∧ Hid (Own wr g (n * 3) (fun j => if j < I * 3 then mkI k0 j else F j)) ∧ Hid (w.grownBy wr (some g))) (fun _ i _ => n - (intOf i).toNat)
  case atStart => exact ⟨0, k0, rfl, rfl, by omega, by omega, HO.out.congr (fun j _ => by rw [if_neg (by omega)]), World.grownBy.refl _ _⟩
  case round =>
    obtain ⟨I, K, rfl, rfl, hI, hK, HOr, HG⟩ := hrel
    by_cases hin : I < n
    · have p0 : decide (I < n) = true := by simpa using hin
      have p1 : decide ((I : Int) < (n : Int)) = true := by simpa using hin
      have HE : Hid (mkI k0 (I * 3) = .int .i64 (K : Int) ∧ mkI k0 (I * 3 + 1) = .int .i64 ((K : Int) + 1) ∧ mkI k0 (I * 3 + 2) = .int .i64 ((K : Int) + 1 + 1)) := by
        refine ⟨by rw [hK]; rfl, ?_, ?_⟩ <;> (unfold mkI; congr 1; omega)
      have hKb : K ≤ 1099511627000 := by omega
      have HK : Hid (K = k0 + I * 3) := hK
      clear hK
      obtain ⟨y0, hc0⟩ : ∃ y, wr.cell? ⟨g, I * 3, none⟩ = some y := ⟨_, HOr.out.2.1 (I * 3) (by omega)⟩
      obtain ⟨y1, hc1⟩ : ∃ y, wr.cell? ⟨g, I * 3 + 1, none⟩ = some y := ⟨_, HOr.out.2.1 (I * 3 + 1) (by omega)⟩
      obtain ⟨y2, hc2⟩ : ∃ y, wr.cell? ⟨g, I * 3 + 2, none⟩ = some y := ⟨_, HOr.out.2.1 (I * 3 + 2) (by omega)⟩
      have hf := HOr.out.2.2
      have HO1 := ins_step HOr.out hin HE.out.1 HE.out.2.1 HE.out.2.2
      have HG1 := setGrown (j := I * 3 + 2) (u := .int .i64 ((K : Int) + 1 + 1)) (setGrown (j := I * 3 + 1) (u := .int .i64 ((K : Int) + 1)) (setGrown (j := I * 3) (u := .int .i64 (K : Int)) HG.out))
      have HN := fun (_ : Unit) => And.intro HO1 HG1
      have HN : Hid (Unit → _) := HN
      clear HOr HG HE HO1 HG1
      go_wp2_with fail
      go_roundw
      case rel => exact ⟨I + 1, K + 3, by go_num, by go_num, by omega, by have := HK.out; omega, (HN.out ()).1, (HN.out ()).2⟩
      case measure => simp [intOf]; omega
    · have p0 : decide (I < n) = false := by simpa using hin
      have p1 : decide ((I : Int) < (n : Int)) = false := by simpa using hin
      obtain rfl : I = n := by omega
      go_wp2_with fail
      go_ret
      exact ⟨ret_int (by omega), Or.inr ⟨g, rfl, HOr.out.congr (fun j hj => by rw [if_pos hj])⟩, HG.out⟩
set_option maxRecDepth 100000 in
set_option maxHeartbeats 4000000 in
theorem held_inss (a : Option Addr) (n cap : Nat) (hn : n ≤ 1048576) (k0 : Nat) (hk2 : k0 ≤ 549755813888) (w : World) (h : OwnR w a n 3 (mkI k0)) :
    Calls Tryd.prog 32 #[.slice a n cap, .int .i64 (k0 : Int)] w fun e w' => e = .returned (.int .i64 ((k0 + n * 3 : Nat) : Int)) ∧ Below w.heap.size w w' := by
  rcases h with h0 | ⟨g, rfl, hO⟩
  · subst h0
    go_enter Tryd.func32, Tryd.ntmps32
    go_wp2_with fail
    refine wp_loop_rounds 1 ?_
    rw [rounds_succ]
    go_wp2
    go_ret
    exact ⟨ret_int (by omega), Below.refl _ _⟩
  have HO : Hid (Own w g (n * 3) (mkI k0)) := hO
  clear hO
  go_enter Tryd.func32, Tryd.ntmps32
  go_wp2_with fail
  go_loopw [1, 5] (fun x i wr => ∃ I K : Nat, x = .int .i64 (K : Int) ∧ i = .int .i64 (I : Int) ∧ I ≤ n ∧ K = k0 + I * 3 ∧ Hid (Below w.heap.size w wr)) (fun _ i _ => n - (intOf i).toNat)
  case atStart => exact ⟨0, k0, rfl, rfl, by omega, by omega, Below.refl _ _⟩
  case round =>
    obtain ⟨I, K, rfl, rfl, hI, hK, HB⟩ := hrel
    by_cases hin : I < n
    · have p0 : decide (I < n) = true := by simpa using hin
      have p1 : decide ((I : Int) < (n : Int)) = true := by simpa using hin
      have HE : Hid (mkI k0 (I * 3) = .int .i64 (K : Int) ∧ mkI k0 (I * 3 + 1) = .int .i64 ((K : Int) + 1) ∧ mkI k0 (I * 3 + 2) = .int .i64 ((K : Int) + 1 + 1)) := by
        refine ⟨by rw [hK]; rfl, ?_, ?_⟩ <;> (unfold mkI; congr 1; omega)
      have hKb : K ≤ 1099511627000 := by omega
      have HK : Hid (K = k0 + I * 3) := hK
      clear hK
      have hxx : ∀ x : Int, (x != x) = false := fun x => by simp
      have hO := HO.out.below HB.out
      have b0 : wr.cell? ⟨g, I * 3, none⟩ = some (.int .i64 (K : Int)) := (hO.2.1 _ (by omega)).trans (by rw [HE.out.1])
      have b1 : wr.cell? ⟨g, I * 3 + 1, none⟩ = some (.int .i64 ((K : Int) + 1)) := (hO.2.1 _ (by omega)).trans (by rw [HE.out.2.1])
      have b2 : wr.cell? ⟨g, I * 3 + 2, none⟩ = some (.int .i64 ((K : Int) + 1 + 1)) := (hO.2.1 _ (by omega)).trans (by rw [HE.out.2.2])
      have hgr : g < wr.heap.size := hO.1
      clear hO HE
      go_wp2_with fail
      go_roundw
      case rel => exact ⟨I + 1, K + 3, by go_num, by go_num, by omega, by have := HK.out; omega, HB⟩
      case measure => simp [intOf]; omega
    · have p0 : decide (I < n) = false := by simpa using hin
      have p1 : decide ((I : Int) < (n : Int)) = false := by simpa using hin
      obtain rfl : I = n := by omega
      go_wp2_with fail
      go_ret
      exact ⟨ret_int (by omega), HB.out⟩
end Go.Proofs.YtdbahildcecgbaaDoor
