/- The law of BookPost. · Arguments that are lists of texts: their cells, read out of the arguments' reading. · Arguments that are books, by value: their cells, read out of the arguments' reading. · Arguments that are lists of records: their cells, read out of the arguments' reading. · What the rows' lists of package-level variables give the walks: the handle of the type 'error', the table of powers of ten; and a world that meets each list (what the program's own start-up lays). -/
import Derived.Test.YtepkmbfedblhdaaGreatDoorJ6
import Derived.Test.YtepkmbfedblhdaaGreatDoorJ1
import Derived.Deep.Slices
import Derived.ChangeArms
import Derived.OpenShut
import Derived.Lib.SmallJoins
import Derived.Test.YtepkmbfedblhdaaGreatDoorJ3
import Derived.Lib.LaidTab
import Derived.Lib.ItoaNum
import Derived.LaidHandle
import Derived.LaidLaws
import Derived.LaidMore
import Derived.MakeChecks
import Derived.Stop.Joined
import Derived.Stop.LaidErr
namespace Go.Proofs.YtepkmbfedblhdaaGreatDoor
open Go.RowKit
open Go.Proofs.YtepkmbfedblhdaaGreatDoor.Draw

theorem D4.newd (w : World) (v0 v1 v2 v3 : Value) (t : TypeId) : D4 (w.alloc (.cells #[v0, v1, v2, v3] t)).drew w.heap.size v0 v1 v2 v3 := ⟨by simp, by simp, by simp, by simp, fun j => by show (w.alloc _).frozen? _ = false; exact fnew' rfl j, by show w.heap.size < (w.alloc _).heap.size; simp⟩
theorem Bc.kb {W W' : World} {b : Nat} {v u : Value} {ra rb : Option Nat} (h : Bc W b v u) (hk : Kb W W' ra rb) (h1 : some b ≠ ra) (h2 : some b ≠ rb) : Bc W' b v u := ⟨(hk.cell h.lt h1 h2).trans h.c0, (hk.cell h.lt h1 h2).trans h.c1, Nat.lt_of_lt_of_le h.lt hk.size⟩
theorem Bc.gr {W W' : World} {b : Nat} {v u : Value} {q : Nat} (h : Bc W b v u) (hg : W.grownBy W' (some q)) (hne : b ≠ q) : Bc W' b v u := by
  have hb := hg.block b h.lt (by simpa using hne)
  exact ⟨(World.cell?_of_block (a := ⟨b, 0, none⟩) hb).trans h.c0, (World.cell?_of_block (a := ⟨b, 1, none⟩) hb).trans h.c1, Nat.lt_of_lt_of_le h.lt hg.size⟩
theorem D4.gr {W W' : World} {b q : Nat} {v0 v1 v2 v3 : Value} (h : D4 W b v0 v1 v2 v3) (hg : W.grownBy W' (some q)) (hne : b ≠ q) : D4 W' b v0 v1 v2 v3 := by
  have hb := hg.block b h.lt (by simpa using hne)
  exact ⟨(World.cell?_of_block (a := ⟨b, 0, none⟩) hb).trans h.c0, (World.cell?_of_block (a := ⟨b, 1, none⟩) hb).trans h.c1, (World.cell?_of_block (a := ⟨b, 2, none⟩) hb).trans h.c2, (World.cell?_of_block (a := ⟨b, 3, none⟩) hb).trans h.c3, fun j => (World.frozen?_of_block (a := ⟨b, j, none⟩) hb).trans (h.fz j), Nat.lt_of_lt_of_le h.lt hg.size⟩
theorem OwnR.gr {W W' : World} {a : Option Addr} {n c q : Nat} {F : Nat → Value} (h : OwnR W a n c F) (hg : W.grownBy W' (some q)) (hne : ∀ k, a.map Addr.block = some k → k ≠ q) : OwnR W' a n c F := h.grown hg (fun k e => by simpa using hne k e)
theorem below_gr {B q : Nat} {w W W' : World} (h : Below B w W) (hg : W.grownBy W' (some q)) (hs : B ≤ W.heap.size) (hq : B ≤ q) : Below B w W' := h.grown hg hs (fun k e => by simp at e; omega)
theorem postF_small (n m K : Nat) (L : Nat → Ln) (I : Nat → Tx) (z : ByteArray) (k : Nat) (Q : Nat → Lg) (hn : n ≤ 1048576) : (postF n m K L I z k Q).N ≤ 1048576 ∧ (postF n m K L I z k Q).K ≤ 1048576 := by
  unfold postF
  repeat' split
  all_goals refine ⟨?_, ?_⟩ <;> simp only [] <;> omega
set_option maxRecDepth 100000 in
set_option maxHeartbeats 16000000 in
theorem law_bookPost (a b : Option Addr) (n m cap cap' : Nat) (L : Nat → Ln) (I : Nat → Tx) (hn : n ≤ maxLen) (hm : m ≤ maxLen) (hf : ∀ i, i < n → (L i).fits) (hfi : ∀ i, i < m → (I i).fits) (z : ByteArray) (hz : z.size ≤ maxLen) (q : Option Addr) (nl kc : Nat) (Q : Nat → Lg) (hnl : nl ≤ maxLen) (hfq : ∀ i, i < nl → (Q i).fits) (w : World) (hL : Lay w) (h : LinesAt w a n L) (h' : TextsAt w b m I) (hQ : LegsAt w q nl Q) :
    Calls Tryz.prog 3 #[.agg #[.slice a n cap, .slice b m cap'], .string z, .slice q nl kc] w fun e w' => e = .returned (.bool true) ∧ Below w.heap.size w w' := by
  have HL0 : Hid (LinesAt w a n L) := h
  have HI0 : Hid (TextsAt w b m I) := h'
  have HQ0 : Hid (LegsAt w q nl Q) := hQ
  have HF : Hid ((∀ i, i < n → (L i).fits) ∧ (∀ i, i < m → (I i).fits) ∧ ∀ i, i < nl → (Q i).fits) := ⟨hf, hfi, hfq⟩
  have HNN : Hid (n ≤ maxLen ∧ m ≤ maxLen ∧ nl ≤ maxLen) := ⟨hn, hm, hnl⟩
  have HLy : Hid (Lay w) := hL
  obtain ⟨kp, hkp⟩ : ∃ k, idsB m I = true → IsMark I z m k := by
    by_cases hl : idsB m I = true
    · obtain ⟨k, hk⟩ := mark_is ((idsB_iff m I).1 hl).2 z
      exact ⟨k, fun _ => hk⟩
    · exact ⟨0, fun h => absurd h hl⟩
  have HSM : Hid (n ≤ 1048576 → (postF n m nl L I z kp Q).N ≤ 1048576 ∧ (postF n m nl L I z kp Q).K ≤ 1048576) := fun h => postF_small n m nl L I z kp Q h
  have HSP : Hid (∀ g k l W, n ≤ 1048576 → m ≤ 1048576 → nl ≤ 1048576 → LinesAt W (some ⟨g, 0, none⟩) n L → TextsAt W (some ⟨k, 0, none⟩) m I → LegsAt W (some ⟨l, 0, none⟩) nl Q → Calls Tryz.prog 6 #[.agg #[.slice (some ⟨g, 0, none⟩) n n, .slice (some ⟨k, 0, none⟩) m m], .string z, .slice (some ⟨l, 0, none⟩) nl nl] W (BkOut W (postF n m nl L I z kp Q).N (postF n m nl L I z kp Q).K (postF n m nl L I z kp Q).L (postF n m nl L I z kp Q).I (postF n m nl L I z kp Q).p (postF n m nl L I z kp Q).cd)) := fun g k l W h1 h2 h3 h4 h5 h6 => spec_bookPost g 0 k 0 n m n m L I h1 h2 (Nat.le_refl _) (by unfold maxLen; omega) HF.out.1 HF.out.2.1 z hz _ nl nl Q h3 HF.out.2.2 kp hkp W h4 h5 h6
  have HIP : Hid (∀ g k l W, n ≤ 1048576 → m ≤ 1048576 → nl ≤ 1048576 → Lay W → LinesAt W (some ⟨g, 0, none⟩) n L → TextsAt W (some ⟨k, 0, none⟩) m I → LegsAt W (some ⟨l, 0, none⟩) nl Q → Calls Tryz.prog 9 #[.agg #[.slice (some ⟨g, 0, none⟩) n n, .slice (some ⟨k, 0, none⟩) m m], .string z, .slice (some ⟨l, 0, none⟩) nl nl] W (BkOut W (postF n m nl L I z kp Q).N (postF n m nl L I z kp Q).K (postF n m nl L I z kp Q).L (postF n m nl L I z kp Q).I (postF n m nl L I z kp Q).p (postF n m nl L I z kp Q).cd)) := fun g k l W h1 h2 h3 h7 h4 h5 h6 => impl_bookPost g 0 k 0 n m n m L I h1 h2 HF.out.1 HF.out.2.1 z hz _ nl nl Q h3 HF.out.2.2 kp hkp W h7 h4 h5 h6
  generalize (postF n m nl L I z kp Q) = Z at *
  obtain ⟨N, K, M, J, p, cd⟩ := Z
  simp only at HSP HIP HSM
  unfold BkOut at HSP HIP
  clear hkp h h' hQ hf hfi hfq hn hm hnl hL
  unfold maxLen at hz
  by_cases hl : z.size ≤ 1048576
  rotate_left
  · have q0 : decide (1048576 < z.size) = true := by simp; omega
    have q1 : decide ((1048576 : Int) < (z.size : Int)) = true := by simp; omega
    go_enter Tryz.func3, Tryz.ntmps3
    go_wp2_with fail
    go_ret
    exact ⟨rfl, (Below.refl _ _).alloc (Nat.le_refl _) _⟩
  have q0 : decide (1048576 < z.size) = false := by simp; omega
  have q1 : decide ((1048576 : Int) < (z.size : Int)) = false := by simp; omega
  have hB0 : Below w.heap.size w (w.alloc (.cells #[.slice a n cap, .slice b m cap'] 25)) := (Below.refl _ _).alloc (Nat.le_refl _) _
  have HB0 : Hid (Below w.heap.size w (w.alloc (.cells #[.slice a n cap, .slice b m cap'] 25))) := hB0
  have HP0 : Hid (Bc (w.alloc (.cells #[.slice a n cap, .slice b m cap'] 25)) w.heap.size (.slice a n cap) (.slice b m cap')) := Bc.new _ _ _ _
  clear hB0
  go_enter Tryz.func3, Tryz.ntmps3
  go_wp2_with fail
  refine (sz_book a b n m cap cap' L I HNN.out.1 HNN.out.2.1 HF.out.1 HF.out.2.1 1048576 (by omega) _ (HL0.out.below HB0.out) (HI0.out.below HB0.out)).mono ?_
  rintro e w1 ⟨he, hb1⟩
  have HB1 : Hid (Below w.heap.size w w1) := HB0.out.trans (hb1.mono HB0.out.size)
  have HP1 : Hid (Bc w1 w.heap.size (.slice a n cap) (.slice b m cap')) := HP0.out.below hb1
  clear HB0 HP0 hb1
  rcases he with rfl | ⟨r, rfl, hr, hnn, hmm, _, _⟩
  · have q' : decide ((-1 : Int) < 0) = true := rfl
    go_wp2_with fail
    go_ret
    exact ⟨rfl, HB1.out⟩
  have q' : decide ((r : Int) < 0) = false := by simp
  go_wp2_with fail
  refine (sz_legs q nl kc Q HNN.out.2.2 HF.out.2.2 r (by omega) _ (HQ0.out.below HB1.out)).mono ?_
  rintro e w2 ⟨he, hb2⟩
  have HB2 : Hid (Below w.heap.size w w2) := HB1.out.trans (hb2.mono HB1.out.size)
  have HP2 : Hid (Bc w2 w.heap.size (.slice a n cap) (.slice b m cap')) := HP1.out.below hb2
  clear HB1 HP1 hb2
  rcases he with rfl | ⟨t, rfl, ht, hnl, _⟩
  · have q'' : decide ((-1 : Int) < 0) = true := rfl
    go_wp2_with fail
    go_ret
    exact ⟨rfl, HB2.out⟩
  have q'' : decide ((t : Int) < 0) = false := by simp
  have hnl : nl ≤ 1048576 := by omega
  obtain ⟨hN, hK⟩ := HSM.out hnn
  clear ht hr HSM
  obtain ⟨p0, p1, plt⟩ := HP2.out
  go_wp2_with fail
  refine (to_book a b n m cap cap' L I hnn hmm _ (HL0.out.below HB2.out) (HI0.out.below HB2.out)).mono ?_
  rintro e w3 ⟨yg, yk, rfl, _, _, hO, hO', hb3⟩
  have HB3 : Hid (Below w.heap.size w w3) := HB2.out.trans (hb3.mono HB2.out.size)
  have HP3 : Hid (Bc w3 w.heap.size (.slice a n cap) (.slice b m cap')) := HP2.out.below hb3
  have HY3 : Hid (Own w3 yg (n * 3) (lineF L) ∧ Own w3 yk m (textF I)) := ⟨hO, hO'⟩
  clear p0 p1 plt hO hO'
  clear HB2 HP2 hb3
  go_wp2_with fail
  refine (to_legs q nl kc Q hnl _ (HQ0.out.below HB3.out)).mono ?_
  rintro e w4 ⟨yl, rfl, _, hE, hb4⟩
  have HB4 : Hid (Below w.heap.size w w4) := HB3.out.trans (hb4.mono HB3.out.size)
  have HP4 : Hid (Bc w4 w.heap.size (.slice a n cap) (.slice b m cap')) := HP3.out.below hb4
  have HY4 : Hid (Own w4 yg (n * 3) (lineF L) ∧ Own w4 yk m (textF I)) := ⟨HY3.out.1.below hb4, HY3.out.2.below hb4⟩
  have HYE : Hid (Own w4 yl (nl * 5) (legF Q)) := hE
  clear HB3 HP3 HY3 hb4 hE
  go_wp2_with fail
  refine (HSP.out yg yk yl _ hnn hmm hnl HY4.out.1.lines HY4.out.2.texts HYE.out.legs).mono ?_
  rintro e w5 ⟨sa, sc, sb, sd, rfl, oa, ob, al, bl, abn, hb5⟩
  have HB5 : Hid (Below w.heap.size w w5) := HB4.out.trans (hb5.mono HB4.out.size)
  have HP5 : Hid (Bc w5 w.heap.size (.slice a n cap) (.slice b m cap')) := HP4.out.below hb5
  have HS5 : Hid (OwnR w5 sa N 3 (lineF M) ∧ OwnR w5 sb K 1 (textF J)) := ⟨oa, ob⟩
  have HSB0 : Hid ((∀ k, sa.map Addr.block = some k → w.heap.size + 1 ≤ k ∧ k < w5.heap.size) ∧ ∀ k, sb.map Addr.block = some k → w.heap.size + 1 ≤ k ∧ k < w5.heap.size) := ⟨fun k e => by have := al k e; have := HP4.out.lt; omega, fun k e => by have := bl k e; have := HP4.out.lt; omega⟩
  have hlt5 : w.heap.size + 1 ≤ w5.heap.size := by have := HP5.out.lt; omega
  clear oa ob al bl abn
  clear HB4 HP4 HY4 HYE HSP hb5
  have hal6 : Below w5.heap.size w5 (w5.alloc (.cells #[.slice sa N sc, .slice sb K sd, .int .i64 p, .int .i64 cd] 33)) := (Below.refl _ _).alloc (Nat.le_refl _) _
  have hB6 : Below w.heap.size w (w5.alloc (.cells #[.slice sa N sc, .slice sb K sd, .int .i64 p, .int .i64 cd] 33)) := HB5.out.trans (hal6.mono HB5.out.size)
  have hP6 : Bc (w5.alloc (.cells #[.slice sa N sc, .slice sb K sd, .int .i64 p, .int .i64 cd] 33)) w.heap.size (.slice a n cap) (.slice b m cap') := HP5.out.below hal6
  have hS6 : OwnR (w5.alloc (.cells #[.slice sa N sc, .slice sb K sd, .int .i64 p, .int .i64 cd] 33)) sa N 3 (lineF M) ∧ OwnR (w5.alloc (.cells #[.slice sa N sc, .slice sb K sd, .int .i64 p, .int .i64 cd] 33)) sb K 1 (textF J) := ⟨HS5.out.1.below hal6, HS5.out.2.below hal6⟩
  have hR6 := D4.new w5 (.slice sa N sc) (.slice sb K sd) (.int .i64 p) (.int .i64 cd) 33
  have hsz6 : (w5.alloc (.cells #[.slice sa N sc, .slice sb K sd, .int .i64 p, .int .i64 cd] 33)).heap.size = w5.heap.size + 1 := by simp
  have HSB := HSB0
  go_upto_region 11 with fail
  obtain ⟨w6, hw6⟩ : ∃ W, W = (w5.alloc (.cells #[.slice sa N sc, .slice sb K sd, .int .i64 p, .int .i64 cd] 33)) := ⟨_, rfl⟩
  obtain ⟨R, hEq6⟩ : ∃ X, X = w5.heap.size := ⟨_, rfl⟩
  rw [← hw6] at hB6 hP6 hS6 hR6 hsz6 ⊢
  rw [← hEq6] at hR6 hsz6 ⊢
  rw [← hEq6] at HSB hlt5
  have HB6 : Hid (Below w.heap.size w w6) := hB6
  have HP6 : Hid (Bc w6 w.heap.size (.slice a n cap) (.slice b m cap')) := hP6
  have HS6 : Hid (OwnR w6 sa N 3 (lineF M) ∧ OwnR w6 sb K 1 (textF J)) := hS6
  have HR6 : Hid (D4 w6 R (.slice sa N sc) (.slice sb K sd) (.int .i64 p) (.int .i64 cd)) := hR6
  have HZ6 : Hid (w6.heap.size = R + 1 ∧ w.heap.size + 1 ≤ R) := ⟨hsz6, hlt5⟩
  clear hB6 hP6 hS6 hR6 hsz6 hlt5 hal6 hw6 hEq6 HB5 HP5 HS5 HSB0
  obtain ⟨p0, p1, plt⟩ := HP6.out
  go_wp2_with fail
  refine (to_book a b n m cap cap' L I hnn hmm _ (HL0.out.below HB6.out) (HI0.out.below HB6.out)).mono ?_
  rintro e w7 ⟨xg, xk, rfl, hxg, hxk, hO, hO', hb7⟩
  have HB7 : Hid (Below w.heap.size w w7) := HB6.out.trans (hb7.mono HB6.out.size)
  have HP7 : Hid (Bc w7 w.heap.size (.slice a n cap) (.slice b m cap')) := HP6.out.below hb7
  have HR7 : Hid (D4 w7 R (.slice sa N sc) (.slice sb K sd) (.int .i64 p) (.int .i64 cd)) := HR6.out.below hb7
  have HS7 : Hid (OwnR w7 sa N 3 (lineF M) ∧ OwnR w7 sb K 1 (textF J)) := ⟨HS6.out.1.below hb7, HS6.out.2.below hb7⟩
  have HO7 : Hid (Own w7 xg (n * 3) (lineF L) ∧ Own w7 xk m (textF I)) := ⟨hO, hO'⟩
  have hxR : R < xg := by have := HZ6.out.1; omega
  have hxX : xk < w7.heap.size := hO'.1
  clear p0 p1 plt hO hO' hxg
  clear HB6 HP6 HR6 HS6 hb7
  have hal8 : Below w7.heap.size w7 (w7.alloc (.cells #[.slice (some ⟨xg, 0, none⟩) n n, .slice (some ⟨xk, 0, none⟩) m m] 31)) := (Below.refl _ _).alloc (Nat.le_refl _) _
  have hB8 : Below w.heap.size w (w7.alloc (.cells #[.slice (some ⟨xg, 0, none⟩) n n, .slice (some ⟨xk, 0, none⟩) m m] 31)) := HB7.out.trans (hal8.mono HB7.out.size)
  have hP8 : Bc (w7.alloc (.cells #[.slice (some ⟨xg, 0, none⟩) n n, .slice (some ⟨xk, 0, none⟩) m m] 31)) w.heap.size (.slice a n cap) (.slice b m cap') := HP7.out.below hal8
  have hR8 : D4 (w7.alloc (.cells #[.slice (some ⟨xg, 0, none⟩) n n, .slice (some ⟨xk, 0, none⟩) m m] 31)) R (.slice sa N sc) (.slice sb K sd) (.int .i64 p) (.int .i64 cd) := HR7.out.below hal8
  have hS8 : OwnR (w7.alloc (.cells #[.slice (some ⟨xg, 0, none⟩) n n, .slice (some ⟨xk, 0, none⟩) m m] 31)) sa N 3 (lineF M) ∧ OwnR (w7.alloc (.cells #[.slice (some ⟨xg, 0, none⟩) n n, .slice (some ⟨xk, 0, none⟩) m m] 31)) sb K 1 (textF J) := ⟨HS7.out.1.below hal8, HS7.out.2.below hal8⟩
  have hO8 : Own (w7.alloc (.cells #[.slice (some ⟨xg, 0, none⟩) n n, .slice (some ⟨xk, 0, none⟩) m m] 31)) xg (n * 3) (lineF L) ∧ Own (w7.alloc (.cells #[.slice (some ⟨xg, 0, none⟩) n n, .slice (some ⟨xk, 0, none⟩) m m] 31)) xk m (textF I) := ⟨HO7.out.1.below hal8, HO7.out.2.below hal8⟩
  have hX8' := Bc.new w7 (.slice (some ⟨xg, 0, none⟩) n n) (.slice (some ⟨xk, 0, none⟩) m m) 31
  have hsz8 : (w7.alloc (.cells #[.slice (some ⟨xg, 0, none⟩) n n, .slice (some ⟨xk, 0, none⟩) m m] 31)).heap.size = w7.heap.size + 1 := by simp
  go_upto_region 12 with fail
  obtain ⟨w8, hw8⟩ : ∃ W, W = (w7.alloc (.cells #[.slice (some ⟨xg, 0, none⟩) n n, .slice (some ⟨xk, 0, none⟩) m m] 31)) := ⟨_, rfl⟩
  obtain ⟨X, hEq8⟩ : ∃ X, X = w7.heap.size := ⟨_, rfl⟩
  rw [← hw8] at hB8 hP8 hR8 hS8 hO8 hX8' hsz8 ⊢
  rw [← hEq8] at hX8' hsz8 ⊢
  rw [← hEq8] at hxX
  have HB8 : Hid (Below w.heap.size w w8) := hB8
  have HP8 : Hid (Bc w8 w.heap.size (.slice a n cap) (.slice b m cap')) := hP8
  have HS8 : Hid (OwnR w8 sa N 3 (lineF M) ∧ OwnR w8 sb K 1 (textF J)) := hS8
  have HR8 : Hid (D4 w8 R (.slice sa N sc) (.slice sb K sd) (.int .i64 p) (.int .i64 cd)) := hR8
  have HO8 : Hid (Own w8 xg (n * 3) (lineF L) ∧ Own w8 xk m (textF I)) := hO8
  have HX8 : Hid (Bc w8 X (.slice (some ⟨xg, 0, none⟩) n n) (.slice (some ⟨xk, 0, none⟩) m m)) := hX8'
  have HZ8 : Hid (w8.heap.size = X + 1 ∧ w.heap.size + 1 ≤ R ∧ R < xg ∧ xg < xk ∧ xk < X) := ⟨hsz8, HZ6.out.2, hxR, hxk, hxX⟩
  clear hB8 hP8 hS8 hR8 hO8 hX8' hsz8 hal8 hw8 hEq8 HZ6 hxR hxk hxX HB7 HP7 HR7 HS7 HO7
  go_wp2_with fail
  refine (to_legs q nl kc Q hnl _ (HQ0.out.below HB8.out)).mono ?_
  rintro e w9 ⟨xl, rfl, hxl, hE, hb9⟩
  have HB9 : Hid (Below w.heap.size w w9) := HB8.out.trans (hb9.mono HB8.out.size)
  have HP9 : Hid (Bc w9 w.heap.size (.slice a n cap) (.slice b m cap')) := HP8.out.below hb9
  have HR9 : Hid (D4 w9 R (.slice sa N sc) (.slice sb K sd) (.int .i64 p) (.int .i64 cd)) := HR8.out.below hb9
  have HS9 : Hid (OwnR w9 sa N 3 (lineF M) ∧ OwnR w9 sb K 1 (textF J)) := ⟨HS8.out.1.below hb9, HS8.out.2.below hb9⟩
  have HX9 : Hid (Bc w9 X (.slice (some ⟨xg, 0, none⟩) n n) (.slice (some ⟨xk, 0, none⟩) m m)) := HX8.out.below hb9
  have HO9 : Hid (Own w9 xg (n * 3) (lineF L) ∧ Own w9 xk m (textF I)) := ⟨HO8.out.1.below hb9, HO8.out.2.below hb9⟩
  have HE9 : Hid (Own w9 xl (nl * 5) (legF Q)) := hE
  have HZ9 : Hid (xl < w9.heap.size ∧ w.heap.size + 1 ≤ R ∧ R < xg ∧ xg < xk ∧ xk < X ∧ X < xl) := by obtain ⟨z0, z1⟩ := HZ8.out; exact ⟨hE.1, z1.1, z1.2.1, z1.2.2.1, z1.2.2.2, by omega⟩
  clear HB8 HP8 HR8 HS8 HX8 HO8 HZ8 hb9 hE hxl
  obtain ⟨y0, y1, ylt⟩ := HX9.out
  go_wp2_with fail
  refine (HIP.out xg xk xl _ hnn hmm hnl (HLy.out.below HB9.out) HO9.out.1.lines HO9.out.2.texts HE9.out.legs).mono ?_
  rintro e w10 ⟨ga, gc, gb, gd, rfl, oa, ob, al, bl, abn, hb10⟩
  have HB10 : Hid (Below w.heap.size w w10) := HB9.out.trans (hb10.mono HB9.out.size)
  have HP10 : Hid (Bc w10 w.heap.size (.slice a n cap) (.slice b m cap')) := HP9.out.below hb10
  have HR10 : Hid (D4 w10 R (.slice sa N sc) (.slice sb K sd) (.int .i64 p) (.int .i64 cd)) := HR9.out.below hb10
  have HS10 : Hid (OwnR w10 sa N 3 (lineF M) ∧ OwnR w10 sb K 1 (textF J)) := ⟨HS9.out.1.below hb10, HS9.out.2.below hb10⟩
  have HX10 : Hid (Bc w10 X (.slice (some ⟨xg, 0, none⟩) n n) (.slice (some ⟨xk, 0, none⟩) m m)) := HX9.out.below hb10
  have HO10 : Hid (Own w10 xg (n * 3) (lineF L) ∧ Own w10 xk m (textF I)) := ⟨HO9.out.1.below hb10, HO9.out.2.below hb10⟩
  have HE10 : Hid (Own w10 xl (nl * 5) (legF Q)) := HE9.out.below hb10
  have HL10 : Hid (OwnR w10 ga N 3 (lineF M) ∧ OwnR w10 gb K 1 (textF J)) := ⟨oa, ob⟩
  have HGB0 : Hid ((∀ k, ga.map Addr.block = some k → xl < k ∧ k < w10.heap.size) ∧ (∀ k, gb.map Addr.block = some k → xl < k ∧ k < w10.heap.size) ∧ ∀ k, ga.map Addr.block = some k → gb.map Addr.block = some k → False) := ⟨fun k e => by have := al k e; have := HZ9.out.1; omega, fun k e => by have := bl k e; have := HZ9.out.1; omega, abn⟩
  have hxl10 : xl < w10.heap.size := by have := HZ9.out.1; have := hb10.size; omega
  clear oa ob al bl abn y0 y1 ylt
  clear HB9 HP9 HR9 HS9 HX9 HO9 HE9 hb10
  have hal11 : Below w10.heap.size w10 (w10.alloc (.cells #[.slice ga N gc, .slice gb K gd, .int .i64 p, .int .i64 cd] 33)) := (Below.refl _ _).alloc (Nat.le_refl _) _
  have hB11 : Below w.heap.size w (w10.alloc (.cells #[.slice ga N gc, .slice gb K gd, .int .i64 p, .int .i64 cd] 33)) := HB10.out.trans (hal11.mono HB10.out.size)
  have hP11 : Bc (w10.alloc (.cells #[.slice ga N gc, .slice gb K gd, .int .i64 p, .int .i64 cd] 33)) w.heap.size (.slice a n cap) (.slice b m cap') := HP10.out.below hal11
  have hR11 : D4 (w10.alloc (.cells #[.slice ga N gc, .slice gb K gd, .int .i64 p, .int .i64 cd] 33)) R (.slice sa N sc) (.slice sb K sd) (.int .i64 p) (.int .i64 cd) := HR10.out.below hal11
  have hS11 : OwnR (w10.alloc (.cells #[.slice ga N gc, .slice gb K gd, .int .i64 p, .int .i64 cd] 33)) sa N 3 (lineF M) ∧ OwnR (w10.alloc (.cells #[.slice ga N gc, .slice gb K gd, .int .i64 p, .int .i64 cd] 33)) sb K 1 (textF J) := ⟨HS10.out.1.below hal11, HS10.out.2.below hal11⟩
  have hX11 : Bc (w10.alloc (.cells #[.slice ga N gc, .slice gb K gd, .int .i64 p, .int .i64 cd] 33)) X (.slice (some ⟨xg, 0, none⟩) n n) (.slice (some ⟨xk, 0, none⟩) m m) := HX10.out.below hal11
  have hO11 : Own (w10.alloc (.cells #[.slice ga N gc, .slice gb K gd, .int .i64 p, .int .i64 cd] 33)) xg (n * 3) (lineF L) ∧ Own (w10.alloc (.cells #[.slice ga N gc, .slice gb K gd, .int .i64 p, .int .i64 cd] 33)) xk m (textF I) := ⟨HO10.out.1.below hal11, HO10.out.2.below hal11⟩
  have hE11 : Own (w10.alloc (.cells #[.slice ga N gc, .slice gb K gd, .int .i64 p, .int .i64 cd] 33)) xl (nl * 5) (legF Q) := HE10.out.below hal11
  have hL11 : OwnR (w10.alloc (.cells #[.slice ga N gc, .slice gb K gd, .int .i64 p, .int .i64 cd] 33)) ga N 3 (lineF M) ∧ OwnR (w10.alloc (.cells #[.slice ga N gc, .slice gb K gd, .int .i64 p, .int .i64 cd] 33)) gb K 1 (textF J) := ⟨HL10.out.1.below hal11, HL10.out.2.below hal11⟩
  have hG11 := D4.new w10 (.slice ga N gc) (.slice gb K gd) (.int .i64 p) (.int .i64 cd) 33
  have hsz11 : (w10.alloc (.cells #[.slice ga N gc, .slice gb K gd, .int .i64 p, .int .i64 cd] 33)).heap.size = w10.heap.size + 1 := by simp
  go_upto_region 14 with fail
  obtain ⟨w11, hw11⟩ : ∃ W, W = (w10.alloc (.cells #[.slice ga N gc, .slice gb K gd, .int .i64 p, .int .i64 cd] 33)) := ⟨_, rfl⟩
  obtain ⟨G, hEq11⟩ : ∃ X, X = w10.heap.size := ⟨_, rfl⟩
  rw [← hw11] at hB11 hP11 hR11 hS11 hX11 hO11 hE11 hL11 hG11 hsz11 ⊢
  rw [← hEq11] at hG11 hsz11 ⊢
  rw [← hEq11] at HGB0 hxl10
  have HB11 : Hid (Below w.heap.size w w11) := hB11
  have HP11 : Hid (Bc w11 w.heap.size (.slice a n cap) (.slice b m cap')) := hP11
  have HR11 : Hid (D4 w11 R (.slice sa N sc) (.slice sb K sd) (.int .i64 p) (.int .i64 cd)) := hR11
  have HS11 : Hid (OwnR w11 sa N 3 (lineF M) ∧ OwnR w11 sb K 1 (textF J)) := hS11
  have HX11 : Hid (Bc w11 X (.slice (some ⟨xg, 0, none⟩) n n) (.slice (some ⟨xk, 0, none⟩) m m)) := hX11
  have HO11 : Hid (Own w11 xg (n * 3) (lineF L) ∧ Own w11 xk m (textF I)) := hO11
  have HE11 : Hid (Own w11 xl (nl * 5) (legF Q)) := hE11
  have HL11 : Hid (OwnR w11 ga N 3 (lineF M) ∧ OwnR w11 gb K 1 (textF J)) := hL11
  have HG11 : Hid (D4 w11 G (.slice ga N gc) (.slice gb K gd) (.int .i64 p) (.int .i64 cd)) := hG11
  have HST : Hid (w.heap.size + 1 ≤ R ∧ R < xg ∧ xg < xk ∧ xk < X ∧ X < xl ∧ xl < G ∧ G < w11.heap.size) := ⟨HZ9.out.2.1, HZ9.out.2.2.1, HZ9.out.2.2.2.1, HZ9.out.2.2.2.2.1, HZ9.out.2.2.2.2.2, hxl10, by omega⟩
  have HGB := HGB0
  clear hB11 hP11 hR11 hS11 hX11 hO11 hE11 hL11 hG11 hsz11 hal11 hw11 hEq11 HZ9 hxl10 HGB0 HB10 HP10 HR10 HS10 HX10 HO10 HE10 HL10
  obtain ⟨g0, g1, g2, g3, gf, glt⟩ := HG11.out
  obtain ⟨r0, r1, r2, r3, rf, rlt⟩ := HR11.out
  go_wp2_with fail
  refine (eq_bookOut ga sa gb sb N K gc gd sc sd M J p cd hN hK _ HL11.out.1 HS11.out.1 HL11.out.2 HS11.out.2).mono ?_
  rintro e w12 ⟨rfl, hb12⟩
  have HB12 : Hid (Below w.heap.size w w12) := HB11.out.trans (hb12.mono HB11.out.size)
  have HP12 : Hid (Bc w12 w.heap.size (.slice a n cap) (.slice b m cap')) := HP11.out.below hb12
  have HR12 : Hid (D4 w12 R (.slice sa N sc) (.slice sb K sd) (.int .i64 p) (.int .i64 cd)) := HR11.out.below hb12
  have HS12 : Hid (OwnR w12 sa N 3 (lineF M) ∧ OwnR w12 sb K 1 (textF J)) := ⟨HS11.out.1.below hb12, HS11.out.2.below hb12⟩
  have HX12 : Hid (Bc w12 X (.slice (some ⟨xg, 0, none⟩) n n) (.slice (some ⟨xk, 0, none⟩) m m)) := HX11.out.below hb12
  have HO12 : Hid (Own w12 xg (n * 3) (lineF L) ∧ Own w12 xk m (textF I)) := ⟨HO11.out.1.below hb12, HO11.out.2.below hb12⟩
  have HE12 : Hid (Own w12 xl (nl * 5) (legF Q)) := HE11.out.below hb12
  have HL12 : Hid (OwnR w12 ga N 3 (lineF M) ∧ OwnR w12 gb K 1 (textF J)) := ⟨HL11.out.1.below hb12, HL11.out.2.below hb12⟩
  have HG12 : Hid (D4 w12 G (.slice ga N gc) (.slice gb K gd) (.int .i64 p) (.int .i64 cd)) := HG11.out.below hb12
  have HW12 : Hid (w11.heap.size ≤ w12.heap.size) := hb12.size
  clear hb12 g0 g1 g2 g3 gf glt r0 r1 r2 r3 rf rlt
  clear HB11 HP11 HR11 HS11 HX11 HO11 HE11 HL11 HG11
  obtain ⟨p0, p1, plt⟩ := HP12.out
  obtain ⟨y0, y1, ylt⟩ := HX12.out
  go_upto_region 16 with fail
  go_region_held3 (fun W => W.cell? ⟨w.heap.size, 0, none⟩ = some (.slice a n cap) ∧ W.cell? ⟨w.heap.size, 1, none⟩ = some (.slice b m cap') ∧ W.cell? ⟨X, 0, none⟩ = some (.slice (some ⟨xg, 0, none⟩) n n) ∧ W.cell? ⟨X, 1, none⟩ = some (.slice (some ⟨xk, 0, none⟩) m m)) (go_keep) (first | (go_at_call 7; refine (to_book a b n m cap cap' L I hnn hmm _ (HL0.out.below HB12.out.drew) (HI0.out.below HB12.out.drew)).mono ?_; rintro e w13 ⟨x', y', rfl, _, _, hO, hO', hb13⟩; have e0 := (hb13.cell (p := ⟨w.heap.size, 0, none⟩) plt).trans p0; have e1 := (hb13.cell (p := ⟨w.heap.size, 1, none⟩) plt).trans p1; have f0 := (hb13.cell (p := ⟨X, 0, none⟩) ylt).trans y0; have f1 := (hb13.cell (p := ⟨X, 1, none⟩) ylt).trans y1; have hbu : Below w12.heap.size w12 w13 := (Below.refl _ w12).drew.trans hb13; have HO13 : Hid (Own w13 xg (n * 3) (lineF L) ∧ Own w13 xk m (textF I)) := ⟨HO12.out.1.below hbu, HO12.out.2.below hbu⟩; have HY13 : Hid (Own w13 x' (n * 3) (lineF L) ∧ Own w13 y' m (textF I)) := ⟨hO, hO'⟩; clear hO hO') | (go_at_call 11; refine (eq_book _ _ _ _ n m _ _ _ _ L I hnn hmm _ HO13.out.1.lines HY13.out.1.lines HO13.out.2.texts HY13.out.2.texts).mono ?_; rintro e w14 ⟨rfl, hb14⟩; have u0 := (hb14.cell (p := ⟨w.heap.size, 0, none⟩) (Nat.lt_of_lt_of_le plt hb13.size)).trans e0; have u1 := (hb14.cell (p := ⟨w.heap.size, 1, none⟩) (Nat.lt_of_lt_of_le plt hb13.size)).trans e1; have v0 := (hb14.cell (p := ⟨X, 0, none⟩) (Nat.lt_of_lt_of_le ylt hb13.size)).trans f0; have v1 := (hb14.cell (p := ⟨X, 1, none⟩) (Nat.lt_of_lt_of_le ylt hb13.size)).trans f1))
  have hz14 : Below w12.heap.size w12 w14 := hbu.trans (hb14.mono hbu.size)
  have HB14 : Hid (Below w.heap.size w w14) := HB12.out.trans (hz14.mono HB12.out.size)
  have HP14 : Hid (Bc w14 w.heap.size (.slice a n cap) (.slice b m cap')) := HP12.out.below hz14
  have HR14 : Hid (D4 w14 R (.slice sa N sc) (.slice sb K sd) (.int .i64 p) (.int .i64 cd)) := HR12.out.below hz14
  have HS14 : Hid (OwnR w14 sa N 3 (lineF M) ∧ OwnR w14 sb K 1 (textF J)) := ⟨HS12.out.1.below hz14, HS12.out.2.below hz14⟩
  have HX14 : Hid (Bc w14 X (.slice (some ⟨xg, 0, none⟩) n n) (.slice (some ⟨xk, 0, none⟩) m m)) := HX12.out.below hz14
  have HO14 : Hid (Own w14 xg (n * 3) (lineF L) ∧ Own w14 xk m (textF I)) := ⟨HO12.out.1.below hz14, HO12.out.2.below hz14⟩
  have HE14 : Hid (Own w14 xl (nl * 5) (legF Q)) := HE12.out.below hz14
  have HL14 : Hid (OwnR w14 ga N 3 (lineF M) ∧ OwnR w14 gb K 1 (textF J)) := ⟨HL12.out.1.below hz14, HL12.out.2.below hz14⟩
  have HG14 : Hid (D4 w14 G (.slice ga N gc) (.slice gb K gd) (.int .i64 p) (.int .i64 cd)) := HG12.out.below hz14
  have HW14 : Hid (w11.heap.size ≤ w14.heap.size) := Nat.le_trans HW12.out hz14.size
  clear hb13 hb14 hbu hz14 p0 p1 plt y0 y1 ylt e0 e1 f0 f1 u0 u1 v0 v1 HW12 HO13 HY13
  clear HB12 HP12 HR12 HS12 HX12 HO12 HE12 HL12 HG12
  go_wp2_with fail
  refine (to_legs q nl kc Q hnl _ (HQ0.out.below HB14.out)).mono ?_
  rintro e w15 ⟨zl, rfl, _, hE, hb15⟩
  have HB15 : Hid (Below w.heap.size w w15) := HB14.out.trans (hb15.mono HB14.out.size)
  have HP15 : Hid (Bc w15 w.heap.size (.slice a n cap) (.slice b m cap')) := HP14.out.below hb15
  have HR15 : Hid (D4 w15 R (.slice sa N sc) (.slice sb K sd) (.int .i64 p) (.int .i64 cd)) := HR14.out.below hb15
  have HS15 : Hid (OwnR w15 sa N 3 (lineF M) ∧ OwnR w15 sb K 1 (textF J)) := ⟨HS14.out.1.below hb15, HS14.out.2.below hb15⟩
  have HX15 : Hid (Bc w15 X (.slice (some ⟨xg, 0, none⟩) n n) (.slice (some ⟨xk, 0, none⟩) m m)) := HX14.out.below hb15
  have HO15 : Hid (Own w15 xg (n * 3) (lineF L) ∧ Own w15 xk m (textF I)) := ⟨HO14.out.1.below hb15, HO14.out.2.below hb15⟩
  have HE15 : Hid (Own w15 xl (nl * 5) (legF Q)) := HE14.out.below hb15
  have HL15 : Hid (OwnR w15 ga N 3 (lineF M) ∧ OwnR w15 gb K 1 (textF J)) := ⟨HL14.out.1.below hb15, HL14.out.2.below hb15⟩
  have HG15 : Hid (D4 w15 G (.slice ga N gc) (.slice gb K gd) (.int .i64 p) (.int .i64 cd)) := HG14.out.below hb15
  have HW15 : Hid (w11.heap.size ≤ w15.heap.size) := Nat.le_trans HW14.out hb15.size
  have HYE : Hid (Own w15 zl (nl * 5) (legF Q)) := hE
  clear hb15 hE HW14
  clear HB14 HP14 HR14 HS14 HX14 HO14 HE14 HL14 HG14
  go_wp2_with fail
  refine (eq_legs _ _ nl _ _ Q hnl _ HE15.out.legs HYE.out.legs).mono ?_
  rintro e w16 ⟨rfl, hb16⟩
  have HB16 : Hid (Below w.heap.size w w16) := HB15.out.trans (hb16.mono HB15.out.size)
  have HP16 : Hid (Bc w16 w.heap.size (.slice a n cap) (.slice b m cap')) := HP15.out.below hb16
  have HR16 : Hid (D4 w16 R (.slice sa N sc) (.slice sb K sd) (.int .i64 p) (.int .i64 cd)) := HR15.out.below hb16
  have HS16 : Hid (OwnR w16 sa N 3 (lineF M) ∧ OwnR w16 sb K 1 (textF J)) := ⟨HS15.out.1.below hb16, HS15.out.2.below hb16⟩
  have HX16 : Hid (Bc w16 X (.slice (some ⟨xg, 0, none⟩) n n) (.slice (some ⟨xk, 0, none⟩) m m)) := HX15.out.below hb16
  have HO16 : Hid (Own w16 xg (n * 3) (lineF L) ∧ Own w16 xk m (textF I)) := ⟨HO15.out.1.below hb16, HO15.out.2.below hb16⟩
  have HE16 : Hid (Own w16 xl (nl * 5) (legF Q)) := HE15.out.below hb16
  have HL16 : Hid (OwnR w16 ga N 3 (lineF M) ∧ OwnR w16 gb K 1 (textF J)) := ⟨HL15.out.1.below hb16, HL15.out.2.below hb16⟩
  have HG16 : Hid (D4 w16 G (.slice ga N gc) (.slice gb K gd) (.int .i64 p) (.int .i64 cd)) := HG15.out.below hb16
  have HW16 : Hid (w11.heap.size ≤ w16.heap.size) := Nat.le_trans HW15.out hb16.size
  clear hb16 HYE HW15
  clear HB15 HP15 HR15 HS15 HX15 HO15 HE15 HL15 HG15
  obtain ⟨y0, y1, ylt⟩ := HX16.out
  obtain ⟨K1, hK1⟩ : ∃ K1 : Nat, K1 = 1 + n * 3 + m := ⟨_, rfl⟩
  have HK1 : Hid (K1 = 1 + n * 3 + m) := hK1
  have hK1b : K1 ≤ 549755813888 := by omega
  have hK1a : 1 ≤ K1 := by omega
  clear hK1
  go_wp2_with fail
  refine (mark_book (some ⟨xg, 0, none⟩) n n (some ⟨xk, 0, none⟩) m m (lineF L) (textF I) hnn hmm _ (Or.inr ⟨xg, rfl, HO16.out.1⟩) (Or.inr ⟨xk, rfl, by rw [Nat.mul_one]; exact HO16.out.2⟩) (fun k e => by simp at e; subst e; exact HO16.out.1.1) (fun k e => by simp at e; subst e; exact HO16.out.2.1) (fun k e e' => by simp at e e'; have := HST.out.2.2.1; omega)).mono ?_
  rintro e w17 ⟨rfl, _, _, hk⟩
  rw [← HK1.out]
  obtain ⟨t0, t1, t2, t3, t4, t5, t6⟩ := HST.out
  have HR17 : Hid (D4 w17 R (.slice sa N sc) (.slice sb K sd) (.int .i64 p) (.int .i64 cd)) := HR16.out.kb hk (by simp; omega) (by simp; omega)
  have HS17 : Hid (OwnR w17 sa N 3 (lineF M) ∧ OwnR w17 sb K 1 (textF J)) := ⟨hk.own HS16.out.1 (fun k e => by have := HSB.out.1 k e; simp; omega) (fun k e => by have := HSB.out.1 k e; simp; omega), hk.own HS16.out.2 (fun k e => by have := HSB.out.2 k e; simp; omega) (fun k e => by have := HSB.out.2 k e; simp; omega)⟩
  have HG17 : Hid (D4 w17 G (.slice ga N gc) (.slice gb K gd) (.int .i64 p) (.int .i64 cd)) := HG16.out.kb hk (by simp; omega) (by simp; omega)
  have HL17 : Hid (OwnR w17 ga N 3 (lineF M) ∧ OwnR w17 gb K 1 (textF J)) := ⟨hk.own HL16.out.1 (fun k e => by have := HGB.out.1 k e; simp; omega) (fun k e => by have := HGB.out.1 k e; simp; omega), hk.own HL16.out.2 (fun k e => by have := HGB.out.2.1 k e; simp; omega) (fun k e => by have := HGB.out.2.1 k e; simp; omega)⟩
  have HP17 : Hid (Bc w17 w.heap.size (.slice a n cap) (.slice b m cap')) := HP16.out.kb hk (by simp; omega) (by simp; omega)
  have HF17 : Hid (OwnR w17 (some ⟨xl, 0, none⟩) nl 5 (legF Q)) := hk.own (Or.inr ⟨xl, rfl, HE16.out⟩) (fun k e => by simp at e; subst e; simp; omega) (fun k e => by simp at e; subst e; simp; omega)
  have HB17 : Hid (Below w.heap.size w w17) := Kb.below HB16.out hk HB16.out.size (fun k e => by simp at e; omega) (fun k e => by simp at e; omega)
  have HW17 : Hid (w11.heap.size ≤ w17.heap.size) := Nat.le_trans HW16.out hk.size
  clear hk t0 t1 t2 t3 t4 t5 t6 y0 y1 ylt HW16
  clear HB16 HP16 HR16 HS16 HX16 HO16 HE16 HL16 HG16
  obtain ⟨K2, hK2⟩ : ∃ K2 : Nat, K2 = K1 + nl * 5 := ⟨_, rfl⟩
  have HK2 : Hid (K2 = K1 + nl * 5) := hK2
  clear hK2
  have q23 : decide ((K2 : Int) < 0) = false := by simp
  go_wp2_with fail
  refine (mark_legs (some ⟨xl, 0, none⟩) nl nl (legF Q) hnl K1 hK1a hK1b _ HF17.out).mono ?_
  rintro e w18 ⟨rfl, _, hg18'⟩
  have hg18 : w17.grownBy w18 (some xl) := hg18'
  rw [← HK2.out]
  obtain ⟨t0, t1, t2, t3, t4, t5, t6⟩ := HST.out
  have HR18 : Hid (D4 w18 R (.slice sa N sc) (.slice sb K sd) (.int .i64 p) (.int .i64 cd)) := HR17.out.gr hg18 (by omega)
  have HS18 : Hid (OwnR w18 sa N 3 (lineF M) ∧ OwnR w18 sb K 1 (textF J)) := ⟨HS17.out.1.gr hg18 (fun j e => by have := HSB.out.1 j e; omega), HS17.out.2.gr hg18 (fun j e => by have := HSB.out.2 j e; omega)⟩
  have HG18 : Hid (D4 w18 G (.slice ga N gc) (.slice gb K gd) (.int .i64 p) (.int .i64 cd)) := HG17.out.gr hg18 (by omega)
  have HL18 : Hid (OwnR w18 ga N 3 (lineF M) ∧ OwnR w18 gb K 1 (textF J)) := ⟨HL17.out.1.gr hg18 (fun j e => by have := HGB.out.1 j e; omega), HL17.out.2.gr hg18 (fun j e => by have := HGB.out.2.1 j e; omega)⟩
  have HP18 : Hid (Bc w18 w.heap.size (.slice a n cap) (.slice b m cap')) := HP17.out.gr hg18 (by omega)
  have HB18 : Hid (Below w.heap.size w w18) := below_gr HB17.out hg18 HB17.out.size (by omega)
  have HW18 : Hid (w11.heap.size ≤ w18.heap.size) := Nat.le_trans HW17.out hg18.size
  clear hg18 hg18' t0 t1 t2 t3 t4 t5 t6 HW17 HF17 HK1 HK2 hK1a hK1b
  clear HB17 HP17 HR17 HS17 HL17 HG17
  obtain ⟨g0, g1, g2, g3, gf, glt⟩ := HG18.out
  obtain ⟨r0, r1, r2, r3, rf, rlt⟩ := HR18.out
  go_wp2_with fail
  refine (eq_bookOut ga sa gb sb N K gc gd sc sd M J p cd hN hK _ HL18.out.1 HS18.out.1 HL18.out.2 HS18.out.2).mono ?_
  rintro e w19 ⟨rfl, hb19⟩
  have HB19 : Hid (Below w.heap.size w w19) := HB18.out.trans (hb19.mono HB18.out.size)
  have HP19 : Hid (Bc w19 w.heap.size (.slice a n cap) (.slice b m cap')) := HP18.out.below hb19
  have HR19 : Hid (D4 w19 R (.slice sa N sc) (.slice sb K sd) (.int .i64 p) (.int .i64 cd)) := HR18.out.below hb19
  have HS19 : Hid (OwnR w19 sa N 3 (lineF M) ∧ OwnR w19 sb K 1 (textF J)) := ⟨HS18.out.1.below hb19, HS18.out.2.below hb19⟩
  have HL19 : Hid (OwnR w19 ga N 3 (lineF M) ∧ OwnR w19 gb K 1 (textF J)) := ⟨HL18.out.1.below hb19, HL18.out.2.below hb19⟩
  have HG19 : Hid (D4 w19 G (.slice ga N gc) (.slice gb K gd) (.int .i64 p) (.int .i64 cd)) := HG18.out.below hb19
  have HW19 : Hid (w11.heap.size ≤ w19.heap.size) := Nat.le_trans HW18.out hb19.size
  clear hb19 HW18 g0 g1 g2 g3 gf glt r0 r1 r2 r3 rf rlt
  clear HB18 HP18 HR18 HS18 HL18 HG18
  obtain ⟨g0, g1, g2, g3, gf, glt⟩ := HG19.out
  obtain ⟨K3, hK3⟩ : ∃ K3 : Nat, K3 = 1 + N * 3 + K := ⟨_, rfl⟩
  have HK3 : Hid (K3 = 1 + N * 3 + K) := hK3
  clear hK3
  go_wp2_with fail
  refine (mark_bookOut ga N gc gb K gd p cd (lineF M) (textF J) hN hK _ HL19.out.1 HL19.out.2 (fun k e => by have := HGB.out.1 k e; have := HW19.out; have := HST.out.2.2.2.2.2.2; omega) (fun k e => by have := HGB.out.2.1 k e; have := HW19.out; have := HST.out.2.2.2.2.2.2; omega) HGB.out.2.2).mono ?_
  rintro e w20 ⟨rfl, oa, ob, hk⟩
  rw [← HK3.out]
  obtain ⟨t0, t1, t2, t3, t4, t5, t6⟩ := HST.out
  have HM20 : Hid (OwnR w20 ga N 3 (mkLn 1) ∧ OwnR w20 gb K 1 (mkT (1 + N * 3))) := ⟨oa, ob⟩
  have HR20 : Hid (D4 w20 R (.slice sa N sc) (.slice sb K sd) (.int .i64 p) (.int .i64 cd)) := HR19.out.kb hk (fun e => by have := HGB.out.1 R e.symm; omega) (fun e => by have := HGB.out.2.1 R e.symm; omega)
  have HS20 : Hid (OwnR w20 sa N 3 (lineF M) ∧ OwnR w20 sb K 1 (textF J)) := ⟨hk.own HS19.out.1 (fun k e e' => by have := HSB.out.1 k e; have := HGB.out.1 k e'.symm; omega) (fun k e e' => by have := HSB.out.1 k e; have := HGB.out.2.1 k e'.symm; omega), hk.own HS19.out.2 (fun k e e' => by have := HSB.out.2 k e; have := HGB.out.1 k e'.symm; omega) (fun k e e' => by have := HSB.out.2 k e; have := HGB.out.2.1 k e'.symm; omega)⟩
  have HG20 : Hid (D4 w20 G (.slice ga N gc) (.slice gb K gd) (.int .i64 p) (.int .i64 cd)) := HG19.out.kb hk (fun e => by have := HGB.out.1 G e.symm; omega) (fun e => by have := HGB.out.2.1 G e.symm; omega)
  have HP20 : Hid (Bc w20 w.heap.size (.slice a n cap) (.slice b m cap')) := HP19.out.kb hk (fun e => by have := HGB.out.1 _ e.symm; omega) (fun e => by have := HGB.out.2.1 _ e.symm; omega)
  have HB20 : Hid (Below w.heap.size w w20) := Kb.below HB19.out hk HB19.out.size (fun k e => by have := HGB.out.1 k e; omega) (fun k e => by have := HGB.out.2.1 k e; omega)
  clear hk oa ob t0 t1 t2 t3 t4 t5 t6 HW19 g0 g1 g2 g3 gf glt
  clear HB19 HP19 HR19 HS19 HL19 HG19
  obtain ⟨g0, g1, g2, g3, gf, glt⟩ := HG20.out
  have q29 : decide ((K3 : Int) < 0) = false := by simp
  have qq : ∀ z : Int, (z != z) = false := fun z => by simp
  go_wp2_with fail
  refine (held_bookOut ga N gc gb K gd p cd hN hK _ HM20.out.1 HM20.out.2).mono ?_
  rintro e w21 ⟨rfl, hb21⟩
  rw [← HK3.out]
  have HB21 : Hid (Below w.heap.size w w21) := HB20.out.trans (hb21.mono HB20.out.size)
  have HP21 : Hid (Bc w21 w.heap.size (.slice a n cap) (.slice b m cap')) := HP20.out.below hb21
  have HR21 : Hid (D4 w21 R (.slice sa N sc) (.slice sb K sd) (.int .i64 p) (.int .i64 cd)) := HR20.out.below hb21
  have HS21 : Hid (OwnR w21 sa N 3 (lineF M) ∧ OwnR w21 sb K 1 (textF J)) := ⟨HS20.out.1.below hb21, HS20.out.2.below hb21⟩
  have HM21 : Hid (OwnR w21 ga N 3 (mkLn 1) ∧ OwnR w21 gb K 1 (mkT (1 + N * 3))) := ⟨HM20.out.1.below hb21, HM20.out.2.below hb21⟩
  have HG21 : Hid (D4 w21 G (.slice ga N gc) (.slice gb K gd) (.int .i64 p) (.int .i64 cd)) := HG20.out.below hb21
  clear hb21 g0 g1 g2 g3 gf glt
  clear HB20 HP20 HR20 HS20 HM20 HG20
  obtain ⟨p0, p1, plt⟩ := HP21.out
  go_wp2_with fail
  refine (to_book a b n m cap cap' L I hnn hmm _ (HL0.out.below HB21.out) (HI0.out.below HB21.out)).mono ?_
  rintro e w22 ⟨yg, yk, rfl, _, _, hO, hO', hb22⟩
  have HB22 : Hid (Below w.heap.size w w22) := HB21.out.trans (hb22.mono HB21.out.size)
  have HR22 : Hid (D4 w22 R (.slice sa N sc) (.slice sb K sd) (.int .i64 p) (.int .i64 cd)) := HR21.out.below hb22
  have HS22 : Hid (OwnR w22 sa N 3 (lineF M) ∧ OwnR w22 sb K 1 (textF J)) := ⟨HS21.out.1.below hb22, HS21.out.2.below hb22⟩
  have HM22 : Hid (OwnR w22 ga N 3 (mkLn 1) ∧ OwnR w22 gb K 1 (mkT (1 + N * 3))) := ⟨HM21.out.1.below hb22, HM21.out.2.below hb22⟩
  have HG22 : Hid (D4 w22 G (.slice ga N gc) (.slice gb K gd) (.int .i64 p) (.int .i64 cd)) := HG21.out.below hb22
  have HY22 : Hid (Own w22 yg (n * 3) (lineF L) ∧ Own w22 yk m (textF I)) := ⟨hO, hO'⟩
  clear p0 p1 plt hO hO'
  clear HB21 HP21 HR21 HS21 HM21 HG21 hb22
  go_wp2_with fail
  refine (to_legs q nl kc Q hnl _ (HQ0.out.below HB22.out)).mono ?_
  rintro e w23 ⟨yl, rfl, _, hE, hb23⟩
  have HB23 : Hid (Below w.heap.size w w23) := HB22.out.trans (hb23.mono HB22.out.size)
  have HR23 : Hid (D4 w23 R (.slice sa N sc) (.slice sb K sd) (.int .i64 p) (.int .i64 cd)) := HR22.out.below hb23
  have HS23 : Hid (OwnR w23 sa N 3 (lineF M) ∧ OwnR w23 sb K 1 (textF J)) := ⟨HS22.out.1.below hb23, HS22.out.2.below hb23⟩
  have HM23 : Hid (OwnR w23 ga N 3 (mkLn 1) ∧ OwnR w23 gb K 1 (mkT (1 + N * 3))) := ⟨HM22.out.1.below hb23, HM22.out.2.below hb23⟩
  have HG23 : Hid (D4 w23 G (.slice ga N gc) (.slice gb K gd) (.int .i64 p) (.int .i64 cd)) := HG22.out.below hb23
  have HY23 : Hid (Own w23 yg (n * 3) (lineF L) ∧ Own w23 yk m (textF I)) := ⟨HY22.out.1.below hb23, HY22.out.2.below hb23⟩
  have HYE : Hid (Own w23 yl (nl * 5) (legF Q)) := hE
  clear HB22 HR22 HS22 HM22 HG22 HY22 hb23 hE
  go_wp2_with fail
  refine (HIP.out yg yk yl _ hnn hmm hnl (HLy.out.below HB23.out) HY23.out.1.lines HY23.out.2.texts HYE.out.legs).mono ?_
  rintro e w24 ⟨ua, uc, ub, ud, rfl, oa, ob, al, bl, abn, hb24⟩
  have HB24 : Hid (Below w.heap.size w w24) := HB23.out.trans (hb24.mono HB23.out.size)
  have HR24 : Hid (D4 w24 R (.slice sa N sc) (.slice sb K sd) (.int .i64 p) (.int .i64 cd)) := HR23.out.below hb24
  have HS24 : Hid (OwnR w24 sa N 3 (lineF M) ∧ OwnR w24 sb K 1 (textF J)) := ⟨HS23.out.1.below hb24, HS23.out.2.below hb24⟩
  have HM24 : Hid (OwnR w24 ga N 3 (mkLn 1) ∧ OwnR w24 gb K 1 (mkT (1 + N * 3))) := ⟨HM23.out.1.below hb24, HM23.out.2.below hb24⟩
  have HG24 : Hid (D4 w24 G (.slice ga N gc) (.slice gb K gd) (.int .i64 p) (.int .i64 cd)) := HG23.out.below hb24
  have HU24 : Hid (OwnR w24 ua N 3 (lineF M) ∧ OwnR w24 ub K 1 (textF J)) := ⟨oa, ob⟩
  clear oa ob al bl abn
  clear HB23 HR23 HS23 HM23 HG23 HY23 hb24 HYE HIP
  have hal25 : Below w24.heap.size w24 (w24.alloc (.cells #[.slice ua N uc, .slice ub K ud, .int .i64 p, .int .i64 cd] 33)) := (Below.refl _ _).alloc (Nat.le_refl _) _
  have hU25 : OwnR (w24.alloc (.cells #[.slice ua N uc, .slice ub K ud, .int .i64 p, .int .i64 cd] 33)) ua N 3 (lineF M) ∧ OwnR (w24.alloc (.cells #[.slice ua N uc, .slice ub K ud, .int .i64 p, .int .i64 cd] 33)) ub K 1 (textF J) := ⟨HU24.out.1.below hal25, HU24.out.2.below hal25⟩
  have hB25 : Below w.heap.size w (w24.alloc (.cells #[.slice ua N uc, .slice ub K ud, .int .i64 p, .int .i64 cd] 33)) := HB24.out.trans (hal25.mono HB24.out.size)
  have hR25 := HR24.out.below hal25
  have hS25 : OwnR (w24.alloc (.cells #[.slice ua N uc, .slice ub K ud, .int .i64 p, .int .i64 cd] 33)) sa N 3 (lineF M) ∧ OwnR (w24.alloc (.cells #[.slice ua N uc, .slice ub K ud, .int .i64 p, .int .i64 cd] 33)) sb K 1 (textF J) := ⟨HS24.out.1.below hal25, HS24.out.2.below hal25⟩
  have hG25 := HG24.out.below hal25
  have hM25 : OwnR (w24.alloc (.cells #[.slice ua N uc, .slice ub K ud, .int .i64 p, .int .i64 cd] 33)) ga N 3 (mkLn 1) ∧ OwnR (w24.alloc (.cells #[.slice ua N uc, .slice ub K ud, .int .i64 p, .int .i64 cd] 33)) gb K 1 (mkT (1 + N * 3)) := ⟨HM24.out.1.below hal25, HM24.out.2.below hal25⟩
  have hH25 := D4.new w24 (.slice ua N uc) (.slice ub K ud) (.int .i64 p) (.int .i64 cd) 33
  clear hal25
  clear HB24 HR24 HS24 HM24 HG24 HU24
  go_upto_region 34 with fail
  obtain ⟨w25, hw25⟩ : ∃ W, W = (w24.alloc (.cells #[.slice ua N uc, .slice ub K ud, .int .i64 p, .int .i64 cd] 33)) := ⟨_, rfl⟩
  obtain ⟨H, hX25⟩ : ∃ X, X = w24.heap.size := ⟨_, rfl⟩
  rw [← hw25] at hU25 hB25 hR25 hS25 hG25 hM25 hH25 ⊢
  rw [← hX25] at hH25 ⊢
  clear hw25 hX25
  have HU25 : Hid (OwnR w25 ua N 3 (lineF M) ∧ OwnR w25 ub K 1 (textF J)) := hU25
  have HB25 : Hid (Below w.heap.size w w25) := hB25
  have HS25 : Hid (OwnR w25 sa N 3 (lineF M) ∧ OwnR w25 sb K 1 (textF J)) := hS25
  have HG25 : Hid (D4 w25 G (.slice ga N gc) (.slice gb K gd) (.int .i64 p) (.int .i64 cd)) := hG25
  have HM25 : Hid (OwnR w25 ga N 3 (mkLn 1) ∧ OwnR w25 gb K 1 (mkT (1 + N * 3))) := hM25
  obtain ⟨r0, r1, r2, r3, rf, rlt⟩ := hR25
  obtain ⟨h0, h1, h2, h3, hf, hlt⟩ := hH25
  clear hU25 hB25 hS25 hG25 hM25
  go_wp2_with fail
  refine (eq_bookOut ua sa ub sb N K uc ud sc sd M J p cd hN hK _ HU25.out.1 HS25.out.1 HU25.out.2 HS25.out.2).mono ?_
  rintro e w26 ⟨rfl, hb26⟩
  have HB26 : Hid (Below w.heap.size w w26) := HB25.out.trans (hb26.mono HB25.out.size)
  have HM26 : Hid (OwnR w26 ga N 3 (mkLn 1) ∧ OwnR w26 gb K 1 (mkT (1 + N * 3))) := ⟨HM25.out.1.below hb26, HM25.out.2.below hb26⟩
  have HG26 : Hid (D4 w26 G (.slice ga N gc) (.slice gb K gd) (.int .i64 p) (.int .i64 cd)) := HG25.out.below hb26
  clear hb26 r0 r1 r2 r3 rf rlt h0 h1 h2 h3 hf hlt HU25 HS25
  clear HB25 HM25 HG25
  obtain ⟨g0, g1, g2, g3, gf, glt⟩ := HG26.out
  go_wp2_with fail
  refine (held_bookOut ga N gc gb K gd p cd hN hK _ HM26.out.1 HM26.out.2).mono ?_
  rintro e w27 ⟨rfl, hb27⟩
  rw [← HK3.out]
  have HB27 : Hid (Below w.heap.size w w27) := HB26.out.trans (hb27.mono HB26.out.size)
  clear hb27 g0 g1 g2 g3 gf glt HM26 HG26 HB26
  go_wp2_with fail
  go_ret
  exact ⟨rfl, HB27.out⟩
end Go.Proofs.YtepkmbfedblhdaaGreatDoor
namespace Go.Proofs.YtepkmbfedblhdaaGreatDoor
open Go.ChangeShapes Go.WideShapes Go.Deep

section
variable {H : Type} {enc : TypeId × Value → H} {w : World} {base : Nat} {spare : Nat → Bool} {held : Bool}
theorem cells9 : Tryz.prog.cellsOf 9 = 1 := by kernel_rfl
theorem cells2 : Tryz.prog.cellsOf 2 = 1 := by kernel_rfl
theorem cellsSpot : Tryz.prog.cellsOf 49 = 2 := by kernel_rfl
set_option maxRecDepth 100000 in
theorem open_spot {fuel : Nat} {cs : List Value} {x : DataW H × List MemPlace} (h : DataW.trod enc Tryz.prog w base spare held fuel 49 cs = some x) : ∃ s t : ByteArray, cs = [.string s, .string t] ∧ s.size ≤ maxLen ∧ t.size ≤ maxLen := by
  obtain ⟨xs, n, _, _, hlen, hxl, hx⟩ := DataW.trod_struct Tryz.underlying49 h
  rw [cellsSpot] at hlen
  match cs, hlen with
  | [c0, c1], _ =>
  match xs, hxl with
  | [y0, y1], _ =>
  have e0 := hx 0 _ rfl
  have e1 := hx 1 _ rfl
  simp [cells9] at e0 e1
  obtain ⟨s, hs, _, hm⟩ := DataW.trod_string Tryz.underlying9 e0
  obtain ⟨t, ht, _, hm'⟩ := DataW.trod_string Tryz.underlying9 e1
  simp at hs ht
  subst hs ht
  exact ⟨s, t, rfl, hm, hm'⟩
/-- Cells of an element by its number. -/
theorem elem_cells {a : Addr} {i c : Nat} {cs : List Value} (h : w.cells? base (a.add (i * c)) c = some cs) (hc : 0 < c) : ∃ g o, a.block = g ∧ a.off = o ∧ (i = 0 → a.spot = none) ∧ ∀ k, k < c → w.cell? ⟨g, o + i * c + k, none⟩ = cs[k]? := by
  obtain ⟨_, hl, hk⟩ := World.cells?_some h
  have h0 := hk 0 hc
  obtain ⟨g, o, sp⟩ := a
  have hne : cs[0]? ≠ none := by rw [List.getElem?_eq_getElem (by omega)]; simp
  have hsp : (Addr.add ⟨g, o, sp⟩ (i * c)).spot = none := by
    cases e : w.cell? ((Addr.add ⟨g, o, sp⟩ (i * c)).add 0) with
    | none => rw [e] at h0; exact absurd h0.symm hne
    | some v => have := World.cell?_spot e; simpa [Addr.add] using this
  refine ⟨g, o, rfl, rfl, fun hi => by subst hi; simpa [Addr.add] using hsp, fun k hkc => ?_⟩
  rw [← hk k hkc]
  congr 1
  unfold Addr.add at hsp ⊢
  by_cases h1 : i * c = 0
  · rw [if_pos h1] at hsp ⊢
    simp only at hsp
    subst hsp
    split <;> simp_all
  · rw [if_neg h1]
    split <;> simp_all
instance : Inhabited Tx := ⟨⟨⟨#[]⟩⟩⟩
theorem cellsTs : Tryz.prog.cellsOf 23 = 1 := by kernel_rfl
set_option maxRecDepth 100000 in
/-- A []string that came in. -/
theorem open_texts {fuel : Nat} {cs : List Value} {x : DataW H × List MemPlace} (h : DataW.trod enc Tryz.prog w base spare held fuel 23 cs = some x) : ∃ (a : Option Addr) (n cap : Nat) (I : Nat → Tx), cs = [.slice a n cap] ∧ n ≤ maxLen ∧ (∀ i, i < n → (I i).fits) ∧ TextsAt w a n I := by
  rcases open_slice Tryz.underlying23 h with ⟨hcs, _⟩ | ⟨ad, n, cap, m, f, D, Pl, hcs, _, hl, hm, hmm, _, hx⟩
  · exact ⟨none, 0, 0, fun _ => default, hcs, by unfold maxLen; omega, fun i hi => by omega, Or.inl rfl⟩
  · have hnm : n ≤ m := by rw [hmm]; split <;> omega
    rw [cells9] at hx
    obtain ⟨I, hI⟩ := choose_lt (α := Tx) (n := n) (p := fun i l => w.cell? ⟨ad.block, ad.off + i, none⟩ = some (.string l.t) ∧ (i = 0 → ad.spot = none) ∧ l.fits) (fun i hi => by
      obtain ⟨cs', h1, h2⟩ := hx i (by omega)
      obtain ⟨s, rfl, _, hf⟩ := DataW.trod_string Tryz.underlying9 h2
      obtain ⟨g, o, rfl, rfl, hs, hk⟩ := elem_cells h1 (by omega)
      have := hk 0 (by omega)
      exact ⟨⟨s⟩, by simpa using this, hs, hf⟩)
    refine ⟨some ad, n, cap, I, hcs, by omega, fun i hi => (hI i hi).2.2, ?_⟩
    rcases Nat.eq_zero_or_pos n with h0 | hpos
    · exact Or.inl h0
    · have hsp := (hI 0 hpos).2.1 rfl
      obtain ⟨g, o, sp⟩ := ad
      simp only at hsp hI
      subst hsp
      exact Or.inr ⟨g, o, rfl, World.block_lt_of_cell? _ _ (hI 0 hpos).1, fun i hi => (hI i hi).1⟩
end
end Go.Proofs.YtepkmbfedblhdaaGreatDoor
namespace Go.Proofs.YtepkmbfedblhdaaGreatDoor
open Go.ChangeShapes Go.WideShapes Go.Deep

section
variable {H : Type} {enc : TypeId × Value → H} {w : World} {base : Nat} {spare : Nat → Bool} {held : Bool}
instance : Inhabited Ln := ⟨⟨⟨#[]⟩, ⟨#[]⟩, 0⟩⟩
theorem cellsLn : Tryz.prog.cellsOf 80 = 3 := by kernel_rfl
set_option maxRecDepth 100000 in
theorem open_line {fuel : Nat} {cs : List Value} {x : DataW H × List MemPlace} (h : DataW.trod enc Tryz.prog w base spare held fuel 80 cs = some x) : ∃ l : Ln, cs = [.string l.a, .string l.s, .int .i64 l.m] ∧ l.fits := by
  obtain ⟨xs, n, _, _, hlen, hxl, hx⟩ := DataW.trod_struct Tryz.underlying80 h
  rw [cellsLn] at hlen
  match cs, hlen with
  | [c0, c1, c2], _ =>
  match xs, hxl with
  | [y0, y1], _ =>
  have e0 := hx 0 _ rfl
  have e1 := hx 1 _ rfl
  simp [cellsSpot, cells2] at e0 e1
  obtain ⟨s, t, hs, m0, m1⟩ := open_spot e0
  obtain ⟨z, hz, _, _⟩ := DataW.trod_int Tryz.underlying2 e1
  simp at hs hz
  obtain ⟨rfl, rfl⟩ := hs
  subst hz
  exact ⟨⟨s, t, z⟩, rfl, m0, m1⟩
set_option maxRecDepth 100000 in
/-- A []Line that came in. -/
theorem open_lines {fuel : Nat} {cs : List Value} {x : DataW H × List MemPlace} (h : DataW.trod enc Tryz.prog w base spare held fuel 22 cs = some x) : ∃ (a : Option Addr) (n cap : Nat) (L : Nat → Ln), cs = [.slice a n cap] ∧ n ≤ maxLen ∧ (∀ i, i < n → (L i).fits) ∧ LinesAt w a n L := by
  rcases open_slice Tryz.underlying22 h with ⟨hcs, _⟩ | ⟨ad, n, cap, m, f, D, Pl, hcs, _, hl, hm, hmm, _, hx⟩
  · exact ⟨none, 0, 0, fun _ => default, hcs, by unfold maxLen; omega, fun i hi => by omega, Or.inl rfl⟩
  · have hnm : n ≤ m := by rw [hmm]; split <;> omega
    rw [cellsLn] at hx
    obtain ⟨L, hL⟩ := choose_lt (α := Ln) (n := n) (p := fun i l => (∀ k, k < 3 → w.cell? ⟨ad.block, ad.off + i * 3 + k, none⟩ = [Value.string l.a, .string l.s, .int .i64 l.m][k]?) ∧ (i = 0 → ad.spot = none) ∧ l.fits) (fun i hi => by
      obtain ⟨cs', h1, h2⟩ := hx i (by omega)
      obtain ⟨l, rfl, hf⟩ := open_line h2
      obtain ⟨g, o, rfl, rfl, hs, hk⟩ := elem_cells h1 (by omega)
      exact ⟨l, hk, hs, hf⟩)
    refine ⟨some ad, n, cap, L, hcs, by omega, fun i hi => (hL i hi).2.2, ?_⟩
    rcases Nat.eq_zero_or_pos n with h0 | hpos
    · exact Or.inl h0
    · have hsp := (hL 0 hpos).2.1 rfl
      obtain ⟨g, o, sp⟩ := ad
      simp only at hsp hL
      subst hsp
      refine Or.inr ⟨g, o, rfl, ?_, fun i hi => ?_⟩
      · have := (hL 0 hpos).1 0 (by omega)
        exact World.block_lt_of_cell? _ _ this
      · have hk := (hL i hi).1
        exact ⟨hk 0 (by omega), hk 1 (by omega), hk 2 (by omega)⟩
set_option maxRecDepth 100000 in
/-- A Spot that came in. -/
theorem open_spotv {r : Reach} {b0 : Nat} {v : Value} {d : DataW H} {p : List MemPlace} (hv : Value.okWide Tryz.prog w r b0 49 v) (h : DataW.Trod enc Tryz.prog w base spare held 49 v d p) :
    ∃ s t : ByteArray, v = .agg #[.string s, .string t] ∧ s.size ≤ maxLen ∧ t.size ≤ maxLen := by
  obtain ⟨cs, rfl, hz⟩ := okWide_struct Tryz.underlying49 hv
  obtain ⟨fuel, hf⟩ := h
  obtain ⟨s, t, hcs, h1, h2⟩ := open_spot hf
  obtain ⟨l⟩ := cs
  simp [Value.cells] at hcs
  subst hcs
  exact ⟨s, t, rfl, h1, h2⟩
theorem cellsBk : Tryz.prog.cellsOf 25 = 2 := by kernel_rfl
theorem cellsLs : Tryz.prog.cellsOf 22 = 1 := by kernel_rfl
set_option maxRecDepth 100000 in
/-- A Book that came in. -/
theorem open_book {r : Reach} {b0 : Nat} {v : Value} {d : DataW H} {p : List MemPlace} (hv : Value.okWide Tryz.prog w r b0 25 v) (h : DataW.Trod enc Tryz.prog w base spare held 25 v d p) :
    ∃ (a b : Option Addr) (n m cap cap' : Nat) (L : Nat → Ln) (I : Nat → Tx), v = .agg #[.slice a n cap, .slice b m cap'] ∧ n ≤ maxLen ∧ m ≤ maxLen ∧ (∀ i, i < n → (L i).fits) ∧ (∀ i, i < m → (I i).fits) ∧ LinesAt w a n L ∧ TextsAt w b m I := by
  obtain ⟨cs, rfl, hz⟩ := okWide_struct Tryz.underlying25 hv
  rw [cellsBk] at hz
  obtain ⟨fuel, hf⟩ := h
  obtain ⟨xs, f, _, _, _, hxl, hx⟩ := DataW.trod_struct Tryz.underlying25 hf
  obtain ⟨l⟩ := cs
  match l, hz with
  | [c0, c1], _ =>
  match xs, hxl with
  | [y0, y1], _ =>
  have e0 := hx 0 _ rfl
  have e1 := hx 1 _ rfl
  simp [Value.cells, cellsLs, cellsTs] at e0 e1
  obtain ⟨a, n, cap, L, h0, hn, hL, hA⟩ := open_lines e0
  obtain ⟨b, m, cap', I, h1, hm, hI, hB⟩ := open_texts e1
  simp at h0 h1
  subst h0 h1
  exact ⟨a, b, n, m, cap, cap', L, I, rfl, hn, hm, hL, hI, hA, hB⟩
end
end Go.Proofs.YtepkmbfedblhdaaGreatDoor
namespace Go.Proofs.YtepkmbfedblhdaaGreatDoor
open Go.ChangeShapes Go.WideShapes Go.Deep

section
variable {H : Type} {enc : TypeId × Value → H} {w : World} {base : Nat} {spare : Nat → Bool} {held : Bool}
theorem cellsLeg : Tryz.prog.cellsOf 51 = 5 := by kernel_rfl
set_option maxRecDepth 100000 in
theorem open_leg {fuel : Nat} {cs : List Value} {x : DataW H × List MemPlace} (h : DataW.trod enc Tryz.prog w base spare held fuel 51 cs = some x) : ∃ l : Lg, cs = [.string l.fa, .string l.fs, .string l.ta, .string l.ts, .int .i64 l.m] ∧ l.fits := by
  obtain ⟨xs, n, _, _, hlen, hxl, hx⟩ := DataW.trod_struct Tryz.underlying51 h
  rw [cellsLeg] at hlen
  match cs, hlen with
  | [c0, c1, c2, c3, c4], _ =>
  match xs, hxl with
  | [y0, y1, y2], _ =>
  have e0 := hx 0 _ rfl
  have e1 := hx 1 _ rfl
  have e2 := hx 2 _ rfl
  simp [cellsSpot, cells2] at e0 e1 e2
  obtain ⟨s, t, hs, m0, m1⟩ := open_spot e0
  obtain ⟨s', t', hs', m2, m3⟩ := open_spot e1
  obtain ⟨z, hz, _, _⟩ := DataW.trod_int Tryz.underlying2 e2
  simp at hs hs' hz
  obtain ⟨rfl, rfl⟩ := hs
  obtain ⟨rfl, rfl⟩ := hs'
  subst hz
  exact ⟨⟨s, t, s', t', z⟩, rfl, m0, m1, m2, m3⟩
instance : Inhabited Lg := ⟨⟨⟨#[]⟩, ⟨#[]⟩, ⟨#[]⟩, ⟨#[]⟩, 0⟩⟩
set_option maxRecDepth 100000 in
/-- A []Leg that came in. -/
theorem open_legs {fuel : Nat} {a : Option Addr} {n cap : Nat} {x : DataW H × List MemPlace} (h : DataW.trod enc Tryz.prog w base spare held fuel 26 [.slice a n cap] = some x) : ∃ L : Nat → Lg, n ≤ maxLen ∧ (∀ i, i < n → (L i).fits) ∧ LegsAt w a n L := by
  rcases open_slice Tryz.underlying26 h with ⟨hcs, _⟩ | ⟨ad, len, cap', m, f, D, Pl, hcs, _, hl, hm, hmm, _, hx⟩
  · simp at hcs
    obtain ⟨rfl, rfl, rfl⟩ := hcs
    exact ⟨fun _ => default, by unfold maxLen; omega, fun i hi => by omega, Or.inl rfl⟩
  · simp at hcs
    obtain ⟨rfl, rfl, rfl⟩ := hcs
    have hnm : n ≤ m := by rw [hmm]; split <;> omega
    rw [cellsLeg] at hx
    obtain ⟨L, hL⟩ := choose_lt (α := Lg) (n := n) (p := fun i l => (∀ k, k < 5 → w.cell? ⟨ad.block, ad.off + i * 5 + k, none⟩ = [Value.string l.fa, .string l.fs, .string l.ta, .string l.ts, .int .i64 l.m][k]?) ∧ (i = 0 → ad.spot = none) ∧ l.fits) (fun i hi => by
      obtain ⟨cs', h1, h2⟩ := hx i (by omega)
      obtain ⟨l, rfl, hf⟩ := open_leg h2
      obtain ⟨g, o, rfl, rfl, hs, hk⟩ := elem_cells h1 (by omega)
      exact ⟨l, hk, hs, hf⟩)
    refine ⟨L, by omega, fun i hi => (hL i hi).2.2, ?_⟩
    rcases Nat.eq_zero_or_pos n with h0 | hpos
    · exact Or.inl h0
    · have hsp := (hL 0 hpos).2.1 rfl
      obtain ⟨g, o, sp⟩ := ad
      simp only at hsp hL
      subst hsp
      refine Or.inr ⟨g, o, rfl, ?_, fun i hi => ?_⟩
      · have := (hL 0 hpos).1 0 (by omega)
        exact World.block_lt_of_cell? _ _ this
      · have hk := (hL i hi).1
        exact ⟨hk 0 (by omega), hk 1 (by omega), hk 2 (by omega), hk 3 (by omega), hk 4 (by omega)⟩
end
end Go.Proofs.YtepkmbfedblhdaaGreatDoor
namespace Go.Proofs.YtepkmbfedblhdaaGreatDoor
open Go.RowKit

namespace Laid
theorem et : Tryz.prog.globalNamed "errors.errorType" = some 0 := by kernel_rfl
theorem rt : (Tryz.prog.cutTypes.find? (·.1 == "internal/reflectlite.rtype")).map (·.2) = some 134 := by kernel_rfl
theorem oneRow : ((List.range 177).filter fun t => Tryz.prog.rowNamed t [101, 114, 114, 111, 114]) = [66] := by kernel_rfl
theorem size : Tryz.prog.types.size = 177 := by kernel_rfl
theorem handle {L : List (String × DataW Unit)} {W : World} (h : handlesMet Tryz.prog L W) (hm : ("errors.errorType", Rows.laid_errors_errorType) ∈ L) : Lay W := by
  obtain ⟨name, u, ty, e1, e2, e3, e4, e5⟩ := h _ hm
  have en : name = [101, 114, 114, 111, 114] := (Option.some.inj e1).symm
  subst en
  obtain rfl := Option.some.inj (rt.symm.trans e2)
  have hm : ty ∈ (List.range 177).filter fun t => Tryz.prog.rowNamed t [101, 114, 114, 111, 114] := List.mem_filter.2 ⟨List.mem_range.2 (by rw [← size]; exact e3), e4⟩
  rw [oneRow] at hm
  obtain rfl := List.mem_singleton.1 hm
  have hh : typeHandle Tryz.prog 66 = .pointer (some ⟨2, 66, none⟩) := by kernel_rfl
  rw [hh] at e5
  unfold Lay
  simpa using World.var?_cell et e5 0
end Laid

def laidH : List (String × DataW Unit) := [("errors.errorType", Rows.laid_errors_errorType)]
theorem lay_h {W : World} (h : laidMetH Tryz.prog laidH W) : Lay W := by
  have h' : laidMet Tryz.prog [] W ∧ handlesMet Tryz.prog laidH W := h
  exact Laid.handle h'.2 (List.mem_singleton.2 rfl)
theorem door_h (os : Os) (args : Array Value) : laidMetH Tryz.prog laidH ((World.doorLaid Tryz.prog 400 os).forCall (fun _ _ => 0) ⟨#[], args, []⟩).memory :=
  laidMetH_of_parts (laidMet_nil _ _) (by kernel_rfl)

end Go.Proofs.YtepkmbfedblhdaaGreatDoor
