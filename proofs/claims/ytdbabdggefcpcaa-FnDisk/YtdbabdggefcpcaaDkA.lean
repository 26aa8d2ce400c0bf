/- A disk copied (impl.apart, spec.l06Copy): what each call does. -/
import Derived.Test.YtdbabdggefcpcaaDkT
import Derived.Deep.RegionHeldLaw
import Derived.Deep.AppendLies
namespace Go.Proofs.Ytdbabdggefcpcaa
open Go.RowKit


theorem own_base {w : World} {B B' : Nat} {e size : Nat} {v : Value} {n : Nat} {xs : List Value} (h : w.ownsRow B e size v n xs) (hB : B' ≤ B) : w.ownsRow B' e size v n xs := by
  rcases h with ⟨h1, h2 | ⟨g, cap, cur, rfl, hg0, r⟩⟩
  · exact ⟨h1, Or.inl h2⟩
  · exact ⟨h1, Or.inr ⟨g, cap, cur, rfl, Nat.le_trans hB hg0, r⟩⟩
theorem info9 : (Try.prog.info? 9).map (fun i => (i.zero, i.size, i.bytes)) = some (some (.string ⟨#[]⟩), 1, 16) := by kernel_rfl
theorem news1 {w : World} {b : Nat} (x : Value) (hb : b = w.heap.size) : ∀ j u, [x][j]? = some u → (w.alloc (.cells #[x] 9)).cell? ((⟨b, 0, none⟩ : Addr).add j) = some u := by
  intro j u hj
  subst hb
  rw [add_off, Nat.zero_add, World.cell?_alloc_new, ← hj]
  simp
theorem ones1 (x : ByteArray) : ∀ u ∈ [Value.string x], u.oneCell' = true := by
  intro u hu; simp at hu; subst hu; rfl
theorem own_cell {w : World} {B e size n r j : Nat} {v u : Value} {xs : List Value} (h : w.ownsRow B e size v n xs) (hr : r < B) : (w.setCell ⟨r, j, none⟩ u).ownsRow B e size v n xs :=
  h.kept (setGrown (World.grownBy.refl _ _)) (Or.inr (fun e => by have := (h.lt r e).1; omega))
theorem own_slice {w : World} {B e size n : Nat} {v : Value} {xs : List Value} (h : w.ownsRow B e size v n xs) : ∃ a c, v = .slice a n c := by
  rcases h with ⟨_, ⟨rfl, rfl⟩ | ⟨g, cap, _, rfl, _⟩⟩
  · exact ⟨_, _, rfl⟩
  · exact ⟨_, _, rfl⟩
theorem Bx.set {W : World} {b : Nat} {s : ByteArray} {v : Value} (h : Bx W b s v) (u : Value) : Bx (W.setCell ⟨b, 1, none⟩ u) b s u := by
  have a1 := h.c1
  refine ⟨?_, by simp [go_sem, a1], by simpa using h.lt⟩
  rw [World.cell?_setCell_other _ _ _ _ (by simp)]; exact h.c0
/-- Behind the append: the box of the own disk, the row, the world. -/
theorem app_tail {wr w2 w3 : World} {Q k g2 cap2 : Nat} {s : ByteArray} {v : Value} {xs ys : List Value} {o : Obj} (hX : Bx wr Q s v) (hF : ∀ j, wr.frozen? ⟨Q, j, none⟩ = false) (hO : wr.ownsRow (Q + 1) 9 1 v k xs)
    (hb2 : Below wr.drew.heap.size wr.drew w2) (hown : w3.ownsRow (Q + 1) 9 1 (.slice (some ⟨g2, 0, none⟩) (k + 1) cap2) (k + 1) ys) (hg : (w2.alloc o).grownBy w3 v.ownBlock) :
    w3.cell? ⟨Q, 0, none⟩ = some (.string s) ∧ w3.cell? ⟨Q, 1, none⟩ = some v ∧ (∀ j, w3.frozen? ⟨Q, j, none⟩ = false) ∧ Hid (w3.ownsRow (Q + 1) 9 1 (.slice (some ⟨g2, 0, none⟩) (k + 1) cap2) (k + 1) ys) ∧ Hid (Below Q wr w3 ∧ Q < w3.heap.size) := by
  have hb : Below wr.heap.size wr w2 := (Below.refl _ wr).drew.trans hb2
  have hsz := hb.size
  have hlt := hX.lt
  have hne : some Q ≠ v.ownBlock := fun e => by have := (hO.lt Q e.symm).1; omega
  have X2 := (hX.below hb).below ((Below.refl _ w2).alloc (Nat.le_refl _) o)
  have hblk := hg.block Q X2.lt hne
  refine ⟨(X2.grown hg hne).c0, (X2.grown hg hne).c1, fun j => ?_, hown, ?_, ?_⟩
  · rw [World.frozen?_of_block (a := ⟨Q, j, none⟩) hblk, World.frozen?_alloc_past _ _ _ (by show Q < _; omega)]
    exact (hb.frozen (p := ⟨Q, j, none⟩) hlt).trans (hF j)
  · exact ((hb.mono (by omega)).alloc (by omega) o).grown hg (by simp; omega) (fun k hk => by have := (hO.lt k hk).1; omega)
  · exact (X2.grown hg hne).lt
set_option maxRecDepth 100000 in
set_option maxHeartbeats 8000000 in
theorem impl_apart (s : ByteArray) (a : Option Addr) (n cap : Nat) (I : Nat → Tx) (hs : s.size ≤ 1048576) (hsm : ∀ i, i < n → (I i).small) (w : World) (h : TextsAt w a n I) (hn : n ≤ 1048576) :
    Calls Try.prog 43 #[.agg #[.string s, .slice a n cap]] w fun e w' => ∃ v, e = .returned (.agg #[.string s, v]) ∧ w'.ownsRow w.heap.size 9 1 v n (textsC I n) ∧ Below w.heap.size w w' := by
  obtain ⟨i0, hi, hz0, hz1, hz2⟩ := info_parts info9
  have HL : Hid (TextsAt w a n I) := h
  have HM : Hid (∀ i, i < n → (I i).small) := hsm
  have T0 := two_now w #[.string s, .slice a n cap] #[.string ⟨#[]⟩, .slice none 0 0] 25 25
  have HT0 : Hid (Both w ((w.alloc (.cells #[.string s, .slice a n cap] 25)).alloc (.cells #[.string ⟨#[]⟩, .slice none 0 0] 25)) #[.string s, .slice a n cap] #[.string ⟨#[]⟩, .slice none 0 0]) := T0
  have HF0 : Hid (∀ j, ((w.alloc (.cells #[.string s, .slice a n cap] 25)).alloc (.cells #[.string ⟨#[]⟩, .slice none 0 0] 25)).frozen? ⟨w.heap.size + 1, j, none⟩ = false) := fun j => fnew' (by simp) j
  clear h hsm T0
  have hss : s.size ≤ 2097152 := by omega
  go_enter Try.func43, Try.ntmps43
  go_wp2_with fail
  refine (join_one s hss _ _ (by simp)).mono ?_
  rintro e w1 ⟨rfl, hb1⟩
  have T1 := HT0.out.next hb1
  have b1 := T1.box 1
  have r0 := T1.res 0
  have r1 := T1.res 1
  simp at b1 r0 r1
  have rf : ∀ j, w1.frozen? ⟨w.heap.size + 1, j, none⟩ = false := fun j => (hb1.frozen (p := ⟨w.heap.size + 1, j, none⟩) (by simp)).trans (HF0.out j)
  have h2 : w.heap.size + 2 ≤ w1.heap.size := T1.size
  have HB1 : Hid (Below w.heap.size w w1) := T1.bel
  clear hb1 HT0 HF0 T1
  have HBx : Hid (Bx (w1.alloc (.cells #[.string s, .slice none 0 0] 25)) w1.heap.size s (.slice none 0 0)) := Bx.new _ _ _ _
  have HFx : Hid (∀ j, (w1.alloc (.cells #[.string s, .slice none 0 0] 25)).frozen? ⟨w1.heap.size, j, none⟩ = false) := fun j => fnew' rfl j
  have HBa : Hid (Below w1.heap.size w1 (w1.alloc (.cells #[.string s, .slice none 0 0] 25))) := (Below.refl _ _).alloc (Nat.le_refl _) _
  have n0 : w.heap.size < w1.heap.size := by omega
  have n1 : w1.heap.size ≠ w.heap.size := by omega
  have n2 : w.heap.size ≠ w1.heap.size := by omega
  go_wp2_with fail
  go_loopw [14] (fun i wr => ∃ (k : Nat) (v : Value), i = .int .i64 (k : Int) ∧ k ≤ n ∧ Hid (wr.ownsRow (w1.heap.size + 1) 9 1 v k (textsC I k)) ∧ Hid (Bx wr w1.heap.size s v) ∧ Hid (∀ j, wr.frozen? ⟨w1.heap.size, j, none⟩ = false) ∧ Hid (Below w1.heap.size w1 wr)) (fun i _ => n - (intOf i).toNat)
  case atStart => exact ⟨0, .slice none 0 0, rfl, by omega, World.ownsRow_nil _ _ _ _, HBx, HFx, HBa⟩
  case round =>
    obtain ⟨k, v, rfl, hk, HO, HX, HFz, HB⟩ := hrel
    have HBw : Hid (Below w.heap.size w wr) := HB1.out.trans (HB.out.mono HB1.out.size)
    obtain ⟨Q, hQ⟩ : ∃ Q, Q = w1.heap.size := ⟨_, rfl⟩
    rw [← hQ] at HO HX HFz ⊢
    obtain ⟨c0, c1, clt⟩ := HX.out
    have cf := HFz.out
    have hQ2 : w.heap.size + 2 ≤ Q := by omega
    have HQ : Hid (Q = w1.heap.size) := hQ
    clear hQ
    by_cases hkn : k < n
    · have p0 : decide (k < n) = true := by simpa using hkn
      have p1 : decide ((k : Int) < (n : Int)) = true := by simpa using hkn
      rcases HL.out with h0 | ⟨g, o, rfl, hg, hc⟩
      · omega
      have d0 := (HBw.out.cell (p := ⟨g, o + k, none⟩) hg).trans (hc k hkn)
      have hx0 : (I k).t.size ≤ 2097152 := by have : (I k).t.size ≤ 1048576 := HM.out k hkn; omega
      have HE : Hid (textsC I (k + 1) = textsC I k ++ [.string (I k).t]) := rfl
      clear hc
      generalize (I k).t = x0 at *
      go_upto_region 5 with fail
      refine wp_region_any (by kernel_rfl) ?_
      try (change wpAny _ _ _ _ _ _ _ (World.drew _))
      refine wpAny_take (i := 0) (v := ?_) rfl (by kernel_rfl) (by kernel_rfl) (by kernel_rfl) (fun _ _ _ h => h) (Or.inl ⟨by rfl, ?_⟩) ?_
      rotate_left 1
      · first | (intro w; go_simp; done) | (intro w; go_simp; with_reducible rfl)
      try go_simp
      refine wpAny_take (i := 2) (v := ?_) rfl (by kernel_rfl) (by kernel_rfl) (by kernel_rfl) (fun _ _ _ h => h) (Or.inl ⟨by rfl, ?_⟩) ?_
      rotate_left 1
      · first | (intro w; go_simp; done) | (intro w; go_simp; with_reducible rfl)
      try go_simp
      refine wpAny_ready (rs := [1, 3]) (by kernel_rfl) (by simp) ?_
      refine AllReady.cons rfl (fun K hK => ?_) (AllReady.cons rfl (fun K hK => ?_) AllReady.nil)
      · go_simp
        refine hK _ _ ?_
        clear hK K
        try go_simp
        refine wpAny_ready (rs := [3]) (by kernel_rfl) (by simp) ?_
        refine AllReady.cons rfl (fun K hK => ?_) AllReady.nil
        · go_simp
          refine hK _ _ ?_
          clear hK K
          try go_simp
          refine wpAny_ready (rs := [4]) (by kernel_rfl) (by simp) ?_
          refine AllReady.cons rfl (fun K hK => ?_) AllReady.nil
          · go_simp
            go_wp2_with (first | (go_at_call 42; refine (join_one x0 hx0 wr.drew _ rfl).mono ?_; rintro e w2 ⟨rfl, hb2⟩; have e1 : w2.cell? ⟨Q, 1, none⟩ = some v := (hb2.cell (p := ⟨Q, 1, none⟩) clt).trans c1; have clt2 : Q < w2.heap.size := Nat.lt_of_lt_of_le clt hb2.size))
            try go_simp
            refine wpAny_ready (rs := [5]) (by kernel_rfl) (by simp) ?_
            refine AllReady.cons rfl (fun K hK => ?_) AllReady.nil
            · go_simp
              refine hK _ _ ?_
              clear hK K
              try go_simp
              refine wpAny_ready (rs := [6]) (by kernel_rfl) (by simp) ?_
              refine AllReady.cons rfl (fun K hK => ?_) AllReady.nil
              · refine step_append_lies _ (by rfl) _ _ _ (by rfl) (Q + 1) 9 i0 (.string ⟨#[]⟩) 1 16 Try.underlying23 hi hz0 hz1 hz2 (by rfl) (by decide) v k (textsC I k) (by rfl) ((own_below HO.out ((Below.refl _ wr).drew.trans hb2)).alloc _) ⟨w2.heap.size, 0, none⟩ 1 1 [.string x0] (by rfl) (by rfl) (news1 _ rfl) (ones1 _) (by omega) (by unfold maxLen; omega) (by omega) (by have := hb2.size; simp at this; simp; omega) (w2.heap.size + 1) (by simp) ?_
                intro g2 cap2 w3 hown3 hg3 hat hlt
                obtain ⟨f0, f1, ff, HR, HBn⟩ := app_tail HX.out HFz.out HO.out hb2 hown3 hg3
                refine hK _ _ ?_
                clear hK K
                try go_simp
                refine wpAny_take (i := 7) (v := ?_) rfl (by kernel_rfl) (by kernel_rfl) (by kernel_rfl) (fun _ _ _ h => h) (Or.inl ⟨by rfl, ?_⟩) ?_
                rotate_left 1
                · first | (intro w; go_simp; done) | (intro w; go_simp; with_reducible rfl)
                try go_simp
                refine wpAny_ready (rs := [8]) (by kernel_rfl) (by simp) ?_
                refine AllReady.cons rfl (fun K hK => ?_) AllReady.nil
                · go_simp
                  refine hK _ _ ?_
                  clear hK K
                  try go_simp
                  refine wpAny_done (by kernel_rfl) ?_ _
                  have HE' : Hid (textsC I k ++ [.string x0] = textsC I (k + 1)) := HE.out.symm
                  rw [HE'.out] at HR
                  clear hown3 hg3 hat hlt
                  go_wp2_with fail
                  go_roundw
                  case rel =>
                    have e := HQ.out
                    exact ⟨k + 1, _, by go_num, by omega, own_cell HR.out (by omega), Bx.set ⟨f0, f1, HBn.out.2⟩ _, fun j => by simp [ff], ((by rw [e]; exact HB.out : Below Q w1 wr).trans HBn.out.1).setCell (Nat.le_refl _) _⟩
                  case measure => simp [intOf]; omega
      · go_simp
        refine hK _ _ ?_
        clear hK K
        try go_simp
        refine wpAny_ready (rs := [1, 4]) (by kernel_rfl) (by simp) ?_
        refine AllReady.cons rfl (fun K hK => ?_) (AllReady.cons rfl (fun K hK => ?_) AllReady.nil)
        · go_simp
          refine hK _ _ ?_
          clear hK K
          try go_simp
          refine wpAny_ready (rs := [4]) (by kernel_rfl) (by simp) ?_
          refine AllReady.cons rfl (fun K hK => ?_) AllReady.nil
          · go_simp
            go_wp2_with (first | (go_at_call 42; refine (join_one x0 hx0 wr.drew _ rfl).mono ?_; rintro e w2 ⟨rfl, hb2⟩; have e1 : w2.cell? ⟨Q, 1, none⟩ = some v := (hb2.cell (p := ⟨Q, 1, none⟩) clt).trans c1; have clt2 : Q < w2.heap.size := Nat.lt_of_lt_of_le clt hb2.size))
            try go_simp
            refine wpAny_ready (rs := [5]) (by kernel_rfl) (by simp) ?_
            refine AllReady.cons rfl (fun K hK => ?_) AllReady.nil
            · go_simp
              refine hK _ _ ?_
              clear hK K
              try go_simp
              refine wpAny_ready (rs := [6]) (by kernel_rfl) (by simp) ?_
              refine AllReady.cons rfl (fun K hK => ?_) AllReady.nil
              · refine step_append_lies _ (by rfl) _ _ _ (by rfl) (Q + 1) 9 i0 (.string ⟨#[]⟩) 1 16 Try.underlying23 hi hz0 hz1 hz2 (by rfl) (by decide) v k (textsC I k) (by rfl) ((own_below HO.out ((Below.refl _ wr).drew.trans hb2)).alloc _) ⟨w2.heap.size, 0, none⟩ 1 1 [.string x0] (by rfl) (by rfl) (news1 _ rfl) (ones1 _) (by omega) (by unfold maxLen; omega) (by omega) (by have := hb2.size; simp at this; simp; omega) (w2.heap.size + 1) (by simp) ?_
                intro g2 cap2 w3 hown3 hg3 hat hlt
                obtain ⟨f0, f1, ff, HR, HBn⟩ := app_tail HX.out HFz.out HO.out hb2 hown3 hg3
                refine hK _ _ ?_
                clear hK K
                try go_simp
                refine wpAny_take (i := 7) (v := ?_) rfl (by kernel_rfl) (by kernel_rfl) (by kernel_rfl) (fun _ _ _ h => h) (Or.inl ⟨by rfl, ?_⟩) ?_
                rotate_left 1
                · first | (intro w; go_simp; done) | (intro w; go_simp; with_reducible rfl)
                try go_simp
                refine wpAny_ready (rs := [8]) (by kernel_rfl) (by simp) ?_
                refine AllReady.cons rfl (fun K hK => ?_) AllReady.nil
                · go_simp
                  refine hK _ _ ?_
                  clear hK K
                  try go_simp
                  refine wpAny_done (by kernel_rfl) ?_ _
                  have HE' : Hid (textsC I k ++ [.string x0] = textsC I (k + 1)) := HE.out.symm
                  rw [HE'.out] at HR
                  clear hown3 hg3 hat hlt
                  go_wp2_with fail
                  go_roundw
                  case rel =>
                    have e := HQ.out
                    exact ⟨k + 1, _, by go_num, by omega, own_cell HR.out (by omega), Bx.set ⟨f0, f1, HBn.out.2⟩ _, fun j => by simp [ff], ((by rw [e]; exact HB.out : Below Q w1 wr).trans HBn.out.1).setCell (Nat.le_refl _) _⟩
                  case measure => simp [intOf]; omega
        · go_simp
          go_wp2_with (first | (go_at_call 42; refine (join_one x0 hx0 wr.drew _ rfl).mono ?_; rintro e w2 ⟨rfl, hb2⟩; have e1 : w2.cell? ⟨Q, 1, none⟩ = some v := (hb2.cell (p := ⟨Q, 1, none⟩) clt).trans c1; have clt2 : Q < w2.heap.size := Nat.lt_of_lt_of_le clt hb2.size))
          try go_simp
          refine wpAny_ready (rs := [1, 5]) (by kernel_rfl) (by simp) ?_
          refine AllReady.cons rfl (fun K hK => ?_) (AllReady.cons rfl (fun K hK => ?_) AllReady.nil)
          · go_simp
            refine hK _ _ ?_
            clear hK K
            try go_simp
            refine wpAny_ready (rs := [5]) (by kernel_rfl) (by simp) ?_
            refine AllReady.cons rfl (fun K hK => ?_) AllReady.nil
            · go_simp
              refine hK _ _ ?_
              clear hK K
              try go_simp
              refine wpAny_ready (rs := [6]) (by kernel_rfl) (by simp) ?_
              refine AllReady.cons rfl (fun K hK => ?_) AllReady.nil
              · refine step_append_lies _ (by rfl) _ _ _ (by rfl) (Q + 1) 9 i0 (.string ⟨#[]⟩) 1 16 Try.underlying23 hi hz0 hz1 hz2 (by rfl) (by decide) v k (textsC I k) (by rfl) ((own_below HO.out ((Below.refl _ wr).drew.trans hb2)).alloc _) ⟨w2.heap.size, 0, none⟩ 1 1 [.string x0] (by rfl) (by rfl) (news1 _ rfl) (ones1 _) (by omega) (by unfold maxLen; omega) (by omega) (by have := hb2.size; simp at this; simp; omega) (w2.heap.size + 1) (by simp) ?_
                intro g2 cap2 w3 hown3 hg3 hat hlt
                obtain ⟨f0, f1, ff, HR, HBn⟩ := app_tail HX.out HFz.out HO.out hb2 hown3 hg3
                refine hK _ _ ?_
                clear hK K
                try go_simp
                refine wpAny_take (i := 7) (v := ?_) rfl (by kernel_rfl) (by kernel_rfl) (by kernel_rfl) (fun _ _ _ h => h) (Or.inl ⟨by rfl, ?_⟩) ?_
                rotate_left 1
                · first | (intro w; go_simp; done) | (intro w; go_simp; with_reducible rfl)
                try go_simp
                refine wpAny_ready (rs := [8]) (by kernel_rfl) (by simp) ?_
                refine AllReady.cons rfl (fun K hK => ?_) AllReady.nil
                · go_simp
                  refine hK _ _ ?_
                  clear hK K
                  try go_simp
                  refine wpAny_done (by kernel_rfl) ?_ _
                  have HE' : Hid (textsC I k ++ [.string x0] = textsC I (k + 1)) := HE.out.symm
                  rw [HE'.out] at HR
                  clear hown3 hg3 hat hlt
                  go_wp2_with fail
                  go_roundw
                  case rel =>
                    have e := HQ.out
                    exact ⟨k + 1, _, by go_num, by omega, own_cell HR.out (by omega), Bx.set ⟨f0, f1, HBn.out.2⟩ _, fun j => by simp [ff], ((by rw [e]; exact HB.out : Below Q w1 wr).trans HBn.out.1).setCell (Nat.le_refl _) _⟩
                  case measure => simp [intOf]; omega
          · go_simp
            refine hK _ _ ?_
            clear hK K
            try go_simp
            refine wpAny_ready (rs := [1]) (by kernel_rfl) (by simp) ?_
            refine AllReady.cons rfl (fun K hK => ?_) AllReady.nil
            · go_simp
              refine hK _ _ ?_
              clear hK K
              try go_simp
              refine wpAny_ready (rs := [6]) (by kernel_rfl) (by simp) ?_
              refine AllReady.cons rfl (fun K hK => ?_) AllReady.nil
              · refine step_append_lies _ (by rfl) _ _ _ (by rfl) (Q + 1) 9 i0 (.string ⟨#[]⟩) 1 16 Try.underlying23 hi hz0 hz1 hz2 (by rfl) (by decide) v k (textsC I k) (by rfl) ((own_below HO.out ((Below.refl _ wr).drew.trans hb2)).alloc _) ⟨w2.heap.size, 0, none⟩ 1 1 [.string x0] (by rfl) (by rfl) (news1 _ rfl) (ones1 _) (by omega) (by unfold maxLen; omega) (by omega) (by have := hb2.size; simp at this; simp; omega) (w2.heap.size + 1) (by simp) ?_
                intro g2 cap2 w3 hown3 hg3 hat hlt
                obtain ⟨f0, f1, ff, HR, HBn⟩ := app_tail HX.out HFz.out HO.out hb2 hown3 hg3
                refine hK _ _ ?_
                clear hK K
                try go_simp
                refine wpAny_take (i := 7) (v := ?_) rfl (by kernel_rfl) (by kernel_rfl) (by kernel_rfl) (fun _ _ _ h => h) (Or.inl ⟨by rfl, ?_⟩) ?_
                rotate_left 1
                · first | (intro w; go_simp; done) | (intro w; go_simp; with_reducible rfl)
                try go_simp
                refine wpAny_ready (rs := [8]) (by kernel_rfl) (by simp) ?_
                refine AllReady.cons rfl (fun K hK => ?_) AllReady.nil
                · go_simp
                  refine hK _ _ ?_
                  clear hK K
                  try go_simp
                  refine wpAny_done (by kernel_rfl) ?_ _
                  have HE' : Hid (textsC I k ++ [.string x0] = textsC I (k + 1)) := HE.out.symm
                  rw [HE'.out] at HR
                  clear hown3 hg3 hat hlt
                  go_wp2_with fail
                  go_roundw
                  case rel =>
                    have e := HQ.out
                    exact ⟨k + 1, _, by go_num, by omega, own_cell HR.out (by omega), Bx.set ⟨f0, f1, HBn.out.2⟩ _, fun j => by simp [ff], ((by rw [e]; exact HB.out : Below Q w1 wr).trans HBn.out.1).setCell (Nat.le_refl _) _⟩
                  case measure => simp [intOf]; omega
    · have p0 : decide (k < n) = false := by simpa using hkn
      have p1 : decide ((k : Int) < (n : Int)) = false := by simpa using hkn
      obtain rfl : k = n := by omega
      have q0 := (HB.out.cell (p := ⟨w.heap.size + 1, 0, none⟩) (by show w.heap.size + 1 < _; omega)).trans r0
      have q1 := (HB.out.cell (p := ⟨w.heap.size + 1, 1, none⟩) (by show w.heap.size + 1 < _; omega)).trans r1
      have qf : ∀ j, wr.frozen? ⟨w.heap.size + 1, j, none⟩ = false := fun j => (HB.out.frozen (p := ⟨w.heap.size + 1, j, none⟩) (by show w.heap.size + 1 < _; omega)).trans (rf j)
      obtain ⟨av, cv, hv⟩ := own_slice HO.out
      subst hv
      go_wp2_with fail
      refine bodyPost_ret (v := .agg #[.string s, .slice av k cv]) ?_ rfl ⟨_, rfl, ?_, ?_⟩
      · simp [results, Try.results43, go_sem, q0, q1]
      · exact own_base (own_cell (own_cell HO.out (by omega)) (by omega)) (by omega)
      · exact (HBw.out.setCell (by show w.heap.size ≤ w.heap.size + 1; omega) _).setCell (by show w.heap.size ≤ w.heap.size + 1; omega) _
/-- An append whose run is known, as a step of a region that draws. -/
theorem step_append_eq {ops : Array Oper} {o : Oper} {a : Act} {w : World} {K : Act → World → Prop} {Q : Exit → Act → World → Prop} {E : Prop} (hg : o.guard = none) (d x : Operand) (t : TypeId) (ho : o.op = .call { callee := .builtin .append, args := #[d, x], argTypes := #[t, t] })
    (v u : Value) (hd : a.eval d = v) (hx : a.eval x = u) {v' : Value} {w' : World} (hr : (Builtin.append_ #[t, t] o.type #[v, u]).run Try.prog w = .ok v' w') (hK : K (a.put o.dst v') w') :
    if Region.wanted o (yielded ops a.tmps) = true then Oper.wp Try.prog o a w K Q else E := by
  have hw : Region.wanted o (yielded ops a.tmps) = true := by simp [Region.wanted, hg]
  rw [if_pos hw]
  unfold Oper.wp
  simp [execOp, ho, resolve, invoke, builtin, hd, hx, hr, Result.andThen]
  exact hK
/-- 'append([]string{}, xs...)'. -/
theorem copy_run (W : World) (g : Nat) (hg : g = W.heap.size) (a : Option Addr) (n cap : Nat) (I : Nat → Tx) (hn : n ≤ 1048576) (h : TextsAt W a n I) :
    ∃ a' c' w', (Builtin.append_ #[23, 23] 23 #[.slice (some ⟨g, 0, none⟩) 0 0, .slice a n cap]).run Try.prog (W.alloc (.cells #[] 9)) = .ok (.slice a' n c') w' ∧ w'.ownsRow W.heap.size 9 1 (.slice a' n c') n (textsC I n) ∧ Below W.heap.size W w' := by
  obtain ⟨i0, hi, hz0, hz1, hz2⟩ := info_parts info9
  have hO : (W.alloc (.cells #[] 9)).ownsRow W.heap.size 9 1 (.slice (some ⟨g, 0, none⟩) 0 0) 0 [] := own_new0 hg (Nat.le_refl _)
  have hB : Below W.heap.size W (W.alloc (.cells #[] 9)) := (Below.refl _ _).alloc (Nat.le_refl _) _
  rcases Nat.eq_zero_or_pos n with h0 | hpos
  · subst h0
    refine ⟨_, _, _, ?_, hO, hB⟩
    cases a <;> simp [Builtin.append_, run_underlying Try.underlying23, sizeOf, typeInfo, hi, Builtin.lenOf, Builtin.firstCells, storeCells, loadCells, loadCellsFrom]
  · have h' := h.below hB
    rcases h' with e | ⟨b, o, rfl, hb, hc⟩
    · omega
    have hT : TextsAt (W.alloc (.cells #[] 9)) (some ⟨b, o, none⟩) n I := Or.inr ⟨b, o, rfl, hb, hc⟩
    obtain ⟨g2, c2, w', hr, hown, hgr, _, _⟩ := run_append_lies (P := Try.prog) (W.alloc (.cells #[] 9)) 23 23 W.heap.size 9 i0 (.string ⟨#[]⟩) 1 16 Try.underlying23 hi hz0 hz1 hz2 rfl (by decide) _ 0 [] hO ⟨b, o, none⟩ n cap (textsC I n) (textsC_len I n) (news_texts hT) (ones_texts I n) hpos (by unfold maxLen; omega) (by omega) (by simp) _ rfl
    rw [Nat.zero_add] at hr hown
    rw [List.nil_append] at hown
    refine ⟨_, _, w', hr, hown, hB.grown hgr (by simp) (fun k hk => by simp [Value.ownBlock] at hk; omega)⟩
set_option maxRecDepth 100000 in
set_option maxHeartbeats 8000000 in
theorem spec_copy (s : ByteArray) (a : Option Addr) (n cap : Nat) (I : Nat → Tx) (w : World) (h : TextsAt w a n I) (hn : n ≤ 1048576) :
    Calls Try.prog 56 #[.agg #[.string s, .slice a n cap]] w fun e w' => ∃ v, e = .returned (.agg #[.string s, v]) ∧ w'.ownsRow w.heap.size 9 1 v n (textsC I n) ∧ Below w.heap.size w w' := by
  have T0 := two_now w #[.string s, .slice a n cap] #[.string ⟨#[]⟩, .slice none 0 0] 25 25
  obtain ⟨W0, hW0⟩ : ∃ W0, W0 = ((w.alloc (.cells #[.string s, .slice a n cap] 25)).alloc (.cells #[.string ⟨#[]⟩, .slice none 0 0] 25)) := ⟨_, rfl⟩
  have hF0 : ∀ j, W0.frozen? ⟨w.heap.size + 1, j, none⟩ = false := fun j => by rw [hW0]; exact fnew' (by simp) j
  rw [← hW0] at T0
  have hsz : W0.heap.size = w.heap.size + 1 + 1 := by rw [hW0]; simp
  have b0 := T0.box 0
  have b1 := T0.box 1
  have r0 := T0.res 0
  have r1 := T0.res 1
  simp at b0 b1 r0 r1
  obtain ⟨a', c', w', hrun, hown, hb⟩ := copy_run W0.drew (w.heap.size + 1 + 1) hsz.symm a n cap I hn (h.below T0.bel.drew)
  have hb' : Below W0.heap.size W0 w' := (Below.refl _ W0).drew.trans hb
  have HB : Hid (Below w.heap.size w w') := T0.bel.trans (hb'.mono T0.bel.size)
  have HO : Hid (w'.ownsRow (w.heap.size + 2) 9 1 (.slice a' n c') n (textsC I n)) := own_base hown (by show _ ≤ W0.heap.size; omega)
  have l0 : w.heap.size < W0.heap.size := by omega
  have l1 : w.heap.size + 1 < W0.heap.size := by omega
  have d0 := (hb'.cell (p := ⟨w.heap.size, 0, none⟩) l0).trans b0
  have d1 := (hb'.cell (p := ⟨w.heap.size, 1, none⟩) l0).trans b1
  have q0 := (hb'.cell (p := ⟨w.heap.size + 1, 0, none⟩) l1).trans r0
  have q1 := (hb'.cell (p := ⟨w.heap.size + 1, 1, none⟩) l1).trans r1
  have qf : ∀ j, w'.frozen? ⟨w.heap.size + 1, j, none⟩ = false := fun j => (hb'.frozen (p := ⟨w.heap.size + 1, j, none⟩) l1).trans (hF0 j)
  have HW : Hid (W0 = ((w.alloc (.cells #[.string s, .slice a n cap] 25)).alloc (.cells #[.string ⟨#[]⟩, .slice none 0 0] 25))) := hW0
  clear hW0 hb hb' hown h T0 hF0
  go_enter Try.func56, Try.ntmps56
  go_upto_region 1 with fail
  rw [← HW.out]
  have m0 : W0.heap.size ≠ w.heap.size := by omega
  go_region_held3 (fun W => W.cell? ⟨w.heap.size, 0, none⟩ = some (.string s) ∧ W.cell? ⟨w.heap.size, 1, none⟩ = some (.slice a n cap)) (go_keep) (first | (refine step_append_eq (by rfl) _ _ _ (by rfl) _ _ (by rfl) (by rfl) hrun ?_))
  all_goals
    go_wp2_with fail
    refine bodyPost_ret (v := .agg #[.string s, .slice a' n c']) ?_ rfl ⟨_, rfl, ?_, ?_⟩
    · simp [results, Try.results56, go_sem, q0, q1]
    · exact own_base (own_cell (own_cell HO.out (by omega)) (by omega)) (by omega)
    · exact (HB.out.setCell (by show w.heap.size ≤ w.heap.size + 1; omega) _).setCell (by show w.heap.size ≤ w.heap.size + 1; omega) _
end Go.Proofs.Ytdbabdggefcpcaa
