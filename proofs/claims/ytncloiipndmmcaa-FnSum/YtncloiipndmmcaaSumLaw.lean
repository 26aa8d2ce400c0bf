/- The law FnSum: what its call does. -/
import Derived.Test.YtncloiipndmmcaaBytes
import Derived.Test.YtncloiipndmmcaaSum
import Derived.Deep.RegionWith
import Derived.Lib.Strings
namespace Go.Proofs.Ytncloiipndmmcaa
open Go.RowKit

theorem sum_apart : ∀ (l : List UInt8) (x y : Int), 0 ≤ x → x < 4294967291 → 0 ≤ y → y < 4294967291 → x ≠ y → l.foldl sumStep x ≠ l.foldl sumStep y
  | [], _, _, _, _, _, _, h => h
  | b :: l, x, y, hx0, hx1, hy0, hy1, h => by
    rw [List.foldl_cons, List.foldl_cons]
    refine sum_apart l _ _ (by unfold sumStep; omega) (by unfold sumStep; omega) (by unfold sumStep; omega) (by unfold sumStep; omega) ?_
    unfold sumStep
    omega
/-- A text of which one byte is another one has another sum. -/
theorem sumL_set (l : List UInt8) (k : Nat) (hk : k < l.length) (c : UInt8) (hc : c ≠ l[k]) : sumL (l.set k c) ≠ sumL l := by
  have e : l = l.take k ++ l[k] :: l.drop (k + 1) := by
    rw [← List.drop_eq_getElem_cons hk, List.take_append_drop]
  have e' : l.set k c = l.take k ++ c :: l.drop (k + 1) := by
    rw [List.set_eq_take_append_cons_drop, if_pos hk]
  have hb := sumL_bd (l.take k)
  have hc' : (c.toNat : Int) ≠ (l[k].toNat : Int) := fun h => hc (UInt8.toNat_inj.1 (by omega))
  have h1 := byte_lt c
  have h2 := byte_lt l[k]
  rw [e']
  have h3 : sumL l = sumL (l.take k ++ l[k] :: l.drop (k + 1)) := congrArg sumL e
  rw [h3]
  unfold sumL at hb ⊢
  rw [List.foldl_append, List.foldl_append, List.foldl_cons, List.foldl_cons]
  refine sum_apart _ _ _ (by unfold sumStep; omega) (by unfold sumStep; omega) (by unfold sumStep; omega) (by unfold sumStep; omega) ?_
  unfold sumStep
  omega

theorem bytes_of2 (s : ByteArray) (w : World) : ∃ (cap : Nat) (W : World), s.size ≤ cap ∧ (convert 9 22 (.string s)).run Try.prog w = .ok (.slice (some ⟨w.heap.size, 0, none⟩) s.size cap) W ∧
    Below w.heap.size w W ∧ (∀ j (h : j < s.size), W.cell? ⟨w.heap.size, j, none⟩ = some (.int .u8 s[j].toNat)) ∧ ∀ j, j < s.size → W.frozen? ⟨w.heap.size, j, none⟩ = false := by
  refine ⟨_, _, grownCap_ge w s.size 0 5, run_bytes_of_string w 9 22 5 s Try.underlying9 Try.underlying22 Try.underlying5, ?_, ?_, ?_⟩
  · exact ((Below.refl _ _).drew).alloc (Nat.le_refl _) _
  · intro j hj
    refine Eq.trans (World.cell?_alloc_mark w.drew (bytesRow s (grownCap w s.size 0 5)) 5 ((bytesRow s (grownCap w s.size 0 5)).size, (bytesRow s (grownCap w s.size 0 5)).size + 1) j) ?_
    exact bytesRow_at s _ j hj
  · intro j hj
    refine Eq.trans (World.frozen?_alloc_mark w.drew (bytesRow s (grownCap w s.size 0 5)) 5 (bytesRow s (grownCap w s.size 0 5)).size ((bytesRow s (grownCap w s.size 0 5)).size + 1) j) ?_
    have h := bytesRow_at s (grownCap w s.size 0 5) j hj
    have hlt : j < (bytesRow s (grownCap w s.size 0 5)).size := (Array.getElem?_eq_some_iff.1 h).1
    simp
    omega

/-- Bytes of which one is turned, as a text again: another sum. -/
theorem changed (E : ByteArray) (g cap k r : Nat) (W : World) (hcell : ∀ j (h : j < E.size), W.cell? ⟨g, j, none⟩ = some (.int .u8 E[j].toNat)) (hk : k < E.size) (hr : r < 255) :
    ∃ F : ByteArray, (convert 22 9 (.slice (some ⟨g, 0, none⟩) E.size cap)).run Try.prog (W.setCell ⟨g, k, none⟩ (.int .u8 (((E[k].toNat : Int) + (1 + (r : Int))) % 256))).drew =
      .ok (.string F) (W.setCell ⟨g, k, none⟩ (.int .u8 (((E[k].toNat : Int) + (1 + (r : Int))) % 256))).drew ∧ F.size = E.size ∧ (E.size ≤ 20000 → sumB F ≠ sumB E) := by
  have hX : ((E[k].toNat : Int) + (1 + (r : Int))) % 256 = ((UInt8.ofNat ((E[k].toNat + 1 + r) % 256)).toNat : Int) := by
    rw [ofNat_byte _ (by omega)]
    omega
  rw [hX]
  have hne : UInt8.ofNat ((E[k].toNat + 1 + r) % 256) ≠ E[k] := fun e => by
    have h1 : ((UInt8.ofNat ((E[k].toNat + 1 + r) % 256)).toNat : Int) = (E[k].toNat : Int) := by rw [e]
    rw [ofNat_byte _ (by omega)] at h1
    have := E[k].toNat_lt
    omega
  generalize UInt8.ofNat ((E[k].toNat + 1 + r) % 256) = c at *
  have hl : E.data.toList.length = E.size := (Lib.size_eq E).symm
  have hlen : (E.data.toList.set k c).length = E.size := by rw [List.length_set, hl]
  have hget : ∀ j (h : j < E.size), E.data.toList[j]'(by omega) = E[j] := fun j h => rfl
  refine ⟨⟨(E.data.toList.set k c).toArray⟩, ?_, ?_, fun hs => ?_⟩
  · have h := run_convert_bytes_back (P := Try.prog) (W.setCell ⟨g, k, none⟩ (.int .u8 (c.toNat : Int))).drew 22 9 5 ⟨g, 0, none⟩ cap (E.data.toList.set k c) Try.underlying22 Try.underlying5 Try.underlying9 (fun j hj => by
      rw [Addr.add_lit, Nat.zero_add]
      show (W.setCell ⟨g, k, none⟩ (.int .u8 (c.toNat : Int))).cell? ⟨g, j, none⟩ = _
      by_cases e : j = k
      · subst e
        rw [World.cell?_setCell_same _ _ _ (hcell j hk)]
        simp
      · rw [World.cell?_setCell_other _ _ _ _ (fun h => e (by simp at h)), hcell j (by omega)]
        rw [List.getElem_set_ne (by omega), hget j (by omega)])
    rw [hlen] at h
    exact h
  · rw [Lib.size_eq]
    exact hlen
  · unfold sumB
    rw [if_pos hs, if_pos (by rw [Lib.size_eq]; show (E.data.toList.set k c).length ≤ 20000; omega)]
    exact sumL_set E.data.toList k (by omega) c (by rw [hget k hk]; exact hne)

set_option maxRecDepth 100000 in
set_option maxHeartbeats 4000000 in
theorem law_sums (a : Option Addr) (len cap : Nat) (zs : List Int) (a' : Option Addr) (len' cap' : Nat) (zs' : List Int) (w : World) (hrow : IsRow .u8 w a len cap zs) (hrow' : IsRow .u8 w a' len' cap' zs') :
    Calls Try.prog 5 #[.slice a len cap, .slice a' len' cap'] w fun e w' => e = .returned (.bool true) ∧ Below w.heap.size w w' := by
  have hlm : len ≤ 9223372036854775807 := by
    rcases hrow with ⟨_, rfl, _⟩ | ⟨x, rfl, hl, hm, _⟩
    · omega
    · unfold maxLen at hm; omega
  have hlm' : len' ≤ 9223372036854775807 := by
    rcases hrow' with ⟨_, rfl, _⟩ | ⟨x, rfl, hl, hm, _⟩
    · omega
    · unfold maxLen at hm; omega
  by_cases hbig : 1048576 < (len : Int)
  · have b1 : decide (1048576 < (len : Int)) = true := by simpa using hbig
    go_enter Try.func5, Try.ntmps5
    go_wp2_with fail
    go_ret
    exact ⟨rfl, Below.refl _ _⟩
  have b1 : decide (1048576 < (len : Int)) = false := by simpa using hbig
  by_cases hbig' : 1048576 < (len' : Int)
  · have b2 : decide (1048576 < (len' : Int)) = true := by simpa using hbig'
    go_enter Try.func5, Try.ntmps5
    go_wp2_with fail
    go_ret
    exact ⟨rfl, Below.refl _ _⟩
  have b2 : decide (1048576 < (len' : Int)) = false := by simpa using hbig'
  go_enter Try.func5, Try.ntmps5
  go_wp2_with fail
  refine (draw_sum hrow (by omega) w (Below.refl _ _)).mono ?_
  rintro e w1 ⟨l, rfl, hl, hb1⟩
  obtain ⟨E, hE⟩ : ∃ E, E = (⟨l.toArray⟩ : ByteArray) := ⟨_, rfl⟩
  rw [← hE]
  have hEs : E.size = l.length := by rw [hE]; simp [ByteArray.size]
  have hmax : E.size ≤ maxLen := by unfold maxLen; omega
  have HE : Hid (E = (⟨l.toArray⟩ : ByteArray)) := hE
  have HEs : Hid (E.size = l.length) := hEs
  have hs60 : E.size < 60 := by omega
  clear hE hEs
  go_wp2_with fail
  refine (impl_sum E _ hmax).mono ?_
  rintro e w2 ⟨rfl, hb2⟩
  go_wp2_with fail
  refine (spec_sum E _ hmax).mono ?_
  rintro e w3 ⟨rfl, rfl⟩
  cases hq : E.toList.isEmpty
  · obtain ⟨cap3, W, hcap, hcv, hbW, hcell, hfr⟩ := bytes_of2 E w3
    have hpos : 0 < E.size := by
      rcases Nat.eq_zero_or_pos E.size with h | h
      · have : E.toList = [] := by rw [ByteArray.toList_eq]; rw [Lib.size_eq] at h; exact List.eq_nil_of_length_eq_zero h
        rw [this] at hq
        simp at hq
      · exact h
    have hbw : Below w.heap.size w W := by
      have s1 := hb1.size
      have s2 := hb2.size
      exact (hb1.trans (hb2.mono s1)).trans (hbW.mono (by omega))
    go_wp2_with fail
    refine (lw_at hrow' (by omega) _ hbw 0 (by omega) (E.size : Int) (by omega) (by omega)).mono ?_
    rintro e w4 ⟨k, rfl, hk, rfl⟩
    have hkl : k < E.size := by
      rcases hk with ⟨h1, h2⟩
      by_cases h : 1 < (E.size : Int)
      · have := h1 h; omega
      · have := h2 (by omega); omega
    have hck := hcell k hkl
    have hfk := hfr k hkl
    have Hcell : Hid (∀ j (h : j < E.size), w4.cell? ⟨w3.heap.size, j, none⟩ = some (.int .u8 E[j].toNat)) := hcell
    have hEk := byte_lt E[k]
    clear hcv hcell hfr
    go_wp2_with fail
    go_region_with (go_at_call 17; refine (lw_at hrow' (by omega) _ (by first | exact hbw | exact hbw.drew) 1 (by omega) 255 (by omega) (by omega)).mono ?_; rintro e w5 ⟨r, rfl, hr, rfl⟩)
    all_goals
      have hr255 : r < 255 := by have := hr.1 (by omega); omega
      obtain ⟨F, hcv2, hFs, hFE⟩ := changed E w3.heap.size cap3 k r w4 Hcell.out hkl hr255
      have hFm : F.size ≤ maxLen := by unfold maxLen; omega
      have HF : Hid (sumB F ≠ sumB E) := hFE (by omega)
      clear hFE
      go_wp2_with fail
      rw [hcv2]
      go_wp2_with fail
      refine (impl_sum F _ hFm).mono ?_
      rintro e w5 ⟨rfl, hb5⟩
      have hb : Below w.heap.size w w5 := by
        have s4 := hbw.size
        have s1 := hb1.size
        have s2 := hb2.size
        exact ((hbw.setCell (p := ⟨w3.heap.size, k, none⟩) (by simp; omega) _).drew).trans (hb5.mono (by simp; omega))
      clear hb5 hbw hb1 hb2 hbW
      go_wp2_with fail
      go_ret
      exact ⟨ret_bool (bne_iff_ne.2 HF.out), hb⟩
  · go_wp2_with fail
    go_ret
    have he : E.toList = [] := by simpa using hq
    have h7 : sumB E = 7 := by
      rw [ByteArray.toList_eq] at he
      unfold sumB
      rw [if_pos (by omega), he]
      rfl
    refine ⟨?_, hb1.trans (hb2.mono hb1.size)⟩
    exact ret_bool (by rw [h7]; rfl)
end Go.Proofs.Ytncloiipndmmcaa
