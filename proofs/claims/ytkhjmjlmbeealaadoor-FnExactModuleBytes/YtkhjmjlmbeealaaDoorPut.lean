/- The two ways to write a number as bytes (spec.PutNum, impl.PutNum): what each call does. -/
import Derived.Test.YtkhjmjlmbeealaaDoorFold
import Derived.Lib.UnsafeStr
namespace Go.Proofs.YtkhjmjlmbeealaaDoor.Draw
open Go.RowKit

theorem info5 : (Tryd.prog.info? 5).map (fun i => (i.zero, i.size, i.bytes)) = some (some (.int .u8 0), 1, 1) := by kernel_rfl

theorem str_of_own {w : World} {B : Nat} {v : Value} {l : List UInt8} (h : w.ownsRow B 5 1 v l.length (Lib.byteCells l)) : (convert 22 9 v).run Tryd.prog w = .ok (.string ⟨l.toArray⟩) w := by
  have h' := h
  rcases h with ⟨h1, ⟨rfl, h2⟩ | ⟨g, cap, cur, rfl, _, hg, _, _, _, ht⟩⟩
  · have : l = [] := List.eq_nil_of_length_eq_zero h2
    subst this
    rw [run_convert_bytes_string w 22 9 5 none 0 0 Tryd.underlying22 Tryd.underlying5 Tryd.underlying9]
    rfl
  · refine run_convert_bytes_back w 22 9 5 ⟨g, 0, none⟩ cap l Tryd.underlying22 Tryd.underlying5 Tryd.underlying9 ?_
    intro j hj
    refine h'.cells rfl j _ ?_
    simp [Lib.byteCells, hj]

theorem one_cell (w : World) (x : Value) : ∀ j u, [x][j]? = some u → (w.alloc (.cells #[x] 5)).cell? ((⟨w.heap.size, 0, none⟩ : Addr).add j) = some u := by
  intro j u hj
  match j, hj with
  | 0, hj => simp at hj; subst hj; simp [Addr.add]
theorem one_one (k : IntKind) (n : Int) : ∀ u ∈ [Value.int k n], u.oneCell' = true := by
  intro u hu; simp at hu; subst hu; rfl
/-- A byte more behind an owned row of bytes. -/
theorem own_snoc {w w1 wr : World} {B : Nat} {v v' : Value} {l : List UInt8} {x : Int} {o : Obj} {c : UInt8} (hc : x = (c.toNat : Int)) (hb : Below B w wr) (hB : B ≤ w.heap.size) (hown : wr.ownsRow B 5 1 v l.length (Lib.byteCells l))
    (hown' : w1.ownsRow B 5 1 v' (l.length + 1) (Lib.byteCells l ++ [.int .u8 x])) (hg : (wr.alloc o).grownBy w1 v.ownBlock) :
    w1.ownsRow B 5 1 v' (l ++ [c]).length (Lib.byteCells (l ++ [c])) ∧ Below B w w1 := by
  have hs := hb.size
  refine ⟨?_, (hb.alloc (by omega) o).grown hg (by simp; omega) (fun k hk => (hown.lt k hk).1)⟩
  have e : Lib.byteCells (l ++ [c]) = Lib.byteCells l ++ [.int .u8 x] := by rw [hc, Lib.byteCells_append]; rfl
  rw [e, List.length_append]
  exact hown'
theorem ofNat_byte (u : Nat) (h : u < 256) : ((UInt8.ofNat u).toNat : Int) = u := by
  rw [UInt8.toNat_ofNat_of_lt' (by simpa using h)]

theorem foldZ_bd (n : Int) (h0 : -9223372036854775808 ≤ n) (h1 : n ≤ 9223372036854775807) : 0 ≤ foldZ n ∧ foldZ n ≤ 18446744073709551615 := by
  unfold foldZ; split <;> omega

theorem and127 (u : Nat) (h : u ≤ 18446744073709551615) : bits .and .u64 (u : Int) 127 = (u : Int) % 128 := by
  have := u64_and_nat u 127 (by omega) (by omega)
  rw [nat_mask7] at this
  rw [show (127 : Int) = ((127 : Nat) : Int) from rfl, this]
  omega
theorem or128 (u : Nat) : bits .or .u8 ((u : Int) % 128) 128 = (u : Int) % 128 + 128 := by
  have h := u8_or_nat (u % 128) 128 (by omega) (by omega)
  have e : (u % 128) ||| 128 = 128 + u % 128 := by
    rw [Nat.or_comm]
    exact nat_join 7 128 (u % 128) (by decide) (by omega)
  rw [e] at h
  have e' : (u : Int) % 128 = ((u % 128 : Nat) : Int) := by omega
  rw [e', show (128 : Int) = ((128 : Nat) : Int) from rfl, h]
  omega
/-- What holds at the head of each round: what is written, and what is left to write. -/
structure Writing (n : Int) (f u : Nat) (pre : List UInt8) : Prop where
  len : pre.length + (f + 1) = 10
  low : u < 128 ^ (f + 1)
  all : pre ++ encF (f + 1) u = encN n

theorem writing_start (n : Int) (h0 : -9223372036854775808 ≤ n) (h1 : n ≤ 9223372036854775807) : Writing n 9 (foldZ n).toNat [] := by
  have := foldZ_bd n h0 h1
  exact ⟨by simp, by simp; omega, rfl⟩
theorem writing_next {n : Int} {f u : Nat} {pre : List UInt8} (h : Writing n f u pre) (hu : ¬ u < 128) : ∃ g, f = g + 1 ∧ Writing n g (u / 128) (pre ++ [UInt8.ofNat (u % 128 + 128)]) := by
  obtain ⟨h1, h2, h3⟩ := h
  cases f with
  | zero => simp at h2; omega
  | succ g =>
    refine ⟨g, rfl, by simp; omega, ?_, ?_⟩
    · rw [Nat.div_lt_iff_lt_mul (by omega)]; rw [Nat.pow_succ] at h2; exact h2
    · rw [encF_big _ _ hu] at h3; simpa using h3
theorem writing_end {n : Int} {f u : Nat} {pre : List UInt8} (h : Writing n f u pre) (hu : u < 128) : pre ++ [UInt8.ofNat u] = encN n := by
  rw [← h.all, encF_small _ _ hu]

set_option maxRecDepth 100000 in
set_option maxHeartbeats 400000 in
theorem spec_put (n : Int) (w : World) (h0 : -9223372036854775808 ≤ n) (h1 : n ≤ 9223372036854775807) :
    Calls Tryd.prog 49 #[.int .i64 n] w fun e w' => e = .returned (.string ⟨(encN n).toArray⟩) ∧ Below w.heap.size w w' := by
  obtain ⟨i0, hi, hz0, hz1, hz2⟩ := info_parts info5
  have hf := foldZ_bd n h0 h1
  go_enter Tryd.func49, Tryd.ntmps49
  go_wp2_with (first | (go_at_call 60; refine (spec_fold _ _ h0 h1).mono ?_; rintro e w' ⟨rfl, rfl⟩))
  go_loopw [3, 4] (fun x v wr => ∃ (f u : Nat) (pre : List UInt8), x = .int .u64 u ∧ u ≤ 18446744073709551615 ∧ Hid (Writing n f u pre) ∧ pre.length ≤ 9 ∧ wr.ownsRow w'.heap.size 5 1 v pre.length (Lib.byteCells pre) ∧ Below w'.heap.size w' wr) (fun x _ _ => (intOf x).toNat)
  case atStart =>
    refine ⟨9, (foldZ n).toNat, [], ?_, by omega, writing_start n h0 h1, by simp, World.ownsRow_made w' #[] 0 (Nat.le_refl _) (by unfold maxLen; omega) rfl, (Below.refl _ _).alloc (Nat.le_refl _) _⟩
    rw [Int.toNat_of_nonneg hf.1]
  case round =>
    obtain ⟨f, u, pre, rfl, hu, H, hpl, hown, hb⟩ := hrel
    clear hf
    by_cases hlt : u < 128
    · go_wp2_with (at_builtin; refine wpList_append_own _ rfl (.tmp 19) (.tmp 22) 22 rfl w'.heap.size 5 i0 (.int .u8 0) 1 1 Tryd.underlying22 hi hz0 hz1 hz2 rfl (by decide) _ _ _ rfl (hown.alloc _) ⟨wr.heap.size, 0, none⟩ 1 1 [.int .u8 u] rfl rfl ?c1 ?c2 ?c3 ?c4 ?c5 ?_)
      case c1 => exact one_cell _ _
      case c2 => exact one_one _ _
      case c3 => unfold maxLen; omega
      case c4 => omega
      case c5 => have := hb.size; simp; omega
      intro v' w1 hown' hgrow _
      obtain ⟨ho, hb1⟩ := own_snoc (ofNat_byte u (by omega)).symm hb (Nat.le_refl _) hown hown' hgrow
      rw [writing_end H.out hlt] at ho
      have hcv := str_of_own ho
      clear ho hown' hgrow hown H
      go_wp2
      go_ret
      exact ⟨rfl, hb1⟩
    · go_wp2_with (at_builtin; refine wpList_append_own _ rfl (.tmp 10) (.tmp 15) 22 rfl w'.heap.size 5 i0 (.int .u8 0) 1 1 Tryd.underlying22 hi hz0 hz1 hz2 rfl (by decide) _ _ _ rfl (hown.alloc _) ⟨wr.heap.size, 0, none⟩ 1 1 [.int .u8 (u % 128 + 128)] rfl rfl ?d1 ?d2 ?d3 ?d4 ?d5 ?_)
      case d1 => exact one_cell _ _
      case d2 => exact one_one _ _
      case d3 => unfold maxLen; omega
      case d4 => omega
      case d5 => have := hb.size; simp; omega
      intro v' w1 hown' hgrow _
      have R := own_snoc (c := UInt8.ofNat (u % 128 + 128)) (by rw [ofNat_byte _ (by omega)]; omega) hb (Nat.le_refl _) hown hown' hgrow
      clear hown' hgrow hown
      go_wp2
      go_roundw
      case rel =>
        obtain ⟨g, rfl, H'⟩ := writing_next H.out hlt
        exact ⟨g, u / 128, _, by go_num, by omega, H', by have := H'.len; omega, R.1, R.2⟩
      case measure => simp [intOf]; omega

set_option maxRecDepth 100000 in
set_option maxHeartbeats 400000 in
theorem impl_put (n : Int) (w : World) (h0 : -9223372036854775808 ≤ n) (h1 : n ≤ 9223372036854775807) :
    Calls Tryd.prog 62 #[.int .i64 n] w fun e w' => e = .returned (.string ⟨(encN n).toArray⟩) ∧ Below w.heap.size w w' := by
  obtain ⟨i0, hi, hz0, hz1, hz2⟩ := info_parts info5
  have hf := foldZ_bd n h0 h1
  have hmk : ∀ w : World, (Instr.makeSlice 22 (.int .i64 0) (.int .i64 10)).run Tryd.prog w = .ok (.slice (some ⟨w.heap.size, 0, none⟩) 0 10) (w.alloc (.cells #[.int .u8 0, .int .u8 0, .int .u8 0, .int .u8 0, .int .u8 0, .int .u8 0, .int .u8 0, .int .u8 0, .int .u8 0, .int .u8 0] 5)) := fun _ => by kernel_rfl
  go_enter Tryd.func62, Tryd.ntmps62
  go_wp2_with (first | (go_at_call 72; refine (impl_fold _ _ h0 h1).mono ?_; rintro e w' ⟨rfl, rfl⟩))
  go_loopw [3, 4] (fun x v wr => ∃ (f u : Nat) (pre : List UInt8), x = .int .u64 u ∧ u ≤ 18446744073709551615 ∧ Hid (Writing n f u pre) ∧ pre.length ≤ 9 ∧ wr.ownsRow w'.heap.size 5 1 v pre.length (Lib.byteCells pre) ∧ Below w'.heap.size w' wr) (fun x _ _ => (intOf x).toNat)
  case atStart =>
    refine ⟨9, (foldZ n).toNat, [], ?_, by omega, writing_start n h0 h1, by simp, World.ownsRow_made w' _ 10 (Nat.le_refl _) (by unfold maxLen; omega) rfl, (Below.refl _ _).alloc (Nat.le_refl _) _⟩
    rw [Int.toNat_of_nonneg hf.1]
  case round =>
    obtain ⟨f, u, pre, rfl, hu, H, hpl, hown, hb⟩ := hrel
    clear hf hmk
    by_cases hlt : u < 128
    · go_wp2_with (at_builtin; refine wpList_append_own _ rfl (.tmp 19) (.tmp 22) 22 rfl w'.heap.size 5 i0 (.int .u8 0) 1 1 Tryd.underlying22 hi hz0 hz1 hz2 rfl (by decide) _ _ _ rfl (hown.alloc _) ⟨wr.heap.size, 0, none⟩ 1 1 [.int .u8 u] rfl rfl ?c1 ?c2 ?c3 ?c4 ?c5 ?_)
      case c1 => exact one_cell _ _
      case c2 => exact one_one _ _
      case c3 => unfold maxLen; omega
      case c4 => omega
      case c5 => have := hb.size; simp; omega
      intro v' w1 hown' hgrow _
      obtain ⟨ho, hb1⟩ := own_snoc (ofNat_byte u (by omega)).symm hb (Nat.le_refl _) hown hown' hgrow
      rw [writing_end H.out hlt] at ho
      have hcv := str_of_own ho
      clear ho hown' hgrow hown H
      go_wp2
      go_ret
      exact ⟨rfl, hb1⟩
    · have e1 : bits .and .u64 (u : Int) 127 = (u : Int) % 128 := and127 u hu
      have e2 : bits .or .u8 ((u : Int) % 128) 128 = (u : Int) % 128 + 128 := or128 u
      go_wp2_with (at_builtin; refine wpList_append_own _ rfl (.tmp 10) (.tmp 15) 22 rfl w'.heap.size 5 i0 (.int .u8 0) 1 1 Tryd.underlying22 hi hz0 hz1 hz2 rfl (by decide) _ _ _ rfl (hown.alloc _) ⟨wr.heap.size, 0, none⟩ 1 1 [.int .u8 (u % 128 + 128)] rfl rfl ?d1 ?d2 ?d3 ?d4 ?d5 ?_)
      case d1 => exact one_cell _ _
      case d2 => exact one_one _ _
      case d3 => unfold maxLen; omega
      case d4 => omega
      case d5 => have := hb.size; simp; omega
      intro v' w1 hown' hgrow _
      have R := own_snoc (c := UInt8.ofNat (u % 128 + 128)) (by rw [ofNat_byte _ (by omega)]; omega) hb (Nat.le_refl _) hown hown' hgrow
      clear hown' hgrow hown e1 e2
      go_wp2
      go_roundw
      case rel =>
        obtain ⟨g, rfl, H'⟩ := writing_next H.out hlt
        exact ⟨g, u / 128, _, by go_num, by omega, H', by have := H'.len; omega, R.1, R.2⟩
      case measure => simp [intOf]; omega


end Go.Proofs.YtkhjmjlmbeealaaDoor.Draw
