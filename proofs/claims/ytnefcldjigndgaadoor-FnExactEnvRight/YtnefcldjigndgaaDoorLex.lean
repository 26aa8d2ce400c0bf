/- Words that are reserved: the program's map and the model's list: what each call does. -/
import Derived.Test.YtnefcldjigndgaaDoorName
import Derived.Test.YtnefcldjigndgaaDoorLines
import Derived.Test.YtnefcldjigndgaaDoorLayFld
import Derived.Test.YtnefcldjigndgaaDoorFw
import Derived.Shelf.Strings.Fields
import Derived.Maps.OwnSet
import Derived.Maps.Views
namespace Go.Proofs.YtnefcldjigndgaaDoor
open Go.RowKit Go.Maps
open Go.Proofs.YtnefcldjigndgaaDoor.Draw

theorem ne_str {a b : ByteArray} (h : ¬ a = b) : (a.toList == b.toList) = false := by
  rw [beq_eq_false_iff_ne, ByteArray.toList_eq, ByteArray.toList_eq]
  intro e
  exact h (ByteArray.ext (Array.toList_inj.1 e))
/-- Is it one of n texts? -/
def inB (I : Nat → Tx) (n : Nat) (s : ByteArray) : Bool := (List.range n).any fun i => decide ((I i).t = s)
theorem inB_true {I : Nat → Tx} {n : Nat} {s : ByteArray} {k : Nat} (hk : k < n) (h : (I k).t = s) : inB I n s = true := List.any_eq_true.2 ⟨k, List.mem_range.2 hk, by simpa using h⟩
theorem inB_false {I : Nat → Tx} {n : Nat} {s : ByteArray} (h : ∀ j, j < n → ¬ (I j).t = s) : inB I n s = false := List.any_eq_false.2 fun j hj => by simpa using h j (List.mem_range.1 hj)
set_option maxRecDepth 100000 in
set_option maxHeartbeats 4000000 in
theorem spec_in (a : Option Addr) (n cap : Nat) (I : Nat → Tx) (s : ByteArray) (hn : n ≤ 1048576) (w : World) (h : TextsAt w a n I) :
    Calls Tryd.prog 24 #[.slice a n cap, .string s] w fun e w' => e = .returned (.bool (inB I n s)) ∧ w' = w := by
  have HT : Hid (TextsAt w a n I) := h
  clear h
  have hxx : ∀ x : List UInt8, (x == x) = true := fun x => by simp
  go_enter Tryd.func24, Tryd.ntmps24
  go_wp2_with fail
  go_loop [5] (fun i => ∃ k : Nat, k ≤ n ∧ i = .int .i64 k ∧ Hid (∀ j, j < k → ¬ (I j).t = s)) (fun i => n - (intOf i).toNat)
  case atStart => exact ⟨0, Nat.zero_le _, rfl, fun j hj => by omega⟩
  case round =>
    obtain ⟨k, hk, rfl, H⟩ := hrel
    by_cases hkn : k < n
    · have p0 : decide (k < n) = true := by simpa using hkn
      have p1 : decide ((k : Int) < (n : Int)) = true := by simpa using hkn
      rcases HT.out with h0 | ⟨g, o, rfl, hg, hc⟩
      · omega
      have c0 := hc k hkn
      clear hc
      by_cases e : (I k).t = s
      · have HR : Hid (inB I n s = true) := inB_true hkn e
        rw [e] at c0
        clear e
        go_wp2_with fail
        go_ret
        exact ⟨ret_bool HR.out.symm, rfl⟩
      · have hne := ne_str e
        have H' : Hid (∀ j, j < k + 1 → ¬ (I j).t = s) := fun j hj => by
          by_cases q : j = k
          · rw [q]; exact e
          · exact H.out j (by omega)
        clear e H
        generalize (I k).t = x at *
        go_wp2_with fail
        go_round
        case rel => exact ⟨k + 1, by omega, by go_num, H'⟩
        case measure => simp [intOf]; omega
    · have p0 : decide (k < n) = false := by simpa using hkn
      have p1 : decide ((k : Int) < (n : Int)) = false := by simpa using hkn
      obtain rfl : k = n := by omega
      have HR : Hid (inB I k s = false) := inB_false H.out
      go_wp2_with fail
      go_ret
      exact ⟨ret_bool HR.out.symm, rfl⟩
/-- The reserved words. -/
def resW : List (List UInt8) := [[97, 110, 100], [97, 109, 111, 117, 110, 116], [98, 97, 108], [98, 97, 110, 107], [98, 97, 115, 105, 115], [98, 111, 111, 108], [99, 111, 110, 116, 114, 97], [99, 111, 117, 110, 116], [100, 97, 116, 101], [100, 97, 121, 115], [101, 108, 115, 101], [102, 97, 108, 115, 101], [102, 114, 111, 109], [105, 102], [105, 110, 115, 116, 97, 108, 109, 101, 110, 116], [105, 110, 116], [105, 110, 116, 101, 114, 101, 115, 116], [108, 97, 116, 101, 114], [108, 101, 97, 115, 116], [108, 101, 116], [109, 111, 110, 101, 121], [109, 111, 115, 116], [110, 101, 120, 116], [110, 111, 116], [111, 112, 101, 110], [111, 114], [112, 97, 114, 97, 109], [112, 97, 121], [112, 111, 115, 116], [112, 114, 111, 100, 117, 99, 116], [114, 97, 116, 101], [114, 101, 106, 101, 99, 116], [114, 101, 112, 101, 97, 116], [115, 101, 116], [115, 104, 97, 114, 101], [115, 105, 110, 99, 101], [115, 108, 111, 116], [116, 105, 99, 107], [116, 111], [116, 111, 100, 97, 121], [116, 114, 117, 101]]
def resL (k : Nat) (l : List UInt8) : Bool := (List.range k).any fun i => decide (resW.getD i [] = l)
def resB (s : ByteArray) : Bool := resL 41 s.data.toList
def wordI (i : Nat) : Tx := ⟨⟨(resW.getD i []).toArray⟩⟩
theorem res_in (n : Nat) (s : ByteArray) : inB wordI n s = resL n s.data.toList := by
  unfold inB resL
  congr 1
  funext i
  have : ((wordI i).t = s) ↔ (resW.getD i [] = s.data.toList) := ⟨fun h => by rw [← h]; rfl, fun h => by
    show (⟨(resW.getD i []).toArray⟩ : ByteArray) = s
    rw [h]⟩
  exact decide_eq_decide.2 this
theorem resL_succ (k : Nat) (l : List UInt8) : resL (k + 1) l = (resL k l || decide (resW.getD k [] = l)) := by
  unfold resL
  rw [List.range_succ, List.any_append]
  simp
theorem res_len {k : Nat} (hk : k < 41) : (resW.getD k []).length ≤ 20 := by
  have h : ∀ k, k < 41 → (resW.getD k []).length ≤ 20 := by decide
  exact h k hk
theorem texts_words (w : World) : TextsAt (w.alloc (.cells #[.string ⟨#[97, 110, 100]⟩, .string ⟨#[97, 109, 111, 117, 110, 116]⟩, .string ⟨#[98, 97, 108]⟩, .string ⟨#[98, 97, 110, 107]⟩, .string ⟨#[98, 97, 115, 105, 115]⟩, .string ⟨#[98, 111, 111, 108]⟩, .string ⟨#[99, 111, 110, 116, 114, 97]⟩, .string ⟨#[99, 111, 117, 110, 116]⟩, .string ⟨#[100, 97, 116, 101]⟩, .string ⟨#[100, 97, 121, 115]⟩, .string ⟨#[101, 108, 115, 101]⟩, .string ⟨#[102, 97, 108, 115, 101]⟩, .string ⟨#[102, 114, 111, 109]⟩, .string ⟨#[105, 102]⟩, .string ⟨#[105, 110, 115, 116, 97, 108, 109, 101, 110, 116]⟩, .string ⟨#[105, 110, 116]⟩, .string ⟨#[105, 110, 116, 101, 114, 101, 115, 116]⟩, .string ⟨#[108, 97, 116, 101, 114]⟩, .string ⟨#[108, 101, 97, 115, 116]⟩, .string ⟨#[108, 101, 116]⟩, .string ⟨#[109, 111, 110, 101, 121]⟩, .string ⟨#[109, 111, 115, 116]⟩, .string ⟨#[110, 101, 120, 116]⟩, .string ⟨#[110, 111, 116]⟩, .string ⟨#[111, 112, 101, 110]⟩, .string ⟨#[111, 114]⟩, .string ⟨#[112, 97, 114, 97, 109]⟩, .string ⟨#[112, 97, 121]⟩, .string ⟨#[112, 111, 115, 116]⟩, .string ⟨#[112, 114, 111, 100, 117, 99, 116]⟩, .string ⟨#[114, 97, 116, 101]⟩, .string ⟨#[114, 101, 106, 101, 99, 116]⟩, .string ⟨#[114, 101, 112, 101, 97, 116]⟩, .string ⟨#[115, 101, 116]⟩, .string ⟨#[115, 104, 97, 114, 101]⟩, .string ⟨#[115, 105, 110, 99, 101]⟩, .string ⟨#[115, 108, 111, 116]⟩, .string ⟨#[116, 105, 99, 107]⟩, .string ⟨#[116, 111]⟩, .string ⟨#[116, 111, 100, 97, 121]⟩, .string ⟨#[116, 114, 117, 101]⟩] 9)) (some ⟨w.heap.size, 0, none⟩) 41 wordI :=
  Or.inr ⟨_, 0, rfl, by simp, fun i hi => by
    rw [Nat.zero_add, World.cell?_alloc_new]
    have h : ∀ i, i < 41 → (#[.string ⟨#[97, 110, 100]⟩, .string ⟨#[97, 109, 111, 117, 110, 116]⟩, .string ⟨#[98, 97, 108]⟩, .string ⟨#[98, 97, 110, 107]⟩, .string ⟨#[98, 97, 115, 105, 115]⟩, .string ⟨#[98, 111, 111, 108]⟩, .string ⟨#[99, 111, 110, 116, 114, 97]⟩, .string ⟨#[99, 111, 117, 110, 116]⟩, .string ⟨#[100, 97, 116, 101]⟩, .string ⟨#[100, 97, 121, 115]⟩, .string ⟨#[101, 108, 115, 101]⟩, .string ⟨#[102, 97, 108, 115, 101]⟩, .string ⟨#[102, 114, 111, 109]⟩, .string ⟨#[105, 102]⟩, .string ⟨#[105, 110, 115, 116, 97, 108, 109, 101, 110, 116]⟩, .string ⟨#[105, 110, 116]⟩, .string ⟨#[105, 110, 116, 101, 114, 101, 115, 116]⟩, .string ⟨#[108, 97, 116, 101, 114]⟩, .string ⟨#[108, 101, 97, 115, 116]⟩, .string ⟨#[108, 101, 116]⟩, .string ⟨#[109, 111, 110, 101, 121]⟩, .string ⟨#[109, 111, 115, 116]⟩, .string ⟨#[110, 101, 120, 116]⟩, .string ⟨#[110, 111, 116]⟩, .string ⟨#[111, 112, 101, 110]⟩, .string ⟨#[111, 114]⟩, .string ⟨#[112, 97, 114, 97, 109]⟩, .string ⟨#[112, 97, 121]⟩, .string ⟨#[112, 111, 115, 116]⟩, .string ⟨#[112, 114, 111, 100, 117, 99, 116]⟩, .string ⟨#[114, 97, 116, 101]⟩, .string ⟨#[114, 101, 106, 101, 99, 116]⟩, .string ⟨#[114, 101, 112, 101, 97, 116]⟩, .string ⟨#[115, 101, 116]⟩, .string ⟨#[115, 104, 97, 114, 101]⟩, .string ⟨#[115, 105, 110, 99, 101]⟩, .string ⟨#[115, 108, 111, 116]⟩, .string ⟨#[116, 105, 99, 107]⟩, .string ⟨#[116, 111]⟩, .string ⟨#[116, 111, 100, 97, 121]⟩, .string ⟨#[116, 114, 117, 101]⟩] : Array Value)[i]? = some (.string (wordI i).t) := by
      intro i hi
      have e : (#[.string ⟨#[97, 110, 100]⟩, .string ⟨#[97, 109, 111, 117, 110, 116]⟩, .string ⟨#[98, 97, 108]⟩, .string ⟨#[98, 97, 110, 107]⟩, .string ⟨#[98, 97, 115, 105, 115]⟩, .string ⟨#[98, 111, 111, 108]⟩, .string ⟨#[99, 111, 110, 116, 114, 97]⟩, .string ⟨#[99, 111, 117, 110, 116]⟩, .string ⟨#[100, 97, 116, 101]⟩, .string ⟨#[100, 97, 121, 115]⟩, .string ⟨#[101, 108, 115, 101]⟩, .string ⟨#[102, 97, 108, 115, 101]⟩, .string ⟨#[102, 114, 111, 109]⟩, .string ⟨#[105, 102]⟩, .string ⟨#[105, 110, 115, 116, 97, 108, 109, 101, 110, 116]⟩, .string ⟨#[105, 110, 116]⟩, .string ⟨#[105, 110, 116, 101, 114, 101, 115, 116]⟩, .string ⟨#[108, 97, 116, 101, 114]⟩, .string ⟨#[108, 101, 97, 115, 116]⟩, .string ⟨#[108, 101, 116]⟩, .string ⟨#[109, 111, 110, 101, 121]⟩, .string ⟨#[109, 111, 115, 116]⟩, .string ⟨#[110, 101, 120, 116]⟩, .string ⟨#[110, 111, 116]⟩, .string ⟨#[111, 112, 101, 110]⟩, .string ⟨#[111, 114]⟩, .string ⟨#[112, 97, 114, 97, 109]⟩, .string ⟨#[112, 97, 121]⟩, .string ⟨#[112, 111, 115, 116]⟩, .string ⟨#[112, 114, 111, 100, 117, 99, 116]⟩, .string ⟨#[114, 97, 116, 101]⟩, .string ⟨#[114, 101, 106, 101, 99, 116]⟩, .string ⟨#[114, 101, 112, 101, 97, 116]⟩, .string ⟨#[115, 101, 116]⟩, .string ⟨#[115, 104, 97, 114, 101]⟩, .string ⟨#[115, 105, 110, 99, 101]⟩, .string ⟨#[115, 108, 111, 116]⟩, .string ⟨#[116, 105, 99, 107]⟩, .string ⟨#[116, 111]⟩, .string ⟨#[116, 111, 100, 97, 121]⟩, .string ⟨#[116, 114, 117, 101]⟩] : Array Value) = (resW.map fun l => Value.string ⟨l.toArray⟩).toArray := rfl
      rw [e, List.getElem?_toArray, List.getElem?_map]
      have hl : i < resW.length := hi
      rw [List.getElem?_eq_getElem hl]
      simp [wordI, List.getD_eq_getElem?_getD, List.getElem?_eq_getElem hl]
    exact h i hi⟩
set_option maxRecDepth 100000 in
set_option maxHeartbeats 4000000 in
theorem spec_words (w : World) :
    Calls Tryd.prog 25 #[] w fun e w' => e = .returned (.slice (some ⟨w.heap.size, 0, none⟩) 41 41) ∧ TextsAt w' (some ⟨w.heap.size, 0, none⟩) 41 wordI ∧ Below w.heap.size w w' := by
  have HT : Hid (TextsAt (w.alloc (.cells #[.string ⟨#[97, 110, 100]⟩, .string ⟨#[97, 109, 111, 117, 110, 116]⟩, .string ⟨#[98, 97, 108]⟩, .string ⟨#[98, 97, 110, 107]⟩, .string ⟨#[98, 97, 115, 105, 115]⟩, .string ⟨#[98, 111, 111, 108]⟩, .string ⟨#[99, 111, 110, 116, 114, 97]⟩, .string ⟨#[99, 111, 117, 110, 116]⟩, .string ⟨#[100, 97, 116, 101]⟩, .string ⟨#[100, 97, 121, 115]⟩, .string ⟨#[101, 108, 115, 101]⟩, .string ⟨#[102, 97, 108, 115, 101]⟩, .string ⟨#[102, 114, 111, 109]⟩, .string ⟨#[105, 102]⟩, .string ⟨#[105, 110, 115, 116, 97, 108, 109, 101, 110, 116]⟩, .string ⟨#[105, 110, 116]⟩, .string ⟨#[105, 110, 116, 101, 114, 101, 115, 116]⟩, .string ⟨#[108, 97, 116, 101, 114]⟩, .string ⟨#[108, 101, 97, 115, 116]⟩, .string ⟨#[108, 101, 116]⟩, .string ⟨#[109, 111, 110, 101, 121]⟩, .string ⟨#[109, 111, 115, 116]⟩, .string ⟨#[110, 101, 120, 116]⟩, .string ⟨#[110, 111, 116]⟩, .string ⟨#[111, 112, 101, 110]⟩, .string ⟨#[111, 114]⟩, .string ⟨#[112, 97, 114, 97, 109]⟩, .string ⟨#[112, 97, 121]⟩, .string ⟨#[112, 111, 115, 116]⟩, .string ⟨#[112, 114, 111, 100, 117, 99, 116]⟩, .string ⟨#[114, 97, 116, 101]⟩, .string ⟨#[114, 101, 106, 101, 99, 116]⟩, .string ⟨#[114, 101, 112, 101, 97, 116]⟩, .string ⟨#[115, 101, 116]⟩, .string ⟨#[115, 104, 97, 114, 101]⟩, .string ⟨#[115, 105, 110, 99, 101]⟩, .string ⟨#[115, 108, 111, 116]⟩, .string ⟨#[116, 105, 99, 107]⟩, .string ⟨#[116, 111]⟩, .string ⟨#[116, 111, 100, 97, 121]⟩, .string ⟨#[116, 114, 117, 101]⟩] 9)) (some ⟨w.heap.size, 0, none⟩) 41 wordI) := texts_words w
  go_enter Tryd.func25, Tryd.ntmps25
  go_wp2_with fail
  go_ret
  exact ⟨rfl, HT.out, (Below.refl _ _).alloc (Nat.le_refl _) _⟩
set_option maxRecDepth 100000 in
set_option maxHeartbeats 4000000 in
theorem spec_reserved (s : ByteArray) (w : World) :
    Calls Tryd.prog 7 #[.string s] w fun e w' => e = .returned (.bool (resB s)) ∧ Below w.heap.size w w' := by
  have HW := spec_words w
  have HW : Hid (Calls Tryd.prog 25 _ _ _) := HW
  have HI : Hid (∀ b W, TextsAt W b 41 wordI → Calls Tryd.prog 24 #[.slice b 41 41, .string s] W fun e w' => e = .returned (.bool (resB s)) ∧ w' = W) := fun b W hT => by
    have := spec_in b 41 41 wordI s (by omega) W hT
    rw [res_in] at this
    exact this
  generalize resB s = R at *
  go_enter Tryd.func7, Tryd.ntmps7
  go_wp2_with fail
  refine HW.out.mono ?_
  rintro e w1 ⟨rfl, hT, hb⟩
  have HB : Hid (Below w.heap.size w w1) := hb
  have HT : Hid (TextsAt w1 (some ⟨w.heap.size, 0, none⟩) 41 wordI) := hT
  clear hb hT
  go_wp2_with fail
  refine (HI.out _ _ HT.out).mono ?_
  rintro e w2 ⟨rfl, rfl⟩
  go_wp2_with fail
  go_ret
  exact ⟨rfl, HB.out⟩
/-- The table of blanks, as the program's text lays it. -/
def Asc0 (w : World) : Prop := Lib.TabIs Tryd.prog w "strings.asciiSpace" .u8 Lib.asciiSpaceTab
theorem asc_g : Tryd.prog.globalNamed "strings.asciiSpace" = some 0 := by kernel_rfl
theorem Asc0.below {w w' : World} (h : Asc0 w) (hb : Below w.heap.size w w') : Asc0 w' := by
  unfold Asc0 Lib.TabIs at *
  have hlt : 0 < w.heap.size := by
    rcases Nat.lt_or_ge 0 w.heap.size with h0 | h0
    · exact h0
    · have := World.var?_cell asc_g h 0
      simp [World.cell?, Array.getElem?_eq_none h0, Lib.asciiSpaceTab] at this
  rw [← h]
  unfold World.var?
  rw [asc_g]
  simp only [Option.bind_some]
  rw [hb.block _ hlt]
/-- And the functions' names. -/
def Asc (w : World) : Prop := Asc0 w ∧ FunW w
theorem Asc.below {w w' : World} (h : Asc w) (hb : Below w.heap.size w w') : Asc w' := ⟨h.1.below hb, h.2.below hb⟩
/-- Block b is a map of the reserved words alone. -/
def Lex (w : World) (b : Nat) : Prop := ∃ D : DataW Unit, w.ownsMap Tryd.prog 9 unitElem b 41 D ∧ (∀ l : List UInt8, Maps.has D (.string l) = resL 41 l) ∧ FunW w
theorem Lex.funs {w : World} {b : Nat} (h : Lex w b) : FunW w := by obtain ⟨D, _, _, h⟩ := h; exact h
theorem Lex.lt {w : World} {b : Nat} (h : Lex w b) : b < w.heap.size := by obtain ⟨D, h, _⟩ := h; exact h.lt
theorem Lex.below {w w' : World} {b : Nat} (h : Lex w b) (hb : Below w.heap.size w w') : Lex w' b := by
  have hlt := h.lt
  obtain ⟨D, h, r⟩ := h
  obtain ⟨es, clock, hblk, F⟩ := h
  exact ⟨D, ⟨es, clock, by rw [hb.block b hlt]; exact hblk, F⟩, r.1, r.2.below hb⟩
theorem grown_trans' {w w' w'' : World} {row : Option Nat} (h : w.grownBy w' row) (h' : w'.grownBy w'' row) : w.grownBy w'' row :=
  ⟨h'.os.trans h.os, h'.tape.trans h.tape, h'.output.trans h.output, Nat.le_trans h.size h'.size, fun k hk hne => (h'.block k (Nat.lt_of_lt_of_le hk h.size) hne).trans (h.block k hk hne)⟩
theorem keyS : Keyed Tryd.prog 9 := string_keyed Tryd.underlying9
theorem zeroU (w : World) : (zeroValue 77).run Tryd.prog w = .ok (.agg #[]) w := by kernel_rfl
set_option maxRecDepth 100000 in
set_option maxHeartbeats 4000000 in
theorem impl_has (s : ByteArray) (hs : s.size ≤ maxLen) (b : Nat) (w : World) (hx : Lex w b) :
    Calls Tryd.prog 27 #[.map (some b), .string s] w fun e w' => e = .returned (.bool (resB s)) ∧ Below w.heap.size w w' := by
  obtain ⟨D, hown, hD, _⟩ := hx
  have hkey : keyOf Tryd.prog 9 (.string s) = some (.string s.data.toList) := Go.WideMaps.keyOf_string_mk Tryd.underlying9 hs
  have HD : Hid (Maps.has D (.string s.data.toList) = resB s) := hD _
  clear hD
  go_enter Tryd.func27, Tryd.ntmps27
  go_wp2_with (first | (at_lookup; refine wpList_lookup_own_unit _ rfl _ _ 54 rfl 9 77 keyS Tryd.underlying54 (zeroU _) b 41 D rfl hown _ _ rfl hkey ?_) | fail)
  go_ret
  exact ⟨ret_bool HD.out, (Below.refl _ _).alloc (Nat.le_refl _) _⟩
theorem has_step {D : DataW Unit} {k : Nat} (hm : IsMap D) (h : ∀ l : List UInt8, Maps.has D (.string l) = resL k l) (l : List UInt8) : Maps.has (D.put (.string (resW.getD k [])) (.agg [])) (.string l) = resL (k + 1) l := by
  rw [resL_succ]
  by_cases e : resW.getD k [] = l
  · rw [← e, has_put_same (k := Lit.string (resW.getD k [])) hm trivial]
    simp
  · rw [has_put_other (fun h => by injection h with h; exact e h.symm), h l]
    simp only [decide_eq_false e, Bool.or_false]
theorem ascii_of {s : ByteArray} (h : s.data.toList.all (fun b => decide (b.toNat < 128)) = true) : ∀ (j : Nat) b, s.data.toList[j]? = some b → b.toNat < 128 := fun j b hb => by
  have := List.all_eq_true.1 h b (List.mem_of_getElem? hb)
  simpa using this
theorem fields_of {s : ByteArray} (hf : Lib.fields s.data.toList = resW) (hs : decide (s.size < 4294967281) = true) (ha : s.data.toList.all (fun b => decide (b.toNat < 128)) = true) (w : World) (hA : Asc0 w) :
    Calls Tryd.prog 47 #[.string s] w fun e w' => e = .returned (.slice (some ⟨w.heap.size, 0, none⟩) 41 41) ∧ w' = w.alloc (.cells (resW.map fun l => Value.string ⟨l.toArray⟩).toArray 9) := by
  have h := Any.strings_Fields lays157 (by kernel_rfl) asc_g s w (of_decide_eq_true hs) (ascii_of ha) hA
  rw [hf] at h
  exact h
theorem word_cell (w : World) (k : Nat) (hk : k < 41) : (w.alloc (.cells (resW.map fun l => Value.string ⟨l.toArray⟩).toArray 9)).cell? ⟨w.heap.size, k, none⟩ = some (.string ⟨(resW.getD k []).toArray⟩) := by
  rw [World.cell?_alloc_new, List.getElem?_toArray, List.getElem?_map]
  have hl : k < resW.length := hk
  rw [List.getElem?_eq_getElem hl]
  simp [List.getD_eq_getElem?_getD, List.getElem?_eq_getElem hl]
set_option maxRecDepth 100000 in
set_option maxHeartbeats 4000000 in
theorem impl_lexicon (w : World) (hA : Asc w) :
    Calls Tryd.prog 26 #[] w fun e w' => ∃ b, e = .returned (.map (some b)) ∧ Lex w' b ∧ w.heap.size ≤ b ∧ Below w.heap.size w w' := by
  have hmm := @run_makeMap Tryd.prog
  have HA : Hid (Asc (w.alloc (.map #[] 0))) := hA.below ((Below.refl _ _).alloc (Nat.le_refl _) _)
  have HM : Hid ((w.alloc (.map #[] 0)).ownsMap Tryd.prog 9 (unitElem (H := Unit)) w.heap.size 0 (.map [])) := World.ownsMap_made _ _ _ _
  have HB : Hid (Below w.heap.size w (w.alloc (.map #[] 0))) := (Below.refl _ _).alloc (Nat.le_refl _) _
  have hlt : w.heap.size < (w.alloc (.map #[] 0)).heap.size := by simp
  have HFW : Hid (FunW w) := hA.2
  clear hA
  go_enter Tryd.func26, Tryd.ntmps26
  go_wp2_with fail
  obtain ⟨W0, hW0⟩ : ∃ W, W = w.alloc (.map #[] 0) := ⟨_, rfl⟩
  rw [← hW0] at HA HM HB hlt ⊢
  obtain ⟨b, hb⟩ : ∃ b, b = w.heap.size := ⟨_, rfl⟩
  rw [← hb] at HM hlt ⊢
  have Hbw : Hid (w.heap.size ≤ b) := by rw [hb]; exact Nat.le_refl _
  clear hW0 hmm hb
  refine (fields_of (by kernel_rfl) (by kernel_rfl) (by kernel_rfl) _ HA.out.1).mono ?_
  rintro e w1 ⟨rfl, hw1⟩
  have HC : Hid (∀ k, k < 41 → w1.cell? ⟨W0.heap.size, k, none⟩ = some (.string ⟨(resW.getD k []).toArray⟩)) := fun k hk => by rw [hw1]; exact word_cell W0 k hk
  have HM1 : Hid (w1.ownsMap Tryd.prog 9 (unitElem (H := Unit)) b 0 (.map [])) := by rw [hw1]; exact HM.out.alloc _
  have HB1 : Hid (Below w.heap.size w w1) := by rw [hw1]; exact HB.out.alloc HB.out.size _
  obtain ⟨g, hg⟩ : ∃ g, g = W0.heap.size := ⟨_, rfl⟩
  rw [← hg] at HC hlt ⊢
  have hgw : g < w1.heap.size := by rw [hw1, hg]; simp
  clear hw1 hg HM HB HA
  go_wp2_with fail
  go_loopw [7] (fun i wr => ∃ (k : Nat) (D : DataW Unit), k ≤ 41 ∧ i = .int .i64 k ∧ Hid (wr.ownsMap Tryd.prog 9 unitElem b k D) ∧ Hid (IsMap D) ∧ Hid (∀ l : List UInt8, Maps.has D (.string l) = resL k l) ∧ Hid (w1.grownBy wr (some b))) (fun i _ => 41 - (intOf i).toNat)
  case atStart => exact ⟨0, .map [], by omega, rfl, HM1.out, isMap_empty, fun l => by rw [Maps.has_eq]; rfl, World.grownBy.refl _ _⟩
  case round =>
    obtain ⟨k, D, hk, rfl, HMr, HI, HH, HG⟩ := hrel
    by_cases hkn : k < 41
    · have p0 : decide (k < 41) = true := by simpa using hkn
      have p1 : decide ((k : Int) < 41) = true := by simp; omega
      have c0 := HG.out.cell (HC.out k hkn) (by simp; omega)
      have hkey : keyOf Tryd.prog 9 (.string ⟨(resW.getD k []).toArray⟩) = some (.string (resW.getD k [])) := Go.WideMaps.keyOf_string_mk Tryd.underlying9 (by have := res_len hkn; show (resW.getD k []).toArray.size ≤ maxLen; unfold maxLen; simp at this ⊢; omega)
      have hown := HMr.out
      have HH' : Hid (∀ l : List UInt8, Maps.has (D.put (.string (resW.getD k [])) (.agg [])) (.string l) = resL (k + 1) l) := has_step HI.out HH.out
      have HI' : Hid (IsMap (D.put (.string (resW.getD k [])) (.agg []))) := HI.out.put _ _
      clear HH HI HMr
      generalize (⟨(resW.getD k []).toArray⟩ : ByteArray) = X at *
      generalize Lit.string (resW.getD k []) = Y at *
      go_wp2_with (first | (at_mapUpdate; refine wpList_mapUpdate_own _ rfl _ _ _ 54 rfl 9 77 keyS Tryd.underlying54 _ b k _ rfl hown (by unfold maxLen; omega) _ _ _ rfl rfl hkey (.agg []) [] unitElem_mk ?_; intro w2 hown2 hgrow2) | fail)
      go_roundw
      case rel => exact ⟨k + 1, _, by omega, by go_num, hown2, HI', HH', grown_trans' HG.out hgrow2⟩
      case measure => simp [intOf]; omega
    · have p0 : decide (k < 41) = false := by simpa using hkn
      have p1 : decide ((k : Int) < 41) = false := by simp; omega
      obtain rfl : k = 41 := by omega
      go_wp2_with fail
      go_ret
      exact ⟨b, rfl, ⟨D, HMr.out, HH.out, HFW.out.below (HB1.out.grown HG.out HB1.out.size (fun j hj => by cases hj; exact Hbw.out))⟩, Hbw.out, HB1.out.grown HG.out HB1.out.size (fun j hj => by cases hj; exact Hbw.out)⟩
set_option maxRecDepth 100000 in
set_option maxHeartbeats 4000000 in
theorem impl_reserved (s : ByteArray) (hs : s.size ≤ maxLen) (w : World) (hA : Asc w) :
    Calls Tryd.prog 8 #[.string s] w fun e w' => e = .returned (.bool (resB s)) ∧ Below w.heap.size w w' := by
  have HL := impl_lexicon w hA
  have HL : Hid (Calls Tryd.prog 26 _ _ _) := HL
  have HH : Hid (∀ b W, Lex W b → Calls Tryd.prog 27 #[.map (some b), .string s] W fun e w' => e = .returned (.bool (resB s)) ∧ Below W.heap.size W w') := fun b W hx => impl_has s hs b W hx
  clear hA
  generalize resB s = R at *
  go_enter Tryd.func8, Tryd.ntmps8
  go_wp2_with fail
  refine HL.out.mono ?_
  rintro e w1 ⟨b, rfl, hx, _, hb⟩
  have HB : Hid (Below w.heap.size w w1) := hb
  have HX : Hid (Lex w1 b) := hx
  clear hb hx
  go_wp2_with fail
  refine (HH.out _ _ HX.out).mono ?_
  rintro e w2 ⟨rfl, hb2⟩
  have HB2 : Hid (Below w.heap.size w w2) := HB.out.trans (hb2.mono HB.out.size)
  clear hb2
  go_wp2_with fail
  go_ret
  exact ⟨rfl, HB2.out⟩
set_option maxRecDepth 100000 in
set_option maxHeartbeats 4000000 in
theorem law_reserved (s : ByteArray) (hs : s.size ≤ maxLen) (w : World) (hA : Asc w) :
    Calls Tryd.prog 3 #[.string s] w fun e w' => e = .returned (.bool true) ∧ Below w.heap.size w w' := by
  have hs' := hs
  unfold maxLen at hs'
  have HI : Hid (∀ W, Asc W → Calls Tryd.prog 8 #[.string s] W fun e w' => e = .returned (.bool (resB s)) ∧ Below W.heap.size W w') := fun W h => impl_reserved s hs W h
  have HS : Hid (∀ W, Calls Tryd.prog 7 #[.string s] W fun e w' => e = .returned (.bool (resB s)) ∧ Below W.heap.size W w') := fun W => spec_reserved s W
  have HA : Hid (Asc w) := hA
  clear hA
  generalize resB s = R at *
  by_cases h : 1048576 < (s.size : Int)
  · go_enter Tryd.func3, Tryd.ntmps3
    go_wp2_with fail
    go_ret
    exact ⟨rfl, Below.refl _ _⟩
  · go_enter Tryd.func3, Tryd.ntmps3
    go_wp2_with fail
    refine (HS.out _).mono ?_
    rintro e w1 ⟨rfl, hb1⟩
    have HB1 : Hid (Below w.heap.size w w1) := hb1
    clear hb1
    go_wp2_with fail
    refine (HI.out _ (HA.out.below HB1.out)).mono ?_
    rintro e w2 ⟨rfl, hb2⟩
    have HB2 : Hid (Below w.heap.size w w2) := HB1.out.trans (hb2.mono HB1.out.size)
    clear hb2
    have hrr : (R != R) = false := by cases R <;> rfl
    go_wp2_with fail
    go_ret
    exact ⟨rfl, HB2.out⟩
end Go.Proofs.YtnefcldjigndgaaDoor
