/- The levels of all places: what the program's call does. -/
import Derived.Test.YtdbahildcecgbaaDoorClM
import Derived.Lib.SliceRun
import Derived.Deep.OwnRows
namespace Go.Proofs.YtdbahildcecgbaaDoor
open Go.RowKit
open Go.Proofs.YtdbahildcecgbaaDoor.Draw

/-- The levels that are handed back. -/
def LvsOut (L : Nat → In) (n : Nat) (w : World) (e : Ending) (w' : World) : Prop := ∃ g lv, e = .returned (.slice (some ⟨g, 0, none⟩) n n) ∧ w.heap.size ≤ g ∧ Own w' g n (levF lv) ∧ Below w.heap.size w w' ∧ (Climb L n lv (fun _ => False) ∨ (¬ Good L n ∧ ∀ k, k < n → lv k = -1))
theorem zero2 (w : World) : (zeroValue 2).run Tryd.prog w = .ok (.int .i64 0) w := by kernel_rfl
theorem setCells_size (b : Nat) : ∀ (vs : List Value) (o : Nat) (w : World), (w.setCells b o vs).heap.size = w.heap.size
  | [], _, _ => rfl
  | v :: r, o, _ => by
    rw [World.setCells, setCells_size b r]
    simp
theorem setCells_below {B b : Nat} {x : World} (hb : B ≤ b) : ∀ (vs : List Value) (o : Nat) (w : World), Below B x w → Below B x (w.setCells b o vs)
  | [], _, _, h => h
  | v :: r, o, _, h => setCells_below hb r (o + 1) _ (h.setCell hb v)
theorem bx_at {W : World} {j : Nat} {cs : Array Value} {t : TypeId} (h : j = W.heap.size) : Bxs (W.alloc (.cells cs t)) j cs t := by subst h; exact Bxs.new W cs t
theorem bx_under {W : World} {j : Nat} {cs : Array Value} {t : TypeId} (h : Bxs W j cs t) (o : Obj) : Bxs (W.alloc o) j cs t := h.below ((Below.refl _ _).alloc (Nat.le_refl _) _)
theorem bx_drew {W : World} {j : Nat} {cs : Array Value} {t : TypeId} (h : Bxs W j cs t) : Bxs W.drew j cs t := h
/-- The way's block and its levels, as they are made. -/
theorem clm_first (z0 z1 z2 z3 : Int) (a : Option Addr) (n c : Nat) {w W : World} {C G t : Nat} {MC : Array Value} (hC : Bxs W C #[.int .i64 z0, .int .i64 z1, .int .i64 z2, .int .i64 z3, .slice a n c, .slice (some ⟨G, 0, none⟩) n n, .slice none 0 0] t) (hG : Bxs W G MC 2) (hM : ∀ j, j < n → MC[j]? = some (.int .i64 0)) (l : w.heap.size ≤ G ∧ w.heap.size ≤ C ∧ G < w.heap.size + 3 ∧ C < w.heap.size + 3 ∧ C ≠ G) (hs : w.heap.size + 3 ≤ W.heap.size) (hb : Below w.heap.size w W) : Clm w W (w.heap.size + 3) C G z0 z1 z2 z3 a n c (fun _ => -1) [] :=
  ⟨hC.cell 0, hC.cell 1, hC.cell 2, hC.cell 3, hC.cell 4, hC.cell 5, ⟨_, hC.cell 6, World.ownsRow_nil _ _ _ _⟩, ⟨hG.lt, fun j hj => (hG.cell j).trans (hM j hj), fun j => Lib.frozen_of_heap hG j⟩, fun j => Lib.frozen_of_heap hC j, ⟨l.1, l.2.1, l.2.2.1, l.2.2.2.1, l.2.2.2.2, hC.lt, hs⟩, hb⟩
set_option maxRecDepth 100000 in
set_option maxHeartbeats 16000000 in
theorem impl_levels (z0 z1 z2 z3 : Int) (a : Option Addr) (n c : Nat) (hn : n ≤ 2000) (hn1 : 1 ≤ n) (L : Nat → In) (w : World) (hA : InsAt w a n L) (hF : FunW w) (hS : ShaW w) (hI : ∀ j, j < n → insB z1 z2 z3 n (L j).o (L j).a (L j).b = true) :
    Calls Tryd.prog 29 #[.agg #[.int .i64 z0, .int .i64 z1, .int .i64 z2, .int .i64 z3, .slice a n c]] w (LvsOut L n w) := by
  have hmk := fun W => run_make_row' 50 2 (.int .i64 0) 8 Tryd.underlying50 infoN rfl .i64 .i64 n (by omega) (by omega) W
  have hMs : ∀ j, j < n → (madeCells #[Value.int .i64 0] n)[j]? = some (.int .i64 0) := fun j hj => by simp [madeCells, hj, Nat.mod_one]
  have HMC : Hid (∀ j, j < n → (madeCells #[Value.int .i64 0] n)[j]? = some (.int .i64 0)) := hMs
  clear hMs
  generalize madeCells #[Value.int .i64 0] n = MC at *
  have HCL : Hid (∀ (C G : Nat) (w' : World), Clm w w' (w.heap.size + 3) C G z0 z1 z2 z3 a n c (fun _ => -1) [] → Calls Tryd.prog 39 #[.pointer (some ⟨C, 0, none⟩)] w' (ClimbOut w (w.heap.size + 3) C G z0 z1 z2 z3 a n c L)) := fun C G w' h => impl_climb hn hn1 L hA hF hS hI h
  have HWA : Hid (Clm w ((((w.alloc (.cells #[.int .i64 z0, .int .i64 z1, .int .i64 z2, .int .i64 z3, .slice a n c] 24)).alloc (.cells MC 2)).alloc (.cells #[.int .i64 z0, .int .i64 z1, .int .i64 z2, .int .i64 z3, .slice a n c, .slice (some ⟨w.heap.size + 1, 0, none⟩) n n, .slice none 0 0] 66)).drew) (w.heap.size + 3) (w.heap.size + 1 + 1) (w.heap.size + 1) z0 z1 z2 z3 a n c (fun _ => -1) []) := clm_first z0 z1 z2 z3 a n c (t := 66) (bx_drew (bx_at (by simp))) (bx_drew (bx_under (bx_at (by simp)) _)) HMC.out ⟨by omega, by omega, by omega, by omega, by omega⟩ (by simp) (((((Below.refl _ _).alloc (Nat.le_refl _) _).alloc (by simp) _).alloc (by simp; omega) _).drew)
  have HWB : Hid (Clm w ((((w.alloc (.cells #[.int .i64 z0, .int .i64 z1, .int .i64 z2, .int .i64 z3, .slice a n c] 24)).alloc (.cells #[.int .i64 z0, .int .i64 z1, .int .i64 z2, .int .i64 z3, .slice a n c, .slice (some ⟨w.heap.size + 1 + 1, 0, none⟩) n n, .slice none 0 0] 66)).alloc (.cells MC 2)).drew) (w.heap.size + 3) (w.heap.size + 1) (w.heap.size + 1 + 1) z0 z1 z2 z3 a n c (fun _ => -1) []) := clm_first z0 z1 z2 z3 a n c (t := 66) (bx_drew (bx_under (bx_at (by simp)) _)) (bx_drew (bx_at (by simp))) HMC.out ⟨by omega, by omega, by omega, by omega, by omega⟩ (by simp) (((((Below.refl _ _).alloc (Nat.le_refl _) _).alloc (by simp) _).alloc (by simp; omega) _).drew)
  clear hA hF hS hI HMC
  go_enter Tryd.func29, Tryd.ntmps29
  go_wp2_with fail
  go_upto_region 1 with fail
  go_cut [3] (fun r wx => ∃ C G : Nat, r = .pointer (some ⟨C, 0, none⟩) ∧ Hid (Clm w wx (w.heap.size + 3) C G z0 z1 z2 z3 a n c (fun _ => -1) []))
  case first =>
    go_region
    all_goals go_wp2_with fail
    all_goals go_meet
    all_goals first
      | exact ⟨_, _, rfl, HWA⟩
      | exact ⟨_, _, rfl, HWB⟩
  case rest =>
    obtain ⟨C, G, rfl, HC⟩ := hcut
    clear hmk HWA HWB
    have H1 := HCL.out C G _ HC.out
    have H1 : Hid (Calls Tryd.prog 39 _ _ _) := H1
    clear HCL HC
    go_wp2_with fail
    refine H1.out.mono ?_
    rintro e w1 ⟨b, lv, W, rfl, hC1, hb⟩
    have HC1 : Hid (Clm w w1 (w.heap.size + 3) C G z0 z1 z2 z3 a n c lv W) := hC1
    have m5 := hC1.m5
    have hl := hC1.lt
    cases b
    · have hg0 : ¬ Good L n := by simpa using hb
      have HG : Hid (¬ Good L n) := hg0
      have hcl : ∀ ty, (Builtin.clear_ #[50] ty #[.slice (some ⟨G, 0, none⟩) n n]).run Tryd.prog w1 = .ok (.tuple #[]) (w1.setCells G 0 (List.replicate n (.int .i64 0))) := fun ty => Lib.run_clear_slice w1 50 2 ty (.int .i64 0) Tryd.underlying50 zero2 rfl rfl G 0 n n (by omega) (fun j hj => by rw [Nat.zero_add, hC1.own.2.1 j hj]; rfl) (fun j _ => by rw [Nat.zero_add]; exact hC1.own.2.2 j)
      have HO2 : Hid (Own (w1.setCells G 0 (List.replicate n (.int .i64 0))) G n (levF (fun _ => -1))) := ⟨by rw [setCells_size]; exact hC1.own.1, fun j hj => by
        have := World.cell?_setCells_in G (List.replicate n (Value.int .i64 0)) 0 w1 (fun i hi => by rw [Nat.zero_add, hC1.own.2.1 i (by simpa using hi)]; rfl) j (by simpa using hj)
        rw [Nat.zero_add] at this
        rw [this]
        simp [levF], fun j => by rw [World.frozen?_setCells]; exact hC1.own.2.2 j⟩
      have m52 : (w1.setCells G 0 (List.replicate n (.int .i64 0))).cell? ⟨C, 5, none⟩ = some (.slice (some ⟨G, 0, none⟩) n n) := by
        rw [World.cell?_setCells_out G _ _ _ _ (fun e => absurd e hl.2.2.2.2.1)]
        exact m5
      have HBE : Hid (Below w.heap.size w (w1.setCells G 0 (List.replicate n (.int .i64 0)))) := setCells_below hl.1 _ _ _ hC1.bel
      have HGL : Hid (w.heap.size ≤ G) := hl.1
      generalize w1.setCells G 0 (List.replicate n (.int .i64 0)) = w2 at *
      clear hb hC1 hg0 hl H1
      go_wp2_with fail
      go_ret
      exact ⟨G, fun _ => -1, rfl, HGL.out, HO2.out, HBE.out, Or.inr ⟨HG.out, fun _ _ => rfl⟩⟩
    · have HG : Hid (Climb L n lv (fun _ => False)) := by rw [if_pos rfl] at hb; exact hb
      have HGL : Hid (w.heap.size ≤ G) := hl.1
      clear hb hC1 hl H1
      go_wp2_with fail
      go_ret
      exact ⟨G, lv, rfl, HGL.out, HC1.out.own, HC1.out.bel, Or.inl HG.out⟩
end Go.Proofs.YtdbahildcecgbaaDoor
