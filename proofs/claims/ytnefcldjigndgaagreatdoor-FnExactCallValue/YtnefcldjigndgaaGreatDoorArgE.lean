/- Arguments that are environments, or lists of whole numbers: their cells, read out of the arguments' reading. -/
import Derived.Test.YtnefcldjigndgaaGreatDoorInts
import Derived.Test.YtnefcldjigndgaaGreatDoorArgT
import Derived.ChangeSlices
namespace Go.Proofs.YtnefcldjigndgaaGreatDoor
open Go.ChangeShapes Go.WideShapes Go.Deep
open Go.Proofs.YtnefcldjigndgaaGreatDoor.Draw

section
variable {H : Type} {enc : TypeId × Value → H} {w : World} {base : Nat} {spare : Nat → Bool} {held : Bool}
theorem cellsIs : Tryz.prog.cellsOf 22 = 1 := by kernel_rfl
set_option maxRecDepth 100000 in
/-- A []int64 that came in. -/
theorem open_nums {fuel : Nat} {cs : List Value} {x : DataW H × List MemPlace} (h : DataW.trod enc Tryz.prog w base spare held fuel 22 cs = some x) : ∃ (a : Option Addr) (n cap : Nat) (T : Nat → Int), cs = [.slice a n cap] ∧ n ≤ maxLen ∧ (∀ i, i < n → -9223372036854775808 ≤ T i ∧ T i ≤ 9223372036854775807) ∧ IntsAt w a n T := by
  rcases open_ints Tryz.underlying22 Tryz.underlying2 (by kernel_rfl) h with ⟨hcs, _⟩ | ⟨ad, n, cap, zs, hcs, _, hl, hm, hz, _, hcell, hwf⟩
  · exact ⟨none, 0, 0, fun _ => 0, hcs, by unfold maxLen; omega, fun i hi => by omega, Or.inl rfl⟩
  · have hnz : n ≤ zs.length := by rw [hz]; split <;> omega
    refine ⟨some ad, n, cap, fun i => zs.getD i 0, hcs, by omega, fun i hi => ?_, ?_⟩
    · have hmem : zs.getD i 0 ∈ zs := by
        rw [List.getD_eq_getElem?_getD, List.getElem?_eq_getElem (by omega)]
        exact List.getElem_mem _
      have := hwf _ hmem
      simpa [Lit.wf, IntKind.min, IntKind.max, IntKind.signed, IntKind.bits] using this
    · rcases Nat.eq_zero_or_pos n with h0 | hpos
      · exact Or.inl h0
      · have h0 := hcell 0 (by omega)
        have hsp := World.cell?_spot h0
        obtain ⟨g, o, sp⟩ := ad
        have hsp' : sp = none := by simpa [Addr.add] using hsp
        subst hsp'
        refine Or.inr ⟨g, o, rfl, ?_, fun i hi => ?_⟩
        · have h0' : w.cell? ⟨g, o, none⟩ = some (.int .i64 (zs.getD 0 0)) := by simpa [Addr.add] using h0
          exact World.block_lt_of_cell? _ _ h0'
        · have := hcell i (by omega)
          rw [add_off] at this
          exact this
end
end Go.Proofs.YtnefcldjigndgaaGreatDoor
