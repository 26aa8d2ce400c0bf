/- What is drawn for DateRead: a date's text, at times spoilt; nothing old is turned. -/
import Derived.Test.YtgbkpifkmkjbaaaDoorDrawD
import Derived.Test.YtgbkpifkmkjbaaaDoorDTextS
namespace Go.Proofs.YtgbkpifkmkjbaaaDoor.Draw
open Go.RowKit

theorem dtN_len (y m d : Nat) (hy : y ≤ 1000000000000) (hm : m ≤ 1000000000000) (hd : d ≤ 1000000000000) : (dtN y m d).length ≤ 90 := by
  have h0 := dec_fits y hy
  have h1 := pad_fits 2 m hm (by omega)
  have h2 := pad_fits 2 d hd (by omega)
  rw [strB_size] at h0 h1 h2
  unfold dtN
  simp only [List.length_append, List.length_cons]
  omega
theorem dateT_short (day : Int) : (dateT day).length ≤ 90 := by
  unfold dateT
  split
  · rename_i h
    obtain ⟨d0, d1⟩ := (dayRB_iff day).1 h
    have hI := dateB_is d0 d1
    have := hI.y1; have := hI.m1; have := hI.d1; have := len_le (dateB day).1 (dateB day).2.1
    exact dtN_len _ _ _ (by omega) (by omega) (by omega)
  · simp

set_option maxRecDepth 100000 in
set_option maxHeartbeats 4000000 in
theorem draw_dateRead {w0 : World} {a : Option Addr} {len cap : Nat} {zs : List Int} (hrow : IsRow .u8 w0 a len cap zs) (hsm : len ≤ 1048576) (w : World) (hb0 : Below w0.heap.size w0 w) :
    Calls Tryd.prog 38 #[.slice a len cap] w fun e w' => ∃ t : ByteArray, e = .returned (.string t) ∧ t.size ≤ 300 ∧ Below w.heap.size w w' := by
  go_enter Tryd.func38, Tryd.ntmps38
  go_wp2_with fail
  refine (draw_source hrow hsm w hb0).mono ?_
  rintro e w1 ⟨S, rfl, hSlo, hs1, hg1⟩
  go_wp2_with fail
  refine (draw_day hs1).mono ?_
  rintro e w2 ⟨x, rfl, x0, x1, hs2, hg2⟩
  go_wp2_with fail
  refine (spec_dateText x _).mono ?_
  rintro e w3 ⟨rfl, hb3⟩
  have hlen : (strB (dateT x)).size ≤ 90 := by have := dateT_short x; rw [strB_size]; omega
  have hs3 := hs2.under hb3
  have HB : Hid (Below w.heap.size w w3) := by
    have b1 := (Below.refl w.heap.size w).grown hg1 (Nat.le_refl _) (fun k hk => by cases hk)
    have b2 := below_src b1 hg2 hSlo
    exact b2.trans (hb3.mono b2.size)
  have HS : Hid (w.heap.size ≤ S) := hSlo
  generalize strB (dateT x) = E at *
  clear hg1 hg2 hb3 hs1 hs2 hSlo
  go_wp2_with fail
  refine (draw_one hs3 3 (by omega) (by omega)).mono ?_
  rintro e w4 ⟨b, rfl, hs4, hg4⟩
  have HB4 : Hid (Below w.heap.size w w4) := below_src HB.out hg4 HS.out
  clear hg4
  cases b
  · go_wp2_with fail
    go_ret
    exact ⟨E, rfl, by omega, HB4.out⟩
  · go_wp2_with fail
    refine (draw_spoil hs4 E (by omega)).mono ?_
    rintro e w5 ⟨F, rfl, hF, hs5, hg5⟩
    have HB5 : Hid (Below w.heap.size w w5) := below_src HB4.out hg5 HS.out
    clear hg5
    go_wp2_with fail
    go_ret
    exact ⟨F, rfl, by omega, HB5.out⟩
end Go.Proofs.YtgbkpifkmkjbaaaDoor.Draw
