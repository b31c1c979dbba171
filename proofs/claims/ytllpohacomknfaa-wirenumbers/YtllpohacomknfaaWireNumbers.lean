/- WireNumbers' walk. -/
import Derived.Test.YtllpohacomknfaaWnReg
namespace Go.Proofs.Ytllpohacomknfaa
open Go.RowKit Go.Shelf
set_option linter.unusedVariables false
set_option linter.unusedSimpArgs false

set_option maxRecDepth 100000 in
set_option maxHeartbeats 2000000 in
theorem wireNumbers_walk (bs : List UInt8) (hb : bs.length + 4096 ≤ 140737488355328) (m : Nat) (hm : m < 2 ^ 64) (i : Int) (h1 : -9223372036854775808 ≤ i) (h2 : i ≤ 9223372036854775807) (v : Value) (w : World) (hv : RB w v bs) :
    Calls Try.prog 3 #[v, .int .u64 (m : Int), .int .i64 i] w (Yes w) := by
  have T10 := Lib.hid (take10 bs (by omega) v w hv)
  have T11 := Lib.hid (take11 bs (by omega) v w hv)
  have T12 := Lib.hid (tint12 bs (by omega) v w hv)
  have T13 := Lib.hid (tint13 bs (by omega) v w hv)
  have HV := Lib.hid hv
  clear hv
  obtain ⟨r, hr⟩ : ∃ r, tk bs = r := ⟨_, rfl⟩
  have HE := Lib.hid (show ((r.2.2 : Int) = 0) ∨ ((r.2.2 : Int) ≠ 0 ∧ sgn r.1 = 0) from by
    rcases tk_cases bs with ⟨_, _, h, _⟩ | h | h <;> rw [hr] at h <;> subst h
    · exact .inl rfl
    · exact .inr ⟨by decide, by decide⟩
    · exact .inr ⟨by decide, by decide⟩)
  rw [hr] at T10 T11 T12 T13
  simp only [TkE, TiE] at T10 T11 T12 T13
  clear hr
  generalize ((r.1 : Nat) : Int) = x at T10 T11 T12 T13 HE
  generalize ((r.2.1 : Nat) : Int) = k at T10 T11 T12 T13 HE
  generalize ((r.2.2 : Nat) : Int) = e at T10 T11 T12 T13 HE
  generalize sgn r.1 = s at T10 T11 T12 T13 HE
  go_enter Try.func3, Try.ntmps3
  go_wp2_with (first | (go_at_call 10; refine T10.out.mono ?_; rintro e w' ⟨rfl, rfl⟩) | (go_at_call 11; refine T11.out.mono ?_; rintro e w' ⟨rfl, rfl⟩) | (go_at_call 12; refine T12.out.mono ?_; rintro e w' ⟨rfl, rfl⟩) | (go_at_call 13; refine T13.out.mono ?_; rintro e w' ⟨rfl, rfl⟩) | fail)
  clear T10 T11 T12 T13
  refine draw_as (ops := regOps Try.f3 5) (by kernel_rfl) ?_
  refine draw_start (K := Tells 112 6 w) (S := S0 w) (N := 70) (by kernel_rfl) (by kernel_rfl) ?_ ?_
  · intro a w' hT
    go_wp2
    exact bodyPost_ret (v := .bool true) (by simp [results, Try.results3, hT.1.slot 6 _ rfl]) hT.1.defers ⟨rfl, hT.2⟩
  · rcases HE.out with he | ⟨he, hs⟩
    · exact wn_ok bs hb m hm i h1 h2 x k e s (by simp [he]) (by simp [he]) v w _ (Fr.of_list rfl rfl (by kernel_rfl)) HV.out
    · exact wn_bad bs hb m hm i h1 h2 x k e s (by simp [he]) (by simp [he]) (by simp [hs]) v w _ (Fr.of_list rfl rfl (by kernel_rfl)) HV.out
end Go.Proofs.Ytllpohacomknfaa
