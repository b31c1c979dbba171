/- wire.Take. -/
import Derived.Test.YtllpohacomknfaaTake
namespace Go.Proofs.Ytllpohacomknfaa
open Go.RowKit
set_option linter.unusedVariables false
set_option linter.unusedSimpArgs false

/-- What Take tells. -/
def TkE (r : Nat × Nat × Nat) : Ending := .returned (.tuple #[.int .u64 (r.1 : Int), .int .i64 (r.2.1 : Int), .int .i64 (r.2.2 : Int)])

theorem len35_none {bs : List UInt8} (he : elen bs = none) (hl : bs.length ≤ 140737488355328) (v : Value) (w : World) (hv : RB w v bs) :
    Calls Try.prog 35 #[v] w fun e w' => e = .returned (.int .i64 0) ∧ w = w' := by
  have := len35 bs hl v w hv
  rw [he] at this
  exact this

theorem len35_some {bs : List UInt8} {J : Nat} (he : elen bs = some J) (hl : bs.length ≤ 140737488355328) (v : Value) (w : World) (hv : RB w v bs) :
    Calls Try.prog 35 #[v] w fun e w' => e = .returned (.int .i64 ((J + 1 : Nat) : Int)) ∧ w = w' := by
  have := len35 bs hl v w hv
  rw [he] at this
  exact this

set_option maxRecDepth 100000 in
set_option maxHeartbeats 1000000 in
theorem take10 (bs : List UInt8) (hl : bs.length ≤ 140737488355328) (v : Value) (w : World) (hv : RB w v bs) :
    Calls Try.prog 10 #[v] w fun e w' => e = TkE (tk bs) ∧ w = w' := by
  cases he : elen bs with
  | none =>
    have HT := Lib.hid (tk_none he)
    have H35 := Lib.hid (len35_none he hl v w hv)
    clear he
    go_enter Try.func10, Try.ntmps10
    go_wp2_with (go_at_call 35; refine H35.out.mono ?_; rintro e w' ⟨rfl, rfl⟩)
    go_ret3
    exact ⟨by rw [HT.out]; rfl, rfl⟩
  | some J =>
    have hJ := elen_lt he
    have HV := Lib.hid hv
    rcases hv with ⟨a, c, rfl, rfl, h⟩ | ⟨b, off, cap, rfl, h1, h2⟩
    · simp [elen] at he
    obtain ⟨⟨c, hc, hcl⟩, _⟩ := elen_some he
    have H36 := Lib.hid (snd36 J (by omega) c b off cap w (h2 J c hc))
    have H35 := Lib.hid (len35_some he hl _ w HV.out)
    have H2 := Lib.hid h2
    clear h2
    have hcs : bs[J]?.getD 0 = c := by rw [hc]; rfl
    cases hs : snd J c with
    | false =>
      have HT := Lib.hid (tk_bad he (by rw [hcs]; exact hs))
      rw [hs] at H36
      clear he hc hs hcs
      go_enter Try.func10, Try.ntmps10
      go_wp2_with (first | (go_at_call 35; refine H35.out.mono ?_; rintro e w' ⟨rfl, rfl⟩) | (go_at_call 36; refine H36.out.mono ?_; rintro e w' ⟨rfl, rfl⟩))
      go_ret3
      exact ⟨by rw [HT.out]; rfl, rfl⟩
    | true =>
      have HT := Lib.hid (tk_good he (by rw [hcs]; exact hs))
      have HE := Lib.hid he
      rw [hs] at H36
      have h9 := (snd_le hs).1
      have HS := Lib.hid (show snd J (bs[J]?.getD 0) = true from by rw [hcs]; exact hs)
      clear he hc hs hcs
      go_enter Try.func10, Try.ntmps10
      go_wp2_with (first | (go_at_call 35; refine H35.out.mono ?_; rintro e w' ⟨rfl, rfl⟩) | (go_at_call 36; refine H36.out.mono ?_; rintro e w' ⟨rfl, rfl⟩))
      go_loop [6, 22] (fun n i => ∃ k : Nat, k ≤ J + 1 ∧ i = .int .i64 k ∧ n = .int .u64 ((val (bs.take k) : Nat) : Int)) (fun _ i => J + 1 - (intOf i).toNat)
      case atStart => exact ⟨0, Nat.zero_le _, rfl, rfl⟩
      case round =>
        obtain ⟨k, hk, rfl, rfl⟩ := hrel
        by_cases hlt : k < J + 1
        · obtain ⟨d, hd⟩ : ∃ d, bs[k]? = some d := ⟨_, List.getElem?_eq_getElem (by omega)⟩
          have hcell := H2.out k d hd
          have hu := UInt8.toNat_lt d
          unfold encU at hcell
          have HU := Lib.hid (or_up HE.out HS.out (by omega) hd)
          clear hd
          go_wp2
          go_round
          case rel =>
            refine ⟨k + 1, by omega, by go_num, ?_⟩
            rw [← HU.out]
            rw [Nat.min_eq_left (show 7 * k ≤ 64 by omega), Int.natCast_emod]; rfl
          case measure => simp [intOf]; omega
        · obtain rfl : k = J + 1 := by omega
          go_wp2
          go_ret3
          exact ⟨by rw [HT.out]; rfl, rfl⟩
end Go.Proofs.Ytllpohacomknfaa
