/- wire.TakeInt, assizeref2.TakeInt. -/
import Derived.Test.YtllpohacomknfaaTake3
import Derived.Laws.DeepNot64
namespace Go.Proofs.Ytllpohacomknfaa
open Go.RowKit
set_option linter.unusedVariables false
set_option linter.unusedSimpArgs false

theorem u64_and1 (n : Nat) (hn : n < 2 ^ 64) : bits .and .u64 (n : Int) 1 = ((n % 2 : Nat) : Int) := by
  have := u64_and_nat n 1 (by omega) (by decide)
  rw [Nat.and_one_is_mod] at this
  exact this
theorem u64_and127 (n : Nat) (hn : n < 2 ^ 64) : bits .and .u64 (n : Int) 127 = ((n % 128 : Nat) : Int) := by
  have := u64_and_nat n 127 (by omega) (by decide)
  rw [show n &&& 127 = n % 128 from Nat.and_two_pow_sub_one_eq_mod n 7] at this
  exact this
theorem i64_not' (n : Nat) (h : n < 9223372036854775808) : bits .xor .i64 (-1) (n : Int) = -(n : Int) - 1 := by rw [i64_not n h]; omega
theorem ret_3 {a a' : Int} {x y : Value} (h : a = a') : Ending.returned (.tuple #[.int .i64 a, x, y]) = .returned (.tuple #[.int .i64 a', x, y]) := by rw [h]

/-- The number with its sign. -/
def sgn (n : Nat) : Int := if n % 2 = 1 then -((n / 2 : Nat) : Int) - 1 else ((n / 2 : Nat) : Int)
theorem sgn_odd {n : Nat} (h : n % 2 = 1) : sgn n = -((n / 2 : Nat) : Int) - 1 := if_pos h
theorem sgn_even {n : Nat} (h : ¬ n % 2 = 1) : sgn n = ((n / 2 : Nat) : Int) := if_neg h

/-- What TakeInt tells. -/
def TiE (r : Nat × Nat × Nat) : Ending := .returned (.tuple #[.int .i64 (sgn r.1), .int .i64 (r.2.1 : Int), .int .i64 (r.2.2 : Int)])

theorem take10' {bs : List UInt8} {n k e : Nat} (h : tk bs = (n, k, e)) (hl : bs.length ≤ 140737488355328) (v : Value) (w : World) (hv : RB w v bs) :
    Calls Try.prog 10 #[v] w fun e' w' => e' = .returned (.tuple #[.int .u64 (n : Int), .int .i64 (k : Int), .int .i64 (e : Int)]) ∧ w = w' := by
  have := take10 bs hl v w hv; rw [h] at this; exact this
theorem take11' {bs : List UInt8} {n k e : Nat} (h : tk bs = (n, k, e)) (hl : bs.length ≤ 140737488355328) (v : Value) (w : World) (hv : RB w v bs) :
    Calls Try.prog 11 #[v] w fun e' w' => e' = .returned (.tuple #[.int .u64 (n : Int), .int .i64 (k : Int), .int .i64 (e : Int)]) ∧ w = w' := by
  have := take11 bs hl v w hv; rw [h] at this; exact this

theorem tk_cases (bs : List UInt8) : (∃ n k, tk bs = (n, k, 0) ∧ n < 2 ^ 64 ∧ 0 < k ∧ k ≤ bs.length) ∨ tk bs = (0, 0, 3) ∨ tk bs = (0, 0, 4) := by
  rcases tk_err bs with h | h | h
  · obtain ⟨h1, h2, h3⟩ := tk_lt bs
    exact .inl ⟨_, _, by rw [← h], h1, h3 h, h2⟩
  · exact .inr (.inl h)
  · exact .inr (.inr h)

set_option maxRecDepth 100000 in
set_option maxHeartbeats 1000000 in
theorem tint12 (bs : List UInt8) (hl : bs.length ≤ 140737488355328) (v : Value) (w : World) (hv : RB w v bs) :
    Calls Try.prog 12 #[v] w fun e w' => e = TiE (tk bs) ∧ w = w' := by
  rcases tk_cases bs with ⟨n, k, h, hn, hk, hkl⟩ | h | h
  · have H := Lib.hid (take10' h hl v w hv)
    rw [h]
    clear h hv
    by_cases hp : n % 2 = 1
    · have HS := Lib.hid (sgn_odd hp)
      have hp' : 1 ≤ (n : Int) % 2 := by omega
      clear hp
      go_enter Try.func12, Try.ntmps12
      go_wp2_with (go_at_call 10; refine H.out.mono ?_; rintro e w' ⟨rfl, rfl⟩)
      go_ret3
      exact ⟨ret_3 (by rw [HS.out]; exact i64_not' (n / 2) (by omega)), rfl⟩
    · have HS := Lib.hid (sgn_even hp)
      have hp' : (n : Int) % 2 < 1 := by omega
      clear hp
      go_enter Try.func12, Try.ntmps12
      go_wp2_with (go_at_call 10; refine H.out.mono ?_; rintro e w' ⟨rfl, rfl⟩)
      go_ret3
      exact ⟨ret_3 (by rw [HS.out]; rfl), rfl⟩
  all_goals
    have H := Lib.hid (take10' h hl v w hv)
    rw [h]
    clear h hv
    go_enter Try.func12, Try.ntmps12
    go_wp2_with (go_at_call 10; refine H.out.mono ?_; rintro e w' ⟨rfl, rfl⟩)
    go_ret3
    exact ⟨rfl, rfl⟩

set_option maxRecDepth 100000 in
set_option maxHeartbeats 1000000 in
theorem tint13 (bs : List UInt8) (hl : bs.length ≤ 140737488355328) (v : Value) (w : World) (hv : RB w v bs) :
    Calls Try.prog 13 #[v] w fun e w' => e = TiE (tk bs) ∧ w = w' := by
  rcases tk_cases bs with ⟨n, k, h, hn, hk, hkl⟩ | h | h
  · have H := Lib.hid (take11' h hl v w hv)
    rw [h]
    clear h hv
    by_cases hp : n % 2 = 1
    · have HS := Lib.hid (sgn_odd hp)
      have hp' : (bits .and .u64 (n : Int) 1 == 1) = true := by rw [u64_and1 n hn, hp]; rfl
      clear hp
      go_enter Try.func13, Try.ntmps13
      go_wp2_with (go_at_call 11; refine H.out.mono ?_; rintro e w' ⟨rfl, rfl⟩)
      go_ret3
      exact ⟨ret_3 (by rw [HS.out]; rfl), rfl⟩
    · have HS := Lib.hid (sgn_even hp)
      have hp' : (bits .and .u64 (n : Int) 1 == 1) = false := by rw [u64_and1 n hn, show n % 2 = 0 by omega]; rfl
      clear hp
      go_enter Try.func13, Try.ntmps13
      go_wp2_with (go_at_call 11; refine H.out.mono ?_; rintro e w' ⟨rfl, rfl⟩)
      go_ret3
      exact ⟨ret_3 (by rw [HS.out]; rfl), rfl⟩
  all_goals
    have H := Lib.hid (take11' h hl v w hv)
    rw [h]
    clear h hv
    go_enter Try.func13, Try.ntmps13
    go_wp2_with (go_at_call 11; refine H.out.mono ?_; rintro e w' ⟨rfl, rfl⟩)
    go_ret3
    exact ⟨rfl, rfl⟩
end Go.Proofs.Ytllpohacomknfaa
