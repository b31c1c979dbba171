/- assizeref2.Put, PutInt, PutBytes on a row of the caller's own: no other block turns. -/
import Derived.Test.YtllpohacomknfaaWhere
namespace Go.Proofs.Ytllpohacomknfaa
open Go.RowKit
set_option linter.unusedVariables false
set_option linter.unusedSimpArgs false

/-- What a call that puts bytes behind a row of the caller's own leaves: nothing else has turned. -/
def PutsK (base : Nat) (zs : List UInt8) (v : Value) (w : World) (e : Ending) (w' : World) : Prop :=
  ∃ v', e = .returned v' ∧ w'.ownsRow base 5 1 v' zs.length (zs.map encU) ∧ Kept v w w' ∧ (v'.ownBlock = v.ownBlock ∨ ∀ b, v'.ownBlock = some b → w.heap.size ≤ b)

theorem where_trans {v u t : Value} {w wr : World} (hs : w.heap.size ≤ wr.heap.size) (h1 : u.ownBlock = v.ownBlock ∨ ∀ b, u.ownBlock = some b → w.heap.size ≤ b) (h2 : t.ownBlock = u.ownBlock ∨ ∀ b, t.ownBlock = some b → wr.heap.size ≤ b) :
    t.ownBlock = v.ownBlock ∨ ∀ b, t.ownBlock = some b → w.heap.size ≤ b := by
  rcases h2 with e | e
  · rw [e]; exact h1
  · exact .inr fun b hb => Nat.le_trans hs (e b hb)

set_option maxRecDepth 100000 in
set_option maxHeartbeats 1000000 in
theorem put15k (base n : Nat) (hn : n < 2 ^ 64) (xs : List UInt8) (hx : xs.length + 10 ≤ 140737488355328) (v : Value) (w : World) (hbase : base ≤ w.heap.size) (hown : w.ownsRow base 5 1 v xs.length (xs.map encU)) :
    Calls Try.prog 15 #[v, .int .u64 (n : Int)] w (PutsK base (xs ++ dig n) v w) := by
  obtain ⟨i0, hi, hz0, hz1, hz2⟩ := info_parts info5
  have h10 := dig_len10 hn
  go_enter Try.func15, Try.ntmps15
  go_wp2
  go_loopw [0, 1] (fun u t wr => ∃ (m : Nat) (zs : List UInt8), m < 2 ^ 64 ∧ t = .int .u64 (m : Int) ∧ Hid (zs ++ dig m = xs ++ dig n) ∧ wr.ownsRow base 5 1 u zs.length (zs.map encU) ∧ Kept v w wr ∧ Hid (u.ownBlock = v.ownBlock ∨ ∀ b, u.ownBlock = some b → w.heap.size ≤ b))
    (fun _ t _ => (intOf t).toNat)
  case atStart => exact ⟨n, xs, hn, rfl, Lib.hid rfl, hown, Kept.refl _ _, Lib.hid (.inl rfl)⟩
  case round =>
    obtain ⟨m, zs, hm, rfl, HD, hownr, hk, HW⟩ := hrel
    have hlen : zs.length + 1 ≤ xs.length + 10 := by
      have := congrArg List.length HD.out
      simp at this
      have := dig_pos m
      omega
    have hbr := hk.size
    by_cases hge : 128 ≤ m
    · have HB := Lib.hid (show encU (UInt8.ofNat (m % 128 + 128)) = .int .u8 (bits .or .u8 (bits .and .u64 (m : Int) 127 % 256) 128) from by rw [byte_hi2 hm, IntKind.wrap_u8'])
      go_wp2_with (at_builtin; refine wpList_append_one wr rfl _ _ 22 rfl base 5 i0 (.int .u8 0) 1 Try.underlying22 hi hz0 hz1 hz2 rfl _ _ _ rfl hownr _ rfl (by rfl) (by rfl) (by unfold maxLen; omega) (by omega) (by omega) ?_; intro v' w1 hown' hk' hw')
      rw [← HB.out] at hown'
      have R : w1.ownsRow base 5 1 v' (zs ++ [UInt8.ofNat (m % 128 + 128)]).length ((zs ++ [UInt8.ofNat (m % 128 + 128)]).map encU) := by simpa using hown'
      have HD' := Lib.hid (show (zs ++ [UInt8.ofNat (m % 128 + 128)]) ++ dig (m / 128) = xs ++ dig n from by rw [← HD.out, dig_ge hge]; simp)
      have HW' := Lib.hid (where_trans hbr HW.out hw')
      have K' := hk.trans hk' HW.out
      clear hown' hownr HD HW hw' hk' hk
      go_roundw
      case rel => exact ⟨m / 128, _, by omega, by go_num, HD', R, K', HW'⟩
      case measure => simp [intOf]; omega
    · have HB := Lib.hid (byte_lo (m := m) (by omega))
      go_wp2_with (at_builtin; refine wpList_append_one wr rfl _ _ 22 rfl base 5 i0 (.int .u8 0) 1 Try.underlying22 hi hz0 hz1 hz2 rfl _ _ _ rfl hownr _ rfl (by rfl) (by rfl) (by unfold maxLen; omega) (by omega) (by omega) ?_; intro v' w1 hown' hk' hw')
      rw [← HB.out] at hown'
      have R : w1.ownsRow base 5 1 v' (zs ++ [UInt8.ofNat m]).length ((zs ++ [UInt8.ofNat m]).map encU) := by simpa using hown'
      have HD' := (show (zs ++ [UInt8.ofNat m]) = xs ++ dig n from by rw [← HD.out, dig_lt (by omega)])
      have HW' := Lib.hid (where_trans hbr HW.out hw')
      have K' := hk.trans hk' HW.out
      clear hown' hownr HD HW hw' hk' hk
      go_ret
      rw [HD'] at R
      exact ⟨_, rfl, R, K', HW'.out⟩

set_option maxRecDepth 100000 in
set_option maxHeartbeats 1000000 in
theorem puti17k (base : Nat) (i : Int) (h1 : -9223372036854775808 ≤ i) (h2 : i ≤ 9223372036854775807) (xs : List UInt8) (hx : xs.length + 10 ≤ 140737488355328) (v : Value) (w : World) (hbase : base ≤ w.heap.size) (hown : w.ownsRow base 5 1 v xs.length (xs.map encU)) :
    Calls Try.prog 17 #[v, .int .i64 i] w (PutsK base (xs ++ dig (usg i)) v w) := by
  have HV := Lib.hid hown
  clear hown
  have hlt := usg_lt h1 h2
  by_cases h : 0 ≤ i
  · have HU := Lib.hid (show ((usg i : Nat) : Int) = i * 2 from by rw [usg_nonneg h]; omega)
    go_enter Try.func17, Try.ntmps17
    go_wp2_with fail
    rw [← HU.out]
    refine (put15k base (usg i) hlt xs hx v w hbase HV.out).mono ?_
    rintro e w2 hG
    have HG := Lib.hid hG
    obtain ⟨v2, rfl, _⟩ := hG
    go_wp2
    go_ret
    exact HG.out
  · have HU := Lib.hid (show ((usg i : Nat) : Int) = bits .or .u64 (-(i + 1) * 2) 1 from by
      obtain ⟨m, hm⟩ : ∃ m : Nat, -(i + 1) * 2 = ((2 * m : Nat) : Int) := ⟨(-(i + 1)).toNat, by omega⟩
      have e1 := u64_or_nat (2 * m) 1 (by omega) (by decide)
      rw [nat_join1 _ _ (by omega) (by decide)] at e1
      rw [hm]
      refine Eq.trans ?_ e1.symm
      rw [usg_neg (by omega)]; omega)
    go_enter Try.func17, Try.ntmps17
    go_wp2_with fail
    rw [← HU.out]
    refine (put15k base (usg i) hlt xs hx v w hbase HV.out).mono ?_
    rintro e w2 hG
    have HG := Lib.hid hG
    obtain ⟨v2, rfl, _⟩ := hG
    go_wp2
    go_ret
    exact HG.out
end Go.Proofs.Ytllpohacomknfaa
