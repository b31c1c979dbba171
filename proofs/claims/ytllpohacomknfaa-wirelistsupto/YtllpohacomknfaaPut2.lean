/- wire.putNumber, assizeref2.Put: on a slice of the call's own. -/
import Derived.Test.YtllpohacomknfaaPut
namespace Go.Proofs.Ytllpohacomknfaa
open Go.RowKit
set_option linter.unusedVariables false
set_option linter.unusedSimpArgs false

theorem byte_hi (m : Nat) : encU (UInt8.ofNat (m % 128 + 128)) = .int .u8 ((m : Int) % 128 + 128) := by
  unfold encU
  congr 1
  simp
  omega
theorem byte_lo {m : Nat} (h : m < 128) : encU (UInt8.ofNat m) = .int .u8 (m : Int) := by
  unfold encU
  congr 1
  simp
  omega

/-- What a call that puts bytes behind a row of the caller's own leaves. -/
def Puts (base : Nat) (zs : List UInt8) (w : World) (e : Ending) (w' : World) : Prop :=
  ∃ v, e = .returned v ∧ w'.ownsRow base 5 1 v zs.length (zs.map encU) ∧ Below base w w' ∧ w.heap.size ≤ w'.heap.size

theorem one_cell_at (wr : World) (u : Value) : ∀ j x, [u][j]? = some x → (wr.alloc (.cells #[u] 5)).cell? ((⟨wr.heap.size, 0, none⟩ : Addr).add j) = some x := by
  intro j x hj
  match j, hj with
  | 0, hj => simp at hj; subst hj; simp [Addr.add]

/-- One byte more. -/
theorem Puts.step {base : Nat} {zs : List UInt8} {c : UInt8} {v v' : Value} {w wr w1 : World} {o : Obj} (hbel : Below base w wr) (hbase : base ≤ wr.heap.size) (hown : wr.ownsRow base 5 1 v zs.length (zs.map encU))
    (hown' : w1.ownsRow base 5 1 v' (zs.length + 1) (zs.map encU ++ [encU c])) (hgrow : (wr.alloc o).grownBy w1 v.ownBlock) :
    w1.ownsRow base 5 1 v' (zs ++ [c]).length ((zs ++ [c]).map encU) ∧ Below base w w1 ∧ base ≤ w1.heap.size := by
  have hb1 : Below base w w1 := (hbel.alloc hbase o).grown hgrow (by simp; omega) (fun k hk => ((hown.alloc o).lt k hk).1)
  have := hgrow.size
  simp at this
  exact ⟨by simpa using hown', hb1, by omega⟩

set_option maxRecDepth 100000 in
set_option maxHeartbeats 1000000 in
theorem putn37 (base n : Nat) (hn : n < 2 ^ 64) (xs : List UInt8) (hx : xs.length + 10 ≤ 140737488355328) (v : Value) (w : World) (hbase : base ≤ w.heap.size) (hown : w.ownsRow base 5 1 v xs.length (xs.map encU)) :
    Calls Try.prog 37 #[v, .int .u64 (n : Int)] w (Puts base (xs ++ dig n) w) := by
  obtain ⟨i0, hi, hz0, hz1, hz2⟩ := info_parts info5
  have h10 := dig_len10 hn
  go_enter Try.func37, Try.ntmps37
  go_wp2
  go_loopw [0, 1] (fun u t wr => ∃ (m : Nat) (zs : List UInt8), m < 2 ^ 64 ∧ t = .int .u64 (m : Int) ∧ Hid (zs ++ dig m = xs ++ dig n) ∧ wr.ownsRow base 5 1 u zs.length (zs.map encU) ∧ Below base w wr ∧ base ≤ wr.heap.size)
    (fun _ t _ => (intOf t).toNat)
  case atStart => exact ⟨n, xs, hn, rfl, Lib.hid rfl, hown, Below.refl _ _, hbase⟩
  case round =>
    obtain ⟨m, zs, hm, rfl, HD, hownr, hbel, hbr⟩ := hrel
    have hlen : zs.length + 1 ≤ xs.length + 10 := by
      have := congrArg List.length HD.out
      simp at this
      have := dig_pos m
      omega
    by_cases hge : 128 ≤ m
    · have HB := Lib.hid (byte_hi m)
      go_wp2_with (at_builtin; refine wpList_append_own _ rfl _ _ 22 rfl base 5 i0 (.int .u8 0) 1 1 Try.underlying22 hi hz0 hz1 hz2 rfl (by decide) _ _ _ rfl (hownr.alloc _) ⟨wr.heap.size, 0, none⟩ 1 1 [encU (UInt8.ofNat (m % 128 + 128))] rfl rfl (by rw [HB.out]; exact one_cell_at wr _) (by intro u hu; simp at hu; subst hu; rfl) (by unfold maxLen; omega) (by omega) (by simp; omega) ?_; intro v' w1 hown' hgrow _)
      have R := Puts.step hbel hbr hownr hown' hgrow
      have HD' := Lib.hid (show (zs ++ [UInt8.ofNat (m % 128 + 128)]) ++ dig (m / 128) = xs ++ dig n from by rw [← HD.out, dig_ge hge]; simp)
      clear hown' hgrow hownr HD
      go_roundw
      case rel => exact ⟨m / 128, _, by omega, by go_num, HD', R.1, R.2.1, R.2.2⟩
      case measure => simp [intOf]; omega
    · have HB := Lib.hid (byte_lo (m := m) (by omega))
      go_wp2_with (at_builtin; refine wpList_append_own _ rfl _ _ 22 rfl base 5 i0 (.int .u8 0) 1 1 Try.underlying22 hi hz0 hz1 hz2 rfl (by decide) _ _ _ rfl (hownr.alloc _) ⟨wr.heap.size, 0, none⟩ 1 1 [encU (UInt8.ofNat m)] rfl rfl (by rw [HB.out]; exact one_cell_at wr _) (by intro u hu; simp at hu; subst hu; rfl) (by unfold maxLen; omega) (by omega) (by simp; omega) ?_; intro v' w1 hown' hgrow _)
      have R := Puts.step hbel hbr hownr hown' hgrow
      have HD' := (show (zs ++ [UInt8.ofNat m]) = xs ++ dig n from by rw [← HD.out, dig_lt (by omega)])
      clear hown' hgrow hownr HD
      go_ret
      rw [HD'] at R
      exact ⟨_, rfl, R.1, R.2.1, R.2.1.size⟩
theorem byte_hi2 {m : Nat} (hm : m < 2 ^ 64) : encU (UInt8.ofNat (m % 128 + 128)) = .int .u8 (bits .or .u8 (IntKind.u8.wrap (bits .and .u64 (m : Int) 127)) 128) := by
  rw [byte_hi, u64_and127 m hm, show IntKind.u8.wrap ((m % 128 : Nat) : Int) = ((m % 128 : Nat) : Int) from wraps_u8 _ (by omega) (by have : m % 128 < 128 := Nat.mod_lt _ (by decide); omega), u8_or128_right _ (by omega) (by have : m % 128 < 128 := Nat.mod_lt _ (by decide); omega)]
  rfl

set_option maxRecDepth 100000 in
set_option maxHeartbeats 1000000 in
theorem put15 (base n : Nat) (hn : n < 2 ^ 64) (xs : List UInt8) (hx : xs.length + 10 ≤ 140737488355328) (v : Value) (w : World) (hbase : base ≤ w.heap.size) (hown : w.ownsRow base 5 1 v xs.length (xs.map encU)) :
    Calls Try.prog 15 #[v, .int .u64 (n : Int)] w (Puts base (xs ++ dig n) w) := by
  obtain ⟨i0, hi, hz0, hz1, hz2⟩ := info_parts info5
  have h10 := dig_len10 hn
  go_enter Try.func15, Try.ntmps15
  go_wp2
  go_loopw [0, 1] (fun u t wr => ∃ (m : Nat) (zs : List UInt8), m < 2 ^ 64 ∧ t = .int .u64 (m : Int) ∧ Hid (zs ++ dig m = xs ++ dig n) ∧ wr.ownsRow base 5 1 u zs.length (zs.map encU) ∧ Below base w wr ∧ base ≤ wr.heap.size)
    (fun _ t _ => (intOf t).toNat)
  case atStart => exact ⟨n, xs, hn, rfl, Lib.hid rfl, hown, Below.refl _ _, hbase⟩
  case round =>
    obtain ⟨m, zs, hm, rfl, HD, hownr, hbel, hbr⟩ := hrel
    have hlen : zs.length + 1 ≤ xs.length + 10 := by
      have := congrArg List.length HD.out
      simp at this
      have := dig_pos m
      omega
    by_cases hge : 128 ≤ m
    · have HB := Lib.hid (byte_hi2 hm)
      go_wp2_with (at_builtin; refine wpList_append_own _ rfl _ _ 22 rfl base 5 i0 (.int .u8 0) 1 1 Try.underlying22 hi hz0 hz1 hz2 rfl (by decide) _ _ _ rfl (hownr.alloc _) ⟨wr.heap.size, 0, none⟩ 1 1 [encU (UInt8.ofNat (m % 128 + 128))] rfl rfl (by rw [HB.out]; exact one_cell_at wr _) (by intro u hu; simp at hu; subst hu; rfl) (by unfold maxLen; omega) (by omega) (by simp; omega) ?_; intro v' w1 hown' hgrow _)
      have R := Puts.step hbel hbr hownr hown' hgrow
      have HD' := Lib.hid (show (zs ++ [UInt8.ofNat (m % 128 + 128)]) ++ dig (m / 128) = xs ++ dig n from by rw [← HD.out, dig_ge hge]; simp)
      clear hown' hgrow hownr HD
      go_roundw
      case rel => exact ⟨m / 128, _, by omega, by go_num, HD', R.1, R.2.1, R.2.2⟩
      case measure => simp [intOf]; omega
    · have HB := Lib.hid (byte_lo (m := m) (by omega))
      go_wp2_with (at_builtin; refine wpList_append_own _ rfl _ _ 22 rfl base 5 i0 (.int .u8 0) 1 1 Try.underlying22 hi hz0 hz1 hz2 rfl (by decide) _ _ _ rfl (hownr.alloc _) ⟨wr.heap.size, 0, none⟩ 1 1 [encU (UInt8.ofNat m)] rfl rfl (by rw [HB.out]; exact one_cell_at wr _) (by intro u hu; simp at hu; subst hu; rfl) (by unfold maxLen; omega) (by omega) (by simp; omega) ?_; intro v' w1 hown' hgrow _)
      have R := Puts.step hbel hbr hownr hown' hgrow
      have HD' := (show (zs ++ [UInt8.ofNat m]) = xs ++ dig n from by rw [← HD.out, dig_lt (by omega)])
      clear hown' hgrow hownr HD
      go_ret
      rw [HD'] at R
      exact ⟨_, rfl, R.1, R.2.1, R.2.1.size⟩
end Go.Proofs.Ytllpohacomknfaa
