/- WireOdd's closure, and Whole, TakeList, PutList of it and of nothing. -/
import Derived.Test.YtllpohacomknfaaWhole
import Derived.Test.YtllpohacomknfaaStepK
import Derived.Deep.QuietTactic
import Derived.BigQuiet
namespace Go.Proofs.Ytllpohacomknfaa
open Go.RowKit
set_option linter.unusedVariables false
set_option linter.unusedSimpArgs false

theorem info3 : (Try.prog.info? 3).map (fun i => (i.zero, i.size, i.bytes)) = some (some (.int .i64 0), 1, 8) := by kernel_rfl

/-- The closure, its count at block B. -/
def oddF (B : Nat) : Value := .func (.func 30) #[] #[.pointer (some ⟨B, 0, none⟩)]

set_option maxRecDepth 100000 in
set_option maxHeartbeats 1000000 in
theorem odd30 (count : Int) (B : Nat) (v : Value) (w : World) (hcell : w.cell? ⟨B, 0, none⟩ = some (.int .i64 count)) :
    Calls Try.prog 30 #[v, .pointer (some ⟨B, 0, none⟩)] w fun e w' => e = .returned (.tuple #[.int .i64 7, .int .i64 count, .int .i64 0]) ∧ ∃ m, w' = w.drewN m := by
  go_enter Try.func30, Try.ntmps30
  go_wp2
  go_quiet (fail)
  go_wp2
  go_ret3
  exact ⟨rfl, _, rfl⟩

set_option maxRecDepth 100000 in
set_option maxHeartbeats 1000000 in
theorem whole31 (bs : List UInt8) (hl : bs.length ≤ 140737488355328) (count : Int) (h1 : -9223372036854775808 ≤ count) (h2 : count ≤ 9223372036854775807) (B : Nat) (v : Value) (w : World) (hv : RB w v bs) (hcell : w.cell? ⟨B, 0, none⟩ = some (.int .i64 count)) :
    Calls Try.prog 31 #[v, oddF B] w fun e w' => e = .returned (.tuple #[.int .i64 (if count = (bs.length : Int) then 7 else 0), .int .i64 (if count = (bs.length : Int) then 0 else 4)]) ∧ ∃ m, w' = w.drewN m := by
  have q52 := fun w => run_eql_func_nil (P := Try.prog) w 52 Try.underlying52
  obtain ⟨a, c, e1, hc, hn0⟩ := hv.form
  subst e1
  have H40 := Lib.hid (fenced40 a bs.length c hl hc w)
  have H30 := Lib.hid (odd30 count B (.slice a bs.length bs.length) w hcell)
  clear hv hn0 hcell
  unfold oddF
  by_cases h : count = (bs.length : Int)
  · have hne : (count != (bs.length : Int)) = false := by rw [h]; simp
    rw [if_pos h, if_pos h]
    clear h
    go_enter Try.func31, Try.ntmps31
    go_wp2_with (first | (go_at_call 40; refine H40.out.mono ?_; rintro e w' ⟨rfl, rfl⟩) | (go_at_call 30; refine H30.out.mono ?_; rintro e w' ⟨rfl, m, rfl⟩))
    go_ret2
    exact ⟨rfl, _, rfl⟩
  · have hne : (count != (bs.length : Int)) = true := by simpa using h
    rw [if_neg h, if_neg h]
    clear h
    go_enter Try.func31, Try.ntmps31
    go_wp2_with (first | (go_at_call 40; refine H40.out.mono ?_; rintro e w' ⟨rfl, rfl⟩) | (go_at_call 30; refine H30.out.mono ?_; rintro e w' ⟨rfl, m, rfl⟩))
    go_ret2
    exact ⟨rfl, _, rfl⟩

set_option maxRecDepth 100000 in
set_option maxHeartbeats 1000000 in
theorem whole31_nil (a : Option Addr) (n c : Nat) (w : World) :
    Calls Try.prog 31 #[.slice a n c, .nilFunc] w fun e w' => e = .returned (.tuple #[.int .i64 0, .int .i64 1]) ∧ w = w' := by
  have q52 := fun w => run_eql_nil_nil (P := Try.prog) w 52 Try.underlying52
  go_enter Try.func31, Try.ntmps31
  go_wp2
  go_ret2
  exact ⟨rfl, rfl⟩

set_option maxRecDepth 100000 in
set_option maxHeartbeats 1000000 in
theorem take32_nil (a : Option Addr) (n c : Nat) (w : World) :
    Calls Try.prog 32 #[.slice a n c, .int .i64 5, .nilFunc] w fun e w' => e = .returned (.tuple #[.slice none 0 0, .int .i64 0, .int .i64 1]) ∧ w = w' := by
  have q52 := fun w => run_eql_nil_nil (P := Try.prog) w 52 Try.underlying52
  go_enter Try.func32, Try.ntmps32
  go_wp2
  go_ret3
  exact ⟨rfl, rfl⟩

set_option maxRecDepth 100000 in
set_option maxHeartbeats 1000000 in
theorem put33_nil (bs : List UInt8) (hl : bs.length ≤ 140737488355328) (v : Value) (a : Option Addr) (n c : Nat) (w : World) (hv : RB w v bs) :
    Calls Try.prog 33 #[v, .slice a n c, .nilFunc] w (Gives bs w) := by
  have q64 := fun w => run_eql_nil_nil (P := Try.prog) w 64 Try.underlying64
  have HF := Lib.hid (fresh38_0 bs (by omega) v w hv)
  clear hv
  go_enter Try.func33, Try.ntmps33
  go_wp2_with fail
  refine HF.out.mono ?_
  rintro e w1 hG
  have HG := Lib.hid hG
  obtain ⟨v1, rfl, _⟩ := hG
  go_wp2
  go_ret
  exact HG.out

/-- The error that one odd element brings. -/
def oddE (count : Int) (n : Nat) : Int := if 1 ≤ count ∧ count ≤ (n : Int) then 0 else 4

theorem tk_one (bs : List UInt8) : tk (1 :: bs) = (1, 1, 0) := by
  have := tk_dig (n := 1) (by decide) bs
  rwa [dig_lt (by decide)] at this

set_option maxRecDepth 100000 in
set_option maxHeartbeats 2000000 in
theorem take32 (bs : List UInt8) (hl : bs.length + 4096 ≤ 140737488355328) (count : Int) (h1 : -9223372036854775808 ≤ count) (h2 : count ≤ 9223372036854775807) (B : Nat) (v : Value) (w : World) (hv : RB w v (1 :: bs)) (hcell : w.cell? ⟨B, 0, none⟩ = some (.int .i64 count)) :
    Calls Try.prog 32 #[v, .int .i64 5, oddF B] w fun e w' => (∃ x y, e = .returned (.tuple #[x, y, .int .i64 (oddE count bs.length)])) ∧ Below w.heap.size w w' := by
  have q52 := fun w => run_eql_func_nil (P := Try.prog) w 52 Try.underlying52
  obtain ⟨i0, hi, hz0, hz1, hz2⟩ := info_parts info3
  rcases hv with ⟨_, _, _, h, _⟩ | ⟨b, off, c, rfl, hc, hcs⟩
  · cases h
  have hlen : (1 :: bs).length = bs.length + 1 := by simp
  have HV := Lib.hid (show RB w (.slice (some ⟨b, off, none⟩) (1 :: bs).length c) (1 :: bs) from .inr ⟨b, off, c, rfl, hc, hcs⟩)
  rw [hlen] at HV hc ⊢
  have H10 : Hid (Calls Try.prog 10 #[.slice (some ⟨b, off, none⟩) (bs.length + 1) c] w fun e' w' => e' = .returned (.tuple #[.int .u64 1, .int .i64 1, .int .i64 0]) ∧ w = w') := take10' (tk_one bs) (by simp; omega) _ w HV.out
  have H39 : Hid (Calls Try.prog 39 #[.int .u64 1, .int .i64 5] w fun e w' => e = .returned (.bool false) ∧ w = w') := bey39_false 1 (by decide) 5 (by decide) (by decide) w (by decide)
  have HCell := Lib.hid hcell
  clear hcs hlen hcell HV
  unfold oddF
  generalize bs.length = n at hl hc H10 ⊢
  have H30 : Hid (∀ u, Calls Try.prog 30 #[u, .pointer (some ⟨B, 0, none⟩)] w fun e w' => e = .returned (.tuple #[.int .i64 7, .int .i64 count, .int .i64 0]) ∧ ∃ m, w' = w.drewN m) := fun u => odd30 count B u w HCell.out
  go_enter Try.func32, Try.ntmps32
  go_wp2_with (first | (go_at_call 10; refine H10.out.mono ?_; rintro e w' ⟨rfl, rfl⟩) | (go_at_call 39; refine H39.out.mono ?_; rintro e w' ⟨rfl, rfl⟩))
  clear H10 H39
  go_loopw [10, 12, 32] (fun f u t wr => (t = .int .u64 0 ∧ f = .int .i64 1 ∧ u = .slice none 0 0 ∧ w = wr) ∨ (t = .int .u64 1 ∧ Hid (oddE count n = 0) ∧ Below w.heap.size w wr)) (fun _ _ t _ => 1 - (intOf t).toNat)
  case atStart => exact .inl ⟨rfl, rfl, rfl, rfl⟩
  case round =>
    rcases hrel with ⟨rfl, rfl, rfl, rfl⟩ | ⟨rfl, HO, hB⟩
    · by_cases hck : c = 1
      · obtain rfl : n = 0 := by omega
        subst hck
        have HO := Lib.hid (show oddE count 0 = 4 from if_neg (by omega))
        rcases (show count < 1 ∨ 1 ≤ count by omega) with hcn | hcn
        all_goals
          go_wp2_with (first | (go_at_call 40; refine (fenced40 _ 0 _ (by omega) (by omega) _).mono ?_; rintro e w' ⟨rfl, rfl⟩) | (go_at_call 30; refine (H30.out _).mono ?_; rintro e w' ⟨rfl, m, rfl⟩))
          go_ret3
          exact ⟨⟨_, _, by rw [HO.out]; rfl⟩, ⟨rfl, rfl, rfl, Nat.le_refl _, fun _ _ => rfl⟩⟩
      · have hc1 : n ≤ c - 1 := by omega
        rcases (show count < 1 ∨ (1 ≤ count ∧ (n : Int) < count) ∨ (1 ≤ count ∧ count ≤ (n : Int)) by omega) with hcn | ⟨hcn, hcm⟩ | ⟨hcn, hcm⟩
        · have HO := Lib.hid (show oddE count n = 4 from if_neg (by omega))
          go_wp2_with (first | (go_at_call 40; refine (fenced40 _ n _ (by omega) (by omega) _).mono ?_; rintro e w' ⟨rfl, rfl⟩) | (go_at_call 30; refine (H30.out _).mono ?_; rintro e w' ⟨rfl, m, rfl⟩))
          go_ret3
          exact ⟨⟨_, _, by rw [HO.out]; rfl⟩, ⟨rfl, rfl, rfl, Nat.le_refl _, fun _ _ => rfl⟩⟩
        · have HO := Lib.hid (show oddE count n = 4 from if_neg (by omega))
          go_wp2_with (first | (go_at_call 40; refine (fenced40 _ n _ (by omega) (by omega) _).mono ?_; rintro e w' ⟨rfl, rfl⟩) | (go_at_call 30; refine (H30.out _).mono ?_; rintro e w' ⟨rfl, m, rfl⟩))
          go_ret3
          exact ⟨⟨_, _, by rw [HO.out]; rfl⟩, ⟨rfl, rfl, rfl, Nat.le_refl _, fun _ _ => rfl⟩⟩
        · have HO := Lib.hid (show oddE count n = 0 from if_pos ⟨hcn, hcm⟩)
          go_wp2_with (first | (go_at_call 40; refine (fenced40 _ n _ (by omega) (by omega) _).mono ?_; rintro e w' ⟨rfl, rfl⟩) | (go_at_call 30; refine (H30.out _).mono ?_; rintro e w' ⟨rfl, m, rfl⟩) | (at_builtin; refine wpList_append_one (w.drewN m) rfl _ _ 55 rfl w.heap.size 3 i0 (.int .i64 0) 8 Try.underlying55 hi hz0 hz1 hz2 rfl _ _ _ rfl (World.ownsRow_nil _ _ _ _) _ rfl (by rfl) (by rfl) (by decide) (by decide) (Nat.le_refl _) ?_; intro v' w2 hrow' hk' hw'))
          have hd : Below w.heap.size w (w.drewN m) := ⟨rfl, rfl, rfl, Nat.le_refl _, fun _ _ => rfl⟩
          have hB : Below w.heap.size w w2 := hd.trans (hk'.below w.heap.size (show w.heap.size ≤ (w.drewN m).heap.size from Nat.le_refl _) (fun k hk => by have h' : Value.ownBlock (.slice none 0 0) = some k := hk; simp [Value.ownBlock] at h'))
          clear hrow' hk' hw'
          go_roundw
          case rel => exact .inr ⟨rfl, HO, hB⟩
          case measure => simp [intOf]
    · go_wp2
      go_ret3
      exact ⟨⟨_, _, by rw [HO.out]; rfl⟩, hB⟩
end Go.Proofs.Ytllpohacomknfaa
