/- wire.Put, wire.PutInt, assizeref2.PutInt, awake. -/
import Derived.Test.YtllpohacomknfaaPut2
namespace Go.Proofs.Ytllpohacomknfaa
open Go.RowKit
set_option linter.unusedVariables false
set_option linter.unusedSimpArgs false

theorem Gives.of_puts {bs : List UInt8} {w w1 : World} {e : Ending} {w' : World} (h : Puts w.heap.size bs w1 e w') (hb : Below w.heap.size w w1) : Gives bs w e w' := by
  obtain ⟨v, he, ho, hB, _⟩ := h
  exact ⟨v, he, ho, hb.trans hB⟩

set_option maxRecDepth 100000 in
set_option maxHeartbeats 1000000 in
theorem put14 (n : Nat) (hn : n < 2 ^ 64) (bs : List UInt8) (hb : bs.length + 10 ≤ 140737488355328) (v : Value) (w : World) (hv : RB w v bs) :
    Calls Try.prog 14 #[v, .int .u64 (n : Int)] w (Gives (bs ++ dig n) w) := by
  have H := Lib.hid (fresh38 bs 10 (by omega) v w hv)
  go_enter Try.func14, Try.ntmps14
  go_wp2_with fail
  refine H.out.mono ?_
  rintro e w1 ⟨v1, rfl, ho, hB⟩
  go_wp2_with fail
  refine (putn37 w.heap.size n hn bs hb v1 w1 hB.size ho).mono ?_
  rintro e w2 hP
  have hG := Lib.hid (Gives.of_puts hP hB)
  obtain ⟨v2, rfl, _⟩ := hP
  go_wp2
  go_ret
  exact hG.out

/-- A number with its sign as one without. -/
def usg (i : Int) : Nat := if 0 ≤ i then (2 * i).toNat else (-2 * i - 1).toNat
theorem usg_nonneg {i : Int} (h : 0 ≤ i) : usg i = (2 * i).toNat := if_pos h
theorem usg_neg {i : Int} (h : i < 0) : usg i = (-2 * i - 1).toNat := if_neg (by omega)
theorem usg_lt {i : Int} (h1 : -9223372036854775808 ≤ i) (h2 : i ≤ 9223372036854775807) : usg i < 2 ^ 64 := by
  unfold usg; split <;> omega
theorem sgn_usg (i : Int) : sgn (usg i) = i := by
  unfold usg sgn
  split <;> split <;> omega

theorem i64_not_neg {i : Int} (h0 : i < 0) (h1 : -9223372036854775808 ≤ i) : bits .xor .i64 (-1) i = -i - 1 := by
  show IntKind.i64.wrap ((BitVec.ofInt 64 (-1) ^^^ BitVec.ofInt 64 i).toNat : Int) = _
  have e1 : BitVec.ofInt 64 (-1) = BitVec.allOnes 64 := by decide
  rw [e1, BitVec.allOnes_xor, BitVec.toNat_not, BitVec.toNat_ofInt]
  simp [IntKind.wrap, IntKind.bits, IntKind.signed]
  omega

set_option maxRecDepth 100000 in
set_option maxHeartbeats 1000000 in
theorem puti16 (i : Int) (h1 : -9223372036854775808 ≤ i) (h2 : i ≤ 9223372036854775807) (bs : List UInt8) (hb : bs.length + 10 ≤ 140737488355328) (v : Value) (w : World) (hv : RB w v bs) :
    Calls Try.prog 16 #[v, .int .i64 i] w (Gives (bs ++ dig (usg i)) w) := by
  have HV := Lib.hid hv
  clear hv
  have hlt := usg_lt h1 h2
  by_cases h : 0 ≤ i
  · have HU := Lib.hid (show ((usg i : Nat) : Int) = 2 * i from by rw [usg_nonneg h]; omega)
    go_enter Try.func16, Try.ntmps16
    go_wp2_with fail
    rw [← HU.out]
    refine (put14 (usg i) hlt bs hb v w HV.out).mono ?_
    rintro e w2 hG
    have HG := Lib.hid hG
    obtain ⟨v2, rfl, _⟩ := hG
    go_wp2
    go_ret
    exact HG.out
  · have HU := Lib.hid (show ((usg i : Nat) : Int) = IntKind.u64.wrap (IntKind.u64.wrap (2 * IntKind.u64.wrap (-i - 1)) + 1) from by
      rw [IntWalk.u64_in (-i - 1) ⟨by omega, by omega⟩, IntWalk.u64_in (2 * (-i - 1)) ⟨by omega, by omega⟩, IntWalk.u64_in (2 * (-i - 1) + 1) ⟨by omega, by omega⟩, usg_neg (by omega)]; omega)
    have hx := i64_not_neg (by omega) h1
    go_enter Try.func16, Try.ntmps16
    go_wp2_with fail
    rw [← HU.out]
    refine (put14 (usg i) hlt bs hb v w HV.out).mono ?_
    rintro e w2 hG
    have HG := Lib.hid hG
    obtain ⟨v2, rfl, _⟩ := hG
    go_wp2
    go_ret
    exact HG.out

set_option maxRecDepth 100000 in
set_option maxHeartbeats 1000000 in
theorem puti17 (base : Nat) (i : Int) (h1 : -9223372036854775808 ≤ i) (h2 : i ≤ 9223372036854775807) (xs : List UInt8) (hx : xs.length + 10 ≤ 140737488355328) (v : Value) (w : World) (hbase : base ≤ w.heap.size) (hown : w.ownsRow base 5 1 v xs.length (xs.map encU)) :
    Calls Try.prog 17 #[v, .int .i64 i] w (Puts base (xs ++ dig (usg i)) w) := by
  have HV := Lib.hid hown
  clear hown
  have hlt := usg_lt h1 h2
  by_cases h : 0 ≤ i
  · have HU := Lib.hid (show ((usg i : Nat) : Int) = i * 2 from by rw [usg_nonneg h]; omega)
    go_enter Try.func17, Try.ntmps17
    go_wp2_with fail
    rw [← HU.out]
    refine (put15 base (usg i) hlt xs hx v w hbase HV.out).mono ?_
    rintro e w2 hG
    have HG := Lib.hid hG
    obtain ⟨v2, rfl, _⟩ := hG
    go_wp2
    go_ret
    exact HG.out
  · have HU := Lib.hid (show ((usg i : Nat) : Int) = bits .or .u64 (-(i + 1) * 2) 1 from by
      obtain ⟨m, hm⟩ : ∃ m : Nat, -(i + 1) * 2 = ((2 * m : Nat) : Int) := ⟨(-(i + 1)).toNat, by omega⟩
      have e1 := u64_or_nat (2 * m) 1 (by omega) (by decide)
      rw [nat_join1 _ _ (by omega) (by decide)] at e1
      rw [hm]
      refine Eq.trans ?_ e1.symm
      rw [usg_neg (by omega)]; omega)
    go_enter Try.func17, Try.ntmps17
    go_wp2_with fail
    rw [← HU.out]
    refine (put15 base (usg i) hlt xs hx v w hbase HV.out).mono ?_
    rintro e w2 hG
    have HG := Lib.hid hG
    obtain ⟨v2, rfl, _⟩ := hG
    go_wp2
    go_ret
    exact HG.out

theorem usg_150 : usg (-150) = 299 := by decide
theorem dig_299 : dig 299 = [171, 2] := by rw [dig_ge (by decide), dig_lt (by decide)]; decide

/-- It answers true; nothing that lay there has turned. -/
def Yes (w : World) (e : Ending) (w' : World) : Prop := e = .returned (.bool true) ∧ Below w.heap.size w w'

set_option maxRecDepth 100000 in
set_option maxHeartbeats 1000000 in
theorem awake18 (w : World) : Calls Try.prog 18 #[] w (Yes w) := by
  have H := Lib.hid (puti16 (-150) (by decide) (by decide) [] (by decide) (.slice none 0 0) w (RB.nil w))
  rw [usg_150, dig_299, List.nil_append] at H
  go_enter Try.func18, Try.ntmps18
  go_wp2_with fail
  refine H.out.mono ?_
  rintro e w1 ⟨v1, rfl, ho, hB⟩
  have H2 := Lib.hid (tint12 [171, 2] (by decide) v1 w1 (RB.of_row ho))
  have ht : tk [171, 2] = (299, 2, 0) := by decide
  rw [ht] at H2
  clear ht ho
  go_wp2_with fail
  refine H2.out.mono ?_
  rintro e w2 ⟨rfl, rfl⟩
  have hs : sgn 299 = -150 := by decide
  simp only [TiE, hs]
  clear hs
  go_wp2
  go_ret
  exact ⟨rfl, hB⟩
end Go.Proofs.Ytllpohacomknfaa
