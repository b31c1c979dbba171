/- The law's helpers: short, SameInts, awake. -/
import Derived.Test.YtikomlcghplchaaCount
namespace Go.Proofs.Ytikomlcghplchaa
open Go.RowKit Go.Shelf
set_option linter.unusedVariables false
set_option linter.unusedSimpArgs false
attribute [local go_sem] Oper.semAt_some wide_fn wide_depth

/-- The built-ins min and max, in one word each. -/
def imin (x y : Int) : Int := if y < x then y else x
def imax (x y : Int) : Int := if y > x then y else x
theorem run_imin {P : Program} (w : World) (ts : Array TypeId) (t : TypeId) (k k' : IntKind) (x y : Int) : (Builtin.min_ ts t #[.int k x, .int k' y]).run P w = .ok (.int k (imin x y)) w := run_min_int2 w ts t k k' x y
theorem run_imax {P : Program} (w : World) (ts : Array TypeId) (t : TypeId) (k k' : IntKind) (x y : Int) : (Builtin.max_ ts t #[.int k x, .int k' y]).run P w = .ok (.int k (imax x y)) w := run_max_int2 w ts t k k' x y
theorem imm (most : Int) (n : Nat) : imax 0 (imin most n) = ((min most.toNat n : Nat) : Int) := by unfold imax imin; split <;> split <;> omega
theorem imm2 (n : Int) (m : Nat) : imin (imax 0 n) m = ((min n.toNat m : Nat) : Int) := by unfold imax imin; split <;> split <;> omega

theorem addr_zero (a : Option Addr) : a.map (·.add 0) = a := by
  cases a with
  | none => rfl
  | some a => simp [Addr.add]

/-- 's[:k]'. -/
theorem run_slice_upto {P : Program} {t e : TypeId} {i : TypeInfo} (h : P.underlying t = some (.slice e)) (hi : P.info? e = some i) (a : Option Addr) (len cap k : Nat) (hk : k ≤ cap) (w : World) :
    (Instr.slice t (.slice a len cap) none (some (.int .i64 (k : Int))) none).run P w = .ok (.slice a k cap) w := by
  simp [Instr.slice, Instr.sliceBounds, Instr.sliceBound, run_underlying h, asIntOf, sizeOf, typeInfo, hi, hk, addr_zero]
/-- 's[k:]'. -/
theorem run_slice_from {P : Program} {t e : TypeId} {i : TypeInfo} (h : P.underlying t = some (.slice e)) (hi : P.info? e = some i) (a : Option Addr) (len cap k : Nat) (hk : k ≤ len) (w : World) :
    (Instr.slice t (.slice a len cap) (some (.int .i64 (k : Int))) none none).run P w = .ok (.slice (if cap = k then a else a.map (·.add (k * i.size))) (len - k) (cap - k)) w := by
  simp [Instr.slice, Instr.sliceBounds, Instr.sliceBound, run_underlying h, asIntOf, sizeOf, typeInfo, hi, hk]

set_option maxRecDepth 100000 in
set_option maxHeartbeats 400000 in
theorem short14 (xs : List Int) (hm : xs.length ≤ maxLen) (v : Value) (w : World) (hv : Reads encI w v xs) : Calls Try.prog 14 #[v] w fun e w' => (∃ v', e = .returned v' ∧ Reads encI w v' (xs.take 60)) ∧ w = w' := by
  refine (callsIn_wide (n := 0)).1 ?_
  refine callsIn_of_wp Try.func14 rfl trivial ?_ rfl
  simp only [Try.ntmps14, List.size_toArray, List.length_cons, List.length_nil, Nat.reduceAdd, Nat.reduceSub, Array.replicate_succ, Array.replicate_zero, List.push_toArray, List.append_toArray, List.nil_append, List.cons_append]
  unfold maxLen at hm
  rcases hv with ⟨⟨a, c, rfl⟩, rfl⟩ | ⟨b, off, cap, rfl, h1, h2⟩
  · obtain ⟨i0, hi, hz0, hz1, hz2⟩ := info_parts info3
    have hsl := fun w => run_slice_upto (P := Try.prog) Try.underlying22 hi a 0 c 0 (Nat.zero_le _) w
    simp only [Int.natCast_zero] at hsl
    clear hi hz0 hz1 hz2
    gi_wp2
    go_ret
    exact ⟨⟨_, rfl, .inl ⟨⟨_, _, rfl⟩, rfl⟩⟩, rfl⟩
  · have H2 := Lib.hid h2
    clear h2
    by_cases hl : xs.length ≤ 60
    · gi_wp2
      go_ret
      rw [List.take_of_length_le hl]
      exact ⟨⟨_, rfl, .inr ⟨b, off, cap, rfl, h1, H2.out⟩⟩, rfl⟩
    · gi_wp2
      go_ret
      have e1 : (xs.take 60).length = 60 := by simp; omega
      refine ⟨⟨_, rfl, .inr ⟨b, off, cap, by rw [e1]; rfl, by omega, fun j u hj => H2.out j u ?_⟩⟩, rfl⟩
      rw [List.getElem?_take] at hj
      split at hj
      · exact hj
      · cases hj

theorem Reads.cell {α : Type} {enc : α → Value} {W : World} {v : Value} {xs : List α} (h : Reads enc W v xs) {k : Nat} (hk : k < xs.length) : ∃ b off cap, v = .slice (some ⟨b, off, none⟩) xs.length cap ∧ W.cell? ⟨b, off + k, none⟩ = some (enc xs[k]) := by
  rcases h with ⟨_, rfl⟩ | ⟨b, off, cap, rfl, _, h2⟩
  · simp at hk
  · exact ⟨b, off, cap, rfl, h2 k xs[k] (by simp [hk])⟩
theorem Reads.form {α : Type} {enc : α → Value} {W : World} {v : Value} {xs : List α} (h : Reads enc W v xs) : ∃ a cap, v = .slice a xs.length cap := by
  rcases h with ⟨⟨a, c, rfl⟩, rfl⟩ | ⟨b, off, cap, rfl, _, _⟩
  · exact ⟨_, _, rfl⟩
  · exact ⟨_, _, rfl⟩

set_option maxRecDepth 100000 in
set_option maxHeartbeats 1000000 in
/-- SameInts of two slices that read alike. -/
theorem same15 (xs : List Int) (hlen : xs.length ≤ 100000) (v1 v2 : Value) (w : World) (hv1 : Reads encI w v1 xs) (hv2 : Reads encI w v2 xs) : Calls Try.prog 15 #[v1, v2] w fun e w' => e = .returned (.bool true) ∧ Below w.heap.size w w' := by
  obtain ⟨a1, c1, e1⟩ := hv1.form
  obtain ⟨a2, c2, e2⟩ := hv2.form
  have H1 := Lib.hid hv1
  have H2 := Lib.hid hv2
  clear hv1 hv2
  subst e1 e2
  have hne : ((xs.length : Int) != (xs.length : Int)) = false := by simp
  go_enter Try.func15, Try.ntmps15
  go_wp2
  go_loopw [13] (fun i wr => ∃ (k d : Nat), k ≤ xs.length ∧ i = .int .i64 k ∧ wr = w.drewN d) (fun i _ => xs.length - (intOf i).toNat)
  case atStart => exact ⟨0, 0, Nat.zero_le _, rfl, rfl⟩
  case round =>
    obtain ⟨k, d, hk, rfl, rfl⟩ := hrel
    by_cases hlt : k < xs.length
    · obtain ⟨b1, o1, c1', e1, hc1⟩ := H1.out.cell hlt
      obtain ⟨b2, o2, c2', e2, hc2⟩ := H2.out.cell hlt
      simp only [Value.slice.injEq] at e1 e2
      obtain ⟨rfl, _, rfl⟩ := e1
      obtain ⟨rfl, _, rfl⟩ := e2
      generalize xs[k] = x at *
      have hnx : (x != x) = false := by simp
      go_wp2
      go_quiet (fail)
      go_wp2
      exact ⟨⟨k + 1, d + nq, by omega, by simp, rfl⟩, by simp [intOf]; omega⟩
    · obtain rfl : k = xs.length := by omega
      go_wp2
      go_ret
      exact ⟨rfl, ⟨rfl, rfl, rfl, Nat.le_refl _, fun _ _ => rfl⟩⟩

theorem Reads.cap {α : Type} {enc : α → Value} {W : World} {a : Option Addr} {n c : Nat} {xs : List α} (h : Reads enc W (.slice a n c) xs) : xs.length ≤ c ∧ n = xs.length := by
  rcases h with ⟨⟨a', c', e⟩, rfl⟩ | ⟨b, off, cap, e, h1, _⟩
  · simp at e; simp [e]
  · simp at e; omega
/-- The first k of a slice. -/
theorem Reads.upto {α : Type} {enc : α → Value} {W : World} {a : Option Addr} {n c : Nat} {xs : List α} (h : Reads enc W (.slice a n c) xs) {k : Nat} (hk : k ≤ xs.length) : Reads enc W (.slice a k c) (xs.take k) := by
  rcases h with ⟨⟨a', c', e⟩, rfl⟩ | ⟨b, off, cap, e, h1, h2⟩
  · simp at e hk
    simp [e, hk, Reads]
  · simp at e
    obtain ⟨rfl, rfl, rfl⟩ := e
    refine .inr ⟨b, off, c, by simp [hk], by simp; omega, fun j u hj => h2 j u ?_⟩
    rw [List.getElem?_take] at hj
    split at hj
    · exact hj
    · cases hj
/-- Those behind them. -/
theorem Reads.drop {α : Type} {enc : α → Value} {W : World} {a : Option Addr} {n c : Nat} {xs : List α} (h : Reads enc W (.slice a n c) xs) {k : Nat} (hk : k ≤ xs.length) : Reads enc W (.slice (if c = k then a else a.map (·.add (k * 1))) (n - k) (c - k)) (xs.drop k) := by
  rcases h with ⟨⟨a', c', e⟩, rfl⟩ | ⟨b, off, cap, e, h1, h2⟩
  · simp at e hk
    simp [e, hk, Reads]
  · simp at e
    obtain ⟨rfl, rfl, rfl⟩ := e
    by_cases hc : c = k
    · rw [if_pos hc]
      have h0 : xs.drop k = [] := List.drop_eq_nil_of_le (by omega)
      rw [h0]
      refine .inr ⟨b, off, c - k, by simp; omega, by simp, fun j u hj => by simp at hj⟩
    · rw [if_neg hc]
      refine .inr ⟨b, off + k, c - k, by simp [addr_add], by simp; omega, fun j u hj => ?_⟩
      rw [List.getElem?_drop] at hj
      have := h2 (k + j) u hj
      rwa [← Nat.add_assoc] at this

theorem awake_list : (((nums (9 : Int).toNat).map fun x => wrap64 (2 * x)).take (3 : Int).toNat).take (9 : Int).toNat = [0, 2, 4] := by decide +kernel

set_option maxRecDepth 100000 in
set_option maxHeartbeats 1000000 in
/-- awake answers true. -/
theorem awake19 (w : World) : Calls Try.prog 19 #[] w fun e w' => e = .returned (.bool true) ∧ Below w.heap.size w w' := by
  refine (callsIn_wide (n := 0)).1 ?_
  refine callsIn_of_wp Try.func19 rfl trivial ?_ rfl
  simp only [Try.ntmps19, List.size_toArray, List.length_cons, List.length_nil, Nat.reduceAdd, Nat.reduceSub, Array.replicate_succ, Array.replicate_zero, List.push_toArray, List.append_toArray, List.nil_append, List.cons_append]
  gi_wp2_with (gi_at_call 18; refine ((callsIn_wide (n := 0)).2 (count18 (by decide) w)).mono ?_; rintro e w1 ⟨s1, C1, rfl, hs1, hB1, hC1⟩)
  refine ((callsIn_wide (n := 0)).2 (map_call _ hs1 (twice_pure w1))).mono ?_
  rintro e w2 ⟨s2, C2, rfl, hs2, hB2, hC2⟩
  gi_wp2_with (gi_at_call 25; refine ((callsIn_wide (n := 0)).2 (take_call hs2 (by decide))).mono ?_; rintro e w3 ⟨s3, C3, rfl, hs3, hB3, hC3⟩)
  refine ((callsIn_wide (n := 0)).2 (c16 _ _ _ _ hs3 9 (by decide) (by rw [awake_list]; decide))).mono ?_
  rintro e w4 ⟨v, rfl, hrow, hB4⟩
  rw [awake_list] at hrow
  have hB : Below w.heap.size w w4 := ((hB1.trans (hB2.mono hB1.size)).trans (hB3.mono (Nat.le_trans hB1.size hB2.size))).trans (hB4.mono (Nat.le_trans hB1.size (Nat.le_trans hB2.size hB3.size)))
  have HB := Lib.hid hB
  have hrd := Reads.of_row hrow
  obtain ⟨b, off, cap, rfl, hc⟩ := hrd.cell (k := 2) (by decide)
  simp only [List.length_cons, List.length_nil, List.getElem_cons_succ, List.getElem_cons_zero] at hc
  clear hB hB1 hB2 hB3 hB4 hC1 hC2 hC3 hs1 hs2 hs3 hrow hrd
  gi_wp2
  go_ret
  exact ⟨rfl, HB.out⟩
end Go.Proofs.Ytikomlcghplchaa
