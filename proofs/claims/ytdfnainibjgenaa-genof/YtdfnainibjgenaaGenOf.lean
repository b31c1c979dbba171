/- GenOf answers true: its walk. -/
import Derived.Test.YtdfnainibjgenaaHelps
namespace Go.Proofs.Ytdfnainibjgenaa
open Go.RowKit Go.Shelf
attribute [local go_sem] Oper.semAt_some wide_fn wide_depth
attribute [local go_sem high] run_imin run_imax

set_option maxRecDepth 100000 in
set_option maxHeartbeats 1000000 in
theorem genOf_walk (l : List Int) (hm : l.length ≤ maxLen) (v : Value) (most n : Int) (hmost : (Lit.int .i64 most).wf = true) (hn : (Lit.int .i64 n).wf = true) (w : World) (hv : Reads encI w v l) :
    Calls Try.prog 3 #[v, .int .i64 most, .int .i64 n] w fun e w' => e = .returned (.bool true) ∧ Below w.heap.size w w' := by
  refine (callsIn_wide (n := 0)).1 ?_
  refine callsIn_of_wp Try.func3 rfl trivial ?_ rfl
  simp only [Try.ntmps3, List.size_toArray, List.length_cons, List.length_nil, Nat.reduceAdd, Nat.reduceSub, Array.replicate_succ, Array.replicate_zero, List.push_toArray, List.append_toArray, List.nil_append, List.cons_append]
  obtain ⟨a0, c0, e0⟩ := hv.form
  have Hv := Lib.hid hv
  have Hm := Lib.hid hmost
  have Hn := Lib.hid hn
  clear hv hmost hn
  subst e0
  gi_wp2_with fail
  refine ((callsIn_wide (n := 0)).2 (short14 l hm _ w Hv.out)).mono ?_
  rintro e w' ⟨⟨v1, rfl, hv1⟩, rfl⟩
  obtain ⟨xs, hxs⟩ : ∃ xs, l.take 60 = xs := ⟨_, rfl⟩
  rw [hxs] at hv1
  have hlen : xs.length ≤ 60 := by rw [← hxs]; simp; omega
  clear hxs
  obtain ⟨a1, c1, e1⟩ := hv1.form
  have Hv1 := Lib.hid hv1
  clear hv1 hm Hv
  subst e1
  have hmx : Try.prog.follows .mixedOrders = true := by kernel_rfl
  obtain ⟨k, hk⟩ : ∃ k : Nat, k = min most.toNat xs.length := ⟨_, rfl⟩
  have hkl : k ≤ xs.length := by omega
  have himm : imax 0 (imin most (xs.length : Int)) = (k : Int) := by rw [imm, hk]
  obtain ⟨i0, hi, hz0, hz1, hz2⟩ := info_parts info3
  have hcap := Hv1.out.cap.1
  have hsl := fun w => run_slice_upto (P := Try.prog) Try.underlying22 hi a1 xs.length c1 k (by omega) w
  have HT : Hid (xs.take most.toNat = xs.take k) := by show xs.take most.toNat = xs.take k; rw [hk, ← List.take_eq_take_min]
  have Hl2 : Hid ((xs.take most.toNat).length ≤ 100000) := by show (xs.take most.toNat).length ≤ 100000; rw [HT.out]; simp; omega
  clear hi hz0 hz1 hz2 hk
  gi_wp2
  gi_region_with_o (first
    | (gi_at_call 17; refine ((callsIn_wide (n := 0)).2 (of17 xs (by omega) _ _ Hv1.out.drew)).mono ?_; rintro e w1 ⟨s1, C1, rfl, hs1, hB1, hC1⟩)
    | (gi_at_call 16; refine ((callsIn_wide (n := 0)).2 (c16 _ _ _ _ hs1 _ Hm.out Hl2.out)).mono ?_; rintro e w2 ⟨v2, rfl, hrow2, hB2⟩; have hrd2 := Reads.of_row hrow2; rw [HT.out] at hrd2)
    | (gi_at_call 15; refine ((callsIn_wide (n := 0)).2 (same15 (xs.take k) (by simp; omega) _ _ _ hrd2 ((Hv1.out.drew.upto hkl).below (hB1.trans (hB2.mono hB1.size))))).mono ?_; rintro e w3 ⟨rfl, hB3⟩))
  have hB' : Below w.heap.size w w3 := (((Below.refl w.heap.size w).drew.trans hB1).trans (hB2.mono hB1.size)).trans (hB3.mono (Nat.le_trans hB1.size hB2.size))
  have HB := Lib.hid hB'
  clear hB' hB1 hB2 hB3 hC1 hs1 hrd2 hrow2 hsl himm HT Hl2 Hv1 hcap Hm hmx
  gi_wp2_with fail
  refine ((callsIn_wide (n := 0)).2 (count18 Hn.out w3)).mono ?_
  rintro e w4 ⟨s4, C4, rfl, hs4, hB4, _⟩
  gi_wp2_with fail
  refine ((callsIn_wide (n := 0)).2 (c16 _ _ _ _ hs4 50 (by decide) (by simp; omega))).mono ?_
  rintro e w5 ⟨v5, rfl, hrow5, hB5⟩
  obtain ⟨m, hm⟩ : ∃ m : Nat, m = min n.toNat 50 := ⟨_, rfl⟩
  have hm50 : m ≤ 50 := by omega
  have himm : imin (imax 0 n) 50 = (m : Int) := by have := imm2 n 50; rw [hm]; exact this
  have hys : (nums n.toNat).take (50 : Int).toNat = nums m := by
    rw [hm]
    show (nums n.toNat).take 50 = _
    rw [List.take_eq_take_min, nums_length, nums_take _ _ (by omega), Nat.min_comm]
  rw [hys] at hrow5
  have hrd := Reads.of_row hrow5
  obtain ⟨a5, c5, e5⟩ := hrd.form
  rw [nums_length] at e5
  have hB' : Below w.heap.size w w5 := (HB.out.trans (hB4.mono HB.out.size)).trans (hB5.mono (Nat.le_trans HB.out.size hB4.size))
  have HB5 := Lib.hid hB'
  have Hrd := Lib.hid hrd
  clear hB' hB4 hB5 hs4 hrow5 hrd hys hm HB Hn
  subst e5
  have hne : ((m : Int) != (m : Int)) = false := by simp
  gi_wp2
  gi_loop [38] (fun i => ∃ j : Nat, j ≤ m ∧ i = .int .i64 j) (fun i => m - (intOf i).toNat)
  case atStart => exact ⟨0, Nat.zero_le _, rfl⟩
  case round =>
    obtain ⟨j, hj, rfl⟩ := hrel
    by_cases hlt : j < m
    · obtain ⟨b, off, cap, e1, hc⟩ := Hrd.out.cell (k := j) (by rw [nums_length]; exact hlt)
      simp only [Value.slice.injEq] at e1
      obtain ⟨rfl, e1', rfl⟩ := e1
      clear e1'
      have hget : (nums m)[j]'(by rw [nums_length]; exact hlt) = (j : Int) := by simp [nums]
      rw [hget] at hc
      clear hget
      have hnx : ((j : Int) != (j : Int)) = false := by simp
      gi_wp2
      go_round
      case rel => exact ⟨j + 1, by omega, by simp⟩
      case measure => simp [intOf]; omega
    · obtain rfl : j = m := by omega
      gi_wp2_with fail
      refine ((callsIn_wide (n := 0)).2 (awake19 w5)).mono ?_
      rintro e w6 ⟨rfl, hB6⟩
      gi_wp2
      go_ret
      exact ⟨rfl, HB5.out.trans (hB6.mono HB5.out.size)⟩
end Go.Proofs.Ytdfnainibjgenaa
