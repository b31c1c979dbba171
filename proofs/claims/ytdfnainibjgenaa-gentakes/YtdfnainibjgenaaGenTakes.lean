/- GenTakes answers true: its walk. -/
import Derived.Test.YtdfnainibjgenaaDrop
namespace Go.Proofs.Ytdfnainibjgenaa
open Go.RowKit Go.Shelf
set_option linter.unusedVariables false
set_option linter.unusedSimpArgs false
attribute [local go_sem] Oper.semAt_some wide_fn wide_depth
attribute [local go_sem high] run_imin run_imax

set_option maxRecDepth 100000 in
set_option maxHeartbeats 4000000 in
theorem genTakes_walk (l : List Int) (hm : l.length ≤ maxLen) (v : Value) (n : Int) (hn : (Lit.int .i64 n).wf = true) (w : World) (hv : Reads encI w v l) :
    Calls Try.prog 5 #[v, .int .i64 n] w fun e w' => e = .returned (.bool true) ∧ Below w.heap.size w w' := by
  refine (callsIn_wide (n := 0)).1 ?_
  refine callsIn_of_wp Try.func5 rfl trivial ?_ rfl
  simp only [Try.ntmps5, List.size_toArray, List.length_cons, List.length_nil, Nat.reduceAdd, Nat.reduceSub, Array.replicate_succ, Array.replicate_zero, List.push_toArray, List.append_toArray, List.nil_append, List.cons_append]
  obtain ⟨a0, c0, e0⟩ := hv.form
  have Hv := Lib.hid hv
  have Hn := Lib.hid hn
  clear hv hn
  subst e0
  gi_wp2_with fail
  refine ((callsIn_wide (n := 0)).2 (short14 l hm _ w Hv.out)).mono ?_
  rintro e w' ⟨⟨v1, rfl, hv1⟩, rfl⟩
  obtain ⟨xs, hxs⟩ : ∃ xs, l.take 60 = xs := ⟨_, rfl⟩
  rw [hxs] at hv1
  have hlen : xs.length ≤ 60 := by rw [← hxs]; simp; omega
  clear hxs
  obtain ⟨a1, c1, e1⟩ := hv1.form
  have Hv1 := Lib.hid hv1
  clear hv1 hm Hv
  subst e1
  have hmx : Try.prog.follows .mixedOrders = true := by kernel_rfl
  obtain ⟨k, hk⟩ : ∃ k : Nat, k = min n.toNat xs.length := ⟨_, rfl⟩
  have hkl : k ≤ xs.length := by omega
  have himm : imax 0 (imin n (xs.length : Int)) = (k : Int) := by rw [imm, hk]
  obtain ⟨i0, hi, hz0, hz1, hz2⟩ := info_parts info3
  have hcap := Hv1.out.cap.1
  have hsl := fun w => run_slice_upto (P := Try.prog) Try.underlying22 hi a1 xs.length c1 k (by omega) w
  have hsl2 := fun w => run_slice_from (P := Try.prog) Try.underlying22 hi a1 xs.length c1 k (by omega) w
  have hrd2 := Hv1.out.drop hkl
  rw [hz1] at hsl2
  obtain ⟨a2, ha2⟩ : ∃ a2, (if c1 = k then a1 else a1.map (·.add (k * 1))) = a2 := ⟨_, rfl⟩
  rw [ha2] at hsl2 hrd2
  have Hrd2 := Lib.hid hrd2
  have HT : Hid ((xs.take n.toNat).take (99 : Int).toNat = xs.take k) := by
    show (xs.take n.toNat).take 99 = xs.take k
    rw [List.take_of_length_le (by simp; omega), hk, ← List.take_eq_take_min]
  have HD : Hid ((xs.drop n.toNat).take (99 : Int).toNat = xs.drop k) := by
    show (xs.drop n.toNat).take 99 = xs.drop k
    rw [List.take_of_length_le (by simp; omega), hk]
    by_cases h : n.toNat ≤ xs.length
    · rw [Nat.min_eq_left h]
    · rw [Nat.min_eq_right (by omega), List.drop_eq_nil_of_le (by omega), List.drop_eq_nil_of_le (Nat.le_refl _)]
  have Hl1 : Hid (((xs.take n.toNat).take (99 : Int).toNat).length ≤ 100000) := by show ((xs.take n.toNat).take (99 : Int).toNat).length ≤ 100000; rw [HT.out]; simp; omega
  have Hl2 : Hid (((xs.drop n.toNat).take (99 : Int).toNat).length ≤ 100000) := by show ((xs.drop n.toNat).take (99 : Int).toNat).length ≤ 100000; rw [HD.out]; simp; omega
  clear hi hz0 hz1 hz2 hk ha2 hrd2
  gi_wp2
  gi_region_with_o (first
    | (gi_at_call 17; refine ((callsIn_wide (n := 0)).2 (of17 xs (by omega) _ _ (Hv1.out.drew.below hb4))).mono ?_; rintro e w5 ⟨s5, C5, rfl, hs5, hB5, _⟩; have hb5 := hb4.trans (hB5.mono hb4.size))
    | (gi_at_call 17; refine ((callsIn_wide (n := 0)).2 (of17 xs (by omega) _ _ Hv1.out.drew)).mono ?_; rintro e w1 ⟨s1, C1, rfl, hs1, hb1, _⟩)
    | (gi_at_call 25; refine ((callsIn_wide (n := 0)).2 (take_call hs1 Hn.out)).mono ?_; rintro e w2 ⟨s2, C2, rfl, hs2, hB2, _⟩; have hb2 := hb1.trans (hB2.mono hb1.size))
    | (gi_at_call 26; refine ((callsIn_wide (n := 0)).2 (drop_call hs5 Hn.out)).mono ?_; rintro e w6 ⟨s6, C6, rfl, hs6, hB6, _⟩; have hb6 := hb5.trans (hB6.mono hb5.size))
    | (gi_at_call 16; refine ((callsIn_wide (n := 0)).2 (c16 _ _ _ _ hs6 _ (by decide) Hl2.out)).mono ?_; rintro e w7 ⟨v7, rfl, hrow7, hB7⟩; have hb7 := hb6.trans (hB7.mono hb6.size); have hrd7 := Reads.of_row hrow7; rw [HD.out] at hrd7)
    | (gi_at_call 16; refine ((callsIn_wide (n := 0)).2 (c16 _ _ _ _ hs2 _ (by decide) Hl1.out)).mono ?_; rintro e w3 ⟨v3, rfl, hrow3, hB3⟩; have hb3 := hb2.trans (hB3.mono hb2.size); have hrd3 := Reads.of_row hrow3; rw [HT.out] at hrd3)
    | (gi_at_call 15; refine ((callsIn_wide (n := 0)).2 (same15 (xs.drop k) (by simp; omega) _ _ _ hrd7 (Hrd2.out.drew.below hb7))).mono ?_; rintro e w8 ⟨rfl, hB8⟩; have hb8 := hb7.trans (hB8.mono hb7.size))
    | (gi_at_call 15; refine ((callsIn_wide (n := 0)).2 (same15 (xs.take k) (by simp; omega) _ _ _ hrd3 ((Hv1.out.drew.upto hkl).below hb3))).mono ?_; rintro e w4 ⟨rfl, hB4⟩; have hb4 := hb3.trans (hB4.mono hb3.size))
    | (gi_at_call 19; refine ((callsIn_wide (n := 0)).2 (awake19 _)).mono ?_; rintro e w9 ⟨rfl, hB9⟩; have hb9 := hb8.trans (hB9.mono hb8.size)))
  gi_wp2
  go_ret
  exact ⟨rfl, (Below.refl w.heap.size w).drew.trans hb9⟩
end Go.Proofs.Ytdfnainibjgenaa
