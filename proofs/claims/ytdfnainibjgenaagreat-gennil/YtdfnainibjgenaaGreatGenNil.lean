/- GenNil. -/
import Derived.Test.YtdfnainibjgenaaGreatNils
namespace Go.Proofs.YtdfnainibjgenaaGreat
open Go.RowKit Go.Shelf
set_option linter.unusedVariables false
set_option linter.unusedSimpArgs false
attribute [local go_sem] Oper.semAt_some wide_fn wide_depth

set_option maxRecDepth 100000 in
set_option maxHeartbeats 4000000 in
theorem genNil_walk (xs : List Int) (hm : xs.length ≤ maxLen) (v k : Value) (w : World) (hv : Reads encI w v xs) : Calls Tryz.prog 3 #[v, k] w fun e w' => e = .returned (.bool true) ∧ Below w.heap.size w w' := by
  refine (callsIn_wide (n := 0)).1 ?_
  refine callsIn_of_wp Tryz.func3 rfl trivial ?_ rfl
  simp only [Tryz.ntmps3, List.size_toArray, List.length_cons, List.length_nil, Nat.reduceAdd, Nat.reduceSub, Array.replicate_succ, Array.replicate_zero, List.push_toArray, List.append_toArray, List.nil_append, List.cons_append]
  obtain ⟨a0, c0, hvf⟩ := hv.form
  have Hv0 := Lib.hid hv
  have Hm := Lib.hid hm
  clear hv hm
  subst hvf
  gi_wp2_with fail
  refine ((callsIn_wide (n := 0)).2 (short4 xs Hm.out _ w Hv0.out)).mono ?_
  rintro e w' ⟨⟨v, rfl, hv⟩, rfl⟩
  have hlen : (xs.take 60).length ≤ 100000 := by simp; omega
  generalize xs.take 60 = ys at *
  obtain ⟨a1, c1, hvf⟩ := hv.form
  have Hv := Lib.hid hv
  have Hl := Lib.hid hlen
  clear hv hlen Hv0 Hm
  subst hvf
  have B0 := Lib.hid (Below.refl w.heap.size w)
  gi_wp2_with fail
  refine ((callsIn_wide (n := 0)).2 (n5 k w)).mono ?_
  rintro e w' ⟨rfl, rfl⟩
  gi_wp2_with fail
  refine ((callsIn_wide (n := 0)).2 (n6 k w)).mono ?_
  rintro e w' ⟨⟨u, rfl⟩, rfl⟩
  gi_wp2_with fail
  refine ((callsIn_wide (n := 0)).2 (n7 k w)).mono ?_
  rintro e w' ⟨rfl, rfl⟩
  gi_wp2_with fail
  refine ((callsIn_wide (n := 0)).2 (n8 k w)).mono ?_
  rintro e w' ⟨rfl, rfl⟩
  gi_wp2_with fail
  refine ((callsIn_wide (n := 0)).2 (n9 k w)).mono ?_
  rintro e w' ⟨rfl, rfl⟩
  gi_wp2_with fail
  refine ((callsIn_wide (n := 0)).2 (n10 w)).mono ?_
  rintro e w' ⟨rfl, rfl⟩
  gi_wp2_with fail
  refine ((callsIn_wide (n := 0)).2 (n12 w)).mono ?_
  rintro e w1 ⟨t1, C1, rfl, ht1, hB, hC⟩
  have B1 := Lib.hid (B0.out.trans (hB.mono B0.out.size))
  clear hB B0
  obtain ⟨g1, l1, rfl⟩ := ht1.func
  have Ht1 := Lib.hid ht1
  clear ht1 hC
  gi_wp2_with fail
  refine ((callsIn_wide (n := 0)).2 (c11 _ _ _ Ht1.out)).mono ?_
  rintro e w2 ⟨rfl, hB⟩
  have B2 := Lib.hid (B1.out.trans (hB.mono B1.out.size))
  clear hB B1
  clear Ht1
  gi_wp2_with fail
  refine ((callsIn_wide (n := 0)).2 (n13 k w2)).mono ?_
  rintro e w' ⟨rfl, rfl⟩
  gi_wp2_with fail
  refine ((callsIn_wide (n := 0)).2 (n14 w2)).mono ?_
  rintro e w' ⟨rfl, rfl⟩
  gi_wp2_with fail
  refine ((callsIn_wide (n := 0)).2 (n15 w2)).mono ?_
  rintro e w3 ⟨t3, C3, rfl, ht3, hB, hC⟩
  have B3 := Lib.hid (B2.out.trans (hB.mono B2.out.size))
  clear hB B2
  obtain ⟨g3, l3, rfl⟩ := ht3.func
  have Ht3 := Lib.hid ht3
  clear ht3 hC
  gi_wp2_with fail
  refine ((callsIn_wide (n := 0)).2 (c11 _ _ _ Ht3.out)).mono ?_
  rintro e w4 ⟨rfl, hB⟩
  have B4 := Lib.hid (B3.out.trans (hB.mono B3.out.size))
  clear hB B3
  clear Ht3
  gi_wp2_with fail
  refine ((callsIn_wide (n := 0)).2 (of17 ys Hl.out _ w4 (Hv.out.below B4.out))).mono ?_
  rintro e w5 ⟨t5, C5, rfl, ht5, hB, hC⟩
  have B5 := Lib.hid (B4.out.trans (hB.mono B4.out.size))
  clear hB B4
  obtain ⟨g5, l5, rfl⟩ := ht5.func
  have Ht5 := Lib.hid ht5
  clear ht5 hC
  gi_wp2_with fail
  refine ((callsIn_wide (n := 0)).2 (nil16 _ ⟨_, _, rfl⟩ w5)).mono ?_
  rintro e w6 ⟨rfl, hB⟩
  have B6 := Lib.hid (B5.out.trans (hB.mono B5.out.size))
  clear hB B5
  clear Ht5
  gi_wp2_with fail
  refine ((callsIn_wide (n := 0)).2 (of17 ys Hl.out _ w6 (Hv.out.below B6.out))).mono ?_
  rintro e w7 ⟨t7, C7, rfl, ht7, hB, hC⟩
  have B7 := Lib.hid (B6.out.trans (hB.mono B6.out.size))
  clear hB B6
  obtain ⟨g7, l7, rfl⟩ := ht7.func
  have Ht7 := Lib.hid ht7
  clear ht7 hC
  gi_wp2_with fail
  refine ((callsIn_wide (n := 0)).2 (nil19 _ ⟨_, _, rfl⟩ w7)).mono ?_
  rintro e w8 ⟨t8, C8, rfl, ht8, hB, hC⟩
  have B8 := Lib.hid (B7.out.trans (hB.mono B7.out.size))
  clear hB B7
  obtain ⟨g8, l8, rfl⟩ := ht8.func
  have Ht8 := Lib.hid ht8
  clear ht8 hC
  gi_wp2_with fail
  refine ((callsIn_wide (n := 0)).2 (c18 [] _ _ _ Ht8.out 9 (by decide) (by decide))).mono ?_
  rintro e w9 ⟨v9, rfl, hrow, hB⟩
  have B9 := Lib.hid (B8.out.trans (hB.mono B8.out.size))
  clear hB B8
  obtain ⟨x9, y9, hvf⟩ := (Reads.of_row (enc := encI) (xs := []) hrow).form
  clear hrow
  subst hvf
  clear Ht7 Ht8
  gi_wp2_with fail
  refine ((callsIn_wide (n := 0)).2 (of17 ys Hl.out _ w9 (Hv.out.below B9.out))).mono ?_
  rintro e w10 ⟨t10, C10, rfl, ht10, hB, hC⟩
  have B10 := Lib.hid (B9.out.trans (hB.mono B9.out.size))
  clear hB B9
  obtain ⟨g10, l10, rfl⟩ := ht10.func
  have Ht10 := Lib.hid ht10
  clear ht10 hC
  gi_wp2_with fail
  refine ((callsIn_wide (n := 0)).2 (nil20 _ ⟨_, _, rfl⟩ w10)).mono ?_
  rintro e w11 ⟨t11, C11, rfl, ht11, hB, hC⟩
  have B11 := Lib.hid (B10.out.trans (hB.mono B10.out.size))
  clear hB B10
  obtain ⟨g11, l11, rfl⟩ := ht11.func
  have Ht11 := Lib.hid ht11
  clear ht11 hC
  gi_wp2_with fail
  refine ((callsIn_wide (n := 0)).2 (c18 [] _ _ _ Ht11.out 9 (by decide) (by decide))).mono ?_
  rintro e w12 ⟨v12, rfl, hrow, hB⟩
  have B12 := Lib.hid (B11.out.trans (hB.mono B11.out.size))
  clear hB B11
  obtain ⟨x12, y12, hvf⟩ := (Reads.of_row (enc := encI) (xs := []) hrow).form
  clear hrow
  subst hvf
  clear Ht10 Ht11
  gi_wp2_with fail
  refine ((callsIn_wide (n := 0)).2 (takeE21 .nilFunc _ w12 (.inr ⟨rfl, rfl⟩) 3 (by decide))).mono ?_
  rintro e w13 ⟨t13, C13, rfl, ht13, hB, hC⟩
  have B13 := Lib.hid (B12.out.trans (hB.mono B12.out.size))
  clear hB B12
  obtain ⟨g13, l13, rfl⟩ := ht13.func
  have Ht13 := Lib.hid ht13
  clear ht13 hC
  gi_wp2_with fail
  refine ((callsIn_wide (n := 0)).2 (c18 [] _ _ _ (Ht13.out.empty encI) 9 (by decide) (by decide))).mono ?_
  rintro e w14 ⟨v14, rfl, hrow, hB⟩
  have B14 := Lib.hid (B13.out.trans (hB.mono B13.out.size))
  clear hB B13
  obtain ⟨x14, y14, hvf⟩ := (Reads.of_row (enc := encI) (xs := []) hrow).form
  clear hrow
  subst hvf
  clear Ht13
  gi_wp2_with fail
  refine ((callsIn_wide (n := 0)).2 (nil18 w14)).mono ?_
  rintro e w15 ⟨v15, rfl, hrow, hB⟩
  have B15 := Lib.hid (B14.out.trans (hB.mono B14.out.size))
  clear hB B14
  obtain ⟨x15, y15, hvf⟩ := (Reads.of_row (enc := encI) (xs := []) hrow).form
  clear hrow
  subst hvf
  gi_wp2_with fail
  refine ((callsIn_wide (n := 0)).2 (of17 ys Hl.out _ w15 (Hv.out.below B15.out))).mono ?_
  rintro e w16 ⟨t16, C16, rfl, ht16, hB, hC⟩
  have B16 := Lib.hid (B15.out.trans (hB.mono B15.out.size))
  clear hB B15
  obtain ⟨g16, l16, rfl⟩ := ht16.func
  have Ht16 := Lib.hid ht16
  clear ht16 hC
  gi_wp2_with fail
  refine ((callsIn_wide (n := 0)).2 (nil22 _ ⟨_, _, rfl⟩ w16)).mono ?_
  rintro e w17 ⟨rfl, hB⟩
  have B17 := Lib.hid (B16.out.trans (hB.mono B16.out.size))
  clear hB B16
  clear Ht16
  gi_wp2_with fail
  refine ((callsIn_wide (n := 0)).2 (awake23 w17)).mono ?_
  rintro e w18 ⟨rfl, hB⟩
  have B18 := Lib.hid (B17.out.trans (hB.mono B17.out.size))
  clear hB B17
  gi_wp2
  go_ret
  exact ⟨rfl, B18.out⟩
end Go.Proofs.YtdfnainibjgenaaGreat
