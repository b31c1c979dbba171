/- GenTwice answers true: its walk. -/
import Derived.Test.YtdfnainibjgenaaDrop
import Derived.Laws.EntriesVeiled
namespace Go.Proofs.Ytdfnainibjgenaa
open Go.RowKit Go.Shelf
set_option linter.unusedVariables false
set_option linter.unusedSimpArgs false
attribute [local go_sem] Oper.semAt_some wide_fn wide_depth

def xorN (n x : Int) : Int := bits .xor .i64 x n
def lowB (n x : Int) : Bool := decide (x < n)

set_option maxRecDepth 100000 in
set_option maxHeartbeats 400000 in
theorem t53 (x n : Int) (b : Nat) (w : World) (hb : Boxed w b 3 (.int .i64 n)) : Calls Try.prog 53 #[.int .i64 x, .pointer (some ⟨b, 0, none⟩)] w fun e w' => e = .returned (.int .i64 (xorN n x)) ∧ w = w' := by
  have hc := hb.cell
  refine (callsIn_wide (n := 0)).1 ?_
  refine callsIn_of_wp Try.func53 rfl trivial ?_ rfl
  simp only [Try.ntmps53, List.size_toArray, List.length_cons, List.length_nil, Nat.reduceAdd, Nat.reduceSub, Array.replicate_succ, Array.replicate_zero, List.push_toArray, List.append_toArray, List.nil_append, List.cons_append]
  gi_wp2
  go_ret
  exact ⟨rfl, rfl⟩
theorem p53 {n : Int} {b : Nat} {w : World} (hb : Boxed w b 3 (.int .i64 n)) : PureF Try.prog (.func (.func 53) #[] #[.pointer (some ⟨b, 0, none⟩)]) (fun k => k = b) encI encI (xorN n) w :=
  ⟨fun k hk => hk ▸ hb.lt, ⟨_, _, rfl⟩, fun x W hW => .inl ⟨53, _, rfl, enters_of Try.func53 (by kernel_rfl) rfl, Calls.mono (t53 x n b W ((hW b rfl).trans hb)) fun e w' ⟨he, hw⟩ => ⟨he, hw ▸ Below.refl _ _⟩⟩⟩

set_option maxRecDepth 100000 in
set_option maxHeartbeats 400000 in
theorem t54 (x n : Int) (b : Nat) (w : World) (hb : Boxed w b 3 (.int .i64 n)) : Calls Try.prog 54 #[.int .i64 x, .pointer (some ⟨b, 0, none⟩)] w fun e w' => e = .returned (.bool (lowB n x)) ∧ w = w' := by
  have hc := hb.cell
  refine (callsIn_wide (n := 0)).1 ?_
  refine callsIn_of_wp Try.func54 rfl trivial ?_ rfl
  simp only [Try.ntmps54, List.size_toArray, List.length_cons, List.length_nil, Nat.reduceAdd, Nat.reduceSub, Array.replicate_succ, Array.replicate_zero, List.push_toArray, List.append_toArray, List.nil_append, List.cons_append]
  gi_wp2
  go_ret
  exact ⟨rfl, rfl⟩
theorem p54 {n : Int} {b : Nat} {w : World} (hb : Boxed w b 3 (.int .i64 n)) : PureF Try.prog (.func (.func 54) #[] #[.pointer (some ⟨b, 0, none⟩)]) (fun k => k = b) encI Value.bool (lowB n) w :=
  ⟨fun k hk => hk ▸ hb.lt, ⟨_, _, rfl⟩, fun x W hW => .inl ⟨54, _, rfl, enters_of Try.func54 (by kernel_rfl) rfl, Calls.mono (t54 x n b W ((hW b rfl).trans hb)) fun e w' ⟨he, hw⟩ => ⟨he, hw ▸ Below.refl _ _⟩⟩⟩

set_option maxRecDepth 100000 in
set_option maxHeartbeats 400000 in
theorem t55 (x n : Int) (b bf : Nat) (w : World) (hb : Boxed w b 3 (.int .i64 n)) (hf : Boxed w bf 33 (.func (.func 53) #[] #[.pointer (some ⟨b, 0, none⟩)])) : Calls Try.prog 55 #[.int .i64 x, .pointer (some ⟨bf, 0, none⟩)] w fun e w' => e = .returned (.int .i64 (wrap64 (2 * xorN n x))) ∧ w = w' := by
  have hc := hf.cell
  refine (callsIn_wide (n := 0)).1 ?_
  refine callsIn_of_wp Try.func55 rfl trivial ?_ rfl
  simp only [Try.ntmps55, List.size_toArray, List.length_cons, List.length_nil, Nat.reduceAdd, Nat.reduceSub, Array.replicate_succ, Array.replicate_zero, List.push_toArray, List.append_toArray, List.nil_append, List.cons_append]
  gi_wp2_with (first | (gi_at_call 53; refine ((callsIn_wide (n := 0)).2 (t53 x n b w hb)).mono ?_; rintro e w1 ⟨rfl, rfl⟩) | (gi_at_call 47; refine ((callsIn_wide (n := 0)).2 (twice47 _ _)).mono ?_; rintro e w1 ⟨rfl, rfl⟩))
  go_ret
  exact ⟨rfl, rfl⟩
theorem p55 {n : Int} {b bf : Nat} {w : World} (hb : Boxed w b 3 (.int .i64 n)) (hf : Boxed w bf 33 (.func (.func 53) #[] #[.pointer (some ⟨b, 0, none⟩)])) : PureF Try.prog (.func (.func 55) #[] #[.pointer (some ⟨bf, 0, none⟩)]) (fun k => k = b ∨ k = bf) encI encI (fun x => wrap64 (2 * xorN n x)) w :=
  ⟨fun k hk => hk.elim (fun e => e ▸ hb.lt) (fun e => e ▸ hf.lt), ⟨_, _, rfl⟩, fun x W hW => .inl ⟨55, _, rfl, enters_of Try.func55 (by kernel_rfl) rfl, Calls.mono (t55 x n b bf W ((hW b (.inl rfl)).trans hb) ((hW bf (.inr rfl)).trans hf)) fun e w' ⟨he, hw⟩ => ⟨he, hw ▸ Below.refl _ _⟩⟩⟩

set_option maxRecDepth 100000 in
set_option maxHeartbeats 4000000 in
theorem genTwice_walk (l : List Int) (hm : l.length ≤ maxLen) (v : Value) (n : Int) (w : World) (hv : Reads encI w v l) :
    Calls Try.prog 12 #[v, .int .i64 n] w fun e w' => e = .returned (.bool true) ∧ Below w.heap.size w w' := by
  refine (callsIn_wide (n := 0)).1 ?_
  refine callsIn_of_wp Try.func12 rfl trivial ?_ rfl
  simp only [Try.ntmps12, List.size_toArray, List.length_cons, List.length_nil, Nat.reduceAdd, Nat.reduceSub, Array.replicate_succ, Array.replicate_zero, List.push_toArray, List.append_toArray, List.nil_append, List.cons_append]
  obtain ⟨a0, c0, e0⟩ := hv.form
  have Hv := Lib.hid hv
  clear hv
  subst e0
  gi_wp2_with fail
  have hB0 : Below w.heap.size w (w.alloc (.cells #[.int .i64 n] 3)) := (Below.refl _ w).alloc (Nat.le_refl _) _
  refine ((callsIn_wide (n := 0)).2 (short14 l hm _ _ (Hv.out.below hB0))).mono ?_
  rintro e w' ⟨⟨v1, rfl, hv1⟩, rfl⟩
  obtain ⟨xs, hxs⟩ : ∃ xs, l.take 60 = xs := ⟨_, rfl⟩
  rw [hxs] at hv1
  have hlen : xs.length ≤ 60 := by rw [← hxs]; simp; omega
  clear hxs
  obtain ⟨a1, c1, e1⟩ := hv1.form
  have Hv1 := Lib.hid hv1
  clear hv1 hm Hv
  subst e1
  have hmx : Try.prog.follows .mixedOrders = true := by kernel_rfl
  gi_wp2
  obtain ⟨W2, hW2⟩ : ∃ W2, (w.alloc (Obj.cells #[Value.int IntKind.i64 n] 3)).alloc (Obj.cells #[Value.func (Fn.func 53) #[] #[Value.pointer (some { block := w.heap.size, off := 0 })]] 33) = W2 := ⟨_, rfl⟩
  have bN : Boxed W2 w.heap.size 3 (.int .i64 n) := by rw [← hW2]; exact (Boxed.new w 3 _).alloc _
  have bF : Boxed W2 (w.heap.size + 1) 33 (.func (.func 53) #[] #[.pointer (some ⟨w.heap.size, 0, none⟩)]) := by rw [← hW2]; have := Boxed.new (w.alloc (.cells #[.int .i64 n] 3)) 33 (.func (.func 53) #[] #[.pointer (some ⟨w.heap.size, 0, none⟩)]); rwa [World.size_alloc] at this
  have hBw : Below w.heap.size w W2 := by rw [← hW2]; exact ((Below.refl _ w).alloc (Nat.le_refl _) _).alloc (by simp) _
  have hv2 : Reads encI W2 (.slice a1 xs.length c1) xs := by rw [← hW2]; exact Hv1.out.below ((Below.refl _ _).alloc (Nat.le_refl _) _)
  have Hv2 := Lib.hid hv2
  have HBw := Lib.hid hBw
  rw [hW2]
  clear hW2 hB0 Hv1 hv2 hBw
  have hcF := bF.cell
  have hlF := bF.lt
  have hlN := bN.lt
  have HL : ∀ ys : List Int, ys.length ≤ 60 → Hid ((ys.take (99 : Int).toNat).length ≤ 100000 ∧ ys.take (99 : Int).toNat = ys) := fun ys h => by
    show (ys.take 99).length ≤ 100000 ∧ ys.take 99 = ys
    rw [List.take_of_length_le (by omega)]; exact ⟨by omega, rfl⟩
  have HLa := HL ((xs.map (xorN n)).map fun x => wrap64 (2 * x)) (by simp; omega)
  have HLb := HL (xs.map fun x => wrap64 (2 * xorN n x)) (by simp; omega)
  have HLc := HL ((xs.filter oddB).filter (lowB n)) (Nat.le_trans (List.length_filter_le _ _) (Nat.le_trans (List.length_filter_le _ _) hlen))
  have HLd := HL ((xs.filter (lowB n)).filter oddB) (Nat.le_trans (List.length_filter_le _ _) (Nat.le_trans (List.length_filter_le _ _) hlen))
  clear HL
  gi_region_with_o (first
    | (gi_at_call 16; refine ((callsIn_wide (n := 0)).2 (c16 _ _ _ _ hs3 _ (by decide) HLa.out.1)).mono ?_; rintro e w4 ⟨v4, rfl, hrow4, hB4⟩; have hb4 := hb3.trans (hB4.mono hb3.size); have hrd4 := Reads.of_row hrow4; rw [HLa.out.2] at hrd4)
    | (gi_at_call 23; refine ((callsIn_wide (n := 0)).2 (map_call (fun x => wrap64 (2 * x)) hs2 (twice_pure w2))).mono ?_; rintro e w3 ⟨s3, C3, rfl, hs3, hB3, _⟩; have hb3 := hb2.trans (hB3.mono hb2.size))
    | (gi_at_call 23; refine ((callsIn_wide (n := 0)).2 (map_call (xorN n) hs1 (p53 bN1))).mono ?_; rintro e w2 ⟨s2, C2, rfl, hs2, hB2, _⟩; have hb2 := hb1.trans (hB2.mono hb1.size))
    | (gi_at_call 17; refine ((callsIn_wide (n := 0)).2 (of17 xs (by omega) _ _ Hv2.out.drew)).mono ?_; rintro e w1 ⟨s1, C1, rfl, hs1, hb1, _⟩; have bN1 : Boxed w1 w.heap.size 3 (.int .i64 n) := (hb1.block w.heap.size hlN).trans bN; have hc1 := (hb1.cell (p := ⟨w.heap.size + 1, 0, none⟩) hlF).trans hcF))
  all_goals
    have hbA : Below W2.heap.size W2 w4 := (Below.refl W2.heap.size W2).drew.trans hb4
    have HA := Lib.hid hrd4
    have hgo : ∀ (w5 : World), Below W2.heap.size W2 w5 → Reads encI w5 (.slice a1 xs.length c1) xs ∧ Boxed w5 w.heap.size 3 (.int .i64 n) ∧ Boxed w5 (w.heap.size + 1) 33 (.func (.func 53) #[] #[.pointer (some ⟨w.heap.size, 0, none⟩)]) :=
      fun w5 h => ⟨Hv2.out.below h, (h.block _ hlN).trans bN, (h.block _ hlF).trans bF⟩
    have Hgo := Lib.hid hgo
    have HbA := Lib.hid hbA
    clear hgo hbA hrd4 hb4 hb3 hb2 hb1 hs1 hs2 hs3 hrow4 hB4 hB3 hB2 hcF bN1 hmx HLa
  all_goals try clear hc1
  all_goals
    gi_wp2_with fail
    refine ((callsIn_wide (n := 0)).2 (of17 xs (by omega) _ _ (Hgo.out w4 HbA.out).1)).mono ?_
    rintro e w5 ⟨s5, C5, rfl, hs5, hB5, _⟩
    have hb5 := HbA.out.trans (hB5.mono HbA.out.size)
    gi_wp2_with fail
    refine ((callsIn_wide (n := 0)).2 (map_call (fun x => wrap64 (2 * xorN n x)) hs5 (p55 (Hgo.out w5 hb5).2.1 (Hgo.out w5 hb5).2.2))).mono ?_
    rintro e w6 ⟨s6, C6, rfl, hs6, hB6, _⟩
    have hb6 := hb5.trans (hB6.mono hb5.size)
    gi_wp2_with fail
    refine ((callsIn_wide (n := 0)).2 (c16 _ _ _ _ hs6 _ (by decide) HLb.out.1)).mono ?_
    rintro e w7 ⟨v7, rfl, hrow7, hB7⟩
    have hb7 := hb6.trans (hB7.mono hb6.size)
    have hrd7 := Reads.of_row hrow7
    rw [HLb.out.2] at hrd7
    have HR7 := Lib.hid hrd7
    have HB7 := Lib.hid hb7
    have HA7 := Lib.hid (HA.out.below ((hB5.trans (hB6.mono hB5.size)).trans (hB7.mono (Nat.le_trans hB5.size hB6.size))))
    clear hs5 hs6 hrow7 hrd7 hb5 hb6 hb7 hB5 hB6 hB7 HA HbA
    gi_wp2_with fail
    refine ((callsIn_wide (n := 0)).2 (of17 xs (by omega) _ _ (Hgo.out w7 HB7.out).1)).mono ?_
    rintro e w8 ⟨s8, C8, rfl, hs8, hB8, _⟩
    have hb8 := HB7.out.trans (hB8.mono HB7.out.size)
    gi_wp2_with fail
    refine ((callsIn_wide (n := 0)).2 (keep_call oddB hs8 (odd_pure w8))).mono ?_
    rintro e w9 ⟨s9, C9, rfl, hs9, hB9, _⟩
    have hb9 := hb8.trans (hB9.mono hb8.size)
    gi_wp2_with fail
    refine ((callsIn_wide (n := 0)).2 (keep_call (lowB n) hs9 (p54 (Hgo.out w9 hb9).2.1))).mono ?_
    rintro e wa ⟨sa, Ca, rfl, hsa, hBa, _⟩
    have hba := hb9.trans (hBa.mono hb9.size)
    gi_wp2_with fail
    refine ((callsIn_wide (n := 0)).2 (c16 _ _ _ _ hsa _ (by decide) HLc.out.1)).mono ?_
    rintro e wb ⟨vb, rfl, hrowb, hBb⟩
    have hbb := hba.trans (hBb.mono hba.size)
    have hrdb := Reads.of_row hrowb
    rw [HLc.out.2] at hrdb
    have HRb := Lib.hid hrdb
    have HBb := Lib.hid hbb
    have hstep := ((hB8.trans (hB9.mono hB8.size)).trans (hBa.mono (Nat.le_trans hB8.size hB9.size))).trans (hBb.mono (Nat.le_trans hB8.size (Nat.le_trans hB9.size hBa.size)))
    have HAb := Lib.hid (HA7.out.below hstep)
    have HR7b := Lib.hid (HR7.out.below hstep)
    clear hs8 hs9 hsa hrowb hrdb hb8 hb9 hba hbb hB8 hB9 hBa hBb hstep HA7 HR7 HB7
    gi_wp2_with fail
    refine ((callsIn_wide (n := 0)).2 (of17 xs (by omega) _ _ (Hgo.out wb HBb.out).1)).mono ?_
    rintro e wc ⟨sc, Cc, rfl, hsc, hBc, _⟩
    have hbc := HBb.out.trans (hBc.mono HBb.out.size)
    gi_wp2_with fail
    refine ((callsIn_wide (n := 0)).2 (keep_call (lowB n) hsc (p54 (Hgo.out wc hbc).2.1))).mono ?_
    rintro e wd ⟨sd, Cd, rfl, hsd, hBd, _⟩
    have hbd := hbc.trans (hBd.mono hbc.size)
    gi_wp2_with fail
    refine ((callsIn_wide (n := 0)).2 (keep_call oddB hsd (odd_pure wd))).mono ?_
    rintro e we ⟨se, Ce, rfl, hse, hBe, _⟩
    have hbe := hbd.trans (hBe.mono hbd.size)
    gi_wp2_with fail
    refine ((callsIn_wide (n := 0)).2 (c16 _ _ _ _ hse _ (by decide) HLd.out.1)).mono ?_
    rintro e wf ⟨vf, rfl, hrowf, hBf⟩
    have hbf := hbe.trans (hBf.mono hbe.size)
    have hrdf := Reads.of_row hrowf
    rw [HLd.out.2] at hrdf
    have HRf := Lib.hid hrdf
    have HBf := Lib.hid (HBw.out.trans (hbf.mono HBw.out.size))
    have hstep := ((hBc.trans (hBd.mono hBc.size)).trans (hBe.mono (Nat.le_trans hBc.size hBd.size))).trans (hBf.mono (Nat.le_trans hBc.size (Nat.le_trans hBd.size hBe.size)))
    have HAf := Lib.hid (HAb.out.below hstep)
    have HR7f := Lib.hid (HR7b.out.below hstep)
    have HRbf := Lib.hid (HRb.out.below hstep)
    clear hsc hsd hse hrowf hrdf hbc hbd hbe hbf hBc hBd hBe hBf hstep HAb HR7b HRb HBb Hgo
    obtain ⟨a4, c4, e4⟩ := HAf.out.form
    subst e4
    have heq : ((((xs.map (xorN n)).map fun x => wrap64 (2 * x)).length : Int) == (xs.length : Int)) = true := by simp
    gi_wp2_with fail
    refine ((callsIn_wide (n := 0)).2 (same15 (xs.map fun x => wrap64 (2 * xorN n x)) (by simp; omega) _ _ _ (by have := HAf.out; simpa [Function.comp_def] using this) HR7f.out)).mono ?_
    rintro e wg ⟨rfl, hBg⟩
    gi_wp2_with fail
    refine ((callsIn_wide (n := 0)).2 (same15 ((xs.filter oddB).filter (lowB n)) (Nat.le_trans (List.length_filter_le _ _) (Nat.le_trans (List.length_filter_le _ _) (by omega))) _ _ _ (HRbf.out.below hBg) (by rw [List.filter_filter]; have := HRf.out.below hBg; rw [List.filter_filter] at this; simpa [Bool.and_comm] using this))).mono ?_
    rintro e wh ⟨rfl, hBh⟩
    gi_wp2_with fail
    refine ((callsIn_wide (n := 0)).2 (awake19 _)).mono ?_
    rintro e wi ⟨rfl, hBi⟩
    gi_wp2
    go_ret
    exact ⟨rfl, ((HBf.out.trans (hBg.mono HBf.out.size)).trans (hBh.mono (Nat.le_trans HBf.out.size hBg.size))).trans (hBi.mono (Nat.le_trans HBf.out.size (Nat.le_trans hBg.size hBh.size)))⟩
end Go.Proofs.Ytdfnainibjgenaa
