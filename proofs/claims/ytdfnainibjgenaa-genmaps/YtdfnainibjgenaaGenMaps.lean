/- GenMaps answers true: its walk. -/
import Derived.Test.YtdfnainibjgenaaDrop
namespace Go.Proofs.Ytdfnainibjgenaa
open Go.RowKit Go.Shelf
set_option linter.unusedVariables false
set_option linter.unusedSimpArgs false
attribute [local go_sem] Oper.semAt_some wide_fn wide_depth
attribute [local go_sem high] run_imin run_imax

def xor5 (x : Int) : Int := bits .xor .i64 x 5

set_option maxRecDepth 100000 in
set_option maxHeartbeats 400000 in
theorem xor22 (x : Int) (w : World) : Calls Try.prog 22 #[.int .i64 x] w fun e w' => e = .returned (.int .i64 (xor5 x)) ∧ w = w' := by
  refine (callsIn_wide (n := 0)).1 ?_
  refine callsIn_of_wp Try.func22 rfl trivial ?_ rfl
  simp only [Try.ntmps22, List.size_toArray, List.length_cons, List.length_nil, Nat.reduceAdd, Nat.reduceSub, Array.replicate_succ, Array.replicate_zero, List.push_toArray, List.append_toArray, List.nil_append, List.cons_append]
  gi_wp2
  go_ret
  exact ⟨rfl, rfl⟩
theorem xor_pure (w : World) : PureF Try.prog (.func (.func 22) #[] #[]) (fun _ => False) encI encI xor5 w :=
  ⟨fun _ h => h.elim, ⟨_, _, rfl⟩, fun x W _ => .inl ⟨22, #[], rfl, enters_of Try.func22 (by kernel_rfl) rfl, Calls.mono (xor22 x W) fun e w' ⟨he, hw⟩ => ⟨he, hw ▸ Below.refl _ _⟩⟩⟩

set_option maxRecDepth 100000 in
set_option maxHeartbeats 400000 in
/-- k: the first so many. -/
theorem m21 (ys : List Int) (hlen : ys.length ≤ 100000) (v : Value) (most : Int) (b : Nat) (w : World) (hb : Boxed w b 3 (.int .i64 most)) (hv : Reads encI w v ys) :
    Calls Try.prog 21 #[v, .pointer (some ⟨b, 0, none⟩)] w fun e w' => (∃ v', e = .returned v' ∧ Reads encI w v' (ys.take most.toNat)) ∧ w = w' := by
  refine (callsIn_wide (n := 0)).1 ?_
  refine callsIn_of_wp Try.func21 rfl trivial ?_ rfl
  simp only [Try.ntmps21, List.size_toArray, List.length_cons, List.length_nil, Nat.reduceAdd, Nat.reduceSub, Array.replicate_succ, Array.replicate_zero, List.push_toArray, List.append_toArray, List.nil_append, List.cons_append]
  obtain ⟨a0, c0, e0⟩ := hv.form
  have Hv := Lib.hid hv
  clear hv
  subst e0
  have hc := hb.cell
  obtain ⟨k, hk⟩ : ∃ k : Nat, k = min most.toNat ys.length := ⟨_, rfl⟩
  have hkl : k ≤ ys.length := by omega
  have himm : imax 0 (imin most (ys.length : Int)) = (k : Int) := by rw [imm, hk]
  have HT : Hid (ys.take most.toNat = ys.take k) := by show ys.take most.toNat = ys.take k; rw [hk, ← List.take_eq_take_min]
  obtain ⟨i0, hi, hz0, hz1, hz2⟩ := info_parts info3
  have hcap := Hv.out.cap.1
  have hsl := fun w => run_slice_upto (P := Try.prog) Try.underlying22 hi a0 ys.length c0 k (by omega) w
  clear hi hz0 hz1 hz2 hk
  gi_wp2
  go_ret
  exact ⟨⟨_, rfl, by rw [HT.out]; exact Hv.out.upto hkl⟩, rfl⟩

/-- Two slices that a loop collects into, each in its own row. -/
def Two (W : World) (B : Nat) (va vb : Value) (al bs : List Int) : Prop :=
  W.ownsRow B 3 1 va al.length (al.map encI) ∧ W.ownsRow B 3 1 vb bs.length (bs.map encI) ∧ (va.ownBlock = none ∨ va.ownBlock ≠ vb.ownBlock)
theorem row_lt {W : World} {B e sz n : Nat} {v : Value} {xs : List Value} (h : W.ownsRow B e sz v n xs) : ∀ k, v.ownBlock = some k → k < W.heap.size := fun k hk => (h.lt k hk).2
theorem Two.left {W w1 : World} {B : Nat} {va vb va' : Value} {al bs : List Int} {x : Int} {tmp : Obj} (h : Two W B va vb al bs) (hown : w1.ownsRow B 3 1 va' (al.length + 1) (al.map encI ++ [encI x])) (hgrow : (W.alloc tmp).grownBy w1 va.ownBlock)
    (hwh : va'.ownBlock = va.ownBlock ∨ va'.ownBlock = some (W.alloc tmp).heap.size) : Two w1 B va' vb (al ++ [x]) bs := by
  obtain ⟨h1, h2, h3⟩ := h
  refine ⟨by simpa using hown, (h2.alloc tmp).kept hgrow ?_, ?_⟩
  · rcases h3 with h3 | h3
    · rw [h3]
      cases hvb : vb.ownBlock with
      | none => exact .inl rfl
      | some k => exact .inr (by simp)
    · exact .inr (Ne.symm h3)
  · rcases hwh with e | e
    · rw [e]; exact h3
    · refine .inr ?_
      rw [e]
      intro e'
      have := row_lt h2 _ e'.symm
      simp at this
      omega
theorem Two.right {W w1 : World} {B : Nat} {va vb vb' : Value} {al bs : List Int} {x : Int} {tmp : Obj} (h : Two W B va vb al bs) (hown : w1.ownsRow B 3 1 vb' (bs.length + 1) (bs.map encI ++ [encI x])) (hgrow : (W.alloc tmp).grownBy w1 vb.ownBlock)
    (hwh : vb'.ownBlock = vb.ownBlock ∨ vb'.ownBlock = some (W.alloc tmp).heap.size) : Two w1 B va vb' al (bs ++ [x]) := by
  obtain ⟨h1, h2, h3⟩ := h
  refine ⟨(h1.alloc tmp).kept hgrow h3, by simpa using hown, ?_⟩
  rcases hwh with e | e
  · rw [e]; exact h3
  · refine .inr ?_
    rw [e]
    intro e'
    have := row_lt h1 _ e'
    simp at this
    omega
theorem below_append {W w1 : World} {B n : Nat} {v : Value} {tmp : Obj} {xs : List Value} (hB : B ≤ W.heap.size) (h : W.ownsRow B 3 1 v n xs) (hgrow : (W.alloc tmp).grownBy w1 v.ownBlock) : Below B W w1 :=
  ((Below.refl B W).alloc hB tmp).grown hgrow (by simp; omega) (fun k hk => (h.lt k hk).1)

set_option maxRecDepth 100000 in
set_option maxHeartbeats 4000000 in
theorem genMaps_walk (l : List Int) (hm : l.length ≤ maxLen) (v : Value) (most : Int) (hn : (Lit.int .i64 most).wf = true) (w : World) (hv : Reads encI w v l) :
    Calls Try.prog 4 #[v, .int .i64 most] w fun e w' => e = .returned (.bool true) ∧ Below w.heap.size w w' := by
  refine (callsIn_wide (n := 0)).1 ?_
  refine callsIn_of_wp Try.func4 rfl trivial ?_ rfl
  simp only [Try.ntmps4, List.size_toArray, List.length_cons, List.length_nil, Nat.reduceAdd, Nat.reduceSub, Array.replicate_succ, Array.replicate_zero, List.push_toArray, List.append_toArray, List.nil_append, List.cons_append]
  obtain ⟨a0, c0, e0⟩ := hv.form
  obtain ⟨i0, hi, hz0, hz1, hz2⟩ := info_parts info3
  have Hv := Lib.hid hv
  have Hn := Lib.hid hn
  clear hv hn
  subst e0
  gi_wp2_with fail
  have hB0 : Below w.heap.size w (w.alloc (.cells #[.int .i64 most] 3)) := (Below.refl _ w).alloc (Nat.le_refl _) _
  have bM := Boxed.new w 3 (.int .i64 most)
  obtain ⟨w0, hw0⟩ : ∃ w0, w.alloc (.cells #[.int .i64 most] 3) = w0 := ⟨_, rfl⟩
  have hsz : w0.heap.size = w.heap.size + 1 := by rw [← hw0]; simp
  rw [hw0] at hB0 bM ⊢
  refine ((callsIn_wide (n := 0)).2 (short14 l hm _ w0 (Hv.out.below hB0))).mono ?_
  rintro e w' ⟨⟨v1, rfl, hv1⟩, rfl⟩
  obtain ⟨xs, hxs⟩ : ∃ xs, l.take 60 = xs := ⟨_, rfl⟩
  rw [hxs] at hv1
  have hlen : xs.length ≤ 60 := by rw [← hxs]; simp; omega
  clear hxs
  obtain ⟨a1, c1, e1⟩ := hv1.form
  have Hv1 := Lib.hid hv1
  have HB0 := Lib.hid hB0
  have Hsz := Lib.hid hsz
  clear hv1 hm Hv hw0 hsz hB0
  subst e1
  gi_wp2
  gi_loopw [5, 6, 15] (fun va vb i wr => ∃ (k : Nat), k ≤ xs.length ∧ i = .int .i64 k ∧ Two wr w0.heap.size va vb ((xs.take k).map xor5) ((xs.take k).filter oddB) ∧ Below w0.heap.size w0 wr) (fun _ _ i _ => xs.length - (intOf i).toNat)
  case atStart => exact ⟨0, Nat.zero_le _, rfl, ⟨World.ownsRow_nil _ _ _ _, World.ownsRow_nil _ _ _ _, .inl rfl⟩, Below.refl _ _⟩
  case round =>
    obtain ⟨k, hk, rfl, hT, hB⟩ := hrel
    by_cases hlt : k < xs.length
    · obtain ⟨b, off, cap, e1, hc⟩ := (Hv1.out.below hB).cell hlt
      simp only [Value.slice.injEq] at e1
      obtain ⟨rfl, e1', rfl⟩ := e1
      clear e1'
      obtain ⟨hx1, hx2⟩ := take_split hlt
      have Hx2 := Lib.hid hx2
      clear hx1 hx2
      have hBs := hB.size
      have hl1 : ((xs.take k).map xor5).length ≤ 60 := by simp; omega
      have hl2 : ((xs.take k).filter oddB).length ≤ 60 := Nat.le_trans (List.length_filter_le _ _) (by simp; omega)
      obtain ⟨x, hx⟩ : ∃ x, x = xs[k] := ⟨_, rfl⟩
      rw [← hx] at hc Hx2
      have Hxx := Lib.hid hx
      clear hx
      have hTl := hT.1
      gi_wp2_with (first | (gi_at_builtin; refine wpListIn_append_w _ rfl _ _ 22 rfl w0.heap.size 3 i0 (.int .i64 0) 1 8 Try.underlying22 hi hz0 hz1 hz2 rfl (by decide) _ _ _ rfl (hTl.alloc _) ⟨wr.heap.size, 0, none⟩ 1 1 (by decide) [encI (xor5 x)] rfl rfl (cell_one_new _ _ _) (by simp [Value.oneCell', encI]) (by unfold maxLen; omega) (by omega) (by simp; omega) ?_; clear hTl; intro va' w1 hown1 hgrow1 hwh1; have hT1 := hT.left hown1 hgrow1 hwh1; have hB1 := hB.trans (below_append hBs hT.1 hgrow1)) | fail)
      refine ((callsIn_wide (n := 0)).2 (odd20 x w1)).mono ?_
      rintro e w2 ⟨rfl, rfl⟩
      cases hodd : oddB x
      · have Hod := Lib.hid hodd
        gi_wp2
        go_roundw
        case rel =>
          refine ⟨k + 1, by omega, by simp, ?_, hB1⟩
          have e1 : (xs.take (k + 1)).map xor5 = (xs.take k).map xor5 ++ [xor5 x] := by rw [← Hx2.out]; simp
          have e2 : (xs.take (k + 1)).filter oddB = (xs.take k).filter oddB := by rw [← Hx2.out]; simp [Hod.out]
          rw [e1, e2]; exact hT1
        case measure => simp [intOf]; omega
      · have Hod := Lib.hid hodd
        have hTr := hT1.2.1
        have hBs1 := hB1.size
        gi_wp2_with (gi_at_builtin; refine wpListIn_append_w _ rfl _ _ 22 rfl w0.heap.size 3 i0 (.int .i64 0) 1 8 Try.underlying22 hi hz0 hz1 hz2 rfl (by decide) _ _ _ rfl (hTr.alloc _) ⟨w1.heap.size, 0, none⟩ 1 1 (by decide) [encI x] rfl rfl (cell_one_new _ _ _) (by simp [Value.oneCell', encI]) (by unfold maxLen; omega) (by omega) (by simp; omega) ?_; clear hTr; intro vb' w3 hown3 hgrow3 hwh3; have hT3 := hT1.right hown3 hgrow3 hwh3; have hB3 := hB1.trans (below_append hBs1 hT1.2.1 hgrow3))
        go_roundw
        case rel =>
          refine ⟨k + 1, by omega, by simp, ?_, hB3⟩
          have e1 : (xs.take (k + 1)).map xor5 = (xs.take k).map xor5 ++ [xor5 x] := by rw [← Hx2.out]; simp
          have e2 : (xs.take (k + 1)).filter oddB = (xs.take k).filter oddB ++ [x] := by rw [← Hx2.out]; simp [Hod.out]
          rw [e1, e2]; exact hT3
        case measure => simp [intOf]; omega
    · obtain rfl : k = xs.length := by omega
      rw [List.take_length] at hT
      have hmx : Try.prog.follows .mixedOrders = true := by kernel_rfl
      have bMr : Boxed wr w.heap.size 3 (.int .i64 most) := (hB.block w.heap.size (by have := Hsz.out; omega)).trans bM
      have hcM := bMr.cell
      have hbw := bMr.lt
      have Hv2 := Lib.hid (Hv1.out.below hB)
      have Hra := Lib.hid (Reads.of_row hT.1)
      have Hrb := Lib.hid (Reads.of_row hT.2.1)
      have HBw := Lib.hid (HB0.out.trans (hB.mono HB0.out.size))
      have Hl1 : Hid (((xs.map xor5).take most.toNat).length ≤ 100000) := by show ((xs.map xor5).take most.toNat).length ≤ 100000; simp; omega
      have Hl2 : Hid (((xs.filter oddB).take most.toNat).length ≤ 100000) := by
        show ((xs.filter oddB).take most.toNat).length ≤ 100000
        have := List.length_filter_le oddB xs
        simp; omega
      have Hl3 : Hid ((xs.map xor5).length ≤ 100000) := by show (xs.map xor5).length ≤ 100000; simp; omega
      have Hl4 : Hid ((xs.filter oddB).length ≤ 100000) := Nat.le_trans (List.length_filter_le oddB xs) (by omega)
      clear hT hB bM HB0 Hsz hi hz0 hz1 hz2 Hv1
      gi_wp2
      gi_region_with_o (first
        | (gi_at_call 19; refine ((callsIn_wide (n := 0)).2 (awake19 _)).mono ?_; rintro e w9 ⟨rfl, hB9⟩; have hb9 := hb8.trans (hB9.mono hb8.size))
        | (gi_at_call 15; refine ((callsIn_wide (n := 0)).2 (same15 _ Hl2.out _ _ _ hrd7 hrv8)).mono ?_; rintro e w8 ⟨rfl, hB8⟩; have hb8 := hb7.trans (hB8.mono hb7.size))
        | (gi_at_call 21; refine ((callsIn_wide (n := 0)).2 (m21 (xs.filter oddB) Hl4.out _ most _ w7 bM7 (Hrb.out.drew.below hb7))).mono ?_; rintro e w7' ⟨⟨v8, rfl, hrv8⟩, rfl⟩)
        | (gi_at_call 16; refine ((callsIn_wide (n := 0)).2 (c16 _ _ _ _ hs6 _ Hn.out Hl2.out)).mono ?_; rintro e w7 ⟨v7, rfl, hrow7, hB7⟩; have hb7 := hb6.trans (hB7.mono hb6.size); have hrd7 := Reads.of_row hrow7; have bM7 : Boxed w7 w.heap.size 3 (.int .i64 most) := (hb7.block w.heap.size hbw).trans bMr)
        | (gi_at_call 24; refine ((callsIn_wide (n := 0)).2 (keep_call oddB hs5 (odd_pure w5))).mono ?_; rintro e w6 ⟨s6, C6, rfl, hs6, hB6, _⟩; have hb6 := hb5.trans (hB6.mono hb5.size); have hc6 := (hb6.cell (p := ⟨w.heap.size, 0, none⟩) hbw).trans hcM)
        | (gi_at_call 17; refine ((callsIn_wide (n := 0)).2 (of17 xs (by omega) _ _ (Hv2.out.drew.below hb4))).mono ?_; rintro e w5 ⟨s5, C5, rfl, hs5, hB5, _⟩; have hb5 := hb4.trans (hB5.mono hb4.size); have hc5 := (hb5.cell (p := ⟨w.heap.size, 0, none⟩) hbw).trans hcM)
        | (gi_at_call 15; refine ((callsIn_wide (n := 0)).2 (same15 _ Hl1.out _ _ _ hrd3 hrv4)).mono ?_; rintro e w4 ⟨rfl, hB4⟩; have hb4 := hb3.trans (hB4.mono hb3.size); have hc4 := (hb4.cell (p := ⟨w.heap.size, 0, none⟩) hbw).trans hcM)
        | (gi_at_call 21; refine ((callsIn_wide (n := 0)).2 (m21 (xs.map xor5) Hl3.out _ most _ w3 bM3 (Hra.out.drew.below hb3))).mono ?_; rintro e w3' ⟨⟨v4, rfl, hrv4⟩, rfl⟩)
        | (gi_at_call 16; refine ((callsIn_wide (n := 0)).2 (c16 _ _ _ _ hs2 _ Hn.out Hl1.out)).mono ?_; rintro e w3 ⟨v3, rfl, hrow3, hB3⟩; have hb3 := hb2.trans (hB3.mono hb2.size); have hrd3 := Reads.of_row hrow3; have bM3 : Boxed w3 w.heap.size 3 (.int .i64 most) := (hb3.block w.heap.size hbw).trans bMr)
        | (gi_at_call 23; refine ((callsIn_wide (n := 0)).2 (map_call xor5 hs1 (xor_pure w1))).mono ?_; rintro e w2 ⟨s2, C2, rfl, hs2, hB2, _⟩; have hb2 := hb1.trans (hB2.mono hb1.size); have hc2 := (hb2.cell (p := ⟨w.heap.size, 0, none⟩) hbw).trans hcM)
        | (gi_at_call 17; refine ((callsIn_wide (n := 0)).2 (of17 xs (by omega) _ _ Hv2.out.drew)).mono ?_; rintro e w1 ⟨s1, C1, rfl, hs1, hb1, _⟩; have hc1 := (hb1.cell (p := ⟨w.heap.size, 0, none⟩) hbw).trans hcM))
      all_goals
        gi_wp2
        go_ret
        exact ⟨rfl, HBw.out.drew.trans (hb9.mono HBw.out.size)⟩
end Go.Proofs.Ytdfnainibjgenaa
