/- GenChains answers true: its walk. -/
import Derived.Test.YtdfnainibjgenaaGenParts
namespace Go.Proofs.Ytdfnainibjgenaa
open Go.RowKit Go.Shelf
set_option linter.unusedVariables false
set_option linter.unusedSimpArgs false
attribute [local go_sem] Oper.semAt_some wide_fn wide_depth
attribute [local go_sem high] run_imin run_imax

def upN (n : Int) : Nat := min n.toNat 300
def fewN (n : Int) : Nat := upN n % 5

set_option maxRecDepth 100000 in
set_option maxHeartbeats 400000 in
theorem up28 (n : Int) (w : World) : Calls Try.prog 28 #[.int .i64 n] w fun e w' => e = .returned (.int .i64 (upN n : Nat)) ∧ w = w' := by
  refine (callsIn_wide (n := 0)).1 ?_
  refine callsIn_of_wp Try.func28 rfl trivial ?_ rfl
  simp only [Try.ntmps28, List.size_toArray, List.length_cons, List.length_nil, Nat.reduceAdd, Nat.reduceSub, Array.replicate_succ, Array.replicate_zero, List.push_toArray, List.append_toArray, List.nil_append, List.cons_append]
  have himm : imax 0 (imin n 300) = ((upN n : Nat) : Int) := imm n 300
  gi_wp2
  go_ret
  exact ⟨rfl, rfl⟩

set_option maxRecDepth 100000 in
set_option maxHeartbeats 400000 in
theorem few30 (n : Int) (w : World) : Calls Try.prog 30 #[.int .i64 n] w (GivesSeq Try.prog (fun _ => False) encI (nums (fewN n)) w) := by
  refine (callsIn_wide (n := 0)).1 ?_
  refine callsIn_of_wp Try.func30 rfl trivial ?_ rfl
  simp only [Try.ntmps30, List.size_toArray, List.length_cons, List.length_nil, Nat.reduceAdd, Nat.reduceSub, Array.replicate_succ, Array.replicate_zero, List.push_toArray, List.append_toArray, List.nil_append, List.cons_append]
  have hq : upN n ≤ 300 := by unfold upN; omega
  obtain ⟨q, hq'⟩ : ∃ q, upN n = q := ⟨_, rfl⟩
  have Hq := Lib.hid hq'
  rw [hq'] at hq
  clear hq'
  gi_wp2_with fail
  refine ((callsIn_wide (n := 0)).2 (up28 n w)).mono ?_
  rintro e w' ⟨rfl, rfl⟩
  rw [Hq.out]
  gi_wp2_with fail
  have hwf : (Lit.int .i64 ((q : Int) % 5)).wf = true := by
    simp only [Lit.wf, IntKind.min, IntKind.max, IntKind.signed, IntKind.bits, Bool.and_eq_true, decide_eq_true_eq, if_true]
    omega
  refine ((callsIn_wide (n := 0)).2 (count18 hwf w)).mono ?_
  rintro e w1 ⟨s, C, rfl, hs, hB, hC⟩
  have e1 : ((q : Int) % 5).toNat = fewN n := by unfold fewN; rw [Hq.out]; omega
  rw [e1] at hs
  have Hs := Lib.hid hs
  have HB := Lib.hid hB
  have HC := Lib.hid hC
  clear hs hB hC e1 hwf
  gi_wp2
  go_ret
  exact ⟨_, C, rfl, Hs.out, HB.out, HC.out⟩

theorem few_fn (w : World) (dom : List Int) : SeqFn Try.prog (.func (.func 30) #[] #[]) (fun _ => False) encI encI (fun n => nums (fewN n)) dom w := by
  refine ⟨fun _ h => h.elim, ⟨_, _, rfl⟩, fun x W _ _ => .inl ⟨30, #[], rfl, enters_of Try.func30 (by kernel_rfl) rfl, ?_⟩⟩
  refine Calls.mono (few30 x W) ?_
  rintro e w' ⟨t, C, rfl, hs, hB, hC⟩
  exact ⟨t, C, rfl, .inr hs, hB, hC⟩

theorem reads_four (W : World) (x1 x2 x3 x4 : FV) : Reads encF (W.alloc (.cells #[encF x1, encF x2, encF x3, encF x4] 27)) (.slice (some ⟨W.heap.size, 0, none⟩) 4 4) [x1, x2, x3, x4] :=
  Reads.of_row (xs := [x1, x2, x3, x4]) (World.ownsRow_lit W #[encF x1, encF x2, encF x3, encF x4] 4 (Nat.le_refl _) (by decide) rfl)
theorem four_seqs {W : World} {x1 x3 x4 : FV} {l1 l3 l4 : List Int} {C1 C3 C4 : Nat → Prop} (h1 : SeqV Try.prog (encF x1) C1 encI l1 W) (h3 : SeqV Try.prog (encF x3) C3 encI l3 W) (h4 : SeqV Try.prog (encF x4) C4 encI l4 W) : AllSeqs (fun b => b < W.heap.size) [(x1, l1), (none, []), (x3, l3), (x4, l4)] W := by
  refine ⟨fun _ h => h, fun p hp => ?_⟩
  simp at hp
  rcases hp with rfl | rfl | rfl | rfl
  · exact .inr ⟨C1, h1, h1.1⟩
  · exact .inl ⟨rfl, rfl⟩
  · exact .inr ⟨C3, h3, h3.1⟩
  · exact .inr ⟨C4, h4, h4.1⟩
theorem Reads.src {W : World} {a : Option Addr} {n c : Nat} {xs : List Int} (h : Reads encI W (.slice a n c) xs) (hne : xs ≠ []) : ∃ b off, a = some ⟨b, off, none⟩ ∧ n = xs.length ∧ ∀ j u, (xs.map encI)[j]? = some u → W.cell? ((⟨b, off, none⟩ : Addr).add j) = some u := by
  rcases h with ⟨_, h⟩ | ⟨b, off, cap, e, _, h2⟩
  · exact absurd h hne
  · simp at e
    refine ⟨b, off, e.1, e.2.1, fun j u hj => ?_⟩
    rw [addr_add]
    simp only [List.getElem?_map, Option.map_eq_some_iff] at hj
    obtain ⟨x, hx, rfl⟩ := hj
    exact h2 j x hx

theorem wpListIn_append_run {F : Fence} {n : Nat} {P : Program} (w : World) {ops : Array Oper} {rest : List Oper} {o : Oper} {a : Act} {Q : Exit → Act → World → Prop}
    (hg : o.guard = none) (s x : Operand) (t : TypeId) (hop : o.op = Op.call { callee := Callee.builtin Builtin.append, args := #[s, x], argTypes := #[t, t] }) (v xv : Value) (hs : a.eval s = v) (hx : a.eval x = xv) {v' : Value} {w' : World}
    (hrun : (Builtin.append_ #[t, t] o.type #[v, xv]).run P w = .ok v' w') (hK : wpListIn F n P ops Q rest (a.put o.dst v') w') : wpListIn F n P ops Q (o :: rest) a w := by
  refine wpListIn_plain hg fun K hK' => ?_
  refine ⟨?_, ?_⟩
  · simp [Oper.about, hop, resolve, Target.leads, Sem.run_pure]
  · rw [Oper.semAt_plain F _ _ (by rw [hop]; intro c hc'; cases hc')]
    simp [execOp, hop, resolve, invoke, builtin, hs, hx, hrun, Result.andThen]
    exact hK' _ _ hK

/-- 'append(s, t...)' onto a row of one's own. -/
theorem run_append_reads {w : World} {base n : Nat} {v : Value} {al : List Int} (hown : w.ownsRow base 3 1 v n (al.map encI)) {a : Option Addr} {m c : Nat} {xs : List Int} (hx : Reads encI w (.slice a m c) xs) (ty : TypeId) (hlen : n + xs.length ≤ 1000) (hb : base ≤ w.heap.size) :
    ∃ v' w', (Builtin.append_ #[22, 22] ty #[v, .slice a m c]).run Try.prog w = .ok v' w' ∧ w'.ownsRow base 3 1 v' (n + xs.length) ((al ++ xs).map encI) ∧ Below base w w' := by
  obtain ⟨i0, hi, hz0, hz1, hz2⟩ := info_parts info3
  have hm := hx.cap.2
  subst hm
  cases a with
  | none =>
    have h0 : xs = [] := by
      rcases hx with ⟨_, h⟩ | ⟨b, off, cap, e, _, _⟩
      · exact h
      · simp at e
    subst h0
    refine ⟨v, w, ?_, by simpa using hown, Below.refl _ _⟩
    rcases hown.2 with ⟨rfl, rfl⟩ | ⟨g, cap, cur, rfl, _, _, hnc, _⟩
    · simp [Builtin.append_, run_underlying Try.underlying22, sizeOf, typeInfo, hi, Builtin.lenOf, Builtin.firstCells]
    · simp [Builtin.append_, run_underlying Try.underlying22, sizeOf, typeInfo, hi, Builtin.lenOf, Builtin.firstCells, hnc, storeCells]
  | some ad =>
    obtain ⟨v', w', hr, r1, r2, _⟩ := run_append_own (P := Try.prog) w base 22 ty 3 i0 (.int .i64 0) 1 8 Try.underlying22 hi hz0 hz1 hz2 rfl (by decide) v n _ hown ad xs.length c (xs.map encI) (by simp) (by
      by_cases hne : xs = []
      · subst hne; intro j u hj; simp at hj
      · obtain ⟨b, off, e, _, h2⟩ := hx.src hne
        simp at e
        subst e
        exact h2) (by simp [Value.oneCell', encI]) (by unfold maxLen; omega) (by omega) hb
    refine ⟨v', w', hr, by simpa using r1, (Below.refl base w).grown r2 hb fun k hk => (hown.lt k hk).1⟩
/-- The rows, of few each. -/
def fews (xs : List Int) : List Int := xs.flatMap fun n => nums (fewN n)
theorem fewN_lt (n : Int) : fewN n < 5 := Nat.mod_lt _ (by decide)
theorem fews_len (xs : List Int) : (fews xs).length ≤ 4 * xs.length := by
  induction xs with
  | nil => simp [fews]
  | cons x xs ih =>
    have := fewN_lt x
    simp only [fews, List.flatMap_cons, List.length_append, nums_length, List.length_cons] at ih ⊢
    omega

set_option maxRecDepth 100000 in
set_option maxHeartbeats 4000000 in
theorem genChains_walk (l1 : List Int) (hm1 : l1.length ≤ maxLen) (l2 : List Int) (hm2 : l2.length ≤ maxLen) (l3 : List Int) (hm3 : l3.length ≤ maxLen) (v1 v2 v3 : Value) (w0 : World) (hv1 : Reads encI w0 v1 l1) (hv2 : Reads encI w0 v2 l2) (hv3 : Reads encI w0 v3 l3) :
    Calls Try.prog 6 #[v1, v2, v3] w0 fun e w' => e = .returned (.bool true) ∧ Below w0.heap.size w0 w' := by
  refine (callsIn_wide (n := 0)).1 ?_
  refine callsIn_of_wp Try.func6 rfl trivial ?_ rfl
  simp only [Try.ntmps6, List.size_toArray, List.length_cons, List.length_nil, Nat.reduceAdd, Nat.reduceSub, Array.replicate_succ, Array.replicate_zero, List.push_toArray, List.append_toArray, List.nil_append, List.cons_append]
  obtain ⟨a1, c1, e1⟩ := hv1.form
  have Hv1 := Lib.hid hv1
  clear hv1
  subst e1
  obtain ⟨a2, c2, e2⟩ := hv2.form
  have Hv2 := Lib.hid hv2
  clear hv2
  subst e2
  obtain ⟨a3, c3, e3⟩ := hv3.form
  have Hv3 := Lib.hid hv3
  clear hv3
  subst e3
  gi_wp2_with fail
  refine ((callsIn_wide (n := 0)).2 (short14 l1 hm1 _ w0 Hv1.out)).mono ?_
  rintro e w' ⟨⟨u1, rfl, hu1⟩, rfl⟩
  obtain ⟨xs, hxs⟩ : ∃ xs, l1.take 60 = xs := ⟨_, rfl⟩
  rw [hxs] at hu1
  have hlen1 : xs.length ≤ 60 := by rw [← hxs]; simp; omega
  clear hxs
  obtain ⟨b1, d1, e1⟩ := hu1.form
  subst e1
  have H1 := Lib.hid hu1
  clear hu1 Hv1 hm1
  gi_wp2_with fail
  refine ((callsIn_wide (n := 0)).2 (short14 l2 hm2 _ w0 Hv2.out)).mono ?_
  rintro e w' ⟨⟨u2, rfl, hu2⟩, rfl⟩
  obtain ⟨ys, hys⟩ : ∃ ys, l2.take 60 = ys := ⟨_, rfl⟩
  rw [hys] at hu2
  have hlen2 : ys.length ≤ 60 := by rw [← hys]; simp; omega
  clear hys
  obtain ⟨b2, d2, e2⟩ := hu2.form
  subst e2
  have H2 := Lib.hid hu2
  clear hu2 Hv2 hm2
  gi_wp2_with fail
  refine ((callsIn_wide (n := 0)).2 (short14 l3 hm3 _ w0 Hv3.out)).mono ?_
  rintro e w' ⟨⟨u3, rfl, hu3⟩, rfl⟩
  obtain ⟨zs, hzs⟩ : ∃ zs, l3.take 60 = zs := ⟨_, rfl⟩
  rw [hzs] at hu3
  have hlen3 : zs.length ≤ 60 := by rw [← hzs]; simp; omega
  clear hzs
  obtain ⟨b3, d3, e3⟩ := hu3.form
  subst e3
  have H3 := Lib.hid hu3
  clear hu3 Hv3 hm3
  have own0 := World.ownsRow_lit (base := w0.heap.size) (e := 3) (size := 1) w0 #[] 0 (Nat.le_refl _) (by decide) rfl
  have hBz : Below w0.heap.size w0 (w0.alloc (.cells #[] 3)) := (Below.refl _ _).alloc (Nat.le_refl _) _
  obtain ⟨va, wa, hra, owna, hBa⟩ := run_append_reads (al := []) own0 (H1.out.below hBz) 22 (by omega) hBz.size
  have hBa' := hBz.trans hBa
  obtain ⟨vb, wb, hrb, ownb, hBb⟩ := run_append_reads owna (H2.out.below hBa') 22 (by omega) hBa'.size
  have hBb' := hBa'.trans hBb
  obtain ⟨vc, w1, hrc, ownc, hBc⟩ := run_append_reads ownb (H3.out.below hBb') 22 (by omega) hBb'.size
  have hB1 := hBb'.trans hBc
  have hlenc : (((([] ++ xs) ++ ys) ++ zs) : List Int).length = 0 + xs.length + ys.length + zs.length := by simp; omega
  rw [← hlenc] at ownc
  have hall : Reads encI w1 vc (xs ++ ys ++ zs) := by have := Reads.of_row ownc; simpa using this
  have Hall := Lib.hid hall
  clear own0 hBz hBa owna hBa' hBb ownb hBb' hBc ownc hlenc hall
  gi_wp2_with (first | (gi_at_builtin; refine wpListIn_append_run _ rfl _ _ 22 rfl _ _ rfl rfl hra ?_; clear hra) | (gi_at_builtin; refine wpListIn_append_run _ rfl _ _ 22 rfl _ _ rfl rfl hrb ?_; clear hrb) | (gi_at_builtin; refine wpListIn_append_run _ rfl _ _ 22 rfl _ _ rfl rfl hrc ?_; clear hrc))
  refine ((callsIn_wide (n := 0)).2 (of17 _ (by omega) _ _ (H1.out.below hB1))).mono ?_
  rintro e w2 ⟨sav, saC, rfl, sa, hB2, _⟩
  obtain ⟨sag, sal, sae⟩ := sa.func
  subst sae
  gi_wp2_with fail
  refine ((callsIn_wide (n := 0)).2 (of17 _ (by omega) _ _ (H2.out.below (lstep hB1 hB2)))).mono ?_
  rintro e w3 ⟨sbv, sbC, rfl, sb, hB3, _⟩
  obtain ⟨sbg, sbl, sbe⟩ := sb.func
  subst sbe
  gi_wp2_with fail
  refine ((callsIn_wide (n := 0)).2 (of17 _ (by omega) _ _ (H3.out.below (lstep (lstep hB1 hB2) hB3)))).mono ?_
  rintro e w4 ⟨scv, scC, rfl, sc, hB4, _⟩
  obtain ⟨scg, scl, sce⟩ := sc.func
  subst sce
  gi_wp2_with fail
  have hv4 := reads_four w4 (some (.func sag, sal)) none (some (.func sbg, sbl)) (some (.func scg, scl))
  have hB5 := alloc_later w4 (.cells #[encF (some (.func sag, sal)), encF none, encF (some (.func sbg, sbl)), encF (some (.func scg, scl))] 27)
  have hall := four_seqs (x1 := some (.func sag, sal)) (x3 := some (.func sbg, sbl)) (x4 := some (.func scg, scl)) (sa.below (lstep (lstep hB3 hB4) hB5)) (sb.below (lstep hB4 hB5)) (sc.below hB5)
  obtain ⟨w5, hw⟩ : ∃ w5, w4.alloc (.cells #[encF (some (.func sag, sal)), encF none, encF (some (.func sbg, sbl)), encF (some (.func scg, scl))] 27) = w5 := ⟨_, rfl⟩
  rw [hw] at hv4 hB5 hall
  have hw' : w4.alloc (.cells #[.func (.func sag) #[] sal, .nilFunc, .func (.func sbg) #[] sbl, .func (.func scg) #[] scl] 27) = w5 := hw
  rw [hw']
  clear hw hw' sa sb sc
  refine ((callsIn_wide (n := 0)).2 (chain27 [(some (.func sag, sal), _), (none, []), (some (.func sbg, sbl), _), (some (.func scg, scl), _)] (by simp) _ _ hv4 hall)).mono ?_
  rintro e w6 ⟨sdv, sdC, rfl, sd, hB6, _⟩
  clear hv4 hall
  simp only [List.flatMap_cons, List.flatMap_nil, List.append_nil, List.nil_append] at sd
  have e3 : xs ++ (ys ++ zs) = xs ++ ys ++ zs := by simp
  rw [e3] at sd
  clear e3
  obtain ⟨sdg, sdl, sde⟩ := sd.func
  subst sde
  have hl1 : ((xs ++ ys ++ zs).take (999 : Int).toNat).length ≤ 100000 := by show ((xs ++ ys ++ zs).take 999).length ≤ 100000; simp; omega
  have ht1 : (xs ++ ys ++ zs).take (999 : Int).toNat = xs ++ ys ++ zs := List.take_of_length_le (by show (xs ++ ys ++ zs).length ≤ 999; simp; omega)
  have Hl1 := Lib.hid hl1
  have Ht1 := Lib.hid ht1
  clear hl1 ht1
  gi_wp2_with fail
  refine ((callsIn_wide (n := 0)).2 (c16 _ _ _ _ sd 999 (by decide) Hl1.out)).mono ?_
  rintro e w7 ⟨rav, rfl, rar, hB7⟩
  have ra := Reads.of_row rar
  clear rar
  rw [Ht1.out] at ra
  clear sd
  gi_wp2_with fail
  refine ((callsIn_wide (n := 0)).2 (same15 _ (by simp; omega) _ _ _ ra (Hall.out.below (lstep (lstep (lstep (lstep (lstep hB2 hB3) hB4) hB5) hB6) hB7)))).mono ?_
  rintro e w8 ⟨rfl, hB8⟩
  have HBB := Lib.hid (lstep (lstep (lstep (lstep (lstep (lstep (lstep hB1 hB2) hB3) hB4) hB5) hB6) hB7) hB8)
  have H1b := Lib.hid (H1.out.below HBB.out)
  clear ra Hall H1 H2 H3 Hl1 Ht1 hB1 hB2 hB3 hB4 hB5 hB6 hB7 hB8
  obtain ⟨i0, hi, hz0, hz1, hz2⟩ := info_parts info3
  gi_wp2
  gi_loopw [8, 39] (fun v i wr => ∃ (k : Nat), k ≤ xs.length ∧ i = .int .i64 k ∧ wr.ownsRow w8.heap.size 3 1 v (fews (xs.take k)).length ((fews (xs.take k)).map encI) ∧ Below w8.heap.size w8 wr) (fun _ i _ => xs.length - (intOf i).toNat)
  case atStart => exact ⟨0, Nat.zero_le _, rfl, World.ownsRow_nil _ _ _ _, Below.refl _ _⟩
  case round =>
    obtain ⟨k, hk, rfl, hown, hB⟩ := hrel
    by_cases hlt : k < xs.length
    · obtain ⟨b, off, cap, e1, hc⟩ := (H1b.out.below hB).cell hlt
      simp only [Value.slice.injEq] at e1
      obtain ⟨rfl, e1', rfl⟩ := e1
      clear e1'
      obtain ⟨hx1, hx2⟩ := take_split hlt
      obtain ⟨x, hx⟩ : ∃ x, x = xs[k] := ⟨_, rfl⟩
      rw [← hx] at hc hx2
      have hfw : fews (xs.take (k + 1)) = fews (xs.take k) ++ nums (fewN x) := by rw [← hx2]; simp [fews]
      have Hfw := Lib.hid hfw
      have hlf := fews_len (xs.take k)
      have hlf2 : (fews (xs.take k)).length ≤ 240 := by simp at hlf; omega
      clear hx1 hx2 hx hfw hlf
      obtain ⟨Y, hY⟩ : ∃ Y, fews (xs.take k) = Y := ⟨_, rfl⟩
      rw [hY] at hown Hfw hlf2
      clear hY
      have hq : upN x ≤ 300 := by unfold upN; omega
      obtain ⟨q, hq'⟩ : ∃ q, upN x = q := ⟨_, rfl⟩
      have hfq : fewN x = q % 5 := by unfold fewN; rw [hq']
      have Hq := Lib.hid hq'
      rw [hfq] at Hfw
      rw [hq'] at hq
      clear hq' hfq
      gi_wp2_with fail
      refine ((callsIn_wide (n := 0)).2 (up28 x wr)).mono ?_
      rintro e w' ⟨rfl, rfl⟩
      rw [Hq.out]
      obtain ⟨p, hp⟩ : ∃ p : Nat, p = q % 5 := ⟨_, rfl⟩
      have hp5 : p < 5 := by omega
      rw [← hp] at Hfw
      have hpi : (q : Int) % 5 = (p : Int) := by omega
      clear hp Hq
      gi_wp2
      simp only [hpi]
      clear hpi
      gi_loopw [8, 46] (fun v i ws => ∃ (j : Nat), j ≤ p ∧ i = .int .i64 j ∧ ws.ownsRow w8.heap.size 3 1 v (Y ++ nums j).length ((Y ++ nums j).map encI) ∧ Below w8.heap.size w8 ws) (fun _ i _ => p - (intOf i).toNat)
      case atStart => exact ⟨0, Nat.zero_le _, rfl, by simpa [nums] using hown, hB⟩
      case round =>
        obtain ⟨j, hj, rfl, hown2, hB2⟩ := hrel
        by_cases hlt2 : j < p
        · have hl2 : (Y ++ nums j).length ≤ 250 := by simp [nums_length]; omega
          have hBs := hB2.size
          gi_wp2_with (gi_at_builtin; refine wpListIn_append_w _ rfl _ _ 22 rfl w8.heap.size 3 i0 (.int .i64 0) 1 8 Try.underlying22 hi hz0 hz1 hz2 rfl (by decide) _ _ _ rfl (hown2.alloc _) ⟨wr.heap.size, 0, none⟩ 1 1 (by decide) [encI j] rfl rfl (cell_one_new _ _ _) (by simp [Value.oneCell', encI]) (by unfold maxLen; omega) (by omega) (by simp; omega) ?_; intro v' w3 hown3 hgrow3 hwh3; have hB3 : Below w8.heap.size w8 w3 := hB2.trans (((Below.refl w8.heap.size _).alloc hBs _).grown hgrow3 (by simp; omega) (fun k hk => (hown2.lt k hk).1)))
          go_roundw
          case rel => exact ⟨j + 1, by omega, by simp, by rw [nums_succ, ← List.append_assoc]; simpa [Nat.add_assoc] using hown3, hB3⟩
          case measure => simp [intOf]; omega
        · obtain rfl : j = p := by omega
          gi_wp2
          go_roundw
          case rel => exact ⟨k + 1, by omega, by simp, by rw [Hfw.out]; exact hown2, hB2⟩
          case measure => simp [intOf]; omega
    · obtain rfl : k = xs.length := by omega
      rw [List.take_length] at hown
      have Hw := Lib.hid (Reads.of_row hown)
      have HBB2 := Lib.hid (HBB.out.trans (hB.mono HBB.out.size))
      have H1c := Lib.hid (H1b.out.below hB)
      have hlf := fews_len xs
      clear hown hB H1b HBB hi hz0 hz1 hz2
      gi_wp2_with fail
      refine ((callsIn_wide (n := 0)).2 (of17 _ (by omega) _ _ H1c.out)).mono ?_
      rintro e x1 ⟨sev, seC, rfl, se, hX1, _⟩
      gi_wp2_with fail
      refine ((callsIn_wide (n := 0)).2 (each_call (fun n => nums (fewN n)) se (few_fn x1 xs))).mono ?_
      rintro e x2 ⟨sfv, sfC, rfl, sf, hX2, _⟩
      have ef : (xs.flatMap fun n => nums (fewN n)) = fews xs := rfl
      rw [ef] at sf
      clear ef
      have hl1 : ((fews xs).take (999 : Int).toNat).length ≤ 100000 := by show ((fews xs).take 999).length ≤ 100000; simp; omega
      have ht1 : (fews xs).take (999 : Int).toNat = fews xs := List.take_of_length_le (by show (fews xs).length ≤ 999; omega)
      have Hl1 := Lib.hid hl1
      have Ht1 := Lib.hid ht1
      clear hl1 ht1
      gi_wp2_with fail
      refine ((callsIn_wide (n := 0)).2 (c16 _ _ _ _ sf 999 (by decide) Hl1.out)).mono ?_
      rintro e x3 ⟨rav, rfl, rar, hX3⟩
      have ra := Reads.of_row rar
      rw [Ht1.out] at ra
      clear rar
      gi_wp2_with fail
      refine ((callsIn_wide (n := 0)).2 (same15 _ (by omega) _ _ _ ra (Hw.out.below (lstep (lstep hX1 hX2) hX3)))).mono ?_
      rintro e x4 ⟨rfl, hX4⟩
      gi_wp2_with fail
      refine ((callsIn_wide (n := 0)).2 (awake19 _)).mono ?_
      rintro e x5 ⟨rfl, hX5⟩
      have hfin := lstep HBB2.out (lstep (lstep (lstep (lstep hX1 hX2) hX3) hX4) hX5)
      have Hfin := Lib.hid hfin
      clear hfin
      gi_wp2
      go_ret
      exact ⟨rfl, Hfin.out⟩
end Go.Proofs.Ytdfnainibjgenaa
