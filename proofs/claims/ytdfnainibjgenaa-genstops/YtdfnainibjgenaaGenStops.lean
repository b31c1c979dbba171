/- GenStops answers true: its walk. -/
import Derived.Test.YtdfnainibjgenaaMapE
import Derived.Test.YtdfnainibjgenaaGenSorted
namespace Go.Proofs.Ytdfnainibjgenaa
open Go.RowKit Go.Shelf
set_option linter.unusedVariables false
set_option linter.unusedSimpArgs false
attribute [local go_sem] Oper.semAt_some wide_fn wide_depth
attribute [local go_sem high] run_imin run_imax

theorem Reads.srcS {W : World} {a : Option Addr} {n c : Nat} {xs : List Int} (h : Reads encI W (.slice a n c) xs) (hne : xs ≠ []) : ∃ b off, a = some ⟨b, off, none⟩ ∧ n = xs.length ∧ ∀ j u, (xs.map encI)[j]? = some u → W.cell? ((⟨b, off, none⟩ : Addr).add j) = some u := by
  rcases h with ⟨_, h⟩ | ⟨b, off, cap, e, _, h2⟩
  · exact absurd h hne
  · simp at e
    refine ⟨b, off, e.1, e.2.1, fun j u hj => ?_⟩
    rw [addr_add]
    simp only [List.getElem?_map, Option.map_eq_some_iff] at hj
    obtain ⟨x, hx, rfl⟩ := hj
    exact h2 j x hx

theorem wpListIn_append_runS {F : Fence} {n : Nat} {P : Program} (w : World) {ops : Array Oper} {rest : List Oper} {o : Oper} {a : Act} {Q : Exit → Act → World → Prop}
    (hg : o.guard = none) (s x : Operand) (t : TypeId) (hop : o.op = Op.call { callee := Callee.builtin Builtin.append, args := #[s, x], argTypes := #[t, t] }) (v xv : Value) (hs : a.eval s = v) (hx : a.eval x = xv) {v' : Value} {w' : World}
    (hrun : (Builtin.append_ #[t, t] o.type #[v, xv]).run P w = .ok v' w') (hK : wpListIn F n P ops Q rest (a.put o.dst v') w') : wpListIn F n P ops Q (o :: rest) a w := by
  refine wpListIn_plain hg fun K hK' => ?_
  refine ⟨?_, ?_⟩
  · simp [Oper.about, hop, resolve, Target.leads, Sem.run_pure]
  · rw [Oper.semAt_plain F _ _ (by rw [hop]; intro c hc'; cases hc')]
    simp [execOp, hop, resolve, invoke, builtin, hs, hx, hrun, Result.andThen]
    exact hK' _ _ hK

/-- 'append(s, t...)' onto a row of one's own. -/
theorem run_append_readsS {w : World} {base n : Nat} {v : Value} {al : List Int} (hown : w.ownsRow base 3 1 v n (al.map encI)) {a : Option Addr} {m c : Nat} {xs : List Int} (hx : Reads encI w (.slice a m c) xs) (ty : TypeId) (hlen : n + xs.length ≤ 1000) (hb : base ≤ w.heap.size) :
    ∃ v' w', (Builtin.append_ #[22, 22] ty #[v, .slice a m c]).run Try.prog w = .ok v' w' ∧ w'.ownsRow base 3 1 v' (n + xs.length) ((al ++ xs).map encI) ∧ Below base w w' := by
  obtain ⟨i0, hi, hz0, hz1, hz2⟩ := info_parts info3
  have hm := hx.cap.2
  subst hm
  cases a with
  | none =>
    have h0 : xs = [] := by
      rcases hx with ⟨_, h⟩ | ⟨b, off, cap, e, _, _⟩
      · exact h
      · simp at e
    subst h0
    refine ⟨v, w, ?_, by simpa using hown, Below.refl _ _⟩
    rcases hown.2 with ⟨rfl, rfl⟩ | ⟨g, cap, cur, rfl, _, _, hnc, _⟩
    · simp [Builtin.append_, run_underlying Try.underlying22, sizeOf, typeInfo, hi, Builtin.lenOf, Builtin.firstCells]
    · simp [Builtin.append_, run_underlying Try.underlying22, sizeOf, typeInfo, hi, Builtin.lenOf, Builtin.firstCells, hnc, storeCells]
  | some ad =>
    obtain ⟨v', w', hr, r1, r2, _⟩ := run_append_own (P := Try.prog) w base 22 ty 3 i0 (.int .i64 0) 1 8 Try.underlying22 hi hz0 hz1 hz2 rfl (by decide) v n _ hown ad xs.length c (xs.map encI) (by simp) (by
      by_cases hne : xs = []
      · subst hne; intro j u hj; simp at hj
      · obtain ⟨b, off, e, _, h2⟩ := hx.srcS hne
        simp at e
        subst e
        exact h2) (by simp [Value.oneCell', encI]) (by unfold maxLen; omega) (by omega) hb
    refine ⟨v', w', hr, by simpa using r1, (Below.refl base w).grown r2 hb fun k hk => (hown.lt k hk).1⟩

theorem Reads.only {α : Type} {enc : α → Value} {W W' : World} {v : Value} {xs : List α} {H : Nat → Prop} (h : Reads enc W v xs) (ho : Only H W W') (hb : ∀ b o l c, v = .slice (some ⟨b, o, none⟩) l c → ¬ H b) : Reads enc W' v xs := by
  rcases h with h | ⟨b, off, cap, rfl, h1, h2⟩
  · exact .inl h
  · refine .inr ⟨b, off, cap, rfl, h1, fun j u hj => ?_⟩
    have hc := h2 j u hj
    obtain ⟨o, ho', _⟩ := cells_of_cell hc
    exact (ho.cell (p := ⟨b, off + j, none⟩) (Array.getElem?_eq_some_iff.1 ho').1 (hb _ _ _ _ rfl)).trans hc

set_option maxRecDepth 100000 in
set_option maxHeartbeats 2000000 in
theorem genStops_walk (l : List Int) (hm : l.length ≤ maxLen) (hwf : ∀ x ∈ l, (Lit.int .i64 x).wf = true) (v : Value) (n : Int) (hn : (Lit.int .i64 n).wf = true) (w : World) (hv : Reads encI w v l) :
    Calls Try.prog 11 #[v, .int .i64 n] w fun e w' => e = .returned (.bool true) ∧ Below w.heap.size w w' := by
  refine (callsIn_wide (n := 0)).1 ?_
  refine callsIn_of_wp Try.func11 rfl trivial ?_ rfl
  simp only [Try.ntmps11, List.size_toArray, List.length_cons, List.length_nil, Nat.reduceAdd, Nat.reduceSub, Array.replicate_succ, Array.replicate_zero, List.push_toArray, List.append_toArray, List.nil_append, List.cons_append]
  obtain ⟨a0, c0, e0⟩ := hv.form
  have hBz : Below w.heap.size w (w.alloc (.cells #[] 3)) := (Below.refl _ _).alloc (Nat.le_refl _) _
  have Hv := Lib.hid (hv.below hBz)
  have Hn := Lib.hid hn
  clear hv hn
  subst e0
  gi_wp2_with fail
  refine ((callsIn_wide (n := 0)).2 (short14 l hm _ _ Hv.out)).mono ?_
  rintro e w' ⟨⟨v1, rfl, hv1⟩, rfl⟩
  have hwf1 : ∀ x ∈ l.take 60, (Lit.int .i64 x).wf = true := fun x hx => hwf x (List.mem_of_mem_take hx)
  obtain ⟨ys, hys⟩ : ∃ ys, l.take 60 = ys := ⟨_, rfl⟩
  rw [hys] at hv1 hwf1
  have hlen : ys.length ≤ 60 := by rw [← hys]; simp; omega
  have Hw := Lib.hid hwf1
  obtain ⟨a1, c1, e1⟩ := hv1.form
  have own0 := World.ownsRow_lit (base := w.heap.size) (e := 3) (size := 1) w #[] 0 (Nat.le_refl _) (by decide) rfl
  rw [e1] at hv1
  obtain ⟨va, wa, hra, owna, hBa⟩ := run_append_readsS (al := []) own0 hv1 22 (by omega) hBz.size
  have owna : wa.ownsRow w.heap.size 3 1 va ys.length (ys.map encI) := by simpa using owna
  have hBwa := hBz.trans hBa
  have Hra := Lib.hid (Reads.of_row owna)
  obtain ⟨aa, ca, ea⟩ := Hra.out.form
  have hblk : ∀ b o l c, va = .slice (some ⟨b, o, none⟩) l c → w.heap.size ≤ b ∧ b < wa.heap.size := by
    rintro b o l c rfl
    exact owna.lt b rfl
  clear hys hwf hwf1 Hv hm hv1 own0 owna hBz hBa
  subst e1
  gi_wp2_with (gi_at_builtin; refine wpListIn_append_runS _ rfl _ _ 22 rfl _ _ rfl rfl hra ?_)
  subst ea
  have Hblk := Lib.hid hblk
  have HBwa := Lib.hid hBwa
  clear hra hblk hBwa
  gi_wp2_with fail
  have bC := Boxed.new wa 3 (.int .i64 0)
  have hB2 : Below wa.heap.size wa (wa.alloc (.cells #[.int .i64 0] 3)) := (Below.refl _ _).alloc (Nat.le_refl _) _
  have hsz2 : (wa.alloc (.cells #[.int .i64 0] 3)).heap.size = wa.heap.size + 1 := by simp
  have Hr2 := Lib.hid (Hra.out.below hB2)
  refine ((callsIn_wide (n := 0)).2 (of17 ys (by omega) _ _ Hr2.out)).mono ?_
  rintro e w3 ⟨s3, C3, rfl, hs3, hB3, hC3⟩
  obtain ⟨g3, l3, rfl⟩ := hs3.func
  have bC3 : Boxed w3 wa.heap.size 3 (.int .i64 (0 : Nat)) := (hB3.block _ bC.lt).trans bC
  have HB3 := Lib.hid (hB2.trans (hB3.mono hB2.size))
  have Hs3 := Lib.hid hs3
  have hsz3 := hB3.size
  clear hs3 hB2 hB3 bC
  gi_wp2_with fail
  refine ((callsIn_wide (n := 0)).2 (map_callE wa.heap.size Hs3.out)).mono ?_
  rintro e w4 ⟨s4, C4, rfl, hs4, hB4, hC4⟩
  obtain ⟨g4, l4, rfl⟩ := hs4.func
  have bC4 : Boxed w4 wa.heap.size 3 (.int .i64 (0 : Nat)) := (hB4.block _ bC3.lt).trans bC3
  have hsz4 := hB4.size
  have hnC : ¬ C4 wa.heap.size := fun e => by
    rcases hC4 _ e with h | h
    · rcases hC3 _ h with h | h
      · exact h
      · omega
    · omega
  have HB4 := Lib.hid (HB3.out.trans (hB4.mono HB3.out.size))
  have Hs4 := Lib.hid hs4
  obtain ⟨k, hk⟩ : ∃ k : Nat, k = min n.toNat ys.length := ⟨_, rfl⟩
  have himm : imax 0 (imin n (ys.length : Int)) = (k : Int) := by rw [imm, hk]
  have hmm2 : max 0 (min n (ys.length : Int)) = (k : Int) := by rw [hk]; omega
  have hkt : (ys.take n.toNat).length = k := by rw [List.length_take, hk]
  have hkt2 : ((ys.take n.toNat).take (99 : Int).toNat).length = k := by rw [List.length_take, hkt]; show min 99 k = k; omega
  have Hc5 := Lib.hid (c16E ys _ _ _ 3 0 w4 hs4 bC4 (by decide) hnC n Hn.out (by omega))
  clear hs4 hB4 bC3 hk hC4 hC3 HB3 Hs3
  gi_wp2_with fail
  refine ((callsIn_wide (n := 0)).2 Hc5.out).mono ?_
  rintro e w5 ⟨v5, rfl, hrow5, hbc5, ho5⟩
  obtain ⟨a5, c5, e5⟩ := (Reads.of_row hrow5).form
  rw [hkt] at e5 hbc5
  rw [Nat.zero_add] at hbc5
  have hc5 := hbc5.cell
  have hf5 := hbc5.frozen
  have hl5 := hbc5.lt
  have hne : ((k : Int) != (k : Int)) = false := by simp
  have bC6 : Boxed (w5.setCell ⟨wa.heap.size, 0, none⟩ (.int .i64 0)) wa.heap.size 3 (.int .i64 (0 : Nat)) := hbc5.set _
  have ho6 : Only (fun b => b = wa.heap.size) w4 (w5.setCell ⟨wa.heap.size, 0, none⟩ (.int .i64 0)) := ho5.trans (Only.setCell (H := fun b => b = wa.heap.size) (a := ⟨wa.heap.size, 0, none⟩) (.inl rfl) _) (Grows.refl _ _)
  have Hs6 := Lib.hid (Hs4.out.only ho6 (fun b hb e => hnC (e ▸ hb)))
  have Hb6 := Lib.hid bC6
  have Ho6 := Lib.hid ho6
  clear hrow5 hbc5 ho5 Hc5 bC4 Hs4 bC6 ho6
  subst e5
  gi_wp2_with fail
  refine ((callsIn_wide (n := 0)).2 (take_callE Hs6.out Hn.out)).mono ?_
  rintro e w7 ⟨s7, C7, rfl, hs7, hB7, hC7⟩
  obtain ⟨g7, l7, rfl⟩ := hs7.func
  have bC7 : Boxed w7 wa.heap.size 3 (.int .i64 (0 : Nat)) := (hB7.block _ Hb6.out.lt).trans Hb6.out
  have hnC7 : ¬ C7 wa.heap.size := fun e => (hC7 _ e).elim hnC (fun e' => by have := Hb6.out.lt; omega)
  have Hc8 := Lib.hid (c16E (ys.take n.toNat) _ _ _ 3 0 w7 hs7 bC7 (by decide) hnC7 99 (by decide) (by omega))
  have Ho7 := Lib.hid (Ho6.out.trans (Only.of_below (H := fun b => b = wa.heap.size) hB7) (Grows.refl _ _))
  clear hs7 hB7 hC7 bC7 hnC7 hc5 hf5 Ho6 Hs6 Hb6
  gi_wp2_with fail
  refine ((callsIn_wide (n := 0)).2 Hc8.out).mono ?_
  rintro e w8 ⟨v8, rfl, hrow8, hbc8, ho8⟩
  obtain ⟨a8, c8, e8⟩ := (Reads.of_row hrow8).form
  rw [hkt2] at e8 hbc8
  rw [Nat.zero_add] at hbc8
  have hc8 := hbc8.cell
  have ho48 := Ho7.out.trans ho8 (Grows.refl _ _)
  have hrd8 : Reads encI w8 (.slice aa ys.length ca) ys := by
    refine Reads.only (H := fun b => b = wa.heap.size) (Hra.out.only (Only.of_below (H := fun b => b = wa.heap.size) HB4.out) (fun b o l c e h => ?_)) ho48 (fun b o l c e h => ?_)
    · have := (Hblk.out b o l c e).2; omega
    · have := (Hblk.out b o l c e).2; omega
  have Hrd8 := Lib.hid hrd8
  have HB8 : Hid (Below w.heap.size w w8) := ((Only.of_below (H := fun _ => False) (HBwa.out.trans (HB4.out.mono HBwa.out.size))).trans ho48 (fun b hb => .inr (by have := HBwa.out.size; omega))).below (fun b hb => hb.elim)
  have Hset := Lib.hid (newset49 ys (by omega) Hw.out _ w8 hrd8)
  clear hrow8 ho8 Ho7 Hc8 ho48 hrd8 HB4 HBwa Hblk Hra Hr2 hbc8
  subst e8
  gi_wp2_with fail
  refine ((callsIn_wide (n := 0)).2 Hset.out).mono ?_
  rintro e w9 ⟨m9, N9, rfl, hN9, hT9, hm9, hB9⟩
  have hkl : (setOfL ys).length ≤ 60 := Nat.le_trans setOfL_length hlen
  obtain ⟨ks, hks⟩ : ∃ ks, ks = setOfL ys := ⟨_, rfl⟩
  rw [← hks] at hT9 hkl
  have HT9 := Lib.hid hT9
  have HB9 := Lib.hid (HB8.out.trans (hB9.mono HB8.out.size))
  have hw8 := HB8.out.size
  have Hm9 : Hid (∀ b, m9 = some b → w.heap.size ≤ b) := fun b hb => Nat.le_trans hw8 (hm9 b hb)
  clear hT9 hB9 hm9 Hset HB8 hks Hrd8
  gi_wp2_with fail
  refine ((callsIn_wide (n := 0)).2 (all50 HT9.out (by omega))).mono ?_
  rintro e w10 ⟨s10, C10, rfl, hs10, hB10, hC10⟩
  obtain ⟨g10, l10, rfl⟩ := hs10.func
  have HT10 := Lib.hid (HT9.out.below hB10)
  have HB10 := Lib.hid (HB9.out.trans (hB10.mono HB9.out.size))
  have Hs10 := Lib.hid hs10
  have Hdis : Hid (∀ b, C10 b → ¬ (b = w8.heap.size ∨ m9 = some b)) := fun b hb e => by
    have h9 := (hC10 b hb).resolve_left (fun h => h)
    rcases e with e | e
    · have := HT9.out.lt; omega
    · have := HT9.out.mlt e; omega
  clear hs10 hB10 hC10 HB9
  gi_wp2_with fail
  refine ((callsIn_wide (n := 0)).2 (len51 HT10.out)).mono ?_
  rintro e w11 ⟨rfl, rfl⟩
  gi_wp2_with fail
  refine ((callsIn_wide (n := 0)).2 (add52 HT10.out (by omega) (by decide))).mono ?_
  rintro e w12 ⟨rfl, m12, _, hm12, ho12⟩
  have Hs12 := Lib.hid (Hs10.out.only ho12 Hdis.out)
  have HB12 : Hid (Below w.heap.size w w12) := ((Only.of_below (H := fun _ => False) HB10.out).trans ho12 (fun b hb => .inr (by rcases hb with rfl | hb; exact hw8; exact Hm9.out b hb))).below (fun b hb => hb.elim)
  have heq : ((ks.length : Int) == (ks.length : Int)) = true := by simp
  clear hm12 ho12 HT10 HB10 Hs10 Hdis HT9
  gi_wp2_with fail
  refine ((callsIn_wide (n := 0)).2 (c16 ks _ _ _ Hs12.out 99 (by decide) (by simp; omega))).mono ?_
  rintro e w13 ⟨v13, rfl, hrow13, hB13⟩
  rw [List.take_of_length_le (by simpa using Nat.le_trans hkl (by decide))] at hrow13
  obtain ⟨a13, c13, e13⟩ := (Reads.of_row hrow13).form
  have HB13 := Lib.hid (HB12.out.trans (hB13.mono HB12.out.size))
  clear hrow13 hB13 HB12 Hs12
  subst e13
  gi_wp2_with fail
  refine ((callsIn_wide (n := 0)).2 (awake19 w13)).mono ?_
  rintro e w14 ⟨rfl, hB14⟩
  gi_wp2
  go_ret
  exact ⟨rfl, HB13.out.trans (hB14.mono HB13.out.size)⟩
end Go.Proofs.Ytdfnainibjgenaa
