/- slices.AppendSeq, slices.Collect, gen.Collect at ints. -/
import Derived.Test.YtikomlcghplchaaTake
import Derived.Test.YtikomlcghplchaaSlices
namespace Go.Proofs.Ytikomlcghplchaa
open Go.RowKit Go.Shelf
set_option linter.unusedVariables false
set_option linter.unusedSimpArgs false
attribute [local go_sem] Oper.semAt_some wide_fn wide_depth

abbrev encI : Int → Value := Value.int .i64

/-- A new slice of these ints; nothing that lay has turned. -/
def GivesInts (xs : List Int) (w : World) (e : Ending) (w' : World) : Prop := ∃ v, e = .returned v ∧ w'.ownsRow w.heap.size 3 1 v xs.length (xs.map encI) ∧ Below w.heap.size w w'

theorem info3 : (Try.prog.info? 3).map (fun i => (i.zero, i.size, i.bytes)) = some (some (.int .i64 0), 1, 8) := by kernel_rfl

set_option maxRecDepth 100000 in
set_option maxHeartbeats 1000000 in
theorem a86 (xs : List Int) (hlen : xs.length ≤ 100000) (s : Value) (C : Nat → Prop) (w : World) (hs : SeqV Try.prog s C encI xs w) :
    Calls Try.prog 86 #[.slice none 0 0, s] w (GivesInts xs w) := by
  obtain ⟨gs, ls, hsf⟩ := hs.func
  obtain ⟨i0, hi, hz0, hz1, hz2⟩ := info_parts info3
  refine (callsIn_wide (n := 0)).1 ?_
  refine callsIn_of_wp_marks Try.func86 rfl trivial ?_ rfl
  simp only [Try.ntmps86, List.size_toArray, List.length_cons, List.length_nil, Nat.reduceAdd, Nat.reduceSub, Array.replicate_succ, Array.replicate_zero, List.push_toArray, List.append_toArray, List.nil_append, List.cons_append]
  subst hsf
  gi_wp2_with fail
  have e0 : Only (fun k => k = w.heap.size) w (w.alloc (.cells #[.slice none 0 0] 22)) := Only.alloc _ _ _
  have bO := Boxed.new w 22 (.slice none 0 0)
  have hClt := hs.1
  refine wpIn_rangeFunc_seq rfl (hs.only e0 (fun b hb e => by have := hClt b hb; omega)) (fun k => k = w.heap.size ∨ (Value.slice none 0 0).ownBlock = some k) (fun b hb => ?_) rfl (CollI w.heap.size 22 3 1 (fun x => [encI x])) (fun _ _ _ _ => False)
    (CollI.inv _ _ _ _ _ _) (fun _ => Inv.never _) ⟨_, rfl, bO, World.ownsRow_nil _ _ _ _⟩
    (fun x => { tmps := #[.slice none 0 0, .func (.func gs) #[] ls, .pointer (some ⟨w.heap.size, 0, none⟩), undef, .slice none 0 0, encI x, .func (.func gs) #[] ls, encI x, undef, undef, undef, undef, undef], defers := [] }) ?assign ?body ?done ?stop
  case assign =>
    intro l x W K hK
    gi_wp2
    exact hK
  case body =>
    rintro l pre x rest H1 W1 hx ⟨v, rfl, hv, hrow⟩ hl hl1 hl2
    have hpl : pre.length + 1 ≤ 100000 := by rw [hx] at hlen; simp at hlen; omega
    have hc := hv.cell
    have hBlt := hv.lt
    have HX := Lib.hid hx
    clear hx
    gi_wp2_with (gi_at_builtin; refine wpListIn_append_w _ rfl _ _ 22 rfl w.heap.size 3 i0 (.int .i64 0) 1 8 Try.underlying22 hi hz0 hz1 hz2 rfl (by decide) _ _ _ rfl (hrow.alloc _) ⟨W1.heap.size, 0, none⟩ 1 1 (by decide) [encI x] rfl rfl (cell_one_new _ _ _) (by simp [Value.oneCell', encI]) (by unfold maxLen; omega) (by omega) (by simp; omega) ?_; intro v' w1 hown' hgrow hwh; obtain ⟨hv1, H', hg', ho', hI'⟩ := CollI.step (x := x) (by decide) hv hrow hown' hgrow hwh; obtain ⟨g', cap', rfl⟩ := ownsRow_succ hown'; have hc1 := hv1.cell; have hf1 := hv1.frozen)
    exact ⟨H', hg', ho', hI'⟩
  case done =>
    rintro D H1 W1 ⟨v, rfl, hv, hrow⟩ hg ho hD hHD hK
    have hc := hv.cell
    gi_wp2
    refine ⟨by simp, .inl ⟨_, _, rfl, run_takeDeferred hK, ?_⟩⟩
    refine ⟨_, results_tmp rfl _ _ _, v, rfl, ?_, ?_⟩
    · have := ownsRow_putObj hrow (.deferred none) hK rfl
      simpa [List.flatMap_singleton', List.map_eq_flatMap] using this
    · exact ((e0.own (O := fun k => (Value.slice none 0 0).ownBlock = some k) ho (fun k hk => by simp [Value.ownBlock] at hk)).behind (by simp at hD; omega) _).below (fun b hb => by omega)
  case stop =>
    rintro D c pre H1 W1 _ h
    exact h.elim
  · rintro (e | e)
    · have := hClt b hb; omega
    · simp [Value.ownBlock] at e

set_option maxRecDepth 100000 in
set_option maxHeartbeats 1000000 in
theorem c57 (xs : List Int) (hlen : xs.length ≤ 100000) (s : Value) (C : Nat → Prop) (w : World) (hs : SeqV Try.prog s C encI xs w) :
    Calls Try.prog 57 #[s] w (GivesInts xs w) := by
  obtain ⟨gs, ls, hsf⟩ := hs.func
  refine (callsIn_wide (n := 0)).1 ?_
  refine callsIn_of_wp Try.func57 rfl trivial ?_ rfl
  simp only [Try.ntmps57, List.size_toArray, List.length_cons, List.length_nil, Nat.reduceAdd, Nat.reduceSub, Array.replicate_succ, Array.replicate_zero, List.push_toArray, List.append_toArray, List.nil_append, List.cons_append]
  subst hsf
  gi_wp2_with (gi_at_call 86; refine ((callsIn_wide (n := 0)).2 (a86 xs hlen _ C w hs)).mono ?_; rintro e w' ⟨v, rfl, hrow, hB⟩)
  go_ret
  exact ⟨v, rfl, hrow, hB⟩

set_option maxRecDepth 100000 in
set_option maxHeartbeats 1000000 in
/-- gen.Collect(s, most). -/
theorem c16 (xs : List Int) (s : Value) (C : Nat → Prop) (w : World) (hs : SeqV Try.prog s C encI xs w) (n : Int) (hw : (Lit.int .i64 n).wf = true) (hlen : (xs.take n.toNat).length ≤ 100000) :
    Calls Try.prog 16 #[s, .int .i64 n] w (GivesInts (xs.take n.toNat) w) := by
  obtain ⟨gs, ls, hsf⟩ := hs.func
  refine (callsIn_wide (n := 0)).1 ?_
  refine callsIn_of_wp Try.func16 rfl trivial ?_ rfl
  simp only [Try.ntmps16, List.size_toArray, List.length_cons, List.length_nil, Nat.reduceAdd, Nat.reduceSub, Array.replicate_succ, Array.replicate_zero, List.push_toArray, List.append_toArray, List.nil_append, List.cons_append]
  subst hsf
  gi_wp2_with (gi_at_call 25; refine ((callsIn_wide (n := 0)).2 (take_call hs hw)).mono ?_; rintro e w1 ⟨t, C', rfl, ht, hB1, _⟩)
  refine ((callsIn_wide (n := 0)).2 (c57 _ hlen _ _ _ ht)).mono ?_
  rintro e w2 ⟨v, rfl, hrow, hB2⟩
  gi_wp2
  go_ret
  exact ⟨v, rfl, row_base hrow hB1.size, hB1.trans (hB2.mono hB1.size)⟩
end Go.Proofs.Ytikomlcghplchaa
