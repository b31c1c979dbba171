/- slices.AppendSeq, slices.Collect, gen.Collect at strings. -/
import Derived.Test.YtikomlcghplchaaTakeX
import Derived.Test.YtikomlcghplchaaMapS
namespace Go.Proofs.Ytikomlcghplchaa
open Go.RowKit Go.Shelf
set_option linter.unusedVariables false
set_option linter.unusedSimpArgs false
attribute [local go_sem] Oper.semAt_some wide_fn wide_depth

/-- A new slice of these strings; nothing that lay has turned. -/
def GivesStrs (xs : List ByteArray) (w : World) (e : Ending) (w' : World) : Prop := ∃ v, e = .returned v ∧ w'.ownsRow w.heap.size 9 1 v xs.length (xs.map encS) ∧ Below w.heap.size w w'

theorem info9 : (Try.prog.info? 9).map (fun i => (i.zero, i.size, i.bytes)) = some (some (.string ByteArray.empty), 1, 16) := by kernel_rfl

set_option maxRecDepth 100000 in
set_option maxHeartbeats 1000000 in
theorem a94 (xs : List ByteArray) (hlen : xs.length ≤ 100000) (s : Value) (C : Nat → Prop) (w : World) (hs : SeqV Try.prog s C encS xs w) :
    Calls Try.prog 94 #[.slice none 0 0, s] w (GivesStrs xs w) := by
  obtain ⟨gs, ls, hsf⟩ := hs.func
  obtain ⟨i0, hi, hz0, hz1, hz2⟩ := info_parts info9
  refine (callsIn_wide (n := 0)).1 ?_
  refine callsIn_of_wp_marks Try.func94 rfl trivial ?_ rfl
  simp only [Try.ntmps94, List.size_toArray, List.length_cons, List.length_nil, Nat.reduceAdd, Nat.reduceSub, Array.replicate_succ, Array.replicate_zero, List.push_toArray, List.append_toArray, List.nil_append, List.cons_append]
  subst hsf
  gi_wp2_with fail
  have e0 : Only (fun k => k = w.heap.size) w (w.alloc (.cells #[.slice none 0 0] 48)) := Only.alloc _ _ _
  have bO := Boxed.new w 48 (.slice none 0 0)
  have hClt := hs.1
  refine wpIn_rangeFunc_seq rfl (hs.only e0 (fun b hb e => by have := hClt b hb; omega)) (fun k => k = w.heap.size ∨ (Value.slice none 0 0).ownBlock = some k) (fun b hb => ?_) rfl (CollI w.heap.size 48 9 1 (fun x => [encS x])) (fun _ _ _ _ => False)
    (CollI.inv _ _ _ _ _ _) (fun _ => Inv.never _) ⟨_, rfl, bO, World.ownsRow_nil _ _ _ _⟩
    (fun x => { tmps := #[.slice none 0 0, .func (.func gs) #[] ls, .pointer (some ⟨w.heap.size, 0, none⟩), undef, .slice none 0 0, encS x, .func (.func gs) #[] ls, encS x, undef, undef, undef, undef, undef], defers := [] }) ?assign ?body ?done ?stop
  case assign =>
    intro l x W K hK
    gi_wp2
    exact hK
  case body =>
    rintro l pre x rest H1 W1 hx ⟨v, rfl, hv, hrow⟩ hl hl1 hl2
    have hpl : pre.length + 1 ≤ 100000 := by rw [hx] at hlen; simp at hlen; omega
    have hc := hv.cell
    have hBlt := hv.lt
    have HX := Lib.hid hx
    clear hx
    gi_wp2_with (gi_at_builtin; refine wpListIn_append_w _ rfl _ _ 48 rfl w.heap.size 9 i0 (.string ByteArray.empty) 1 16 Try.underlying48 hi hz0 hz1 hz2 rfl (by decide) _ _ _ rfl (hrow.alloc _) ⟨W1.heap.size, 0, none⟩ 1 1 (by decide) [encS x] rfl rfl (cell_one_new _ _ _) (by simp [Value.oneCell', encS]) (by unfold maxLen; omega) (by omega) (by simp; omega) ?_; intro v' w1 hown' hgrow hwh; obtain ⟨hv1, H', hg', ho', hI'⟩ := CollI.step (x := x) (by decide) hv hrow hown' hgrow hwh; obtain ⟨g', cap', rfl⟩ := ownsRow_succ hown'; have hc1 := hv1.cell; have hf1 := hv1.frozen)
    exact ⟨H', hg', ho', hI'⟩
  case done =>
    rintro D H1 W1 ⟨v, rfl, hv, hrow⟩ hg ho hD hHD hK
    have hc := hv.cell
    gi_wp2
    refine ⟨by simp, .inl ⟨_, _, rfl, run_takeDeferred hK, ?_⟩⟩
    refine ⟨_, results_tmp rfl _ _ _, v, rfl, ?_, ?_⟩
    · have := ownsRow_putObj hrow (.deferred none) hK rfl
      simpa [List.flatMap_singleton', List.map_eq_flatMap] using this
    · exact ((e0.own (O := fun k => (Value.slice none 0 0).ownBlock = some k) ho (fun k hk => by simp [Value.ownBlock] at hk)).behind (by simp at hD; omega) _).below (fun b hb => by omega)
  case stop =>
    rintro D c pre H1 W1 _ h
    exact h.elim
  · rintro (e | e)
    · have := hClt b hb; omega
    · simp [Value.ownBlock] at e

set_option maxRecDepth 100000 in
set_option maxHeartbeats 1000000 in
theorem c74 (xs : List ByteArray) (hlen : xs.length ≤ 100000) (s : Value) (C : Nat → Prop) (w : World) (hs : SeqV Try.prog s C encS xs w) :
    Calls Try.prog 74 #[s] w (GivesStrs xs w) := by
  obtain ⟨gs, ls, hsf⟩ := hs.func
  refine (callsIn_wide (n := 0)).1 ?_
  refine callsIn_of_wp Try.func74 rfl trivial ?_ rfl
  simp only [Try.ntmps74, List.size_toArray, List.length_cons, List.length_nil, Nat.reduceAdd, Nat.reduceSub, Array.replicate_succ, Array.replicate_zero, List.push_toArray, List.append_toArray, List.nil_append, List.cons_append]
  subst hsf
  gi_wp2_with (gi_at_call 94; refine ((callsIn_wide (n := 0)).2 (a94 xs hlen _ C w hs)).mono ?_; rintro e w' ⟨v, rfl, hrow, hB⟩)
  go_ret
  exact ⟨v, rfl, hrow, hB⟩

set_option maxRecDepth 100000 in
set_option maxHeartbeats 1000000 in
/-- gen.Collect(s, most). -/
theorem c39 (xs : List ByteArray) (s : Value) (C : Nat → Prop) (w : World) (hs : SeqV Try.prog s C encS xs w) (n : Int) (hw : (Lit.int .i64 n).wf = true) (hlen : (xs.take n.toNat).length ≤ 100000) :
    Calls Try.prog 39 #[s, .int .i64 n] w (GivesStrs (xs.take n.toNat) w) := by
  obtain ⟨gs, ls, hsf⟩ := hs.func
  refine (callsIn_wide (n := 0)).1 ?_
  refine callsIn_of_wp Try.func39 rfl trivial ?_ rfl
  simp only [Try.ntmps39, List.size_toArray, List.length_cons, List.length_nil, Nat.reduceAdd, Nat.reduceSub, Array.replicate_succ, Array.replicate_zero, List.push_toArray, List.append_toArray, List.nil_append, List.cons_append]
  subst hsf
  gi_wp2_with (gi_at_call 75; refine ((callsIn_wide (n := 0)).2 (take_callX hs hw)).mono ?_; rintro e w1 ⟨t, C', rfl, ht, hB1, _⟩)
  refine ((callsIn_wide (n := 0)).2 (c74 _ hlen _ _ _ ht)).mono ?_
  rintro e w2 ⟨v, rfl, hrow, hB2⟩
  gi_wp2
  go_ret
  exact ⟨v, rfl, row_base hrow hB1.size, hB1.trans (hB2.mono hB1.size)⟩
end Go.Proofs.Ytikomlcghplchaa
