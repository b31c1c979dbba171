/- maps.Values, slices.AppendSeq, slices.Collect at pairs of a string and nothing. -/
import Derived.Test.YtikomlcghplchaaValS
import Derived.Test.YtikomlcghplchaaSeqB
namespace Go.Proofs.Ytikomlcghplchaa
open Go.RowKit Go.Shelf
set_option linter.unusedVariables false
set_option linter.unusedSimpArgs false
attribute [local go_sem] Oper.semAt_some wide_fn wide_depth

set_option maxRecDepth 100000 in
set_option maxHeartbeats 1000000 in
theorem val148nil (y : Value) (hy : ∃ fn lb, y = .func fn #[] lb) (bs : Nat) (W : World) (hbs : Boxed W bs 74 (.map none)) :
    Calls Try.prog 148 #[y, .pointer (some ⟨bs, 0, none⟩)] W fun e w' => (∃ v, e = .returned v) ∧ w' = W.alloc (.mapIter none 0 #[] 0) := by
  obtain ⟨fn, lb, rfl⟩ := hy
  refine (callsIn_wide (n := 0)).1 ?_
  refine callsIn_of_wp Try.func148 rfl trivial ?_ rfl
  simp only [Try.ntmps148, List.size_toArray, List.length_cons, List.length_nil, Nat.reduceAdd, Nat.reduceSub, Array.replicate_succ, Array.replicate_zero, List.push_toArray, List.append_toArray, List.nil_append, List.cons_append]
  have hc1 := hbs.cell
  have hrg := run_range_nilMap (P := Try.prog) W 74 9 111 Try.underlying74
  have hnx : ∀ ty, (Instr.next (.pointer (some ⟨W.heap.size, 0, none⟩)) false ty).run Try.prog (W.alloc (.mapIter none 0 #[] 0)) = _ := fun ty => run_next_nilMap _ ty 0 0 #[]
  gi_wp2
  refine wpIn_loop_rounds 1 ?_
  rw [roundsIn_succ]
  gi_wp2
  go_end0
  exact ⟨⟨_, rfl⟩, rfl⟩

set_option maxRecDepth 100000 in
set_option maxHeartbeats 1000000 in
theorem values126 (m : Option Nat) (W : World) :
    Calls Try.prog 126 #[.map m] W fun e w' => e = .returned (.func (.func 148) #[] #[.pointer (some ⟨W.heap.size, 0, none⟩)]) ∧ W.alloc (.cells #[.map m] 74) = w' := by
  refine (callsIn_wide (n := 0)).1 ?_
  refine callsIn_of_wp Try.func126 rfl trivial ?_ rfl
  simp only [Try.ntmps126, List.size_toArray, List.length_cons, List.length_nil, Nat.reduceAdd, Nat.reduceSub, Array.replicate_succ, Array.replicate_zero, List.push_toArray, List.append_toArray, List.nil_append, List.cons_append]
  gi_wp2
  go_ret
  exact ⟨rfl, rfl⟩

/-- maps.Values(t.pairs). -/
theorem values_call {W : World} {T N : Nat} {m : Option Nat} {ks : List ByteArray} (h : TabS W T m N (ul ks)) :
    Calls Try.prog 126 #[.map m] W fun e w' => ∃ s, e = .returned s ∧ SeqP Try.prog s (fun k => k = W.heap.size ∨ m = some k) encP ks w' ∧ Below W.heap.size W w' := by
  refine Calls.mono (values126 m W) ?_
  rintro e w' ⟨rfl, rfl⟩
  have hB : Below W.heap.size W (W.alloc (.cells #[.map m] 74)) := (Below.refl _ W).alloc (Nat.le_refl _) _
  have bS := Boxed.new W 74 (.map m)
  have h2 := h.below hB
  refine ⟨_, rfl, ⟨?_, 148, _, rfl, enters_of Try.func148 (by kernel_rfl) rfl, ?_⟩, hB⟩
  · rintro k (rfl | hk)
    · exact bS.lt
    · exact h2.mlt hk
  intro y J Jx H w hy hC hCH hJ hJx hr h0
  have hbs : Boxed w W.heap.size 74 (.map m) := (hC _ (.inl rfl)).trans bS
  rcases h2.2 with ⟨rfl, hn⟩ | ⟨b, rfl, hne, hM⟩
  · obtain rfl : ks = [] := by simpa [ul] using hn
    refine Calls.mono (val148nil y hy _ w hbs) ?_
    rintro e w' ⟨hv, rfl⟩
    exact ⟨hv, H, Grows.refl _ _, Only.alloc _ _ _, .inl ⟨[], List.Perm.refl _, hJ.alloc h0 _⟩⟩
  · refine val148 ks N y hy _ b w hbs ⟨hM.1, ?_⟩ H (hCH b (.inr rfl)) J Jx hJ hJx hr h0
    obtain ⟨es, clock, hbl, r⟩ := hM.2
    exact ⟨es, clock, (hC b (.inr rfl)).trans hbl, r⟩

theorem info111 : (Try.prog.info? 111).map (fun i => (i.zero, i.size, i.bytes)) = some (some (.agg #[.string ByteArray.empty]), 1, 24) := by kernel_rfl
/-- A new slice of these pairs. -/
def GivesPairs (xs : List ByteArray) (w : World) (e : Ending) (w' : World) : Prop := ∃ v, e = .returned v ∧ w'.ownsRow w.heap.size 111 1 v xs.length (xs.map encS) ∧ Below w.heap.size w w'

set_option maxRecDepth 100000 in
set_option maxHeartbeats 1000000 in
theorem a159 (ks : List ByteArray) (hlen : ks.length ≤ 100000) (s : Value) (C : Nat → Prop) (w : World) (hs : SeqP Try.prog s C encP ks w) :
    Calls Try.prog 159 #[.slice none 0 0, s] w fun e w' => ∃ xs, xs.Perm ks ∧ GivesPairs xs w e w' := by
  obtain ⟨gs, ls, hsf⟩ := hs.func
  obtain ⟨i0, hi, hz0, hz1, hz2⟩ := info_parts info111
  refine (callsIn_wide (n := 0)).1 ?_
  refine callsIn_of_wp_marks Try.func159 rfl trivial ?_ rfl
  simp only [Try.ntmps159, List.size_toArray, List.length_cons, List.length_nil, Nat.reduceAdd, Nat.reduceSub, Array.replicate_succ, Array.replicate_zero, List.push_toArray, List.append_toArray, List.nil_append, List.cons_append]
  subst hsf
  gi_wp2_with fail
  have e0 : Only (fun k => k = w.heap.size) w (w.alloc (.cells #[.slice none 0 0] 120)) := Only.alloc _ _ _
  have bO := Boxed.new w 120 (.slice none 0 0)
  have hClt := hs.1
  refine wpIn_rangeFunc_seqPB rfl (hs.only e0 (fun b hb e => by have := hClt b hb; omega)) (fun k => k = w.heap.size ∨ (Value.slice none 0 0).ownBlock = some k) (fun b hb => ?_) rfl (CollI w.heap.size 120 111 1 (fun x => [encS x])) (fun _ _ _ _ => False)
    (CollI.inv _ _ _ _ _ _) (fun _ => Inv.never _) ⟨_, rfl, bO, World.ownsRow_nil _ _ _ _⟩ (fun x => .cells #[.string x] 111)
    (fun x B => { tmps := #[.slice none 0 0, .func (.func gs) #[] ls, .pointer (some ⟨w.heap.size, 0, none⟩), undef, .slice none 0 0, .pointer (some ⟨B, 0, none⟩), .func (.func gs) #[] ls, encP x, undef, undef, undef, undef, undef], defers := [] }) ?assign ?body ?done ?stop
  case assign =>
    intro l x W K hK
    gi_wp2
    exact hK
  case body =>
    rintro l pre x H1 W1 ⟨rest, hx⟩ ⟨v, rfl, hv, hrow⟩ hl hl1 hl2 B hB hHB hBl
    have hpl : pre.length + 1 ≤ 100000 := by have := hx.length_eq; simp at this; omega
    have hc := hv.cell
    have hcB : W1.cell? ⟨B, 0, none⟩ = some (.string x) := Boxed.cell (t := 111) hB
    have hBlt := hv.lt
    have hBl2 : B < W1.heap.size := (Array.getElem?_eq_some_iff.1 hB).1
    have HX := Lib.hid hx
    clear hx
    gi_wp2_with (gi_at_builtin; refine wpListIn_append_w _ rfl _ _ 120 rfl w.heap.size 111 i0 (.agg #[.string ByteArray.empty]) 1 24 Try.underlying120 hi hz0 hz1 hz2 rfl (by decide) _ _ _ rfl (hrow.alloc _) ⟨W1.heap.size, 0, none⟩ 1 1 (by decide) [encS x] rfl rfl (cell_one_new _ _ _) (by simp [Value.oneCell', encS]) (by unfold maxLen; omega) (by omega) (by simp; omega) ?_; intro v' w1 hown' hgrow hwh; obtain ⟨hv1, H', hg', ho', hI'⟩ := CollI.step (x := x) (by decide) hv hrow hown' hgrow hwh; obtain ⟨g', cap', rfl⟩ := ownsRow_succ hown'; have hc1 := hv1.cell; have hf1 := hv1.frozen)
    exact ⟨H', hg', ho', hI'⟩
  case done =>
    rintro D xs H1 W1 hperm ⟨v, rfl, hv, hrow⟩ hg ho hD hHD hK
    have hc := hv.cell
    gi_wp2
    refine ⟨by simp, .inl ⟨_, _, rfl, run_takeDeferred hK, ?_⟩⟩
    refine ⟨_, results_tmp rfl _ _ _, xs, hperm, v, rfl, ?_, ?_⟩
    · have := ownsRow_putObj hrow (.deferred none) hK rfl
      simpa [List.flatMap_singleton', List.map_eq_flatMap] using this
    · exact ((e0.own (O := fun k => (Value.slice none 0 0).ownBlock = some k) ho (fun k hk => by simp [Value.ownBlock] at hk)).behind (by simp at hD; omega) _).below (fun b hb => by omega)
  case stop =>
    rintro D c pre H1 W1 h
    exact h.elim
  · rintro (e | e)
    · have := hClt b hb; omega
    · simp [Value.ownBlock] at e

set_option maxRecDepth 100000 in
set_option maxHeartbeats 1000000 in
theorem c146 (ks : List ByteArray) (hlen : ks.length ≤ 100000) (s : Value) (C : Nat → Prop) (w : World) (hs : SeqP Try.prog s C encP ks w) :
    Calls Try.prog 146 #[s] w fun e w' => ∃ xs, xs.Perm ks ∧ GivesPairs xs w e w' := by
  obtain ⟨gs, ls, hsf⟩ := hs.func
  refine (callsIn_wide (n := 0)).1 ?_
  refine callsIn_of_wp Try.func146 rfl trivial ?_ rfl
  simp only [Try.ntmps146, List.size_toArray, List.length_cons, List.length_nil, Nat.reduceAdd, Nat.reduceSub, Array.replicate_succ, Array.replicate_zero, List.push_toArray, List.append_toArray, List.nil_append, List.cons_append]
  subst hsf
  gi_wp2_with (gi_at_call 159; refine ((callsIn_wide (n := 0)).2 (a159 ks hlen _ C w hs)).mono ?_; rintro e w' ⟨xs, hperm, v, rfl, hrow, hB⟩)
  go_ret
  exact ⟨xs, hperm, v, rfl, hrow, hB⟩
end Go.Proofs.Ytikomlcghplchaa
