/- maps.Values, slices.AppendSeq, slices.Collect at pairs of a string and an int. -/
import Derived.Test.YtikomlcghplchaaValT
import Derived.Test.YtikomlcghplchaaHelps
import Derived.Test.YtikomlcghplchaaSeqB
namespace Go.Proofs.Ytikomlcghplchaa
open Go.RowKit Go.Shelf
set_option linter.unusedVariables false
set_option linter.unusedSimpArgs false
attribute [local go_sem] Oper.semAt_some wide_fn wide_depth

set_option maxRecDepth 100000 in
set_option maxHeartbeats 1000000 in
theorem val133nil (y : Value) (hy : ∃ fn lb, y = .func fn #[] lb) (bs : Nat) (W : World) (hbs : Boxed W bs 86 (.map none)) :
    Calls Try.prog 133 #[y, .pointer (some ⟨bs, 0, none⟩)] W fun e w' => (∃ v, e = .returned v) ∧ w' = W.alloc (.mapIter none 0 #[] 0) := by
  obtain ⟨fn, lb, rfl⟩ := hy
  refine (callsIn_wide (n := 0)).1 ?_
  refine callsIn_of_wp Try.func133 rfl trivial ?_ rfl
  simp only [Try.ntmps133, List.size_toArray, List.length_cons, List.length_nil, Nat.reduceAdd, Nat.reduceSub, Array.replicate_succ, Array.replicate_zero, List.push_toArray, List.append_toArray, List.nil_append, List.cons_append]
  have hc1 := hbs.cell
  have hrg := run_range_nilMap (P := Try.prog) W 86 9 90 Try.underlying86
  have hnx : ∀ ty, (Instr.next (.pointer (some ⟨W.heap.size, 0, none⟩)) false ty).run Try.prog (W.alloc (.mapIter none 0 #[] 0)) = _ := fun ty => run_next_nilMap _ ty 0 0 #[]
  gi_wp2
  refine wpIn_loop_rounds 1 ?_
  rw [roundsIn_succ]
  gi_wp2
  go_end0
  exact ⟨⟨_, rfl⟩, rfl⟩

set_option maxRecDepth 100000 in
set_option maxHeartbeats 1000000 in
theorem values108 (m : Option Nat) (W : World) :
    Calls Try.prog 108 #[.map m] W fun e w' => e = .returned (.func (.func 133) #[] #[.pointer (some ⟨W.heap.size, 0, none⟩)]) ∧ W.alloc (.cells #[.map m] 86) = w' := by
  refine (callsIn_wide (n := 0)).1 ?_
  refine callsIn_of_wp Try.func108 rfl trivial ?_ rfl
  simp only [Try.ntmps108, List.size_toArray, List.length_cons, List.length_nil, Nat.reduceAdd, Nat.reduceSub, Array.replicate_succ, Array.replicate_zero, List.push_toArray, List.append_toArray, List.nil_append, List.cons_append]
  gi_wp2
  go_ret
  exact ⟨rfl, rfl⟩

/-- maps.Values(t.pairs). -/
theorem values_callT {W : World} {T N : Nat} {m : Option Nat} {ks : List (ByteArray × Int)} (h : TabT W T m N ks) :
    Calls Try.prog 108 #[.map m] W fun e w' => ∃ s, e = .returned s ∧ SeqP Try.prog s (fun k => k = W.heap.size ∨ m = some k) encQ ks w' ∧ Below W.heap.size W w' := by
  refine Calls.mono (values108 m W) ?_
  rintro e w' ⟨rfl, rfl⟩
  have hB : Below W.heap.size W (W.alloc (.cells #[.map m] 86)) := (Below.refl _ W).alloc (Nat.le_refl _) _
  have bS := Boxed.new W 86 (.map m)
  have h2 := h.below hB
  refine ⟨_, rfl, ⟨?_, 133, _, rfl, enters_of Try.func133 (by kernel_rfl) rfl, ?_⟩, hB⟩
  · rintro k (rfl | hk)
    · exact bS.lt
    · exact h2.mlt hk
  intro y J Jx H w hy hC hCH hJ hJx hr h0
  have hbs : Boxed w W.heap.size 86 (.map m) := (hC _ (.inl rfl)).trans bS
  rcases h2.2 with ⟨rfl, hn⟩ | ⟨b, rfl, hne, hM⟩
  · obtain rfl : ks = [] := hn
    refine Calls.mono (val133nil y hy _ w hbs) ?_
    rintro e w' ⟨hv, rfl⟩
    exact ⟨hv, H, Grows.refl _ _, Only.alloc _ _ _, .inl ⟨[], List.Perm.refl _, hJ.alloc h0 _⟩⟩
  · refine val133 ks N y hy _ b w hbs ⟨hM.1, ?_⟩ H (hCH b (.inr rfl)) J Jx hJ hJx hr h0
    obtain ⟨es, clock, hbl, r⟩ := hM.2
    exact ⟨es, clock, (hC b (.inr rfl)).trans hbl, r⟩

theorem info90 : (Try.prog.info? 90).map (fun i => (i.zero, i.size, i.bytes)) = some (some (.agg #[.string ByteArray.empty, .int .i64 0]), 2, 24) := by kernel_rfl
/-- A pair's cells. -/
abbrev cellsQ (x : ByteArray × Int) : List Value := [.string x.1, .int .i64 x.2]
theorem cell_two {W : World} {B t : Nat} {p q : Value} (h : W.heap[B]? = some (.cells #[p, q] t)) (j : Nat) (u : Value) (hj : [p, q][j]? = some u) : W.cell? (Addr.add ⟨B, 0, none⟩ j) = some u := by
  rw [addr_add]
  match j, hj with
  | 0, hj => simp at hj; subst hj; simp [World.cell?, h]
  | 1, hj => simp at hj; subst hj; simp [World.cell?, h]
theorem cell_two_new (W : World) (p q : Value) (t : Nat) : ∀ j u, [p, q][j]? = some u → (W.alloc (.cells #[p, q] t)).cell? (Addr.add ⟨W.heap.size, 0, none⟩ j) = some u := fun j u hj => cell_two (t := t) (by show (W.heap.push _)[W.heap.size]? = _; simp) j u hj
/-- A new slice of these pairs. -/
def GivesPairsT (xs : List (ByteArray × Int)) (w : World) (e : Ending) (w' : World) : Prop := ∃ v, e = .returned v ∧ w'.ownsRow w.heap.size 90 2 v xs.length (xs.flatMap cellsQ) ∧ Below w.heap.size w w'

set_option maxRecDepth 100000 in
set_option maxHeartbeats 1000000 in
theorem a149 (ks : List (ByteArray × Int)) (hlen : ks.length ≤ 100000) (s : Value) (C : Nat → Prop) (w : World) (hs : SeqP Try.prog s C encQ ks w) :
    Calls Try.prog 149 #[.slice none 0 0, s] w fun e w' => ∃ xs, xs.Perm ks ∧ GivesPairsT xs w e w' := by
  obtain ⟨gs, ls, hsf⟩ := hs.func
  obtain ⟨i0, hi, hz0, hz1, hz2⟩ := info_parts info90
  refine (callsIn_wide (n := 0)).1 ?_
  refine callsIn_of_wp_marks Try.func149 rfl trivial ?_ rfl
  simp only [Try.ntmps149, List.size_toArray, List.length_cons, List.length_nil, Nat.reduceAdd, Nat.reduceSub, Array.replicate_succ, Array.replicate_zero, List.push_toArray, List.append_toArray, List.nil_append, List.cons_append]
  subst hsf
  gi_wp2_with fail
  have e0 : Only (fun k => k = w.heap.size) w (w.alloc (.cells #[.slice none 0 0] 96)) := Only.alloc _ _ _
  have bO := Boxed.new w 96 (.slice none 0 0)
  have hClt := hs.1
  refine wpIn_rangeFunc_seqPB rfl (hs.only e0 (fun b hb e => by have := hClt b hb; omega)) (fun k => k = w.heap.size ∨ (Value.slice none 0 0).ownBlock = some k) (fun b hb => ?_) rfl (CollI w.heap.size 96 90 2 cellsQ) (fun _ _ _ _ => False)
    (CollI.inv _ _ _ _ _ _) (fun _ => Inv.never _) ⟨_, rfl, bO, World.ownsRow_nil _ _ _ _⟩ (fun x => .cells #[.string x.1, .int .i64 x.2] 90)
    (fun x B => { tmps := #[.slice none 0 0, .func (.func gs) #[] ls, .pointer (some ⟨w.heap.size, 0, none⟩), undef, .slice none 0 0, .pointer (some ⟨B, 0, none⟩), .func (.func gs) #[] ls, encQ x, undef, undef, undef, undef, undef], defers := [] }) ?assign ?body ?done ?stop
  case assign =>
    intro l x W K hK
    gi_wp2
    exact hK
  case body =>
    rintro l pre x H1 W1 ⟨rest, hx⟩ ⟨v, rfl, hv, hrow⟩ hl hl1 hl2 B hB hHB hBl
    have hpl : pre.length + 1 ≤ 100000 := by have := hx.length_eq; simp at this; omega
    have hc := hv.cell
    have hcB := cell_two hB 0 (.string x.1) rfl
    have hcC := cell_two hB 1 (.int .i64 x.2) rfl
    rw [addr_add] at hcB hcC
    have hBlt := hv.lt
    have hBl2 : B < W1.heap.size := (Array.getElem?_eq_some_iff.1 hB).1
    have HX := Lib.hid hx
    clear hx
    gi_wp2_with (gi_at_builtin; refine wpListIn_append_w _ rfl _ _ 96 rfl w.heap.size 90 i0 (.agg #[.string ByteArray.empty, .int .i64 0]) 2 24 Try.underlying96 hi hz0 hz1 hz2 rfl (by decide) _ _ _ rfl (hrow.alloc _) ⟨W1.heap.size, 0, none⟩ 1 1 (by decide) (cellsQ x) rfl rfl (cell_two_new _ _ _ _) (by simp [Value.oneCell', cellsQ]) (by unfold maxLen; omega) (by omega) (by simp; omega) ?_; intro v' w1 hown' hgrow hwh; obtain ⟨hv1, H', hg', ho', hI'⟩ := CollI.step (x := x) (by decide) hv hrow hown' hgrow hwh; obtain ⟨g', cap', rfl⟩ := ownsRow_succ hown'; have hc1 := hv1.cell; have hf1 := hv1.frozen)
    exact ⟨H', hg', ho', hI'⟩
  case done =>
    rintro D xs H1 W1 hperm ⟨v, rfl, hv, hrow⟩ hg ho hD hHD hK
    have hc := hv.cell
    gi_wp2
    refine ⟨by simp, .inl ⟨_, _, rfl, run_takeDeferred hK, ?_⟩⟩
    refine ⟨_, results_tmp rfl _ _ _, xs, hperm, v, rfl, ?_, ?_⟩
    · have := ownsRow_putObj hrow (.deferred none) hK rfl
      exact this
    · exact ((e0.own (O := fun k => (Value.slice none 0 0).ownBlock = some k) ho (fun k hk => by simp [Value.ownBlock] at hk)).behind (by simp at hD; omega) _).below (fun b hb => by omega)
  case stop =>
    rintro D c pre H1 W1 h
    exact h.elim
  · rintro (e | e)
    · have := hClt b hb; omega
    · simp [Value.ownBlock] at e

set_option maxRecDepth 100000 in
set_option maxHeartbeats 1000000 in
theorem c131 (ks : List (ByteArray × Int)) (hlen : ks.length ≤ 100000) (s : Value) (C : Nat → Prop) (w : World) (hs : SeqP Try.prog s C encQ ks w) :
    Calls Try.prog 131 #[s] w fun e w' => ∃ xs, xs.Perm ks ∧ GivesPairsT xs w e w' := by
  obtain ⟨gs, ls, hsf⟩ := hs.func
  refine (callsIn_wide (n := 0)).1 ?_
  refine callsIn_of_wp Try.func131 rfl trivial ?_ rfl
  simp only [Try.ntmps131, List.size_toArray, List.length_cons, List.length_nil, Nat.reduceAdd, Nat.reduceSub, Array.replicate_succ, Array.replicate_zero, List.push_toArray, List.append_toArray, List.nil_append, List.cons_append]
  subst hsf
  gi_wp2_with (gi_at_call 149; refine ((callsIn_wide (n := 0)).2 (a149 ks hlen _ C w hs)).mono ?_; rintro e w' ⟨xs, hperm, v, rfl, hrow, hB⟩)
  go_ret
  exact ⟨xs, hperm, v, rfl, hrow, hB⟩
end Go.Proofs.Ytikomlcghplchaa
