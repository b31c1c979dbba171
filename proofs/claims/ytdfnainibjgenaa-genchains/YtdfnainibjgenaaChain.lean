/- gen.Chain at ints. -/
import Derived.Test.YtdfnainibjgenaaEachQ
import Derived.Test.YtdfnainibjgenaaOfQ
namespace Go.Proofs.Ytdfnainibjgenaa
open Go.RowKit Go.Shelf
set_option linter.unusedVariables false
set_option linter.unusedSimpArgs false
attribute [local go_sem] Oper.semAt_some wide_fn wide_depth

/-- A sequence of f of each, as a sequence of those themselves. -/
theorem SeqV.lift {α β : Type} {P : Program} {s : Value} {C : Nat → Prop} {enc : β → Value} (f : α → β) {ps : List α} {w : World} (h : SeqV P s C enc (ps.map f) w) : SeqV P s C (fun p => enc (f p)) ps w := by
  obtain ⟨h1, g, lb, e, he, hc⟩ := h
  refine ⟨h1, g, lb, e, he, fun y J Jx H W hy hW hCH hJ hJx hr h0 => ?_⟩
  refine Calls.mono (hc y (fun q => J (ps.take q.length)) (fun q => Jx (ps.take q.length)) H W hy hW hCH ⟨fun s => hJ.stable _, fun s => hJ.lt _⟩ ⟨fun s => hJx.stable _, fun s => hJx.lt _⟩ ?_ (by simpa using h0)) ?_
  · intro pre x rest H1 W1 hx hj
    have hlen : pre.length < ps.length := by have := congrArg List.length hx; simp at this; omega
    obtain ⟨hs1, hs2⟩ := take_split hlen
    have hx' : f ps[pre.length] = x := by
      have h2 := congrArg (fun l => l[pre.length]?) hx
      simp [hlen] at h2
      exact h2
    have := hr (ps.take pre.length) ps[pre.length] (ps.drop (pre.length + 1)) H1 W1 hs1 hj
    rw [hs2] at this
    have this' : CallV P y #[enc (f ps[pre.length])] W1 (RoundR J Jx (ps.take (pre.length + 1)) H1 W1) := this
    rw [hx'] at this'
    refine this'.mono ?_
    rintro e W' ⟨H', hg, ho, hend⟩
    exact ⟨H', hg, ho, by simpa using hend⟩
  · rintro e W' ⟨hv, H', hg, ho, hend⟩
    refine ⟨hv, H', hg, ho, ?_⟩
    rcases hend with hj | ⟨pre, hpre, hj⟩
    · exact .inl (by simpa using hj)
    · exact .inr ⟨_, List.take_prefix _ _, hj⟩

set_option maxRecDepth 100000 in
set_option maxHeartbeats 400000 in
theorem id68 (v : Value) (w : World) : Calls Try.prog 68 #[v] w fun e w' => e = .returned v ∧ w = w' := by
  refine (callsIn_wide (n := 0)).1 ?_
  refine callsIn_of_wp Try.func68 rfl trivial ?_ rfl
  simp only [Try.ntmps68, List.size_toArray, List.length_cons, List.length_nil, Nat.reduceAdd, Nat.reduceSub, Array.replicate_succ, Array.replicate_zero, List.push_toArray, List.append_toArray, List.nil_append, List.cons_append]
  gi_wp2
  go_ret
  exact ⟨rfl, rfl⟩

/-- Each of ps is nil and stands for nothing, or is a sequence, over the blocks Cf. -/
def AllSeqs (Cf : Nat → Prop) (ps : List (FV × List Int)) (w : World) : Prop :=
  (∀ b, Cf b → b < w.heap.size) ∧ ∀ p ∈ ps, (p.1 = none ∧ p.2 = []) ∨ ∃ Cp : Nat → Prop, SeqV Try.prog (encF p.1) Cp encI p.2 w ∧ ∀ b, Cp b → Cf b

theorem id_fn {Cf : Nat → Prop} {ps : List (FV × List Int)} {w : World} (h : AllSeqs Cf ps w) : SeqFn Try.prog (.func (.func 68) #[] #[]) Cf (fun p : FV × List Int => encF p.1) encI (fun p => p.2) ps w := by
  refine ⟨h.1, ⟨_, _, rfl⟩, fun p W hp hW => .inl ⟨68, #[], rfl, enters_of Try.func68 (by kernel_rfl) rfl, ?_⟩⟩
  refine Calls.mono (id68 (encF p.1) W) ?_
  rintro e w' ⟨rfl, rfl⟩
  rcases h.2 p hp with ⟨h1, h2⟩ | ⟨Cp, h1, h2⟩
  · exact ⟨_, fun _ => False, rfl, .inl ⟨by rw [h1]; rfl, h2⟩, Below.refl _ _, fun b hb => hb.elim⟩
  · exact ⟨_, Cp, rfl, .inr (h1.later fun b hb => hW b (h2 b hb)), Below.refl _ _, fun b hb => .inl (h2 b hb)⟩

theorem AllSeqs.below {Cf : Nat → Prop} {ps : List (FV × List Int)} {w w' : World} (h : AllSeqs Cf ps w) (hB : Below w.heap.size w w') : AllSeqs Cf ps w' := by
  refine ⟨fun b hb => Nat.lt_of_lt_of_le (h.1 b hb) hB.size, fun p hp => ?_⟩
  rcases h.2 p hp with h1 | ⟨Cp, h1, h2⟩
  · exact .inl h1
  · exact .inr ⟨Cp, h1.below hB, h2⟩

set_option maxRecDepth 100000 in
set_option maxHeartbeats 1000000 in
/-- gen.Chain(l...). -/
theorem chain27 {Cf : Nat → Prop} (ps : List (FV × List Int)) (hlen : ps.length ≤ 100000) (v : Value) (w : World) (hv : Reads encF w v (ps.map (·.1))) (h : AllSeqs Cf ps w) :
    Calls Try.prog 27 #[v] w (GivesSeq Try.prog Cf encI (ps.flatMap (·.2)) w) := by
  refine (callsIn_wide (n := 0)).1 ?_
  refine callsIn_of_wp Try.func27 rfl trivial ?_ rfl
  simp only [Try.ntmps27, List.size_toArray, List.length_cons, List.length_nil, Nat.reduceAdd, Nat.reduceSub, Array.replicate_succ, Array.replicate_zero, List.push_toArray, List.append_toArray, List.nil_append, List.cons_append]
  have Hv := Lib.hid hv
  have Hh := Lib.hid h
  clear hv h
  gi_wp2_with fail
  refine ((callsIn_wide (n := 0)).2 (of67 _ (by simpa using hlen) v w Hv.out)).mono ?_
  rintro e w1 ⟨s1, C1, rfl, hs1, hB1, hC1⟩
  gi_wp2_with fail
  refine ((callsIn_wide (n := 0)).2 (each_callQ (fun p : FV × List Int => p.2) (SeqV.lift (fun p : FV × List Int => p.1) hs1) (id_fn (Hh.out.below hB1)))).mono ?_
  rintro e w2 ⟨s2, C2, rfl, hs2, hB2, hC2⟩
  have hb := hB1.trans (hB2.mono hB1.size)
  have Hs2 := Lib.hid hs2
  have Hb := Lib.hid hb
  have hC : ∀ b, C2 b → Cf b ∨ w.heap.size ≤ b := fun b hb' => by
    rcases hC2 b hb' with (h | h) | h
    · exact (hC1 b h).elim (fun e => e.elim) .inr
    · exact .inl h
    · exact .inr (Nat.le_trans hB1.size h)
  have HC := Lib.hid hC
  clear hs1 hs2 hb hC hC1 hC2 hB1 hB2
  gi_wp2
  go_ret
  exact ⟨_, C2, rfl, Hs2.out, Hb.out, HC.out⟩
end Go.Proofs.Ytdfnainibjgenaa
