/- gen.sound at ints: the sequence that it makes is the one that it is handed. -/
import Derived.Test.YtikomlcghplchaaSeq
import Derived.Test.YtikomlcghplchaaProg
import Derived.WalkSpells
import Derived.WalkLawsBesides
import Derived.Lib.Hide
namespace Go.Proofs.Ytikomlcghplchaa
open Go.RowKit Go.Shelf
set_option linter.unusedVariables false
set_option linter.unusedSimpArgs false
attribute [local go_sem] Oper.semAt_some wide_fn wide_depth

set_option maxRecDepth 100000 in
set_option maxHeartbeats 400000 in
theorem s88 (v y : Value) (ov Y : Nat) (W : World) (R : Ending → World → Prop) (ho : Boxed W ov 4 (.bool false)) (hY : Boxed W Y 32 y)
    (h : CallV Try.prog y #[v] W R) (hR : ∀ e W', R e W' → ∃ b, e = .returned (.bool b) ∧ Boxed W' ov 4 (.bool false)) :
    Calls Try.prog 88 #[v, .pointer (some ⟨ov, 0, none⟩), .pointer (some ⟨Y, 0, none⟩)] W fun e W'' => ∃ b W', R (.returned (.bool b)) W' ∧ e = .returned (.bool b) ∧ W'' = W'.setCell ⟨ov, 0, none⟩ (.bool (!b)) := by
  refine (callsIn_wide (n := 0)).1 ?_
  refine callsIn_of_wp Try.func88 rfl trivial ?_ rfl
  simp only [Try.ntmps88, List.size_toArray, List.length_cons, List.length_nil, Nat.reduceAdd, Nat.reduceSub, Array.replicate_succ, Array.replicate_zero, List.push_toArray, List.append_toArray, List.nil_append, List.cons_append]
  have hc1 := ho.cell
  have hc2 := hY.cell
  have hf1 := ho.frozen
  have Hh := Lib.hid h
  have HR := Lib.hid hR
  clear h hR
  gi_wp2_with (refine wpListIn_callV (o := ⟨some 9, _, _, _, _, _⟩) rfl rfl _ _ _ rfl y v rfl rfl Hh.out ?_)
  intro e W' hr
  obtain ⟨b, rfl, hb⟩ := HR.out e W' hr
  have hc3 := hb.cell
  have hf3 := hb.frozen
  have Hr := Lib.hid hr
  clear hr HR Hh
  refine ⟨_, rfl, ?_⟩
  cases b
  · gi_wp2
    go_ret
    exact ⟨false, W', Hr.out, rfl, rfl⟩
  · gi_wp2
    go_ret
    exact ⟨true, W', Hr.out, rfl, rfl⟩

set_option maxRecDepth 100000 in
set_option maxHeartbeats 400000 in
theorem sound58 (fn : Fn) (x : Array Value) (lb : Array Value) (s : Value) (hs : s = .func fn x lb ∨ s = .nilFunc) (w : World) :
    Calls Try.prog 58 #[s] w fun e w' => e = .returned (.func (.func 87) #[] #[.pointer (some ⟨w.heap.size, 0, none⟩)]) ∧ w.alloc (.cells #[s] 27) = w' := by
  refine (callsIn_wide (n := 0)).1 ?_
  refine callsIn_of_wp Try.func58 rfl trivial ?_ rfl
  simp only [Try.ntmps58, List.size_toArray, List.length_cons, List.length_nil, Nat.reduceAdd, Nat.reduceSub, Array.replicate_succ, Array.replicate_zero, List.push_toArray, List.append_toArray, List.nil_append, List.cons_append]
  rcases hs with rfl | rfl
  all_goals
    gi_wp2
    go_ret
    exact ⟨rfl, rfl⟩

set_option maxRecDepth 100000 in
set_option maxHeartbeats 400000 in
theorem s87 (s y : Value) (S : Nat) (W : World) (fn : Fn) (lb : Array Value) (gs : FuncId) (ls : Array Value) (hy : y = .func fn #[] lb) (hs : s = .func (.func gs) #[] ls) (hS : Boxed W S 27 s) (R : Ending → World → Prop)
    (h : CallV Try.prog s #[.func (.func 88) #[] #[.pointer (some ⟨W.heap.size + 1, 0, none⟩), .pointer (some ⟨W.heap.size, 0, none⟩)]] ((W.alloc (.cells #[y] 32)).alloc (.cells #[.bool false] 4)) R)
    (hR : ∀ e W', R e W' → (∃ v, e = .returned v) ∧ ∃ b, Boxed W' (W.heap.size + 1) 4 (.bool b)) :
    Calls Try.prog 87 #[y, .pointer (some ⟨S, 0, none⟩)] W fun e W'' => (∃ v, e = .returned v) ∧ ∃ e W', R e W' ∧ W'' = W'.setCell ⟨W.heap.size + 1, 0, none⟩ (.bool true) := by
  refine (callsIn_wide (n := 0)).1 ?_
  refine callsIn_of_wp Try.func87 rfl trivial ?_ rfl
  simp only [Try.ntmps87, List.size_toArray, List.length_cons, List.length_nil, Nat.reduceAdd, Nat.reduceSub, Array.replicate_succ, Array.replicate_zero, List.push_toArray, List.append_toArray, List.nil_append, List.cons_append]
  have hc1 := hS.cell
  have hlt := hS.lt
  have Hh := Lib.hid h
  have HR := Lib.hid hR
  clear h hR
  subst hy hs
  have q27 := fun w => run_eql_func_nil (P := Try.prog) w 27 Try.underlying27
  have q32 := fun w => run_eql_func_nil (P := Try.prog) w 32 Try.underlying32
  gi_wp2_with (refine wpListIn_callV (o := ⟨some 12, _, _, _, _, _⟩) rfl rfl _ _ _ rfl _ _ rfl rfl Hh.out ?_)
  intro e W' hr
  obtain ⟨⟨v, rfl⟩, b, hb⟩ := HR.out e W' hr
  have hc3 := hb.cell
  have hf3 := hb.frozen
  have Hr := Lib.hid hr
  clear hr HR Hh
  refine ⟨_, rfl, ?_⟩
  gi_wp2
  go_end0
  exact ⟨⟨_, rfl⟩, _, W', Hr.out, rfl⟩

set_option maxRecDepth 100000 in
set_option maxHeartbeats 400000 in
theorem s87nil (y : Value) (S : Nat) (W : World) (fn : Fn) (lb : Array Value) (hy : y = .func fn #[] lb) (hS : Boxed W S 27 .nilFunc) :
    Calls Try.prog 87 #[y, .pointer (some ⟨S, 0, none⟩)] W fun e W'' => (∃ v, e = .returned v) ∧ W'' = W.alloc (.cells #[y] 32) := by
  refine (callsIn_wide (n := 0)).1 ?_
  refine callsIn_of_wp Try.func87 rfl trivial ?_ rfl
  simp only [Try.ntmps87, List.size_toArray, List.length_cons, List.length_nil, Nat.reduceAdd, Nat.reduceSub, Array.replicate_succ, Array.replicate_zero, List.push_toArray, List.append_toArray, List.nil_append, List.cons_append]
  have hc1 := hS.cell
  have hlt := hS.lt
  subst hy
  have q27 := fun w => run_eql_nil_nil (P := Try.prog) w 27 Try.underlying27
  gi_wp2
  refine bodyPost_ret (results_none rfl _ _ _) rfl ?_
  exact ⟨⟨_, rfl⟩, rfl⟩

/-- THE SEQUENCE THAT sound MAKES OF s IS s. -/
theorem sound_seq {α : Type} {enc : α → Value} {xs : List α} {s : Value} {C : Nat → Prop} {w : World} (h : SeqV Try.prog s C enc xs w) {b : Nat} (hb : Boxed w b 27 s) :
    SeqV Try.prog (.func (.func 87) #[] #[.pointer (some ⟨b, 0, none⟩)]) (fun k => C k ∨ k = b) enc xs w :=
  sound_seqG s88 s87 (enters_of Try.func87 (by kernel_rfl) rfl) (enters_of Try.func88 (by kernel_rfl) rfl) h hb
theorem sound_nil {α : Type} {enc : α → Value} {w : World} {b : Nat} (hb : Boxed w b 27 .nilFunc) :
    SeqV Try.prog (.func (.func 87) #[] #[.pointer (some ⟨b, 0, none⟩)]) (fun k => k = b) enc ([] : List α) w :=
  sound_nilG s87nil (enters_of Try.func87 (by kernel_rfl) rfl) hb
end Go.Proofs.Ytikomlcghplchaa
