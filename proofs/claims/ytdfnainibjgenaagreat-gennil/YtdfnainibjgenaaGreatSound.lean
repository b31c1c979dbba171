/- gen.sound at ints: the sequence that it makes is the one that it is handed. -/
import Derived.Test.YtdfnainibjgenaaGreatSeq
import Derived.Test.YtdfnainibjgenaaGreatProg
import Derived.WalkSpells
import Derived.WalkLawsBesides
import Derived.Lib.Hide
namespace Go.Proofs.YtdfnainibjgenaaGreat
open Go.RowKit Go.Shelf
set_option linter.unusedVariables false
set_option linter.unusedSimpArgs false
attribute [local go_sem] Oper.semAt_some wide_fn wide_depth

set_option maxRecDepth 100000 in
set_option maxHeartbeats 400000 in
theorem s63 (v y : Value) (ov Y : Nat) (W : World) (R : Ending → World → Prop) (ho : Boxed W ov 4 (.bool false)) (hY : Boxed W Y 72 y)
    (h : CallV Tryz.prog y #[v] W R) (hR : ∀ e W', R e W' → ∃ b, e = .returned (.bool b) ∧ Boxed W' ov 4 (.bool false)) :
    Calls Tryz.prog 63 #[v, .pointer (some ⟨ov, 0, none⟩), .pointer (some ⟨Y, 0, none⟩)] W fun e W'' => ∃ b W', R (.returned (.bool b)) W' ∧ e = .returned (.bool b) ∧ W'' = W'.setCell ⟨ov, 0, none⟩ (.bool (!b)) := by
  refine (callsIn_wide (n := 0)).1 ?_
  refine callsIn_of_wp Tryz.func63 rfl trivial ?_ rfl
  simp only [Tryz.ntmps63, List.size_toArray, List.length_cons, List.length_nil, Nat.reduceAdd, Nat.reduceSub, Array.replicate_succ, Array.replicate_zero, List.push_toArray, List.append_toArray, List.nil_append, List.cons_append]
  have hc1 := ho.cell
  have hc2 := hY.cell
  have hf1 := ho.frozen
  have Hh := Lib.hid h
  have HR := Lib.hid hR
  clear h hR
  gi_wp2_with (refine wpListIn_callV (o := ⟨some 9, _, _, _, _, _⟩) rfl rfl _ _ _ rfl y v rfl rfl Hh.out ?_)
  intro e W' hr
  obtain ⟨b, rfl, hb⟩ := HR.out e W' hr
  have hc3 := hb.cell
  have hf3 := hb.frozen
  have Hr := Lib.hid hr
  clear hr HR Hh
  refine ⟨_, rfl, ?_⟩
  cases b
  · gi_wp2
    go_ret
    exact ⟨false, W', Hr.out, rfl, rfl⟩
  · gi_wp2
    go_ret
    exact ⟨true, W', Hr.out, rfl, rfl⟩

set_option maxRecDepth 100000 in
set_option maxHeartbeats 400000 in
theorem sound36 (fn : Fn) (x : Array Value) (lb : Array Value) (s : Value) (hs : s = .func fn x lb ∨ s = .nilFunc) (w : World) :
    Calls Tryz.prog 36 #[s] w fun e w' => e = .returned (.func (.func 62) #[] #[.pointer (some ⟨w.heap.size, 0, none⟩)]) ∧ w.alloc (.cells #[s] 38) = w' := by
  refine (callsIn_wide (n := 0)).1 ?_
  refine callsIn_of_wp Tryz.func36 rfl trivial ?_ rfl
  simp only [Tryz.ntmps36, List.size_toArray, List.length_cons, List.length_nil, Nat.reduceAdd, Nat.reduceSub, Array.replicate_succ, Array.replicate_zero, List.push_toArray, List.append_toArray, List.nil_append, List.cons_append]
  rcases hs with rfl | rfl
  all_goals
    gi_wp2
    go_ret
    exact ⟨rfl, rfl⟩

set_option maxRecDepth 100000 in
set_option maxHeartbeats 400000 in
theorem s62 (s y : Value) (S : Nat) (W : World) (fn : Fn) (lb : Array Value) (gs : FuncId) (ls : Array Value) (hy : y = .func fn #[] lb) (hs : s = .func (.func gs) #[] ls) (hS : Boxed W S 38 s) (R : Ending → World → Prop)
    (h : CallV Tryz.prog s #[.func (.func 63) #[] #[.pointer (some ⟨W.heap.size + 1, 0, none⟩), .pointer (some ⟨W.heap.size, 0, none⟩)]] ((W.alloc (.cells #[y] 72)).alloc (.cells #[.bool false] 4)) R)
    (hR : ∀ e W', R e W' → (∃ v, e = .returned v) ∧ ∃ b, Boxed W' (W.heap.size + 1) 4 (.bool b)) :
    Calls Tryz.prog 62 #[y, .pointer (some ⟨S, 0, none⟩)] W fun e W'' => (∃ v, e = .returned v) ∧ ∃ e W', R e W' ∧ W'' = W'.setCell ⟨W.heap.size + 1, 0, none⟩ (.bool true) := by
  refine (callsIn_wide (n := 0)).1 ?_
  refine callsIn_of_wp Tryz.func62 rfl trivial ?_ rfl
  simp only [Tryz.ntmps62, List.size_toArray, List.length_cons, List.length_nil, Nat.reduceAdd, Nat.reduceSub, Array.replicate_succ, Array.replicate_zero, List.push_toArray, List.append_toArray, List.nil_append, List.cons_append]
  have hc1 := hS.cell
  have hlt := hS.lt
  have Hh := Lib.hid h
  have HR := Lib.hid hR
  clear h hR
  subst hy hs
  have q38 := fun w => run_eql_func_nil (P := Tryz.prog) w 38 Tryz.underlying38
  have q72 := fun w => run_eql_func_nil (P := Tryz.prog) w 72 Tryz.underlying72
  gi_wp2_with (refine wpListIn_callV (o := ⟨some 12, _, _, _, _, _⟩) rfl rfl _ _ _ rfl _ _ rfl rfl Hh.out ?_)
  intro e W' hr
  obtain ⟨⟨v, rfl⟩, b, hb⟩ := HR.out e W' hr
  have hc3 := hb.cell
  have hf3 := hb.frozen
  have Hr := Lib.hid hr
  clear hr HR Hh
  refine ⟨_, rfl, ?_⟩
  gi_wp2
  go_end0
  exact ⟨⟨_, rfl⟩, _, W', Hr.out, rfl⟩

set_option maxRecDepth 100000 in
set_option maxHeartbeats 400000 in
theorem s62nil (y : Value) (S : Nat) (W : World) (fn : Fn) (lb : Array Value) (hy : y = .func fn #[] lb) (hS : Boxed W S 38 .nilFunc) :
    Calls Tryz.prog 62 #[y, .pointer (some ⟨S, 0, none⟩)] W fun e W'' => (∃ v, e = .returned v) ∧ W'' = W.alloc (.cells #[y] 72) := by
  refine (callsIn_wide (n := 0)).1 ?_
  refine callsIn_of_wp Tryz.func62 rfl trivial ?_ rfl
  simp only [Tryz.ntmps62, List.size_toArray, List.length_cons, List.length_nil, Nat.reduceAdd, Nat.reduceSub, Array.replicate_succ, Array.replicate_zero, List.push_toArray, List.append_toArray, List.nil_append, List.cons_append]
  have hc1 := hS.cell
  have hlt := hS.lt
  subst hy
  have q38 := fun w => run_eql_nil_nil (P := Tryz.prog) w 38 Tryz.underlying38
  gi_wp2
  refine bodyPost_ret (results_none rfl _ _ _) rfl ?_
  exact ⟨⟨_, rfl⟩, rfl⟩

/-- THE SEQUENCE THAT sound MAKES OF s IS s. -/
theorem sound_seq {α : Type} {enc : α → Value} {xs : List α} {s : Value} {C : Nat → Prop} {w : World} (h : SeqV Tryz.prog s C enc xs w) {b : Nat} (hb : Boxed w b 38 s) :
    SeqV Tryz.prog (.func (.func 62) #[] #[.pointer (some ⟨b, 0, none⟩)]) (fun k => C k ∨ k = b) enc xs w :=
  sound_seqG s63 s62 (enters_of Tryz.func62 (by kernel_rfl) rfl) (enters_of Tryz.func63 (by kernel_rfl) rfl) h hb
theorem sound_nil {α : Type} {enc : α → Value} {w : World} {b : Nat} (hb : Boxed w b 38 .nilFunc) :
    SeqV Tryz.prog (.func (.func 62) #[] #[.pointer (some ⟨b, 0, none⟩)]) (fun k => k = b) enc ([] : List α) w :=
  sound_nilG s62nil (enters_of Tryz.func62 (by kernel_rfl) rfl) hb
end Go.Proofs.YtdfnainibjgenaaGreat
