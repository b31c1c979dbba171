/- gen.sound at ints: the sequence that it makes is the one that it is handed. -/
import Derived.Test.YtdfnainibjgenaaGreatSound
import Derived.Test.YtdfnainibjgenaaGreatProg
import Derived.WalkSpells
import Derived.WalkLawsBesides
import Derived.Lib.Hide
namespace Go.Proofs.YtdfnainibjgenaaGreat
open Go.RowKit Go.Shelf
set_option linter.unusedVariables false
set_option linter.unusedSimpArgs false
attribute [local go_sem] Oper.semAt_some wide_fn wide_depth

theorem sound_emptyG {P : Program} {f f' TS TY TB : Nat} (h87 : SndSeq P f f' TS TY TB) (e87 : Enters P f)
    {s : Value} {C : Nat → Prop} {w : World} (h : SeqV P s C (Empty.elim : Empty → Value) [] w) {b : Nat} (hb : Boxed w b TS s) :
    SeqV P (.func (.func f) #[] #[.pointer (some ⟨b, 0, none⟩)]) (fun k => C k ∨ k = b) (Empty.elim : Empty → Value) [] w := by
  refine ⟨fun k hk => hk.elim (h.1 k) (fun e => e ▸ hb.lt), f, _, rfl, e87, ?_⟩
  rintro y J Jx H W ⟨fn, lb, hy⟩ hC hCH hJ hJx hr h0
  have hbW : Boxed W b TS s := (hC b (.inr rfl)).trans hb
  obtain ⟨gs, ls, hs⟩ : ∃ gs ls, s = .func (.func gs) #[] ls := by obtain ⟨_, gs, ls, hs, _⟩ := h; exact ⟨gs, ls, hs⟩
  have hHlt := hJ.lt _ _ _ h0
  have hH0 : ¬ H W.heap.size := fun e => by have := hHlt _ e; omega
  have hH1 : ¬ H (W.heap.size + 1) := fun e => by have := hHlt _ e; omega
  have e0 : Only H W ((W.alloc (.cells #[y] TY)).alloc (.cells #[.bool false] TB)) := (Only.alloc H W _).trans (Only.alloc H _ _) (Grows.refl _ _)
  have hsz : ((W.alloc (.cells #[y] TY)).alloc (.cells #[.bool false] TB)).heap.size = W.heap.size + 2 := by simp
  have bY : Boxed ((W.alloc (.cells #[y] TY)).alloc (.cells #[.bool false] TB)) W.heap.size TY y := (Boxed.new W TY y).alloc _
  have bO : Boxed ((W.alloc (.cells #[y] TY)).alloc (.cells #[.bool false] TB)) (W.heap.size + 1) TB (.bool false) := by
    have := Boxed.new (W.alloc (.cells #[y] TY)) TB (.bool false); rwa [World.size_alloc] at this
  have hj1 := hJ.alloc (hJ.alloc h0 (.cells #[y] TY)) (.cells #[.bool false] TB)
  have hfin := h87 s y b W fn lb gs ls hy hs hbW
  obtain ⟨W2, hW2⟩ : ∃ W2, (W.alloc (.cells #[y] TY)).alloc (.cells #[.bool false] TB) = W2 := ⟨_, rfl⟩
  rw [hW2] at e0 hsz bY bO hj1 hfin
  have hsW2 : SeqV P s C (Empty.elim : Empty → Value) [] W2 := (h.later (fun k hk => hC k (.inl hk))).only e0 (fun k hk => hCH k (.inl hk))
  have hCH' : ∀ k, C k → ¬ (H k ∨ k = W.heap.size + 1) := fun k hk => by
    have h1 : k < W.heap.size := (h.later (fun k hk => hC k (.inl hk))).1 k hk
    rintro (e | e)
    · exact hCH k (.inl hk) e
    · omega
  have hcall := hsW2.call (y := .func (.func f') #[] #[.pointer (some ⟨W.heap.size + 1, 0, none⟩), .pointer (some ⟨W.heap.size, 0, none⟩)]) ⟨_, _, rfl⟩
    (J := SndJ J W.heap.size TY TB y false) (Jx := SndJ Jx W.heap.size TY TB y true) hCH' (by rw [hsz]; exact SndJ.inv hJ _ _ _ _) (by rw [hsz]; exact SndJ.inv hJx _ _ _ _) (fun _ x => x.elim)
    ⟨H, rfl, hH0, hH1, hj1, bY, bO⟩
  refine Calls.mono (hfin _ hcall (by
    rintro e W' ⟨hv, H', hg, ho, hend⟩
    rcases hend with ⟨H0, _, _, _, _, _, hO⟩ | ⟨pre, _, H0, _, _, _, _, _, hO⟩
    · exact ⟨hv, _, hO⟩
    · exact ⟨hv, _, hO⟩)) ?_
  rintro e W'' ⟨hv, e', W', ⟨_, H', hg, ho, hend⟩, rfl⟩
  refine ⟨hv, ?_⟩
  have hon : Only H W (W'.setCell ⟨W.heap.size + 1, 0, none⟩ (.bool true)) := by
    refine (e0.trans ho ?_).trans (Only.setCell (H := fun k => k = W.heap.size + 1) (a := ⟨W.heap.size + 1, 0, none⟩) (.inl rfl) _) ?_
    · rintro k (hk | hk)
      · exact .inl hk
      · exact .inr (by omega)
    · intro k hk; exact .inr (by omega)
  have hgr : ∀ H0 : Nat → Prop, H' = (fun k => H0 k ∨ k = W.heap.size + 1) → Grows H W H0 := fun H0 e k hk => by
    subst e
    exact (hg k (.inl hk)).elim (fun e => e.elim .inl (fun e => .inr (by omega))) (fun e => .inr (by omega))
  rcases hend with ⟨H0, e0', h1, h2, hj, _, _⟩ | ⟨pre, hpre, H0, e0', h1, h2, hj, _, _⟩
  · exact ⟨H0, hgr H0 e0', hon, .inl (hJ.setCell hj (by simp) h2 _)⟩
  · exact ⟨H0, hgr H0 e0', hon, .inr ⟨pre, hpre, hJx.setCell hj (by simp) h2 _⟩⟩

set_option maxRecDepth 100000 in
set_option maxHeartbeats 400000 in
theorem sound55 (fn : Fn) (x : Array Value) (lb : Array Value) (s : Value) (hs : s = .func fn x lb ∨ s = .nilFunc) (w : World) :
    Calls Tryz.prog 55 #[s] w fun e w' => e = .returned (.func (.func 77) #[] #[.pointer (some ⟨w.heap.size, 0, none⟩)]) ∧ w.alloc (.cells #[s] 67) = w' := by
  refine (callsIn_wide (n := 0)).1 ?_
  refine callsIn_of_wp Tryz.func55 rfl trivial ?_ rfl
  simp only [Tryz.ntmps55, List.size_toArray, List.length_cons, List.length_nil, Nat.reduceAdd, Nat.reduceSub, Array.replicate_succ, Array.replicate_zero, List.push_toArray, List.append_toArray, List.nil_append, List.cons_append]
  rcases hs with rfl | rfl
  all_goals
    gi_wp2
    go_ret
    exact ⟨rfl, rfl⟩

set_option maxRecDepth 100000 in
set_option maxHeartbeats 400000 in
theorem s77 (s y : Value) (S : Nat) (W : World) (fn : Fn) (lb : Array Value) (gs : FuncId) (ls : Array Value) (hy : y = .func fn #[] lb) (hs : s = .func (.func gs) #[] ls) (hS : Boxed W S 67 s) (R : Ending → World → Prop)
    (h : CallV Tryz.prog s #[.func (.func 78) #[] #[.pointer (some ⟨W.heap.size + 1, 0, none⟩), .pointer (some ⟨W.heap.size, 0, none⟩)]] ((W.alloc (.cells #[y] 104)).alloc (.cells #[.bool false] 4)) R)
    (hR : ∀ e W', R e W' → (∃ v, e = .returned v) ∧ ∃ b, Boxed W' (W.heap.size + 1) 4 (.bool b)) :
    Calls Tryz.prog 77 #[y, .pointer (some ⟨S, 0, none⟩)] W fun e W'' => (∃ v, e = .returned v) ∧ ∃ e W', R e W' ∧ W'' = W'.setCell ⟨W.heap.size + 1, 0, none⟩ (.bool true) := by
  refine (callsIn_wide (n := 0)).1 ?_
  refine callsIn_of_wp Tryz.func77 rfl trivial ?_ rfl
  simp only [Tryz.ntmps77, List.size_toArray, List.length_cons, List.length_nil, Nat.reduceAdd, Nat.reduceSub, Array.replicate_succ, Array.replicate_zero, List.push_toArray, List.append_toArray, List.nil_append, List.cons_append]
  have hc1 := hS.cell
  have hlt := hS.lt
  have Hh := Lib.hid h
  have HR := Lib.hid hR
  clear h hR
  subst hy hs
  have q67 := fun w => run_eql_func_nil (P := Tryz.prog) w 67 Tryz.underlying67
  have q104 := fun w => run_eql_func_nil (P := Tryz.prog) w 104 Tryz.underlying104
  gi_wp2_with (refine wpListIn_callV (o := ⟨some 12, _, _, _, _, _⟩) rfl rfl _ _ _ rfl _ _ rfl rfl Hh.out ?_)
  intro e W' hr
  obtain ⟨⟨v, rfl⟩, b, hb⟩ := HR.out e W' hr
  have hc3 := hb.cell
  have hf3 := hb.frozen
  have Hr := Lib.hid hr
  clear hr HR Hh
  refine ⟨_, rfl, ?_⟩
  gi_wp2
  go_end0
  exact ⟨⟨_, rfl⟩, _, W', Hr.out, rfl⟩

set_option maxRecDepth 100000 in
set_option maxHeartbeats 400000 in
theorem s77nil (y : Value) (S : Nat) (W : World) (fn : Fn) (lb : Array Value) (hy : y = .func fn #[] lb) (hS : Boxed W S 67 .nilFunc) :
    Calls Tryz.prog 77 #[y, .pointer (some ⟨S, 0, none⟩)] W fun e W'' => (∃ v, e = .returned v) ∧ W'' = W.alloc (.cells #[y] 104) := by
  refine (callsIn_wide (n := 0)).1 ?_
  refine callsIn_of_wp Tryz.func77 rfl trivial ?_ rfl
  simp only [Tryz.ntmps77, List.size_toArray, List.length_cons, List.length_nil, Nat.reduceAdd, Nat.reduceSub, Array.replicate_succ, Array.replicate_zero, List.push_toArray, List.append_toArray, List.nil_append, List.cons_append]
  have hc1 := hS.cell
  have hlt := hS.lt
  subst hy
  have q67 := fun w => run_eql_nil_nil (P := Tryz.prog) w 67 Tryz.underlying67
  gi_wp2
  refine bodyPost_ret (results_none rfl _ _ _) rfl ?_
  exact ⟨⟨_, rfl⟩, rfl⟩

/-- THE SEQUENCE THAT sound MAKES OF s IS s. -/
theorem sound_seqP {s : Value} {C : Nat → Prop} {w : World} (h : SeqV Tryz.prog s C (Empty.elim : Empty → Value) [] w) {b : Nat} (hb : Boxed w b 67 s) :
    SeqV Tryz.prog (.func (.func 77) #[] #[.pointer (some ⟨b, 0, none⟩)]) (fun k => C k ∨ k = b) (Empty.elim : Empty → Value) [] w :=
  sound_emptyG s77 (enters_of Tryz.func77 (by kernel_rfl) rfl) h hb
theorem sound_nilP {α : Type} {enc : α → Value} {w : World} {b : Nat} (hb : Boxed w b 67 .nilFunc) :
    SeqV Tryz.prog (.func (.func 77) #[] #[.pointer (some ⟨b, 0, none⟩)]) (fun k => k = b) enc ([] : List α) w :=
  sound_nilG s77nil (enters_of Tryz.func77 (by kernel_rfl) rfl) hb
end Go.Proofs.YtdfnainibjgenaaGreat
