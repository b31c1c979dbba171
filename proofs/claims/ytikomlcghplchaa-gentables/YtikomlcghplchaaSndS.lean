/- gen.sound at pairs of a string and nothing. -/
import Derived.Test.YtikomlcghplchaaColS
import Derived.Test.YtikomlcghplchaaHelps
namespace Go.Proofs.Ytikomlcghplchaa
open Go.RowKit Go.Shelf
set_option linter.unusedVariables false
set_option linter.unusedSimpArgs false
attribute [local go_sem] Oper.semAt_some wide_fn wide_depth

/-- sound's yield at structs: its argument is boxed first. -/
def SndYieldB {α : Type} (P : Program) (f TY TB : Nat) (enc : α → Value) (ob : α → Obj) : Prop := ∀ (x : α) (y : Value) (ov Y : Nat) (W : World) (R : Ending → World → Prop), Boxed W ov TB (.bool false) → Boxed W Y TY y → CallV P y #[enc x] (W.alloc (ob x)) R →
  (∀ e W', R e W' → ∃ b, e = .returned (.bool b) ∧ Boxed W' ov TB (.bool false)) →
  Calls P f #[enc x, .pointer (some ⟨ov, 0, none⟩), .pointer (some ⟨Y, 0, none⟩)] W fun e W'' => ∃ b W', R (.returned (.bool b)) W' ∧ e = .returned (.bool b) ∧ W'' = W'.setCell ⟨ov, 0, none⟩ (.bool (!b))
theorem sound_seqGB {P : Program} {f f' TS TY TB : Nat} (h87 : SndSeq P f f' TS TY TB) (e87 : Enters P f) (e88 : Enters P f')
    {α : Type} {enc : α → Value} {ob : α → Obj} (h88 : SndYieldB P f' TY TB enc ob) {xs : List α} {s : Value} {C : Nat → Prop} {w : World} (h : SeqV P s C enc xs w) {b : Nat} (hb : Boxed w b TS s) :
    SeqV P (.func (.func f) #[] #[.pointer (some ⟨b, 0, none⟩)]) (fun k => C k ∨ k = b) enc xs w := by
  refine ⟨fun k hk => hk.elim (h.1 k) (fun e => e ▸ hb.lt), f, _, rfl, e87, ?_⟩
  rintro y J Jx H W ⟨fn, lb, hy⟩ hC hCH hJ hJx hr h0
  have hbW : Boxed W b TS s := (hC b (.inr rfl)).trans hb
  obtain ⟨gs, ls, hs⟩ : ∃ gs ls, s = .func (.func gs) #[] ls := by obtain ⟨_, gs, ls, hs, _⟩ := h; exact ⟨gs, ls, hs⟩
  have hHlt := hJ.lt _ _ _ h0
  have hH0 : ¬ H W.heap.size := fun e => by have := hHlt _ e; omega
  have hH1 : ¬ H (W.heap.size + 1) := fun e => by have := hHlt _ e; omega
  have e0 : Only H W ((W.alloc (.cells #[y] TY)).alloc (.cells #[.bool false] TB)) := (Only.alloc H W _).trans (Only.alloc H _ _) (Grows.refl _ _)
  have hsz : ((W.alloc (.cells #[y] TY)).alloc (.cells #[.bool false] TB)).heap.size = W.heap.size + 2 := by simp
  have bY : Boxed ((W.alloc (.cells #[y] TY)).alloc (.cells #[.bool false] TB)) W.heap.size TY y := (Boxed.new W TY y).alloc _
  have bO : Boxed ((W.alloc (.cells #[y] TY)).alloc (.cells #[.bool false] TB)) (W.heap.size + 1) TB (.bool false) := by
    have := Boxed.new (W.alloc (.cells #[y] TY)) TB (.bool false); rwa [World.size_alloc] at this
  have hj1 := hJ.alloc (hJ.alloc h0 (.cells #[y] TY)) (.cells #[.bool false] TB)
  have hfin := h87 s y b W fn lb gs ls hy hs hbW
  obtain ⟨W2, hW2⟩ : ∃ W2, (W.alloc (.cells #[y] TY)).alloc (.cells #[.bool false] TB) = W2 := ⟨_, rfl⟩
  rw [hW2] at e0 hsz bY bO hj1 hfin
  have hsW2 : SeqV P s C enc xs W2 := (h.later (fun k hk => hC k (.inl hk))).only e0 (fun k hk => hCH k (.inl hk))
  have hCH' : ∀ k, C k → ¬ (H k ∨ k = W.heap.size + 1) := fun k hk => by
    have h1 : k < W.heap.size := (h.later (fun k hk => hC k (.inl hk))).1 k hk
    rintro (e | e)
    · exact hCH k (.inl hk) e
    · omega
  have hcall := hsW2.call (y := .func (.func f') #[] #[.pointer (some ⟨W.heap.size + 1, 0, none⟩), .pointer (some ⟨W.heap.size, 0, none⟩)]) ⟨_, _, rfl⟩
    (J := SndJ J W.heap.size TY TB y false) (Jx := SndJ Jx W.heap.size TY TB y true) hCH' (by rw [hsz]; exact SndJ.inv hJ _ _ _ _) (by rw [hsz]; exact SndJ.inv hJx _ _ _ _) (by
      rintro pre x rest H1 W1 hx ⟨H0, rfl, h1, h2, hj, hY, hO⟩
      refine .inl ⟨f', _, rfl, e88, ?_⟩
      have key := h88 x y (W.heap.size + 1) W.heap.size W1 _ hO hY (hr pre x rest H0 (W1.alloc (ob x)) hx (hJ.alloc hj _)) (by
        rintro e W' ⟨H', hg, ho, hend⟩
        have ho := (Only.alloc H0 W1 (ob x)).trans ho (Grows.refl _ _)
        have hO' := ho.boxed hO h2
        rcases hend with ⟨rfl, _⟩ | ⟨rfl, _⟩
        · exact ⟨_, rfl, hO'⟩
        · exact ⟨_, rfl, hO'⟩)
      refine Calls.mono key ?_
      rintro e W'' ⟨bb, W', ⟨H', hg, ho, hend⟩, rfl, rfl⟩
      have ho := (Only.alloc H0 W1 (ob x)).trans ho (Grows.refl _ _)
      have hg : Grows H0 W1 H' := fun k hk => (hg k hk).imp id (fun e => by simp at e; omega)
      have hO' := ho.boxed hO h2
      have hY' := ho.boxed hY h1
      have h2' : ¬ H' (W.heap.size + 1) := fun e => (hg _ e).elim h2 (fun e' => by have := hO.lt; omega)
      have h1' : ¬ H' W.heap.size := fun e => (hg _ e).elim h1 (fun e' => by have := hY.lt; omega)
      have hset : ∀ u, Only (fun k => H' k ∨ k = W.heap.size + 1) W' (W'.setCell ⟨W.heap.size + 1, 0, none⟩ u) := fun u => Only.setCell (.inl (.inr rfl)) _
      have hYs : ∀ u, Boxed (W'.setCell ⟨W.heap.size + 1, 0, none⟩ u) W.heap.size TY y := fun u => (Only.setCell (H := fun k => k = W.heap.size + 1) (a := ⟨W.heap.size + 1, 0, none⟩) (.inl rfl) u).boxed hY' (by simp)
      refine ⟨fun k => H' k ∨ k = W.heap.size + 1, ?_, ?_, ?_⟩
      · rintro k (hk | hk)
        · exact (hg k hk).elim (fun e => .inl (.inl e)) .inr
        · exact .inl (.inr hk)
      · refine (ho.mono (H' := fun k => H0 k ∨ k = W.heap.size + 1) fun k _ e => .inl e).trans (hset _) ?_
        rintro k (hk | hk)
        · exact (hg k hk).elim (fun e => .inl (.inl e)) .inr
        · exact .inl (.inr hk)
      · rcases hend with ⟨he, hj'⟩ | ⟨he, hj'⟩
        · obtain rfl : bb = true := by simpa using he
          exact .inl ⟨rfl, H', rfl, h1', h2', hJ.setCell hj' (by simp) h2' _, hYs _, hO'.set _⟩
        · obtain rfl : bb = false := by simpa using he
          exact .inr ⟨rfl, H', rfl, h1', h2', hJx.setCell hj' (by simp) h2' _, hYs _, hO'.set _⟩)
    ⟨H, rfl, hH0, hH1, hj1, bY, bO⟩
  refine Calls.mono (hfin _ hcall (by
    rintro e W' ⟨hv, H', hg, ho, hend⟩
    rcases hend with ⟨H0, _, _, _, _, _, hO⟩ | ⟨pre, _, H0, _, _, _, _, _, hO⟩
    · exact ⟨hv, _, hO⟩
    · exact ⟨hv, _, hO⟩)) ?_
  rintro e W'' ⟨hv, e', W', ⟨_, H', hg, ho, hend⟩, rfl⟩
  refine ⟨hv, ?_⟩
  have hon : Only H W (W'.setCell ⟨W.heap.size + 1, 0, none⟩ (.bool true)) := by
    refine (e0.trans ho ?_).trans (Only.setCell (H := fun k => k = W.heap.size + 1) (a := ⟨W.heap.size + 1, 0, none⟩) (.inl rfl) _) ?_
    · rintro k (hk | hk)
      · exact .inl hk
      · exact .inr (by omega)
    · intro k hk; exact .inr (by omega)
  have hgr : ∀ H0 : Nat → Prop, H' = (fun k => H0 k ∨ k = W.heap.size + 1) → Grows H W H0 := fun H0 e k hk => by
    subst e
    exact (hg k (.inl hk)).elim (fun e => e.elim .inl (fun e => .inr (by omega))) (fun e => .inr (by omega))
  rcases hend with ⟨H0, e0', h1, h2, hj, _, _⟩ | ⟨pre, hpre, H0, e0', h1, h2, hj, _, _⟩
  · exact ⟨H0, hgr H0 e0', hon, .inl (hJ.setCell hj (by simp) h2 _)⟩
  · exact ⟨H0, hgr H0 e0', hon, .inr ⟨pre, hpre, hJx.setCell hj (by simp) h2 _⟩⟩

set_option maxRecDepth 100000 in
set_option maxHeartbeats 400000 in
theorem s144 (x : ByteArray) (y : Value) (ov Y : Nat) (W : World) (R : Ending → World → Prop) (ho : Boxed W ov 4 (.bool false)) (hY : Boxed W Y 154 y)
    (h : CallV Try.prog y #[encP x] (W.alloc (.cells #[.string x] 111)) R) (hR : ∀ e W', R e W' → ∃ b, e = .returned (.bool b) ∧ Boxed W' ov 4 (.bool false)) :
    Calls Try.prog 144 #[encP x, .pointer (some ⟨ov, 0, none⟩), .pointer (some ⟨Y, 0, none⟩)] W fun e W'' => ∃ b W', R (.returned (.bool b)) W' ∧ e = .returned (.bool b) ∧ W'' = W'.setCell ⟨ov, 0, none⟩ (.bool (!b)) := by
  refine (callsIn_wide (n := 0)).1 ?_
  refine callsIn_of_wp Try.func144 rfl trivial ?_ rfl
  simp only [Try.ntmps144, List.size_toArray, List.length_cons, List.length_nil, Nat.reduceAdd, Nat.reduceSub, Array.replicate_succ, Array.replicate_zero, List.push_toArray, List.append_toArray, List.nil_append, List.cons_append]
  have hc1 := ho.cell
  have hc2 := hY.cell
  have hf1 := ho.frozen
  have hl1 := ho.lt
  have hl2 := hY.lt
  have Hh := Lib.hid h
  have HR := Lib.hid hR
  clear h hR
  gi_wp2_with (refine wpListIn_callV (o := ⟨some 9, _, _, _, _, _⟩) rfl rfl _ _ _ rfl y (encP x) rfl rfl Hh.out ?_)
  intro e W' hr
  obtain ⟨b, rfl, hb⟩ := HR.out e W' hr
  have hc3 := hb.cell
  have hf3 := hb.frozen
  have Hr := Lib.hid hr
  clear hr HR Hh
  refine ⟨_, rfl, ?_⟩
  cases b
  · gi_wp2
    go_ret
    exact ⟨false, W', Hr.out, rfl, rfl⟩
  · gi_wp2
    go_ret
    exact ⟨true, W', Hr.out, rfl, rfl⟩

set_option maxRecDepth 100000 in
set_option maxHeartbeats 400000 in
theorem sound122 (fn : Fn) (x : Array Value) (lb : Array Value) (s : Value) (hs : s = .func fn x lb ∨ s = .nilFunc) (w : World) :
    Calls Try.prog 122 #[s] w fun e w' => e = .returned (.func (.func 143) #[] #[.pointer (some ⟨w.heap.size, 0, none⟩)]) ∧ w.alloc (.cells #[s] 118) = w' := by
  refine (callsIn_wide (n := 0)).1 ?_
  refine callsIn_of_wp Try.func122 rfl trivial ?_ rfl
  simp only [Try.ntmps122, List.size_toArray, List.length_cons, List.length_nil, Nat.reduceAdd, Nat.reduceSub, Array.replicate_succ, Array.replicate_zero, List.push_toArray, List.append_toArray, List.nil_append, List.cons_append]
  rcases hs with rfl | rfl
  all_goals
    gi_wp2
    go_ret
    exact ⟨rfl, rfl⟩

set_option maxRecDepth 100000 in
set_option maxHeartbeats 400000 in
theorem s143 (s y : Value) (S : Nat) (W : World) (fn : Fn) (lb : Array Value) (gs : FuncId) (ls : Array Value) (hy : y = .func fn #[] lb) (hs : s = .func (.func gs) #[] ls) (hS : Boxed W S 118 s) (R : Ending → World → Prop)
    (h : CallV Try.prog s #[.func (.func 144) #[] #[.pointer (some ⟨W.heap.size + 1, 0, none⟩), .pointer (some ⟨W.heap.size, 0, none⟩)]] ((W.alloc (.cells #[y] 154)).alloc (.cells #[.bool false] 4)) R)
    (hR : ∀ e W', R e W' → (∃ v, e = .returned v) ∧ ∃ b, Boxed W' (W.heap.size + 1) 4 (.bool b)) :
    Calls Try.prog 143 #[y, .pointer (some ⟨S, 0, none⟩)] W fun e W'' => (∃ v, e = .returned v) ∧ ∃ e W', R e W' ∧ W'' = W'.setCell ⟨W.heap.size + 1, 0, none⟩ (.bool true) := by
  refine (callsIn_wide (n := 0)).1 ?_
  refine callsIn_of_wp Try.func143 rfl trivial ?_ rfl
  simp only [Try.ntmps143, List.size_toArray, List.length_cons, List.length_nil, Nat.reduceAdd, Nat.reduceSub, Array.replicate_succ, Array.replicate_zero, List.push_toArray, List.append_toArray, List.nil_append, List.cons_append]
  have hc1 := hS.cell
  have hlt := hS.lt
  have Hh := Lib.hid h
  have HR := Lib.hid hR
  clear h hR
  subst hy hs
  have q134 := fun w => run_eql_func_nil (P := Try.prog) w 118 Try.underlying118
  have q161 := fun w => run_eql_func_nil (P := Try.prog) w 154 Try.underlying154
  gi_wp2_with (refine wpListIn_callV (o := ⟨some 12, _, _, _, _, _⟩) rfl rfl _ _ _ rfl _ _ rfl rfl Hh.out ?_)
  intro e W' hr
  obtain ⟨⟨v, rfl⟩, b, hb⟩ := HR.out e W' hr
  have hc3 := hb.cell
  have hf3 := hb.frozen
  have Hr := Lib.hid hr
  clear hr HR Hh
  refine ⟨_, rfl, ?_⟩
  gi_wp2
  go_end0
  exact ⟨⟨_, rfl⟩, _, W', Hr.out, rfl⟩

set_option maxRecDepth 100000 in
set_option maxHeartbeats 400000 in
theorem s143nil (y : Value) (S : Nat) (W : World) (fn : Fn) (lb : Array Value) (hy : y = .func fn #[] lb) (hS : Boxed W S 118 .nilFunc) :
    Calls Try.prog 143 #[y, .pointer (some ⟨S, 0, none⟩)] W fun e W'' => (∃ v, e = .returned v) ∧ W'' = W.alloc (.cells #[y] 154) := by
  refine (callsIn_wide (n := 0)).1 ?_
  refine callsIn_of_wp Try.func143 rfl trivial ?_ rfl
  simp only [Try.ntmps143, List.size_toArray, List.length_cons, List.length_nil, Nat.reduceAdd, Nat.reduceSub, Array.replicate_succ, Array.replicate_zero, List.push_toArray, List.append_toArray, List.nil_append, List.cons_append]
  have hc1 := hS.cell
  have hlt := hS.lt
  subst hy
  have q134 := fun w => run_eql_nil_nil (P := Try.prog) w 118 Try.underlying118
  gi_wp2
  refine bodyPost_ret (results_none rfl _ _ _) rfl ?_
  exact ⟨⟨_, rfl⟩, rfl⟩

/-- THE SEQUENCE THAT sound MAKES OF s IS s. -/
theorem sound_seqB {xs : List ByteArray} {s : Value} {C : Nat → Prop} {w : World} (h : SeqV Try.prog s C encP xs w) {b : Nat} (hb : Boxed w b 118 s) :
    SeqV Try.prog (.func (.func 143) #[] #[.pointer (some ⟨b, 0, none⟩)]) (fun k => C k ∨ k = b) encP xs w :=
  sound_seqGB s143 (enters_of Try.func143 (by kernel_rfl) rfl) (enters_of Try.func144 (by kernel_rfl) rfl) (ob := fun x => .cells #[.string x] 111) s144 h hb
end Go.Proofs.Ytikomlcghplchaa
