/- Nil sets and tables, nil functions. -/
import Derived.Test.YtdfnainibjgenaaGreatEmp
namespace Go.Proofs.YtdfnainibjgenaaGreat
open Go.RowKit Go.Shelf
set_option linter.unusedVariables false
set_option linter.unusedSimpArgs false
attribute [local go_sem] Oper.semAt_some wide_fn wide_depth

set_option maxRecDepth 100000 in
set_option maxHeartbeats 1000000 in
theorem n5 (k : Value) (w : World) : Calls Tryz.prog 5 #[.pointer none, k] w fun e w' => e = .returned (.tuple #[.int .i64 0, .bool false]) ∧ w = w' := by
  refine (callsIn_wide (n := 0)).1 ?_
  refine callsIn_of_wp Tryz.func5 rfl trivial ?_ rfl
  simp only [Tryz.ntmps5, List.size_toArray, List.length_cons, List.length_nil, Nat.reduceAdd, Nat.reduceSub, Array.replicate_succ, Array.replicate_zero, List.push_toArray, List.append_toArray, List.nil_append, List.cons_append]
  gi_wp2
  go_ret2
  exact ⟨rfl, rfl⟩

set_option maxRecDepth 100000 in
set_option maxHeartbeats 1000000 in
theorem n6 (k : Value) (w : World) : Calls Tryz.prog 6 #[.pointer none, k, .int .i64 1] w fun e w' => (∃ v, e = .returned v) ∧ w = w' := by
  refine (callsIn_wide (n := 0)).1 ?_
  refine callsIn_of_wp Tryz.func6 rfl trivial ?_ rfl
  simp only [Tryz.ntmps6, List.size_toArray, List.length_cons, List.length_nil, Nat.reduceAdd, Nat.reduceSub, Array.replicate_succ, Array.replicate_zero, List.push_toArray, List.append_toArray, List.nil_append, List.cons_append]
  gi_wp2
  refine bodyPost_ret (results_none rfl _ _ _) rfl ?_
  exact ⟨⟨_, rfl⟩, rfl⟩

set_option maxRecDepth 100000 in
set_option maxHeartbeats 1000000 in
theorem n7 (k : Value) (w : World) : Calls Tryz.prog 7 #[.pointer none, k] w fun e w' => e = .returned (.bool false) ∧ w = w' := by
  refine (callsIn_wide (n := 0)).1 ?_
  refine callsIn_of_wp Tryz.func7 rfl trivial ?_ rfl
  simp only [Tryz.ntmps7, List.size_toArray, List.length_cons, List.length_nil, Nat.reduceAdd, Nat.reduceSub, Array.replicate_succ, Array.replicate_zero, List.push_toArray, List.append_toArray, List.nil_append, List.cons_append]
  gi_wp2
  go_ret
  exact ⟨rfl, rfl⟩

set_option maxRecDepth 100000 in
set_option maxHeartbeats 1000000 in
theorem n8 (k : Value) (w : World) : Calls Tryz.prog 8 #[.pointer none, k] w fun e w' => e = .returned (.bool false) ∧ w = w' := by
  refine (callsIn_wide (n := 0)).1 ?_
  refine callsIn_of_wp Tryz.func8 rfl trivial ?_ rfl
  simp only [Tryz.ntmps8, List.size_toArray, List.length_cons, List.length_nil, Nat.reduceAdd, Nat.reduceSub, Array.replicate_succ, Array.replicate_zero, List.push_toArray, List.append_toArray, List.nil_append, List.cons_append]
  gi_wp2
  go_ret
  exact ⟨rfl, rfl⟩

set_option maxRecDepth 100000 in
set_option maxHeartbeats 1000000 in
theorem n9 (k : Value) (w : World) : Calls Tryz.prog 9 #[.pointer none, k] w fun e w' => e = .returned (.bool false) ∧ w = w' := by
  refine (callsIn_wide (n := 0)).1 ?_
  refine callsIn_of_wp Tryz.func9 rfl trivial ?_ rfl
  simp only [Tryz.ntmps9, List.size_toArray, List.length_cons, List.length_nil, Nat.reduceAdd, Nat.reduceSub, Array.replicate_succ, Array.replicate_zero, List.push_toArray, List.append_toArray, List.nil_append, List.cons_append]
  gi_wp2
  go_ret
  exact ⟨rfl, rfl⟩

set_option maxRecDepth 100000 in
set_option maxHeartbeats 1000000 in
theorem n10 (w : World) : Calls Tryz.prog 10 #[.pointer none] w fun e w' => e = .returned (.int .i64 0) ∧ w = w' := by
  refine (callsIn_wide (n := 0)).1 ?_
  refine callsIn_of_wp Tryz.func10 rfl trivial ?_ rfl
  simp only [Tryz.ntmps10, List.size_toArray, List.length_cons, List.length_nil, Nat.reduceAdd, Nat.reduceSub, Array.replicate_succ, Array.replicate_zero, List.push_toArray, List.append_toArray, List.nil_append, List.cons_append]
  gi_wp2
  go_ret
  exact ⟨rfl, rfl⟩

set_option maxRecDepth 100000 in
set_option maxHeartbeats 1000000 in
theorem n14 (w : World) : Calls Tryz.prog 14 #[.pointer none] w fun e w' => e = .returned (.int .i64 0) ∧ w = w' := by
  refine (callsIn_wide (n := 0)).1 ?_
  refine callsIn_of_wp Tryz.func14 rfl trivial ?_ rfl
  simp only [Tryz.ntmps14, List.size_toArray, List.length_cons, List.length_nil, Nat.reduceAdd, Nat.reduceSub, Array.replicate_succ, Array.replicate_zero, List.push_toArray, List.append_toArray, List.nil_append, List.cons_append]
  gi_wp2
  go_ret
  exact ⟨rfl, rfl⟩

set_option maxRecDepth 100000 in
set_option maxHeartbeats 1000000 in
theorem n34 (w : World) : Calls Tryz.prog 34 #[.pointer none] w fun e w' => e = .returned (.slice none 0 0) ∧ w = w' := by
  refine (callsIn_wide (n := 0)).1 ?_
  refine callsIn_of_wp Tryz.func34 rfl trivial ?_ rfl
  simp only [Tryz.ntmps34, List.size_toArray, List.length_cons, List.length_nil, Nat.reduceAdd, Nat.reduceSub, Array.replicate_succ, Array.replicate_zero, List.push_toArray, List.append_toArray, List.nil_append, List.cons_append]
  gi_wp2
  go_ret
  exact ⟨rfl, rfl⟩

set_option maxRecDepth 100000 in
set_option maxHeartbeats 1000000 in
theorem n13 (k : Value) (w : World) : Calls Tryz.prog 13 #[.pointer none, k] w fun e w' => e = .returned (.bool false) ∧ w = w' := by
  refine (callsIn_wide (n := 0)).1 ?_
  refine callsIn_of_wp Tryz.func13 rfl trivial ?_ rfl
  simp only [Tryz.ntmps13, List.size_toArray, List.length_cons, List.length_nil, Nat.reduceAdd, Nat.reduceSub, Array.replicate_succ, Array.replicate_zero, List.push_toArray, List.append_toArray, List.nil_append, List.cons_append]
  gi_wp2_with (gi_at_call 5; refine ((callsIn_wide (n := 0)).2 (n5 k w)).mono ?_; rintro e w' ⟨rfl, rfl⟩)
  go_ret
  exact ⟨rfl, rfl⟩

set_option maxRecDepth 100000 in
set_option maxHeartbeats 1000000 in
theorem n12 (w : World) : Calls Tryz.prog 12 #[.pointer none] w (GivesSeq Tryz.prog (fun _ => False) encE [] w) := by
  refine (callsIn_wide (n := 0)).1 ?_
  refine callsIn_of_wp Tryz.func12 rfl trivial ?_ rfl
  simp only [Tryz.ntmps12, List.size_toArray, List.length_cons, List.length_nil, Nat.reduceAdd, Nat.reduceSub, Array.replicate_succ, Array.replicate_zero, List.push_toArray, List.append_toArray, List.nil_append, List.cons_append]
  gi_wp2_with (gi_at_call 30; refine ((callsIn_wide (n := 0)).2 (of30 w)).mono ?_; rintro e w1 ⟨t, C', rfl, ht, hB1, hC1⟩)
  go_ret
  exact ⟨t, C', rfl, ht, hB1, hC1⟩

set_option maxRecDepth 100000 in
set_option maxHeartbeats 1000000 in
theorem m54 (gs : FuncId) (ls : Array Value) (s y f : Value) (hsf : s = .func (.func gs) #[] ls) (fm : Fn) (lm : Array Value) (hf : f = .func fm #[] lm) (bf bs : Nat) (W : World) (hy : ∃ fn lb, y = .func fn #[] lb) (C H : Nat → Prop) (J Jx : List Empty → (Nat → Prop) → World → Prop)
    (hbf : Boxed W bf 71 f) (hbs : Boxed W bs 67 s) (hCH : ∀ b, C b → ¬ H b) (hs : SeqV Tryz.prog s C encE [] W) (hJ : Inv W.heap.size J) (h0 : J [] H W) :
    Calls Tryz.prog 54 #[y, .pointer (some ⟨bf, 0, none⟩), .pointer (some ⟨bs, 0, none⟩)] W (EndR J Jx [] H W) := by
  obtain ⟨fn, lb, rfl⟩ := hy
  have key : ∀ (W2 : World), W2 = (W.alloc (.cells #[.func fn #[] lb] 29)).alloc (.cells #[s] 67) → Only H W W2 ∧ W2.heap.size = W.heap.size + 2 ∧ Boxed W2 (W.heap.size + 1) 67 s ∧ J [] H W2 := by
    rintro W2 rfl
    refine ⟨(Only.alloc H W _).trans (Only.alloc H _ _) (Grows.refl _ _), by simp, ?_, hJ.alloc (hJ.alloc h0 _) _⟩
    have := Boxed.new (W.alloc (.cells #[.func fn #[] lb] 29)) 67 s; rwa [World.size_alloc] at this
  have hClt := hs.1
  have Hsnd : Hid (∀ (W2 : World) (b : Nat), Boxed W2 b 67 s → (∀ k, C k → W2.heap[k]? = W.heap[k]?) → SeqV Tryz.prog (.func (.func 77) #[] #[.pointer (some ⟨b, 0, none⟩)]) (fun k => C k ∨ k = b) encE [] W2) := Lib.hid fun W2 b hb hW => sound_seqP (hs.later hW) hb
  clear hs
  refine (callsIn_wide (n := 0)).1 ?_
  refine callsIn_of_wp_marks Tryz.func54 rfl trivial ?_ rfl
  simp only [Tryz.ntmps54, List.size_toArray, List.length_cons, List.length_nil, Nat.reduceAdd, Nat.reduceSub, Array.replicate_succ, Array.replicate_zero, List.push_toArray, List.append_toArray, List.nil_append, List.cons_append]
  have hc1 := hbf.cell
  have hl1 := hbf.lt
  have hc2 := hbs.cell
  have hl2 := hbs.lt
  subst hsf hf
  have q71 := fun w => run_eql_func_nil (P := Tryz.prog) w 71 Tryz.underlying71
  gi_wp2_with (gi_at_call 55; refine ((callsIn_wide (n := 0)).2 (sound55 _ _ _ _ (.inl rfl) _)).mono ?_; rintro e w' ⟨rfl, rfl⟩)
  obtain ⟨e0, hsz, bS, hj1⟩ := key _ rfl
  generalize (W.alloc (.cells #[.func fn #[] lb] 29)).alloc (.cells #[.func (.func gs) #[] ls] 67) = W2 at *
  have hsnd := Hsnd.out
  clear hc1 hc2 q71
  have hHlt := hJ.lt _ _ _ h0
  refine wpIn_rangeFunc_seq rfl (hsnd _ _ bS (fun k hk => e0.block k (hClt k hk) (hCH k hk))) H (fun b hb => ?_) rfl (fun _ => J []) (fun _ _ _ _ => False) ⟨fun _ => (hJ.mono (by omega)).stable [], fun _ => hJ.lt []⟩ (fun _ => Inv.never _) hj1 (fun x => x.elim) ?assign ?body ?done ?stop
  case assign => intro l x; exact x.elim
  case body => intro l pre x; exact x.elim
  case done =>
    intro D H1 W1 hj hg ho hD hHD hK
    refine ⟨by simp, .inl ⟨_, _, rfl, run_takeDeferred hK, ?_⟩⟩
    exact ⟨_, results_none rfl _ _ _, ⟨_, rfl⟩, H1, fun b hb => (hg b hb).imp id fun e => by omega, (e0.trans ho (Grows.refl _ _)).behind (by omega) _, .inl (hJ.putObj hj (by omega) hHD _)⟩
  case stop =>
    intro D c pre H1 W1 _ h
    exact h.elim
  · rcases hb with hb | rfl
    · exact hCH b hb
    · intro e; have := hHlt _ e; omega

set_option maxRecDepth 100000 in
set_option maxHeartbeats 1000000 in
theorem mk32 (fn : Fn) (x lb : Array Value) (s f : Value) (hs : s = .func fn x lb) (fm : Fn) (lx lm : Array Value) (hf : f = .func fm lx lm) (w : World) :
    Calls Tryz.prog 32 #[s, f] w fun e w' => e = .returned (.func (.func 67) #[] #[.pointer (some ⟨w.heap.size + 2, 0, none⟩)]) ∧
      ((w.alloc (.cells #[s] 67)).alloc (.cells #[f] 71)).alloc (.cells #[.func (.func 54) #[] #[.pointer (some ⟨w.heap.size + 1, 0, none⟩), .pointer (some ⟨w.heap.size, 0, none⟩)]] 34) = w' := by
  refine (callsIn_wide (n := 0)).1 ?_
  refine callsIn_of_wp Tryz.func32 rfl trivial ?_ rfl
  simp only [Tryz.ntmps32, List.size_toArray, List.length_cons, List.length_nil, Nat.reduceAdd, Nat.reduceSub, Array.replicate_succ, Array.replicate_zero, List.push_toArray, List.append_toArray, List.nil_append, List.cons_append]
  subst hs hf
  gi_wp2_with (gi_at_call 46; refine ((callsIn_wide (n := 0)).2 (sound46 _ _ _ _ (.inl rfl) _)).mono ?_; rintro e w' ⟨rfl, rfl⟩)
  go_ret
  exact ⟨rfl, rfl⟩

set_option maxRecDepth 100000 in
set_option maxHeartbeats 1000000 in
theorem mk19 (fn : Fn) (x lb : Array Value) (s f : Value) (hs : s = .func fn x lb) (hf : f = .nilFunc) (w : World) :
    Calls Tryz.prog 19 #[s, f] w fun e w' => e = .returned (.func (.func 62) #[] #[.pointer (some ⟨w.heap.size + 2, 0, none⟩)]) ∧
      ((w.alloc (.cells #[s] 38)).alloc (.cells #[f] 75)).alloc (.cells #[.func (.func 40) #[] #[.pointer (some ⟨w.heap.size + 1, 0, none⟩), .pointer (some ⟨w.heap.size, 0, none⟩)]] 38) = w' := by
  refine (callsIn_wide (n := 0)).1 ?_
  refine callsIn_of_wp Tryz.func19 rfl trivial ?_ rfl
  simp only [Tryz.ntmps19, List.size_toArray, List.length_cons, List.length_nil, Nat.reduceAdd, Nat.reduceSub, Array.replicate_succ, Array.replicate_zero, List.push_toArray, List.append_toArray, List.nil_append, List.cons_append]
  subst hs hf
  gi_wp2_with (gi_at_call 36; refine ((callsIn_wide (n := 0)).2 (sound36 _ _ _ _ (.inl rfl) _)).mono ?_; rintro e w' ⟨rfl, rfl⟩)
  go_ret
  exact ⟨rfl, rfl⟩

set_option maxRecDepth 100000 in
set_option maxHeartbeats 1000000 in
theorem mk20 (fn : Fn) (x lb : Array Value) (s f : Value) (hs : s = .func fn x lb) (hf : f = .nilFunc) (w : World) :
    Calls Tryz.prog 20 #[s, f] w fun e w' => e = .returned (.func (.func 62) #[] #[.pointer (some ⟨w.heap.size + 2, 0, none⟩)]) ∧
      ((w.alloc (.cells #[s] 38)).alloc (.cells #[f] 72)).alloc (.cells #[.func (.func 41) #[] #[.pointer (some ⟨w.heap.size + 1, 0, none⟩), .pointer (some ⟨w.heap.size, 0, none⟩)]] 38) = w' := by
  refine (callsIn_wide (n := 0)).1 ?_
  refine callsIn_of_wp Tryz.func20 rfl trivial ?_ rfl
  simp only [Tryz.ntmps20, List.size_toArray, List.length_cons, List.length_nil, Nat.reduceAdd, Nat.reduceSub, Array.replicate_succ, Array.replicate_zero, List.push_toArray, List.append_toArray, List.nil_append, List.cons_append]
  subst hs hf
  gi_wp2_with (gi_at_call 36; refine ((callsIn_wide (n := 0)).2 (sound36 _ _ _ _ (.inl rfl) _)).mono ?_; rintro e w' ⟨rfl, rfl⟩)
  go_ret
  exact ⟨rfl, rfl⟩

/-- gen.Map of an empty sequence of pairs. -/
theorem map32 (s : Value) (C : Nat → Prop) (w : World) (hs : SeqV Tryz.prog s C encE [] w) : Calls Tryz.prog 32 #[s, .func (.func 35) #[] #[]] w (GivesSeq Tryz.prog C encE [] w) := by
  obtain ⟨gs, ls, hsf⟩ := hs.func
  obtain ⟨f, hf⟩ : ∃ f, f = Value.func (.func 35) #[] #[] := ⟨_, rfl⟩
  rw [← hf]
  refine Calls.mono (mk32 _ _ _ s f hsf _ _ _ hf w) ?_
  rintro e w' ⟨rfl, rfl⟩
  obtain ⟨v, hv⟩ : ∃ v, v = Value.func (.func 54) #[] #[.pointer (some ⟨w.heap.size + 1, 0, none⟩), .pointer (some ⟨w.heap.size, 0, none⟩)] := ⟨_, rfl⟩
  rw [← hv]
  have hB : Below w.heap.size w (((w.alloc (.cells #[s] 67)).alloc (.cells #[f] 71)).alloc (.cells #[v] 34)) :=
    (((Below.refl _ w).alloc (Nat.le_refl _) _).alloc (by simp) _).alloc (by simp; omega) _
  have b1 : Boxed (((w.alloc (.cells #[s] 67)).alloc (.cells #[f] 71)).alloc (.cells #[v] 34)) w.heap.size 67 s := ((Boxed.new w 67 s).alloc _).alloc _
  have b2 : Boxed (((w.alloc (.cells #[s] 67)).alloc (.cells #[f] 71)).alloc (.cells #[v] 34)) (w.heap.size + 1) 71 f := by
    have := (Boxed.new (w.alloc (.cells #[s] 67)) 71 f).alloc (.cells #[v] 34); rwa [World.size_alloc] at this
  have b3 : Boxed (((w.alloc (.cells #[s] 67)).alloc (.cells #[f] 71)).alloc (.cells #[v] 34)) (w.heap.size + 2) 34 v := by
    have := Boxed.new ((w.alloc (.cells #[s] 67)).alloc (.cells #[f] 71)) 34 v; rwa [World.size_alloc, World.size_alloc] at this
  generalize ((w.alloc (.cells #[s] 67)).alloc (.cells #[f] 71)).alloc (.cells #[v] 34) = w2 at *
  have hq : SeqV Tryz.prog v (fun k => C k ∨ k = w.heap.size + 1 ∨ k = w.heap.size) encE [] w2 := by
    have hs2 := hs.below hB
    refine ⟨?_, 54, _, hv, enters_of Tryz.func54 (by kernel_rfl) rfl, ?_⟩
    · rintro k (hk | rfl | rfl)
      · exact hs2.1 k hk
      · exact b2.lt
      · exact b1.lt
    · intro y J Jx H W hy hC hCH hJ hJx hr h0
      exact m54 gs ls s y f hsf _ _ hf _ _ W hy C H J Jx ((hC _ (.inr (.inl rfl))).trans b2) ((hC _ (.inr (.inr rfl))).trans b1) (fun k hk => hCH k (.inl hk)) (hs2.later fun k hk => hC k (.inl hk)) hJ h0
  refine ⟨_, _, rfl, sound_seqS hq b3, hB, ?_⟩
  rintro k ((hk | rfl | rfl) | rfl)
  · exact .inl hk
  all_goals exact .inr (by omega)

set_option maxRecDepth 100000 in
set_option maxHeartbeats 1000000 in
/-- The keys of a nil table. -/
theorem n15 (w : World) : Calls Tryz.prog 15 #[.pointer none] w (GivesSeq Tryz.prog (fun _ => False) encE [] w) := by
  refine (callsIn_wide (n := 0)).1 ?_
  refine callsIn_of_wp Tryz.func15 rfl trivial ?_ rfl
  simp only [Tryz.ntmps15, List.size_toArray, List.length_cons, List.length_nil, Nat.reduceAdd, Nat.reduceSub, Array.replicate_succ, Array.replicate_zero, List.push_toArray, List.append_toArray, List.nil_append, List.cons_append]
  gi_wp2_with (gi_at_call 34; refine ((callsIn_wide (n := 0)).2 (n34 w)).mono ?_; rintro e w' ⟨rfl, rfl⟩)
  refine ((callsIn_wide (n := 0)).2 (of33 w)).mono ?_
  rintro e w1 ⟨t, C', rfl, ht, hB1, hC1⟩
  obtain ⟨gs, ls, rfl⟩ := ht.func
  gi_wp2_with (gi_at_call 32; refine ((callsIn_wide (n := 0)).2 (map32 _ _ _ ht)).mono ?_; rintro e w2 ⟨t2, C2, rfl, ht2, hB2, hC2⟩)
  go_ret
  refine ⟨t2, C2, rfl, ht2, hB1.trans (hB2.mono hB1.size), fun b hb => ?_⟩
  rcases hC2 b hb with h | h
  · exact hC1 b h
  · exact .inr (Nat.le_trans hB1.size h)

set_option maxRecDepth 100000 in
set_option maxHeartbeats 1000000 in
theorem q40 (y : Value) (hy : ∃ fn lb, y = .func fn #[] lb) (bf bs : Nat) (W : World) (hb : Boxed W bf 75 .nilFunc) :
    Calls Tryz.prog 40 #[y, .pointer (some ⟨bf, 0, none⟩), .pointer (some ⟨bs, 0, none⟩)] W fun e W' => (∃ v, e = .returned v) ∧ (W = W' ∨ ∃ o, W.alloc o = W') := by
  obtain ⟨fn, lb, rfl⟩ := hy
  refine (callsIn_wide (n := 0)).1 ?_
  refine callsIn_of_wp Tryz.func40 rfl trivial ?_ rfl
  simp only [Tryz.ntmps40, List.size_toArray, List.length_cons, List.length_nil, Nat.reduceAdd, Nat.reduceSub, Array.replicate_succ, Array.replicate_zero, List.push_toArray, List.append_toArray, List.nil_append, List.cons_append]
  have hc1 := hb.cell
  have hl1 := hb.lt
  have q71 := fun w => run_eql_nil_nil (P := Tryz.prog) w 75 Tryz.underlying75
  gi_wp2
  refine bodyPost_ret (results_none rfl _ _ _) rfl ?_
  exact ⟨⟨_, rfl⟩, .inr ⟨_, rfl⟩⟩

/-- gen.Map with a nil function. -/
theorem nil19 (s : Value) (hs : ∃ gs ls, s = .func (.func gs) #[] ls) (w : World) : Calls Tryz.prog 19 #[s, .nilFunc] w (GivesSeq Tryz.prog (fun _ => False) encI [] w) := by
  obtain ⟨gs, ls, hsf⟩ := hs
  obtain ⟨f, hf⟩ : ∃ f, f = Value.nilFunc := ⟨_, rfl⟩
  rw [← hf]
  refine Calls.mono (mk19 _ _ _ s f hsf hf w) ?_
  rintro e w' ⟨rfl, rfl⟩
  obtain ⟨v, hv⟩ : ∃ v, v = Value.func (.func 40) #[] #[.pointer (some ⟨w.heap.size + 1, 0, none⟩), .pointer (some ⟨w.heap.size, 0, none⟩)] := ⟨_, rfl⟩
  rw [← hv]
  have hB : Below w.heap.size w (((w.alloc (.cells #[s] 38)).alloc (.cells #[f] 75)).alloc (.cells #[v] 38)) :=
    (((Below.refl _ w).alloc (Nat.le_refl _) _).alloc (by simp) _).alloc (by simp; omega) _
  have b1 : Boxed (((w.alloc (.cells #[s] 38)).alloc (.cells #[f] 75)).alloc (.cells #[v] 38)) w.heap.size 38 s := ((Boxed.new w 38 s).alloc _).alloc _
  have b2 : Boxed (((w.alloc (.cells #[s] 38)).alloc (.cells #[f] 75)).alloc (.cells #[v] 38)) (w.heap.size + 1) 75 f := by
    have := (Boxed.new (w.alloc (.cells #[s] 38)) 75 f).alloc (.cells #[v] 38); rwa [World.size_alloc] at this
  have b3 : Boxed (((w.alloc (.cells #[s] 38)).alloc (.cells #[f] 75)).alloc (.cells #[v] 38)) (w.heap.size + 2) 38 v := by
    have := Boxed.new ((w.alloc (.cells #[s] 38)).alloc (.cells #[f] 75)) 38 v; rwa [World.size_alloc, World.size_alloc] at this
  generalize ((w.alloc (.cells #[s] 38)).alloc (.cells #[f] 75)).alloc (.cells #[v] 38) = w2 at *
  have hq : SeqV Tryz.prog v (fun k => k = w.heap.size + 1) encE [] w2 := by
    rw [hv]
    exact quiet_seq (fun b hb => by rw [hb]; exact b2.lt) (enters_of Tryz.func40 (by kernel_rfl) rfl) (fun y W hy hW => q40 y hy _ _ W (hf ▸ (hW _ rfl).trans b2))
  refine ⟨_, _, rfl, (sound_seq hq b3).empty encI, hB, ?_⟩
  rintro k (rfl | rfl)
  all_goals exact .inr (by omega)

set_option maxRecDepth 100000 in
set_option maxHeartbeats 1000000 in
theorem q41 (y : Value) (hy : ∃ fn lb, y = .func fn #[] lb) (bf bs : Nat) (W : World) (hb : Boxed W bf 72 .nilFunc) :
    Calls Tryz.prog 41 #[y, .pointer (some ⟨bf, 0, none⟩), .pointer (some ⟨bs, 0, none⟩)] W fun e W' => (∃ v, e = .returned v) ∧ (W = W' ∨ ∃ o, W.alloc o = W') := by
  obtain ⟨fn, lb, rfl⟩ := hy
  refine (callsIn_wide (n := 0)).1 ?_
  refine callsIn_of_wp Tryz.func41 rfl trivial ?_ rfl
  simp only [Tryz.ntmps41, List.size_toArray, List.length_cons, List.length_nil, Nat.reduceAdd, Nat.reduceSub, Array.replicate_succ, Array.replicate_zero, List.push_toArray, List.append_toArray, List.nil_append, List.cons_append]
  have hc1 := hb.cell
  have hl1 := hb.lt
  have q71 := fun w => run_eql_nil_nil (P := Tryz.prog) w 72 Tryz.underlying72
  gi_wp2
  refine bodyPost_ret (results_none rfl _ _ _) rfl ?_
  exact ⟨⟨_, rfl⟩, .inr ⟨_, rfl⟩⟩

/-- gen.Keep with a nil function. -/
theorem nil20 (s : Value) (hs : ∃ gs ls, s = .func (.func gs) #[] ls) (w : World) : Calls Tryz.prog 20 #[s, .nilFunc] w (GivesSeq Tryz.prog (fun _ => False) encI [] w) := by
  obtain ⟨gs, ls, hsf⟩ := hs
  obtain ⟨f, hf⟩ : ∃ f, f = Value.nilFunc := ⟨_, rfl⟩
  rw [← hf]
  refine Calls.mono (mk20 _ _ _ s f hsf hf w) ?_
  rintro e w' ⟨rfl, rfl⟩
  obtain ⟨v, hv⟩ : ∃ v, v = Value.func (.func 41) #[] #[.pointer (some ⟨w.heap.size + 1, 0, none⟩), .pointer (some ⟨w.heap.size, 0, none⟩)] := ⟨_, rfl⟩
  rw [← hv]
  have hB : Below w.heap.size w (((w.alloc (.cells #[s] 38)).alloc (.cells #[f] 72)).alloc (.cells #[v] 38)) :=
    (((Below.refl _ w).alloc (Nat.le_refl _) _).alloc (by simp) _).alloc (by simp; omega) _
  have b1 : Boxed (((w.alloc (.cells #[s] 38)).alloc (.cells #[f] 72)).alloc (.cells #[v] 38)) w.heap.size 38 s := ((Boxed.new w 38 s).alloc _).alloc _
  have b2 : Boxed (((w.alloc (.cells #[s] 38)).alloc (.cells #[f] 72)).alloc (.cells #[v] 38)) (w.heap.size + 1) 72 f := by
    have := (Boxed.new (w.alloc (.cells #[s] 38)) 72 f).alloc (.cells #[v] 38); rwa [World.size_alloc] at this
  have b3 : Boxed (((w.alloc (.cells #[s] 38)).alloc (.cells #[f] 72)).alloc (.cells #[v] 38)) (w.heap.size + 2) 38 v := by
    have := Boxed.new ((w.alloc (.cells #[s] 38)).alloc (.cells #[f] 72)) 38 v; rwa [World.size_alloc, World.size_alloc] at this
  generalize ((w.alloc (.cells #[s] 38)).alloc (.cells #[f] 72)).alloc (.cells #[v] 38) = w2 at *
  have hq : SeqV Tryz.prog v (fun k => k = w.heap.size + 1) encE [] w2 := by
    rw [hv]
    exact quiet_seq (fun b hb => by rw [hb]; exact b2.lt) (enters_of Tryz.func41 (by kernel_rfl) rfl) (fun y W hy hW => q41 y hy _ _ W (hf ▸ (hW _ rfl).trans b2))
  refine ⟨_, _, rfl, (sound_seq hq b3).empty encI, hB, ?_⟩
  rintro k (rfl | rfl)
  all_goals exact .inr (by omega)

set_option maxRecDepth 100000 in
set_option maxHeartbeats 1000000 in
/-- gen.Fold with a nil function. -/
theorem nil22 (s : Value) (hs : ∃ gs ls, s = .func (.func gs) #[] ls) (w : World) : Calls Tryz.prog 22 #[s, .int .i64 7, .nilFunc] w fun e w' => e = .returned (.int .i64 7) ∧ Below w.heap.size w w' := by
  obtain ⟨gs, ls, rfl⟩ := hs
  refine (callsIn_wide (n := 0)).1 ?_
  refine callsIn_of_wp Tryz.func22 rfl trivial ?_ rfl
  simp only [Tryz.ntmps22, List.size_toArray, List.length_cons, List.length_nil, Nat.reduceAdd, Nat.reduceSub, Array.replicate_succ, Array.replicate_zero, List.push_toArray, List.append_toArray, List.nil_append, List.cons_append]
  have q76 := fun w => run_eql_nil_nil (P := Tryz.prog) w 76 Tryz.underlying76
  gi_wp2
  go_ret
  exact ⟨rfl, ((Below.refl _ w).alloc (Nat.le_refl _) _).alloc (by simp) _⟩

set_option maxRecDepth 100000 in
set_option maxHeartbeats 1000000 in
/-- gen.Collect of no sequence. -/
theorem nil18 (w : World) : Calls Tryz.prog 18 #[.nilFunc, .int .i64 9] w (GivesInts [] w) := by
  refine (callsIn_wide (n := 0)).1 ?_
  refine callsIn_of_wp Tryz.func18 rfl trivial ?_ rfl
  simp only [Tryz.ntmps18, List.size_toArray, List.length_cons, List.length_nil, Nat.reduceAdd, Nat.reduceSub, Array.replicate_succ, Array.replicate_zero, List.push_toArray, List.append_toArray, List.nil_append, List.cons_append]
  gi_wp2_with (gi_at_call 21; refine ((callsIn_wide (n := 0)).2 (takeE21 _ _ w (.inr ⟨rfl, rfl⟩) 9 (by decide))).mono ?_; rintro e w1 ⟨t, C', rfl, ht, hB1, _⟩)
  refine ((callsIn_wide (n := 0)).2 (c39 [] (by decide) _ _ _ (ht.empty encI))).mono ?_
  rintro e w2 ⟨v, rfl, hrow, hB2⟩
  gi_wp2
  go_ret
  exact ⟨v, rfl, row_base hrow hB1.size, hB1.trans (hB2.mono hB1.size)⟩

set_option maxRecDepth 100000 in
set_option maxHeartbeats 1000000 in
/-- gen.First with a nil function. -/
theorem nil16 (s : Value) (hs : ∃ gs ls, s = .func (.func gs) #[] ls) (w : World) : Calls Tryz.prog 16 #[s, .nilFunc] w fun e w' => e = .returned (.tuple #[.int .i64 0, .bool false]) ∧ Below w.heap.size w w' := by
  obtain ⟨gs, ls, rfl⟩ := hs
  refine (callsIn_wide (n := 0)).1 ?_
  refine callsIn_of_wp_marks Tryz.func16 rfl trivial ?_ rfl
  simp only [Tryz.ntmps16, List.size_toArray, List.length_cons, List.length_nil, Nat.reduceAdd, Nat.reduceSub, Array.replicate_succ, Array.replicate_zero, List.push_toArray, List.append_toArray, List.nil_append, List.cons_append]
  gi_wp2_with fail
  obtain ⟨W2, hW2⟩ : ∃ W2, (w.alloc (Obj.cells #[Value.int IntKind.i64 0] 3)).alloc (Obj.cells #[Value.bool false] 4) = W2 := ⟨_, rfl⟩
  have hB2 : Below w.heap.size w W2 := by rw [← hW2]; exact ((Below.refl _ w).alloc (Nat.le_refl _) _).alloc (by simp) _
  have bA : Boxed W2 w.heap.size 3 (.int .i64 0) := by rw [← hW2]; exact (Boxed.new w 3 _).alloc _
  have bB : Boxed W2 (w.heap.size + 1) 4 (.bool false) := by rw [← hW2]; have := Boxed.new (w.alloc (.cells #[.int .i64 0] 3)) 4 (.bool false); rwa [World.size_alloc] at this
  rw [hW2]
  clear hW2
  refine ((callsIn_wide (n := 0)).2 (nil20 _ ⟨_, _, rfl⟩ W2)).mono ?_
  rintro e W3 ⟨t, C3, rfl, ht, hB3, hC3⟩
  have bA3 : Boxed W3 w.heap.size 3 (.int .i64 0) := (hB3.block _ bA.lt).trans bA
  have bB3 : Boxed W3 (w.heap.size + 1) 4 (.bool false) := (hB3.block _ bB.lt).trans bB
  have hlA := bA.lt
  have hlB := bB.lt
  have hBw := hB2.trans (hB3.mono hB2.size)
  have HBw := Lib.hid hBw
  clear hBw
  gi_wp2_with fail
  have ht := ht.empty encE
  refine wpIn_rangeFunc_seq rfl ht (fun k => k = w.heap.size ∨ k = w.heap.size + 1) (fun b hb => ?_) rfl (fun _ H W => H = (fun k => k = w.heap.size ∨ k = w.heap.size + 1) ∧ Boxed W w.heap.size 3 (.int .i64 0) ∧ Boxed W (w.heap.size + 1) 4 (.bool false)) (fun _ _ _ _ => False)
    ⟨fun _ H W W' h ho => ⟨h.1, ho.boxH h.2.1 (by rw [h.1]; exact .inl rfl), ho.boxH h.2.2 (by rw [h.1]; exact .inr rfl)⟩, fun _ H W h b hb => by rw [h.1] at hb; rcases hb with rfl | rfl; exact h.2.1.lt; exact h.2.2.lt⟩ (fun _ => Inv.never _) ⟨rfl, bA3, bB3⟩
    (fun x => x.elim) ?assign ?body ?done ?stop
  case assign => intro l x; exact x.elim
  case body => intro l pre x; exact x.elim
  case done =>
    rintro D H1 W1 ⟨rfl, bA1, bB1⟩ hg ho hD hHD hK
    have hc1 := bA1.cell
    have hf1 := bA1.frozen
    have hc2 := bB1.cell
    have hf2 := bB1.frozen
    have hon : Only (fun k => k = w.heap.size ∨ k = w.heap.size + 1) w W1 := (Only.of_below HBw.out).trans ho (Grows.refl _ _)
    have Hon := Lib.hid hon
    clear hon hg ho ht hC3
    gi_wp2
    have k1 := (KeepsOthers.setCell W1 ⟨w.heap.size, 0, none⟩ (.int .i64 0)).same D _ hK rfl
    have k2 := (KeepsOthers.setCell (W1.setCell ⟨w.heap.size, 0, none⟩ (.int .i64 0)) ⟨w.heap.size + 1, 0, none⟩ (.bool false)).same D _ k1 rfl
    refine ⟨by simp, .inl ⟨_, _, rfl, run_takeDeferred k2, ?_⟩⟩
    have bA2 := bA1.set (.int .i64 0)
    have bB2 : Boxed (W1.setCell ⟨w.heap.size, 0, none⟩ (.int .i64 0)) (w.heap.size + 1) 4 (.bool false) := (Only.setCell (H := fun k => k = w.heap.size) (a := ⟨w.heap.size, 0, none⟩) (.inl rfl) _).boxed bB1 (by simp)
    have bA4 := (Only.setCell (H := fun k => k = w.heap.size + 1) (a := ⟨w.heap.size + 1, 0, none⟩) (.inl rfl) (.bool false)).boxed bA2 (by simp)
    have bB4 := bB2.set (.bool false)
    have hDn : D ≠ w.heap.size ∧ D ≠ w.heap.size + 1 := ⟨fun e => hHD (.inl e), fun e => hHD (.inr e)⟩
    have bA5 := (Only.putObj (H := fun k => k = D) (.inl rfl) (.deferred none)).boxed bA4 (by omega)
    have bB5 := (Only.putObj (H := fun k => k = D) (.inl rfl) (.deferred none)).boxed bB4 (by omega)
    have hr1 := bA5.cell
    have hr2 := bB5.cell
    refine ⟨.tuple #[.int .i64 0, .bool false], by simp [results, Tryz.f16, go_sem, hr1, hr2], rfl, ?_⟩
    exact (((Hon.out.set_behind (a := ⟨w.heap.size, 0, none⟩) (by simp) _).set_behind (a := ⟨w.heap.size + 1, 0, none⟩) (by simp) _).behind (by have := HBw.out.size; omega) _).below (fun b hb => by omega)
  case stop =>
    intro D c pre H1 W1 _ h
    exact h.elim
  · rintro (e | e) <;> (rcases hC3 b hb with h | h; exact h; omega)
end Go.Proofs.YtdfnainibjgenaaGreat
