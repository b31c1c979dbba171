/- Empty sequences: of strings, of pairs, of ints. -/
import Derived.Test.YtdfnainibjgenaaGreatSoundS
import Derived.Test.YtdfnainibjgenaaGreatSoundP
import Derived.Test.YtdfnainibjgenaaGreatHelps
namespace Go.Proofs.YtdfnainibjgenaaGreat
open Go.RowKit Go.Shelf
set_option linter.unusedVariables false
set_option linter.unusedSimpArgs false
attribute [local go_sem] Oper.semAt_some wide_fn wide_depth

/-- Nothing to be encoded. -/
abbrev encE : Empty → Value := Empty.elim
/-- An empty sequence is one of whatever elements. -/
theorem SeqV.empty {α β : Type} {P : Program} {s : Value} {C : Nat → Prop} {enc : α → Value} {w : World} (h : SeqV P s C enc [] w) (enc' : β → Value) : SeqV P s C enc' [] w := by
  obtain ⟨h1, g, lb, e, he, hc⟩ := h
  refine ⟨h1, g, lb, e, he, fun y J Jx H W hy hW hCH hJ hJx hr h0 => Calls.mono (hc y (fun _ => J []) (fun _ => Jx []) H W hy hW hCH ⟨fun _ => hJ.stable [], fun _ => hJ.lt []⟩ ⟨fun _ => hJx.stable [], fun _ => hJx.lt []⟩ (fun pre x rest _ _ hx => by simp at hx) h0) ?_⟩
  rintro e W' ⟨hv, H', hg, ho, hend⟩
  exact ⟨hv, H', hg, ho, hend.imp id fun ⟨pre, hp, hj⟩ => ⟨[], List.nil_prefix, hj⟩⟩
/-- A closure that ends at once is an empty sequence. -/
theorem quiet_seq {P : Program} {f : FuncId} {ls : Array Value} {C : Nat → Prop} {w : World} (hC : ∀ b, C b → b < w.heap.size) (he : Enters P f)
    (h : ∀ (y : Value) (W : World), (∃ fn lb, y = .func fn #[] lb) → (∀ b, C b → W.heap[b]? = w.heap[b]?) → Calls P f (#[y] ++ ls) W fun e W' => (∃ v, e = .returned v) ∧ (W = W' ∨ ∃ o, W.alloc o = W')) :
    SeqV P (.func (.func f) #[] ls) C encE [] w := by
  refine ⟨hC, f, ls, rfl, he, fun y J Jx H W hy hW hCH hJ hJx hr h0 => Calls.mono (h y W hy hW) ?_⟩
  rintro e W' ⟨hv, rfl | ⟨o, rfl⟩⟩
  · exact ⟨hv, H, Grows.refl _ _, Only.refl _ _, .inl h0⟩
  · exact ⟨hv, H, Grows.refl _ _, Only.alloc _ _ _, .inl (hJ.alloc h0 _)⟩

set_option maxRecDepth 100000 in
set_option maxHeartbeats 1000000 in
theorem cl49 (w : World) : Calls Tryz.prog 49 #[.slice none 0 0] w fun e w' => e = .returned (.slice none 0 0) ∧ w = w' := by
  refine (callsIn_wide (n := 0)).1 ?_
  refine callsIn_of_wp Tryz.func49 rfl trivial ?_ rfl
  simp only [Tryz.ntmps49, List.size_toArray, List.length_cons, List.length_nil, Nat.reduceAdd, Nat.reduceSub, Array.replicate_succ, Array.replicate_zero, List.push_toArray, List.append_toArray, List.nil_append, List.cons_append]
  have q22 := fun w => Lib.run_eql_slice_nil (P := Tryz.prog) w 31 9 none 0 0 0 0 Tryz.underlying31
  gi_wp2
  go_ret
  exact ⟨rfl, rfl⟩

set_option maxRecDepth 100000 in
set_option maxHeartbeats 1000000 in
theorem v48 (w : World) :
    Calls Tryz.prog 48 #[.slice none 0 0] w fun e w' => e = .returned (.func (.func 69) #[] #[.pointer (some ⟨w.heap.size, 0, none⟩)]) ∧ w.alloc (.cells #[.slice none 0 0] 31) = w' := by
  refine (callsIn_wide (n := 0)).1 ?_
  refine callsIn_of_wp Tryz.func48 rfl trivial ?_ rfl
  simp only [Tryz.ntmps48, List.size_toArray, List.length_cons, List.length_nil, Nat.reduceAdd, Nat.reduceSub, Array.replicate_succ, Array.replicate_zero, List.push_toArray, List.append_toArray, List.nil_append, List.cons_append]
  gi_wp2
  go_ret
  exact ⟨rfl, rfl⟩

set_option maxRecDepth 100000 in
set_option maxHeartbeats 1000000 in
theorem v69 (y : Value) (hy : ∃ fn lb, y = .func fn #[] lb) (bs : Nat) (W : World) (hb : Boxed W bs 31 (.slice none 0 0)) :
    Calls Tryz.prog 69 #[y, .pointer (some ⟨bs, 0, none⟩)] W fun e W' => (∃ v, e = .returned v) ∧ (W = W' ∨ ∃ o, W.alloc o = W') := by
  obtain ⟨fn, lb, rfl⟩ := hy
  refine (callsIn_wide (n := 0)).1 ?_
  refine callsIn_of_wp Tryz.func69 rfl trivial ?_ rfl
  simp only [Tryz.ntmps69, List.size_toArray, List.length_cons, List.length_nil, Nat.reduceAdd, Nat.reduceSub, Array.replicate_succ, Array.replicate_zero, List.push_toArray, List.append_toArray, List.nil_append, List.cons_append]
  have hc1 := hb.cell
  gi_wp2
  gi_loopw [7] (fun i wr => i = .int .i64 0 ∧ wr = W) (fun _ _ => 0)
  case atStart => exact ⟨rfl, rfl⟩
  case round =>
    obtain ⟨rfl, rfl⟩ := hrel
    gi_wp2
    go_end0
    exact ⟨⟨_, rfl⟩, .inl rfl⟩

set_option maxRecDepth 100000 in
set_option maxHeartbeats 1000000 in
/-- gen.Of(nil). -/
theorem of30 (w : World) : Calls Tryz.prog 30 #[.slice none 0 0] w (GivesSeq Tryz.prog (fun _ => False) encE [] w) := by
  refine (callsIn_wide (n := 0)).1 ?_
  refine callsIn_of_wp Tryz.func30 rfl trivial ?_ rfl
  simp only [Tryz.ntmps30, List.size_toArray, List.length_cons, List.length_nil, Nat.reduceAdd, Nat.reduceSub, Array.replicate_succ, Array.replicate_zero, List.push_toArray, List.append_toArray, List.nil_append, List.cons_append]
  gi_wp2_with (gi_at_call 49; refine ((callsIn_wide (n := 0)).2 (cl49 w)).mono ?_; rintro e w' ⟨rfl, rfl⟩)
  refine ((callsIn_wide (n := 0)).2 (v48 w)).mono ?_
  rintro e w2 ⟨rfl, rfl⟩
  gi_wp2_with (gi_at_call 46; refine ((callsIn_wide (n := 0)).2 (sound46 _ _ _ _ (.inl rfl) _)).mono ?_; rintro e w' ⟨rfl, rfl⟩)
  go_ret
  obtain ⟨v, hv⟩ : ∃ v, v = Value.func (.func 69) #[] #[.pointer (some ⟨w.heap.size, 0, none⟩)] := ⟨_, rfl⟩
  rw [← hv]
  have hB2 : Below w.heap.size w ((w.alloc (.cells #[.slice none 0 0] 31)).alloc (.cells #[v] 34)) := ((Below.refl _ w).alloc (Nat.le_refl _) _).alloc (by simp) _
  have b1 : Boxed ((w.alloc (.cells #[.slice none 0 0] 31)).alloc (.cells #[v] 34)) w.heap.size 31 (.slice none 0 0) := (Boxed.new w 31 _).alloc _
  have b2 : Boxed ((w.alloc (.cells #[.slice none 0 0] 31)).alloc (.cells #[v] 34)) (w.heap.size + 1) 34 v := by
    have := Boxed.new (w.alloc (.cells #[.slice none 0 0] 31)) 34 v; rwa [World.size_alloc] at this
  have hq : SeqV Tryz.prog v (fun k => k = w.heap.size) encE [] ((w.alloc (.cells #[.slice none 0 0] 31)).alloc (.cells #[v] 34)) := by
    have := quiet_seq (P := Tryz.prog) (f := 69) (ls := #[.pointer (some ⟨w.heap.size, 0, none⟩)]) (C := fun k => k = w.heap.size) (w := (w.alloc (.cells #[.slice none 0 0] 31)).alloc (.cells #[v] 34)) (fun b hb => by rw [hb]; exact b1.lt) (enters_of Tryz.func69 (by kernel_rfl) rfl)
      (fun y W hy hW => v69 y hy _ W ((hW _ rfl).trans b1))
    rwa [← hv] at this
  refine ⟨_, _, rfl, sound_seqS hq b2, hB2, ?_⟩
  rintro k (rfl | rfl)
  all_goals exact .inr (by omega)

set_option maxRecDepth 100000 in
set_option maxHeartbeats 1000000 in
theorem tE47 (s y : Value) (hsf : (∃ gs ls, s = .func (.func gs) #[] ls) ∨ s = .nilFunc) (bn bs : Nat) (n : Int) (hn : 1 ≤ n) (W : World) (hy : ∃ fn lb, y = .func fn #[] lb) (C H : Nat → Prop) (J Jx : List Empty → (Nat → Prop) → World → Prop)
    (hbn : Boxed W bn 3 (.int .i64 n)) (hbs : Boxed W bs 34 s) (hCH : ∀ b, C b → ¬ H b) (hClt : ∀ b, C b → b < W.heap.size) (hJ : Inv W.heap.size J) (h0 : J [] H W)
    (hsnd : ∀ (W2 : World) (b : Nat), Boxed W2 b 34 s → (∀ k, C k → W2.heap[k]? = W.heap[k]?) → SeqV Tryz.prog (.func (.func 67) #[] #[.pointer (some ⟨b, 0, none⟩)]) (fun k => C k ∨ k = b) encE [] W2) :
    Calls Tryz.prog 47 #[y, .pointer (some ⟨bn, 0, none⟩), .pointer (some ⟨bs, 0, none⟩)] W (EndR J Jx [] H W) := by
  obtain ⟨fn, lb, rfl⟩ := hy
  have key : ∀ (W2 : World), W2 = ((W.alloc (.cells #[.func fn #[] lb] 29)).alloc (.cells #[.int .i64 n] 3)).alloc (.cells #[s] 34) → Only H W W2 ∧ W2.heap.size = W.heap.size + 3 ∧ Boxed W2 (W.heap.size + 1 + 1) 34 s ∧ J [] H W2 := by
    rintro W2 rfl
    refine ⟨((Only.alloc H W _).trans (Only.alloc H _ _) (Grows.refl _ _)).trans (Only.alloc H _ _) (Grows.refl _ _), by simp, ?_, hJ.alloc (hJ.alloc (hJ.alloc h0 _) _) _⟩
    have := Boxed.new ((W.alloc (.cells #[.func fn #[] lb] 29)).alloc (.cells #[.int .i64 n] 3)) 34 s; rwa [World.size_alloc, World.size_alloc] at this
  have Hsnd := Lib.hid hsnd
  clear hsnd
  refine (callsIn_wide (n := 0)).1 ?_
  refine callsIn_of_wp_marks Tryz.func47 rfl trivial ?_ rfl
  simp only [Tryz.ntmps47, List.size_toArray, List.length_cons, List.length_nil, Nat.reduceAdd, Nat.reduceSub, Array.replicate_succ, Array.replicate_zero, List.push_toArray, List.append_toArray, List.nil_append, List.cons_append]
  have hc1 := hbn.cell
  have hl1 := hbn.lt
  have hc2 := hbs.cell
  have hl2 := hbs.lt
  have hnn : ¬ (n < 1) := by omega
  rcases hsf with ⟨gs, ls, rfl⟩ | rfl
  · gi_wp2_with (gi_at_call 46; refine ((callsIn_wide (n := 0)).2 (sound46 _ _ _ _ (.inl rfl) _)).mono ?_; rintro e w' ⟨rfl, rfl⟩)
    obtain ⟨e0, hsz, bS, hj1⟩ := key _ rfl
    generalize ((W.alloc (.cells #[.func fn #[] lb] 29)).alloc (.cells #[.int .i64 n] 3)).alloc (.cells #[.func (.func gs) #[] ls] 34) = W2 at *
    have hsnd := Hsnd.out
    clear hc1 hc2 hnn
    have hHlt := hJ.lt _ _ _ h0
    refine wpIn_rangeFunc_seq rfl (hsnd _ _ bS (fun k hk => e0.block k (hClt k hk) (hCH k hk))) H (fun b hb => ?_) rfl (fun _ => J []) (fun _ _ _ _ => False) ⟨fun _ => (hJ.mono (by omega)).stable [], fun _ => hJ.lt []⟩ (fun _ => Inv.never _) hj1 (fun x => x.elim) ?assign ?body ?done ?stop
    case assign => intro l x; exact x.elim
    case body => intro l pre x; exact x.elim
    case done =>
      intro D H1 W1 hj hg ho hD hHD hK
      refine ⟨by simp, .inl ⟨_, _, rfl, run_takeDeferred hK, ?_⟩⟩
      exact ⟨_, results_none rfl _ _ _, ⟨_, rfl⟩, H1, fun b hb => (hg b hb).imp id fun e => by omega, (e0.trans ho (Grows.refl _ _)).behind (by omega) _, .inl (hJ.putObj hj (by omega) hHD _)⟩
    case stop =>
      intro D c pre H1 W1 _ h
      exact h.elim
    · rcases hb with hb | rfl
      · exact hCH b hb
      · intro e; have := hHlt _ e; omega
  · gi_wp2_with (gi_at_call 46; refine ((callsIn_wide (n := 0)).2 (sound46 (.func 0) #[] #[] _ (.inr rfl) _)).mono ?_; rintro e w' ⟨rfl, rfl⟩)
    obtain ⟨e0, hsz, bS, hj1⟩ := key _ rfl
    generalize ((W.alloc (.cells #[.func fn #[] lb] 29)).alloc (.cells #[.int .i64 n] 3)).alloc (.cells #[.nilFunc] 34) = W2 at *
    have hsnd := Hsnd.out
    clear hc1 hc2 hnn
    have hHlt := hJ.lt _ _ _ h0
    refine wpIn_rangeFunc_seq rfl (hsnd _ _ bS (fun k hk => e0.block k (hClt k hk) (hCH k hk))) H (fun b hb => ?_) rfl (fun _ => J []) (fun _ _ _ _ => False) ⟨fun _ => (hJ.mono (by omega)).stable [], fun _ => hJ.lt []⟩ (fun _ => Inv.never _) hj1 (fun x => x.elim) ?assign ?body ?done ?stop
    case assign => intro l x; exact x.elim
    case body => intro l pre x; exact x.elim
    case done =>
      intro D H1 W1 hj hg ho hD hHD hK
      refine ⟨by simp, .inl ⟨_, _, rfl, run_takeDeferred hK, ?_⟩⟩
      exact ⟨_, results_none rfl _ _ _, ⟨_, rfl⟩, H1, fun b hb => (hg b hb).imp id fun e => by omega, (e0.trans ho (Grows.refl _ _)).behind (by omega) _, .inl (hJ.putObj hj (by omega) hHD _)⟩
    case stop =>
      intro D c pre H1 W1 _ h
      exact h.elim
    · rcases hb with hb | rfl
      · exact hCH b hb
      · intro e; have := hHlt _ e; omega

set_option maxRecDepth 100000 in
set_option maxHeartbeats 1000000 in
theorem take29 (fn : Fn) (x : Array Value) (lb : Array Value) (s : Value) (hs : s = .func fn x lb ∨ s = .nilFunc) (n : Int) (w : World) :
    Calls Tryz.prog 29 #[s, .int .i64 n] w fun e w' => e = .returned (.func (.func 67) #[] #[.pointer (some ⟨w.heap.size + 2, 0, none⟩)]) ∧
      ((w.alloc (.cells #[s] 34)).alloc (.cells #[.int .i64 n] 3)).alloc (.cells #[.func (.func 47) #[] #[.pointer (some ⟨w.heap.size + 1, 0, none⟩), .pointer (some ⟨w.heap.size, 0, none⟩)]] 34) = w' := by
  refine (callsIn_wide (n := 0)).1 ?_
  refine callsIn_of_wp Tryz.func29 rfl trivial ?_ rfl
  simp only [Tryz.ntmps29, List.size_toArray, List.length_cons, List.length_nil, Nat.reduceAdd, Nat.reduceSub, Array.replicate_succ, Array.replicate_zero, List.push_toArray, List.append_toArray, List.nil_append, List.cons_append]
  rcases hs with rfl | rfl
  all_goals
    gi_wp2_with (gi_at_call 46; refine ((callsIn_wide (n := 0)).2 (sound46 _ _ _ _ (.inl rfl) _)).mono ?_; rintro e w' ⟨rfl, rfl⟩)
    go_ret
    exact ⟨rfl, rfl⟩

/-- gen.Take of an empty sequence, or of none. -/
theorem takeE29 (s : Value) (C : Nat → Prop) (w : World) (hs : SeqV Tryz.prog s C encE [] w ∨ (s = .nilFunc ∧ C = fun _ => False)) (n : Int) (hn : 1 ≤ n) : Calls Tryz.prog 29 #[s, .int .i64 n] w (GivesSeq Tryz.prog C encE [] w) := by
  have hsf : (∃ gs ls, s = .func (.func gs) #[] ls) ∨ s = .nilFunc := hs.imp (fun h => h.func) (fun h => h.1)
  have hClt : ∀ b, C b → b < w.heap.size := by
    rcases hs with h | ⟨_, rfl⟩
    · exact h.1
    · exact fun _ h => h.elim
  have hsnd : ∀ (W2 : World) (b : Nat), Boxed W2 b 34 s → (∀ k, C k → W2.heap[k]? = w.heap[k]?) → SeqV Tryz.prog (.func (.func 67) #[] #[.pointer (some ⟨b, 0, none⟩)]) (fun k => C k ∨ k = b) encE [] W2 := by
    intro W2 b hb hW
    rcases hs with h | ⟨rfl, rfl⟩
    · exact sound_seqS (h.later hW) hb
    · simpa using sound_nilS (enc := encE) hb
  have hcall : Calls Tryz.prog 29 #[s, .int .i64 n] w fun e w' => e = .returned (.func (.func 67) #[] #[.pointer (some ⟨w.heap.size + 2, 0, none⟩)]) ∧
      ((w.alloc (.cells #[s] 34)).alloc (.cells #[.int .i64 n] 3)).alloc (.cells #[.func (.func 47) #[] #[.pointer (some ⟨w.heap.size + 1, 0, none⟩), .pointer (some ⟨w.heap.size, 0, none⟩)]] 34) = w' := by
    rcases hsf with ⟨gs, ls, h⟩ | h
    · exact take29 _ _ _ s (.inl h) n w
    · exact take29 (.func 0) #[] #[] s (.inr h) n w
  refine Calls.mono hcall ?_
  rintro e w' ⟨rfl, rfl⟩
  obtain ⟨v, hv⟩ : ∃ v, v = Value.func (.func 47) #[] #[.pointer (some ⟨w.heap.size + 1, 0, none⟩), .pointer (some ⟨w.heap.size, 0, none⟩)] := ⟨_, rfl⟩
  rw [← hv]
  have hB : Below w.heap.size w (((w.alloc (.cells #[s] 34)).alloc (.cells #[.int .i64 n] 3)).alloc (.cells #[v] 34)) :=
    (((Below.refl _ w).alloc (Nat.le_refl _) _).alloc (by simp) _).alloc (by simp; omega) _
  have b1 : Boxed (((w.alloc (.cells #[s] 34)).alloc (.cells #[.int .i64 n] 3)).alloc (.cells #[v] 34)) w.heap.size 34 s := ((Boxed.new w 34 s).alloc _).alloc _
  have b2 : Boxed (((w.alloc (.cells #[s] 34)).alloc (.cells #[.int .i64 n] 3)).alloc (.cells #[v] 34)) (w.heap.size + 1) 3 (.int .i64 n) := by
    have := (Boxed.new (w.alloc (.cells #[s] 34)) 3 (.int .i64 n)).alloc (.cells #[v] 34); rwa [World.size_alloc] at this
  have b3 : Boxed (((w.alloc (.cells #[s] 34)).alloc (.cells #[.int .i64 n] 3)).alloc (.cells #[v] 34)) (w.heap.size + 2) 34 v := by
    have := Boxed.new ((w.alloc (.cells #[s] 34)).alloc (.cells #[.int .i64 n] 3)) 34 v; rwa [World.size_alloc, World.size_alloc] at this
  generalize ((w.alloc (.cells #[s] 34)).alloc (.cells #[.int .i64 n] 3)).alloc (.cells #[v] 34) = w2 at *
  have hq : SeqV Tryz.prog v (fun k => C k ∨ k = w.heap.size + 1 ∨ k = w.heap.size) encE [] w2 := by
    refine ⟨?_, 47, _, hv, enters_of Tryz.func47 (by kernel_rfl) rfl, ?_⟩
    · rintro k (hk | rfl | rfl)
      · exact Nat.lt_of_lt_of_le (hClt k hk) hB.size
      · exact b2.lt
      · exact b1.lt
    · intro y J Jx H W hy hC hCH hJ hJx hr h0
      have hbnW : Boxed W (w.heap.size + 1) 3 (.int .i64 n) := (hC _ (.inr (.inl rfl))).trans b2
      have hbsW : Boxed W w.heap.size 34 s := (hC _ (.inr (.inr rfl))).trans b1
      have hCW : ∀ k, C k → W.heap[k]? = w.heap[k]? := fun k hk => (hC k (.inl hk)).trans (hB.block k (hClt k hk))
      refine tE47 s y hsf _ _ n hn W hy C H J Jx hbnW hbsW (fun k hk => hCH k (.inl hk)) (fun k hk => ?_) hJ h0 (fun W2 b hb hW => hsnd W2 b hb fun k hk => (hW k hk).trans (hCW k hk))
      have := hCW k hk
      rw [Array.getElem?_eq_getElem (hClt k hk)] at this
      exact (Array.getElem?_eq_some_iff.1 this).1
  refine ⟨_, _, rfl, sound_seqS hq b3, hB, ?_⟩
  rintro k ((hk | rfl | rfl) | rfl)
  · exact .inl hk
  all_goals exact .inr (by omega)

set_option maxRecDepth 100000 in
set_option maxHeartbeats 1000000 in
theorem a45 (s : Value) (C : Nat → Prop) (w : World) (hs : SeqV Tryz.prog s C encE [] w) :
    Calls Tryz.prog 45 #[.slice none 0 0, s] w fun e w' => e = .returned (.slice none 0 0) ∧ Below w.heap.size w w' := by
  obtain ⟨gs, ls, hsf⟩ := hs.func
  refine (callsIn_wide (n := 0)).1 ?_
  refine callsIn_of_wp_marks Tryz.func45 rfl trivial ?_ rfl
  simp only [Tryz.ntmps45, List.size_toArray, List.length_cons, List.length_nil, Nat.reduceAdd, Nat.reduceSub, Array.replicate_succ, Array.replicate_zero, List.push_toArray, List.append_toArray, List.nil_append, List.cons_append]
  subst hsf
  gi_wp2_with fail
  have e0 : Only (fun k => k = w.heap.size) w (w.alloc (.cells #[.slice none 0 0] 31)) := Only.alloc _ _ _
  have bO := Boxed.new w 31 (.slice none 0 0)
  have hClt := hs.1
  refine wpIn_rangeFunc_seq rfl (hs.only e0 (fun b hb e => by have := hClt b hb; omega)) (fun k => k = w.heap.size) (fun b hb e => by have := hClt b hb; omega) rfl (fun _ H W => H = (fun k => k = w.heap.size) ∧ Boxed W w.heap.size 31 (.slice none 0 0)) (fun _ _ _ _ => False)
    ⟨fun _ H W W' h ho => ⟨h.1, ho.box h.2 (by simp)⟩, fun _ H W h b hb => by rw [h.1] at hb; rw [hb]; exact h.2.lt⟩ (fun _ => Inv.never _) ⟨rfl, bO⟩ (fun x => x.elim) ?assign ?body ?done ?stop
  case assign => intro l x; exact x.elim
  case body => intro l pre x; exact x.elim
  case done =>
    rintro D H1 W1 ⟨rfl, hv⟩ hg ho hD hHD hK
    have hc := hv.cell
    gi_wp2
    refine ⟨by simp, .inl ⟨_, _, rfl, run_takeDeferred hK, ?_⟩⟩
    refine ⟨_, results_tmp rfl _ _ _, rfl, ?_⟩
    exact ((e0.trans ho (Grows.refl _ _)).behind (by simp at hD; omega) _).below (fun b hb => by omega)
  case stop =>
    intro D c pre H1 W1 _ h
    exact h.elim

set_option maxRecDepth 100000 in
set_option maxHeartbeats 1000000 in
theorem c28 (s : Value) (C : Nat → Prop) (w : World) (hs : SeqV Tryz.prog s C encE [] w) : Calls Tryz.prog 28 #[s] w fun e w' => e = .returned (.slice none 0 0) ∧ Below w.heap.size w w' := by
  obtain ⟨gs, ls, hsf⟩ := hs.func
  refine (callsIn_wide (n := 0)).1 ?_
  refine callsIn_of_wp Tryz.func28 rfl trivial ?_ rfl
  simp only [Tryz.ntmps28, List.size_toArray, List.length_cons, List.length_nil, Nat.reduceAdd, Nat.reduceSub, Array.replicate_succ, Array.replicate_zero, List.push_toArray, List.append_toArray, List.nil_append, List.cons_append]
  subst hsf
  gi_wp2_with (gi_at_call 45; refine ((callsIn_wide (n := 0)).2 (a45 _ C w hs)).mono ?_; rintro e w' ⟨rfl, hB⟩)
  go_ret
  exact ⟨rfl, hB⟩

set_option maxRecDepth 100000 in
set_option maxHeartbeats 1000000 in
/-- gen.Collect of an empty sequence. -/
theorem c11 (s : Value) (C : Nat → Prop) (w : World) (hs : SeqV Tryz.prog s C encE [] w) : Calls Tryz.prog 11 #[s, .int .i64 9] w fun e w' => e = .returned (.slice none 0 0) ∧ Below w.heap.size w w' := by
  obtain ⟨gs, ls, hsf⟩ := hs.func
  refine (callsIn_wide (n := 0)).1 ?_
  refine callsIn_of_wp Tryz.func11 rfl trivial ?_ rfl
  simp only [Tryz.ntmps11, List.size_toArray, List.length_cons, List.length_nil, Nat.reduceAdd, Nat.reduceSub, Array.replicate_succ, Array.replicate_zero, List.push_toArray, List.append_toArray, List.nil_append, List.cons_append]
  subst hsf
  gi_wp2_with (gi_at_call 29; refine ((callsIn_wide (n := 0)).2 (takeE29 _ C w (.inl hs) 9 (by decide))).mono ?_; rintro e w1 ⟨t, C', rfl, ht, hB1, _⟩)
  refine ((callsIn_wide (n := 0)).2 (c28 _ _ _ ht)).mono ?_
  rintro e w2 ⟨rfl, hB2⟩
  gi_wp2
  go_ret
  exact ⟨rfl, hB1.trans (hB2.mono hB1.size)⟩

set_option maxRecDepth 100000 in
set_option maxHeartbeats 1000000 in
theorem cl57 (w : World) : Calls Tryz.prog 57 #[.slice none 0 0] w fun e w' => e = .returned (.slice none 0 0) ∧ w = w' := by
  refine (callsIn_wide (n := 0)).1 ?_
  refine callsIn_of_wp Tryz.func57 rfl trivial ?_ rfl
  simp only [Tryz.ntmps57, List.size_toArray, List.length_cons, List.length_nil, Nat.reduceAdd, Nat.reduceSub, Array.replicate_succ, Array.replicate_zero, List.push_toArray, List.append_toArray, List.nil_append, List.cons_append]
  have q22 := fun w => Lib.run_eql_slice_nil (P := Tryz.prog) w 69 48 none 0 0 0 0 Tryz.underlying69
  gi_wp2
  go_ret
  exact ⟨rfl, rfl⟩

set_option maxRecDepth 100000 in
set_option maxHeartbeats 1000000 in
theorem v56 (w : World) :
    Calls Tryz.prog 56 #[.slice none 0 0] w fun e w' => e = .returned (.func (.func 79) #[] #[.pointer (some ⟨w.heap.size, 0, none⟩)]) ∧ w.alloc (.cells #[.slice none 0 0] 69) = w' := by
  refine (callsIn_wide (n := 0)).1 ?_
  refine callsIn_of_wp Tryz.func56 rfl trivial ?_ rfl
  simp only [Tryz.ntmps56, List.size_toArray, List.length_cons, List.length_nil, Nat.reduceAdd, Nat.reduceSub, Array.replicate_succ, Array.replicate_zero, List.push_toArray, List.append_toArray, List.nil_append, List.cons_append]
  gi_wp2
  go_ret
  exact ⟨rfl, rfl⟩

set_option maxRecDepth 100000 in
set_option maxHeartbeats 1000000 in
theorem v79 (y : Value) (hy : ∃ fn lb, y = .func fn #[] lb) (bs : Nat) (W : World) (hb : Boxed W bs 69 (.slice none 0 0)) :
    Calls Tryz.prog 79 #[y, .pointer (some ⟨bs, 0, none⟩)] W fun e W' => (∃ v, e = .returned v) ∧ (W = W' ∨ ∃ o, W.alloc o = W') := by
  obtain ⟨fn, lb, rfl⟩ := hy
  refine (callsIn_wide (n := 0)).1 ?_
  refine callsIn_of_wp Tryz.func79 rfl trivial ?_ rfl
  simp only [Tryz.ntmps79, List.size_toArray, List.length_cons, List.length_nil, Nat.reduceAdd, Nat.reduceSub, Array.replicate_succ, Array.replicate_zero, List.push_toArray, List.append_toArray, List.nil_append, List.cons_append]
  have hc1 := hb.cell
  gi_wp2
  gi_loopw [7] (fun i wr => i = .int .i64 0 ∧ wr = W) (fun _ _ => 0)
  case atStart => exact ⟨rfl, rfl⟩
  case round =>
    obtain ⟨rfl, rfl⟩ := hrel
    gi_wp2
    go_end0
    exact ⟨⟨_, rfl⟩, .inl rfl⟩

set_option maxRecDepth 100000 in
set_option maxHeartbeats 1000000 in
/-- gen.Of(nil). -/
theorem of33 (w : World) : Calls Tryz.prog 33 #[.slice none 0 0] w (GivesSeq Tryz.prog (fun _ => False) encE [] w) := by
  refine (callsIn_wide (n := 0)).1 ?_
  refine callsIn_of_wp Tryz.func33 rfl trivial ?_ rfl
  simp only [Tryz.ntmps33, List.size_toArray, List.length_cons, List.length_nil, Nat.reduceAdd, Nat.reduceSub, Array.replicate_succ, Array.replicate_zero, List.push_toArray, List.append_toArray, List.nil_append, List.cons_append]
  gi_wp2_with (gi_at_call 57; refine ((callsIn_wide (n := 0)).2 (cl57 w)).mono ?_; rintro e w' ⟨rfl, rfl⟩)
  refine ((callsIn_wide (n := 0)).2 (v56 w)).mono ?_
  rintro e w2 ⟨rfl, rfl⟩
  gi_wp2_with (gi_at_call 55; refine ((callsIn_wide (n := 0)).2 (sound55 _ _ _ _ (.inl rfl) _)).mono ?_; rintro e w' ⟨rfl, rfl⟩)
  go_ret
  obtain ⟨v, hv⟩ : ∃ v, v = Value.func (.func 79) #[] #[.pointer (some ⟨w.heap.size, 0, none⟩)] := ⟨_, rfl⟩
  rw [← hv]
  have hB2 : Below w.heap.size w ((w.alloc (.cells #[.slice none 0 0] 69)).alloc (.cells #[v] 67)) := ((Below.refl _ w).alloc (Nat.le_refl _) _).alloc (by simp) _
  have b1 : Boxed ((w.alloc (.cells #[.slice none 0 0] 69)).alloc (.cells #[v] 67)) w.heap.size 69 (.slice none 0 0) := (Boxed.new w 69 _).alloc _
  have b2 : Boxed ((w.alloc (.cells #[.slice none 0 0] 69)).alloc (.cells #[v] 67)) (w.heap.size + 1) 67 v := by
    have := Boxed.new (w.alloc (.cells #[.slice none 0 0] 69)) 67 v; rwa [World.size_alloc] at this
  have hq : SeqV Tryz.prog v (fun k => k = w.heap.size) encE [] ((w.alloc (.cells #[.slice none 0 0] 69)).alloc (.cells #[v] 67)) := by
    have := quiet_seq (P := Tryz.prog) (f := 79) (ls := #[.pointer (some ⟨w.heap.size, 0, none⟩)]) (C := fun k => k = w.heap.size) (w := (w.alloc (.cells #[.slice none 0 0] 69)).alloc (.cells #[v] 67)) (fun b hb => by rw [hb]; exact b1.lt) (enters_of Tryz.func79 (by kernel_rfl) rfl)
      (fun y W hy hW => v79 y hy _ W ((hW _ rfl).trans b1))
    rwa [← hv] at this
  refine ⟨_, _, rfl, sound_seqP hq b2, hB2, ?_⟩
  rintro k (rfl | rfl)
  all_goals exact .inr (by omega)

set_option maxRecDepth 100000 in
set_option maxHeartbeats 1000000 in
theorem tE42 (s y : Value) (hsf : (∃ gs ls, s = .func (.func gs) #[] ls) ∨ s = .nilFunc) (bn bs : Nat) (n : Int) (hn : 1 ≤ n) (W : World) (hy : ∃ fn lb, y = .func fn #[] lb) (C H : Nat → Prop) (J Jx : List Empty → (Nat → Prop) → World → Prop)
    (hbn : Boxed W bn 3 (.int .i64 n)) (hbs : Boxed W bs 38 s) (hCH : ∀ b, C b → ¬ H b) (hClt : ∀ b, C b → b < W.heap.size) (hJ : Inv W.heap.size J) (h0 : J [] H W)
    (hsnd : ∀ (W2 : World) (b : Nat), Boxed W2 b 38 s → (∀ k, C k → W2.heap[k]? = W.heap[k]?) → SeqV Tryz.prog (.func (.func 62) #[] #[.pointer (some ⟨b, 0, none⟩)]) (fun k => C k ∨ k = b) encE [] W2) :
    Calls Tryz.prog 42 #[y, .pointer (some ⟨bn, 0, none⟩), .pointer (some ⟨bs, 0, none⟩)] W (EndR J Jx [] H W) := by
  obtain ⟨fn, lb, rfl⟩ := hy
  have key : ∀ (W2 : World), W2 = ((W.alloc (.cells #[.func fn #[] lb] 72)).alloc (.cells #[.int .i64 n] 3)).alloc (.cells #[s] 38) → Only H W W2 ∧ W2.heap.size = W.heap.size + 3 ∧ Boxed W2 (W.heap.size + 1 + 1) 38 s ∧ J [] H W2 := by
    rintro W2 rfl
    refine ⟨((Only.alloc H W _).trans (Only.alloc H _ _) (Grows.refl _ _)).trans (Only.alloc H _ _) (Grows.refl _ _), by simp, ?_, hJ.alloc (hJ.alloc (hJ.alloc h0 _) _) _⟩
    have := Boxed.new ((W.alloc (.cells #[.func fn #[] lb] 72)).alloc (.cells #[.int .i64 n] 3)) 38 s; rwa [World.size_alloc, World.size_alloc] at this
  have Hsnd := Lib.hid hsnd
  clear hsnd
  refine (callsIn_wide (n := 0)).1 ?_
  refine callsIn_of_wp_marks Tryz.func42 rfl trivial ?_ rfl
  simp only [Tryz.ntmps42, List.size_toArray, List.length_cons, List.length_nil, Nat.reduceAdd, Nat.reduceSub, Array.replicate_succ, Array.replicate_zero, List.push_toArray, List.append_toArray, List.nil_append, List.cons_append]
  have hc1 := hbn.cell
  have hl1 := hbn.lt
  have hc2 := hbs.cell
  have hl2 := hbs.lt
  have hnn : ¬ (n < 1) := by omega
  rcases hsf with ⟨gs, ls, rfl⟩ | rfl
  · gi_wp2_with (gi_at_call 36; refine ((callsIn_wide (n := 0)).2 (sound36 _ _ _ _ (.inl rfl) _)).mono ?_; rintro e w' ⟨rfl, rfl⟩)
    obtain ⟨e0, hsz, bS, hj1⟩ := key _ rfl
    generalize ((W.alloc (.cells #[.func fn #[] lb] 72)).alloc (.cells #[.int .i64 n] 3)).alloc (.cells #[.func (.func gs) #[] ls] 38) = W2 at *
    have hsnd := Hsnd.out
    clear hc1 hc2 hnn
    have hHlt := hJ.lt _ _ _ h0
    refine wpIn_rangeFunc_seq rfl (hsnd _ _ bS (fun k hk => e0.block k (hClt k hk) (hCH k hk))) H (fun b hb => ?_) rfl (fun _ => J []) (fun _ _ _ _ => False) ⟨fun _ => (hJ.mono (by omega)).stable [], fun _ => hJ.lt []⟩ (fun _ => Inv.never _) hj1 (fun x => x.elim) ?assign ?body ?done ?stop
    case assign => intro l x; exact x.elim
    case body => intro l pre x; exact x.elim
    case done =>
      intro D H1 W1 hj hg ho hD hHD hK
      refine ⟨by simp, .inl ⟨_, _, rfl, run_takeDeferred hK, ?_⟩⟩
      exact ⟨_, results_none rfl _ _ _, ⟨_, rfl⟩, H1, fun b hb => (hg b hb).imp id fun e => by omega, (e0.trans ho (Grows.refl _ _)).behind (by omega) _, .inl (hJ.putObj hj (by omega) hHD _)⟩
    case stop =>
      intro D c pre H1 W1 _ h
      exact h.elim
    · rcases hb with hb | rfl
      · exact hCH b hb
      · intro e; have := hHlt _ e; omega
  · gi_wp2_with (gi_at_call 36; refine ((callsIn_wide (n := 0)).2 (sound36 (.func 0) #[] #[] _ (.inr rfl) _)).mono ?_; rintro e w' ⟨rfl, rfl⟩)
    obtain ⟨e0, hsz, bS, hj1⟩ := key _ rfl
    generalize ((W.alloc (.cells #[.func fn #[] lb] 72)).alloc (.cells #[.int .i64 n] 3)).alloc (.cells #[.nilFunc] 38) = W2 at *
    have hsnd := Hsnd.out
    clear hc1 hc2 hnn
    have hHlt := hJ.lt _ _ _ h0
    refine wpIn_rangeFunc_seq rfl (hsnd _ _ bS (fun k hk => e0.block k (hClt k hk) (hCH k hk))) H (fun b hb => ?_) rfl (fun _ => J []) (fun _ _ _ _ => False) ⟨fun _ => (hJ.mono (by omega)).stable [], fun _ => hJ.lt []⟩ (fun _ => Inv.never _) hj1 (fun x => x.elim) ?assign ?body ?done ?stop
    case assign => intro l x; exact x.elim
    case body => intro l pre x; exact x.elim
    case done =>
      intro D H1 W1 hj hg ho hD hHD hK
      refine ⟨by simp, .inl ⟨_, _, rfl, run_takeDeferred hK, ?_⟩⟩
      exact ⟨_, results_none rfl _ _ _, ⟨_, rfl⟩, H1, fun b hb => (hg b hb).imp id fun e => by omega, (e0.trans ho (Grows.refl _ _)).behind (by omega) _, .inl (hJ.putObj hj (by omega) hHD _)⟩
    case stop =>
      intro D c pre H1 W1 _ h
      exact h.elim
    · rcases hb with hb | rfl
      · exact hCH b hb
      · intro e; have := hHlt _ e; omega

/-- gen.Take of an empty sequence, or of none. -/
theorem takeE21 (s : Value) (C : Nat → Prop) (w : World) (hs : SeqV Tryz.prog s C encE [] w ∨ (s = .nilFunc ∧ C = fun _ => False)) (n : Int) (hn : 1 ≤ n) : Calls Tryz.prog 21 #[s, .int .i64 n] w (GivesSeq Tryz.prog C encE [] w) := by
  have hsf : (∃ gs ls, s = .func (.func gs) #[] ls) ∨ s = .nilFunc := hs.imp (fun h => h.func) (fun h => h.1)
  have hClt : ∀ b, C b → b < w.heap.size := by
    rcases hs with h | ⟨_, rfl⟩
    · exact h.1
    · exact fun _ h => h.elim
  have hsnd : ∀ (W2 : World) (b : Nat), Boxed W2 b 38 s → (∀ k, C k → W2.heap[k]? = w.heap[k]?) → SeqV Tryz.prog (.func (.func 62) #[] #[.pointer (some ⟨b, 0, none⟩)]) (fun k => C k ∨ k = b) encE [] W2 := by
    intro W2 b hb hW
    rcases hs with h | ⟨rfl, rfl⟩
    · exact sound_seq (h.later hW) hb
    · simpa using sound_nil (enc := encE) hb
  have hcall : Calls Tryz.prog 21 #[s, .int .i64 n] w fun e w' => e = .returned (.func (.func 62) #[] #[.pointer (some ⟨w.heap.size + 2, 0, none⟩)]) ∧
      ((w.alloc (.cells #[s] 38)).alloc (.cells #[.int .i64 n] 3)).alloc (.cells #[.func (.func 42) #[] #[.pointer (some ⟨w.heap.size + 1, 0, none⟩), .pointer (some ⟨w.heap.size, 0, none⟩)]] 38) = w' := by
    rcases hsf with ⟨gs, ls, h⟩ | h
    · exact take21 _ _ _ s (.inl h) n w
    · exact take21 (.func 0) #[] #[] s (.inr h) n w
  refine Calls.mono hcall ?_
  rintro e w' ⟨rfl, rfl⟩
  obtain ⟨v, hv⟩ : ∃ v, v = Value.func (.func 42) #[] #[.pointer (some ⟨w.heap.size + 1, 0, none⟩), .pointer (some ⟨w.heap.size, 0, none⟩)] := ⟨_, rfl⟩
  rw [← hv]
  have hB : Below w.heap.size w (((w.alloc (.cells #[s] 38)).alloc (.cells #[.int .i64 n] 3)).alloc (.cells #[v] 38)) :=
    (((Below.refl _ w).alloc (Nat.le_refl _) _).alloc (by simp) _).alloc (by simp; omega) _
  have b1 : Boxed (((w.alloc (.cells #[s] 38)).alloc (.cells #[.int .i64 n] 3)).alloc (.cells #[v] 38)) w.heap.size 38 s := ((Boxed.new w 38 s).alloc _).alloc _
  have b2 : Boxed (((w.alloc (.cells #[s] 38)).alloc (.cells #[.int .i64 n] 3)).alloc (.cells #[v] 38)) (w.heap.size + 1) 3 (.int .i64 n) := by
    have := (Boxed.new (w.alloc (.cells #[s] 38)) 3 (.int .i64 n)).alloc (.cells #[v] 38); rwa [World.size_alloc] at this
  have b3 : Boxed (((w.alloc (.cells #[s] 38)).alloc (.cells #[.int .i64 n] 3)).alloc (.cells #[v] 38)) (w.heap.size + 2) 38 v := by
    have := Boxed.new ((w.alloc (.cells #[s] 38)).alloc (.cells #[.int .i64 n] 3)) 38 v; rwa [World.size_alloc, World.size_alloc] at this
  generalize ((w.alloc (.cells #[s] 38)).alloc (.cells #[.int .i64 n] 3)).alloc (.cells #[v] 38) = w2 at *
  have hq : SeqV Tryz.prog v (fun k => C k ∨ k = w.heap.size + 1 ∨ k = w.heap.size) encE [] w2 := by
    refine ⟨?_, 42, _, hv, enters_of Tryz.func42 (by kernel_rfl) rfl, ?_⟩
    · rintro k (hk | rfl | rfl)
      · exact Nat.lt_of_lt_of_le (hClt k hk) hB.size
      · exact b2.lt
      · exact b1.lt
    · intro y J Jx H W hy hC hCH hJ hJx hr h0
      have hbnW : Boxed W (w.heap.size + 1) 3 (.int .i64 n) := (hC _ (.inr (.inl rfl))).trans b2
      have hbsW : Boxed W w.heap.size 38 s := (hC _ (.inr (.inr rfl))).trans b1
      have hCW : ∀ k, C k → W.heap[k]? = w.heap[k]? := fun k hk => (hC k (.inl hk)).trans (hB.block k (hClt k hk))
      refine tE42 s y hsf _ _ n hn W hy C H J Jx hbnW hbsW (fun k hk => hCH k (.inl hk)) (fun k hk => ?_) hJ h0 (fun W2 b hb hW => hsnd W2 b hb fun k hk => (hW k hk).trans (hCW k hk))
      have := hCW k hk
      rw [Array.getElem?_eq_getElem (hClt k hk)] at this
      exact (Array.getElem?_eq_some_iff.1 this).1
  refine ⟨_, _, rfl, sound_seq hq b3, hB, ?_⟩
  rintro k ((hk | rfl | rfl) | rfl)
  · exact .inl hk
  all_goals exact .inr (by omega)

end Go.Proofs.YtdfnainibjgenaaGreat
