/- gen.Take at strings: the first n. -/
import Derived.Test.YtikomlcghplchaaSoundX
import Derived.Test.YtikomlcghplchaaTake
namespace Go.Proofs.Ytikomlcghplchaa
open Go.RowKit Go.Shelf
set_option linter.unusedVariables false
set_option linter.unusedSimpArgs false
attribute [local go_sem] Oper.semAt_some wide_fn wide_depth

set_option maxRecDepth 100000 in
set_option maxHeartbeats 400000 in
theorem take75 (fn : Fn) (x : Array Value) (lb : Array Value) (s : Value) (hs : s = .func fn x lb ∨ s = .nilFunc) (n : Int) (w : World) :
    Calls Try.prog 75 #[s, .int .i64 n] w fun e w' => e = .returned (.func (.func 118) #[] #[.pointer (some ⟨w.heap.size + 2, 0, none⟩)]) ∧
      ((w.alloc (.cells #[s] 55)).alloc (.cells #[.int .i64 n] 3)).alloc (.cells #[.func (.func 96) #[] #[.pointer (some ⟨w.heap.size + 1, 0, none⟩), .pointer (some ⟨w.heap.size, 0, none⟩)]] 55) = w' := by
  refine (callsIn_wide (n := 0)).1 ?_
  refine callsIn_of_wp Try.func75 rfl trivial ?_ rfl
  simp only [Try.ntmps75, List.size_toArray, List.length_cons, List.length_nil, Nat.reduceAdd, Nat.reduceSub, Array.replicate_succ, Array.replicate_zero, List.push_toArray, List.append_toArray, List.nil_append, List.cons_append]
  rcases hs with rfl | rfl
  all_goals
    gi_wp2_with (gi_at_call 95; refine ((callsIn_wide (n := 0)).2 (sound95 _ _ _ _ (.inl rfl) _)).mono ?_; rintro e w' ⟨rfl, rfl⟩)
    go_ret
    exact ⟨rfl, rfl⟩

set_option maxRecDepth 100000 in
set_option maxHeartbeats 1000000 in
theorem t96 {α : Type} {enc : α → Value} {xs : List α} (fn : Fn) (lb : Array Value) (s y : Value) (bn bs : Nat) (n : Nat) (hn : 1 ≤ n) (hn2 : (Lit.int .i64 n).wf = true) (W : World) (hy : y = .func fn #[] lb)
    (C H : Nat → Prop) (J Jx : List α → (Nat → Prop) → World → Prop) (hs : SeqV Try.prog s C enc xs W) (hbn : Boxed W bn 3 (.int .i64 n)) (hbs : Boxed W bs 55 s)
    (hCH : ∀ b, C b → ¬ H b) (hJ : Inv W.heap.size J) (hJx : Inv W.heap.size Jx)
    (hr : ∀ pre x rest H1 W1, xs = pre ++ x :: rest → pre.length < n → J pre H1 W1 → CallV Try.prog y #[enc x] W1 (RoundR J Jx (pre ++ [x]) H1 W1)) (h0 : J [] H W) :
    Calls Try.prog 96 #[y, .pointer (some ⟨bn, 0, none⟩), .pointer (some ⟨bs, 0, none⟩)] W (EndR J Jx (xs.take n) H W) := by
  obtain ⟨gs, ls, hsf⟩ : ∃ gs ls, s = .func (.func gs) #[] ls := by obtain ⟨_, gs, ls, hs, _⟩ := hs; exact ⟨gs, ls, hs⟩
  refine (callsIn_wide (n := 0)).1 ?_
  refine callsIn_of_wp_marks Try.func96 rfl trivial ?_ rfl
  simp only [Try.ntmps96, List.size_toArray, List.length_cons, List.length_nil, Nat.reduceAdd, Nat.reduceSub, Array.replicate_succ, Array.replicate_zero, List.push_toArray, List.append_toArray, List.nil_append, List.cons_append]
  have hc1 := hbn.cell
  have hl1 := hbn.lt
  have hc2 := hbs.cell
  have hl2 := hbs.lt
  have hnn : ¬ ((n : Int) < 1) := by omega
  have Hr := Lib.hid hr
  clear hr
  subst hy hsf
  gi_wp2_with (gi_at_call 95; refine ((callsIn_wide (n := 0)).2 (sound95 _ _ _ _ (.inl rfl) _)).mono ?_; rintro e w' ⟨rfl, rfl⟩)
  have hHlt := hJ.lt _ _ _ h0
  have hH0 : ¬ H W.heap.size := fun e => by have := hHlt _ e; omega
  have hH1 : ¬ H (W.heap.size + 1) := fun e => by have := hHlt _ e; omega
  obtain ⟨W2, hW2⟩ : ∃ W2, ((W.alloc (Obj.cells #[Value.func fn #[] lb] 51)).alloc (Obj.cells #[Value.int IntKind.i64 ↑n] 3)).alloc (Obj.cells #[Value.func (Fn.func gs) #[] ls] 55) = W2 := ⟨_, rfl⟩
  have e0 : Only H W W2 := by rw [← hW2]; exact ((Only.alloc H W _).trans (Only.alloc H _ _) (Grows.refl _ _)).trans (Only.alloc H _ _) (Grows.refl _ _)
  have hsz : W2.heap.size = W.heap.size + 3 := by rw [← hW2]; simp
  have bY : Boxed W2 W.heap.size 51 (.func fn #[] lb) := by rw [← hW2]; exact ((Boxed.new W 51 _).alloc _).alloc _
  have bO : Boxed W2 (W.heap.size + 1) 3 (.int .i64 n) := by rw [← hW2]; have := (Boxed.new (W.alloc (.cells #[.func fn #[] lb] 51)) 3 (.int .i64 n)).alloc (.cells #[.func (.func gs) #[] ls] 55); rwa [World.size_alloc] at this
  have bS : Boxed W2 (W.heap.size + 1 + 1) 55 (.func (.func gs) #[] ls) := by rw [← hW2]; have := Boxed.new ((W.alloc (.cells #[.func fn #[] lb] 51)).alloc (.cells #[.int .i64 n] 3)) 55 (.func (.func gs) #[] ls); rwa [World.size_alloc, World.size_alloc] at this
  have hj1 : J [] H W2 := by rw [← hW2]; exact hJ.alloc (hJ.alloc (hJ.alloc h0 _) _) _
  rw [hW2]
  clear hW2 hc1 hc2 hnn
  have hs2 := sound_seqX (hs.only e0 hCH) bS
  refine wpIn_rangeFunc_seq rfl hs2 (fun k => H k ∨ k = W.heap.size + 1) (fun b hb => ?_) rfl (TakeI J W.heap.size 51 (.func fn #[] lb) n) (TakeX J Jx W.heap.size n)
    ((TakeI.inv hJ _ _ _).mono (by omega)) (fun c => (TakeX.inv hJ hJx n c).mono (by omega)) ⟨by simp; omega, H, rfl, hH0, hH1, hj1, bY, by simpa using bO⟩
    (fun x => { tmps := #[Value.func fn #[] lb, Value.pointer (some { block := bn, off := 0 }), Value.pointer (some { block := bs, off := 0 }), Value.pointer (some { block := W.heap.size, off := 0 }),
      Value.pointer (some { block := W.heap.size + 1, off := 0 }), enc x, Value.int IntKind.i64 ↑n, Value.bool false, Value.int IntKind.i64 ↑n, Value.func (Fn.func gs) #[] ls,
      Value.func (Fn.func 118) #[] #[Value.pointer (some { block := W.heap.size + 1 + 1, off := 0 })], enc x, undef, undef, undef, undef, undef, undef, undef, undef, undef, undef], defers := [] }) ?assign ?body ?done ?stop
  case assign =>
    intro l x W K hK
    gi_wp2
    exact hK
  case body =>
    rintro l pre x rest H1 W1 hx ⟨hlen, H0, rfl, h1, h2, hj, hY, hO⟩ hl hl1 hl2
    have hHx := Lib.hid (Hr.out pre x rest H0 (W1.setCell ⟨W.heap.size + 1, 0, none⟩ (.int .i64 ((n : Int) - pre.length - 1))) hx hlen (hJ.setCell hj (by simp) h2 _))
    have hx' := Lib.hid hx
    clear hx hs2 hs hj1 Hr
    obtain ⟨z, hz⟩ : ∃ z : Int, (n : Int) - pre.length = z := ⟨_, rfl⟩
    rw [hz] at hHx hO
    have hz1 : 1 ≤ z := by omega
    have hwr : wrap64 (z - 1) = z - 1 := by
      simp only [Lit.wf, IntKind.min, IntKind.max, IntKind.signed, IntKind.bits, Bool.and_eq_true, decide_eq_true_eq, if_true] at hn2
      unfold wrap64; omega
    have hzz := Lib.hid hz
    clear hz
    have hc1 := hO.cell
    have hf1 := hO.frozen
    have hc2 := hY.cell
    have hlt1 := hO.lt
    gi_wp2_with (refine wpListIn_callV (o := ⟨some 16, _, _, _, _, _⟩) rfl rfl _ _ _ rfl _ _ rfl rfl hHx.out ?_)
    rintro e W3 ⟨H3, hg3, ho3, hend⟩
    have hO1 : Boxed (W1.setCell ⟨W.heap.size + 1, 0, none⟩ (.int .i64 (z - 1))) (W.heap.size + 1) 3 (.int .i64 (z - 1)) := hO.set _
    have hO3 := ho3.boxed hO1 h2
    have hY3 := ho3.boxed ((Only.setCell (H := fun k => k = W.heap.size + 1) (a := ⟨W.heap.size + 1, 0, none⟩) (.inl rfl) (.int .i64 (z - 1))).boxed hY (by simp)) h1
    have h2' : ¬ H3 (W.heap.size + 1) := fun e => (hg3 _ e).elim h2 (fun e' => by have := hO1.lt; omega)
    have h1' : ¬ H3 W.heap.size := fun e => (hg3 _ e).elim h1 (fun e' => by have := hO1.lt; omega)
    have hgF : Grows (fun k => H0 k ∨ k = W.heap.size + 1) W1 (fun k => H3 k ∨ k = W.heap.size + 1) := by
      rintro k (hk | hk)
      · exact (hg3 k hk).elim (fun e => .inl (.inl e)) (fun e => .inr (by simpa [World.setCell] using e))
      · exact .inl (.inr hk)
    have hoF : Only (fun k => H0 k ∨ k = W.heap.size + 1) W1 W3 := (Only.setCell (H := fun k => H0 k ∨ k = W.heap.size + 1) (a := ⟨W.heap.size + 1, 0, none⟩) (.inl (.inr rfl)) _).trans (ho3.mono (H' := fun k => H0 k ∨ k = W.heap.size + 1) fun _ _ e => .inl e) (Grows.refl _ _)
    have hc3 := hO3.cell
    have HgF := Lib.hid hgF
    have HoF := Lib.hid hoF
    clear hgF hoF hg3 ho3 hc1 hc2 hf1 hwr hHx
    rcases hend with ⟨rfl, hj3⟩ | ⟨rfl, hj3⟩
    · refine ⟨_, rfl, ?_⟩
      by_cases hz0 : z - 1 = 0
      · have hzb : (z - 1 == 0) = true := by simpa using hz0
        have hz0' := Lib.hid hz0
        clear hz0
        gi_wp2
        refine ⟨_, HgF.out, HoF.out, rfl, H3, rfl, hO3.lt, h2', .inr ⟨?_, hj3⟩, ?_⟩
        · have := hzz.out; have := hz0'.out; simp; omega
        · have := hzz.out; have := hz0'.out; simp; omega
      · have hzb : (z - 1 == 0) = false := by simpa using hz0
        have hz0' := Lib.hid hz0
        clear hz0
        gi_wp2
        refine ⟨_, HgF.out, HoF.out, ?_, H3, rfl, h1', h2', hj3, hY3, ?_⟩
        · have := hzz.out; have := hz0'.out; simp; omega
        · have e1 : (n : Int) - ((pre ++ [x]).length : Int) = z - 1 := by have := hzz.out; simp; omega
          rw [e1]; exact hO3
    · refine ⟨_, rfl, ?_⟩
      gi_wp2
      refine ⟨_, HgF.out, HoF.out, rfl, H3, rfl, hO3.lt, h2', .inl hj3, ?_⟩
      have := hzz.out; simp; omega
  case done =>
    rintro D H1 W1 ⟨hlen, H0, rfl, h1, h2, hj, hY, hO⟩ hg ho hD hHD hK
    refine ⟨by simp, .inl ⟨_, _, rfl, run_takeDeferred hK, ?_⟩⟩
    refine ⟨_, results_none rfl _ _ _, ⟨_, rfl⟩, H0, hg.own (by omega) e0.size, (e0.own ho (by omega)).behind (by omega) _, .inl ?_⟩
    rw [List.take_of_length_le (by omega)]
    exact hJ.putObj hj (by omega) (fun e => hHD (.inl e)) _
  case stop =>
    rintro D c pre H1 W1 hpre ⟨rfl, H0, rfl, h1, h2, hj, hle⟩ hg ho hD hHD hK
    have hp2 : pre <+: xs.take n := by rw [List.prefix_take_iff]; exact ⟨hpre, hle⟩
    gi_wp2
    refine ⟨by simp, .inl ⟨_, _, rfl, run_takeDeferred hK, ?_⟩⟩
    refine ⟨_, results_none rfl _ _ _, ⟨_, rfl⟩, H0, hg.own (by omega) e0.size, (e0.own ho (by omega)).behind (by omega) _, ?_⟩
    rcases hj with hj | ⟨hlen, hj⟩
    · exact .inr ⟨pre, hp2, hJx.putObj hj (by omega) (fun e => hHD (.inl e)) _⟩
    · refine .inl ?_
      have : pre = xs.take n := hp2.eq_of_length (by rw [List.length_take]; have := hp2.length_le; rw [List.length_take] at this; omega)
      rw [← this]
      exact hJ.putObj hj (by omega) (fun e => hHD (.inl e)) _
  · rintro (e | e)
    · have := (hs.1 b ·)
      rcases hb with hb | hb
      · exact hCH b hb e
      · subst hb; have := hHlt _ e; omega
    · rcases hb with hb | hb
      · have := hs.1 b hb; omega
      · omega

set_option maxRecDepth 100000 in
set_option maxHeartbeats 1000000 in
theorem t96none (fn : Fn) (lb : Array Value) (y : Value) (bn bs : Nat) (n : Int) (hn : n < 1) (W : World) (hy : y = .func fn #[] lb) (hbn : Boxed W bn 3 (.int .i64 n)) :
    Calls Try.prog 96 #[y, .pointer (some ⟨bn, 0, none⟩), .pointer (some ⟨bs, 0, none⟩)] W fun e W' => (∃ v, e = .returned v) ∧ W.alloc (.cells #[y] 51) = W' := by
  refine (callsIn_wide (n := 0)).1 ?_
  refine callsIn_of_wp Try.func96 rfl trivial ?_ rfl
  simp only [Try.ntmps96, List.size_toArray, List.length_cons, List.length_nil, Nat.reduceAdd, Nat.reduceSub, Array.replicate_succ, Array.replicate_zero, List.push_toArray, List.append_toArray, List.nil_append, List.cons_append]
  have hc1 := hbn.cell
  have hl1 := hbn.lt
  subst hy
  gi_wp2
  refine bodyPost_ret (results_none rfl _ _ _) rfl ?_
  exact ⟨⟨_, rfl⟩, rfl⟩

/-- Take's own closure is the sequence of the first n. -/
theorem take_seqX {α : Type} {enc : α → Value} {xs : List α} {s : Value} {C : Nat → Prop} {w : World} (h : SeqV Try.prog s C enc xs w) {n : Int} (hw : (Lit.int .i64 n).wf = true) {bn bs : Nat} (hbn : Boxed w bn 3 (.int .i64 n)) (hbs : Boxed w bs 55 s) :
    SeqV Try.prog (.func (.func 96) #[] #[.pointer (some ⟨bn, 0, none⟩), .pointer (some ⟨bs, 0, none⟩)]) (fun k => C k ∨ k = bn ∨ k = bs) enc (xs.take n.toNat) w := by
  refine ⟨?_, 96, _, rfl, enters_of Try.func96 (by kernel_rfl) rfl, ?_⟩
  · rintro k (hk | rfl | rfl)
    · exact h.1 k hk
    · exact hbn.lt
    · exact hbs.lt
  rintro y J Jx H W ⟨fn, lb, hy⟩ hC hCH hJ hJx hr h0
  have hbnW : Boxed W bn 3 (.int .i64 n) := (hC bn (.inr (.inl rfl))).trans hbn
  have hbsW : Boxed W bs 55 s := (hC bs (.inr (.inr rfl))).trans hbs
  by_cases hn : n < 1
  · refine Calls.mono (t96none fn lb y bn bs n hn W hy hbnW) ?_
    rintro e W' ⟨hv, rfl⟩
    refine ⟨hv, H, Grows.refl _ _, Only.alloc _ _ _, .inl ?_⟩
    rw [show n.toNat = 0 by omega, List.take_zero]
    exact hJ.alloc h0 _
  · obtain ⟨m, rfl⟩ := Int.eq_ofNat_of_zero_le (show 0 ≤ n by omega)
    rw [Int.toNat_natCast] at hr ⊢
    refine t96 fn lb s y bn bs m (by omega) hw W hy C H J Jx (h.later fun k hk => hC k (.inl hk)) hbnW hbsW (fun k hk => hCH k (.inl hk)) hJ hJx ?_ h0
    intro pre x rest H1 W1 hx hlen hj
    refine hr pre x (rest.take (m - pre.length - 1)) H1 W1 ?_ hj
    rw [hx, List.take_append, List.take_of_length_le (by omega)]
    congr 1
    rw [show m - pre.length = (m - pre.length - 1) + 1 by omega, List.take_succ_cons]
    simp

theorem take_callX {α : Type} {enc : α → Value} {xs : List α} {s : Value} {C : Nat → Prop} {w : World} (h : SeqV Try.prog s C enc xs w) {n : Int} (hw : (Lit.int .i64 n).wf = true) :
    Calls Try.prog 75 #[s, .int .i64 n] w (GivesSeq Try.prog C enc (xs.take n.toNat) w) := by
  obtain ⟨gs, ls, hs⟩ := h.func
  refine Calls.mono (take75 _ _ _ s (.inl hs) n w) ?_
  rintro e w' ⟨rfl, rfl⟩
  have hB : Below w.heap.size w (((w.alloc (.cells #[s] 55)).alloc (.cells #[.int .i64 n] 3)).alloc (.cells #[.func (.func 96) #[] #[.pointer (some ⟨w.heap.size + 1, 0, none⟩), .pointer (some ⟨w.heap.size, 0, none⟩)]] 55)) :=
    (((Below.refl _ w).alloc (Nat.le_refl _) _).alloc (by simp) _).alloc (by simp; omega) _
  have b1 : Boxed (((w.alloc (.cells #[s] 55)).alloc (.cells #[.int .i64 n] 3)).alloc (.cells #[.func (.func 96) #[] #[.pointer (some ⟨w.heap.size + 1, 0, none⟩), .pointer (some ⟨w.heap.size, 0, none⟩)]] 55)) w.heap.size 55 s := ((Boxed.new w 55 s).alloc _).alloc _
  have b2 : Boxed (((w.alloc (.cells #[s] 55)).alloc (.cells #[.int .i64 n] 3)).alloc (.cells #[.func (.func 96) #[] #[.pointer (some ⟨w.heap.size + 1, 0, none⟩), .pointer (some ⟨w.heap.size, 0, none⟩)]] 55)) (w.heap.size + 1) 3 (.int .i64 n) := by
    have := (Boxed.new (w.alloc (.cells #[s] 55)) 3 (.int .i64 n)).alloc (.cells #[.func (.func 96) #[] #[.pointer (some ⟨w.heap.size + 1, 0, none⟩), .pointer (some ⟨w.heap.size, 0, none⟩)]] 55); rwa [World.size_alloc] at this
  have b3 : Boxed (((w.alloc (.cells #[s] 55)).alloc (.cells #[.int .i64 n] 3)).alloc (.cells #[.func (.func 96) #[] #[.pointer (some ⟨w.heap.size + 1, 0, none⟩), .pointer (some ⟨w.heap.size, 0, none⟩)]] 55)) (w.heap.size + 2) 55 (.func (.func 96) #[] #[.pointer (some ⟨w.heap.size + 1, 0, none⟩), .pointer (some ⟨w.heap.size, 0, none⟩)]) := by
    have := Boxed.new ((w.alloc (.cells #[s] 55)).alloc (.cells #[.int .i64 n] 3)) 55 (.func (.func 96) #[] #[.pointer (some ⟨w.heap.size + 1, 0, none⟩), .pointer (some ⟨w.heap.size, 0, none⟩)]); rwa [World.size_alloc, World.size_alloc] at this
  refine ⟨_, _, rfl, sound_seqX (take_seqX (h.below hB) hw b2 b1) b3, hB, ?_⟩
  rintro k ((hk | rfl | rfl) | rfl)
  · exact .inl hk
  all_goals exact .inr (by omega)
end Go.Proofs.Ytikomlcghplchaa
