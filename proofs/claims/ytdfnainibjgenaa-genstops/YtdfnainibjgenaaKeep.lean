/- gen.Keep at ints. -/
import Derived.Test.YtdfnainibjgenaaHelps
namespace Go.Proofs.Ytdfnainibjgenaa
open Go.RowKit Go.Shelf
set_option linter.unusedVariables false
set_option linter.unusedSimpArgs false
attribute [local go_sem] Oper.semAt_some wide_fn wide_depth

theorem filter_split {α : Type} (p : α → Bool) {xs pre rest : List α} {x : α} (h : xs = pre ++ x :: rest) (hp : p x = true) : xs.filter p = pre.filter p ++ x :: rest.filter p ∧ (pre ++ [x]).filter p = pre.filter p ++ [x] := by
  subst h
  simp [hp]

set_option maxRecDepth 100000 in
set_option maxHeartbeats 2000000 in
theorem k63 {α : Type} {enc : α → Value} {xs : List α} (p : α → Bool) (fn : Fn) (lb : Array Value) (fm : Fn) (lm : Array Value) (s y f : Value) (bf bs : Nat) (W : World) (hy : y = .func fn #[] lb) (hf : f = .func fm #[] lm)
    (C Cf H : Nat → Prop) (J Jx : List α → (Nat → Prop) → World → Prop) (hs : SeqV Try.prog s C enc xs W) (hpf : PureF Try.prog f Cf enc Value.bool p W) (hbf : Boxed W bf 32 f) (hbs : Boxed W bs 27 s)
    (hCH : ∀ b, C b → ¬ H b) (hCfH : ∀ b, Cf b → ¬ H b) (hHf : ¬ H bf) (hJ : Inv W.heap.size J) (hJx : Inv W.heap.size Jx)
    (hr : ∀ pre x rest H1 W1, xs.filter p = pre ++ x :: rest → J pre H1 W1 → CallV Try.prog y #[enc x] W1 (RoundR J Jx (pre ++ [x]) H1 W1)) (h0 : J [] H W) :
    Calls Try.prog 63 #[y, .pointer (some ⟨bf, 0, none⟩), .pointer (some ⟨bs, 0, none⟩)] W (EndR J Jx (xs.filter p) H W) := by
  obtain ⟨gs, ls, hsf⟩ := hs.func
  have hCf := fun b hb => hpf.1 b hb
  have hI : Inv W.heap.size (WithC Cf W (fun q : List α => J (q.filter p))) := WithC.inv (hJ.comap (fun q : List α => q.filter p)) hCf hCf
  have hX : Inv W.heap.size (fun q : List α => Jx (q.filter p)) := hJx.comap (fun q : List α => q.filter p)
  refine (callsIn_wide (n := 0)).1 ?_
  refine callsIn_of_wp_marks Try.func63 rfl trivial ?_ rfl
  simp only [Try.ntmps63, List.size_toArray, List.length_cons, List.length_nil, Nat.reduceAdd, Nat.reduceSub, Array.replicate_succ, Array.replicate_zero, List.push_toArray, List.append_toArray, List.nil_append, List.cons_append]
  have hc1 := hbf.cell
  have hl1 := hbf.lt
  have hc2 := hbs.cell
  have hl2 := hbs.lt
  have Hr := Lib.hid hr
  have Hpf := Lib.hid hpf
  clear hr hpf
  subst hy hf hsf
  have q32 := fun w => run_eql_func_nil (P := Try.prog) w 32 Try.underlying32
  gi_wp2_with (gi_at_call 58; refine ((callsIn_wide (n := 0)).2 (sound58 _ _ _ _ (.inl rfl) _)).mono ?_; rintro e w' ⟨rfl, rfl⟩)
  clear q32
  have hHlt := hJ.lt _ _ _ h0
  have hH0 : ¬ H W.heap.size := fun e => by have := hHlt _ e; omega
  obtain ⟨W2, hW2⟩ : ∃ W2, (W.alloc (Obj.cells #[Value.func fn #[] lb] 32)).alloc (Obj.cells #[Value.func (Fn.func gs) #[] ls] 27) = W2 := ⟨_, rfl⟩
  have e0 : Only H W W2 := by rw [← hW2]; exact (Only.alloc H W _).trans (Only.alloc H _ _) (Grows.refl _ _)
  have hsz : W2.heap.size = W.heap.size + 2 := by rw [← hW2]; simp
  have bY : Boxed W2 W.heap.size 32 (.func fn #[] lb) := by rw [← hW2]; exact (Boxed.new W 32 _).alloc _
  have bS : Boxed W2 (W.heap.size + 1) 27 (.func (.func gs) #[] ls) := by rw [← hW2]; have := Boxed.new (W.alloc (.cells #[.func fn #[] lb] 32)) 27 (.func (.func gs) #[] ls); rwa [World.size_alloc] at this
  have bF : Boxed W2 bf 32 (.func fm #[] lm) := by rw [← hW2]; exact (hbf.alloc _).alloc _
  have hj0 : WithC Cf W (fun q : List α => J (q.filter p)) [] H W := ⟨h0, fun b hb => ⟨rfl, hCfH b hb⟩⟩
  have hj1 : WithC Cf W (fun q : List α => J (q.filter p)) [] H W2 := by rw [← hW2]; exact hI.alloc (hI.alloc hj0 _) _
  rw [hW2]
  clear hW2 hc1 hc2
  have hs2 := sound_seq (hs.only e0 hCH) bS
  refine wpIn_rangeFunc_seq rfl hs2 H (fun b hb => ?_) rfl (MapI (WithC Cf W (fun q : List α => J (q.filter p))) W.heap.size bf 32 32 (.func fn #[] lb) (.func fm #[] lm)) (MapX (fun q : List α => Jx (q.filter p)))
    (MapI.inv (hI.mono (by omega)) (by omega) (by omega) _ _ _ _) (fun c => MapX.inv (hX.mono (by omega)) c) ⟨hj1, hH0, hHf, bY, bF⟩
    (fun x => { tmps := #[Value.func fn #[] lb, Value.pointer (some { block := bf, off := 0 }), Value.pointer (some { block := bs, off := 0 }), Value.pointer (some { block := W.heap.size, off := 0 }),
      enc x, Value.func fm #[] lm, Value.bool false, Value.func (Fn.func gs) #[] ls,
      Value.func (Fn.func 87) #[] #[Value.pointer (some { block := W.heap.size + 1, off := 0 })], enc x, undef, undef, undef, undef, undef, undef, undef, undef, undef], defers := [] }) ?assign ?body ?done ?stop
  case assign =>
    intro l x W K hK
    gi_wp2
    exact hK
  case body =>
    rintro l pre x rest H1 W1 hx ⟨hj, h1, h2, hY, hF⟩ hl hl1 hl2
    have hfx := Lib.hid (Hpf.out.2.2 x W1 (fun b hb => (hj.2 b hb).1))
    have HX := Lib.hid hx
    clear hx hs2 hs hj1
    have hc1 := hY.cell
    have hc2 := hF.cell
    have hlt1 := hY.lt
    gi_wp2_with (refine wpListIn_callV (o := ⟨some 12, _, _, _, _, _⟩) rfl rfl _ _ _ rfl _ _ rfl rfl hfx.out ?_)
    rintro e W3 rfl hB3
    have ho3 : Only H1 W1 W3 := Only.of_below hB3
    have hj3 := hI.stable _ _ _ _ hj (Only.of_below hB3)
    have hY3 := ho3.boxed hY h1
    have hF3 := ho3.boxed hF h2
    have hc3 := hY3.cell
    refine ⟨_, rfl, ?_⟩
    clear hc1 hc2 hfx
    cases hp : p x
    · have HP := Lib.hid hp
      clear hp
      gi_wp2
      refine ⟨H1, Grows.refl _ _, ho3, ⟨?_, hj3.2⟩, h1, h2, hY3, hF3⟩
      have e1 : (pre ++ [x]).filter p = pre.filter p := by simp [HP.out]
      show J ((pre ++ [x]).filter p) H1 W3
      rw [e1]; exact hj3.1
    · obtain ⟨hx1, hx2⟩ := filter_split p HX.out hp
      have hcall := Lib.hid (Hr.out (pre.filter p) x (rest.filter p) H1 W3 hx1 hj3.1)
      rw [← hx2] at hcall
      clear hp hx1 hx2 Hr
      gi_wp2_with (refine wpListIn_callV (o := ⟨some 16, _, _, _, _, _⟩) rfl rfl _ _ _ rfl _ _ rfl rfl hcall.out ?_)
      rintro e W4 hR4
      obtain ⟨H4, hg4, ho4, hend⟩ := WithC.round (L' := fun q : List α => J (q.filter p)) (Lx := fun q : List α => Jx (q.filter p)) (q' := pre ++ [x]) hCf hj3 hR4 (fun _ _ h => by rw [List.filter_append]; exact h) (fun _ _ h => by rw [List.filter_append]; exact h)
      have hY4 := ho4.boxed hY3 h1
      have hF4 := ho4.boxed hF3 h2
      have h14 : ¬ H4 W.heap.size := fun e => (hg4 _ e).elim h1 (fun e' => by have := hY3.lt; omega)
      have h24 : ¬ H4 bf := fun e => (hg4 _ e).elim h2 (fun e' => by have := hF3.lt; omega)
      have hgF : Grows H1 W1 H4 := fun b hb => (hg4 b hb).imp id (fun e => Nat.le_trans ho3.size e)
      have hoF : Only H1 W1 W4 := ho3.trans ho4 (Grows.refl _ _)
      have HG := Lib.hid hgF
      have HO := Lib.hid hoF
      clear hgF hoF hg4 ho4 hR4 hcall hc3
      rcases hend with ⟨rfl, hj4⟩ | ⟨rfl, hj4⟩
      · refine ⟨_, rfl, ?_⟩
        gi_wp2
        exact ⟨H4, HG.out, HO.out, hj4, h14, h24, hY4, hF4⟩
      · refine ⟨_, rfl, ?_⟩
        gi_wp2
        exact ⟨H4, HG.out, HO.out, rfl, hj4⟩
  case done =>
    rintro D H1 W1 ⟨hj, _⟩ hg ho hD hHD hK
    refine ⟨by simp, .inl ⟨_, _, rfl, run_takeDeferred hK, ?_⟩⟩
    exact ⟨_, results_none rfl _ _ _, ⟨_, rfl⟩, H1, fun b hb => (hg b hb).imp id (fun e => by omega), (e0.trans ho (Grows.refl _ _)).behind (by omega) _, .inl (hJ.putObj hj.1 (by omega) hHD _)⟩
  case stop =>
    rintro D c pre H1 W1 hpre ⟨rfl, hj⟩ hg ho hD hHD hK
    gi_wp2
    refine ⟨by simp, .inl ⟨_, _, rfl, run_takeDeferred hK, ?_⟩⟩
    exact ⟨_, results_none rfl _ _ _, ⟨_, rfl⟩, H1, fun b hb => (hg b hb).imp id (fun e => by omega), (e0.trans ho (Grows.refl _ _)).behind (by omega) _, .inr ⟨pre.filter p, List.IsPrefix.filter _ hpre, hJx.putObj hj (by omega) hHD _⟩⟩
  · rcases hb with hb | hb
    · exact hCH b hb
    · intro e; have := hHlt _ e; omega

theorem keep_seq {α : Type} {enc : α → Value} {xs : List α} {s f : Value} {C Cf : Nat → Prop} {w : World} (p : α → Bool) (h : SeqV Try.prog s C enc xs w) (hf : PureF Try.prog f Cf enc Value.bool p w) {bf bs : Nat} (hbf : Boxed w bf 32 f) (hbs : Boxed w bs 27 s) :
    SeqV Try.prog (.func (.func 63) #[] #[.pointer (some ⟨bf, 0, none⟩), .pointer (some ⟨bs, 0, none⟩)]) (fun k => (C k ∨ Cf k) ∨ k = bf ∨ k = bs) enc (xs.filter p) w := by
  refine ⟨?_, 63, _, rfl, enters_of Try.func63 (by kernel_rfl) rfl, ?_⟩
  · rintro k ((hk | hk) | rfl | rfl)
    · exact h.1 k hk
    · exact hf.1 k hk
    · exact hbf.lt
    · exact hbs.lt
  rintro y J Jx H W ⟨fn, lb, hy⟩ hC hCH hJ hJx hr h0
  obtain ⟨fm, lm, hfe⟩ := hf.2.1
  exact k63 p fn lb fm lm s y f bf bs W hy hfe C Cf H J Jx (h.later fun b hb => hC b (.inl (.inl hb))) (hf.later fun b hb => hC b (.inl (.inr hb))) ((hC bf (.inr (.inl rfl))).trans hbf) ((hC bs (.inr (.inr rfl))).trans hbs)
    (fun b hb => hCH b (.inl (.inl hb))) (fun b hb => hCH b (.inl (.inr hb))) (hCH bf (.inr (.inl rfl))) hJ hJx hr h0

set_option maxRecDepth 100000 in
set_option maxHeartbeats 400000 in
theorem keep24 (fn : Fn) (x : Array Value) (lb : Array Value) (s f : Value) (hs : s = .func fn x lb) (fm : Fn) (lx lm : Array Value) (hf : f = .func fm lx lm) (w : World) :
    Calls Try.prog 24 #[s, f] w fun e w' => e = .returned (.func (.func 87) #[] #[.pointer (some ⟨w.heap.size + 2, 0, none⟩)]) ∧
      ((w.alloc (.cells #[s] 27)).alloc (.cells #[f] 32)).alloc (.cells #[.func (.func 63) #[] #[.pointer (some ⟨w.heap.size + 1, 0, none⟩), .pointer (some ⟨w.heap.size, 0, none⟩)]] 27) = w' := by
  refine (callsIn_wide (n := 0)).1 ?_
  refine callsIn_of_wp Try.func24 rfl trivial ?_ rfl
  simp only [Try.ntmps24, List.size_toArray, List.length_cons, List.length_nil, Nat.reduceAdd, Nat.reduceSub, Array.replicate_succ, Array.replicate_zero, List.push_toArray, List.append_toArray, List.nil_append, List.cons_append]
  subst hs hf
  gi_wp2_with (gi_at_call 58; refine ((callsIn_wide (n := 0)).2 (sound58 _ _ _ _ (.inl rfl) _)).mono ?_; rintro e w' ⟨rfl, rfl⟩)
  go_ret
  exact ⟨rfl, rfl⟩

/-- Three boxes, one behind the other. -/
theorem three_boxes (w : World) (a b c : Value) (ta tb tc : TypeId) : Below w.heap.size w (((w.alloc (.cells #[a] ta)).alloc (.cells #[b] tb)).alloc (.cells #[c] tc)) ∧
    Boxed (((w.alloc (.cells #[a] ta)).alloc (.cells #[b] tb)).alloc (.cells #[c] tc)) w.heap.size ta a ∧ Boxed (((w.alloc (.cells #[a] ta)).alloc (.cells #[b] tb)).alloc (.cells #[c] tc)) (w.heap.size + 1) tb b ∧
    Boxed (((w.alloc (.cells #[a] ta)).alloc (.cells #[b] tb)).alloc (.cells #[c] tc)) (w.heap.size + 2) tc c := by
  refine ⟨(((Below.refl _ w).alloc (Nat.le_refl _) _).alloc (by simp) _).alloc (by simp; omega) _, ((Boxed.new w ta a).alloc _).alloc _, ?_, ?_⟩
  · have := (Boxed.new (w.alloc (.cells #[a] ta)) tb b).alloc (.cells #[c] tc); rwa [World.size_alloc] at this
  · have := Boxed.new ((w.alloc (.cells #[a] ta)).alloc (.cells #[b] tb)) tc c; rwa [World.size_alloc, World.size_alloc] at this

/-- gen.Keep(s, f). -/
theorem keep_call {α : Type} {enc : α → Value} {xs : List α} {s f : Value} {C Cf : Nat → Prop} {w : World} (p : α → Bool) (h : SeqV Try.prog s C enc xs w) (hf : PureF Try.prog f Cf enc Value.bool p w) :
    Calls Try.prog 24 #[s, f] w (GivesSeq Try.prog (fun b => C b ∨ Cf b) enc (xs.filter p) w) := by
  obtain ⟨gs, ls, hs⟩ := h.func
  obtain ⟨fm, lm, hfe⟩ := hf.2.1
  refine Calls.mono (keep24 _ _ _ s f hs _ _ _ hfe w) ?_
  rintro e w' ⟨rfl, rfl⟩
  obtain ⟨hB, b1, b2, b3⟩ := three_boxes w s f (.func (.func 63) #[] #[.pointer (some ⟨w.heap.size + 1, 0, none⟩), .pointer (some ⟨w.heap.size, 0, none⟩)]) 27 32 27
  refine ⟨_, _, rfl, sound_seq (keep_seq p (h.below hB) (hf.below hB) b2 b1) b3, hB, ?_⟩
  rintro k (((hk | hk) | rfl | rfl) | rfl)
  · exact .inl (.inl hk)
  · exact .inl (.inr hk)
  all_goals exact .inr (by omega)
end Go.Proofs.Ytdfnainibjgenaa
