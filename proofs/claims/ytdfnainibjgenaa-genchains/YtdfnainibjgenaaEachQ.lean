/- gen.Each at sequences of ints. -/
import Derived.Test.YtdfnainibjgenaaEach
import Derived.Test.YtdfnainibjgenaaSoundQ
namespace Go.Proofs.Ytdfnainibjgenaa
open Go.RowKit Go.Shelf
set_option linter.unusedVariables false
set_option linter.unusedSimpArgs false
attribute [local go_sem] Oper.semAt_some wide_fn wide_depth

set_option maxRecDepth 100000 in
set_option maxHeartbeats 2000000 in
theorem e90 {α : Type} {enc : α → Value} {xs : List α} (ys : α → List Int) (fn : Fn) (lb : Array Value) (fm : Fn) (lm : Array Value) (s y f : Value) (bf bs : Nat) (W : World) (hy : y = .func fn #[] lb) (hf : f = .func fm #[] lm)
    (C Cf H : Nat → Prop) (J Jx : List Int → (Nat → Prop) → World → Prop) (hs : SeqV Try.prog s C enc xs W) (hpf : SeqFn Try.prog f Cf enc encI ys xs W) (hbf : Boxed W bf 68 f) (hbs : Boxed W bs 72 s)
    (hCH : ∀ b, C b → ¬ H b) (hCfH : ∀ b, Cf b → ¬ H b) (hHf : ¬ H bf) (hJ : Inv W.heap.size J) (hJx : Inv W.heap.size Jx)
    (hr : ∀ pre x rest H1 W1, xs.flatMap ys = pre ++ x :: rest → J pre H1 W1 → CallV Try.prog y #[encI x] W1 (RoundR J Jx (pre ++ [x]) H1 W1)) (h0 : J [] H W) :
    Calls Try.prog 90 #[y, .pointer (some ⟨bf, 0, none⟩), .pointer (some ⟨bs, 0, none⟩)] W (EndR J Jx (xs.flatMap ys) H W) := by
  obtain ⟨gs, ls, hsf⟩ := hs.func
  have hCf := fun b hb => hpf.1 b hb
  have hI : Inv W.heap.size (WithC Cf W (fun q : List α => J (q.flatMap ys))) := WithC.inv (hJ.comap (fun q : List α => q.flatMap ys)) hCf hCf
  refine (callsIn_wide (n := 0)).1 ?_
  refine callsIn_of_wp_marks Try.func90 rfl trivial ?_ rfl
  simp only [Try.ntmps90, List.size_toArray, List.length_cons, List.length_nil, Nat.reduceAdd, Nat.reduceSub, Array.replicate_succ, Array.replicate_zero, List.push_toArray, List.append_toArray, List.nil_append, List.cons_append]
  have hc1 := hbf.cell
  have hl1 := hbf.lt
  have hc2 := hbs.cell
  have hl2 := hbs.lt
  have Hr := Lib.hid hr
  have Hpf := Lib.hid hpf
  clear hr hpf
  subst hy hf hsf
  have q68 := fun w => run_eql_func_nil (P := Try.prog) w 68 Try.underlying68
  gi_wp2_with (gi_at_call 91; refine ((callsIn_wide (n := 0)).2 (sound91 _ _ _ _ (.inl rfl) _)).mono ?_; rintro e w' ⟨rfl, rfl⟩)
  clear q68
  have hHlt := hJ.lt _ _ _ h0
  have hH0 : ¬ H W.heap.size := fun e => by have := hHlt _ e; omega
  obtain ⟨W2, hW2⟩ : ∃ W2, (W.alloc (Obj.cells #[Value.func fn #[] lb] 32)).alloc (Obj.cells #[Value.func (Fn.func gs) #[] ls] 72) = W2 := ⟨_, rfl⟩
  have e0 : Only H W W2 := by rw [← hW2]; exact (Only.alloc H W _).trans (Only.alloc H _ _) (Grows.refl _ _)
  have hsz : W2.heap.size = W.heap.size + 2 := by rw [← hW2]; simp
  have bY : Boxed W2 W.heap.size 32 (.func fn #[] lb) := by rw [← hW2]; exact (Boxed.new W 32 _).alloc _
  have bS : Boxed W2 (W.heap.size + 1) 72 (.func (.func gs) #[] ls) := by rw [← hW2]; have := Boxed.new (W.alloc (.cells #[.func fn #[] lb] 32)) 72 (.func (.func gs) #[] ls); rwa [World.size_alloc] at this
  have bF : Boxed W2 bf 68 (.func fm #[] lm) := by rw [← hW2]; exact (hbf.alloc _).alloc _
  have hj0 : WithC Cf W (fun q : List α => J (q.flatMap ys)) [] H W := ⟨h0, fun b hb => ⟨rfl, hCfH b hb⟩⟩
  have hj1 : WithC Cf W (fun q : List α => J (q.flatMap ys)) [] H W2 := by rw [← hW2]; exact hI.alloc (hI.alloc hj0 _) _
  rw [hW2]
  clear hW2 hc1 hc2
  have hs2 := sound_seqQ (hs.only e0 hCH) bS
  refine wpIn_rangeFunc_seq rfl hs2 H (fun b hb => ?_) rfl (MapI (WithC Cf W (fun q : List α => J (q.flatMap ys))) W.heap.size bf 32 68 (.func fn #[] lb) (.func fm #[] lm)) (EachX Jx ys)
    (MapI.inv (hI.mono (by omega)) (by omega) (by omega) _ _ _ _) (fun c => EachX.inv (hJx.mono (by omega)) ys c) ⟨hj1, hH0, hHf, bY, bF⟩
    (fun x => { tmps := #[Value.func fn #[] lb, Value.pointer (some { block := bf, off := 0 }), Value.pointer (some { block := bs, off := 0 }), Value.pointer (some { block := W.heap.size, off := 0 }),
      enc x, undef, Value.func fm #[] lm, Value.bool false, Value.func (Fn.func gs) #[] ls,
      Value.func (Fn.func 115) #[] #[Value.pointer (some { block := W.heap.size + 1, off := 0 })], enc x, undef, undef, undef, undef, undef, undef, undef, undef, undef], defers := [] }) ?assign ?body ?done ?stop
  case assign =>
    intro l x W K hK
    gi_wp2
    exact hK
  case body =>
    rintro l pre x rest H1 W1 hx ⟨hj, h1, h2, hY, hF⟩ hl hl1 ⟨rl, hl2⟩
    have hfx := Lib.hid (Hpf.out.2.2 x W1 (by rw [hx]; simp) (fun b hb => (hj.2 b hb).1))
    have HX := Lib.hid hx
    clear hx hs2 hs hj1 hj0
    have hc1 := hY.cell
    have hc2 := hF.cell
    have hlt1 := hY.lt
    gi_wp2_with (refine wpListIn_callV (o := ⟨some 13, _, _, _, _, _⟩) rfl rfl _ _ _ rfl _ _ rfl rfl hfx.out ?_)
    rintro e W3 t rfl C3 ht hB3 hC3
    have hform : ∃ (f' : Fn) (x' l' : Array Value), t = .func f' x' l' ∨ t = .nilFunc := by
      rcases ht with ⟨h, _⟩ | h
      · exact ⟨fn, #[], #[], .inr h⟩
      · obtain ⟨gt, lt, h'⟩ := h.func
        exact ⟨_, _, _, .inl h'⟩
    obtain ⟨f', x', l', hform⟩ := hform
    have key : ∃ C4 : Nat → Prop, SeqV Try.prog (.func (.func 87) #[] #[.pointer (some ⟨W3.heap.size, 0, none⟩)]) C4 encI (ys x) (W3.alloc (.cells #[t] 27)) ∧ ∀ b, C4 b → Cf b ∨ W1.heap.size ≤ b := by
      have hn := Boxed.new W3 27 t
      have hBa : Below W3.heap.size W3 (W3.alloc (.cells #[t] 27)) := (Below.refl _ _).alloc (Nat.le_refl _) _
      rcases ht with ⟨rfl, hnil⟩ | h
      · rw [hnil]
        exact ⟨_, sound_nil hn, fun b hb => .inr (by have := hB3.size; omega)⟩
      · refine ⟨_, sound_seq (h.below hBa) hn, ?_⟩
        rintro b (hb | hb)
        · exact hC3 b hb
        · exact .inr (by have := hB3.size; omega)
    obtain ⟨C4, hseq4, hC4⟩ := key
    have hB4 : Below W1.heap.size W1 (W3.alloc (.cells #[t] 27)) := hB3.alloc hB3.size _
    have hHlt1 := hI.lt _ _ _ hj
    have Hform := Lib.hid hform
    refine ⟨_, rfl, ?_⟩
    clear hc1 hc2 hfx hform ht
    gi_wp2_with (gi_at_call 58; refine (CallsIn.inRound l ((callsIn_wide (n := 0)).2 (sound58 f' x' l' _ Hform.out _))).mono ?_; rintro e w' ⟨rfl, rfl⟩)
    obtain ⟨W4, hW4⟩ : ∃ W4, W3.alloc (Obj.cells #[t] 27) = W4 := ⟨_, rfl⟩
    rw [hW4] at hseq4 hB4 ⊢
    have hs4 : W1.heap.size ≤ W4.heap.size := hB4.size
    have hl4 : W4.heap[l]? = some (.loop rl) := (hB4.block l (Array.getElem?_eq_some_iff.1 hl2).1).trans hl2
    have hI2 : Inv W.heap.size (WithC Cf W (fun q : List Int => J (pre.flatMap ys ++ q))) := WithC.inv (hJ.comap (fun q : List Int => pre.flatMap ys ++ q)) hCf hCf
    have hX2 : Inv W.heap.size (fun q : List Int => Jx (pre.flatMap ys ++ q)) := hJx.comap (fun q : List Int => pre.flatMap ys ++ q)
    have ho4 : Only H1 W1 W4 := Only.of_below hB4
    have hj4 := hI.stable _ _ _ _ hj (Only.of_below hB4)
    have hj4' : WithC Cf W (fun q : List Int => J (pre.flatMap ys ++ q)) [] H1 W4 := ⟨by simpa using hj4.1, hj4.2⟩
    have hY4 := ho4.boxed hY h1
    have hF4 := ho4.boxed hF h2
    clear hW4
    refine wpIn_rangeFunc_seqN hl4 rfl hseq4 H1 (fun b hb => ?_) rfl (MapI (WithC Cf W (fun q : List Int => J (pre.flatMap ys ++ q))) W.heap.size bf 32 68 (.func fn #[] lb) (.func fm #[] lm)) (MapX (fun q : List Int => Jx (pre.flatMap ys ++ q)))
      (MapI.inv (hI2.mono (by omega)) (by omega) (by have := hF4.lt; omega) _ _ _ _) (fun c => MapX.inv (hX2.mono (by omega)) c) ⟨hj4', h1, h2, hY4, hF4⟩
      (fun u => { tmps := #[Value.func fn #[] lb, Value.pointer (some { block := bf, off := 0 }), Value.pointer (some { block := bs, off := 0 }), Value.pointer (some { block := W.heap.size, off := 0 }),
        enc x, encI u, Value.func fm #[] lm, Value.bool false, Value.func (Fn.func gs) #[] ls,
        Value.func (Fn.func 115) #[] #[Value.pointer (some { block := W.heap.size + 1, off := 0 })], enc x, Value.func fm #[] lm, enc x, t, Value.func (Fn.func 87) #[] #[Value.pointer (some { block := W3.heap.size, off := 0 })], encI u, undef, undef, undef, undef], defers := [] }) ?assign2 ?body2 ?done2 ?stop2
    case assign2 =>
      intro l u W K hK
      gi_wp2
      exact hK
    case body2 =>
      rintro l2 upre u urest H5 W5 hu ⟨hj5, h15, h25, hY5, hF5⟩ hl' hl1' hl2'
      have hxx : xs.flatMap ys = (pre.flatMap ys ++ upre) ++ u :: (urest ++ rest.flatMap ys) := by rw [HX.out]; simp [hu]
      have hcall := Lib.hid (Hr.out (pre.flatMap ys ++ upre) u (urest ++ rest.flatMap ys) H5 W5 hxx hj5.1)
      clear hxx hu Hr Hpf
      have hc5 := hY5.cell
      gi_wp2_with (refine wpListIn_callV (o := ⟨some 18, _, _, _, _, _⟩) rfl rfl _ _ _ rfl _ _ rfl rfl hcall.out ?_)
      rintro e W6 hR6
      obtain ⟨H6, hg6, ho6, hend⟩ := WithC.round (L' := fun q : List Int => J (pre.flatMap ys ++ q)) (Lx := fun q : List Int => Jx (pre.flatMap ys ++ q)) (q' := upre ++ [u]) hCf hj5 hR6 (fun _ _ h => h) (fun _ _ h => h)
      have hY6 := ho6.boxed hY5 h15
      have hF6 := ho6.boxed hF5 h25
      have h16 : ¬ H6 W.heap.size := fun e => (hg6 _ e).elim h15 (fun e' => by have := hY5.lt; omega)
      have h26 : ¬ H6 bf := fun e => (hg6 _ e).elim h25 (fun e' => by have := hF5.lt; omega)
      have HG := Lib.hid hg6
      have HO := Lib.hid ho6
      clear hg6 ho6 hR6 hcall hc5
      rcases hend with ⟨rfl, hj6⟩ | ⟨rfl, hj6⟩
      · refine ⟨_, rfl, ?_⟩
        gi_wp2
        exact ⟨H6, HG.out, HO.out, hj6, h16, h26, hY6, hF6⟩
      · refine ⟨_, rfl, ?_⟩
        gi_wp2
        exact ⟨H6, HG.out, HO.out, rfl, hj6⟩
    case done2 =>
      rintro H5 W5 ⟨hj5, h15, h25, hY5, hF5⟩ hg5 ho5
      gi_wp2
      refine ⟨H5, fun b hb => (hg5 b hb).imp id (fun e => by omega), ho4.trans ho5 (Grows.refl _ _), ⟨?_, hj5.2⟩, h15, h25, hY5, hF5⟩
      show J ((pre ++ [x]).flatMap ys) H5 W5
      have := hj5.1
      simpa using this
    case stop2 =>
      rintro c upre H5 W5 hupre ⟨rfl, hj5⟩ hg5 ho5
      gi_wp2
      refine ⟨H5, fun b hb => (hg5 b hb).imp id (fun e => by omega), ho4.trans ho5 (Grows.refl _ _), rfl, _, ?_, hj5⟩
      obtain ⟨r, hr⟩ := hupre
      refine ⟨r, ?_⟩
      simp [← hr]
    · rcases hC4 b hb with h | h
      · exact (hj.2 b h).2
      · intro e; have := hHlt1 _ e; omega
  case done =>
    rintro D H1 W1 ⟨hj, _⟩ hg ho hD hHD hK
    refine ⟨by simp, .inl ⟨_, _, rfl, run_takeDeferred hK, ?_⟩⟩
    exact ⟨_, results_none rfl _ _ _, ⟨_, rfl⟩, H1, fun b hb => (hg b hb).imp id (fun e => by omega), (e0.trans ho (Grows.refl _ _)).behind (by omega) _, .inl (hJ.putObj hj.1 (by omega) hHD _)⟩
  case stop =>
    rintro D c pre H1 W1 hpre ⟨rfl, u, hu, hj⟩ hg ho hD hHD hK
    gi_wp2
    refine ⟨by simp, .inl ⟨_, _, rfl, run_takeDeferred hK, ?_⟩⟩
    refine ⟨_, results_none rfl _ _ _, ⟨_, rfl⟩, H1, fun b hb => (hg b hb).imp id (fun e => by omega), (e0.trans ho (Grows.refl _ _)).behind (by omega) _, .inr ⟨u, hu.trans ?_, hJx.putObj hj (by omega) hHD _⟩⟩
    obtain ⟨t, rfl⟩ := hpre
    rw [List.flatMap_append]
    exact List.prefix_append _ _
  · rcases hb with hb | hb
    · exact hCH b hb
    · intro e; have := hHlt _ e; omega

theorem each_seqQ {α : Type} {enc : α → Value} {xs : List α} {s f : Value} {C Cf : Nat → Prop} {w : World} (ys : α → List Int) (h : SeqV Try.prog s C enc xs w) (hf : SeqFn Try.prog f Cf enc encI ys xs w) {bf bs : Nat} (hbf : Boxed w bf 68 f) (hbs : Boxed w bs 72 s) :
    SeqV Try.prog (.func (.func 90) #[] #[.pointer (some ⟨bf, 0, none⟩), .pointer (some ⟨bs, 0, none⟩)]) (fun k => (C k ∨ Cf k) ∨ k = bf ∨ k = bs) encI (xs.flatMap ys) w := by
  refine ⟨?_, 90, _, rfl, enters_of Try.func90 (by kernel_rfl) rfl, ?_⟩
  · rintro k ((hk | hk) | rfl | rfl)
    · exact h.1 k hk
    · exact hf.1 k hk
    · exact hbf.lt
    · exact hbs.lt
  rintro y J Jx H W ⟨fn, lb, hy⟩ hC hCH hJ hJx hr h0
  obtain ⟨fm, lm, hfe⟩ := hf.2.1
  exact e90 ys fn lb fm lm s y f bf bs W hy hfe C Cf H J Jx (h.later fun b hb => hC b (.inl (.inl hb))) (hf.later fun b hb => hC b (.inl (.inr hb))) ((hC bf (.inr (.inl rfl))).trans hbf) ((hC bs (.inr (.inr rfl))).trans hbs)
    (fun b hb => hCH b (.inl (.inl hb))) (fun b hb => hCH b (.inl (.inr hb))) (hCH bf (.inr (.inl rfl))) hJ hJx hr h0

set_option maxRecDepth 100000 in
set_option maxHeartbeats 400000 in
theorem each66 (fn : Fn) (x : Array Value) (lb : Array Value) (s f : Value) (hs : s = .func fn x lb) (fm : Fn) (lx lm : Array Value) (hf : f = .func fm lx lm) (w : World) :
    Calls Try.prog 66 #[s, f] w fun e w' => e = .returned (.func (.func 87) #[] #[.pointer (some ⟨w.heap.size + 2, 0, none⟩)]) ∧
      ((w.alloc (.cells #[s] 72)).alloc (.cells #[f] 68)).alloc (.cells #[.func (.func 90) #[] #[.pointer (some ⟨w.heap.size + 1, 0, none⟩), .pointer (some ⟨w.heap.size, 0, none⟩)]] 27) = w' := by
  refine (callsIn_wide (n := 0)).1 ?_
  refine callsIn_of_wp Try.func66 rfl trivial ?_ rfl
  simp only [Try.ntmps66, List.size_toArray, List.length_cons, List.length_nil, Nat.reduceAdd, Nat.reduceSub, Array.replicate_succ, Array.replicate_zero, List.push_toArray, List.append_toArray, List.nil_append, List.cons_append]
  subst hs hf
  gi_wp2_with (gi_at_call 58; refine ((callsIn_wide (n := 0)).2 (sound58 _ _ _ _ (.inl rfl) _)).mono ?_; rintro e w' ⟨rfl, rfl⟩)
  go_ret
  exact ⟨rfl, rfl⟩

/-- gen.Each(s, f). -/
theorem each_callQ {α : Type} {enc : α → Value} {xs : List α} {s f : Value} {C Cf : Nat → Prop} {w : World} (ys : α → List Int) (h : SeqV Try.prog s C enc xs w) (hf : SeqFn Try.prog f Cf enc encI ys xs w) :
    Calls Try.prog 66 #[s, f] w (GivesSeq Try.prog (fun b => C b ∨ Cf b) encI (xs.flatMap ys) w) := by
  obtain ⟨gs, ls, hs⟩ := h.func
  obtain ⟨fm, lm, hfe⟩ := hf.2.1
  refine Calls.mono (each66 _ _ _ s f hs _ _ _ hfe w) ?_
  rintro e w' ⟨rfl, rfl⟩
  obtain ⟨hB, b1, b2, b3⟩ := three_boxes w s f (.func (.func 90) #[] #[.pointer (some ⟨w.heap.size + 1, 0, none⟩), .pointer (some ⟨w.heap.size, 0, none⟩)]) 72 68 27
  refine ⟨_, _, rfl, sound_seq (each_seqQ ys (h.below hB) (hf.below hB) b2 b1) b3, hB, ?_⟩
  rintro k (((hk | hk) | rfl | rfl) | rfl)
  · exact .inl (.inl hk)
  · exact .inl (.inr hk)
  all_goals exact .inr (by omega)
end Go.Proofs.Ytdfnainibjgenaa
