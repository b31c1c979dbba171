/- gen.Drop at ints. -/
import Derived.Test.YtdfnainibjgenaaKeep
namespace Go.Proofs.Ytdfnainibjgenaa
open Go.RowKit Go.Shelf
set_option linter.unusedVariables false
set_option linter.unusedSimpArgs false
attribute [local go_sem] Oper.semAt_some wide_fn wide_depth

/-- What is left to drop when q have come. -/
def dropLeft (n : Int) (k : Nat) : Int := n - (min k n.toNat : Nat)
/-- What Drop keeps. -/
def DropI {α : Type} (J : List α → (Nat → Prop) → World → Prop) (B TY : Nat) (y : Value) (n : Int) (q : List α) (H : Nat → Prop) (W : World) : Prop :=
  ∃ H0, H = (fun k => H0 k ∨ k = B + 1) ∧ ¬ H0 B ∧ ¬ H0 (B + 1) ∧ J (q.drop n.toNat) H0 W ∧ Boxed W B TY y ∧ Boxed W (B + 1) 3 (.int .i64 (dropLeft n q.length))
def DropX {α : Type} (Jx : List α → (Nat → Prop) → World → Prop) (B : Nat) (n : Int) (c : Code) (q : List α) (H : Nat → Prop) (W : World) : Prop :=
  c = .ret ∧ ∃ H0, H = (fun k => H0 k ∨ k = B + 1) ∧ B + 1 < W.heap.size ∧ ¬ H0 (B + 1) ∧ Jx (q.drop n.toNat) H0 W
theorem DropI.inv {α : Type} {J : List α → (Nat → Prop) → World → Prop} {B : Nat} (hJ : Inv B J) (TY : Nat) (y : Value) (n : Int) : Inv (B + 2) (DropI J B TY y n) := by
  constructor
  · rintro s H W W' ⟨H0, rfl, h1, h2, hj, hY, hO⟩ ho
    exact ⟨H0, rfl, h1, h2, hJ.stable _ _ _ _ hj (ho.mono fun b _ e => ⟨by omega, fun e' => e.2 (.inl e')⟩), ho.box hY (by omega), ho.box hO (by omega)⟩
  · rintro s H W ⟨H0, rfl, h1, h2, hj, hY, hO⟩ b (hb | rfl)
    · exact hJ.lt _ _ _ hj b hb
    · exact hO.lt
theorem DropX.inv {α : Type} {Jx : List α → (Nat → Prop) → World → Prop} {B : Nat} (hJx : Inv B Jx) (n : Int) (c : Code) : Inv (B + 2) (DropX Jx B n c) := by
  constructor
  · rintro s H W W' ⟨hc, H0, rfl, h1, h2, hj⟩ ho
    exact ⟨hc, H0, rfl, Nat.lt_of_lt_of_le h1 ho.size, h2, hJx.stable _ _ _ _ hj (ho.mono fun b _ e => ⟨by omega, fun e' => e.2 (.inl e')⟩)⟩
  · rintro s H W ⟨hc, H0, rfl, h1, h2, hj⟩ b (hb | rfl)
    · exact hJx.lt _ _ _ hj b hb
    · exact h1

set_option maxRecDepth 100000 in
set_option maxHeartbeats 1000000 in
theorem d65 {α : Type} {enc : α → Value} {xs : List α} (fn : Fn) (lb : Array Value) (s y : Value) (bn bs : Nat) (n : Int) (hn2 : (Lit.int .i64 n).wf = true) (W : World) (hy : y = .func fn #[] lb)
    (C H : Nat → Prop) (J Jx : List α → (Nat → Prop) → World → Prop) (hs : SeqV Try.prog s C enc xs W) (hbn : Boxed W bn 3 (.int .i64 n)) (hbs : Boxed W bs 27 s)
    (hCH : ∀ b, C b → ¬ H b) (hJ : Inv W.heap.size J) (hJx : Inv W.heap.size Jx)
    (hr : ∀ pre x rest H1 W1, xs.drop n.toNat = pre ++ x :: rest → J pre H1 W1 → CallV Try.prog y #[enc x] W1 (RoundR J Jx (pre ++ [x]) H1 W1)) (h0 : J [] H W) :
    Calls Try.prog 65 #[y, .pointer (some ⟨bn, 0, none⟩), .pointer (some ⟨bs, 0, none⟩)] W (EndR J Jx (xs.drop n.toNat) H W) := by
  obtain ⟨gs, ls, hsf⟩ := hs.func
  refine (callsIn_wide (n := 0)).1 ?_
  refine callsIn_of_wp_marks Try.func65 rfl trivial ?_ rfl
  simp only [Try.ntmps65, List.size_toArray, List.length_cons, List.length_nil, Nat.reduceAdd, Nat.reduceSub, Array.replicate_succ, Array.replicate_zero, List.push_toArray, List.append_toArray, List.nil_append, List.cons_append]
  have hc1 := hbn.cell
  have hl1 := hbn.lt
  have hc2 := hbs.cell
  have hl2 := hbs.lt
  have Hr := Lib.hid hr
  have Hn := Lib.hid hn2
  clear hr hn2
  subst hy hsf
  gi_wp2_with (gi_at_call 58; refine ((callsIn_wide (n := 0)).2 (sound58 _ _ _ _ (.inl rfl) _)).mono ?_; rintro e w' ⟨rfl, rfl⟩)
  have hHlt := hJ.lt _ _ _ h0
  have hH0 : ¬ H W.heap.size := fun e => by have := hHlt _ e; omega
  have hH1 : ¬ H (W.heap.size + 1) := fun e => by have := hHlt _ e; omega
  obtain ⟨W2, hW2⟩ : ∃ W2, ((W.alloc (Obj.cells #[Value.func fn #[] lb] 32)).alloc (Obj.cells #[Value.int IntKind.i64 n] 3)).alloc (Obj.cells #[Value.func (Fn.func gs) #[] ls] 27) = W2 := ⟨_, rfl⟩
  obtain ⟨hB2, bY, bO, bS⟩ := three_boxes W (.func fn #[] lb) (.int .i64 n) (.func (.func gs) #[] ls) 32 3 27
  have hj1 := hJ.alloc (hJ.alloc (hJ.alloc h0 (Obj.cells #[Value.func fn #[] lb] 32)) (Obj.cells #[Value.int IntKind.i64 n] 3)) (Obj.cells #[Value.func (Fn.func gs) #[] ls] 27)
  have hsz : (((W.alloc (Obj.cells #[Value.func fn #[] lb] 32)).alloc (Obj.cells #[Value.int IntKind.i64 n] 3)).alloc (Obj.cells #[Value.func (Fn.func gs) #[] ls] 27)).heap.size = W.heap.size + 3 := by simp
  rw [hW2] at hB2 bY bO bS hj1 hsz ⊢
  have e0 : Only H W W2 := Only.of_below hB2
  clear hW2 hc1 hc2
  have hs2 := sound_seq (hs.only e0 hCH) bS
  refine wpIn_rangeFunc_seq rfl hs2 (fun k => H k ∨ k = W.heap.size + 1) (fun b hb => ?_) rfl (DropI J W.heap.size 32 (.func fn #[] lb) n) (DropX Jx W.heap.size n)
    ((DropI.inv hJ _ _ _).mono (by omega)) (fun c => (DropX.inv hJx n c).mono (by omega)) ⟨H, rfl, hH0, hH1, by simpa using hj1, bY, by simpa [dropLeft] using bO⟩
    (fun x => { tmps := #[Value.func fn #[] lb, Value.pointer (some { block := bn, off := 0 }), Value.pointer (some { block := bs, off := 0 }), Value.pointer (some { block := W.heap.size, off := 0 }),
      Value.pointer (some { block := W.heap.size + 1, off := 0 }), enc x, Value.int IntKind.i64 n, Value.func (Fn.func gs) #[] ls,
      Value.func (Fn.func 87) #[] #[Value.pointer (some { block := W.heap.size + 2, off := 0 })], enc x, undef, undef, undef, undef, undef, undef, undef, undef], defers := [] }) ?assign ?body ?done ?stop
  case assign =>
    intro l x W K hK
    gi_wp2
    exact hK
  case body =>
    rintro l pre x rest H1 W1 hx ⟨H0, rfl, h1, h2, hj, hY, hO⟩ hl hl1 hl2
    have HX := Lib.hid hx
    clear hx hs2 hs hj1
    obtain ⟨z, hz⟩ : ∃ z : Int, dropLeft n pre.length = z := ⟨_, rfl⟩
    rw [hz] at hO
    have hzz := Lib.hid hz
    clear hz
    have hc1 := hO.cell
    have hf1 := hO.frozen
    have hc2 := hY.cell
    have hlt1 := hO.lt
    by_cases hlt : pre.length < n.toNat
    · -- one to drop
      have hz1 : 0 < z := by have := hzz.out; unfold dropLeft at this; omega
      have hwr : wrap64 (z - 1) = z - 1 := by
        have hn := Hn.out
        have hd := hzz.out
        simp only [Lit.wf, IntKind.min, IntKind.max, IntKind.signed, IntKind.bits, Bool.and_eq_true, decide_eq_true_eq, if_true] at hn
        unfold dropLeft at hd
        unfold wrap64; omega
      clear Hr
      gi_wp2
      have hO1 : Boxed (W1.setCell ⟨W.heap.size + 1, 0, none⟩ (.int .i64 (z - 1))) (W.heap.size + 1) 3 (.int .i64 (z - 1)) := hO.set _
      have e1 : dropLeft n (pre ++ [x]).length = z - 1 := by have := hzz.out; unfold dropLeft at this ⊢; simp; omega
      refine ⟨fun k => H0 k ∨ k = W.heap.size + 1, Grows.refl _ _, Only.setCell (.inl (.inr rfl)) _, H0, rfl, h1, h2, ?_, (Only.setCell (H := fun k => k = W.heap.size + 1) (a := ⟨W.heap.size + 1, 0, none⟩) (.inl rfl) _).boxed hY (by simp), by rw [e1]; exact hO1⟩
      have e2 : (pre ++ [x]).drop n.toNat = pre.drop n.toNat := by
        rw [List.drop_eq_nil_of_le (by simp; omega), List.drop_eq_nil_of_le (by omega)]
      rw [e2]
      exact hJ.setCell hj (by simp) h2 _
    · have hz1 : z ≤ 0 := by have := hzz.out; unfold dropLeft at this; omega
      have hx1 : xs.drop n.toNat = pre.drop n.toNat ++ x :: rest := by rw [HX.out, List.drop_append_of_le_length (by omega)]
      have hx2 : (pre ++ [x]).drop n.toNat = pre.drop n.toNat ++ [x] := by rw [List.drop_append_of_le_length (by omega)]
      have hcall := Lib.hid (Hr.out (pre.drop n.toNat) x rest H0 W1 hx1 hj)
      have HX2 := Lib.hid hx2
      clear hx1 hx2 Hr
      gi_wp2_with (refine wpListIn_callV (o := ⟨some 16, _, _, _, _, _⟩) rfl rfl _ _ _ rfl _ _ rfl rfl hcall.out ?_)
      rintro e W3 ⟨H3, hg3, ho3, hend⟩
      have hO3 := ho3.boxed hO h2
      have hY3 := ho3.boxed hY h1
      have h2' : ¬ H3 (W.heap.size + 1) := fun e => (hg3 _ e).elim h2 (fun e' => by have := hO.lt; omega)
      have h1' : ¬ H3 W.heap.size := fun e => (hg3 _ e).elim h1 (fun e' => by have := hO.lt; omega)
      have hgF : Grows (fun k => H0 k ∨ k = W.heap.size + 1) W1 (fun k => H3 k ∨ k = W.heap.size + 1) := by
        rintro k (hk | hk)
        · exact (hg3 k hk).elim (fun e => .inl (.inl e)) .inr
        · exact .inl (.inr hk)
      have HG := Lib.hid hgF
      have HO := Lib.hid (ho3.mono (H' := fun k => H0 k ∨ k = W.heap.size + 1) fun _ _ e => .inl e)
      clear hgF hg3 ho3 hc1 hc2 hf1 hcall
      rcases hend with ⟨rfl, hj3⟩ | ⟨rfl, hj3⟩
      · refine ⟨_, rfl, ?_⟩
        gi_wp2
        refine ⟨_, HG.out, HO.out, H3, rfl, h1', h2', by rw [HX2.out]; exact hj3, hY3, ?_⟩
        have e1 : dropLeft n (pre ++ [x]).length = z := by have := hzz.out; unfold dropLeft at this ⊢; simp; omega
        rw [e1]; exact hO3
      · refine ⟨_, rfl, ?_⟩
        gi_wp2
        exact ⟨_, HG.out, HO.out, rfl, H3, rfl, hO3.lt, h2', by rw [HX2.out]; exact hj3⟩
  case done =>
    rintro D H1 W1 ⟨H0, rfl, h1, h2, hj, hY, hO⟩ hg ho hD hHD hK
    refine ⟨by simp, .inl ⟨_, _, rfl, run_takeDeferred hK, ?_⟩⟩
    exact ⟨_, results_none rfl _ _ _, ⟨_, rfl⟩, H0, hg.own (by omega) e0.size, (e0.own ho (by omega)).behind (by omega) _, .inl (hJ.putObj hj (by omega) (fun e => hHD (.inl e)) _)⟩
  case stop =>
    rintro D c pre H1 W1 hpre ⟨rfl, H0, rfl, h1, h2, hj⟩ hg ho hD hHD hK
    gi_wp2
    refine ⟨by simp, .inl ⟨_, _, rfl, run_takeDeferred hK, ?_⟩⟩
    refine ⟨_, results_none rfl _ _ _, ⟨_, rfl⟩, H0, hg.own (by omega) e0.size, (e0.own ho (by omega)).behind (by omega) _, .inr ⟨pre.drop n.toNat, ?_, hJx.putObj hj (by omega) (fun e => hHD (.inl e)) _⟩⟩
    obtain ⟨t, ht⟩ := hpre
    rw [← ht, List.drop_append]
    exact List.prefix_append _ _
  · rintro (e | e)
    · rcases hb with hb | hb
      · exact hCH b hb e
      · subst hb; have := hHlt _ e; omega
    · rcases hb with hb | hb
      · have := hs.1 b hb; omega
      · omega

/-- Drop's own closure. -/
theorem drop_seq {α : Type} {enc : α → Value} {xs : List α} {s : Value} {C : Nat → Prop} {w : World} (h : SeqV Try.prog s C enc xs w) {n : Int} (hw : (Lit.int .i64 n).wf = true) {bn bs : Nat} (hbn : Boxed w bn 3 (.int .i64 n)) (hbs : Boxed w bs 27 s) :
    SeqV Try.prog (.func (.func 65) #[] #[.pointer (some ⟨bn, 0, none⟩), .pointer (some ⟨bs, 0, none⟩)]) (fun k => C k ∨ k = bn ∨ k = bs) enc (xs.drop n.toNat) w := by
  refine ⟨?_, 65, _, rfl, enters_of Try.func65 (by kernel_rfl) rfl, ?_⟩
  · rintro k (hk | rfl | rfl)
    · exact h.1 k hk
    · exact hbn.lt
    · exact hbs.lt
  rintro y J Jx H W ⟨fn, lb, hy⟩ hC hCH hJ hJx hr h0
  exact d65 fn lb s y bn bs n hw W hy C H J Jx (h.later fun k hk => hC k (.inl hk)) ((hC bn (.inr (.inl rfl))).trans hbn) ((hC bs (.inr (.inr rfl))).trans hbs) (fun k hk => hCH k (.inl hk)) hJ hJx hr h0

set_option maxRecDepth 100000 in
set_option maxHeartbeats 400000 in
theorem drop26 (fn : Fn) (x : Array Value) (lb : Array Value) (s : Value) (hs : s = .func fn x lb) (n : Int) (w : World) :
    Calls Try.prog 26 #[s, .int .i64 n] w fun e w' => e = .returned (.func (.func 87) #[] #[.pointer (some ⟨w.heap.size + 2, 0, none⟩)]) ∧
      ((w.alloc (.cells #[s] 27)).alloc (.cells #[.int .i64 n] 3)).alloc (.cells #[.func (.func 65) #[] #[.pointer (some ⟨w.heap.size + 1, 0, none⟩), .pointer (some ⟨w.heap.size, 0, none⟩)]] 27) = w' := by
  refine (callsIn_wide (n := 0)).1 ?_
  refine callsIn_of_wp Try.func26 rfl trivial ?_ rfl
  simp only [Try.ntmps26, List.size_toArray, List.length_cons, List.length_nil, Nat.reduceAdd, Nat.reduceSub, Array.replicate_succ, Array.replicate_zero, List.push_toArray, List.append_toArray, List.nil_append, List.cons_append]
  subst hs
  gi_wp2_with (gi_at_call 58; refine ((callsIn_wide (n := 0)).2 (sound58 _ _ _ _ (.inl rfl) _)).mono ?_; rintro e w' ⟨rfl, rfl⟩)
  go_ret
  exact ⟨rfl, rfl⟩

/-- gen.Drop(s, n). -/
theorem drop_call {α : Type} {enc : α → Value} {xs : List α} {s : Value} {C : Nat → Prop} {w : World} (h : SeqV Try.prog s C enc xs w) {n : Int} (hw : (Lit.int .i64 n).wf = true) :
    Calls Try.prog 26 #[s, .int .i64 n] w (GivesSeq Try.prog C enc (xs.drop n.toNat) w) := by
  obtain ⟨gs, ls, hs⟩ := h.func
  refine Calls.mono (drop26 _ _ _ s hs n w) ?_
  rintro e w' ⟨rfl, rfl⟩
  obtain ⟨hB, b1, b2, b3⟩ := three_boxes w s (.int .i64 n) (.func (.func 65) #[] #[.pointer (some ⟨w.heap.size + 1, 0, none⟩), .pointer (some ⟨w.heap.size, 0, none⟩)]) 27 3 27
  refine ⟨_, _, rfl, sound_seq (drop_seq (h.below hB) hw b2 b1) b3, hB, ?_⟩
  rintro k ((hk | rfl | rfl) | rfl)
  · exact .inl hk
  all_goals exact .inr (by omega)
end Go.Proofs.Ytdfnainibjgenaa
