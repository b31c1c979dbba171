/- gen.Map from pairs of a string and an int to strings. -/
import Derived.Test.YtikomlcghplchaaOfT
import Derived.Test.YtikomlcghplchaaMapS
namespace Go.Proofs.Ytikomlcghplchaa
open Go.RowKit Go.Shelf
set_option linter.unusedVariables false
set_option linter.unusedSimpArgs false
attribute [local go_sem] Oper.semAt_some wide_fn wide_depth
attribute [local go_sem ↓ high] wpV_seal

set_option maxRecDepth 100000 in
set_option maxHeartbeats 2000000 in
theorem m103 {xs : List (ByteArray × Int)} (g : ByteArray × Int → ByteArray) (fn : Fn) (lb : Array Value) (fm : Fn) (lm : Array Value) (s y f : Value) (bf bs : Nat) (W : World) (hy : y = .func fn #[] lb) (hf : f = .func fm #[] lm)
    (C H : Nat → Prop) (J Jx : List (ByteArray × Int) → (Nat → Prop) → World → Prop) (Jm : List (ByteArray × Int) → ByteArray × Int → (Nat → Prop) → World → Prop) (hs : SeqV Try.prog s C encQ xs W) (hbf : Boxed W bf 98 f) (hbs : Boxed W bs 94 s)
    (hCH : ∀ b, C b → ¬ H b) (hHf : ¬ H bf) (hJ : Inv W.heap.size J) (hJx : Inv W.heap.size Jx)
    (hm : ∀ pre x rest H1 W1, xs = pre ++ x :: rest → J pre H1 W1 → CallV Try.prog f #[encQ x] W1 fun e W' => ∃ H', e = .returned (encS (g x)) ∧ Grows H1 W1 H' ∧ Only H1 W1 W' ∧ Jm pre x H' W')
    (hr : ∀ pre x rest H1 W1, xs = pre ++ x :: rest → Jm pre x H1 W1 → CallV Try.prog y #[encS (g x)] W1 (RoundR J Jx (pre ++ [x]) H1 W1)) (h0 : J [] H W) :
    Calls Try.prog 103 #[y, .pointer (some ⟨bf, 0, none⟩), .pointer (some ⟨bs, 0, none⟩)] W (EndR J Jx xs H W) := by
  obtain ⟨gs, ls, hsf⟩ := hs.func
  refine (callsIn_wide (n := 0)).1 ?_
  refine callsIn_of_wp_marks Try.func103 rfl trivial ?_ rfl
  simp only [Try.ntmps103, List.size_toArray, List.length_cons, List.length_nil, Nat.reduceAdd, Nat.reduceSub, Array.replicate_succ, Array.replicate_zero, List.push_toArray, List.append_toArray, List.nil_append, List.cons_append]
  have hc1 := hbf.cell
  have hl1 := hbf.lt
  have hc2 := hbs.cell
  have hl2 := hbs.lt
  have Hm := Lib.hid hm
  have Hr := Lib.hid hr
  clear hr hm
  subst hy hf hsf
  have q106 := fun w => run_eql_func_nil (P := Try.prog) w 98 Try.underlying98
  gi_wp2_with (gi_at_call 104; refine ((callsIn_wide (n := 0)).2 (sound104 _ _ _ _ (.inl rfl) _)).mono ?_; rintro e w' ⟨rfl, rfl⟩)
  clear q106
  have hHlt := hJ.lt _ _ _ h0
  have hH0 : ¬ H W.heap.size := fun e => by have := hHlt _ e; omega
  obtain ⟨W2, hW2⟩ : ∃ W2, (W.alloc (Obj.cells #[Value.func fn #[] lb] 51)).alloc (Obj.cells #[Value.func (Fn.func gs) #[] ls] 94) = W2 := ⟨_, rfl⟩
  have e0 : Only H W W2 := by rw [← hW2]; exact (Only.alloc H W _).trans (Only.alloc H _ _) (Grows.refl _ _)
  have hsz : W2.heap.size = W.heap.size + 2 := by rw [← hW2]; simp
  have bY : Boxed W2 W.heap.size 51 (.func fn #[] lb) := by rw [← hW2]; exact (Boxed.new W 51 _).alloc _
  have bS : Boxed W2 (W.heap.size + 1) 94 (.func (.func gs) #[] ls) := by rw [← hW2]; have := Boxed.new (W.alloc (.cells #[.func fn #[] lb] 51)) 94 (.func (.func gs) #[] ls); rwa [World.size_alloc] at this
  have bF : Boxed W2 bf 98 (.func fm #[] lm) := by rw [← hW2]; exact (hbf.alloc _).alloc _
  have hj1 : J [] H W2 := by rw [← hW2]; exact hJ.alloc (hJ.alloc h0 _) _
  rw [hW2]
  clear hW2 hc1 hc2
  have hs2 := sound_seqT (hs.only e0 hCH) bS
  refine wpIn_rangeFunc_seqB rfl hs2 H (fun b hb => ?_) rfl (MapI J W.heap.size bf 51 98 (.func fn #[] lb) (.func fm #[] lm)) (MapX Jx)
    (MapI.inv (hJ.mono (by omega)) (by omega) (by omega) _ _ _ _) (fun c => MapX.inv (hJx.mono (by omega)) c) ⟨hj1, hH0, hHf, bY, bF⟩ (fun x : ByteArray × Int => .cells #[.string x.1, .int .i64 x.2] 90)
    (fun x B => { tmps := #[Value.func fn #[] lb, Value.pointer (some { block := bf, off := 0 }), Value.pointer (some { block := bs, off := 0 }), Value.pointer (some { block := W.heap.size, off := 0 }),
      Value.pointer (some { block := B, off := 0 }), Value.func fm #[] lm, Value.bool false, Value.func (Fn.func gs) #[] ls,
      Value.func (Fn.func 128) #[] #[Value.pointer (some { block := W.heap.size + 1, off := 0 })], encQ x, undef, undef, undef, undef, undef, undef], defers := [] }) ?assign ?body ?done ?stop
  case assign =>
    intro l x W K hK
    gi_wp2
    exact hK
  case body =>
    rintro l pre x rest H1 W1 hx ⟨hj, h1, h2, hY, hF⟩ hl hl1 hl2 B hB hHB hBl
    have hcB := cell_two hB 0 (.string x.1) rfl
    have hcC := cell_two hB 1 (.int .i64 x.2) rfl
    rw [addr_add] at hcB hcC
    clear hB
    have hmx : Try.prog.follows .mixedOrders = true := by kernel_rfl
    have hfx := Lib.hid (Hm.out pre x rest H1 W1.drew hx (hJ.drew hj))
    have Hr' : Hid (∀ H1 W1, Jm pre x H1 W1 → CallV Try.prog (.func fn #[] lb) #[encS (g x)] W1 (RoundR J Jx (pre ++ [x]) H1 W1)) := fun H1 W1 => Hr.out pre x rest H1 W1 hx
    clear hx hs2 hs hj1 Hr Hm
    have hc1 := hY.cell
    have hc2 := hF.cell
    have hlt1 := hY.lt
    gi_wp2
    rename_i K0 hK0
    have fin : ∀ (H3 : Nat → Prop) (W3 : World) (b4 : Bool) (H4 : Nat → Prop) (W4 : World), Grows H1 W1.drew H3 → Only H1 W1.drew W3 → Boxed W3 W.heap.size 51 (Value.func fn #[] lb) → Boxed W3 bf 98 (Value.func fm #[] lm) →
        Grows H3 W3 H4 → Only H3 W3 W4 → (if b4 = true then J (pre ++ [x]) H4 W4 else Jx (pre ++ [x]) H4 W4) →
        K0 { tmps := #[Value.func fn #[] lb, Value.pointer (some { block := bf, off := 0 }), Value.pointer (some { block := bs, off := 0 }), Value.pointer (some { block := W.heap.size, off := 0 }),
          Value.pointer (some { block := B, off := 0 }), Value.func fm #[] lm, Value.bool false, Value.func (Fn.func gs) #[] ls,
          Value.func (Fn.func 128) #[] #[Value.pointer (some { block := W.heap.size + 1, off := 0 })], encQ x, Value.func fn #[] lb, Value.func fm #[] lm, encQ x, encS (g x), Value.bool b4, Value.bool (!b4)], defers := [] } W4 := by
      intro H3 W3 b4 H4 W4 hg3 ho3 hY3 hF3 hg4 ho4 hj4
      have hg : Grows H1 W1 H4 := Grows.trans (W := W1) (W' := W3) (fun b hb => hg3 b hb) hg4 ho3.size
      have ho : Only H1 W1 W4 := ((Only.drew H1 W1).trans ho3 (Grows.refl _ _)).trans ho4 hg3
      have h13 : ¬ H3 W.heap.size := fun e => (hg3 _ e).elim h1 (fun e' => by have : W1.heap.size ≤ W.heap.size := e'; omega)
      have h23 : ¬ H3 bf := fun e => (hg3 _ e).elim h2 (fun e' => by have : W1.heap.size ≤ bf := e'; have := hF.lt; omega)
      have h14 : ¬ H4 W.heap.size := fun e => (hg4 _ e).elim h13 (fun e' => by have := hY3.lt; omega)
      have h24 : ¬ H4 bf := fun e => (hg4 _ e).elim h23 (fun e' => by have := hF3.lt; omega)
      have hY4 := ho4.boxed hY3 h13
      have hF4 := ho4.boxed hF3 h23
      refine hK0 _ _ ?_
      clear hK0 hc1 hc2 hfx Hr' hmx
      cases b4
      · gi_wp2
        exact ⟨H4, hg, ho, rfl, by simpa using hj4⟩
      · gi_wp2
        exact ⟨H4, hg, ho, by simpa using hj4, h14, h24, hY4, hF4⟩
    refine wpIn_region_any hmx ?_
    change wpAnyIn _ _ _ _ _ _ _ _ _ (World.drew _)
    refine wpAnyIn_ready (rs := [0, 1, 2]) (by kernel_rfl) (by simp) ?_
    refine AllReadyIn.cons rfl (fun K hK => ?_) ?_
    · go_simp
      refine hK _ _ ?_
      clear hK K
      refine wpAnyIn_ready (rs := [1, 2]) (by kernel_rfl) (by simp) ?_
      refine AllReadyIn.cons rfl (fun K hK => ?_) ?_
      · go_simp
        refine hK _ _ ?_
        clear hK K
        refine wpAnyIn_ready (rs := [2]) (by kernel_rfl) (by simp) ?_
        refine AllReadyIn.cons rfl (fun K hK => ?_) AllReadyIn.nil
        go_simp
        refine hK _ _ ?_
        clear hK K
        refine wpAnyIn_ready (rs := [3]) (by kernel_rfl) (by simp) ?_
        refine AllReadyIn.cons rfl (fun K hK => ?_) AllReadyIn.nil
        refine ite_callV rfl rfl (.tmp 11) _ _ rfl _ _ rfl rfl hfx.out ?_
        rintro e W3 ⟨H3, rfl, hg3, ho3, hj3⟩
        have hY3 := ho3.boxed (w := W1.drew) hY h1
        have hF3 := ho3.boxed (w := W1.drew) hF h2
        have hc3 := hY3.cell
        refine ⟨_, rfl, ?_⟩
        go_simp
        refine hK _ _ ?_
        clear hK K
        refine wpAnyIn_ready (rs := [4]) (by kernel_rfl) (by simp) ?_
        refine AllReadyIn.cons rfl (fun K hK => ?_) AllReadyIn.nil
        refine ite_callV rfl rfl (.tmp 10) _ _ rfl _ _ rfl rfl (Hr'.out _ _ hj3) ?_
        rintro e W4 hR4
        obtain ⟨b4, H4, rfl, hg4, ho4, hj4⟩ := RoundR.bool hR4
        refine ⟨_, rfl, ?_⟩
        go_simp
        refine hK _ _ ?_
        clear hK K
        refine wpAnyIn_ready (rs := [5]) (by kernel_rfl) (by simp) ?_
        refine AllReadyIn.cons rfl (fun K hK => ?_) AllReadyIn.nil
        go_simp
        refine hK _ _ ?_
        clear hK K
        refine wpAnyIn_done (by kernel_rfl) ?_ _
        exact fin H3 W3 b4 H4 W4 hg3 ho3 hY3 hF3 hg4 ho4 hj4
      refine AllReadyIn.cons rfl (fun K hK => ?_) AllReadyIn.nil
      go_simp
      refine hK _ _ ?_
      clear hK K
      refine wpAnyIn_ready (rs := [1]) (by kernel_rfl) (by simp) ?_
      refine AllReadyIn.cons rfl (fun K hK => ?_) AllReadyIn.nil
      go_simp
      refine hK _ _ ?_
      clear hK K
      refine wpAnyIn_ready (rs := [3]) (by kernel_rfl) (by simp) ?_
      refine AllReadyIn.cons rfl (fun K hK => ?_) AllReadyIn.nil
      refine ite_callV rfl rfl (.tmp 11) _ _ rfl _ _ rfl rfl hfx.out ?_
      rintro e W3 ⟨H3, rfl, hg3, ho3, hj3⟩
      have hY3 := ho3.boxed (w := W1.drew) hY h1
      have hF3 := ho3.boxed (w := W1.drew) hF h2
      have hc3 := hY3.cell
      refine ⟨_, rfl, ?_⟩
      go_simp
      refine hK _ _ ?_
      clear hK K
      refine wpAnyIn_ready (rs := [4]) (by kernel_rfl) (by simp) ?_
      refine AllReadyIn.cons rfl (fun K hK => ?_) AllReadyIn.nil
      refine ite_callV rfl rfl (.tmp 10) _ _ rfl _ _ rfl rfl (Hr'.out _ _ hj3) ?_
      rintro e W4 hR4
      obtain ⟨b4, H4, rfl, hg4, ho4, hj4⟩ := RoundR.bool hR4
      refine ⟨_, rfl, ?_⟩
      go_simp
      refine hK _ _ ?_
      clear hK K
      refine wpAnyIn_ready (rs := [5]) (by kernel_rfl) (by simp) ?_
      refine AllReadyIn.cons rfl (fun K hK => ?_) AllReadyIn.nil
      go_simp
      refine hK _ _ ?_
      clear hK K
      refine wpAnyIn_done (by kernel_rfl) ?_ _
      exact fin H3 W3 b4 H4 W4 hg3 ho3 hY3 hF3 hg4 ho4 hj4
    refine AllReadyIn.cons rfl (fun K hK => ?_) ?_
    · go_simp
      refine hK _ _ ?_
      clear hK K
      refine wpAnyIn_ready (rs := [0, 2]) (by kernel_rfl) (by simp) ?_
      refine AllReadyIn.cons rfl (fun K hK => ?_) ?_
      · go_simp
        refine hK _ _ ?_
        clear hK K
        refine wpAnyIn_ready (rs := [2]) (by kernel_rfl) (by simp) ?_
        refine AllReadyIn.cons rfl (fun K hK => ?_) AllReadyIn.nil
        go_simp
        refine hK _ _ ?_
        clear hK K
        refine wpAnyIn_ready (rs := [3]) (by kernel_rfl) (by simp) ?_
        refine AllReadyIn.cons rfl (fun K hK => ?_) AllReadyIn.nil
        refine ite_callV rfl rfl (.tmp 11) _ _ rfl _ _ rfl rfl hfx.out ?_
        rintro e W3 ⟨H3, rfl, hg3, ho3, hj3⟩
        have hY3 := ho3.boxed (w := W1.drew) hY h1
        have hF3 := ho3.boxed (w := W1.drew) hF h2
        have hc3 := hY3.cell
        refine ⟨_, rfl, ?_⟩
        go_simp
        refine hK _ _ ?_
        clear hK K
        refine wpAnyIn_ready (rs := [4]) (by kernel_rfl) (by simp) ?_
        refine AllReadyIn.cons rfl (fun K hK => ?_) AllReadyIn.nil
        refine ite_callV rfl rfl (.tmp 10) _ _ rfl _ _ rfl rfl (Hr'.out _ _ hj3) ?_
        rintro e W4 hR4
        obtain ⟨b4, H4, rfl, hg4, ho4, hj4⟩ := RoundR.bool hR4
        refine ⟨_, rfl, ?_⟩
        go_simp
        refine hK _ _ ?_
        clear hK K
        refine wpAnyIn_ready (rs := [5]) (by kernel_rfl) (by simp) ?_
        refine AllReadyIn.cons rfl (fun K hK => ?_) AllReadyIn.nil
        go_simp
        refine hK _ _ ?_
        clear hK K
        refine wpAnyIn_done (by kernel_rfl) ?_ _
        exact fin H3 W3 b4 H4 W4 hg3 ho3 hY3 hF3 hg4 ho4 hj4
      refine AllReadyIn.cons rfl (fun K hK => ?_) AllReadyIn.nil
      go_simp
      refine hK _ _ ?_
      clear hK K
      refine wpAnyIn_ready (rs := [0, 3]) (by kernel_rfl) (by simp) ?_
      refine AllReadyIn.cons rfl (fun K hK => ?_) ?_
      · go_simp
        refine hK _ _ ?_
        clear hK K
        refine wpAnyIn_ready (rs := [3]) (by kernel_rfl) (by simp) ?_
        refine AllReadyIn.cons rfl (fun K hK => ?_) AllReadyIn.nil
        refine ite_callV rfl rfl (.tmp 11) _ _ rfl _ _ rfl rfl hfx.out ?_
        rintro e W3 ⟨H3, rfl, hg3, ho3, hj3⟩
        have hY3 := ho3.boxed (w := W1.drew) hY h1
        have hF3 := ho3.boxed (w := W1.drew) hF h2
        have hc3 := hY3.cell
        refine ⟨_, rfl, ?_⟩
        go_simp
        refine hK _ _ ?_
        clear hK K
        refine wpAnyIn_ready (rs := [4]) (by kernel_rfl) (by simp) ?_
        refine AllReadyIn.cons rfl (fun K hK => ?_) AllReadyIn.nil
        refine ite_callV rfl rfl (.tmp 10) _ _ rfl _ _ rfl rfl (Hr'.out _ _ hj3) ?_
        rintro e W4 hR4
        obtain ⟨b4, H4, rfl, hg4, ho4, hj4⟩ := RoundR.bool hR4
        refine ⟨_, rfl, ?_⟩
        go_simp
        refine hK _ _ ?_
        clear hK K
        refine wpAnyIn_ready (rs := [5]) (by kernel_rfl) (by simp) ?_
        refine AllReadyIn.cons rfl (fun K hK => ?_) AllReadyIn.nil
        go_simp
        refine hK _ _ ?_
        clear hK K
        refine wpAnyIn_done (by kernel_rfl) ?_ _
        exact fin H3 W3 b4 H4 W4 hg3 ho3 hY3 hF3 hg4 ho4 hj4
      refine AllReadyIn.cons rfl (fun K hK => ?_) AllReadyIn.nil
      refine ite_callV rfl rfl (.tmp 11) _ _ rfl _ _ rfl rfl hfx.out ?_
      rintro e W3 ⟨H3, rfl, hg3, ho3, hj3⟩
      have hY3 := ho3.boxed (w := W1.drew) hY h1
      have hF3 := ho3.boxed (w := W1.drew) hF h2
      have hc3 := hY3.cell
      refine ⟨_, rfl, ?_⟩
      go_simp
      refine hK _ _ ?_
      clear hK K
      refine wpAnyIn_ready (rs := [0]) (by kernel_rfl) (by simp) ?_
      refine AllReadyIn.cons rfl (fun K hK => ?_) AllReadyIn.nil
      go_simp
      refine hK _ _ ?_
      clear hK K
      refine wpAnyIn_ready (rs := [4]) (by kernel_rfl) (by simp) ?_
      refine AllReadyIn.cons rfl (fun K hK => ?_) AllReadyIn.nil
      refine ite_callV rfl rfl (.tmp 10) _ _ rfl _ _ rfl rfl (Hr'.out _ _ hj3) ?_
      rintro e W4 hR4
      obtain ⟨b4, H4, rfl, hg4, ho4, hj4⟩ := RoundR.bool hR4
      refine ⟨_, rfl, ?_⟩
      go_simp
      refine hK _ _ ?_
      clear hK K
      refine wpAnyIn_ready (rs := [5]) (by kernel_rfl) (by simp) ?_
      refine AllReadyIn.cons rfl (fun K hK => ?_) AllReadyIn.nil
      go_simp
      refine hK _ _ ?_
      clear hK K
      refine wpAnyIn_done (by kernel_rfl) ?_ _
      exact fin H3 W3 b4 H4 W4 hg3 ho3 hY3 hF3 hg4 ho4 hj4
    refine AllReadyIn.cons rfl (fun K hK => ?_) AllReadyIn.nil
    go_simp
    refine hK _ _ ?_
    clear hK K
    refine wpAnyIn_ready (rs := [0, 1]) (by kernel_rfl) (by simp) ?_
    refine AllReadyIn.cons rfl (fun K hK => ?_) ?_
    · go_simp
      refine hK _ _ ?_
      clear hK K
      refine wpAnyIn_ready (rs := [1]) (by kernel_rfl) (by simp) ?_
      refine AllReadyIn.cons rfl (fun K hK => ?_) AllReadyIn.nil
      go_simp
      refine hK _ _ ?_
      clear hK K
      refine wpAnyIn_ready (rs := [3]) (by kernel_rfl) (by simp) ?_
      refine AllReadyIn.cons rfl (fun K hK => ?_) AllReadyIn.nil
      refine ite_callV rfl rfl (.tmp 11) _ _ rfl _ _ rfl rfl hfx.out ?_
      rintro e W3 ⟨H3, rfl, hg3, ho3, hj3⟩
      have hY3 := ho3.boxed (w := W1.drew) hY h1
      have hF3 := ho3.boxed (w := W1.drew) hF h2
      have hc3 := hY3.cell
      refine ⟨_, rfl, ?_⟩
      go_simp
      refine hK _ _ ?_
      clear hK K
      refine wpAnyIn_ready (rs := [4]) (by kernel_rfl) (by simp) ?_
      refine AllReadyIn.cons rfl (fun K hK => ?_) AllReadyIn.nil
      refine ite_callV rfl rfl (.tmp 10) _ _ rfl _ _ rfl rfl (Hr'.out _ _ hj3) ?_
      rintro e W4 hR4
      obtain ⟨b4, H4, rfl, hg4, ho4, hj4⟩ := RoundR.bool hR4
      refine ⟨_, rfl, ?_⟩
      go_simp
      refine hK _ _ ?_
      clear hK K
      refine wpAnyIn_ready (rs := [5]) (by kernel_rfl) (by simp) ?_
      refine AllReadyIn.cons rfl (fun K hK => ?_) AllReadyIn.nil
      go_simp
      refine hK _ _ ?_
      clear hK K
      refine wpAnyIn_done (by kernel_rfl) ?_ _
      exact fin H3 W3 b4 H4 W4 hg3 ho3 hY3 hF3 hg4 ho4 hj4
    refine AllReadyIn.cons rfl (fun K hK => ?_) AllReadyIn.nil
    go_simp
    refine hK _ _ ?_
    clear hK K
    refine wpAnyIn_ready (rs := [0, 3]) (by kernel_rfl) (by simp) ?_
    refine AllReadyIn.cons rfl (fun K hK => ?_) ?_
    · go_simp
      refine hK _ _ ?_
      clear hK K
      refine wpAnyIn_ready (rs := [3]) (by kernel_rfl) (by simp) ?_
      refine AllReadyIn.cons rfl (fun K hK => ?_) AllReadyIn.nil
      refine ite_callV rfl rfl (.tmp 11) _ _ rfl _ _ rfl rfl hfx.out ?_
      rintro e W3 ⟨H3, rfl, hg3, ho3, hj3⟩
      have hY3 := ho3.boxed (w := W1.drew) hY h1
      have hF3 := ho3.boxed (w := W1.drew) hF h2
      have hc3 := hY3.cell
      refine ⟨_, rfl, ?_⟩
      go_simp
      refine hK _ _ ?_
      clear hK K
      refine wpAnyIn_ready (rs := [4]) (by kernel_rfl) (by simp) ?_
      refine AllReadyIn.cons rfl (fun K hK => ?_) AllReadyIn.nil
      refine ite_callV rfl rfl (.tmp 10) _ _ rfl _ _ rfl rfl (Hr'.out _ _ hj3) ?_
      rintro e W4 hR4
      obtain ⟨b4, H4, rfl, hg4, ho4, hj4⟩ := RoundR.bool hR4
      refine ⟨_, rfl, ?_⟩
      go_simp
      refine hK _ _ ?_
      clear hK K
      refine wpAnyIn_ready (rs := [5]) (by kernel_rfl) (by simp) ?_
      refine AllReadyIn.cons rfl (fun K hK => ?_) AllReadyIn.nil
      go_simp
      refine hK _ _ ?_
      clear hK K
      refine wpAnyIn_done (by kernel_rfl) ?_ _
      exact fin H3 W3 b4 H4 W4 hg3 ho3 hY3 hF3 hg4 ho4 hj4
    refine AllReadyIn.cons rfl (fun K hK => ?_) AllReadyIn.nil
    refine ite_callV rfl rfl (.tmp 11) _ _ rfl _ _ rfl rfl hfx.out ?_
    rintro e W3 ⟨H3, rfl, hg3, ho3, hj3⟩
    have hY3 := ho3.boxed (w := W1.drew) hY h1
    have hF3 := ho3.boxed (w := W1.drew) hF h2
    have hc3 := hY3.cell
    refine ⟨_, rfl, ?_⟩
    go_simp
    refine hK _ _ ?_
    clear hK K
    refine wpAnyIn_ready (rs := [0]) (by kernel_rfl) (by simp) ?_
    refine AllReadyIn.cons rfl (fun K hK => ?_) AllReadyIn.nil
    go_simp
    refine hK _ _ ?_
    clear hK K
    refine wpAnyIn_ready (rs := [4]) (by kernel_rfl) (by simp) ?_
    refine AllReadyIn.cons rfl (fun K hK => ?_) AllReadyIn.nil
    refine ite_callV rfl rfl (.tmp 10) _ _ rfl _ _ rfl rfl (Hr'.out _ _ hj3) ?_
    rintro e W4 hR4
    obtain ⟨b4, H4, rfl, hg4, ho4, hj4⟩ := RoundR.bool hR4
    refine ⟨_, rfl, ?_⟩
    go_simp
    refine hK _ _ ?_
    clear hK K
    refine wpAnyIn_ready (rs := [5]) (by kernel_rfl) (by simp) ?_
    refine AllReadyIn.cons rfl (fun K hK => ?_) AllReadyIn.nil
    go_simp
    refine hK _ _ ?_
    clear hK K
    refine wpAnyIn_done (by kernel_rfl) ?_ _
    exact fin H3 W3 b4 H4 W4 hg3 ho3 hY3 hF3 hg4 ho4 hj4
  case done =>
    rintro D H1 W1 ⟨hj, _⟩ hg ho hD hHD hK
    refine ⟨by simp, .inl ⟨_, _, rfl, run_takeDeferred hK, ?_⟩⟩
    exact ⟨_, results_none rfl _ _ _, ⟨_, rfl⟩, H1, fun b hb => (hg b hb).imp id (fun e => by omega), (e0.trans ho (Grows.refl _ _)).behind (by omega) _, .inl (hJ.putObj hj (by omega) hHD _)⟩
  case stop =>
    rintro D c pre H1 W1 hpre ⟨rfl, hj⟩ hg ho hD hHD hK
    gi_wp2
    refine ⟨by simp, .inl ⟨_, _, rfl, run_takeDeferred hK, ?_⟩⟩
    exact ⟨_, results_none rfl _ _ _, ⟨_, rfl⟩, H1, fun b hb => (hg b hb).imp id (fun e => by omega), (e0.trans ho (Grows.refl _ _)).behind (by omega) _, .inr ⟨pre, hpre, hJx.putObj hj (by omega) hHD _⟩⟩
  · rcases hb with hb | hb
    · exact hCH b hb
    · intro e; have := hHlt _ e; omega



/-- Map's own closure, the function only reading: the sequence of f of each. -/
theorem map_seqT {xs : List (ByteArray × Int)} {s f : Value} {C Cf : Nat → Prop} {w : World} (g : ByteArray × Int → ByteArray) (h : SeqV Try.prog s C encQ xs w) (hf : PureF Try.prog f Cf encQ encS g w) {bf bs : Nat} (hbf : Boxed w bf 98 f) (hbs : Boxed w bs 94 s) :
    SeqV Try.prog (.func (.func 103) #[] #[.pointer (some ⟨bf, 0, none⟩), .pointer (some ⟨bs, 0, none⟩)]) (fun k => (C k ∨ Cf k) ∨ k = bf ∨ k = bs) encS (xs.map g) w := by
  refine ⟨?_, 103, _, rfl, enters_of Try.func103 (by kernel_rfl) rfl, ?_⟩
  · rintro k ((hk | hk) | rfl | rfl)
    · exact h.1 k hk
    · exact hf.1 k hk
    · exact hbf.lt
    · exact hbs.lt
  rintro y J Jx H W ⟨fn, lb, hy⟩ hC hCH hJ hJx hr h0
  obtain ⟨fm, lm, hfe⟩ := hf.2.1
  have hfW := hf.later (fun b hb => hC b (.inl (.inr hb)))
  have hCf := fun b hb => hfW.1 b hb
  have hI : Inv W.heap.size (WithC Cf W (fun q : List (ByteArray × Int) => J (q.map g))) := WithC.inv (hJ.comap (fun q : List (ByteArray × Int) => q.map g)) hCf hCf
  refine Calls.mono (m103 (xs := xs) g fn lb fm lm s y f bf bs W hy hfe C H (WithC Cf W (fun q => J (q.map g))) (fun q => Jx (q.map g)) (fun pre _ => WithC Cf W (fun q => J (q.map g)) pre)
    (h.later fun b hb => hC b (.inl (.inl hb))) ((hC bf (.inr (.inl rfl))).trans hbf) ((hC bs (.inr (.inr rfl))).trans hbs) (fun b hb => hCH b (.inl (.inl hb))) (hCH bf (.inr (.inl rfl)))
    hI (hJx.comap _) ?_ ?_ ?_) ?_
  · intro pre x rest H1 W1 hx hj
    refine (hfW.2.2 x W1 fun b hb => (hj.2 b hb).1).mono ?_
    rintro e W' ⟨rfl, hB⟩
    exact ⟨H1, rfl, Grows.refl _ _, Only.of_below hB, hI.stable _ _ _ _ hj (Only.of_below hB)⟩
  · intro pre x rest H1 W1 hx hj
    refine (hr (pre.map g) (g x) (rest.map g) H1 W1 (by rw [hx]; simp) hj.1).mono ?_
    intro e W' hR
    exact WithC.round (L' := fun q => J (q.map g)) hCf hj hR (fun _ _ hj => by simpa using hj) (fun _ _ hj => by simpa using hj)
  · exact ⟨h0, fun b hb => ⟨rfl, hCH b (.inl (.inr hb))⟩⟩
  · rintro e W' ⟨hv, H', hg, ho, hend⟩
    refine ⟨hv, H', hg, ho, ?_⟩
    rcases hend with hj | ⟨pre, hpre, hj⟩
    · exact .inl hj.1
    · exact .inr ⟨pre.map g, List.IsPrefix.map _ hpre, hj⟩

set_option maxRecDepth 100000 in
set_option maxHeartbeats 400000 in
theorem map78 (fn : Fn) (x : Array Value) (lb : Array Value) (s f : Value) (hs : s = .func fn x lb) (fm : Fn) (lx lm : Array Value) (hf : f = .func fm lx lm) (w : World) :
    Calls Try.prog 78 #[s, f] w fun e w' => e = .returned (.func (.func 118) #[] #[.pointer (some ⟨w.heap.size + 2, 0, none⟩)]) ∧
      ((w.alloc (.cells #[s] 94)).alloc (.cells #[f] 98)).alloc (.cells #[.func (.func 103) #[] #[.pointer (some ⟨w.heap.size + 1, 0, none⟩), .pointer (some ⟨w.heap.size, 0, none⟩)]] 55) = w' := by
  refine (callsIn_wide (n := 0)).1 ?_
  refine callsIn_of_wp Try.func78 rfl trivial ?_ rfl
  simp only [Try.ntmps78, List.size_toArray, List.length_cons, List.length_nil, Nat.reduceAdd, Nat.reduceSub, Array.replicate_succ, Array.replicate_zero, List.push_toArray, List.append_toArray, List.nil_append, List.cons_append]
  subst hs hf
  gi_wp2_with (gi_at_call 95; refine ((callsIn_wide (n := 0)).2 (sound95 _ _ _ _ (.inl rfl) _)).mono ?_; rintro e w' ⟨rfl, rfl⟩)
  go_ret
  exact ⟨rfl, rfl⟩

/-- gen.Map(s, f). -/
theorem map_callT {xs : List (ByteArray × Int)} {s f : Value} {C Cf : Nat → Prop} {w : World} (g : ByteArray × Int → ByteArray) (h : SeqV Try.prog s C encQ xs w) (hf : PureF Try.prog f Cf encQ encS g w) :
    Calls Try.prog 78 #[s, f] w (GivesSeq Try.prog (fun b => C b ∨ Cf b) encS (xs.map g) w) := by
  obtain ⟨gs, ls, hs⟩ := h.func
  obtain ⟨fm, lm, hfe⟩ := hf.2.1
  refine Calls.mono (map78 _ _ _ s f hs _ _ _ hfe w) ?_
  rintro e w' ⟨rfl, rfl⟩
  obtain ⟨v, hv⟩ : ∃ v, v = Value.func (.func 103) #[] #[.pointer (some ⟨w.heap.size + 1, 0, none⟩), .pointer (some ⟨w.heap.size, 0, none⟩)] := ⟨_, rfl⟩
  rw [← hv]
  have hB : Below w.heap.size w (((w.alloc (.cells #[s] 94)).alloc (.cells #[f] 98)).alloc (.cells #[v] 55)) :=
    (((Below.refl _ w).alloc (Nat.le_refl _) _).alloc (by simp) _).alloc (by simp; omega) _
  have b1 : Boxed (((w.alloc (.cells #[s] 94)).alloc (.cells #[f] 98)).alloc (.cells #[v] 55)) w.heap.size 94 s := ((Boxed.new w 94 s).alloc _).alloc _
  have b2 : Boxed (((w.alloc (.cells #[s] 94)).alloc (.cells #[f] 98)).alloc (.cells #[v] 55)) (w.heap.size + 1) 98 f := by
    have := (Boxed.new (w.alloc (.cells #[s] 94)) 98 f).alloc (.cells #[v] 55); rwa [World.size_alloc] at this
  have b3 : Boxed (((w.alloc (.cells #[s] 94)).alloc (.cells #[f] 98)).alloc (.cells #[v] 55)) (w.heap.size + 2) 55 v := by
    have := Boxed.new ((w.alloc (.cells #[s] 94)).alloc (.cells #[f] 98)) 55 v; rwa [World.size_alloc, World.size_alloc] at this
  have hq := map_seqT g (h.below hB) (hf.below hB) b2 b1
  rw [← hv] at hq
  refine ⟨_, _, rfl, sound_seqX hq b3, hB, ?_⟩
  rintro k (((hk | hk) | rfl | rfl) | rfl)
  · exact .inl (.inl hk)
  · exact .inl (.inr hk)
  all_goals exact .inr (by omega)
end Go.Proofs.Ytikomlcghplchaa
