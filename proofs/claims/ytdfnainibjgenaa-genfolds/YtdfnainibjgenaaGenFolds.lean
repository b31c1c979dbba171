/- gen.Fold and gen.First at ints; GenFolds answers true: its walk. -/
import Derived.Test.YtdfnainibjgenaaDrop
namespace Go.Proofs.Ytdfnainibjgenaa
open Go.RowKit Go.Shelf
set_option linter.unusedVariables false
set_option linter.unusedSimpArgs false
attribute [local go_sem] Oper.semAt_some wide_fn wide_depth

def g3 (x n : Int) : Int := wrap64 (wrap64 (x * 3) + n)

set_option maxRecDepth 100000 in
set_option maxHeartbeats 400000 in
theorem f32 (x n : Int) (w : World) : Calls Try.prog 32 #[.int .i64 x, .int .i64 n] w fun e w' => e = .returned (.int .i64 (g3 x n)) ∧ w = w' := by
  refine (callsIn_wide (n := 0)).1 ?_
  refine callsIn_of_wp Try.func32 rfl trivial ?_ rfl
  simp only [Try.ntmps32, List.size_toArray, List.length_cons, List.length_nil, Nat.reduceAdd, Nat.reduceSub, Array.replicate_succ, Array.replicate_zero, List.push_toArray, List.append_toArray, List.nil_append, List.cons_append]
  gi_wp2
  go_ret
  exact ⟨rfl, rfl⟩

/-- What Fold keeps. -/
def FoldI (B a : Nat → Nat) (bf ba : Nat) (f : Value) (z : Int) (q : List Int) (H : Nat → Prop) (W : World) : Prop :=
  H = (fun k => k = ba) ∧ Boxed W ba 3 (.int .i64 (q.foldl g3 z)) ∧ Boxed W bf 42 f
theorem FoldI.inv (X bf ba : Nat) (f : Value) (z : Int) (hb : bf < X) : Inv X (FoldI id id bf ba f z) := by
  constructor
  · rintro s H W W' ⟨rfl, h1, h2⟩ ho
    exact ⟨rfl, ho.boxH h1 rfl, ho.box h2 hb⟩
  · rintro s H W ⟨rfl, h1, h2⟩ b rfl
    exact h1.lt

set_option maxRecDepth 100000 in
set_option maxHeartbeats 1000000 in
theorem fold31 (xs : List Int) (z : Int) (s : Value) (C : Nat → Prop) (w : World) (hs : SeqV Try.prog s C encI xs w) :
    Calls Try.prog 31 #[s, .int .i64 z, .func (.func 32) #[] #[]] w fun e w' => e = .returned (.int .i64 (xs.foldl g3 z)) ∧ Below w.heap.size w w' := by
  obtain ⟨gs, ls, hsf⟩ := hs.func
  refine (callsIn_wide (n := 0)).1 ?_
  refine callsIn_of_wp_marks Try.func31 rfl trivial ?_ rfl
  simp only [Try.ntmps31, List.size_toArray, List.length_cons, List.length_nil, Nat.reduceAdd, Nat.reduceSub, Array.replicate_succ, Array.replicate_zero, List.push_toArray, List.append_toArray, List.nil_append, List.cons_append]
  subst hsf
  have q42 := fun w => run_eql_func_nil (P := Try.prog) w 42 Try.underlying42
  gi_wp2_with (gi_at_call 58; refine ((callsIn_wide (n := 0)).2 (sound58 _ _ _ _ (.inl rfl) _)).mono ?_; rintro e w' ⟨rfl, rfl⟩)
  clear q42
  obtain ⟨W2, hW2⟩ : ∃ W2, ((w.alloc (Obj.cells #[Value.int IntKind.i64 z] 3)).alloc (Obj.cells #[Value.func (Fn.func 32) #[] #[]] 42)).alloc (Obj.cells #[Value.func (Fn.func gs) #[] ls] 27) = W2 := ⟨_, rfl⟩
  obtain ⟨hB2, bA, bF, bS⟩ := three_boxes w (.int .i64 z) (.func (.func 32) #[] #[]) (.func (.func gs) #[] ls) 3 42 27
  rw [hW2] at hB2 bA bF bS ⊢
  clear hW2
  have hClt := hs.1
  have hs2 := sound_seq (hs.below hB2) bS
  have hbs := bS.lt
  refine wpIn_rangeFunc_seq rfl hs2 (fun k => k = w.heap.size) (fun b hb => ?_) rfl (FoldI id id (w.heap.size + 1) w.heap.size (.func (.func 32) #[] #[]) z) (fun _ _ _ _ => False)
    (FoldI.inv _ _ _ _ _ (by omega)) (fun _ => Inv.never _) ⟨rfl, bA, bF⟩
    (fun x => { tmps := #[Value.func (Fn.func gs) #[] ls, Value.int IntKind.i64 z, Value.func (Fn.func 32) #[] #[], undef, Value.pointer (some { block := w.heap.size, off := 0 }), Value.pointer (some { block := w.heap.size + 1, off := 0 }), Value.int IntKind.i64 0,
      encI x, Value.func (Fn.func 32) #[] #[], Value.bool false, undef, Value.func (Fn.func gs) #[] ls, Value.func (Fn.func 87) #[] #[Value.pointer (some { block := w.heap.size + 2, off := 0 })], encI x, undef, undef, undef, undef, undef], defers := [] }) ?assign ?body ?done ?stop
  case assign =>
    intro l x W K hK
    gi_wp2
    exact hK
  case body =>
    rintro l pre x rest H1 W1 hx ⟨rfl, bA1, bF1⟩ hl hl1 hl2
    have hc1 := bA1.cell
    have hf1 := bA1.frozen
    have hc2 := bF1.cell
    have hlt := bA1.lt
    clear hx hs2 hs
    gi_wp2_with (gi_at_call 32; refine (CallsIn.inRound l ((callsIn_wide (n := 0)).2 (f32 _ _ _))).mono ?_; rintro e w' ⟨rfl, rfl⟩)
    refine ⟨_, Grows.refl _ _, Only.setCell (H := fun k => k = w.heap.size) (a := ⟨w.heap.size, 0, none⟩) (.inl rfl) _, rfl, ?_, (Only.setCell (H := fun k => k = w.heap.size) (a := ⟨w.heap.size, 0, none⟩) (.inl rfl) _).boxed bF1 (by simp)⟩
    rw [List.foldl_append]
    exact bA1.set _
  case done =>
    rintro D H1 W1 ⟨rfl, bA1, bF1⟩ hg ho hD hHD hK
    have hc1 := bA1.cell
    have hon : Only (fun k => k = w.heap.size) w W1 := (Only.of_below hB2).trans ho (Grows.refl _ _)
    have Hon := Lib.hid hon
    clear hon hg ho
    gi_wp2
    refine ⟨by simp, .inl ⟨_, _, rfl, run_takeDeferred hK, ?_⟩⟩
    exact ⟨_, results_tmp rfl _ _ _, rfl, (Hon.out.behind (by have := hB2.size; omega) _).below (fun b hb => by omega)⟩
  case stop =>
    rintro D c pre H1 W1 _ h
    exact h.elim
  · rcases hb with hb | hb
    · have := hClt b hb; omega
    · omega

/-- What First keeps: nothing has come yet. -/
def FirstI (B : Nat) (q : List Int) (H : Nat → Prop) (W : World) : Prop := q = [] ∧ H = (fun k => k = B ∨ k = B + 1) ∧ Boxed W B 3 (.int .i64 0) ∧ Boxed W (B + 1) 4 (.bool false)
def FirstX (B : Nat) (c : Code) (q : List Int) (H : Nat → Prop) (W : World) : Prop := c = .ret ∧ ∃ x, q = [x] ∧ H = (fun k => k = B ∨ k = B + 1) ∧ Boxed W B 3 (.int .i64 x) ∧ Boxed W (B + 1) 4 (.bool true)
theorem FirstI.inv (X B : Nat) : Inv X (FirstI B) := by
  constructor
  · rintro s H W W' ⟨hq, rfl, h1, h2⟩ ho
    exact ⟨hq, rfl, ho.boxH h1 (.inl rfl), ho.boxH h2 (.inr rfl)⟩
  · rintro s H W ⟨hq, rfl, h1, h2⟩ b (rfl | rfl)
    · exact h1.lt
    · exact h2.lt
theorem FirstX.inv (X B : Nat) (c : Code) : Inv X (FirstX B c) := by
  constructor
  · rintro s H W W' ⟨hc, x, hq, rfl, h1, h2⟩ ho
    exact ⟨hc, x, hq, rfl, ho.boxH h1 (.inl rfl), ho.boxH h2 (.inr rfl)⟩
  · rintro s H W ⟨hc, x, hq, rfl, h1, h2⟩ b (rfl | rfl)
    · exact h1.lt
    · exact h2.lt

/-- The first of them; is there one? -/
def firstOf (ys : List Int) : Int := ys.headD 0
def anyOf (ys : List Int) : Bool := !ys.isEmpty

set_option maxRecDepth 100000 in
set_option maxHeartbeats 1000000 in
/-- gen.First(s, odd). -/
theorem first33 (xs : List Int) (s : Value) (C : Nat → Prop) (w : World) (hs : SeqV Try.prog s C encI xs w) :
    Calls Try.prog 33 #[s, .func (.func 20) #[] #[]] w fun e w' => e = .returned (.tuple #[.int .i64 (firstOf (xs.filter oddB)), .bool (anyOf (xs.filter oddB))]) ∧ Below w.heap.size w w' := by
  obtain ⟨gs, ls, hsf⟩ := hs.func
  refine (callsIn_wide (n := 0)).1 ?_
  refine callsIn_of_wp_marks Try.func33 rfl trivial ?_ rfl
  simp only [Try.ntmps33, List.size_toArray, List.length_cons, List.length_nil, Nat.reduceAdd, Nat.reduceSub, Array.replicate_succ, Array.replicate_zero, List.push_toArray, List.append_toArray, List.nil_append, List.cons_append]
  subst hsf
  gi_wp2_with fail
  obtain ⟨W2, hW2⟩ : ∃ W2, (w.alloc (Obj.cells #[Value.int IntKind.i64 0] 3)).alloc (Obj.cells #[Value.bool false] 4) = W2 := ⟨_, rfl⟩
  have hB2 : Below w.heap.size w W2 := by rw [← hW2]; exact ((Below.refl _ w).alloc (Nat.le_refl _) _).alloc (by simp) _
  have bA : Boxed W2 w.heap.size 3 (.int .i64 0) := by rw [← hW2]; exact (Boxed.new w 3 _).alloc _
  have bB : Boxed W2 (w.heap.size + 1) 4 (.bool false) := by rw [← hW2]; have := Boxed.new (w.alloc (.cells #[.int .i64 0] 3)) 4 (.bool false); rwa [World.size_alloc] at this
  rw [hW2]
  clear hW2
  have hs2 := hs.below hB2
  have hClt := hs.1
  refine ((callsIn_wide (n := 0)).2 (keep_call oddB hs2 (odd_pure W2))).mono ?_
  rintro e W3 ⟨t, C3, rfl, ht, hB3, hC3⟩
  have bA3 : Boxed W3 w.heap.size 3 (.int .i64 0) := (hB3.block _ bA.lt).trans bA
  have bB3 : Boxed W3 (w.heap.size + 1) 4 (.bool false) := (hB3.block _ bB.lt).trans bB
  have hlA := bA.lt
  have hlB := bB.lt
  have hBw := hB2.trans (hB3.mono hB2.size)
  have HBw := Lib.hid hBw
  clear hBw
  gi_wp2_with fail
  refine wpIn_rangeFunc_seq rfl ht (fun k => k = w.heap.size ∨ k = w.heap.size + 1) (fun b hb => ?_) rfl (FirstI w.heap.size) (FirstX w.heap.size)
    (FirstI.inv _ _) (fun c => FirstX.inv _ _ c) ⟨rfl, rfl, bA3, bB3⟩
    (fun x => { tmps := #[Value.func (Fn.func gs) #[] ls, Value.func (Fn.func 20) #[] #[], undef, undef, Value.pointer (some { block := w.heap.size, off := 0 }), Value.pointer (some { block := w.heap.size + 1, off := 0 }), encI x, undef,
      Value.func (Fn.func gs) #[] ls, Value.func (Fn.func 20) #[] #[], t, encI x, undef, undef], defers := [] }) ?assign ?body ?done ?stop
  case assign =>
    intro l x W K hK
    gi_wp2
    exact hK
  case body =>
    rintro l pre x rest H1 W1 hx ⟨rfl, rfl, bA1, bB1⟩ hl hl1 hl2
    have hc1 := bA1.cell
    have hf1 := bA1.frozen
    have hc2 := bB1.cell
    have hf2 := bB1.frozen
    clear hx hs2 hs ht
    gi_wp2
    have bA2 := bA1.set (encI x)
    have bB2 : Boxed (W1.setCell ⟨w.heap.size, 0, none⟩ (encI x)) (w.heap.size + 1) 4 (.bool false) := (Only.setCell (H := fun k => k = w.heap.size) (a := ⟨w.heap.size, 0, none⟩) (.inl rfl) _).boxed bB1 (by simp)
    refine ⟨_, Grows.refl _ _, (Only.setCell (H := fun k => k = w.heap.size ∨ k = w.heap.size + 1) (a := ⟨w.heap.size, 0, none⟩) (.inl (.inl rfl)) _).trans (Only.setCell (H := fun k => k = w.heap.size ∨ k = w.heap.size + 1) (a := ⟨w.heap.size + 1, 0, none⟩) (.inl (.inr rfl)) _) (Grows.refl _ _), rfl, x, rfl, rfl,
      (Only.setCell (H := fun k => k = w.heap.size + 1) (a := ⟨w.heap.size + 1, 0, none⟩) (.inl rfl) _).boxed bA2 (by simp), bB2.set _⟩
  case done =>
    rintro D H1 W1 ⟨hq, rfl, bA1, bB1⟩ hg ho hD hHD hK
    have hc1 := bA1.cell
    have hf1 := bA1.frozen
    have hc2 := bB1.cell
    have hf2 := bB1.frozen
    have hon : Only (fun k => k = w.heap.size ∨ k = w.heap.size + 1) w W1 := (Only.of_below HBw.out).trans ho (Grows.refl _ _)
    have Hon := Lib.hid hon
    have Hq := Lib.hid hq
    clear hon hg ho hq hs2 hs ht hC3
    gi_wp2
    have k1 := (KeepsOthers.setCell W1 ⟨w.heap.size, 0, none⟩ (.int .i64 0)).same D _ hK rfl
    have k2 := (KeepsOthers.setCell (W1.setCell ⟨w.heap.size, 0, none⟩ (.int .i64 0)) ⟨w.heap.size + 1, 0, none⟩ (.bool false)).same D _ k1 rfl
    refine ⟨by simp, .inl ⟨_, _, rfl, run_takeDeferred k2, ?_⟩⟩
    have bA2 := bA1.set (.int .i64 0)
    have bB2 : Boxed (W1.setCell ⟨w.heap.size, 0, none⟩ (.int .i64 0)) (w.heap.size + 1) 4 (.bool false) := (Only.setCell (H := fun k => k = w.heap.size) (a := ⟨w.heap.size, 0, none⟩) (.inl rfl) _).boxed bB1 (by simp)
    have bA4 := (Only.setCell (H := fun k => k = w.heap.size + 1) (a := ⟨w.heap.size + 1, 0, none⟩) (.inl rfl) (.bool false)).boxed bA2 (by simp)
    have bB4 := bB2.set (.bool false)
    have hDn : D ≠ w.heap.size ∧ D ≠ w.heap.size + 1 := ⟨fun e => hHD (.inl e), fun e => hHD (.inr e)⟩
    have bA5 := (Only.putObj (H := fun k => k = D) (.inl rfl) (.deferred none)).boxed bA4 (by omega)
    have bB5 := (Only.putObj (H := fun k => k = D) (.inl rfl) (.deferred none)).boxed bB4 (by omega)
    have hr1 := bA5.cell
    have hr2 := bB5.cell
    refine ⟨.tuple #[.int .i64 0, .bool false], by simp [results, Try.f33, go_sem, hr1, hr2], by rw [Hq.out]; rfl, ?_⟩
    exact (((Hon.out.set_behind (a := ⟨w.heap.size, 0, none⟩) (by simp) _).set_behind (a := ⟨w.heap.size + 1, 0, none⟩) (by simp) _).behind (by have := HBw.out.size; omega) _).below (fun b hb => by omega)
  case stop =>
    rintro D c pre H1 W1 hpre ⟨rfl, x, rfl, rfl, bA1, bB1⟩ hg ho hD hHD hK
    have hon : Only (fun k => k = w.heap.size ∨ k = w.heap.size + 1) w W1 := (Only.of_below HBw.out).trans ho (Grows.refl _ _)
    gi_wp2
    refine ⟨by simp, .inl ⟨_, _, rfl, run_takeDeferred hK, ?_⟩⟩
    have hDn : D ≠ w.heap.size ∧ D ≠ w.heap.size + 1 := ⟨fun e => hHD (.inl e), fun e => hHD (.inr e)⟩
    have bA5 := (Only.putObj (H := fun k => k = D) (.inl rfl) (.deferred none)).boxed bA1 (by omega)
    have bB5 := (Only.putObj (H := fun k => k = D) (.inl rfl) (.deferred none)).boxed bB1 (by omega)
    have hr1 := bA5.cell
    have hr2 := bB5.cell
    obtain ⟨r, hr⟩ := hpre
    refine ⟨.tuple #[.int .i64 x, .bool true], by simp [results, Try.f33, go_sem, hr1, hr2], by rw [← hr]; rfl, ?_⟩
    exact (hon.behind (by have := HBw.out.size; omega) _).below (fun b hb => by omega)
  · rcases hC3 b hb with (h | h) | h
    · have := hClt b h; omega
    · exact h.elim
    · have := hB2.size; omega

theorem firstOf_snoc (ys : List Int) (x : Int) : firstOf (ys ++ [x]) = (if anyOf ys then firstOf ys else x) ∧ anyOf (ys ++ [x]) = true := by
  cases ys <;> simp [firstOf, anyOf]

set_option maxRecDepth 100000 in
set_option maxHeartbeats 4000000 in
theorem genFolds_walk (l : List Int) (hm : l.length ≤ maxLen) (v : Value) (z : Int) (w : World) (hv : Reads encI w v l) :
    Calls Try.prog 7 #[v, .int .i64 z] w fun e w' => e = .returned (.bool true) ∧ Below w.heap.size w w' := by
  refine (callsIn_wide (n := 0)).1 ?_
  refine callsIn_of_wp Try.func7 rfl trivial ?_ rfl
  simp only [Try.ntmps7, List.size_toArray, List.length_cons, List.length_nil, Nat.reduceAdd, Nat.reduceSub, Array.replicate_succ, Array.replicate_zero, List.push_toArray, List.append_toArray, List.nil_append, List.cons_append]
  obtain ⟨a0, c0, e0⟩ := hv.form
  have Hv := Lib.hid hv
  clear hv
  subst e0
  gi_wp2_with fail
  refine ((callsIn_wide (n := 0)).2 (short14 l hm _ w Hv.out)).mono ?_
  rintro e w' ⟨⟨v1, rfl, hv1⟩, rfl⟩
  obtain ⟨xs, hxs⟩ : ∃ xs, l.take 60 = xs := ⟨_, rfl⟩
  rw [hxs] at hv1
  have hlen : xs.length ≤ 60 := by rw [← hxs]; simp; omega
  clear hxs
  obtain ⟨a1, c1, e1⟩ := hv1.form
  have Hv1 := Lib.hid hv1
  clear hv1 hm Hv
  subst e1
  gi_wp2
  gi_loop [5, 6, 7, 18] (fun s f b i => ∃ (k : Nat), k ≤ xs.length ∧ i = .int .i64 k ∧ s = .int .i64 ((xs.take k).foldl g3 z) ∧ f = .int .i64 (firstOf ((xs.take k).filter oddB)) ∧ b = .bool (anyOf ((xs.take k).filter oddB))) (fun _ _ _ i => xs.length - (intOf i).toNat)
  case atStart => exact ⟨0, Nat.zero_le _, rfl, rfl, rfl, rfl⟩
  case round =>
    obtain ⟨k, hk, rfl, rfl, rfl, rfl⟩ := hrel
    by_cases hlt : k < xs.length
    · obtain ⟨b, off, cap, e1, hc⟩ := Hv1.out.cell hlt
      simp only [Value.slice.injEq] at e1
      obtain ⟨rfl, e1', rfl⟩ := e1
      clear e1'
      obtain ⟨hx1, hx2⟩ := take_split hlt
      obtain ⟨x, hx⟩ : ∃ x, x = xs[k] := ⟨_, rfl⟩
      rw [← hx] at hc hx2
      have Hx2 := Lib.hid hx2
      have Hs : Hid ((xs.take (k + 1)).foldl g3 z = g3 ((xs.take k).foldl g3 z) x) := by show (xs.take (k + 1)).foldl g3 z = _; rw [← hx2]; simp
      clear hx1 hx2 hx
      obtain ⟨S, hS⟩ : ∃ S, (xs.take k).foldl g3 z = S := ⟨_, rfl⟩
      obtain ⟨Y, hY⟩ : ∃ Y, (xs.take k).filter oddB = Y := ⟨_, rfl⟩
      rw [hS] at Hs
      rw [hS, hY]
      have HY := Lib.hid hY
      clear hS hY
      cases hany : anyOf Y
      · cases hodd : oddB x
        · have Hod := Lib.hid hodd
          have e2 : (xs.take (k + 1)).filter oddB = Y := by rw [← Hx2.out, ← HY.out]; simp [Hod.out]
          have E2 := Lib.hid e2
          have Han := Lib.hid hany
          clear e2
          gi_wp2_with (gi_at_call 20; refine ((callsIn_wide (n := 0)).2 (odd20 x w)).mono ?_; rintro e w2 ⟨rfl, rfl⟩)
          go_round
          case rel => exact ⟨k + 1, by omega, by simp, by rw [Hs.out]; rfl, by rw [E2.out], by rw [E2.out, Han.out]⟩
          case measure => simp [intOf]; omega
        · have Hod := Lib.hid hodd
          have e2 : (xs.take (k + 1)).filter oddB = Y ++ [x] := by rw [← Hx2.out, ← HY.out]; simp [Hod.out]
          have E2 := Lib.hid e2
          have Han := Lib.hid hany
          clear e2
          gi_wp2_with (gi_at_call 20; refine ((callsIn_wide (n := 0)).2 (odd20 x w)).mono ?_; rintro e w2 ⟨rfl, rfl⟩)
          go_round
          case rel => exact ⟨k + 1, by omega, by simp, by rw [Hs.out]; rfl, by rw [E2.out, (firstOf_snoc Y x).1, Han.out]; rfl, by rw [E2.out, (firstOf_snoc Y x).2]⟩
          case measure => simp [intOf]; omega
      · have Han := Lib.hid hany
        have e2 : firstOf ((xs.take (k + 1)).filter oddB) = firstOf Y ∧ anyOf ((xs.take (k + 1)).filter oddB) = true := by
          rw [← Hx2.out, List.filter_append, HY.out]
          cases ho : oddB x
          · simp [ho, Han.out]
          · have h3 := firstOf_snoc Y x
            simp [ho, h3.1, h3.2, Han.out]
        have E2 := Lib.hid e2
        clear e2
        gi_wp2_with fail
        go_round
        case rel => exact ⟨k + 1, by omega, by simp, by rw [Hs.out]; rfl, by rw [E2.out.1], by rw [E2.out.2]⟩
        case measure => simp [intOf]; omega
    · obtain rfl : k = xs.length := by omega
      rw [List.take_length]
      obtain ⟨S, hS⟩ : ∃ S, xs.foldl g3 z = S := ⟨_, rfl⟩
      obtain ⟨Y, hY⟩ : ∃ Y, xs.filter oddB = Y := ⟨_, rfl⟩
      rw [hS, hY]
      have HS := Lib.hid hS
      have HY := Lib.hid hY
      clear hS hY
      gi_wp2_with fail
      refine ((callsIn_wide (n := 0)).2 (of17 xs (by omega) _ _ Hv1.out)).mono ?_
      rintro e w1 ⟨s1, C1, rfl, hs1, hb1, _⟩
      gi_wp2_with fail
      refine ((callsIn_wide (n := 0)).2 (fold31 xs z _ _ _ hs1)).mono ?_
      rintro e w2 ⟨rfl, hB2⟩
      have hb2 := hb1.trans (hB2.mono hb1.size)
      rw [HS.out]
      gi_wp2_with fail
      refine ((callsIn_wide (n := 0)).2 (of17 xs (by omega) _ _ (Hv1.out.below hb2))).mono ?_
      rintro e w3 ⟨s3, C3, rfl, hs3, hB3, _⟩
      have hb3 := hb2.trans (hB3.mono hb2.size)
      gi_wp2_with fail
      refine ((callsIn_wide (n := 0)).2 (first33 xs _ _ _ hs3)).mono ?_
      rintro e w4 ⟨rfl, hB4⟩
      have hb4 := hb3.trans (hB4.mono hb3.size)
      rw [HY.out]
      have Hb4 := Lib.hid hb4
      clear hs1 hs3 hb1 hb2 hb3 hb4 hB2 hB3 hB4
      have q1 : (S == S) = true := by simp
      have q2 : (firstOf Y == firstOf Y) = true := by simp
      have q3 : (anyOf Y == anyOf Y) = true := by simp
      gi_wp2_with (gi_at_call 19; refine ((callsIn_wide (n := 0)).2 (awake19 _)).mono ?_; rintro e w5 ⟨rfl, hB5⟩)
      go_ret
      exact ⟨rfl, Hb4.out.trans (hB5.mono Hb4.out.size)⟩
end Go.Proofs.Ytdfnainibjgenaa
