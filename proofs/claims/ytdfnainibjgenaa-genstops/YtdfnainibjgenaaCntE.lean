/- gen.sound, gen.Take, gen.Collect of a sequence of ints that counts as it goes; gen.Map with GenStops' function. -/
import Derived.Test.YtdfnainibjgenaaSeqE
import Derived.Test.YtdfnainibjgenaaMap
namespace Go.Proofs.Ytdfnainibjgenaa
open Go.RowKit Go.Shelf
set_option linter.unusedVariables false
set_option linter.unusedSimpArgs false
attribute [local go_sem] Oper.semAt_some wide_fn wide_depth

theorem sound_seqE {α : Type} {enc : α → Value} {xs : List α} {Cc TC : Nat} {s : Value} {C : Nat → Prop} {w : World} (h : SeqE Try.prog s C enc xs Cc TC w) {b : Nat} (hb : Boxed w b 27 s) :
    SeqE Try.prog (.func (.func 87) #[] #[.pointer (some ⟨b, 0, none⟩)]) (fun k => C k ∨ k = b) enc xs Cc TC w :=
  sound_seqGE s88 s87 (enters_of Try.func87 (by kernel_rfl) rfl) (enters_of Try.func88 (by kernel_rfl) rfl) h hb
/-- What a call that makes such a sequence answers. -/
def GivesSeqE {α : Type} (P : Program) (C : Nat → Prop) (enc : α → Value) (xs : List α) (Cc TC : Nat) (w : World) (e : Ending) (w' : World) : Prop :=
  ∃ t C', e = .returned t ∧ SeqE P t C' enc xs Cc TC w' ∧ Below w.heap.size w w' ∧ ∀ b, C' b → C b ∨ w.heap.size ≤ b

set_option maxRecDepth 100000 in
set_option maxHeartbeats 1000000 in
theorem t64E {α : Type} {enc : α → Value} {xs : List α} {Cc TC : Nat} (fn : Fn) (lb : Array Value) (s y : Value) (bn bs : Nat) (n : Nat) (hn : 1 ≤ n) (hn2 : (Lit.int .i64 n).wf = true) (W : World) (hy : y = .func fn #[] lb)
    (C H : Nat → Prop) (J Jx : List α → (Nat → Prop) → World → Prop) (Jm : List α → α → (Nat → Prop) → World → Prop) (hs : SeqE Try.prog s C enc xs Cc TC W) (hbn : Boxed W bn 3 (.int .i64 n)) (hbs : Boxed W bs 27 s)
    (hCH : ∀ b, C b → ¬ H b) (hJ : Inv W.heap.size J) (hJx : Inv W.heap.size Jx) (hJm : ∀ x, Inv W.heap.size (fun q => Jm q x))
    (hinc : ∀ pre x rest H W, xs = pre ++ x :: rest → pre.length < n → J pre H W → H Cc ∧ ∃ v : Nat, v < 1000000 ∧ Boxed W Cc TC (.int .i64 v) ∧ Jm pre x H (W.setCell ⟨Cc, 0, none⟩ (.int .i64 (v + 1 : Nat))))
    (hr : ∀ pre x rest H1 W1, xs = pre ++ x :: rest → pre.length < n → Jm pre x H1 W1 → CallV Try.prog y #[enc x] W1 (RoundR J Jx (pre ++ [x]) H1 W1)) (h0 : J [] H W) :
    Calls Try.prog 64 #[y, .pointer (some ⟨bn, 0, none⟩), .pointer (some ⟨bs, 0, none⟩)] W (EndR J Jx (xs.take n) H W) := by
  obtain ⟨gs, ls, hsf⟩ : ∃ gs ls, s = .func (.func gs) #[] ls := by obtain ⟨_, gs, ls, hs, _⟩ := hs; exact ⟨gs, ls, hs⟩
  refine (callsIn_wide (n := 0)).1 ?_
  refine callsIn_of_wp_marks Try.func64 rfl trivial ?_ rfl
  simp only [Try.ntmps64, List.size_toArray, List.length_cons, List.length_nil, Nat.reduceAdd, Nat.reduceSub, Array.replicate_succ, Array.replicate_zero, List.push_toArray, List.append_toArray, List.nil_append, List.cons_append]
  have hc1 := hbn.cell
  have hl1 := hbn.lt
  have hc2 := hbs.cell
  have hl2 := hbs.lt
  have hnn : ¬ ((n : Int) < 1) := by omega
  have Hr := Lib.hid hr
  clear hr
  subst hy hsf
  gi_wp2_with (gi_at_call 58; refine ((callsIn_wide (n := 0)).2 (sound58 _ _ _ _ (.inl rfl) _)).mono ?_; rintro e w' ⟨rfl, rfl⟩)
  have hHlt := hJ.lt _ _ _ h0
  have hH0 : ¬ H W.heap.size := fun e => by have := hHlt _ e; omega
  have hH1 : ¬ H (W.heap.size + 1) := fun e => by have := hHlt _ e; omega
  obtain ⟨W2, hW2⟩ : ∃ W2, ((W.alloc (Obj.cells #[Value.func fn #[] lb] 32)).alloc (Obj.cells #[Value.int IntKind.i64 ↑n] 3)).alloc (Obj.cells #[Value.func (Fn.func gs) #[] ls] 27) = W2 := ⟨_, rfl⟩
  have e0 : Only H W W2 := by rw [← hW2]; exact ((Only.alloc H W _).trans (Only.alloc H _ _) (Grows.refl _ _)).trans (Only.alloc H _ _) (Grows.refl _ _)
  have hsz : W2.heap.size = W.heap.size + 3 := by rw [← hW2]; simp
  have bY : Boxed W2 W.heap.size 32 (.func fn #[] lb) := by rw [← hW2]; exact ((Boxed.new W 32 _).alloc _).alloc _
  have bO : Boxed W2 (W.heap.size + 1) 3 (.int .i64 n) := by rw [← hW2]; have := (Boxed.new (W.alloc (.cells #[.func fn #[] lb] 32)) 3 (.int .i64 n)).alloc (.cells #[.func (.func gs) #[] ls] 27); rwa [World.size_alloc] at this
  have bS : Boxed W2 (W.heap.size + 1 + 1) 27 (.func (.func gs) #[] ls) := by rw [← hW2]; have := Boxed.new ((W.alloc (.cells #[.func fn #[] lb] 32)).alloc (.cells #[.int .i64 n] 3)) 27 (.func (.func gs) #[] ls); rwa [World.size_alloc, World.size_alloc] at this
  have hj1 : J [] H W2 := by rw [← hW2]; exact hJ.alloc (hJ.alloc (hJ.alloc h0 _) _) _
  rw [hW2]
  clear hW2 hc1 hc2 hnn
  have hs2 := sound_seqE (hs.only e0 hCH) bS
  refine wpIn_rangeFunc_seqE rfl hs2 (fun k => H k ∨ k = W.heap.size + 1) (fun b hb => ?_) rfl (TakeI J W.heap.size 32 (.func fn #[] lb) n) (TakeX J Jx W.heap.size n) (fun q x => TakeI (fun q => Jm q x) W.heap.size 32 (.func fn #[] lb) n q)
    ((TakeI.inv hJ _ _ _).mono (by omega)) (fun x => (TakeI.inv (hJm x) _ _ _).mono (by omega)) (by
      rintro pre x rest H1 W1 hx ⟨hlen, H0, rfl, h1, h2, hj, hY, hO⟩
      obtain ⟨hcc, v, hv, hbv, hjm⟩ := hinc pre x rest H0 W1 hx hlen hj
      have n1 : Cc ≠ W.heap.size := fun e => h1 (e ▸ hcc)
      have n2 : Cc ≠ W.heap.size + 1 := fun e => h2 (e ▸ hcc)
      have hst := Only.setCell (H := fun k => k = Cc) (w := W1) (a := ⟨Cc, 0, none⟩) (.inl rfl) (.int .i64 (v + 1 : Nat))
      exact ⟨.inl hcc, v, hv, hbv, hlen, H0, rfl, h1, h2, hjm, hst.boxed hY (fun e => n1 e.symm), hst.boxed hO (fun e => n2 e.symm)⟩) (fun c => (TakeX.inv hJ hJx n c).mono (by omega)) ⟨by simp; omega, H, rfl, hH0, hH1, hj1, bY, by simpa using bO⟩
    (fun x => { tmps := #[Value.func fn #[] lb, Value.pointer (some { block := bn, off := 0 }), Value.pointer (some { block := bs, off := 0 }), Value.pointer (some { block := W.heap.size, off := 0 }),
      Value.pointer (some { block := W.heap.size + 1, off := 0 }), enc x, Value.int IntKind.i64 ↑n, Value.bool false, Value.int IntKind.i64 ↑n, Value.func (Fn.func gs) #[] ls,
      Value.func (Fn.func 87) #[] #[Value.pointer (some { block := W.heap.size + 1 + 1, off := 0 })], enc x, undef, undef, undef, undef, undef, undef, undef, undef, undef, undef], defers := [] }) ?assign ?body ?done ?stop
  case assign =>
    intro l x W K hK
    gi_wp2
    exact hK
  case body =>
    rintro l pre x rest H1 W1 hx ⟨hlen, H0, rfl, h1, h2, hj, hY, hO⟩ hl hl1 hl2
    have hHx := Lib.hid (Hr.out pre x rest H0 (W1.setCell ⟨W.heap.size + 1, 0, none⟩ (.int .i64 ((n : Int) - pre.length - 1))) hx hlen ((hJm x).setCell hj (by simp) h2 _))
    have hx' := Lib.hid hx
    clear hx hs2 hs hj1 Hr hinc
    obtain ⟨z, hz⟩ : ∃ z : Int, (n : Int) - pre.length = z := ⟨_, rfl⟩
    rw [hz] at hHx hO
    have hz1 : 1 ≤ z := by omega
    have hwr : wrap64 (z - 1) = z - 1 := by
      simp only [Lit.wf, IntKind.min, IntKind.max, IntKind.signed, IntKind.bits, Bool.and_eq_true, decide_eq_true_eq, if_true] at hn2
      unfold wrap64; omega
    have hzz := Lib.hid hz
    clear hz
    have hc1 := hO.cell
    have hf1 := hO.frozen
    have hc2 := hY.cell
    have hlt1 := hO.lt
    gi_wp2_with (refine wpListIn_callV (o := ⟨some 16, _, _, _, _, _⟩) rfl rfl _ _ _ rfl _ _ rfl rfl hHx.out ?_)
    rintro e W3 ⟨H3, hg3, ho3, hend⟩
    have hO1 : Boxed (W1.setCell ⟨W.heap.size + 1, 0, none⟩ (.int .i64 (z - 1))) (W.heap.size + 1) 3 (.int .i64 (z - 1)) := hO.set _
    have hO3 := ho3.boxed hO1 h2
    have hY3 := ho3.boxed ((Only.setCell (H := fun k => k = W.heap.size + 1) (a := ⟨W.heap.size + 1, 0, none⟩) (.inl rfl) (.int .i64 (z - 1))).boxed hY (by simp)) h1
    have h2' : ¬ H3 (W.heap.size + 1) := fun e => (hg3 _ e).elim h2 (fun e' => by have := hO1.lt; omega)
    have h1' : ¬ H3 W.heap.size := fun e => (hg3 _ e).elim h1 (fun e' => by have := hO1.lt; omega)
    have hgF : Grows (fun k => H0 k ∨ k = W.heap.size + 1) W1 (fun k => H3 k ∨ k = W.heap.size + 1) := by
      rintro k (hk | hk)
      · exact (hg3 k hk).elim (fun e => .inl (.inl e)) (fun e => .inr (by simpa [World.setCell] using e))
      · exact .inl (.inr hk)
    have hoF : Only (fun k => H0 k ∨ k = W.heap.size + 1) W1 W3 := (Only.setCell (H := fun k => H0 k ∨ k = W.heap.size + 1) (a := ⟨W.heap.size + 1, 0, none⟩) (.inl (.inr rfl)) _).trans (ho3.mono (H' := fun k => H0 k ∨ k = W.heap.size + 1) fun _ _ e => .inl e) (Grows.refl _ _)
    have hc3 := hO3.cell
    have HgF := Lib.hid hgF
    have HoF := Lib.hid hoF
    clear hgF hoF hg3 ho3 hc1 hc2 hf1 hwr hHx
    rcases hend with ⟨rfl, hj3⟩ | ⟨rfl, hj3⟩
    · refine ⟨_, rfl, ?_⟩
      by_cases hz0 : z - 1 = 0
      · have hzb : (z - 1 == 0) = true := by simpa using hz0
        have hz0' := Lib.hid hz0
        clear hz0
        gi_wp2
        refine ⟨_, HgF.out, HoF.out, rfl, H3, rfl, hO3.lt, h2', .inr ⟨?_, hj3⟩, ?_⟩
        · have := hzz.out; have := hz0'.out; simp; omega
        · have := hzz.out; have := hz0'.out; simp; omega
      · have hzb : (z - 1 == 0) = false := by simpa using hz0
        have hz0' := Lib.hid hz0
        clear hz0
        gi_wp2
        refine ⟨_, HgF.out, HoF.out, ?_, H3, rfl, h1', h2', hj3, hY3, ?_⟩
        · have := hzz.out; have := hz0'.out; simp; omega
        · have e1 : (n : Int) - ((pre ++ [x]).length : Int) = z - 1 := by have := hzz.out; simp; omega
          rw [e1]; exact hO3
    · refine ⟨_, rfl, ?_⟩
      gi_wp2
      refine ⟨_, HgF.out, HoF.out, rfl, H3, rfl, hO3.lt, h2', .inl hj3, ?_⟩
      have := hzz.out; simp; omega
  case done =>
    rintro D H1 W1 ⟨hlen, H0, rfl, h1, h2, hj, hY, hO⟩ hg ho hD hHD hK
    refine ⟨by simp, .inl ⟨_, _, rfl, run_takeDeferred hK, ?_⟩⟩
    refine ⟨_, results_none rfl _ _ _, ⟨_, rfl⟩, H0, hg.own (by omega) e0.size, (e0.own ho (by omega)).behind (by omega) _, .inl ?_⟩
    rw [List.take_of_length_le (by omega)]
    exact hJ.putObj hj (by omega) (fun e => hHD (.inl e)) _
  case stop =>
    rintro D c pre H1 W1 hpre ⟨rfl, H0, rfl, h1, h2, hj, hle⟩ hg ho hD hHD hK
    have hp2 : pre <+: xs.take n := by rw [List.prefix_take_iff]; exact ⟨hpre, hle⟩
    gi_wp2
    refine ⟨by simp, .inl ⟨_, _, rfl, run_takeDeferred hK, ?_⟩⟩
    refine ⟨_, results_none rfl _ _ _, ⟨_, rfl⟩, H0, hg.own (by omega) e0.size, (e0.own ho (by omega)).behind (by omega) _, ?_⟩
    rcases hj with hj | ⟨hlen, hj⟩
    · exact .inr ⟨pre, hp2, hJx.putObj hj (by omega) (fun e => hHD (.inl e)) _⟩
    · refine .inl ?_
      have : pre = xs.take n := hp2.eq_of_length (by rw [List.length_take]; have := hp2.length_le; rw [List.length_take] at this; omega)
      rw [← this]
      exact hJ.putObj hj (by omega) (fun e => hHD (.inl e)) _
  · rintro (e | e)
    · have := (hs.1 b ·)
      rcases hb with hb | hb
      · exact hCH b hb e
      · subst hb; have := hHlt _ e; omega
    · rcases hb with hb | hb
      · have := hs.1 b hb; omega
      · omega

/-- Take's own closure is the sequence of the first n. -/
theorem take_seqE {α : Type} {enc : α → Value} {xs : List α} {Cc TC : Nat} {s : Value} {C : Nat → Prop} {w : World} (h : SeqE Try.prog s C enc xs Cc TC w) {n : Int} (hw : (Lit.int .i64 n).wf = true) {bn bs : Nat} (hbn : Boxed w bn 3 (.int .i64 n)) (hbs : Boxed w bs 27 s) :
    SeqE Try.prog (.func (.func 64) #[] #[.pointer (some ⟨bn, 0, none⟩), .pointer (some ⟨bs, 0, none⟩)]) (fun k => C k ∨ k = bn ∨ k = bs) enc (xs.take n.toNat) Cc TC w := by
  refine ⟨?_, 64, _, rfl, enters_of Try.func64 (by kernel_rfl) rfl, ?_⟩
  · rintro k (hk | rfl | rfl)
    · exact h.1 k hk
    · exact hbn.lt
    · exact hbs.lt
  rintro y J Jx Jm H W ⟨fn, lb, hy⟩ hC hCH hJ hJx hJm hinc hr h0
  have hbnW : Boxed W bn 3 (.int .i64 n) := (hC bn (.inr (.inl rfl))).trans hbn
  have hbsW : Boxed W bs 27 s := (hC bs (.inr (.inr rfl))).trans hbs
  by_cases hn : n < 1
  · refine Calls.mono (t64none fn lb y bn bs n hn W hy hbnW) ?_
    rintro e W' ⟨hv, rfl⟩
    refine ⟨hv, H, Grows.refl _ _, Only.alloc _ _ _, .inl ?_⟩
    rw [show n.toNat = 0 by omega, List.take_zero]
    exact hJ.alloc h0 _
  · obtain ⟨m, rfl⟩ := Int.eq_ofNat_of_zero_le (show 0 ≤ n by omega)
    rw [Int.toNat_natCast] at hr hinc ⊢
    have hsp : ∀ (pre : List α) (x : α) (rest : List α), xs = pre ++ x :: rest → pre.length < m → xs.take m = pre ++ x :: rest.take (m - pre.length - 1) := by
      intro pre x rest hx hlen
      rw [hx, List.take_append, List.take_of_length_le (by omega)]
      congr 1
      rw [show m - pre.length = (m - pre.length - 1) + 1 by omega, List.take_succ_cons]
      simp
    refine t64E fn lb s y bn bs m (by omega) hw W hy C H J Jx Jm (h.later fun k hk => hC k (.inl hk)) hbnW hbsW (fun k hk => hCH k (.inl hk)) hJ hJx hJm (fun pre x rest H W hx hlen hj => hinc pre x _ H W (hsp pre x rest hx hlen) hj) ?_ h0
    intro pre x rest H1 W1 hx hlen hj
    exact hr pre x _ H1 W1 (hsp pre x rest hx hlen) hj

theorem take_callE {α : Type} {enc : α → Value} {xs : List α} {Cc TC : Nat} {s : Value} {C : Nat → Prop} {w : World} (h : SeqE Try.prog s C enc xs Cc TC w) {n : Int} (hw : (Lit.int .i64 n).wf = true) :
    Calls Try.prog 25 #[s, .int .i64 n] w (GivesSeqE Try.prog C enc (xs.take n.toNat) Cc TC w) := by
  obtain ⟨gs, ls, hs⟩ := h.func
  refine Calls.mono (take25 _ _ _ s (.inl hs) n w) ?_
  rintro e w' ⟨rfl, rfl⟩
  have hB : Below w.heap.size w (((w.alloc (.cells #[s] 27)).alloc (.cells #[.int .i64 n] 3)).alloc (.cells #[.func (.func 64) #[] #[.pointer (some ⟨w.heap.size + 1, 0, none⟩), .pointer (some ⟨w.heap.size, 0, none⟩)]] 27)) :=
    (((Below.refl _ w).alloc (Nat.le_refl _) _).alloc (by simp) _).alloc (by simp; omega) _
  have b1 : Boxed (((w.alloc (.cells #[s] 27)).alloc (.cells #[.int .i64 n] 3)).alloc (.cells #[.func (.func 64) #[] #[.pointer (some ⟨w.heap.size + 1, 0, none⟩), .pointer (some ⟨w.heap.size, 0, none⟩)]] 27)) w.heap.size 27 s := ((Boxed.new w 27 s).alloc _).alloc _
  have b2 : Boxed (((w.alloc (.cells #[s] 27)).alloc (.cells #[.int .i64 n] 3)).alloc (.cells #[.func (.func 64) #[] #[.pointer (some ⟨w.heap.size + 1, 0, none⟩), .pointer (some ⟨w.heap.size, 0, none⟩)]] 27)) (w.heap.size + 1) 3 (.int .i64 n) := by
    have := (Boxed.new (w.alloc (.cells #[s] 27)) 3 (.int .i64 n)).alloc (.cells #[.func (.func 64) #[] #[.pointer (some ⟨w.heap.size + 1, 0, none⟩), .pointer (some ⟨w.heap.size, 0, none⟩)]] 27); rwa [World.size_alloc] at this
  have b3 : Boxed (((w.alloc (.cells #[s] 27)).alloc (.cells #[.int .i64 n] 3)).alloc (.cells #[.func (.func 64) #[] #[.pointer (some ⟨w.heap.size + 1, 0, none⟩), .pointer (some ⟨w.heap.size, 0, none⟩)]] 27)) (w.heap.size + 2) 27 (.func (.func 64) #[] #[.pointer (some ⟨w.heap.size + 1, 0, none⟩), .pointer (some ⟨w.heap.size, 0, none⟩)]) := by
    have := Boxed.new ((w.alloc (.cells #[s] 27)).alloc (.cells #[.int .i64 n] 3)) 27 (.func (.func 64) #[] #[.pointer (some ⟨w.heap.size + 1, 0, none⟩), .pointer (some ⟨w.heap.size, 0, none⟩)]); rwa [World.size_alloc, World.size_alloc] at this
  refine ⟨_, _, rfl, sound_seqE (take_seqE (h.later fun k hk => hB.block k (h.1 k hk)) hw b2 b1) b3, hB, ?_⟩
  rintro k ((hk | rfl | rfl) | rfl)
  · exact .inl hk
  all_goals exact .inr (by omega)

/-- What the loop keeps: the list so far, the counter. -/
def CntI (B Cc TC c0 : Nat) (d : Nat) (q : List Int) (H : Nat → Prop) (W : World) : Prop :=
  ∃ H0, H = (fun k => H0 k ∨ k = Cc) ∧ ¬ H0 Cc ∧ CollI B 22 3 1 (fun x => [encI x]) q H0 W ∧ Boxed W Cc TC (.int .i64 (c0 + q.length + d : Nat))
theorem CntI.inv (X B Cc TC c0 d : Nat) : Inv X (CntI B Cc TC c0 d) := by
  constructor
  · rintro s H W W' ⟨H0, rfl, h1, hc, hb⟩ ho
    exact ⟨H0, rfl, h1, (CollI.inv X B 22 3 1 _).stable _ _ _ _ hc (ho.mono fun b _ e => ⟨e.1, fun e' => e.2 (.inl e')⟩), ho.boxH hb (.inr rfl)⟩
  · rintro s H W ⟨H0, rfl, h1, hc, hb⟩ b (h | rfl)
    · exact (CollI.inv X B 22 3 1 _).lt _ _ _ hc b h
    · exact hb.lt
/-- A new slice; the counter has gone up by its length. -/
def GivesCnt (Cc TC c0 : Nat) (xs : List Int) (w : World) (e : Ending) (w' : World) : Prop :=
  ∃ v, e = .returned v ∧ w'.ownsRow w.heap.size 3 1 v xs.length (xs.map encI) ∧ Boxed w' Cc TC (.int .i64 (c0 + xs.length : Nat)) ∧ Only (fun k => k = Cc) w w'

set_option maxRecDepth 100000 in
set_option maxHeartbeats 1000000 in
theorem a86E (xs : List Int) (hlen : xs.length ≤ 100000) (s : Value) (C : Nat → Prop) (Cc TC c0 : Nat) (w : World) (hs : SeqE Try.prog s C encI xs Cc TC w) (hcc : Boxed w Cc TC (.int .i64 (c0 : Nat))) (hc0 : c0 ≤ 100000) (hCc : ¬ C Cc) :
    Calls Try.prog 86 #[.slice none 0 0, s] w (GivesCnt Cc TC c0 xs w) := by
  obtain ⟨gs, ls, hsf⟩ := hs.func
  obtain ⟨i0, hi, hz0, hz1, hz2⟩ := info_parts info3
  refine (callsIn_wide (n := 0)).1 ?_
  refine callsIn_of_wp_marks Try.func86 rfl trivial ?_ rfl
  simp only [Try.ntmps86, List.size_toArray, List.length_cons, List.length_nil, Nat.reduceAdd, Nat.reduceSub, Array.replicate_succ, Array.replicate_zero, List.push_toArray, List.append_toArray, List.nil_append, List.cons_append]
  subst hsf
  gi_wp2_with fail
  have e0 : Only (fun k => k = w.heap.size) w (w.alloc (.cells #[.slice none 0 0] 22)) := Only.alloc _ _ _
  have bO := Boxed.new w 22 (.slice none 0 0)
  have hClt := hs.1
  have hcl := hcc.lt
  refine wpIn_rangeFunc_seqE rfl (hs.only e0 (fun b hb e => by have := hClt b hb; omega)) (fun k => (k = w.heap.size ∨ (Value.slice none 0 0).ownBlock = some k) ∨ k = Cc) (fun b hb => ?_) rfl (CntI w.heap.size Cc TC c0 0) (fun _ _ _ _ => False) (fun q _ => CntI w.heap.size Cc TC c0 1 q)
    (CntI.inv _ _ _ _ _ _) (fun _ => CntI.inv _ _ _ _ _ _) (by
      rintro pre x rest H1 W1 hx ⟨H0, rfl, h1, hcl, hbc⟩
      have hpl : pre.length + 1 ≤ 100000 := by rw [hx] at hlen; simp at hlen; omega
      refine ⟨.inr rfl, c0 + pre.length + 0, by omega, hbc, H0, rfl, h1, ?_, by have := hbc.set (.int .i64 (c0 + pre.length + 0 + 1 : Nat)); exact this⟩
      obtain ⟨v, rfl, hv, hrow⟩ := hcl
      have hst := Only.setCell (H := fun k => k = Cc) (w := W1) (a := ⟨Cc, 0, none⟩) (.inl rfl) (.int .i64 (c0 + pre.length + 0 + 1 : Nat))
      exact ⟨v, rfl, hst.boxed hv (fun e => h1 (.inl e.symm)), row_only hrow hst (fun k hk e => h1 (.inr (e ▸ hk)))⟩) (fun _ => Inv.never _) ⟨_, rfl, (fun e => by rcases e with e | e; omega; simp [Value.ownBlock] at e), ⟨_, rfl, bO, World.ownsRow_nil _ _ _ _⟩, by have := hcc.alloc (.cells #[.slice none 0 0] 22); simpa using this⟩
    (fun x => { tmps := #[.slice none 0 0, .func (.func gs) #[] ls, .pointer (some ⟨w.heap.size, 0, none⟩), undef, .slice none 0 0, encI x, .func (.func gs) #[] ls, encI x, undef, undef, undef, undef, undef], defers := [] }) ?assign ?body ?done ?stop
  case assign =>
    intro l x W K hK
    gi_wp2
    exact hK
  case body =>
    rintro l pre x rest H1 W1 hx ⟨H0, rfl, h1, ⟨v, rfl, hv, hrow⟩, hbc⟩ hl hl1 hl2
    have hpl : pre.length + 1 ≤ 100000 := by rw [hx] at hlen; simp at hlen; omega
    have hc := hv.cell
    have hBlt := hv.lt
    have HX := Lib.hid hx
    clear hx
    gi_wp2_with (gi_at_builtin; refine wpListIn_append_w _ rfl _ _ 22 rfl w.heap.size 3 i0 (.int .i64 0) 1 8 Try.underlying22 hi hz0 hz1 hz2 rfl (by decide) _ _ _ rfl (hrow.alloc _) ⟨W1.heap.size, 0, none⟩ 1 1 (by decide) [encI x] rfl rfl (cell_one_new _ _ _) (by simp [Value.oneCell', encI]) (by unfold maxLen; omega) (by omega) (by simp; omega) ?_; intro v' w1 hown' hgrow hwh; obtain ⟨hv1, H', hg', ho', hI'⟩ := CollI.step (x := x) (by decide) hv hrow hown' hgrow hwh; obtain ⟨g', cap', rfl⟩ := ownsRow_succ hown'; have hc1 := hv1.cell; have hf1 := hv1.frozen)
    have hn : ¬ H' Cc := fun e => (hg' _ e).elim h1 (fun e' => by have := hbc.lt; omega)
    refine ⟨fun k => H' k ∨ k = Cc, ?_, ho'.mono (fun k _ e => .inl e), H', rfl, hn, hI', ?_⟩
    · rintro k (e | e)
      · exact (hg' k e).imp .inl id
      · exact .inl (.inr e)
    · have := ho'.boxed hbc h1
      rw [show c0 + (pre ++ [x]).length + 0 = c0 + pre.length + 1 by simp; omega]
      exact this
  case done =>
    rintro D H1 W1 ⟨H0, rfl, h1, ⟨v, rfl, hv, hrow⟩, hbc⟩ hg ho hD hHD hK
    have hc := hv.cell
    gi_wp2
    refine ⟨by simp, .inl ⟨_, _, rfl, run_takeDeferred hK, ?_⟩⟩
    refine ⟨_, results_tmp rfl _ _ _, v, rfl, ?_, (World.putObj_heap_other (fun e => hHD (.inr e.symm))).trans hbc, ?_⟩
    · have := ownsRow_putObj hrow (.deferred none) hK rfl
      simpa [List.flatMap_singleton', List.map_eq_flatMap] using this
    · refine Only.behind (((Only.of_below (H := fun k => k = Cc) ((Below.refl _ w).alloc (Nat.le_refl _) _)).trans ho (fun k hk => ?_))) (by simp at hD; omega) _
      rcases hk with (hk | hk) | hk
      · exact .inr (by omega)
      · simp [Value.ownBlock] at hk
      · exact .inl hk
  case stop =>
    rintro D c pre H1 W1 _ h
    exact h.elim
  · rintro ((e | e) | e)
    · have := hClt b hb; omega
    · simp [Value.ownBlock] at e
    · exact hCc (e ▸ hb)

set_option maxRecDepth 100000 in
set_option maxHeartbeats 1000000 in
theorem c57E (xs : List Int) (hlen : xs.length ≤ 100000) (s : Value) (C : Nat → Prop) (Cc TC c0 : Nat) (w : World) (hs : SeqE Try.prog s C encI xs Cc TC w) (hcc : Boxed w Cc TC (.int .i64 (c0 : Nat))) (hc0 : c0 ≤ 100000) (hCc : ¬ C Cc) :
    Calls Try.prog 57 #[s] w (GivesCnt Cc TC c0 xs w) := by
  obtain ⟨gs, ls, hsf⟩ := hs.func
  refine (callsIn_wide (n := 0)).1 ?_
  refine callsIn_of_wp Try.func57 rfl trivial ?_ rfl
  simp only [Try.ntmps57, List.size_toArray, List.length_cons, List.length_nil, Nat.reduceAdd, Nat.reduceSub, Array.replicate_succ, Array.replicate_zero, List.push_toArray, List.append_toArray, List.nil_append, List.cons_append]
  subst hsf
  gi_wp2_with (gi_at_call 86; refine ((callsIn_wide (n := 0)).2 (a86E xs hlen _ C Cc TC c0 w hs hcc hc0 hCc)).mono ?_; rintro e w' ⟨v, rfl, hrow, hbc, ho⟩)
  go_ret
  exact ⟨v, rfl, hrow, hbc, ho⟩

set_option maxRecDepth 100000 in
set_option maxHeartbeats 1000000 in
/-- gen.Collect(s, most). -/
theorem c16E (xs : List Int) (s : Value) (C : Nat → Prop) (Cc TC c0 : Nat) (w : World) (hs : SeqE Try.prog s C encI xs Cc TC w) (hcc : Boxed w Cc TC (.int .i64 (c0 : Nat))) (hc0 : c0 ≤ 100000) (hCc : ¬ C Cc) (n : Int) (hw : (Lit.int .i64 n).wf = true) (hlen : (xs.take n.toNat).length ≤ 100000) :
    Calls Try.prog 16 #[s, .int .i64 n] w (GivesCnt Cc TC c0 (xs.take n.toNat) w) := by
  obtain ⟨gs, ls, hsf⟩ := hs.func
  refine (callsIn_wide (n := 0)).1 ?_
  refine callsIn_of_wp Try.func16 rfl trivial ?_ rfl
  simp only [Try.ntmps16, List.size_toArray, List.length_cons, List.length_nil, Nat.reduceAdd, Nat.reduceSub, Array.replicate_succ, Array.replicate_zero, List.push_toArray, List.append_toArray, List.nil_append, List.cons_append]
  subst hsf
  gi_wp2_with (gi_at_call 25; refine ((callsIn_wide (n := 0)).2 (take_callE hs hw)).mono ?_; rintro e w1 ⟨t, C', rfl, ht, hB1, hC1⟩)
  refine ((callsIn_wide (n := 0)).2 (c57E _ hlen _ _ _ _ c0 _ ht ((hB1.block _ hcc.lt).trans hcc) hc0 (fun e => (hC1 _ e).elim hCc (fun e' => by have := hcc.lt; omega)))).mono ?_
  rintro e w2 ⟨v, rfl, hrow, hbc, ho2⟩
  gi_wp2
  go_ret
  exact ⟨v, rfl, row_base hrow hB1.size, hbc, (Only.of_below hB1).trans ho2 (Grows.refl _ _)⟩
end Go.Proofs.Ytdfnainibjgenaa
