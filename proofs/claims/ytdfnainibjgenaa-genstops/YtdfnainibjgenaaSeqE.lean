/- Sequences that count as they go: one cell goes up by one with each element that is told. No program is named here. -/
import Derived.Test.YtdfnainibjgenaaSeq
namespace Go.Proofs.Ytdfnainibjgenaa
open Go.RowKit Go.Shelf
set_option linter.unusedVariables false
set_option linter.unusedSimpArgs false

/-- Ahead of x the counter at Cc goes up: from J to Jm. -/
def Incs {α : Type} (Cc TC : Nat) (xs : List α) (J : List α → (Nat → Prop) → World → Prop) (Jm : List α → α → (Nat → Prop) → World → Prop) : Prop :=
  ∀ pre x rest H W, xs = pre ++ x :: rest → J pre H W → H Cc ∧ ∃ v : Nat, v < 1000000 ∧ Boxed W Cc TC (.int .i64 v) ∧ Jm pre x H (W.setCell ⟨Cc, 0, none⟩ (.int .i64 (v + 1 : Nat)))
/-- THE VALUE s IS A SEQUENCE OF xs THAT COUNTS at Cc. -/
def SeqE {α : Type} (P : Program) (s : Value) (C : Nat → Prop) (enc : α → Value) (xs : List α) (Cc TC : Nat) (w0 : World) : Prop :=
  (∀ b, C b → b < w0.heap.size) ∧ ∃ g lb, s = .func (.func g) #[] lb ∧ Enters P g ∧
  ∀ (y : Value) (J Jx : List α → (Nat → Prop) → World → Prop) (Jm : List α → α → (Nat → Prop) → World → Prop) (H : Nat → Prop) (W : World), (∃ fn lb, y = .func fn #[] lb) →
    (∀ b, C b → W.heap[b]? = w0.heap[b]?) → (∀ b, C b → ¬ H b) → Inv W.heap.size J → Inv W.heap.size Jx → (∀ x, Inv W.heap.size (fun q => Jm q x)) → Incs Cc TC xs J Jm →
    (∀ pre x rest H1 W1, xs = pre ++ x :: rest → Jm pre x H1 W1 → CallV P y #[enc x] W1 (RoundR J Jx (pre ++ [x]) H1 W1)) →
    J [] H W → Calls P g (#[y] ++ lb) W (EndR J Jx xs H W)
theorem SeqE.func {α : Type} {P : Program} {s : Value} {C : Nat → Prop} {enc : α → Value} {xs : List α} {Cc TC : Nat} {w0 : World} (h : SeqE P s C enc xs Cc TC w0) : ∃ gs ls, s = .func (.func gs) #[] ls := by
  obtain ⟨_, gs, ls, hs, _⟩ := h; exact ⟨gs, ls, hs⟩
theorem SeqE.later {α : Type} {P : Program} {s : Value} {C : Nat → Prop} {enc : α → Value} {xs : List α} {Cc TC : Nat} {w0 w : World} (h : SeqE P s C enc xs Cc TC w0) (hC : ∀ b, C b → w.heap[b]? = w0.heap[b]?) : SeqE P s C enc xs Cc TC w := by
  obtain ⟨h1, g, lb, e, he, hc⟩ := h
  refine ⟨fun b hb => ?_, g, lb, e, he, fun y J Jx Jm H W hy hW => hc y J Jx Jm H W hy fun b hb => (hW b hb).trans (hC b hb)⟩
  have h2 := hC b hb
  rw [Array.getElem?_eq_getElem (h1 b hb)] at h2
  exact (Array.getElem?_eq_some_iff.1 h2).1
theorem SeqE.only {α : Type} {P : Program} {s : Value} {C : Nat → Prop} {enc : α → Value} {xs : List α} {Cc TC : Nat} {w0 w : World} {H : Nat → Prop} (h : SeqE P s C enc xs Cc TC w0) (ho : Only H w0 w) (hC : ∀ b, C b → ¬ H b) : SeqE P s C enc xs Cc TC w :=
  h.later fun b hb => ho.block b (h.1 b hb) (hC b hb)
theorem SeqE.call {α : Type} {P : Program} {s : Value} {C : Nat → Prop} {enc : α → Value} {xs : List α} {Cc TC : Nat} {W : World} (h : SeqE P s C enc xs Cc TC W) {y : Value} (hy : ∃ fn lb, y = .func fn #[] lb) {J Jx : List α → (Nat → Prop) → World → Prop} {Jm : List α → α → (Nat → Prop) → World → Prop} {H : Nat → Prop}
    (hC : ∀ b, C b → ¬ H b) (hJ : Inv W.heap.size J) (hJx : Inv W.heap.size Jx) (hJm : ∀ x, Inv W.heap.size (fun q => Jm q x)) (hinc : Incs Cc TC xs J Jm)
    (hr : ∀ pre x rest H1 W1, xs = pre ++ x :: rest → Jm pre x H1 W1 → CallV P y #[enc x] W1 (RoundR J Jx (pre ++ [x]) H1 W1)) (h0 : J [] H W) : CallV P s #[y] W (EndR J Jx xs H W) := by
  obtain ⟨_, g, lb, e, he, hc⟩ := h
  exact .inl ⟨g, lb, e, he, hc y J Jx Jm H W hy (fun _ _ => rfl) hC hJ hJx hJm hinc hr h0⟩

theorem sound_seqGE {P : Program} {f f' TS TY TB : Nat} (h88 : SndYield P f' TY TB) (h87 : SndSeq P f f' TS TY TB) (e87 : Enters P f) (e88 : Enters P f')
    {α : Type} {enc : α → Value} {xs : List α} {Cc TC : Nat} {s : Value} {C : Nat → Prop} {w : World} (h : SeqE P s C enc xs Cc TC w) {b : Nat} (hb : Boxed w b TS s) :
    SeqE P (.func (.func f) #[] #[.pointer (some ⟨b, 0, none⟩)]) (fun k => C k ∨ k = b) enc xs Cc TC w := by
  refine ⟨fun k hk => hk.elim (h.1 k) (fun e => e ▸ hb.lt), f, _, rfl, e87, ?_⟩
  rintro y J Jx Jm H W ⟨fn, lb, hy⟩ hC hCH hJ hJx hJm hinc hr h0
  have hbW : Boxed W b TS s := (hC b (.inr rfl)).trans hb
  obtain ⟨gs, ls, hs⟩ : ∃ gs ls, s = .func (.func gs) #[] ls := by obtain ⟨_, gs, ls, hs, _⟩ := h; exact ⟨gs, ls, hs⟩
  have hHlt := hJ.lt _ _ _ h0
  have hH0 : ¬ H W.heap.size := fun e => by have := hHlt _ e; omega
  have hH1 : ¬ H (W.heap.size + 1) := fun e => by have := hHlt _ e; omega
  have e0 : Only H W ((W.alloc (.cells #[y] TY)).alloc (.cells #[.bool false] TB)) := (Only.alloc H W _).trans (Only.alloc H _ _) (Grows.refl _ _)
  have hsz : ((W.alloc (.cells #[y] TY)).alloc (.cells #[.bool false] TB)).heap.size = W.heap.size + 2 := by simp
  have bY : Boxed ((W.alloc (.cells #[y] TY)).alloc (.cells #[.bool false] TB)) W.heap.size TY y := (Boxed.new W TY y).alloc _
  have bO : Boxed ((W.alloc (.cells #[y] TY)).alloc (.cells #[.bool false] TB)) (W.heap.size + 1) TB (.bool false) := by
    have := Boxed.new (W.alloc (.cells #[y] TY)) TB (.bool false); rwa [World.size_alloc] at this
  have hj1 := hJ.alloc (hJ.alloc h0 (.cells #[y] TY)) (.cells #[.bool false] TB)
  have hfin := h87 s y b W fn lb gs ls hy hs hbW
  obtain ⟨W2, hW2⟩ : ∃ W2, (W.alloc (.cells #[y] TY)).alloc (.cells #[.bool false] TB) = W2 := ⟨_, rfl⟩
  rw [hW2] at e0 hsz bY bO hj1 hfin
  have hsW2 : SeqE P s C enc xs Cc TC W2 := (h.later (fun k hk => hC k (.inl hk))).only e0 (fun k hk => hCH k (.inl hk))
  have hCH' : ∀ k, C k → ¬ (H k ∨ k = W.heap.size + 1) := fun k hk => by
    have h1 : k < W.heap.size := (h.later (fun k hk => hC k (.inl hk))).1 k hk
    rintro (e | e)
    · exact hCH k (.inl hk) e
    · omega
  have hcall := hsW2.call (y := .func (.func f') #[] #[.pointer (some ⟨W.heap.size + 1, 0, none⟩), .pointer (some ⟨W.heap.size, 0, none⟩)]) ⟨_, _, rfl⟩
    (J := SndJ J W.heap.size TY TB y false) (Jx := SndJ Jx W.heap.size TY TB y true) (Jm := fun q x => SndJ (fun q => Jm q x) W.heap.size TY TB y false q) hCH' (by rw [hsz]; exact SndJ.inv hJ _ _ _ _) (by rw [hsz]; exact SndJ.inv hJx _ _ _ _) (fun x => by rw [hsz]; exact SndJ.inv (hJm x) _ _ _ _) (by
      rintro pre x rest H1 W1 hx ⟨H0, rfl, h1, h2, hj, hY, hO⟩
      obtain ⟨hcc, v, hv, hbv, hjm⟩ := hinc pre x rest H0 W1 hx hj
      have n1 : Cc ≠ W.heap.size := fun e => h1 (e ▸ hcc)
      have n2 : Cc ≠ W.heap.size + 1 := fun e => h2 (e ▸ hcc)
      have hst := Only.setCell (H := fun k => k = Cc) (w := W1) (a := ⟨Cc, 0, none⟩) (.inl rfl) (.int .i64 (v + 1 : Nat))
      exact ⟨.inl hcc, v, hv, hbv, H0, rfl, h1, h2, hjm, hst.boxed hY (fun e => n1 e.symm), hst.boxed hO (fun e => n2 e.symm)⟩) (by
      rintro pre x rest H1 W1 hx ⟨H0, rfl, h1, h2, hj, hY, hO⟩
      refine .inl ⟨f', _, rfl, e88, ?_⟩
      have key := h88 (enc x) y (W.heap.size + 1) W.heap.size W1 _ hO hY (hr pre x rest H0 W1 hx hj) (by
        rintro e W' ⟨H', hg, ho, hend⟩
        have hO' := ho.boxed hO h2
        rcases hend with ⟨rfl, _⟩ | ⟨rfl, _⟩
        · exact ⟨_, rfl, hO'⟩
        · exact ⟨_, rfl, hO'⟩)
      refine Calls.mono key ?_
      rintro e W'' ⟨bb, W', ⟨H', hg, ho, hend⟩, rfl, rfl⟩
      have hO' := ho.boxed hO h2
      have hY' := ho.boxed hY h1
      have h2' : ¬ H' (W.heap.size + 1) := fun e => (hg _ e).elim h2 (fun e' => by have := hO.lt; omega)
      have h1' : ¬ H' W.heap.size := fun e => (hg _ e).elim h1 (fun e' => by have := hY.lt; omega)
      have hset : ∀ u, Only (fun k => H' k ∨ k = W.heap.size + 1) W' (W'.setCell ⟨W.heap.size + 1, 0, none⟩ u) := fun u => Only.setCell (.inl (.inr rfl)) _
      have hYs : ∀ u, Boxed (W'.setCell ⟨W.heap.size + 1, 0, none⟩ u) W.heap.size TY y := fun u => (Only.setCell (H := fun k => k = W.heap.size + 1) (a := ⟨W.heap.size + 1, 0, none⟩) (.inl rfl) u).boxed hY' (by simp)
      refine ⟨fun k => H' k ∨ k = W.heap.size + 1, ?_, ?_, ?_⟩
      · rintro k (hk | hk)
        · exact (hg k hk).elim (fun e => .inl (.inl e)) .inr
        · exact .inl (.inr hk)
      · refine (ho.mono (H' := fun k => H0 k ∨ k = W.heap.size + 1) fun k _ e => .inl e).trans (hset _) ?_
        rintro k (hk | hk)
        · exact (hg k hk).elim (fun e => .inl (.inl e)) .inr
        · exact .inl (.inr hk)
      · rcases hend with ⟨he, hj'⟩ | ⟨he, hj'⟩
        · obtain rfl : bb = true := by simpa using he
          exact .inl ⟨rfl, H', rfl, h1', h2', hJ.setCell hj' (by simp) h2' _, hYs _, hO'.set _⟩
        · obtain rfl : bb = false := by simpa using he
          exact .inr ⟨rfl, H', rfl, h1', h2', hJx.setCell hj' (by simp) h2' _, hYs _, hO'.set _⟩)
    ⟨H, rfl, hH0, hH1, hj1, bY, bO⟩
  refine Calls.mono (hfin _ hcall (by
    rintro e W' ⟨hv, H', hg, ho, hend⟩
    rcases hend with ⟨H0, _, _, _, _, _, hO⟩ | ⟨pre, _, H0, _, _, _, _, _, hO⟩
    · exact ⟨hv, _, hO⟩
    · exact ⟨hv, _, hO⟩)) ?_
  rintro e W'' ⟨hv, e', W', ⟨_, H', hg, ho, hend⟩, rfl⟩
  refine ⟨hv, ?_⟩
  have hon : Only H W (W'.setCell ⟨W.heap.size + 1, 0, none⟩ (.bool true)) := by
    refine (e0.trans ho ?_).trans (Only.setCell (H := fun k => k = W.heap.size + 1) (a := ⟨W.heap.size + 1, 0, none⟩) (.inl rfl) _) ?_
    · rintro k (hk | hk)
      · exact .inl hk
      · exact .inr (by omega)
    · intro k hk; exact .inr (by omega)
  have hgr : ∀ H0 : Nat → Prop, H' = (fun k => H0 k ∨ k = W.heap.size + 1) → Grows H W H0 := fun H0 e k hk => by
    subst e
    exact (hg k (.inl hk)).elim (fun e => e.elim .inl (fun e => .inr (by omega))) (fun e => .inr (by omega))
  rcases hend with ⟨H0, e0', h1, h2, hj, _, _⟩ | ⟨pre, hpre, H0, e0', h1, h2, hj, _, _⟩
  · exact ⟨H0, hgr H0 e0', hon, .inl (hJ.setCell hj (by simp) h2 _)⟩
  · exact ⟨H0, hgr H0 e0', hon, .inr ⟨pre, hpre, hJx.setCell hj (by simp) h2 _⟩⟩


/-- One round, out of the body's walk. -/
theorem round_seqE {α : Type} {n : Nat} {P : Program} {fn : FuncId} {a : Act} {assign body : Code} {ps : Array Tmp} {enc : α → Value} {l D df B : Nat} {dd : Obj} (hps : ps.size = 1) (hBl : B ≤ l)
    (I : List α → (Nat → Prop) → World → Prop) (Ix : Code → List α → (Nat → Prop) → World → Prop) (Im : List α → α → (Nat → Prop) → World → Prop) (hI : Inv B I) (hIm : ∀ x, Inv B (fun q => Im q x)) (hIx : ∀ c, Inv B (Ix c)) (a₁ : α → Act)
    (rec : LoopState → Option Code → Loop) (hrec : rec = fun st pe => { state := st, pending := pe, fn, tmps := a.tmps, params := ps, assign, body, defers := df })
    (hassign : ∀ (l : Nat) (x : α) (W : World) (K : Act → World → Prop), K (a₁ x) W →
      assign.wpIn (Fence.wide.inRound l) n P (Exit.then K (fun _ _ _ => False)) { tmps := (ps.zip #[enc x]).foldl (fun t (p, v) => t.setIfInBounds p v) a.tmps, defers := [] } W)
    {pre : List α} {x : α} (hlD : l ≠ D)
    (hbody : ∀ (H1 : Nat → Prop) (W1 : World), Im pre x H1 W1 → ¬ H1 l → (∃ r, W1.heap[l]? = some (.loop r)) →
      body.wpIn (Fence.wide.inRound l) n P (seqPost I Ix (pre ++ [x]) H1 W1) (a₁ x) W1)
    {H : Nat → Prop} {W : World} (hJ : Beside (fun q => Im q x) l D (.loop (rec .ready none)) dd pre H W) :
    YieldAt Fence.wide 0 P l #[enc x] W (RoundR (Beside I l D (.loop (rec .ready none)) dd) (fun q H' W' => ∃ c, Beside (Ix c) l D (.loop (rec .done (some c))) dd q H' W') (pre ++ [x]) H W) := by
  obtain ⟨H1, rfl, h1, h2, hi, hl, hd⟩ := hJ
  have hlt : l < W.heap.size := (Array.getElem?_eq_some_iff.1 hl).1
  have hDlt : D < W.heap.size := (Array.getElem?_eq_some_iff.1 hd).1
  have hy := run_yield (P := P) (args := #[enc x]) hl (by rw [hrec]; simp [hps])
  rw [hrec] at hy
  refine ⟨fn, _, assign, body, hy, roundIn_wide (n := n) (roundIn_of_wpIn trivial (hassign _ x W _ ⟨_, run_beginRound hl (by rw [hrec]), ?_⟩))⟩
  have hl2 : (W.putObj l (.loop { rec .ready none with state := .busy })).heap[l]? = some (.loop { rec .ready none with state := .busy }) := World.putObj_heap_same hlt
  have hd2 : (W.putObj l (.loop { rec .ready none with state := .busy })).heap[D]? = some dd := (World.putObj_heap_other (Ne.symm hlD)).trans hd
  have ho2 : Only (fun b => H1 b ∨ b = l ∨ b = D) W (W.putObj l (.loop { rec .ready none with state := .busy })) := Only.putObj (.inl (.inr (.inl rfl))) _
  refine wpIn_mono (hbody H1 _ ((hIm x).putObj hi hBl h1 _) h1 ⟨_, hl2⟩) ?_
  have fin : ∀ (jump : Option Code) (H3 : Nat → Prop) (W3 : World), Grows H1 (W.putObj l (.loop { rec .ready none with state := .busy })) H3 → Only H1 (W.putObj l (.loop { rec .ready none with state := .busy })) W3 →
      (Instr.endRound l jump).run P W3 = .ok (.bool jump.isNone) (W3.putObj l (.loop (rec (if jump.isNone then .ready else .done) jump))) ∧
      (W3.putObj l (.loop (rec (if jump.isNone then .ready else .done) jump))).heap[l]? = some (.loop (rec (if jump.isNone then .ready else .done) jump)) ∧
      (W3.putObj l (.loop (rec (if jump.isNone then .ready else .done) jump))).heap[D]? = some dd ∧ ¬ H3 l ∧ ¬ H3 D ∧
      Grows (fun b => H1 b ∨ b = l ∨ b = D) W (fun b => H3 b ∨ b = l ∨ b = D) ∧
      Only (fun b => H1 b ∨ b = l ∨ b = D) W (W3.putObj l (.loop (rec (if jump.isNone then .ready else .done) jump))) := fun jump H3 W3 hg3 ho3 => by
    have hl3 := (ho3.block l (by simpa using hlt) h1).trans hl2
    have hd3 := (ho3.block D (by simpa using hDlt) h2).trans hd2
    have hr := run_endRound (P := P) jump hl3
    have h3l : ¬ H3 l := fun e => (hg3 l e).elim h1 (fun e' => by simp at e'; omega)
    have h3D : ¬ H3 D := fun e => (hg3 D e).elim h2 (fun e' => by simp at e'; omega)
    refine ⟨?_, World.putObj_heap_same (Array.getElem?_eq_some_iff.1 hl3).1, (World.putObj_heap_other (Ne.symm hlD)).trans hd3, h3l, h3D, ?_, ?_⟩
    · rw [hrec] at hr ⊢; exact hr
    · rintro b (hb | hb)
      · exact (hg3 b hb).elim (fun e => .inl (.inl e)) (fun e => .inr (by simpa using e))
      · exact .inl (.inr hb)
    · refine (ho2.trans ho3 (fun b hb => .inl (.inl hb))).trans (Only.putObj (H := fun b => b = l) (.inl rfl) _) (fun b hb => .inl (.inr (.inl hb)))
  rintro e a3 W3 hp
  cases e with
  | normal =>
    obtain ⟨H3, hg3, ho3, hi3⟩ := hp
    obtain ⟨hr, hl4, hd4, h3l, h3D, hg4, ho4⟩ := fin none H3 W3 hg3 ho3
    exact ⟨_, _, hr, _, hg4, ho4, .inl ⟨rfl, H3, rfl, h3l, h3D, hI.putObj hi3 hBl h3l _, hl4, hd4⟩⟩
  | ret =>
    obtain ⟨H3, hg3, ho3, hi3⟩ := hp
    obtain ⟨hr, hl4, hd4, h3l, h3D, hg4, ho4⟩ := fin (some .ret) H3 W3 hg3 ho3
    exact ⟨_, _, hr, _, hg4, ho4, .inr ⟨rfl, .ret, H3, rfl, h3l, h3D, (hIx _).putObj hi3 hBl h3l _, hl4, hd4⟩⟩
  | exit id =>
    obtain ⟨H3, hg3, ho3, hi3⟩ := hp
    obtain ⟨hr, hl4, hd4, h3l, h3D, hg4, ho4⟩ := fin (some (.exit id)) H3 W3 hg3 ho3
    exact ⟨_, _, hr, _, hg4, ho4, .inr ⟨rfl, .exit id, H3, rfl, h3l, h3D, (hIx _).putObj hi3 hBl h3l _, hl4, hd4⟩⟩
  | goto t =>
    obtain ⟨H3, hg3, ho3, hi3⟩ := hp
    obtain ⟨hr, hl4, hd4, h3l, h3D, hg4, ho4⟩ := fin (some (.goto t)) H3 W3 hg3 ho3
    exact ⟨_, _, hr, _, hg4, ho4, .inr ⟨rfl, .goto t, H3, rfl, h3l, h3D, (hIx _).putObj hi3 hBl h3l _, hl4, hd4⟩⟩
  | panic ch => exact hp.elim
  | outgrown => exact hp.elim


theorem wpIn_rangeFunc_seqE {α : Type} {n : Nat} {P : Program} {g : Operand} {ps : Array Tmp} {assign body : Code} {Q : Exit → Act → World → Prop} {a : Act} {w : World}
    {s : Value} {C : Nat → Prop} {enc : α → Value} {xs : List α} {Cc TC : Nat} (hg : a.eval g = s) (hseq : SeqE P s C enc xs Cc TC w) (H : Nat → Prop) (hCH : ∀ b, C b → ¬ H b) (hps : ps.size = 1)
    (I : List α → (Nat → Prop) → World → Prop) (Ix : Code → List α → (Nat → Prop) → World → Prop) (Im : List α → α → (Nat → Prop) → World → Prop) (hI : Inv w.heap.size I) (hIm : ∀ x, Inv w.heap.size (fun q => Im q x)) (hinc : Incs Cc TC xs I Im) (hIx : ∀ c, Inv w.heap.size (Ix c)) (h0 : I [] H w) (a₁ : α → Act)
    (hassign : ∀ (l : Nat) (x : α) (W : World) (K : Act → World → Prop), K (a₁ x) W →
      assign.wpIn (Fence.wide.inRound l) n P (Exit.then K (fun _ _ _ => False)) { tmps := (ps.zip #[enc x]).foldl (fun t (p, v) => t.setIfInBounds p v) a.tmps, defers := [] } W)
    (hbody : ∀ (l : Nat) (pre : List α) (x : α) (rest : List α) (H1 : Nat → Prop) (W1 : World), xs = pre ++ x :: rest → Im pre x H1 W1 → w.heap.size ≤ l → ¬ H1 l → (∃ r, W1.heap[l]? = some (.loop r)) →
      body.wpIn (Fence.wide.inRound l) n P (seqPost I Ix (pre ++ [x]) H1 W1) (a₁ x) W1)
    (hdone : ∀ (D : Nat) (H1 : Nat → Prop) (W1 : World), I xs H1 W1 → Grows H w H1 → Only H w W1 → w.heap.size ≤ D → ¬ H1 D → W1.heap[D]? = some (.deferred (some [])) →
      Q .normal { a with defers := { target := .collected D, args := #[] } :: a.defers } W1)
    (hstop : ∀ (D : Nat) (c : Code) (pre : List α) (H1 : Nat → Prop) (W1 : World), pre <+: xs → Ix c pre H1 W1 → Grows H w H1 → Only H w W1 → w.heap.size ≤ D → ¬ H1 D → W1.heap[D]? = some (.deferred (some [])) →
      c.wpIn Fence.wide n P Q { a with defers := { target := .collected D, args := #[] } :: a.defers } W1) :
    (Code.rangeFunc g ps assign body).wpIn Fence.wide n P Q a w := by
  refine wpIn_rangeFunc ?_
  intro fn hfn
  obtain ⟨rec, hrec⟩ : ∃ rec : LoopState → Option Code → Loop, rec = fun st pe => { state := st, pending := pe, fn, tmps := a.tmps, params := ps, assign, body, defers := w.heap.size } := ⟨_, rfl⟩
  obtain ⟨W1, hW1⟩ : ∃ W1, (w.alloc (.deferred (some []))).alloc (.loop (rec .ready none)) = W1 := ⟨_, rfl⟩
  have hL1 : W1.heap[w.heap.size + 1]? = some (.loop (rec .ready none)) := by
    rw [← hW1]; have := World.alloc_heap_new (w.alloc (.deferred (some []))) (.loop (rec .ready none)); rwa [World.size_alloc] at this
  have hK1 : W1.heap[w.heap.size]? = some (.deferred (some [])) := by
    rw [← hW1]; exact (Below.heap_alloc _ _ _ (by simp)).trans (World.alloc_heap_new w _)
  have hsz : W1.heap.size = w.heap.size + 2 := by rw [← hW1]; simp
  have hHlt := hI.lt _ _ _ h0
  have hHl : ¬ H (w.heap.size + 1) := fun e => by have := hHlt _ e; omega
  have hHD : ¬ H w.heap.size := fun e => by have := hHlt _ e; omega
  have hI1 : I [] H W1 := by rw [← hW1]; exact hI.alloc (hI.alloc h0 _) _
  have ho1 : Only H w W1 := by rw [← hW1]; exact (Only.alloc H w _).trans (Only.alloc H _ _) (Grows.refl _ _)
  have hJ0 : Beside I (w.heap.size + 1) w.heap.size (.loop (rec .ready none)) (.deferred (some [])) [] (fun b => H b ∨ b = w.heap.size + 1 ∨ b = w.heap.size) W1 := ⟨H, rfl, hHl, hHD, hI1, hL1, hK1⟩
  obtain ⟨hClt, gf, lb, rfl, he, hseq2⟩ := hseq
  have hc := hseq2 (.func (.yield (w.heap.size + 1)) #[] #[]) (Beside I (w.heap.size + 1) w.heap.size (.loop (rec .ready none)) (.deferred (some [])))
    (fun q H' W' => ∃ c, Beside (Ix c) (w.heap.size + 1) w.heap.size (.loop (rec .done (some c))) (.deferred (some [])) q H' W') (fun q x => Beside (fun q => Im q x) (w.heap.size + 1) w.heap.size (.loop (rec .ready none)) (.deferred (some [])) q) (fun b => H b ∨ b = w.heap.size + 1 ∨ b = w.heap.size) W1 ⟨_, _, rfl⟩
    (fun b hb => ho1.block b (hClt b hb) (hCH b hb)) (fun b hb => by have := hClt b hb; rintro (e | e | e); exact hCH b hb e; omega; omega)
    ((Beside.inv hI _ _ _ _).mono (by omega)) ((Inv.some fun c => Beside.inv (hIx c) _ _ _ _).mono (by omega)) (fun x => (Beside.inv (hIm x) _ _ _ _).mono (by omega)) (by
      rintro pre x rest H1 W2 hx ⟨H0, rfl, h1, h2, hi, hl, hd⟩
      obtain ⟨hcc, v, hv, hbv, hjm⟩ := hinc pre x rest H0 W2 hx hi
      have n1 : Cc ≠ w.heap.size + 1 := fun e => h1 (e ▸ hcc)
      have n2 : Cc ≠ w.heap.size := fun e => h2 (e ▸ hcc)
      have hst := Only.setCell (H := fun k => k = Cc) (w := W2) (a := ⟨Cc, 0, none⟩) (.inl rfl) (.int .i64 (v + 1 : Nat))
      exact ⟨.inl hcc, v, hv, hbv, H0, rfl, h1, h2, hjm, (hst.block _ (Array.getElem?_eq_some_iff.1 hl).1 (fun e => n1 e.symm)).trans hl, (hst.block _ (Array.getElem?_eq_some_iff.1 hd).1 (fun e => n2 e.symm)).trans hd⟩)
    (fun pre x rest H1 W2 hx hj => .inr ⟨_, rfl, round_seqE (D := w.heap.size) hps (by omega) I Ix Im hI hIm hIx a₁ rec hrec hassign (by omega) (fun H3 W3 hi3 hl3 hr3 => hbody _ pre x rest H3 W3 hx hi3 (by omega) hl3 hr3) hj⟩) hJ0
  have hpost : ∀ e W2, EndR (Beside I (w.heap.size + 1) w.heap.size (.loop (rec .ready none)) (.deferred (some []))) (fun q H' W' => ∃ c, Beside (Ix c) (w.heap.size + 1) w.heap.size (.loop (rec .done (some c))) (.deferred (some [])) q H' W') xs (fun b => H b ∨ b = w.heap.size + 1 ∨ b = w.heap.size) W1 e W2 →
      rangePost Fence.wide n P (w.heap.size + 1) Q { a with defers := [{ target := .collected w.heap.size, args := #[] }] ++ a.defers } e W2 := by
    rintro e W2 ⟨⟨v, rfl⟩, H2, hg2, ho2, hend⟩
    have hon : Only H w W2 := ho1.trans ho2 (fun b hb => hb.elim .inl (fun e => .inr (by omega)))
    rcases hend with ⟨H3, rfl, h3l, h3D, hi3, hl3, hd3⟩ | ⟨pre, hpre, c, H3, rfl, h3l, h3D, hi3, hl3, hd3⟩
    all_goals
      have hgr : Grows H w H3 := fun b hb => (hg2 b (.inl hb)).elim (fun e => e.elim .inl (fun e => .inr (by omega))) (fun e => .inr (by omega))
      have hop : ∀ o, Only H w (W2.putObj (w.heap.size + 1) o) := fun o => hon.trans (Only.putObj (H := fun b => b = w.heap.size + 1) (.inl rfl) _) (fun b hb => .inr (by omega))
    · exact ⟨none, _, by have := run_endLoop (P := P) hl3 (by rw [hrec]; simp); rw [hrec] at this; exact this,
        hdone _ H3 _ (hI.putObj hi3 (by omega) h3l _) hgr (hop _) (Nat.le_refl _) h3D ((World.putObj_heap_other (by omega)).trans hd3)⟩
    · exact ⟨some c, _, by have := run_endLoop (P := P) hl3 (by rw [hrec]; simp); rw [hrec] at this; exact this,
        hstop _ c pre H3 _ hpre ((hIx c).putObj hi3 (by omega) h3l _) hgr (hop _) (Nat.le_refl _) h3D ((World.putObj_heap_other (by omega)).trans hd3)⟩
  refine ⟨w.heap.size + 1, [{ target := .collected w.heap.size, args := #[] }], W1, { target := .fn (.func gf) lb, args := #[.func (.yield (w.heap.size + 1)) #[] #[]] }, W1, gf,
    #[.func (.yield (w.heap.size + 1)) #[] #[]] ++ lb, W1, ?_, ?_, fun _ _ => trivial, ?_, (fun h => by simp [Fence.wide] at h), ?_⟩
  · rw [← hW1, hrec]; exact run_enterLoop_outer _ _ _ _ _
  · simp only [resolve, hg]
    simp [go_sem]
  · simp [invoke, go_sem, he _ _]
  · exact ((callsIn_wide (n := n - 1)).2 hc).mono hpost

end Go.Proofs.Ytdfnainibjgenaa
