/- Sequences in whatever order (a map's values): the frame. No program is named here. -/
import Derived.Test.YtikomlcghplchaaSeq
namespace Go.Proofs.Ytikomlcghplchaa
open Go.RowKit Go.Shelf
set_option linter.unusedVariables false
set_option linter.unusedSimpArgs false

/-- Behind the sequence's call. -/
def EndP {α : Type} (J Jx : List α → (Nat → Prop) → World → Prop) (ks : List α) (H : Nat → Prop) (W : World) (e : Ending) (W' : World) : Prop :=
  (∃ v, e = .returned v) ∧ ∃ H', Grows H W H' ∧ Only H W W' ∧ ((∃ xs, xs.Perm ks ∧ J xs H' W') ∨ ∃ pre, Jx pre H' W')
/-- THE VALUE s IS A SEQUENCE OF ks IN SOME ORDER, which may be another one each time. -/
def SeqP {α : Type} (P : Program) (s : Value) (C : Nat → Prop) (enc : α → Value) (ks : List α) (w0 : World) : Prop :=
  (∀ b, C b → b < w0.heap.size) ∧ ∃ g lb, s = .func (.func g) #[] lb ∧ Enters P g ∧
  ∀ (y : Value) (J Jx : List α → (Nat → Prop) → World → Prop) (H : Nat → Prop) (W : World), (∃ fn lb, y = .func fn #[] lb) →
    (∀ b, C b → W.heap[b]? = w0.heap[b]?) → (∀ b, C b → ¬ H b) → Inv W.heap.size J → Inv W.heap.size Jx →
    (∀ pre x H1 W1, (∃ rest, (pre ++ x :: rest).Perm ks) → J pre H1 W1 → CallV P y #[enc x] W1 (RoundR J Jx (pre ++ [x]) H1 W1)) →
    J [] H W → Calls P g (#[y] ++ lb) W (EndP J Jx ks H W)
theorem SeqP.func {α : Type} {P : Program} {s : Value} {C : Nat → Prop} {enc : α → Value} {xs : List α} {w0 : World} (h : SeqP P s C enc xs w0) : ∃ gs ls, s = .func (.func gs) #[] ls := by
  obtain ⟨_, gs, ls, hs, _⟩ := h; exact ⟨gs, ls, hs⟩
theorem SeqP.later {α : Type} {P : Program} {s : Value} {C : Nat → Prop} {enc : α → Value} {xs : List α} {w0 w : World} (h : SeqP P s C enc xs w0) (hC : ∀ b, C b → w.heap[b]? = w0.heap[b]?) : SeqP P s C enc xs w := by
  obtain ⟨h1, g, lb, e, he, hc⟩ := h
  refine ⟨fun b hb => ?_, g, lb, e, he, fun y J Jx H W hy hW => hc y J Jx H W hy fun b hb => (hW b hb).trans (hC b hb)⟩
  have h2 := hC b hb
  rw [Array.getElem?_eq_getElem (h1 b hb)] at h2
  exact (Array.getElem?_eq_some_iff.1 h2).1
theorem SeqP.only {α : Type} {P : Program} {s : Value} {C : Nat → Prop} {enc : α → Value} {xs : List α} {w0 w : World} {H : Nat → Prop} (h : SeqP P s C enc xs w0) (ho : Only H w0 w) (hC : ∀ b, C b → ¬ H b) : SeqP P s C enc xs w :=
  h.later fun b hb => ho.block b (h.1 b hb) (hC b hb)
theorem SeqP.below {α : Type} {P : Program} {s : Value} {C : Nat → Prop} {enc : α → Value} {xs : List α} {w0 w : World} (h : SeqP P s C enc xs w0) (ho : Below w0.heap.size w0 w) : SeqP P s C enc xs w :=
  h.later fun b hb => ho.block b (h.1 b hb)

/-- **'for x := range s { .. }', s A SEQUENCE OF xs**, outside every other such loop. -/
theorem wpIn_rangeFunc_seqP {α : Type} {n : Nat} {P : Program} {g : Operand} {ps : Array Tmp} {assign body : Code} {Q : Exit → Act → World → Prop} {a : Act} {w : World}
    {s : Value} {C : Nat → Prop} {enc : α → Value} {ks : List α} (hg : a.eval g = s) (hseq : SeqP P s C enc ks w) (H : Nat → Prop) (hCH : ∀ b, C b → ¬ H b) (hps : ps.size = 1)
    (I : List α → (Nat → Prop) → World → Prop) (Ix : Code → List α → (Nat → Prop) → World → Prop) (hI : Inv w.heap.size I) (hIx : ∀ c, Inv w.heap.size (Ix c)) (h0 : I [] H w) (a₁ : α → Act)
    (hassign : ∀ (l : Nat) (x : α) (W : World) (K : Act → World → Prop), K (a₁ x) W →
      assign.wpIn (Fence.wide.inRound l) n P (Exit.then K (fun _ _ _ => False)) { tmps := (ps.zip #[enc x]).foldl (fun t (p, v) => t.setIfInBounds p v) a.tmps, defers := [] } W)
    (hbody : ∀ (l : Nat) (pre : List α) (x : α) (H1 : Nat → Prop) (W1 : World), (∃ rest, (pre ++ x :: rest).Perm ks) → I pre H1 W1 → w.heap.size ≤ l → ¬ H1 l → (∃ r, W1.heap[l]? = some (.loop r)) →
      body.wpIn (Fence.wide.inRound l) n P (seqPost I Ix (pre ++ [x]) H1 W1) (a₁ x) W1)
    (hdone : ∀ (D : Nat) (xs : List α) (H1 : Nat → Prop) (W1 : World), xs.Perm ks → I xs H1 W1 → Grows H w H1 → Only H w W1 → w.heap.size ≤ D → ¬ H1 D → W1.heap[D]? = some (.deferred (some [])) →
      Q .normal { a with defers := { target := .collected D, args := #[] } :: a.defers } W1)
    (hstop : ∀ (D : Nat) (c : Code) (pre : List α) (H1 : Nat → Prop) (W1 : World), Ix c pre H1 W1 → Grows H w H1 → Only H w W1 → w.heap.size ≤ D → ¬ H1 D → W1.heap[D]? = some (.deferred (some [])) →
      c.wpIn Fence.wide n P Q { a with defers := { target := .collected D, args := #[] } :: a.defers } W1) :
    (Code.rangeFunc g ps assign body).wpIn Fence.wide n P Q a w := by
  refine wpIn_rangeFunc ?_
  intro fn hfn
  obtain ⟨rec, hrec⟩ : ∃ rec : LoopState → Option Code → Loop, rec = fun st pe => { state := st, pending := pe, fn, tmps := a.tmps, params := ps, assign, body, defers := w.heap.size } := ⟨_, rfl⟩
  obtain ⟨W1, hW1⟩ : ∃ W1, (w.alloc (.deferred (some []))).alloc (.loop (rec .ready none)) = W1 := ⟨_, rfl⟩
  have hL1 : W1.heap[w.heap.size + 1]? = some (.loop (rec .ready none)) := by
    rw [← hW1]; have := World.alloc_heap_new (w.alloc (.deferred (some []))) (.loop (rec .ready none)); rwa [World.size_alloc] at this
  have hK1 : W1.heap[w.heap.size]? = some (.deferred (some [])) := by
    rw [← hW1]; exact (Below.heap_alloc _ _ _ (by simp)).trans (World.alloc_heap_new w _)
  have hsz : W1.heap.size = w.heap.size + 2 := by rw [← hW1]; simp
  have hHlt := hI.lt _ _ _ h0
  have hHl : ¬ H (w.heap.size + 1) := fun e => by have := hHlt _ e; omega
  have hHD : ¬ H w.heap.size := fun e => by have := hHlt _ e; omega
  have hI1 : I [] H W1 := by rw [← hW1]; exact hI.alloc (hI.alloc h0 _) _
  have ho1 : Only H w W1 := by rw [← hW1]; exact (Only.alloc H w _).trans (Only.alloc H _ _) (Grows.refl _ _)
  have hJ0 : Beside I (w.heap.size + 1) w.heap.size (.loop (rec .ready none)) (.deferred (some [])) [] (fun b => H b ∨ b = w.heap.size + 1 ∨ b = w.heap.size) W1 := ⟨H, rfl, hHl, hHD, hI1, hL1, hK1⟩
  obtain ⟨hClt, gf, lb, rfl, he, hseq2⟩ := hseq
  have hc := hseq2 (.func (.yield (w.heap.size + 1)) #[] #[]) (Beside I (w.heap.size + 1) w.heap.size (.loop (rec .ready none)) (.deferred (some [])))
    (fun q H' W' => ∃ c, Beside (Ix c) (w.heap.size + 1) w.heap.size (.loop (rec .done (some c))) (.deferred (some [])) q H' W') (fun b => H b ∨ b = w.heap.size + 1 ∨ b = w.heap.size) W1 ⟨_, _, rfl⟩
    (fun b hb => ho1.block b (hClt b hb) (hCH b hb)) (fun b hb => by have := hClt b hb; rintro (e | e | e); exact hCH b hb e; omega; omega)
    ((Beside.inv hI _ _ _ _).mono (by omega)) ((Inv.some fun c => Beside.inv (hIx c) _ _ _ _).mono (by omega))
    (fun pre x H1 W2 hx hj => .inr ⟨_, rfl, round_seq (D := w.heap.size) hps (by omega) I Ix hI hIx a₁ rec hrec hassign (by omega) (fun H3 W3 hi3 hl3 hr3 => hbody _ pre x H3 W3 hx hi3 (by omega) hl3 hr3) hj⟩) hJ0
  have hpost : ∀ e W2, EndP (Beside I (w.heap.size + 1) w.heap.size (.loop (rec .ready none)) (.deferred (some []))) (fun q H' W' => ∃ c, Beside (Ix c) (w.heap.size + 1) w.heap.size (.loop (rec .done (some c))) (.deferred (some [])) q H' W') ks (fun b => H b ∨ b = w.heap.size + 1 ∨ b = w.heap.size) W1 e W2 →
      rangePost Fence.wide n P (w.heap.size + 1) Q { a with defers := [{ target := .collected w.heap.size, args := #[] }] ++ a.defers } e W2 := by
    rintro e W2 ⟨⟨v, rfl⟩, H2, hg2, ho2, hend⟩
    have hon : Only H w W2 := ho1.trans ho2 (fun b hb => hb.elim .inl (fun e => .inr (by omega)))
    rcases hend with ⟨xs, hperm, H3, rfl, h3l, h3D, hi3, hl3, hd3⟩ | ⟨pre, c, H3, rfl, h3l, h3D, hi3, hl3, hd3⟩
    all_goals
      have hgr : Grows H w H3 := fun b hb => (hg2 b (.inl hb)).elim (fun e => e.elim .inl (fun e => .inr (by omega))) (fun e => .inr (by omega))
      have hop : ∀ o, Only H w (W2.putObj (w.heap.size + 1) o) := fun o => hon.trans (Only.putObj (H := fun b => b = w.heap.size + 1) (.inl rfl) _) (fun b hb => .inr (by omega))
    · exact ⟨none, _, by have := run_endLoop (P := P) hl3 (by rw [hrec]; simp); rw [hrec] at this; exact this,
        hdone _ xs H3 _ hperm (hI.putObj hi3 (by omega) h3l _) hgr (hop _) (Nat.le_refl _) h3D ((World.putObj_heap_other (by omega)).trans hd3)⟩
    · exact ⟨some c, _, by have := run_endLoop (P := P) hl3 (by rw [hrec]; simp); rw [hrec] at this; exact this,
        hstop _ c pre H3 _ ((hIx c).putObj hi3 (by omega) h3l _) hgr (hop _) (Nat.le_refl _) h3D ((World.putObj_heap_other (by omega)).trans hd3)⟩
  refine ⟨w.heap.size + 1, [{ target := .collected w.heap.size, args := #[] }], W1, { target := .fn (.func gf) lb, args := #[.func (.yield (w.heap.size + 1)) #[] #[]] }, W1, gf,
    #[.func (.yield (w.heap.size + 1)) #[] #[]] ++ lb, W1, ?_, ?_, fun _ _ => trivial, ?_, (fun h => by simp [Fence.wide] at h), ?_⟩
  · rw [← hW1, hrec]; exact run_enterLoop_outer _ _ _ _ _
  · simp only [resolve, hg]
    simp [go_sem]
  · simp [invoke, go_sem, he _ _]
  · exact ((callsIn_wide (n := n - 1)).2 hc).mono hpost

end Go.Proofs.Ytikomlcghplchaa
