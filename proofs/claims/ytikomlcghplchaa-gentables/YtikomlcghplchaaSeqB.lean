/- Loops over sequences whose loop variable lies in a box (structs). No program is named here. -/
import Derived.Test.YtikomlcghplchaaSeqP
namespace Go.Proofs.Ytikomlcghplchaa
open Go.RowKit Go.Shelf
set_option linter.unusedVariables false
set_option linter.unusedSimpArgs false

/-- One round, out of the body's walk. -/
theorem round_seqB {α : Type} {n : Nat} {P : Program} {fn : FuncId} {a : Act} {assign body : Code} {ps : Array Tmp} {enc : α → Value} {l D df B : Nat} {dd : Obj} (hps : ps.size = 1) (hBl : B ≤ l)
    (I : List α → (Nat → Prop) → World → Prop) (Ix : Code → List α → (Nat → Prop) → World → Prop) (hI : Inv B I) (hIx : ∀ c, Inv B (Ix c)) (ob : α → Obj) (a₁ : α → Nat → Act)
    (rec : LoopState → Option Code → Loop) (hrec : rec = fun st pe => { state := st, pending := pe, fn, tmps := a.tmps, params := ps, assign, body, defers := df })
    (hassign : ∀ (l : Nat) (x : α) (W : World) (K : Act → World → Prop), K (a₁ x W.heap.size) (W.alloc (ob x)) →
      assign.wpIn (Fence.wide.inRound l) n P (Exit.then K (fun _ _ _ => False)) { tmps := (ps.zip #[enc x]).foldl (fun t (p, v) => t.setIfInBounds p v) a.tmps, defers := [] } W)
    {pre : List α} {x : α} (hlD : l ≠ D)
    (hbody : ∀ (H1 : Nat → Prop) (W1 : World), I pre H1 W1 → ¬ H1 l → (∃ r, W1.heap[l]? = some (.loop r)) → ∀ Bx, W1.heap[Bx]? = some (ob x) → ¬ H1 Bx → Bx ≠ l →
      body.wpIn (Fence.wide.inRound l) n P (seqPost I Ix (pre ++ [x]) H1 W1) (a₁ x Bx) W1)
    {H : Nat → Prop} {W : World} (hJ : Beside I l D (.loop (rec .ready none)) dd pre H W) :
    YieldAt Fence.wide 0 P l #[enc x] W (RoundR (Beside I l D (.loop (rec .ready none)) dd) (fun q H' W' => ∃ c, Beside (Ix c) l D (.loop (rec .done (some c))) dd q H' W') (pre ++ [x]) H W) := by
  obtain ⟨H1, rfl, h1, h2, hi, hl, hd⟩ := hJ
  have hlt : l < W.heap.size := (Array.getElem?_eq_some_iff.1 hl).1
  have hDlt : D < W.heap.size := (Array.getElem?_eq_some_iff.1 hd).1
  have hy := run_yield (P := P) (args := #[enc x]) hl (by rw [hrec]; simp [hps])
  rw [hrec] at hy
  have hi' := hI.alloc hi (ob x)
  have hl' : (W.alloc (ob x)).heap[l]? = some (.loop (rec .ready none)) := (Below.heap_alloc W (ob x) l hlt).trans hl
  have hd' : (W.alloc (ob x)).heap[D]? = some dd := (Below.heap_alloc W (ob x) D hDlt).trans hd
  have hbx : (W.alloc (ob x)).heap[W.heap.size]? = some (ob x) := World.alloc_heap_new W _
  have hHB : ¬ H1 W.heap.size := fun e => by have := hI.lt _ _ _ hi _ e; omega
  have hsV : W.heap.size ≤ (W.alloc (ob x)).heap.size := by simp
  have hoV : ∀ {X : Nat → Prop} {Z : World}, Only X (W.alloc (ob x)) Z → Only X W Z := fun h => (Only.alloc _ _ _).trans h (Grows.refl _ _)
  have hgV : ∀ {X Y : Nat → Prop}, Grows X (W.alloc (ob x)) Y → Grows X W Y := fun h k hk => (h k hk).imp id (Nat.le_trans hsV)
  have hBW : W.heap.size ≠ l := by omega
  refine ⟨fn, _, assign, body, hy, roundIn_wide (n := n) (roundIn_of_wpIn trivial (hassign _ x W _ ⟨_, run_beginRound hl' (by rw [hrec]), ?_⟩))⟩
  generalize hBx : W.heap.size = Bx at *
  clear hy hi hl hd
  have hlt : l < (W.alloc (ob x)).heap.size := (Array.getElem?_eq_some_iff.1 hl').1
  have hDlt : D < (W.alloc (ob x)).heap.size := (Array.getElem?_eq_some_iff.1 hd').1
  generalize W.alloc (ob x) = V at *
  have hl2 : (V.putObj l (.loop { rec .ready none with state := .busy })).heap[l]? = some (.loop { rec .ready none with state := .busy }) := World.putObj_heap_same hlt
  have hd2 : (V.putObj l (.loop { rec .ready none with state := .busy })).heap[D]? = some dd := (World.putObj_heap_other (Ne.symm hlD)).trans hd'
  have ho2 : Only (fun b => H1 b ∨ b = l ∨ b = D) V (V.putObj l (.loop { rec .ready none with state := .busy })) := Only.putObj (.inl (.inr (.inl rfl))) _
  refine wpIn_mono (hbody H1 _ (hI.putObj hi' hBl h1 _) h1 ⟨_, hl2⟩ Bx ((World.putObj_heap_other hBW).trans hbx) hHB hBW) ?_
  have fin : ∀ (jump : Option Code) (H3 : Nat → Prop) (W3 : World), Grows H1 (V.putObj l (.loop { rec .ready none with state := .busy })) H3 → Only H1 (V.putObj l (.loop { rec .ready none with state := .busy })) W3 →
      (Instr.endRound l jump).run P W3 = .ok (.bool jump.isNone) (W3.putObj l (.loop (rec (if jump.isNone then .ready else .done) jump))) ∧
      (W3.putObj l (.loop (rec (if jump.isNone then .ready else .done) jump))).heap[l]? = some (.loop (rec (if jump.isNone then .ready else .done) jump)) ∧
      (W3.putObj l (.loop (rec (if jump.isNone then .ready else .done) jump))).heap[D]? = some dd ∧ ¬ H3 l ∧ ¬ H3 D ∧
      Grows (fun b => H1 b ∨ b = l ∨ b = D) V (fun b => H3 b ∨ b = l ∨ b = D) ∧
      Only (fun b => H1 b ∨ b = l ∨ b = D) V (W3.putObj l (.loop (rec (if jump.isNone then .ready else .done) jump))) := fun jump H3 W3 hg3 ho3 => by
    have hl3 := (ho3.block l (by simpa using hlt) h1).trans hl2
    have hd3 := (ho3.block D (by simpa using hDlt) h2).trans hd2
    have hr := run_endRound (P := P) jump hl3
    have h3l : ¬ H3 l := fun e => (hg3 l e).elim h1 (fun e' => by simp at e'; omega)
    have h3D : ¬ H3 D := fun e => (hg3 D e).elim h2 (fun e' => by simp at e'; omega)
    refine ⟨?_, World.putObj_heap_same (Array.getElem?_eq_some_iff.1 hl3).1, (World.putObj_heap_other (Ne.symm hlD)).trans hd3, h3l, h3D, ?_, ?_⟩
    · rw [hrec] at hr ⊢; exact hr
    · rintro b (hb | hb)
      · exact (hg3 b hb).elim (fun e => .inl (.inl e)) (fun e => .inr (by simpa using e))
      · exact .inl (.inr hb)
    · refine (ho2.trans ho3 (fun b hb => .inl (.inl hb))).trans (Only.putObj (H := fun b => b = l) (.inl rfl) _) (fun b hb => .inl (.inr (.inl hb)))
  rintro e a3 W3 hp
  cases e with
  | normal =>
    obtain ⟨H3, hg3, ho3, hi3⟩ := hp
    obtain ⟨hr, hl4, hd4, h3l, h3D, hg4, ho4⟩ := fin none H3 W3 hg3 ho3
    exact ⟨_, _, hr, _, hgV hg4, hoV ho4, .inl ⟨rfl, H3, rfl, h3l, h3D, hI.putObj hi3 hBl h3l _, hl4, hd4⟩⟩
  | ret =>
    obtain ⟨H3, hg3, ho3, hi3⟩ := hp
    obtain ⟨hr, hl4, hd4, h3l, h3D, hg4, ho4⟩ := fin (some .ret) H3 W3 hg3 ho3
    exact ⟨_, _, hr, _, hgV hg4, hoV ho4, .inr ⟨rfl, .ret, H3, rfl, h3l, h3D, (hIx _).putObj hi3 hBl h3l _, hl4, hd4⟩⟩
  | exit id =>
    obtain ⟨H3, hg3, ho3, hi3⟩ := hp
    obtain ⟨hr, hl4, hd4, h3l, h3D, hg4, ho4⟩ := fin (some (.exit id)) H3 W3 hg3 ho3
    exact ⟨_, _, hr, _, hgV hg4, hoV ho4, .inr ⟨rfl, .exit id, H3, rfl, h3l, h3D, (hIx _).putObj hi3 hBl h3l _, hl4, hd4⟩⟩
  | goto t =>
    obtain ⟨H3, hg3, ho3, hi3⟩ := hp
    obtain ⟨hr, hl4, hd4, h3l, h3D, hg4, ho4⟩ := fin (some (.goto t)) H3 W3 hg3 ho3
    exact ⟨_, _, hr, _, hgV hg4, hoV ho4, .inr ⟨rfl, .goto t, H3, rfl, h3l, h3D, (hIx _).putObj hi3 hBl h3l _, hl4, hd4⟩⟩
  | panic ch => exact hp.elim
  | outgrown => exact hp.elim


theorem wpIn_rangeFunc_seqB {α : Type} {n : Nat} {P : Program} {g : Operand} {ps : Array Tmp} {assign body : Code} {Q : Exit → Act → World → Prop} {a : Act} {w : World}
    {s : Value} {C : Nat → Prop} {enc : α → Value} {xs : List α} (hg : a.eval g = s) (hseq : SeqV P s C enc xs w) (H : Nat → Prop) (hCH : ∀ b, C b → ¬ H b) (hps : ps.size = 1)
    (I : List α → (Nat → Prop) → World → Prop) (Ix : Code → List α → (Nat → Prop) → World → Prop) (hI : Inv w.heap.size I) (hIx : ∀ c, Inv w.heap.size (Ix c)) (h0 : I [] H w) (ob : α → Obj) (a₁ : α → Nat → Act)
    (hassign : ∀ (l : Nat) (x : α) (W : World) (K : Act → World → Prop), K (a₁ x W.heap.size) (W.alloc (ob x)) →
      assign.wpIn (Fence.wide.inRound l) n P (Exit.then K (fun _ _ _ => False)) { tmps := (ps.zip #[enc x]).foldl (fun t (p, v) => t.setIfInBounds p v) a.tmps, defers := [] } W)
    (hbody : ∀ (l : Nat) (pre : List α) (x : α) (rest : List α) (H1 : Nat → Prop) (W1 : World), xs = pre ++ x :: rest → I pre H1 W1 → w.heap.size ≤ l → ¬ H1 l → (∃ r, W1.heap[l]? = some (.loop r)) → ∀ Bx, W1.heap[Bx]? = some (ob x) → ¬ H1 Bx → Bx ≠ l →
      body.wpIn (Fence.wide.inRound l) n P (seqPost I Ix (pre ++ [x]) H1 W1) (a₁ x Bx) W1)
    (hdone : ∀ (D : Nat) (H1 : Nat → Prop) (W1 : World), I xs H1 W1 → Grows H w H1 → Only H w W1 → w.heap.size ≤ D → ¬ H1 D → W1.heap[D]? = some (.deferred (some [])) →
      Q .normal { a with defers := { target := .collected D, args := #[] } :: a.defers } W1)
    (hstop : ∀ (D : Nat) (c : Code) (pre : List α) (H1 : Nat → Prop) (W1 : World), pre <+: xs → Ix c pre H1 W1 → Grows H w H1 → Only H w W1 → w.heap.size ≤ D → ¬ H1 D → W1.heap[D]? = some (.deferred (some [])) →
      c.wpIn Fence.wide n P Q { a with defers := { target := .collected D, args := #[] } :: a.defers } W1) :
    (Code.rangeFunc g ps assign body).wpIn Fence.wide n P Q a w := by
  refine wpIn_rangeFunc ?_
  intro fn hfn
  obtain ⟨rec, hrec⟩ : ∃ rec : LoopState → Option Code → Loop, rec = fun st pe => { state := st, pending := pe, fn, tmps := a.tmps, params := ps, assign, body, defers := w.heap.size } := ⟨_, rfl⟩
  obtain ⟨W1, hW1⟩ : ∃ W1, (w.alloc (.deferred (some []))).alloc (.loop (rec .ready none)) = W1 := ⟨_, rfl⟩
  have hL1 : W1.heap[w.heap.size + 1]? = some (.loop (rec .ready none)) := by
    rw [← hW1]; have := World.alloc_heap_new (w.alloc (.deferred (some []))) (.loop (rec .ready none)); rwa [World.size_alloc] at this
  have hK1 : W1.heap[w.heap.size]? = some (.deferred (some [])) := by
    rw [← hW1]; exact (Below.heap_alloc _ _ _ (by simp)).trans (World.alloc_heap_new w _)
  have hsz : W1.heap.size = w.heap.size + 2 := by rw [← hW1]; simp
  have hHlt := hI.lt _ _ _ h0
  have hHl : ¬ H (w.heap.size + 1) := fun e => by have := hHlt _ e; omega
  have hHD : ¬ H w.heap.size := fun e => by have := hHlt _ e; omega
  have hI1 : I [] H W1 := by rw [← hW1]; exact hI.alloc (hI.alloc h0 _) _
  have ho1 : Only H w W1 := by rw [← hW1]; exact (Only.alloc H w _).trans (Only.alloc H _ _) (Grows.refl _ _)
  have hJ0 : Beside I (w.heap.size + 1) w.heap.size (.loop (rec .ready none)) (.deferred (some [])) [] (fun b => H b ∨ b = w.heap.size + 1 ∨ b = w.heap.size) W1 := ⟨H, rfl, hHl, hHD, hI1, hL1, hK1⟩
  obtain ⟨hClt, gf, lb, rfl, he, hseq2⟩ := hseq
  have hc := hseq2 (.func (.yield (w.heap.size + 1)) #[] #[]) (Beside I (w.heap.size + 1) w.heap.size (.loop (rec .ready none)) (.deferred (some [])))
    (fun q H' W' => ∃ c, Beside (Ix c) (w.heap.size + 1) w.heap.size (.loop (rec .done (some c))) (.deferred (some [])) q H' W') (fun b => H b ∨ b = w.heap.size + 1 ∨ b = w.heap.size) W1 ⟨_, _, rfl⟩
    (fun b hb => ho1.block b (hClt b hb) (hCH b hb)) (fun b hb => by have := hClt b hb; rintro (e | e | e); exact hCH b hb e; omega; omega)
    ((Beside.inv hI _ _ _ _).mono (by omega)) ((Inv.some fun c => Beside.inv (hIx c) _ _ _ _).mono (by omega))
    (fun pre x rest H1 W2 hx hj => .inr ⟨_, rfl, round_seqB (D := w.heap.size) hps (by omega) I Ix hI hIx ob a₁ rec hrec hassign (by omega) (fun H3 W3 hi3 hl3 hr3 Bx hbx hHB hBl => hbody _ pre x rest H3 W3 hx hi3 (by omega) hl3 hr3 Bx hbx hHB hBl) hj⟩) hJ0
  have hpost : ∀ e W2, EndR (Beside I (w.heap.size + 1) w.heap.size (.loop (rec .ready none)) (.deferred (some []))) (fun q H' W' => ∃ c, Beside (Ix c) (w.heap.size + 1) w.heap.size (.loop (rec .done (some c))) (.deferred (some [])) q H' W') xs (fun b => H b ∨ b = w.heap.size + 1 ∨ b = w.heap.size) W1 e W2 →
      rangePost Fence.wide n P (w.heap.size + 1) Q { a with defers := [{ target := .collected w.heap.size, args := #[] }] ++ a.defers } e W2 := by
    rintro e W2 ⟨⟨v, rfl⟩, H2, hg2, ho2, hend⟩
    have hon : Only H w W2 := ho1.trans ho2 (fun b hb => hb.elim .inl (fun e => .inr (by omega)))
    rcases hend with ⟨H3, rfl, h3l, h3D, hi3, hl3, hd3⟩ | ⟨pre, hpre, c, H3, rfl, h3l, h3D, hi3, hl3, hd3⟩
    all_goals
      have hgr : Grows H w H3 := fun b hb => (hg2 b (.inl hb)).elim (fun e => e.elim .inl (fun e => .inr (by omega))) (fun e => .inr (by omega))
      have hop : ∀ o, Only H w (W2.putObj (w.heap.size + 1) o) := fun o => hon.trans (Only.putObj (H := fun b => b = w.heap.size + 1) (.inl rfl) _) (fun b hb => .inr (by omega))
    · exact ⟨none, _, by have := run_endLoop (P := P) hl3 (by rw [hrec]; simp); rw [hrec] at this; exact this,
        hdone _ H3 _ (hI.putObj hi3 (by omega) h3l _) hgr (hop _) (Nat.le_refl _) h3D ((World.putObj_heap_other (by omega)).trans hd3)⟩
    · exact ⟨some c, _, by have := run_endLoop (P := P) hl3 (by rw [hrec]; simp); rw [hrec] at this; exact this,
        hstop _ c pre H3 _ hpre ((hIx c).putObj hi3 (by omega) h3l _) hgr (hop _) (Nat.le_refl _) h3D ((World.putObj_heap_other (by omega)).trans hd3)⟩
  refine ⟨w.heap.size + 1, [{ target := .collected w.heap.size, args := #[] }], W1, { target := .fn (.func gf) lb, args := #[.func (.yield (w.heap.size + 1)) #[] #[]] }, W1, gf,
    #[.func (.yield (w.heap.size + 1)) #[] #[]] ++ lb, W1, ?_, ?_, fun _ _ => trivial, ?_, (fun h => by simp [Fence.wide] at h), ?_⟩
  · rw [← hW1, hrec]; exact run_enterLoop_outer _ _ _ _ _
  · simp only [resolve, hg]
    simp [go_sem]
  · simp [invoke, go_sem, he _ _]
  · exact ((callsIn_wide (n := n - 1)).2 hc).mono hpost

theorem wpIn_rangeFunc_seqPB {α : Type} {n : Nat} {P : Program} {g : Operand} {ps : Array Tmp} {assign body : Code} {Q : Exit → Act → World → Prop} {a : Act} {w : World}
    {s : Value} {C : Nat → Prop} {enc : α → Value} {ks : List α} (hg : a.eval g = s) (hseq : SeqP P s C enc ks w) (H : Nat → Prop) (hCH : ∀ b, C b → ¬ H b) (hps : ps.size = 1)
    (I : List α → (Nat → Prop) → World → Prop) (Ix : Code → List α → (Nat → Prop) → World → Prop) (hI : Inv w.heap.size I) (hIx : ∀ c, Inv w.heap.size (Ix c)) (h0 : I [] H w) (ob : α → Obj) (a₁ : α → Nat → Act)
    (hassign : ∀ (l : Nat) (x : α) (W : World) (K : Act → World → Prop), K (a₁ x W.heap.size) (W.alloc (ob x)) →
      assign.wpIn (Fence.wide.inRound l) n P (Exit.then K (fun _ _ _ => False)) { tmps := (ps.zip #[enc x]).foldl (fun t (p, v) => t.setIfInBounds p v) a.tmps, defers := [] } W)
    (hbody : ∀ (l : Nat) (pre : List α) (x : α) (H1 : Nat → Prop) (W1 : World), (∃ rest, (pre ++ x :: rest).Perm ks) → I pre H1 W1 → w.heap.size ≤ l → ¬ H1 l → (∃ r, W1.heap[l]? = some (.loop r)) → ∀ Bx, W1.heap[Bx]? = some (ob x) → ¬ H1 Bx → Bx ≠ l →
      body.wpIn (Fence.wide.inRound l) n P (seqPost I Ix (pre ++ [x]) H1 W1) (a₁ x Bx) W1)
    (hdone : ∀ (D : Nat) (xs : List α) (H1 : Nat → Prop) (W1 : World), xs.Perm ks → I xs H1 W1 → Grows H w H1 → Only H w W1 → w.heap.size ≤ D → ¬ H1 D → W1.heap[D]? = some (.deferred (some [])) →
      Q .normal { a with defers := { target := .collected D, args := #[] } :: a.defers } W1)
    (hstop : ∀ (D : Nat) (c : Code) (pre : List α) (H1 : Nat → Prop) (W1 : World), Ix c pre H1 W1 → Grows H w H1 → Only H w W1 → w.heap.size ≤ D → ¬ H1 D → W1.heap[D]? = some (.deferred (some [])) →
      c.wpIn Fence.wide n P Q { a with defers := { target := .collected D, args := #[] } :: a.defers } W1) :
    (Code.rangeFunc g ps assign body).wpIn Fence.wide n P Q a w := by
  refine wpIn_rangeFunc ?_
  intro fn hfn
  obtain ⟨rec, hrec⟩ : ∃ rec : LoopState → Option Code → Loop, rec = fun st pe => { state := st, pending := pe, fn, tmps := a.tmps, params := ps, assign, body, defers := w.heap.size } := ⟨_, rfl⟩
  obtain ⟨W1, hW1⟩ : ∃ W1, (w.alloc (.deferred (some []))).alloc (.loop (rec .ready none)) = W1 := ⟨_, rfl⟩
  have hL1 : W1.heap[w.heap.size + 1]? = some (.loop (rec .ready none)) := by
    rw [← hW1]; have := World.alloc_heap_new (w.alloc (.deferred (some []))) (.loop (rec .ready none)); rwa [World.size_alloc] at this
  have hK1 : W1.heap[w.heap.size]? = some (.deferred (some [])) := by
    rw [← hW1]; exact (Below.heap_alloc _ _ _ (by simp)).trans (World.alloc_heap_new w _)
  have hsz : W1.heap.size = w.heap.size + 2 := by rw [← hW1]; simp
  have hHlt := hI.lt _ _ _ h0
  have hHl : ¬ H (w.heap.size + 1) := fun e => by have := hHlt _ e; omega
  have hHD : ¬ H w.heap.size := fun e => by have := hHlt _ e; omega
  have hI1 : I [] H W1 := by rw [← hW1]; exact hI.alloc (hI.alloc h0 _) _
  have ho1 : Only H w W1 := by rw [← hW1]; exact (Only.alloc H w _).trans (Only.alloc H _ _) (Grows.refl _ _)
  have hJ0 : Beside I (w.heap.size + 1) w.heap.size (.loop (rec .ready none)) (.deferred (some [])) [] (fun b => H b ∨ b = w.heap.size + 1 ∨ b = w.heap.size) W1 := ⟨H, rfl, hHl, hHD, hI1, hL1, hK1⟩
  obtain ⟨hClt, gf, lb, rfl, he, hseq2⟩ := hseq
  have hc := hseq2 (.func (.yield (w.heap.size + 1)) #[] #[]) (Beside I (w.heap.size + 1) w.heap.size (.loop (rec .ready none)) (.deferred (some [])))
    (fun q H' W' => ∃ c, Beside (Ix c) (w.heap.size + 1) w.heap.size (.loop (rec .done (some c))) (.deferred (some [])) q H' W') (fun b => H b ∨ b = w.heap.size + 1 ∨ b = w.heap.size) W1 ⟨_, _, rfl⟩
    (fun b hb => ho1.block b (hClt b hb) (hCH b hb)) (fun b hb => by have := hClt b hb; rintro (e | e | e); exact hCH b hb e; omega; omega)
    ((Beside.inv hI _ _ _ _).mono (by omega)) ((Inv.some fun c => Beside.inv (hIx c) _ _ _ _).mono (by omega))
    (fun pre x H1 W2 hx hj => .inr ⟨_, rfl, round_seqB (D := w.heap.size) hps (by omega) I Ix hI hIx ob a₁ rec hrec hassign (by omega) (fun H3 W3 hi3 hl3 hr3 Bx hbx hHB hBl => hbody _ pre x H3 W3 hx hi3 (by omega) hl3 hr3 Bx hbx hHB hBl) hj⟩) hJ0
  have hpost : ∀ e W2, EndP (Beside I (w.heap.size + 1) w.heap.size (.loop (rec .ready none)) (.deferred (some []))) (fun q H' W' => ∃ c, Beside (Ix c) (w.heap.size + 1) w.heap.size (.loop (rec .done (some c))) (.deferred (some [])) q H' W') ks (fun b => H b ∨ b = w.heap.size + 1 ∨ b = w.heap.size) W1 e W2 →
      rangePost Fence.wide n P (w.heap.size + 1) Q { a with defers := [{ target := .collected w.heap.size, args := #[] }] ++ a.defers } e W2 := by
    rintro e W2 ⟨⟨v, rfl⟩, H2, hg2, ho2, hend⟩
    have hon : Only H w W2 := ho1.trans ho2 (fun b hb => hb.elim .inl (fun e => .inr (by omega)))
    rcases hend with ⟨xs, hperm, H3, rfl, h3l, h3D, hi3, hl3, hd3⟩ | ⟨pre, c, H3, rfl, h3l, h3D, hi3, hl3, hd3⟩
    all_goals
      have hgr : Grows H w H3 := fun b hb => (hg2 b (.inl hb)).elim (fun e => e.elim .inl (fun e => .inr (by omega))) (fun e => .inr (by omega))
      have hop : ∀ o, Only H w (W2.putObj (w.heap.size + 1) o) := fun o => hon.trans (Only.putObj (H := fun b => b = w.heap.size + 1) (.inl rfl) _) (fun b hb => .inr (by omega))
    · exact ⟨none, _, by have := run_endLoop (P := P) hl3 (by rw [hrec]; simp); rw [hrec] at this; exact this,
        hdone _ xs H3 _ hperm (hI.putObj hi3 (by omega) h3l _) hgr (hop _) (Nat.le_refl _) h3D ((World.putObj_heap_other (by omega)).trans hd3)⟩
    · exact ⟨some c, _, by have := run_endLoop (P := P) hl3 (by rw [hrec]; simp); rw [hrec] at this; exact this,
        hstop _ c pre H3 _ ((hIx c).putObj hi3 (by omega) h3l _) hgr (hop _) (Nat.le_refl _) h3D ((World.putObj_heap_other (by omega)).trans hd3)⟩
  refine ⟨w.heap.size + 1, [{ target := .collected w.heap.size, args := #[] }], W1, { target := .fn (.func gf) lb, args := #[.func (.yield (w.heap.size + 1)) #[] #[]] }, W1, gf,
    #[.func (.yield (w.heap.size + 1)) #[] #[]] ++ lb, W1, ?_, ?_, fun _ _ => trivial, ?_, (fun h => by simp [Fence.wide] at h), ?_⟩
  · rw [← hW1, hrec]; exact run_enterLoop_outer _ _ _ _ _
  · simp only [resolve, hg]
    simp [go_sem]
  · simp [invoke, go_sem, he _ _]
  · exact ((callsIn_wide (n := n - 1)).2 hc).mono hpost
end Go.Proofs.Ytikomlcghplchaa
