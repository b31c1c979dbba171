/- Two blocks that may turn (Ktw), fields, min and max, variables of one cell, in Sym's walk. No program is named here. -/
import Derived.Test.YtaclncmkdpjnlaaSymE
namespace Go.Proofs.Ytaclncmkdpjnlaa
open Go.RowKit Go.Shelf
set_option linter.unusedVariables false
set_option linter.unusedSimpArgs false

/-- No old block but a and b has turned. -/
structure Ktw (a b : Nat) (w w' : World) : Prop where
  os : w'.os = w.os
  tape : w'.tape = w.tape
  output : w'.output = w.output
  size : w.heap.size ≤ w'.heap.size
  block : ∀ k, k < w.heap.size → k ≠ a ∧ k ≠ b → w'.heap[k]? = w.heap[k]?
section
variable {a b : Nat} {w w' w'' : World}
theorem Ktw.refl (a b : Nat) (w : World) : Ktw a b w w := ⟨rfl, rfl, rfl, Nat.le_refl _, fun _ _ _ => rfl⟩
theorem Ktw.of_below (h : Below w.heap.size w w') : Ktw a b w w' := ⟨h.os, h.tape, h.output, h.size, fun k hk _ => h.block k hk⟩
theorem Ktw.below (h : Ktw a b w w') (B : Below w'.heap.size w' w'') : Ktw a b w w'' :=
  ⟨B.os.trans h.os, B.tape.trans h.tape, B.output.trans h.output, Nat.le_trans h.size B.size, fun k hk hb => (B.block k (Nat.lt_of_lt_of_le hk h.size)).trans (h.block k hk hb)⟩
theorem Ktw.only {c : Nat} (h : Ktw a b w w') (o : Only c w' w'') (hc : c = a ∨ c = b ∨ w.heap.size ≤ c) : Ktw a b w w'' :=
  ⟨o.os.trans h.os, o.tape.trans h.tape, o.output.trans h.output, by rw [o.size]; exact h.size, fun k hk hb => (o.block k (by omega)).trans (h.block k hk hb)⟩
theorem Ktw.trans {c d : Nat} (h : Ktw a b w w') (h' : Ktw c d w' w'') (hc : (c = a ∨ c = b ∨ w.heap.size ≤ c) ∧ (d = a ∨ d = b ∨ w.heap.size ≤ d)) : Ktw a b w w'' :=
  ⟨h'.os.trans h.os, h'.tape.trans h.tape, h'.output.trans h.output, Nat.le_trans h.size h'.size, fun k hk hb => (h'.block k (Nat.lt_of_lt_of_le hk h.size) (by omega)).trans (h.block k hk hb)⟩
theorem Ktw.under {w0 : World} (h : Ktw a b w w') (h0 : Below w0.heap.size w0 w) (hb : w0.heap.size ≤ a ∧ w0.heap.size ≤ b) : Below w0.heap.size w0 w' :=
  h0.trans ⟨h.os, h.tape, h.output, h.size, fun k hk => h.block k (Nat.lt_of_lt_of_le hk h0.size) (by omega)⟩
theorem Blk.k2 {c t : Nat} {cs : List Value} (m : Blk w c t cs) (h : Ktw a b w w') (hb : c ≠ a ∧ c ≠ b) : Blk w' c t cs := (h.block c m.lt hb).trans m
theorem Rd.k2 {v : Value} {k n : Nat} {cs : List Value} (m : Rd w v k n cs) (h : Ktw a b w w') (hb : ∀ c, v.ownBlock = Option.some c → c ≠ a ∧ c ≠ b) : Rd w' v k n cs := m.keep h.size fun c hc hl => h.block c hl (hb c hc)
theorem own_k2 {base e k n : Nat} {v : Value} {xs : List Value} (m : w.ownsRow base e k v n xs) (h : Ktw a b w w') (hb : ∀ c, v.ownBlock = some c → c ≠ a ∧ c ≠ b) : w'.ownsRow base e k v n xs := own_keep m fun j hj => h.block j (m.lt j hj).2 (hb j hj)
theorem own_only {base e k n c : Nat} {v : Value} {xs : List Value} (m : w.ownsRow base e k v n xs) (h : Only c w w') (hb : v.ownBlock ≠ some c) : w'.ownsRow base e k v n xs := own_keep m fun j hj => h.block j (fun e => hb (by rw [hj, e]))
end
section
variable {P : Program} {ops : Array Oper} {N : Nat} {a : Act} {w : World}
theorem dk2_seq {id : Nat} {ops0 : Array Oper} {Q : Exit → Act → World → Prop} {y : Code} (b c : Nat) (ho : ops = ops0) (hm : P.follows .mixedOrders = true) (hN : ops.size = N)
    (h : ∀ wd, wd.heap = w.heap → Below w.heap.size w wd → Ktw b c wd wd → ∀ K : Act → World → Prop, (∀ a w, y.wp P Q a w → K a w) → wpAnyH P .any ops (QN K) (Ktw b c wd) N (lst N []) a wd) : (Code.seq (.region id ops0 true) y).wp P Q a w :=
  d_seq (Ktw b c w.drew) ho hm hN (h w.drew rfl (drawn_below w) (Ktw.refl b c _))
theorem dk2_one {id : Nat} {ops0 : Array Oper} {Q : Exit → Act → World → Prop} (b c : Nat) (ho : ops = ops0) (hm : P.follows .mixedOrders = true) (hN : ops.size = N)
    (h : ∀ wd, wd.heap = w.heap → Below w.heap.size w wd → Ktw b c wd wd → ∀ K : Act → World → Prop, (∀ a w, Q .normal a w → K a w) → wpAnyH P .any ops (QN K) (Ktw b c wd) N (lst N []) a wd) : (Code.region id ops0 true).wp P Q a w :=
  d_start (Ktw b c w.drew) ho hm hN (h w.drew rfl (drawn_below w) (Ktw.refl b c _))
end

/-- Field number f of t lies k cells on. -/
def fldB (P : Program) (t f k : Nat) : Bool :=
  match P.underlying t with
  | some (.struct fs) => match fs[f]? with
    | some fd => Nat.beq fd.offset k && (match (P.info? fd.type).map (·.size) with | some s => !(Nat.beq s 0) | none => false)
    | none => false
  | _ => false
section
variable {P : Program} {n d : Nat} {l : List (Nat × Value)} {w : World} {x y : Operand}
theorem x_fa {t f k : Nat} (h : fldB P t f k = true) {b o : Nat} (hx : ov l x = some (.pointer (some ⟨b, o, none⟩))) : Runs P n l w (.fieldAddr t x f) (.pointer (some ⟨b, o + k, none⟩)) := x_field hx (by
  unfold fldB at h
  split at h
  · next fs hu =>
    split at h
    · next fd hf =>
      simp only [Bool.and_eq_true] at h
      obtain ⟨h1, h2⟩ := h
      obtain rfl := Nat.eq_of_beq_eq_true h1
      split at h2
      · next s hs =>
        refine m_field hu hf ?_ (by rw [hs]; rfl)
        rw [hs]
        cases s
        · simp at h2
        · rfl
      · cases h2
    · cases h
  · cases h)
theorem x_fa0 {t f k : Nat} (h : fldB P t f k = true) {b : Nat} (hx : ov l x = some (.pointer (some ⟨b, 0, none⟩))) : Runs P n l w (.fieldAddr t x f) (.pointer (some ⟨b, k, none⟩)) := by
  have := x_fa (P := P) (n := n) (w := w) h hx
  rwa [Nat.zero_add] at this
theorem x_imax {ts : Array TypeId} {p q : Int} (hx : ov l x = some (.int .i64 p)) (hy : ov l y = some (.int .i64 q)) : Runs P n l w (.call { callee := .builtin .max, args := #[x, y], argTypes := ts }) (.int .i64 (max p q)) :=
  fun ds a hF o ho => by
    have e : (if q > p then q else p) = max p q := by split <;> omega
    simp [execOp, ho, resolve, invoke, builtin, hF.ov hx, hF.ov hy, Builtin.max_, Builtin.max2, e]
end
section
variable {P : Program} {n d : Nat} {l : List (Nat × Value)} {w : World} {a : Act} {ops : Array Oper} {Q : Exit → Act → World → Prop} {rest : List Oper} {ty : TypeId} {pos : String} {af : Array Edge}
/-- A variable of whatever type. -/
theorem s_alloc1 {ds : List Deferred} {t : TypeId} {z : Value} {zs : List Value} (hF : Fs n a l (ds := ds)) (hd : d < n) (hz : (P.info? t).bind (·.zero) = some z) (hc : z.cells = zs.toArray)
    (h : ∀ w' b a', b = w.heap.size → Blk w' b t zs → Below w.heap.size w w' → w'.heap.size = w.heap.size + 1 → Fs n a' ((d, .pointer (some ⟨b, 0, none⟩)) :: l) (ds := ds) → wpList P ops Q rest a' w') :
    wpList P ops Q (⟨some d, .alloc t, ty, pos, af, none⟩ :: rest) a w :=
  s_new hF (fun o ho => by simp [execOp, ho, m_alloc hz hc]) hd fun a' hF' => h _ _ a' rfl (blk_alloc t zs) (below_alloc _) (size_alloc _) hF'
end
/-! ### A slice that the call owns, and an append of one element -/
section
variable {P : Program} {n d : Nat} {l : List (Nat × Value)} {w : World} {a : Act} {ops : Array Oper} {Q : Exit → Act → World → Prop} {rest : List Oper} {ty : TypeId} {pos : String} {af : Array Edge} {x y : Operand} {v : Value} {base t e k kb m o : Nat} {xs ys : List Value}
end
end Go.Proofs.Ytaclncmkdpjnlaa
