/- A hash in memory. -/
import Derived.Test.YtefpenjcgplamaaDoorSmall
import Derived.Test.YtefpenjcgplamaaDoorSymH
namespace Go.Proofs.YtefpenjcgplamaaDoor
open Go.RowKit Go.Shelf
set_option linter.unusedVariables false
set_option linter.unusedSimpArgs false

/-- No old block but b has turned. -/
structure Kp (b : Nat) (w w' : World) : Prop where
  os : w'.os = w.os
  tape : w'.tape = w.tape
  output : w'.output = w.output
  size : w.heap.size ≤ w'.heap.size
  block : ∀ k, k < w.heap.size → k ≠ b → w'.heap[k]? = w.heap[k]?
theorem Kp.refl (b : Nat) (w : World) : Kp b w w := ⟨rfl, rfl, rfl, Nat.le_refl _, fun _ _ _ => rfl⟩
theorem Kp.trans {b : Nat} {w w' w'' : World} (h : Kp b w w') (h' : Kp b w' w'') : Kp b w w'' :=
  ⟨h'.os.trans h.os, h'.tape.trans h.tape, h'.output.trans h.output, Nat.le_trans h.size h'.size, fun k hk hb => (h'.block k (Nat.lt_of_lt_of_le hk h.size) hb).trans (h.block k hk hb)⟩
theorem Kp.of_only {b : Nat} {w w' : World} (h : Only b w w') : Kp b w w' := ⟨h.os, h.tape, h.output, Nat.le_of_eq h.size.symm, fun k _ hb => h.block k hb⟩
theorem Kp.of_below {b : Nat} {w w' : World} (h : Below w.heap.size w w') : Kp b w w' := ⟨h.os, h.tape, h.output, h.size, fun k hk _ => h.block k hk⟩
/-- The block was made behind w. -/
theorem Kp.young {b : Nat} {w0 w w' : World} (h : Kp b w w') (h0 : Below w0.heap.size w0 w) (hb : w0.heap.size ≤ b) : Below w0.heap.size w0 w' :=
  h0.trans ⟨h.os, h.tape, h.output, h.size, fun k hk => h.block k (Nat.lt_of_lt_of_le hk h0.size) (by omega)⟩
theorem Kp.blk {b k t : Nat} {w w' : World} {cs : List Value} (h : Kp b w w') (hB : Blk w k t cs) (hk : k ≠ b) : Blk w' k t cs := (h.block k hB.lt hk).trans hB
theorem Kp.tab {b : Nat} {w w' : World} (h : Kp b w w') (hT : Tab w) (hb : b ≠ 0) : Tab w' := fun j hj => (World.cell?_of_block (w := w) (a := ⟨0, j, none⟩) (h.block 0 hT.lt (Ne.symm hb))).trans (hT j hj)
theorem RB.kp {ex : Nat} {W W' : World} {v : Value} {bs : List UInt8} (h : RB ex W v bs) (ho : Kp ex W W') : RB ex W' v bs := by
  rcases h with h | ⟨b, off, cap, rfl, h1, hx, hl, h2⟩
  · exact .inl h
  · exact .inr ⟨b, off, cap, rfl, h1, hx, Nat.lt_of_lt_of_le hl ho.size, fun j u hj => (World.cell?_of_block (w := W) (a := ⟨b, off + j, none⟩) (ho.block b hl hx)).trans (h2 j u hj)⟩

/-- A hash's cells. -/
def Hs (ws : List UInt32) (ls : List UInt8) (n : Nat) : List Value := ws.map encW ++ (ls.map encB ++ [.int .i64 (n : Int)])
section
variable {ws : List UInt32} {ls : List UInt8} {n : Nat}
theorem Hs_length (h8 : ws.length = 8) (h64 : ls.length = 64) : (Hs ws ls n).length = 73 := by simp [Hs, h8, h64]
theorem Hs_n (h8 : ws.length = 8) (h64 : ls.length = 64) : (Hs ws ls n)[72]? = some (.int .i64 (n : Int)) := by
  rw [Hs, List.getElem?_append_right (by simp [h8]), List.getElem?_append_right (by simp [h8, h64])]
  simp [h8, h64]
theorem Hs_words (h8 : ws.length = 8) : ((Hs ws ls n).drop 0).take (ws.map encW).length = ws.map encW := by
  rw [List.drop_zero, Hs, List.take_left]
theorem Hs_last (h8 : ws.length = 8) : ((Hs ws ls n).drop 8).take (ls.map encB).length = ls.map encB := by
  rw [Hs, List.drop_append_of_le_length (by simp [h8]), List.drop_eq_nil_of_le (by simp [h8]), List.nil_append, List.take_left]
theorem Hs_setn (h8 : ws.length = 8) (h64 : ls.length = 64) (n' : Nat) : (Hs ws ls n).set 72 (.int .i64 (n' : Int)) = Hs ws ls n' := by
  rw [Hs, List.set_append_right _ _ (by simp [h8]), List.set_append_right _ _ (by simp [h8, h64])]
  simp [h8, h64, Hs]
theorem Hs_setw (h8 : ws.length = 8) (ws' : List UInt32) (h8' : ws'.length = 8) : (Hs ws ls n).take 0 ++ ws'.map encW ++ (Hs ws ls n).drop (0 + (ws'.map encW).length) = Hs ws' ls n := by
  rw [List.take_zero, List.nil_append, Hs, Hs, Nat.zero_add, List.length_map, h8', show (8 : Nat) = (ws.map encW).length by simp [h8], List.drop_left]
theorem Hs_copy (h8 : ws.length = 8) (h64 : ls.length = 64) (o : Nat) (x : List UInt8) (hx : o + x.length ≤ 64) : (Hs ws ls n).take (8 + o) ++ x.map encB ++ (Hs ws ls n).drop (8 + o + x.length) = Hs ws (splice ls o x) n := by
  have e1 : (ws.map encW).length = 8 := by simp [h8]
  rw [Hs, Hs, splice, Nat.add_assoc, ← e1, List.take_append, List.drop_append]
  rw [List.take_of_length_le (by omega), List.drop_eq_nil_of_le (by omega)]
  rw [show (ws.map encW).length + o - (ws.map encW).length = o by omega, show (ws.map encW).length + (o + x.length) - (ws.map encW).length = o + x.length by omega]
  rw [List.take_append_of_le_length (by simp [h64]; omega), List.drop_append_of_le_length (by simp [h64]; omega)]
  simp [List.map_append, List.map_take, List.map_drop, List.append_assoc]
end

/-- Block b is a hash to which m has come. -/
def HR (w : World) (b : Nat) (m : List UInt8) : Prop := ∃ ws ls, Blk w b 61 (Hs ws ls m.length) ∧ ws.length = 8 ∧ ls.length = 64 ∧ (m ≠ [] → Rep kTab ws ls m.length m)
theorem HR.below {w w' : World} {b : Nat} {m : List UInt8} (h : HR w b m) (hB : Below w.heap.size w w') : HR w' b m := by
  obtain ⟨ws, ls, h1, h2⟩ := h
  exact ⟨ws, ls, h1.old hB, h2⟩
theorem HR.lt {w : World} {b : Nat} {m : List UInt8} (h : HR w b m) : b < w.heap.size := by
  obtain ⟨ws, ls, h1, h2⟩ := h
  exact h1.lt
theorem HR.kp {w w' : World} {b c : Nat} {m : List UInt8} (h : HR w b m) (hk : Kp c w w') (hb : b ≠ c) : HR w' b m := by
  obtain ⟨ws, ls, h1, h2⟩ := h
  exact ⟨ws, ls, hk.blk h1 hb, h2⟩

theorem fld0 {w : World} {b : Nat} : (Instr.fieldAt 61 (.pointer (some ⟨b, 0, none⟩)) 0).run Tryd.prog w = .ok (.pointer (some ⟨b, 0, none⟩)) w := by
  have := m_field (P := Tryd.prog) (w := w) (b := b) (o := 0) (f := 0) Tryd.underlying61 rfl (by kernel_rfl) (by kernel_rfl)
  exact this
theorem fld1 {w : World} {b : Nat} : (Instr.fieldAt 61 (.pointer (some ⟨b, 0, none⟩)) 1).run Tryd.prog w = .ok (.pointer (some ⟨b, 8, none⟩)) w := by
  have := m_field (P := Tryd.prog) (w := w) (b := b) (o := 0) (f := 1) Tryd.underlying61 rfl (by kernel_rfl) (by kernel_rfl)
  rwa [Nat.zero_add] at this
theorem fld2 {w : World} {b : Nat} : (Instr.fieldAt 61 (.pointer (some ⟨b, 0, none⟩)) 2).run Tryd.prog w = .ok (.pointer (some ⟨b, 72, none⟩)) w := by
  have := m_field (P := Tryd.prog) (w := w) (b := b) (o := 0) (f := 2) Tryd.underlying61 rfl (by kernel_rfl) (by kernel_rfl)
  rwa [Nat.zero_add] at this

/-- A pointer against nil. -/
theorem x_ptr {P : Program} {n : Nat} {l : List (Nat × Value)} {w : World} {t t' e : TypeId} {x y : Operand} {p : Option Addr} (ht : P.underlying t = some (.pointer e)) (hx : ov l x = some (.pointer p)) (hy : ov l y = some (.pointer none)) : Runs P n l w (.binOp .eql t x y t') (.bool p.isNone) :=
  x_bin hx hy fun W => by
    refine ⟨by simp [eqGuard], ?_⟩
    have h : ∀ d, (Op.equalIn (d + 1) t (.pointer p) (.pointer none)).run P W = .ok p.isNone W := fun d => by
      cases p <;> simp [Op.equalIn, run_underlying ht]
    have h := h 9999
    simp only [binOp, Op.equal, Op.maxDepth]
    simp [h]

/-- What Write keeps from round to round. -/
def WrI (w0 : World) (b : Nat) (m bs : List UInt8) (r : Nat) (a : Act) (w : World) : Prop :=
  ∃ x y ad c ws ls, bs = x ++ y ∧ y.length = r ∧ Blk w b 61 (Hs ws ls (m.length + x.length)) ∧ Rep kTab ws ls (m.length + x.length) (m ++ x) ∧ RB b w (.slice ad y.length c) y ∧ Tab w ∧ Kp b w0 w ∧ Fs 59 a [(0, .pointer (some ⟨b, 0, none⟩)), (1, .slice ad y.length c)]
end Go.Proofs.YtefpenjcgplamaaDoor
