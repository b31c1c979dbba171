/- Calls that leave what was there; what drawn regions keep. No program is named here. -/
import Derived.Test.YtaclncmkdpjnlaaSymD
import Derived.Test.YtaclncmkdpjnlaaSymR
namespace Go.Proofs.Ytaclncmkdpjnlaa
open Go.RowKit Go.Shelf
set_option linter.unusedVariables false
set_option linter.unusedSimpArgs false

section
variable {P : Program} {n d : Nat} {l : List (Nat × Value)} {w : World} {a : Act} {ops : Array Oper} {Q : Exit → Act → World → Prop} {rest : List Oper} {ty : TypeId} {pos : String} {af : Array Edge} {f : FuncId} {ts : Array TypeId} {v : Value}

/-- A call that tells v and makes memory at most. -/
theorem s_callB {ds : List Deferred} {xs : List Operand} (vals : List Value) (hF : Fs n a l (ds := ds)) (hent : Enters P f) (hargs : xs.map (ov l) = vals.map some) (hd : d < n) (hC : Calls P f vals.toArray w fun e w' => e = .returned v ∧ Below w.heap.size w w')
    (h : ∀ w' a', Below w.heap.size w w' → Fs n a' ((d, v) :: l) (ds := ds) → wpList P ops Q rest a' w') : wpList P ops Q (⟨some d, .call { callee := .value (.func f), args := xs.toArray, argTypes := ts }, ty, pos, af, none⟩ :: rest) a w :=
  s_call (R := fun u w' => u = v ∧ Below w.heap.size w w') hF vals hent hargs hd (hC.mono fun e w' he => ⟨v, he.1, rfl, he.2⟩) (by rintro _ w' a' ⟨rfl, B⟩ hF'; exact h w' a' B hF')
/-- One that leaves the world. -/
theorem s_callS {ds : List Deferred} {xs : List Operand} (vals : List Value) (hF : Fs n a l (ds := ds)) (hent : Enters P f) (hargs : xs.map (ov l) = vals.map some) (hd : d < n) (hC : Calls P f vals.toArray w fun e w' => e = .returned v ∧ w' = w)
    (h : ∀ a', Fs n a' ((d, v) :: l) (ds := ds) → wpList P ops Q rest a' w) : wpList P ops Q (⟨some d, .call { callee := .value (.func f), args := xs.toArray, argTypes := ts }, ty, pos, af, none⟩ :: rest) a w :=
  s_call (R := fun u w' => u = v ∧ w' = w) hF vals hent hargs hd (hC.mono fun e w' he => ⟨v, he.1, rfl, he.2⟩) (by rintro _ _ a' ⟨rfl, rfl⟩ hF'; exact h a' hF')
/-- One of whose answer R is known. -/
theorem s_callR {ds : List Deferred} {xs : List Operand} {R : Value → World → Prop} (vals : List Value) (hF : Fs n a l (ds := ds)) (hent : Enters P f) (hargs : xs.map (ov l) = vals.map some) (hd : d < n) (hC : Calls P f vals.toArray w fun e w' => ∃ v, e = .returned v ∧ R v w' ∧ Below w.heap.size w w')
    (h : ∀ v w' a', R v w' → Below w.heap.size w w' → Fs n a' ((d, v) :: l) (ds := ds) → wpList P ops Q rest a' w') : wpList P ops Q (⟨some d, .call { callee := .value (.func f), args := xs.toArray, argTypes := ts }, ty, pos, af, none⟩ :: rest) a w :=
  s_call (R := fun u w' => R u w' ∧ Below w.heap.size w w') hF vals hent hargs hd hC (by rintro v w' a' ⟨hR, B⟩ hF'; exact h v w' a' hR B hF')
end

/-- No old block but b has turned. -/
structure Kq (b : Nat) (w w' : World) : Prop where
  os : w'.os = w.os
  tape : w'.tape = w.tape
  output : w'.output = w.output
  size : w.heap.size ≤ w'.heap.size
  block : ∀ k, k < w.heap.size → k ≠ b → w'.heap[k]? = w.heap[k]?
section
variable {b : Nat} {w w' w'' : World}
theorem Kq.refl (b : Nat) (w : World) : Kq b w w := ⟨rfl, rfl, rfl, Nat.le_refl _, fun _ _ _ => rfl⟩
theorem Kq.below (h : Kq b w w') (B : Below w'.heap.size w' w'') : Kq b w w'' :=
  ⟨B.os.trans h.os, B.tape.trans h.tape, B.output.trans h.output, Nat.le_trans h.size B.size, fun k hk hb => (B.block k (Nat.lt_of_lt_of_le hk h.size)).trans (h.block k hk hb)⟩
theorem Kq.only {c : Nat} (h : Kq b w w') (o : Only c w' w'') (hc : c = b ∨ w.heap.size ≤ c) : Kq b w w'' :=
  ⟨o.os.trans h.os, o.tape.trans h.tape, o.output.trans h.output, by rw [o.size]; exact h.size, fun k hk hb => (o.block k (by omega)).trans (h.block k hk hb)⟩
/-- What was behind w0 stays, if b is younger. -/
theorem Kq.under {w0 : World} (h : Kq b w w') (h0 : Below w0.heap.size w0 w) (hb : w0.heap.size ≤ b) : Below w0.heap.size w0 w' :=
  h0.trans ⟨h.os, h.tape, h.output, h.size, fun k hk => h.block k (Nat.lt_of_lt_of_le hk h0.size) (by omega)⟩
end

section
variable {P : Program} {ops : Array Oper} {N : Nat} {a : Act} {w : World}
end
end Go.Proofs.Ytaclncmkdpjnlaa
