/- A table in a block of its own: the frame. No program is named here. -/
import Derived.Test.YtikomlcghplchaaSeq
import Derived.Test.YtikomlcghplchaaTab
namespace Go.Proofs.Ytikomlcghplchaa
open Go.RowKit Go.Shelf

section
variable {β : Type} (K : PairK β) (P : Program) (k ty : TypeId)
/-- The table in block T (of type ty), its map m, holds l. -/
def TabB (W : World) (T : Nat) (m : Option Nat) (N : Nat) (l : List (ByteArray × β)) : Prop :=
  Boxed W T ty (.map m) ∧ ((m = none ∧ l = []) ∨ ∃ b, m = some b ∧ b ≠ T ∧ K.Map P k W b N l)
/-- Behind a change of the table: its new state; nothing else has turned. -/
def StoredB (T : Nat) (m : Option Nat) (W : World) (N : Nat) (l : List (ByteArray × β)) (w' : World) : Prop :=
  ∃ m', TabB K P k ty w' T m' N l ∧ (∀ b, m' = some b → m = some b ∨ W.heap.size ≤ b) ∧ Only (fun b => b = T ∨ m = some b) W w'
variable {K P k ty}
variable {W W' : World} {T N : Nat} {m : Option Nat} {l : List (ByteArray × β)}
theorem TabB.fine (h : TabB K P k ty W T m N l) : K.Fine l := by
  rcases h.2 with ⟨_, rfl⟩ | ⟨b, _, _, hm⟩
  · exact K.fine_nil
  · exact hm.1
/-- The table stays while other blocks turn. -/
theorem TabB.only {H : Nat → Prop} (h : TabB K P k ty W T m N l) (ho : Only H W W') (hT : ¬ H T) (hb : ∀ b, m = some b → ¬ H b) : TabB K P k ty W' T m N l := by
  refine ⟨ho.boxed h.1 hT, h.2.imp id ?_⟩
  rintro ⟨b, hm, hne, hr, hown⟩
  refine ⟨b, hm, hne, hr, ?_⟩
  have hlt := hown.lt
  obtain ⟨es, clock, hbl, r⟩ := hown
  exact ⟨es, clock, (ho.block b hlt (hb b hm)).trans hbl, r⟩
theorem TabB.below (h : TabB K P k ty W T m N l) (ho : Below W.heap.size W W') : TabB K P k ty W' T m N l :=
  h.only (Only.of_below (H := fun _ => False) ho) (fun h => h) (fun _ _ h => h)
theorem TabB.lt (h : TabB K P k ty W T m N l) : T < W.heap.size := h.1.lt
theorem TabB.mlt (h : TabB K P k ty W T m N l) {b : Nat} (hb : m = some b) : b < W.heap.size := by
  rcases h.2 with ⟨hn, _⟩ | ⟨b', hm, _, hr⟩
  · rw [hn] at hb; cases hb
  · rw [hm] at hb; cases hb; exact hr.2.lt
theorem TabB.map {b : Nat} (h : TabB K P k ty W T (some b) N l) : b ≠ T ∧ K.Map P k W b N l := by
  rcases h.2 with ⟨hn, _⟩ | ⟨b', hm, h2, hr⟩
  · cases hn
  · cases hm; exact ⟨h2, hr⟩
theorem TabB.mono (h : TabB K P k ty W T m N l) {N' : Nat} (hN : N ≤ N') : TabB K P k ty W T m N' l :=
  ⟨h.1, h.2.imp id fun ⟨b, h1, h2, h3⟩ => ⟨b, h1, h2, h3.mono hN⟩⟩
theorem TabB.empty (W : World) : TabB K P k ty (W.alloc (.cells #[.map none] ty)) W.heap.size none N [] := ⟨Boxed.new W ty _, .inl ⟨rfl, rfl⟩⟩
/-- A call that turns nothing of the table. -/
theorem TabB.same (h : TabB K P k ty W T m N l) (ho : Below W.heap.size W W') : StoredB K P k ty T m W N l W' := ⟨m, h.below ho, fun _ hb => .inl hb, Only.of_below ho⟩
end
end Go.Proofs.Ytikomlcghplchaa
