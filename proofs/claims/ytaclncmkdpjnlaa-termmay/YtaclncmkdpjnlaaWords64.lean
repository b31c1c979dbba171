/- Numbers of 64 bits and bytes, in Sym's walk; slices. No program is named here. -/
import Derived.Test.YtaclncmkdpjnlaaSymC
import Derived.Test.YtaclncmkdpjnlaaPure
import Derived.Laws.MakeOwn
import Derived.Laws.BytesArg
import Derived.Laws.IdiomStrings
namespace Go.Proofs.Ytaclncmkdpjnlaa
open Go.RowKit Go.Shelf
set_option linter.unusedVariables false
set_option linter.unusedSimpArgs false

section
variable {P : Program} {n : Nat} {l : List (Nat × Value)} {w : World} {t t' : TypeId} {x y : Operand}

end

/-! ### Slices -/
section
variable {P : Program} {w : World}

/-- The slice v reads as the bytes bs; they don't lie in block ex. -/
def RB (ex : Nat) (W : World) (v : Value) (bs : List UInt8) : Prop :=
  (∃ a c, v = .slice a 0 c ∧ bs = [] ∧ (a = none → c = 0)) ∨
  ∃ b off cap, v = .slice (some ⟨b, off, none⟩) bs.length cap ∧ bs.length ≤ cap ∧ b ≠ ex ∧ b < W.heap.size ∧ ∀ j u, bs[j]? = some u → W.cell? ⟨b, off + j, none⟩ = some (encB u)

theorem RB.form {ex : Nat} {W : World} {v : Value} {bs : List UInt8} (h : RB ex W v bs) : ∃ a c, v = .slice a bs.length c ∧ bs.length ≤ c ∧ (a = none → c = 0) := by
  rcases h with ⟨a, c, rfl, rfl, h⟩ | ⟨b, off, cap, rfl, h, _⟩
  · exact ⟨a, c, rfl, Nat.zero_le _, h⟩
  · exact ⟨_, cap, rfl, h, by simp⟩
theorem RB.below {ex : Nat} {W W' : World} {v : Value} {bs : List UInt8} (h : RB ex W v bs) (hB : Below W.heap.size W W') : RB ex W' v bs := by
  rcases h with h | ⟨b, off, cap, rfl, h1, hx, hl, h2⟩
  · exact .inl h
  · exact .inr ⟨b, off, cap, rfl, h1, hx, Nat.lt_of_lt_of_le hl hB.size, fun j u hj => (hB.cell (p := ⟨b, off + j, none⟩) hl).trans (h2 j u hj)⟩
theorem RB.only {ex : Nat} {W W' : World} {v : Value} {bs : List UInt8} (h : RB ex W v bs) (ho : Only ex W W') : RB ex W' v bs := by
  rcases h with h | ⟨b, off, cap, rfl, h1, hx, hl, h2⟩
  · exact .inl h
  · exact .inr ⟨b, off, cap, rfl, h1, hx, by rw [ho.size]; exact hl, fun j u hj => (World.cell?_of_block (w := W) (a := ⟨b, off + j, none⟩) (ho.block b hx)).trans (h2 j u hj)⟩
/-- It lies apart from a younger block. -/
theorem RB.young {ex ex' : Nat} {W : World} {v : Value} {bs : List UInt8} (h : RB ex W v bs) (he : W.heap.size ≤ ex') : RB ex' W v bs := by
  rcases h with h | ⟨b, off, cap, rfl, h1, hx, hl, h2⟩
  · exact .inl h
  · exact .inr ⟨b, off, cap, rfl, h1, by omega, hl, h2⟩
/-- All of it behind its first k. -/
theorem RB.from {ex : Nat} {W : World} {a : Option Addr} {N c : Nat} {bs : List UInt8} (h : RB ex W (.slice a N c) bs) {k : Nat} (hk : k ≤ bs.length) : RB ex W (.slice (if c = k then a else a.map (·.add k)) (N - k) (c - k)) (bs.drop k) := by
  rcases h with ⟨a', c', e, rfl, h⟩ | ⟨b, off, cap, e, h1, hx, hl, h2⟩
  · cases e
    obtain rfl : k = 0 := by simpa using hk
    refine .inl ⟨_, _, rfl, by simp, ?_⟩
    intro h0
    have : a = none := by
      split at h0
      · exact h0
      · cases a <;> simp at h0 ⊢
    have := h this
    omega
  · cases e
    by_cases hc : c = k
    · have : bs.length = k := by omega
      refine .inl ⟨some ⟨b, off, none⟩, c - k, ?_, by rw [← this]; simp, by simp⟩
      simp [hc, this]
    · refine .inr ⟨b, off + k, c - k, ?_, by simp; omega, hx, hl, fun j u hj => ?_⟩
      · simp [hc, addr_addn]
      · rw [List.getElem?_drop] at hj
        rw [Nat.add_assoc]
        exact h2 _ u hj
theorem RB.blk {ex : Nat} {W : World} {b t : Nat} {bs : List UInt8} (h : Blk W b t (bs.map encB)) (hx : b ≠ ex) : RB ex W (.slice (some ⟨b, 0, none⟩) bs.length bs.length) bs :=
  .inr ⟨b, 0, bs.length, rfl, Nat.le_refl _, hx, h.lt, fun j u hj => by rw [Nat.zero_add]; exact h.cell (by rw [List.getElem?_map, hj]; rfl)⟩

end

section
variable {P : Program} {n d : Nat} {l : List (Nat × Value)} {w : World} {a : Act} {ops : Array Oper} {Q : Exit → Act → World → Prop} {rest : List Oper} {ty : TypeId} {pos : String} {af : Array Edge}

end
end Go.Proofs.Ytaclncmkdpjnlaa
