/- How many values the reading of a slice of slices of bytes holds at least. -/
import Derived.Test.YtllpohacomknfaaBulk
import Derived.Test.YtllpohacomknfaaRows3
namespace Go.Proofs.Ytllpohacomknfaa
open Go.Deep

theorem bulk_row {H : Type} {k : IntKind} {A : Option Addr} {L : Nat} {zs : List Int} (h : L ≤ zs.length) (hn : A = none → L = 0) : L + 1 ≤ Rows.uptoBulk (intRow (H := H) k A L zs) := by
  cases A with
  | none => rw [hn rfl]; exact bulk_one _
  | some a =>
    have := bulk_slice (H := H) (d := intRow k (some a) L zs) rfl
    simp [ChangeShapes.lits] at this
    omega

theorem bulk_sum {H α : Type} (l : List α) (f : α → DataW H) (g : α → Nat) (h : ∀ x ∈ l, g x ≤ Rows.uptoBulk (f x)) : (l.map g).sum ≤ Rows.uptoBulkAll (l.map f) := by
  induction l with
  | nil => simp [Rows.uptoBulkAll]
  | cons x r ih =>
    have := ih (fun y hy => h y (by simp [hy]))
    have := h x (by simp)
    simp only [List.map_cons, List.sum_cons, Rows.uptoBulkAll]
    omega

/-- The lengths, each and one more, together. -/
def lens (ls : List (List UInt8)) : Nat := (ls.map fun s => s.length + 1).sum
theorem lens_tot (ls : List (List UInt8)) : tot ls ≤ 10 * lens ls ∧ ls.length ≤ lens ls ∧ ∀ s ∈ ls, s.length ≤ lens ls := by
  induction ls with
  | nil => simp [tot, lens]
  | cons s t ih =>
    obtain ⟨h1, h2, h3⟩ := ih
    simp only [tot, lens, List.map_cons, List.sum_cons, List.length_cons] at *
    refine ⟨by omega, by omega, fun x hx => ?_⟩
    rcases List.mem_cons.1 hx with rfl | hx
    · omega
    · have := h3 x hx
      omega

theorem lens_bulk {H : Type} {d : DataW H} {len : Nat} {A : Nat → Option Addr} {L : Nat → Nat} {Z : Nat → List Int} {sp : List (DataW H)} (hd : d = .slice ((List.range len).map fun r => intRow .u8 (A r) (L r) (Z r)) sp) (h : ∀ r, r < len → L r ≤ (Z r).length ∧ (A r = none → L r = 0)) :
    lens ((List.range len).map fun r => ((Z r).take (L r)).map fun z => UInt8.ofNat z.toNat) + 1 ≤ Rows.uptoBulk d := by
  subst hd
  have h1 := bulk_sum (List.range len) (fun r => intRow (H := H) .u8 (A r) (L r) (Z r)) (fun r => L r + 1) (fun r hr => by
    have := h r (by simpa using hr)
    exact bulk_row this.1 this.2)
  have h2 : lens ((List.range len).map fun r => ((Z r).take (L r)).map fun z => UInt8.ofNat z.toNat) = ((List.range len).map fun r => L r + 1).sum := by
    unfold lens
    rw [List.map_map]
    congr 1
    apply List.map_congr_left
    intro r hr
    have := (h r (by simpa using hr)).1
    simp
    omega
  simp only [Rows.uptoBulk]
  omega
end Go.Proofs.Ytllpohacomknfaa
