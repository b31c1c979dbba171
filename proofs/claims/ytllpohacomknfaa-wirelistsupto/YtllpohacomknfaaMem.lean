/- A slice that reads as bytes; a slice of the call's own. -/
import Derived.Test.YtllpohacomknfaaNum
import Derived.Test.YtllpohacomknfaaRows
import Derived.Below
import Derived.OwnWalk
import Derived.Laws.AppendOwnNone
import Derived.Laws.IdiomStrings
import Derived.Laws.BytesArg
import Derived.Lib.Hide
namespace Go.Proofs.Ytllpohacomknfaa
open Go.RowKit
set_option linter.unusedVariables false
set_option linter.unusedSimpArgs false

theorem info5 : (Try.prog.info? 5).map (fun i => (i.zero, i.size, i.bytes)) = some (some (.int .u8 0), 1, 1) := by kernel_rfl

/-- The slice v reads as the bytes bs. -/
def RB (W : World) (v : Value) (bs : List UInt8) : Prop :=
  (∃ a c, v = .slice a 0 c ∧ bs = [] ∧ (a = none → c = 0)) ∨
  ∃ b off cap, v = .slice (some ⟨b, off, none⟩) bs.length cap ∧ bs.length ≤ cap ∧ ∀ j u, bs[j]? = some u → W.cell? ⟨b, off + j, none⟩ = some (encU u)

theorem addr_add (b off j : Nat) : (⟨b, off, none⟩ : Addr).add j = ⟨b, off + j, none⟩ := by
  unfold Addr.add
  split
  · next h => subst h; rfl
  · rfl

theorem cells_block {W : World} {p : Addr} {u : Value} (h : W.cell? p = some u) : p.block < W.heap.size := by
  rcases Nat.lt_or_ge p.block W.heap.size with h' | h'
  · exact h'
  · have : W.heap[p.block]? = none := Array.getElem?_eq_none h'
    simp [World.cell?, this] at h

theorem RB.form {W : World} {v : Value} {bs : List UInt8} (h : RB W v bs) : ∃ a c, v = .slice a bs.length c ∧ bs.length ≤ c ∧ (a = none → c = 0) := by
  rcases h with ⟨a, c, rfl, rfl, h⟩ | ⟨b, off, cap, rfl, h, _⟩
  · exact ⟨a, c, rfl, Nat.zero_le _, h⟩
  · exact ⟨_, cap, rfl, h, by simp⟩

theorem RB.below {W W' : World} {v : Value} {bs : List UInt8} (h : RB W v bs) (hB : Below W.heap.size W W') : RB W' v bs := by
  rcases h with h | ⟨b, off, cap, rfl, h1, h2⟩
  · exact .inl h
  · refine .inr ⟨b, off, cap, rfl, h1, fun j u hj => ?_⟩
    have hc := h2 j u hj
    exact (hB.cell (p := ⟨b, off + j, none⟩) (cells_block hc)).trans hc

theorem RB.of_row {W : World} {base e : Nat} {v : Value} {bs : List UInt8} (h : W.ownsRow base e 1 v bs.length (bs.map encU)) : RB W v bs := by
  rcases h.2 with ⟨rfl, h0⟩ | ⟨g, cap, cur, rfl, hg, hh, h1, h2, h3, h4⟩
  · exact .inl ⟨_, _, rfl, List.eq_nil_of_length_eq_zero h0, fun _ => rfl⟩
  · refine .inr ⟨g, 0, cap, rfl, h1, fun j u hj => ?_⟩
    have := h.cells (g := g) rfl j (encU u) (by simp [hj])
    rwa [addr_add] at this

theorem RB.nil (W : World) : RB W (.slice none 0 0) [] := .inl ⟨_, _, rfl, rfl, fun _ => rfl⟩

/-- 'string(b)'. -/
theorem RB.str {W : World} {v : Value} {bs : List UInt8} (h : RB W v bs) : (convert 22 9 v).run Try.prog W = .ok (.string ⟨bs.toArray⟩) W := by
  rcases h with ⟨a, c, rfl, rfl, h⟩ | ⟨b, off, cap, rfl, h1, h2⟩
  · rw [run_convert_bytes_string W 22 9 5 a 0 c Try.underlying22 Try.underlying5 Try.underlying9]
    cases a <;> simp [Conv.bytesToString, loadCells] <;> rfl
  · refine run_convert_bytes_back W 22 9 5 ⟨b, off, none⟩ cap bs Try.underlying22 Try.underlying5 Try.underlying9 fun j hj => ?_
    rw [addr_add]
    exact h2 j _ (List.getElem?_eq_getElem hj)

theorem RB.upto {W : World} {a : Option Addr} {l c : Nat} {bs : List UInt8} (h : RB W (.slice a l c) bs) {k : Nat} (hk : k ≤ bs.length) : RB W (.slice a k c) (bs.take k) := by
  rcases h with ⟨a', c', e, rfl, h⟩ | ⟨b, off, cap, e, h1, h2⟩
  · cases e
    obtain rfl : k = 0 := by simpa using hk
    exact .inl ⟨_, _, rfl, by simp, h⟩
  · cases e
    have e : (bs.take k).length = k := by simp; omega
    refine .inr ⟨b, off, c, by rw [e], by omega, fun j u hj => h2 j u ?_⟩
    rw [List.getElem?_take] at hj
    split at hj
    · exact hj
    · cases hj

/-- What a call that makes bytes leaves. -/
def Gives (bs : List UInt8) (w : World) (e : Ending) (w' : World) : Prop :=
  ∃ v, e = .returned v ∧ w'.ownsRow w.heap.size 5 1 v bs.length (bs.map encU) ∧ Below w.heap.size w w'

theorem oneCell_encU (l : List UInt8) : ∀ u ∈ l.map encU, u.oneCell' = true := by
  intro u hu
  simp only [List.mem_map] at hu
  obtain ⟨c, _, rfl⟩ := hu
  rfl

/-- What is asked of the source of an append. -/
theorem RB.src {W W1 : World} {a : Option Addr} {c : Nat} {bs : List UInt8} (h : RB W (.slice a bs.length c) bs) (hB : Below W.heap.size W W1) :
    (a = none → bs.length = 0 ∧ c = 0) ∧ ∀ ad, a = some ad → ∀ j u, (bs.map encU)[j]? = some u → W1.cell? (ad.add j) = some u := by
  refine ⟨fun e => ?_, ?_⟩
  · obtain ⟨a', c', e', hl, hn⟩ := h.form
    cases e'
    have := hn e
    omega
  · rcases h.below hB with ⟨a', c', e', rfl, _⟩ | ⟨b, off, cap, e', h1, h2⟩
    · intro ad e j u hu; simp at hu
    · cases e'
      intro ad e j u hu
      cases e
      simp only [List.getElem?_map, Option.map_eq_some_iff] at hu
      obtain ⟨x, hx, rfl⟩ := hu
      rw [addr_add]
      exact h2 j x hx
end Go.Proofs.Ytllpohacomknfaa
