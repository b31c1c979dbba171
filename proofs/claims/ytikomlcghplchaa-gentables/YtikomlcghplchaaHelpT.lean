/- GenTables: small facts. -/
import Derived.Test.YtikomlcghplchaaRegX
namespace Go.Proofs.Ytikomlcghplchaa
open Go.RowKit Go.Shelf
set_option linter.unusedVariables false
set_option linter.unusedSimpArgs false

theorem stands_at {ks : List (ByteArray × Int)} {x : ByteArray} {i : Nat} (hik : i < ks.length) (hbef : ∀ p ∈ ks.take i, sl p.1 x = true) (hsl : sl ks[i].1 x = false) : Stands ks x i := by
  refine ⟨by omega, hbef, fun p hp => ?_⟩
  rw [List.head?_drop, List.getElem?_eq_getElem hik] at hp
  have hp : ks[i] = p := by simpa using hp
  subst hp
  exact hsl
theorem stands_end {ks : List (ByteArray × Int)} {x : ByteArray} {i : Nat} (hi : i ≤ ks.length) (hik : ¬ i < ks.length) (hbef : ∀ p ∈ ks.take i, sl p.1 x = true) : Stands ks x i := by
  refine ⟨hi, hbef, fun p hp => ?_⟩
  rw [List.head?_drop, List.getElem?_eq_none (by omega)] at hp
  cases hp
theorem has_at {ks : List (ByteArray × Int)} {x : ByteArray} {i : Nat} (hu : Up ks) (h : Stands ks x i) (hik : i < ks.length) : hasK x ks = decide (ks[i].1 = x) := by
  rw [h.has hu, List.head?_drop, List.getElem?_eq_getElem hik]
  simp
theorem has_end {ks : List (ByteArray × Int)} {x : ByteArray} {i : Nat} (hu : Up ks) (h : Stands ks x i) (hik : ¬ i < ks.length) : hasK x ks = false := by
  rw [h.has hu, List.head?_drop, List.getElem?_eq_none (by omega)]
  rfl
theorem next_bef {ks : List (ByteArray × Int)} {x : ByteArray} {i : Nat} (h : ∀ p ∈ ks.take i, sl p.1 x = true) (hi : i < ks.length) (hx : sl ks[i].1 x = true) : ∀ p ∈ ks.take (i + 1), sl p.1 x = true := by
  intro y hy
  rw [List.take_succ_eq_append_getElem hi] at hy
  rcases List.mem_append.1 hy with hy | hy
  · exact h y hy
  · obtain rfl : y = ks[i] := by simpa using hy
    exact hx
theorem get_at {ks : List (ByteArray × Int)} (hu : Up ks) {j : Nat} (hj : j < ks.length) : getK ks[j].1 ks = some ks[j].2 ∧ hasK ks[j].1 ks = true := by
  have hs : Stands ks ks[j].1 j := stands_at hj (fun p hp => by
    obtain ⟨i, hi, rfl⟩ := List.mem_take_iff_getElem.1 hp
    exact List.pairwise_iff_getElem.1 hu i j (by omega) hj (by omega)) (sl_irrefl _)
  have hh : hasK ks[j].1 ks = true := by rw [has_at hu hs hj]; simp
  exact ⟨hs.get hu hj hh, hh⟩
theorem getK_none {x : ByteArray} {ks : List (ByteArray × Int)} (h : hasK x ks = false) : getK x ks = none := by
  rw [hasK_getK] at h
  cases hg : getK x ks with
  | none => rfl
  | some v => rw [hg] at h; cases h
/-- The head of GenTables' loop. -/
def TB (w : World) (os : List OpG) (kv iv : Value) (k : Nat) (ks : List (ByteArray × Int)) (mm : Option Nat) (wr : World) : Prop :=
  k ≤ os.length ∧ k ≤ 60 ∧ ks.length ≤ k ∧ TH w wr kv iv mm k (ks.map (·.1)) (ks.map (·.2)) ks
section
variable {w wr W' : World} {os : List OpG} {kv iv : Value} {k N : Nat} {ks ks' : List (ByteArray × Int)} {mm : Option Nat}
theorem TB.below (h : TB w os kv iv k ks mm wr) (hB : Below wr.heap.size wr W') : TB w os kv iv k ks mm W' := ⟨h.1, h.2.1, h.2.2.1, h.2.2.2.below hB⟩
theorem TB.form (h : TB w os kv iv k ks mm wr) : ∃ am cm ai ci, kv = .slice am ks.length cm ∧ iv = .slice ai ks.length ci := by
  obtain ⟨am, cm, e1, _⟩ := h.2.2.2.1.form
  obtain ⟨ai, ci, e2, _⟩ := h.2.2.2.ri.form
  exact ⟨am, cm, ai, ci, by simpa using e1, by simpa using e2⟩
theorem TB.B (h : TB w os kv iv k ks mm wr) : Below w.heap.size w wr := h.2.2.2.2.2.2.2.2.2
theorem TB.tab (h : TB w os kv iv k ks mm wr) : TabT wr w.heap.size mm k ks := h.2.2.2.2.2.1
theorem TB.key {am : Option Addr} {nm cm : Nat} (h : TB w os (.slice am nm cm) iv k ks mm wr) {i : Nat} (hi : i < ks.length) :
    ∃ ad : Addr, (∀ w, (Instr.indexAt 48 (.slice am nm cm) (.int .i64 i)).run Try.prog w = .ok (.pointer (some ad)) w) ∧ wr.cell? ad = some (.string ks[i].1) := by
  obtain ⟨ad, h1, h2⟩ := h.2.2.2.1.idx (j := i) (by simpa using hi)
  exact ⟨ad, h1, by simpa using h2⟩
theorem TB.item {ai : Option Addr} {ni ci : Nat} (h : TB w os kv (.slice ai ni ci) k ks mm wr) {i : Nat} (hi : i < ks.length) :
    ∃ ad : Addr, (∀ w, (Instr.indexAt 22 (.slice ai ni ci) (.int .i64 i)).run Try.prog w = .ok (.pointer (some ad)) w) ∧ wr.cell? ad = some (.int .i64 ks[i].2) := by
  obtain ⟨ad, h1, h2⟩ := h.2.2.2.ri.idx (j := i) (by simpa using hi)
  exact ⟨ad, h1, by simpa using h2⟩
/-- A round that leaves the lists as they are. -/
theorem TB.kept (h : TB w os kv iv k ks mm wr) (h1 : k < os.length) (h2 : k < 60) (hN : N ≤ k + 1) (hst : StoredT w.heap.size mm wr N ks W') : ∃ mm', TB w os kv iv (k + 1) ks mm' W' := by
  obtain ⟨mm', h3⟩ := h.2.2.2.stored hst
  have := h.2.2.1
  exact ⟨mm', by omega, by omega, by omega, h3.mono hN⟩
end
end Go.Proofs.Ytikomlcghplchaa
