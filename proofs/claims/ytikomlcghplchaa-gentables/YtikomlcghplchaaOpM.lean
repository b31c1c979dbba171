/- A slice of calls of a set or a table (Do, Key, Item), as the laws' argument reads. -/
import Derived.Test.YtikomlcghplchaaStrM
namespace Go.Proofs.Ytikomlcghplchaa
open Go.RowKit Go.Shelf
set_option linter.unusedVariables false
set_option linter.unusedSimpArgs false

structure OpG where
  what : Int
  key : ByteArray
  item : Int
/-- The slice v reads as these calls. -/
def RO (W : World) (v : Value) (os : List OpG) : Prop :=
  ((∃ a c, v = .slice a 0 c) ∧ os = []) ∨
  ∃ b off cap, v = .slice (some ⟨b, off, none⟩) os.length cap ∧ ∀ j o, os[j]? = some o → W.cell? ⟨b, off + 3 * j, none⟩ = some (.int .i64 o.what) ∧ W.cell? ⟨b, off + 3 * j + 1, none⟩ = some (.string o.key) ∧ W.cell? ⟨b, off + 3 * j + 2, none⟩ = some (.int .i64 o.item)
theorem RO.form {W : World} {v : Value} {os : List OpG} (h : RO W v os) : ∃ a c, v = .slice a os.length c := by
  rcases h with ⟨⟨a, c, rfl⟩, rfl⟩ | ⟨b, off, cap, rfl, _⟩
  · exact ⟨a, c, rfl⟩
  · exact ⟨_, cap, rfl⟩
/-- It stays while none of its blocks turns. -/
theorem RO.below {W W' : World} {v : Value} {os : List OpG} (h : RO W v os) (hB : Below W.heap.size W W') : RO W' v os := by
  rcases h with h | ⟨b, off, cap, rfl, h2⟩
  · exact .inl h
  · refine .inr ⟨b, off, cap, rfl, fun j o hj => ?_⟩
    obtain ⟨c1, c2, c3⟩ := h2 j o hj
    exact ⟨(hB.cell (p := ⟨b, off + 3 * j, none⟩) (cells_blockS c1)).trans c1, (hB.cell (p := ⟨b, off + 3 * j + 1, none⟩) (cells_blockS c2)).trans c2, (hB.cell (p := ⟨b, off + 3 * j + 2, none⟩) (cells_blockS c3)).trans c3⟩
/-- The call at j: where it lies, and what it says. -/
theorem RO.at {W : World} {a : Option Addr} {n c : Nat} {os : List OpG} (h : RO W (.slice a n c) os) {j : Nat} (hj : j < os.length) :
    ∃ ad f1 : Addr, (∀ w, (Instr.indexAt 45 (.slice a n c) (.int .i64 j)).run Try.prog w = .ok (.pointer (some ad)) w) ∧ W.cell? ad = some (.int .i64 os[j].what) ∧ W.cell? f1 = some (.string os[j].key) ∧
      (∀ w, (Instr.fieldAt 50 (.pointer (some ad)) 0).run Try.prog w = .ok (.pointer (some ad)) w) ∧ (∀ w, (Instr.fieldAt 50 (.pointer (some ad)) 1).run Try.prog w = .ok (.pointer (some f1)) w) := by
  rcases h with ⟨_, rfl⟩ | ⟨b, off, cap, e, hc⟩
  · simp at hj
  · cases e
    obtain ⟨c1, c2, c3⟩ := hc j _ (List.getElem?_eq_getElem hj)
    refine ⟨⟨b, off + 3 * j, none⟩, ⟨b, off + 3 * j + 1, none⟩, fun w => ?_, c1, c2, fun w => ?_, fun w => ?_⟩
    · have hs : ∀ w, (Go.sizeOf 50).run Try.prog w = .ok 3 w := Try.sizeOf50
      have hj' : (0 : Int) ≤ j ∧ (j : Int) < os.length := by omega
      rw [run_indexAt_slice (P := Try.prog) w 45 ⟨b, off, none⟩ os.length c .i64 j (by rw [show Try.prog.elem 45 = 50 by kernel_rfl]; exact Try.underlying45)]
      simp [hj'.2, show Try.prog.elem 45 = 50 by kernel_rfl, hs, addr_add, Result.andThen]
    · go_simp
    · go_simp

/-! ### the law's own list, against the set -/
/-- All before i stand before x, what stands at i does not. -/
def At (ks : List ByteArray) (x : ByteArray) (i : Nat) : Prop := i ≤ ks.length ∧ (∀ y ∈ ks.take i, sl y x = true) ∧ ∀ y, ks[i]? = some y → sl y x = false
theorem At.stands {ks : List ByteArray} {x : ByteArray} {i : Nat} (h : At ks x i) : Stands (ul ks) x i := by
  refine ⟨by simpa [ul] using h.1, fun p hp => ?_, fun p hp => ?_⟩
  · simp only [ul, ← List.map_take, List.mem_map] at hp
    obtain ⟨y, hy, rfl⟩ := hp
    exact h.2.1 y hy
  · simp only [ul, ← List.map_drop, List.head?_map, List.head?_drop] at hp
    cases hk : ks[i]? with
    | none => rw [hk] at hp; cases hp
    | some y => rw [hk] at hp; cases hp; exact h.2.2 y hk
theorem At.has {ks : List ByteArray} {x : ByteArray} {i : Nat} (hu : Up (ul ks)) (h : At ks x i) : hasK x (ul ks) = decide (ks[i]? = some x) := by
  rw [h.stands.has hu]
  simp only [ul, ← List.map_drop, List.head?_map, List.head?_drop]
  cases hk : ks[i]? with
  | none => simp
  | some y => simp
theorem At.put {ks : List ByteArray} {x : ByteArray} {i : Nat} (hu : Up (ul ks)) (h : At ks x i) (hn : hasK x (ul ks) = false) : putK x () (ul ks) = ul (ks.take i ++ [x] ++ ks.drop i) := by
  rw [h.stands.put_new hu hn]
  simp [ul, List.map_take, List.map_drop]
theorem At.del {ks : List ByteArray} {x : ByteArray} {i : Nat} (hu : Up (ul ks)) (h : At ks x i) (hn : hasK x (ul ks) = true) : delK x (ul ks) = ul (ks.take i ++ ks.drop (i + 1)) := by
  rw [h.stands.del hu hn]
  simp [ul, List.map_take, List.map_drop]
theorem At.zero (ks : List ByteArray) (x : ByteArray) : (0 ≤ ks.length ∧ ∀ y ∈ ks.take 0, sl y x = true) := ⟨Nat.zero_le _, by simp⟩
/-- One further. -/
theorem At.next {ks : List ByteArray} {x : ByteArray} {i : Nat} (h : ∀ y ∈ ks.take i, sl y x = true) (hi : i < ks.length) (hx : sl ks[i] x = true) : ∀ y ∈ ks.take (i + 1), sl y x = true := by
  intro y hy
  rw [List.take_succ_eq_append_getElem hi] at hy
  rcases List.mem_append.1 hy with hy | hy
  · exact h y hy
  · obtain rfl : y = ks[i] := by simpa using hy
    exact hx
end Go.Proofs.Ytikomlcghplchaa
