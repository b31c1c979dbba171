/- An element of a slice that reads as a list, its address not written out. -/
import Derived.Test.YtdfnainibjgenaaSortB
namespace Go.Proofs.Ytdfnainibjgenaa
open Go.RowKit Go.Shelf
set_option linter.unusedVariables false

theorem idx_reads {W : World} {a : Option Addr} {n c : Nat} {xs : List Int} (h : Reads encI W (.slice a n c) xs) {j : Nat} (hj : j < xs.length) :
    ∃ ad : Addr, (∀ w, (Instr.indexAt 22 (.slice a n c) (.int .i64 j)).run Try.prog w = .ok (.pointer (some ad)) w) ∧ W.cell? ad = some (.int .i64 xs[j]) := by
  obtain ⟨b, off, cap, e, hc⟩ := h.cell hj
  simp only [Value.slice.injEq] at e
  obtain ⟨rfl, rfl, rfl⟩ := e
  refine ⟨⟨b, off + j, none⟩, fun w => ?_, hc⟩
  have hs : ∀ w, (Go.sizeOf 3).run Try.prog w = .ok 1 w := Try.sizeOf3
  have hj' : (0 : Int) ≤ j ∧ (j : Int) < xs.length := by omega
  rw [run_indexAt_slice (P := Try.prog) w 22 ⟨b, off, none⟩ xs.length c .i64 j (by rw [show Try.prog.elem 22 = 3 by kernel_rfl]; exact Try.underlying22)]
  simp [hj'.2, show Try.prog.elem 22 = 3 by kernel_rfl, hs, addr_add, Result.andThen]
end Go.Proofs.Ytdfnainibjgenaa
