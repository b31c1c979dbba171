/- gen.NewSet at ints. -/
import Derived.Test.YtdfnainibjgenaaSetM
namespace Go.Proofs.Ytdfnainibjgenaa
open Go.RowKit Go.Shelf
set_option linter.unusedVariables false
set_option linter.unusedSimpArgs false
attribute [local go_sem] Oper.semAt_some wide_fn wide_depth

/-- The set of a list: rising, each once. -/
def setOfL (xs : List Int) : List Int := xs.foldl (fun a x => ins x a) []
theorem setOfL_snoc (xs : List Int) (x : Int) : setOfL (xs ++ [x]) = ins x (setOfL xs) := by simp [setOfL]

set_option maxRecDepth 100000 in
set_option maxHeartbeats 1000000 in
/-- gen.NewSet(l...). -/
theorem newset49 (xs : List Int) (hlen : xs.length ≤ 1000) (hwf : ∀ x ∈ xs, (Lit.int .i64 x).wf = true) (v : Value) (W : World) (hv : Reads encI W v xs) :
    Calls Try.prog 49 #[v] W fun e w' => ∃ m N, e = .returned (.pointer (some ⟨W.heap.size, 0, none⟩)) ∧ N ≤ 1000 ∧ TabI w' W.heap.size m N (setOfL xs) ∧ (∀ b, m = some b → W.heap.size ≤ b) ∧ Below W.heap.size W w' := by
  refine (callsIn_wide (n := 0)).1 ?_
  refine callsIn_of_wp Try.func49 rfl trivial ?_ rfl
  simp only [Try.ntmps49, List.size_toArray, List.length_cons, List.length_nil, Nat.reduceAdd, Nat.reduceSub, Array.replicate_succ, Array.replicate_zero, List.push_toArray, List.append_toArray, List.nil_append, List.cons_append]
  obtain ⟨a0, c0, hvf⟩ := hv.form
  have Hv := Lib.hid hv
  have Hw := Lib.hid hwf
  clear hv hwf
  subst hvf
  gi_wp2
  gi_loopw [10] (fun i wr => ∃ (k : Nat) (m : Option Nat), k ≤ xs.length ∧ i = .int .i64 k ∧ TabI wr W.heap.size m k (setOfL (xs.take k)) ∧ (∀ b, m = some b → W.heap.size ≤ b) ∧ Below W.heap.size W wr) (fun i _ => xs.length - (intOf i).toNat)
  case atStart => exact ⟨0, none, Nat.zero_le _, rfl, ⟨Boxed.new W 103 _, .inl ⟨rfl, rfl⟩⟩, by simp, (Below.refl _ W).alloc (Nat.le_refl _) _⟩
  case round =>
    obtain ⟨k, m, hk, rfl, hT, hmb, hB⟩ := hrel
    by_cases hlt : k < xs.length
    · obtain ⟨b, off, cap, e1, hcx⟩ := (Hv.out.below hB).cell hlt
      simp only [Value.slice.injEq] at e1
      obtain ⟨rfl, _, rfl⟩ := e1
      obtain ⟨hx1, hx2⟩ := take_split hlt
      have hwx := Hw.out xs[k] (by simp)
      have hsn : setOfL (xs.take (k + 1)) = ins xs[k] (setOfL (xs.take k)) := by rw [← hx2, setOfL_snoc]
      clear hx1 hx2
      generalize xs[k] = x at *
      have Ha := Lib.hid (add52 hT (by omega) hwx)
      have Hsn := Lib.hid hsn
      clear hsn hT
      gi_wp2_with (gi_at_call 52; refine ((callsIn_wide (n := 0)).2 Ha.out).mono ?_; rintro e w2 ⟨rfl, m2, h2, hm2, ho2⟩)
      go_roundw
      case rel =>
        refine ⟨k + 1, m2, by omega, by simp, by rw [Hsn.out]; exact h2, fun b hb => ?_, ?_⟩
        · rcases hm2 b hb with h | h
          · exact hmb b h
          · exact Nat.le_trans hB.size h
        · exact ((Only.of_below (H := fun _ => False) hB).trans ho2 (fun b hb => .inr (by rcases hb with rfl | hb; omega; exact hmb b hb))).below (fun b hb => hb.elim)
      case measure => simp [intOf]; omega
    · obtain rfl : k = xs.length := by omega
      gi_wp2
      go_ret
      exact ⟨m, xs.length, rfl, hlen, by rw [List.take_length] at hT; exact hT, hmb, hB⟩
end Go.Proofs.Ytdfnainibjgenaa
