/- LevelMeans is proved: whatever the input, the call answers true, and each argument reads afterwards as it read before. No condition beside the row's own (no ring in the inputs; a stack without end). -/
import Derived.Test.YtnnkggfhhkhnmaaLawG
import Derived.Test.YtnnkggfhhkhnmaaEnds
import Derived.Test.YtnnkggfhhkhnmaaRows
import Derived.WalkKit
import Derived.ProofKit
import Derived.OpenShut
import Derived.ShutString
import Derived.ChangeOld
import Derived.Below
import Derived.SizedLaws
namespace Go.Proofs.Ytnnkggfhhkhnmaa.levelMeans
open Go.ChangeShapes Go.WideShapes Go.ChangeAt Go.RowKit
open Go.ChangeMaps (open_string shut_string)
set_option linter.unusedVariables false

theorem own : ownKnob Try.prog.godebug = none := by kernel_rfl
theorem laidOut : laidOutB Try.prog = true := by kernel_rfl
set_option maxRecDepth 100000 in
theorem lifted (os : Os) (started : os.Started) (H : Type) (enc : TypeId × Value → H) :
    ReturnsInHanded {} Try.checked os 8 .any (Rows.levelMeansSpec.pre6 enc Try.prog Try.f8 Rows.levelMeansRow.domain false) (Rows.levelMeansSpec.post enc Try.prog Try.f8 false true false false) := by
  refine returnsInHanded_of_change_sized (C := Try.checked) own started (by kernel_rfl) Try.func8
    (ChangeSpec.witness6 (enc := enc) (C := Try.checked) false ⟨#[], #[.agg [Value.int .i64 0, Value.int .i64 0, Value.slice none 0 0].toArray, .agg [Value.int .i64 0, Value.int .i64 0, Value.slice none 0 0].toArray, .slice none 0 0], []⟩ 8 (by kernel_rfl) (by kernel_rfl) (by kernel_rfl) (by kernel_rfl)) ?_
  intro W base args ds gs before hval0 hW hcnd hsz0 _
  have hval : ∀ (j : Nat) t v, Try.f8.params[j]? = some t → args[j]? = some v → Value.okWide Try.prog W .any base t v := hval0
  have hW' := hW
  obtain ⟨p, q, hA0, hV, rfl, hfz, hnd⟩ := hW
  have hA : DataW.TrodAll enc Try.prog W 0 (fun _ => true) true Try.f8.params.toList args.toList ds p := hA0
  rw [Try.params8] at hA hval
  obtain ⟨v0, vs0, d0, ds0, p0, q0, hargs, rfl, rfl, h0, r0⟩ := trodAll_cons hA
  obtain ⟨v1, vs1, d1, ds1, p1, q1, rfl, rfl, rfl, h1, r1⟩ := trodAll_cons r0
  obtain ⟨v2, vs2, d2, ds2, p2, q2, rfl, rfl, rfl, h2, r2⟩ := trodAll_cons r1
  obtain ⟨rfl, rfl, rfl⟩ := trodAll_nil r2
  obtain rfl : args = #[v0, v1, v2] := by cases args; simp_all
  obtain ⟨rfl, rfl⟩ := trodVars_none hV
  have k0 := h0
  have lt0 : ∀ x ∈ p0, x.block < W.heap.size := by obtain ⟨m, hm⟩ := k0; exact DataW.trod_lt m _ _ _ hm
  obtain ⟨cs0, rfl, _⟩ := okWide_str Try.underlying24 (hval 0 24 v0 rfl rfl)
  obtain ⟨c0, ⟨l0, rl0⟩, he0⟩ : ∃ c, (∃ l, RL W c l) ∧ cs0.toList = lc c := by
    obtain ⟨fuel, hf⟩ := h0
    exact open_lvl _ _ _ hf
  obtain rfl : cs0 = (lc c0).toArray := by apply Array.ext'; rw [he0]
  have k1 := h1
  have lt1 : ∀ x ∈ p1, x.block < W.heap.size := by obtain ⟨m, hm⟩ := k1; exact DataW.trod_lt m _ _ _ hm
  obtain ⟨cs1, rfl, _⟩ := okWide_str Try.underlying24 (hval 1 24 v1 rfl rfl)
  obtain ⟨c1, ⟨l1, rl1⟩, he1⟩ : ∃ c, (∃ l, RL W c l) ∧ cs1.toList = lc c := by
    obtain ⟨fuel, hf⟩ := h1
    exact open_lvl _ _ _ hf
  obtain rfl : cs1 = (lc c1).toArray := by apply Array.ext'; rw [he1]
  have k2 := h2
  have lt2 : ∀ x ∈ p2, x.block < W.heap.size := by obtain ⟨m, hm⟩ := k2; exact DataW.trod_lt m _ _ _ hm
  obtain ⟨a2, len2, cap2, rfl⟩ := okWide_slice Try.underlying29 (hval 2 29 v2 rfl rfl)
  obtain ⟨zs2, rz2, hn2⟩ : ∃ zs : List Int, Rd W (.slice a2 len2 cap2) 1 zs.length (ints zs) ∧ zs.length ≤ 9223372036854775807 := by
    obtain ⟨fuel, hf⟩ := h2
    exact open_intl hf
  clear hA0 hval0
  refine (levelMeans_walk c0 c1 l0 l1 zs2 _ W rl0 rl1 rz2 hn2).mono fun e W' ⟨he, bel⟩ => ?_
  subst he
  exact ⟨_, rfl, _, _, _, [], _, [], hW', trodAll_mk1 (shut_bool Try.underlying4 _), (trodAll_cons_mk (Below.trod laidOut (by kernel_rfl) (of_decide_eq_true (by kernel_rfl)) k0 bel lt0) (trodAll_cons_mk (Below.trod laidOut (by kernel_rfl) (of_decide_eq_true (by kernel_rfl)) k1 bel lt1) (trodAll_cons_mk (Below.trod laidOut (by kernel_rfl) (of_decide_eq_true (by kernel_rfl)) k2 bel lt2) trodAll_mk0))), rfl, bel.frame _, fun h => by cases h⟩

theorem over : Rows.levelMeansRow.holds Try.pinned (OpenSpec.ofChange Rows.levelMeansSpec) :=
  OpenClaim.holds_of_wide 8 Try.f8 rfl rfl rfl rfl rfl rfl rfl ⟨rfl, rfl, rfl, rfl, rfl⟩ rfl rfl rfl rfl rfl (by kernel_rfl) Try.func8 (by kernel_rfl)
    (of_decide_eq_true (by kernel_rfl)) (by unfold Func.isWrapper; first | (rw [if_pos (by decide +kernel)]; kernel_rfl) | (rw [if_neg (by decide +kernel)]; exact ⟨rfl, rfl⟩))
    (fun os started H enc _ => lifted os started H enc)
end Go.Proofs.Ytnnkggfhhkhnmaa.levelMeans

namespace Go.Proofs.Ytnnkggfhhkhnmaa
/-- The statement. -/
theorem levelMeans_said : Rows.LevelMeansSaid := levelMeans.over
#print axioms levelMeans_said
end Go.Proofs.Ytnnkggfhhkhnmaa
