/- WireRows is proved: whatever the input, the call answers true, and each argument reads afterwards as it read before. No condition. The frame of this text was written by the guide's own program. -/
import Derived.Test.YtllpohacomknfaaRows
import Derived.WalkKit
import Derived.ProofKit
import Derived.OpenShut
import Derived.ShutString
import Derived.ChangeOld
import Derived.Below
import Derived.Test.YtllpohacomknfaaWireRows
import Derived.Test.YtllpohacomknfaaRows3
namespace Go.Proofs.Ytllpohacomknfaa.wireRows
open Go.ChangeShapes Go.WideShapes Go.ChangeAt Go.RowKit
open Go.ChangeMaps (open_string shut_string)
set_option linter.unusedVariables false

theorem own : ownKnob Try.prog.godebug = none := by kernel_rfl
theorem laidOut : laidOutB Try.prog = true := by kernel_rfl

/-! ### STEP 1: THE WALK: the Go text returns true, AND WRITES NOTHING THAT WAS THERE: 'Below w.heap.size w w'' (Derived/Below.lean: '.refl', '.alloc', '.drew', '.setCell' at a new block, '.trans'). Open each 'IsRow' by 'rcases' AHEAD of 'go_enter'; part every test ahead of the walk. -/
theorem walk (a0 : Option Addr) (len0 cap0 : Nat) (ls : List (List UInt8)) (w : World) (rm : RM w (.slice a0 len0 cap0) ls) (h1 : ls.length ≤ 9223372036854775807) (h2 : ∀ s ∈ ls, s.length ≤ 9223372036854775807) :
    Calls Try.prog 9 #[.slice a0 len0 cap0] w (Yes w) := by
  obtain ⟨vals, hv, hr⟩ := rm
  exact wireRows_walk ls h1 h2 _ vals w hv hr

/-! ### THE ROW's STEP: WRITTEN OUT: LEAVE IT -/
set_option maxRecDepth 100000 in
theorem lifted (os : Os) (started : os.Started) (H : Type) (enc : TypeId × Value → H) :
    ReturnsInHanded {} Try.checked os 9 .any (Rows.wireRowsSpec.pre6 enc Try.prog Try.f9 Rows.wireRowsRow.domain false) (Rows.wireRowsSpec.post enc Try.prog Try.f9 false true false false) := by
  refine returnsInHanded_of_change (C := Try.checked) own started (by kernel_rfl) Try.func9
    (ChangeSpec.witness6 (enc := enc) (C := Try.checked) false ⟨#[], #[.slice none 0 0], []⟩ 8 (by kernel_rfl) (by kernel_rfl) (by kernel_rfl) (by kernel_rfl)) ?_
  intro W base args ds gs before hval0 hW hcnd _
  have hval : ∀ (j : Nat) t v, Try.f9.params[j]? = some t → args[j]? = some v → Value.okWide Try.prog W .any base t v := hval0
  have hW' := hW
  obtain ⟨p, q, hA0, hV, rfl, hfz, hnd⟩ := hW
  have hA : DataW.TrodAll enc Try.prog W 0 (fun _ => true) true Try.f9.params.toList args.toList ds p := hA0
  rw [Try.params9] at hA hval
  obtain ⟨v0, vs0, d0, ds0, p0, q0, hargs, rfl, rfl, h0, r0⟩ := trodAll_cons hA
  obtain ⟨rfl, rfl, rfl⟩ := trodAll_nil r0
  obtain rfl : args = #[v0] := by cases args; simp_all
  obtain ⟨rfl, rfl⟩ := trodVars_none hV
  obtain ⟨a0, len0, cap0, rfl⟩ := okWide_slice Try.underlying37 (hval 0 37 v0 rfl rfl)
  have k0 := h0
  have lt0 : ∀ x ∈ p0, x.block < W.heap.size := by obtain ⟨m, hm⟩ := k0; exact DataW.trod_lt m _ _ _ hm
  obtain ⟨ls, rm, hn1, hn2⟩ : ∃ ls, RM W (.slice a0 len0 cap0) ls ∧ ls.length ≤ 9223372036854775807 ∧ ∀ s ∈ ls, s.length ≤ 9223372036854775807 := by
    obtain ⟨fuel, hf⟩ := h0
    rcases Deep.open_int_rows Try.underlying37 Try.underlying22 Try.underlying5 (by kernel_rfl) (by kernel_rfl) hf with ⟨hcs, _⟩ | ⟨x, l, c, A, L, C, Z, hcs, _, hl, hm, _, hrow⟩
    · simp [Value.cells] at hcs
      obtain ⟨rfl, rfl, rfl⟩ := hcs
      exact ⟨[], RM.nil W, by decide, by simp⟩
    · simp [Value.cells] at hcs
      obtain ⟨rfl, rfl, rfl⟩ := hcs
      refine ⟨_, rm_rows (A := A) (L := L) (C := C) (Z := Z) hl (fun r hr => ?_), ?_, ?_⟩
      · obtain ⟨c1, c2, c3, c4, c5, c6, c7⟩ := hrow r hr
        exact ⟨c1, c2, c4, c5, c6, fun a' ha => (c7 a' ha).2⟩
      · simp only [List.length_map, List.length_range]
        unfold maxLen at hm
        omega
      · intro s hs
        simp only [List.mem_map, List.mem_range] at hs
        obtain ⟨r, hr, rfl⟩ := hs
        obtain ⟨_, c2, c3, _⟩ := hrow r (by omega)
        simp only [List.length_map, List.length_take]
        unfold maxLen at c3
        omega
  clear hA0 hval0
  refine (walk a0 len0 cap0 ls W rm hn1 hn2).mono fun e W' ⟨he, bel⟩ => ?_
  subst he
  exact ⟨_, rfl, _, _, _, [], _, [], hW', trodAll_mk1 (shut_bool Try.underlying4 _), (trodAll_cons_mk (Below.trod laidOut (by kernel_rfl) (of_decide_eq_true (by kernel_rfl)) k0 bel lt0) trodAll_mk0), rfl, bel.frame _, fun h => by cases h⟩

theorem over : Rows.wireRowsRow.holds Try.pinned (OpenSpec.ofChange Rows.wireRowsSpec) :=
  OpenClaim.holds_of_wide 9 Try.f9 rfl rfl rfl rfl rfl rfl rfl ⟨rfl, rfl, rfl, rfl, rfl⟩ rfl rfl rfl rfl rfl (by kernel_rfl) Try.func9 (by kernel_rfl)
    (of_decide_eq_true (by kernel_rfl)) (by unfold Func.isWrapper; first | (rw [if_pos (by decide +kernel)]; kernel_rfl) | (rw [if_neg (by decide +kernel)]; exact ⟨rfl, rfl⟩))
    (fun os started H enc _ => lifted os started H enc)

/-- The statement. -/
theorem proved : Rows.WireRowsSaid := over
end Go.Proofs.Ytllpohacomknfaa.wireRows

namespace Go.Proofs.Ytllpohacomknfaa
/-- The statement. -/
theorem wireRows_said : Rows.WireRowsSaid := wireRows.proved
#print axioms wireRows_said
end Go.Proofs.Ytllpohacomknfaa
