/- WireLists' region that draws its order. -/
import Derived.Test.YtllpohacomknfaaPutL
import Derived.Test.YtllpohacomknfaaWnReg
namespace Go.Proofs.Ytllpohacomknfaa
open Go.RowKit Go.Shelf
set_option linter.unusedVariables false
set_option linter.unusedSimpArgs false

set_option maxRecDepth 100000 in
set_option maxHeartbeats 4000000 in
theorem wl_region (bs : List UInt8) (ls : List (List UInt8)) (hb : bs.length + tot ls + 20 ≤ 140737488355328) (hlen : ls.length ≤ 140737488355328) (hls : ∀ s ∈ ls, s.length < 2 ^ 64) (v u z : Value) (vals : List Value) (w : World) (a : Act)
    (hF : Fr 144 a [(0, v), (2, u), (15, z)]) (hv0 : RB w v bs) (hu0 : RV w u vals) (hr0 : RL w vals ls) (hz0 : RB w z (bs ++ pl ls)) :
    wpAnyH Try.prog .any (regOps Try.f5 27) (QN (Tells 144 6 w)) (S0 w) 11 (lst 11 []) a w.drew := by
  have hB0 : Below w.heap.size w w.drew := (Below.refl _ _).drew
  have hS : S0 w w.drew := hB0
  refine take_move (g := none) 0 134 (.tmp 0) (v) hF hS (by kernel_rfl) (by kernel_rfl) (by decide) (by kernel_rfl) (by kernel_rfl) ?_; intro a hF
  refine take_move (g := none) 1 135 (.tmp 2) (u) hF hS (by kernel_rfl) (by kernel_rfl) (by decide) (by kernel_rfl) (by kernel_rfl) ?_; intro a hF
  refine take_move (g := none) 4 138 (.tmp 15) (z) hF hS (by kernel_rfl) (by kernel_rfl) (by decide) (by kernel_rfl) (by kernel_rfl) ?_; intro a hF
  refine take_conv (g := none) 5 139 22 9 (.tmp 138) (z) (.string ⟨(bs ++ pl ls).toArray⟩) hF hS (by kernel_rfl) (by kernel_rfl) (by decide) (by kernel_rfl) (by kernel_rfl) (fun W h => (hz0.below h).str) ?_; intro a hF
  refine draw_only (i := 2) (by kernel_rfl) ?_
  refine step_call (ts := #[22, 37, 35]) 2 136 28 #[.tmp 134, .tmp 135, .func 21] [v, u, .func (.func 21) #[] #[]] (g := none) hF (by kernel_rfl) (by decide) (by kernel_rfl) (by kernel_rfl) (enters_of Try.func28 (by kernel_rfl) rfl) ?_
  refine (putl28 bs ls hb hlen hls v u vals _ (hv0.below hB0) (hu0.below hB0) (hr0.below hB0)).mono ?_
  rintro e w1 ⟨v1, rfl, ho1, hB1⟩
  refine ⟨v1, rfl, fun a hF => ?_⟩
  have hS : S0 w w1 := hB0.trans hB1
  refine ⟨hS, ?_⟩
  refine draw_only (i := 3) (by kernel_rfl) (step_conv 3 137 22 9 (.tmp 136) v1 (.string ⟨(bs ++ pl ls).toArray⟩) (g := none) hF (by kernel_rfl) (by decide) (by kernel_rfl) (by kernel_rfl) (RB.of_row ho1).str ?_)
  intro a hF
  refine ⟨hS, ?_⟩
  refine take_bin (g := none) 6 140 .eql 9 9 (.tmp 137) (.tmp 139) (.string ⟨(bs ++ pl ls).toArray⟩) (.string ⟨(bs ++ pl ls).toArray⟩) (.bool true) hF hS (by kernel_rfl) (by kernel_rfl) (by decide) (by kernel_rfl) (by kernel_rfl) (by kernel_rfl) (eql_str rfl) ?_; intro a hF
  refine take_move (g := none) 7 141 (.tmp 140) (.bool true) hF hS (by kernel_rfl) (by kernel_rfl) (by decide) (by kernel_rfl) (by kernel_rfl) ?_; intro a hF
  refine draw_only (i := 8) (by kernel_rfl) ?_
  refine step_call (ts := #[]) 8 142 18 #[] [] (g := some (7, true)) hF (by kernel_rfl) (by decide) (by kernel_rfl) (by kernel_rfl) (enters_of Try.func18 (by kernel_rfl) rfl) ?_
  refine (awake18 w1).mono ?_
  rintro e w7 ⟨rfl, hB7⟩
  refine ⟨_, rfl, fun a hF => ?_⟩
  have hS : S0 w w7 := Below.trans hS (hB7.mono (Below.size hS))
  refine ⟨hS, ?_⟩
  refine take_pick (g := none) 9 143 (.tmp 141) (.tmp 142) (.const (.bool false)) true (.bool true) hF hS (by kernel_rfl) (by kernel_rfl) (by decide) (by kernel_rfl) (by kernel_rfl) (by kernel_rfl) ?_; intro a hF
  refine take_assign (g := none) 10 6 (.tmp 143) (.bool true) hF hS (by kernel_rfl) (by kernel_rfl) (by decide) (by kernel_rfl) (by kernel_rfl) ?_; intro a hF
  exact draw_done (by kernel_rfl) ⟨hF.sub _ (by kernel_rfl), hS⟩
end Go.Proofs.Ytllpohacomknfaa
