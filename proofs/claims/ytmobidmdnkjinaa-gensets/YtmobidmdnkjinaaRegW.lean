/- GenSets' regions that draw, as the walk meets them. -/
import Derived.Test.YtmobidmdnkjinaaHeadS
namespace Go.Proofs.Ytmobidmdnkjinaa
open Go.RowKit Go.Shelf
set_option linter.unusedVariables false
set_option linter.unusedSimpArgs false

set_option maxRecDepth 100000 in
theorem reg24 {Q : Exit → Act → World → Prop} {id : Nat} {w : World} {ks : List ByteArray} {i : Nat} {am : Option Addr} {nm cm : Nat} (t : Array Value) (ht : t.size = 151) (h4 : t[4]? = some (.slice am nm cm)) (h6 : t[6]? = some (.int .i64 (i : Int))) (hl : ks.length ≤ 1000) (hv : RS w (.slice am nm cm) ks) (hi : i < ks.length)
    (hQ : ∀ (y112 y113 y114 y115 y116 y117 y118 y119 y120 y121 v' : Value) (w' : World), w'.ownsRow w.heap.size 9 1 v' (ks.take i ++ ks.drop (i + 1)).length ((ks.take i ++ ks.drop (i + 1)).map encS) → Below w.heap.size w w' → Q .normal { tmps := ((((((((((t.setIfInBounds 121 y121).setIfInBounds 120 y120).setIfInBounds 119 y119).setIfInBounds 118 y118).setIfInBounds 117 y117).setIfInBounds 116 y116).setIfInBounds 115 y115).setIfInBounds 114 y114).setIfInBounds 113 y113).setIfInBounds 112 y112).setIfInBounds 4 v', defers := [] } w') :
    (Code.region id (regOps Try.f8 24) true).wp Try.prog Q { tmps := t, defers := [] } w := by
  have hp : ∀ p ∈ ([(4, .slice am nm cm), (6, .int .i64 (i : Int))] : List (Nat × Value)), t[p.1]? = some p.2 := by
    intro p hp
    simp only [List.mem_cons, List.not_mem_nil, or_false] at hp
    rcases hp with rfl | rfl <;> assumption
  refine draw_start (S := SB w) (N := 11) (by kernel_rfl) (by kernel_rfl) ?_ (r24 ks i hi hl am nm cm (full t) _ w hv (frame_known t ht _ hp))
  rintro a' w' ⟨v', hb, hrow, hB⟩
  have hact := Behind.act (pre := [(4, .slice am nm cm), (6, .int .i64 (i : Int))]) ht hp hb
  rw [hact]
  exact hQ (a'.tmps.getD 112 undef) (a'.tmps.getD 113 undef) (a'.tmps.getD 114 undef) (a'.tmps.getD 115 undef) (a'.tmps.getD 116 undef) (a'.tmps.getD 117 undef) (a'.tmps.getD 118 undef) (a'.tmps.getD 119 undef) (a'.tmps.getD 120 undef) (a'.tmps.getD 121 undef) v' w' hrow hB

set_option maxRecDepth 100000 in
theorem reg19 {Q : Exit → Act → World → Prop} {id : Nat} {w : World} {ks : List ByteArray} {i : Nat} {am : Option Addr} {nm cm : Nat} {ao : Option Addr} {no co q : Nat} {os : List OpG} (t : Array Value) (ht : t.size = 151) (h4 : t[4]? = some (.slice am nm cm)) (h6 : t[6]? = some (.int .i64 (i : Int))) (h0 : t[0]? = some (.slice ao no co)) (h5 : t[5]? = some (.int .i64 (q : Int))) (hl : ks.length ≤ 1000) (hv : RS w (.slice am nm cm) ks) (hro : RO w (.slice ao no co) os) (hi : i ≤ ks.length) (hq : q < os.length)
    (hQ : ∀ (y84 y85 y86 y87 y88 y89 y90 y91 y92 y93 y94 y95 y96 y97 y98 y99 v' : Value) (w' : World), w'.ownsRow w.heap.size 9 1 v' (ks.take i ++ [os[q].key] ++ ks.drop i).length ((ks.take i ++ [os[q].key] ++ ks.drop i).map encS) → Below w.heap.size w w' → Q .normal { tmps := ((((((((((((((((t.setIfInBounds 99 y99).setIfInBounds 98 y98).setIfInBounds 97 y97).setIfInBounds 96 y96).setIfInBounds 95 y95).setIfInBounds 94 y94).setIfInBounds 93 y93).setIfInBounds 92 y92).setIfInBounds 91 y91).setIfInBounds 90 y90).setIfInBounds 89 y89).setIfInBounds 88 y88).setIfInBounds 87 y87).setIfInBounds 86 y86).setIfInBounds 85 y85).setIfInBounds 84 y84).setIfInBounds 4 v', defers := [] } w') :
    (Code.region id (regOps Try.f8 19) true).wp Try.prog Q { tmps := t, defers := [] } w := by
  have hp : ∀ p ∈ ([(4, .slice am nm cm), (6, .int .i64 (i : Int)), (0, .slice ao no co), (5, .int .i64 (q : Int))] : List (Nat × Value)), t[p.1]? = some p.2 := by
    intro p hp
    simp only [List.mem_cons, List.not_mem_nil, or_false] at hp
    rcases hp with rfl | rfl | rfl | rfl <;> assumption
  refine draw_start (S := SB w) (N := 17) (by kernel_rfl) (by kernel_rfl) ?_ (r19 ks i hi hl am nm cm ao no co os q hq (full t) _ w hv hro (frame_known t ht _ hp))
  rintro a' w' ⟨v', hb, hrow, hB⟩
  have hact := Behind.act (pre := [(4, .slice am nm cm), (6, .int .i64 (i : Int)), (0, .slice ao no co), (5, .int .i64 (q : Int))]) ht hp hb
  rw [hact]
  exact hQ (a'.tmps.getD 84 undef) (a'.tmps.getD 85 undef) (a'.tmps.getD 86 undef) (a'.tmps.getD 87 undef) (a'.tmps.getD 88 undef) (a'.tmps.getD 89 undef) (a'.tmps.getD 90 undef) (a'.tmps.getD 91 undef) (a'.tmps.getD 92 undef) (a'.tmps.getD 93 undef) (a'.tmps.getD 94 undef) (a'.tmps.getD 95 undef) (a'.tmps.getD 96 undef) (a'.tmps.getD 97 undef) (a'.tmps.getD 98 undef) (a'.tmps.getD 99 undef) v' w' hrow hB
end Go.Proofs.Ytmobidmdnkjinaa
