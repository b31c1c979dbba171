/- Builds of structs; small functions' facts. -/
import Derived.Test.YtaclncmkdpjnlaaLevA
namespace Go.Proofs.Ytaclncmkdpjnlaa
open Go.RowKit Go.Shelf
set_option linter.unusedVariables false
set_option linter.unusedSimpArgs false
theorem b24_0 (k : Int) (w : World) : (Instr.build 24 [(0, Value.int .i64 k)].toArray).run Try.prog w = .ok (.agg [Value.int .i64 k, Value.int .i64 0, Value.slice none 0 0].toArray) w := run_build w 24 _ _ (by kernel_rfl)
theorem b54_0123 (p q r s : Int) (w : World) : (Instr.build 135 [(0, Value.int .i64 p), (1, Value.int .i64 q), (2, Value.int .i64 r), (3, Value.int .i64 s)].toArray).run Try.prog w = .ok (.agg [Value.int .i64 p, Value.int .i64 q, Value.int .i64 r, Value.int .i64 s].toArray) w := run_build w 135 _ _ (by kernel_rfl)
theorem one3 {k n : Int} {v : Value} (h : v.oneCell' = true) : ∀ u ∈ [Value.int .i64 k, Value.int .i64 n, v], u.oneCell' = true := one_lc h
section
variable {P : Program} {n : Nat} {l : List (Nat × Value)} {w : World} {x y : Operand}
theorem x_ldW {t k b t0 : Nat} {cs : List Value} (ht : Wide P t k = true) (m : Blk w b t0 cs) (hl : cs.length = k) (hx : ov l x = some (.pointer (some ⟨b, 0, none⟩))) : Runs P n l w (.load t x) (.agg cs.toArray) := by
  subst hl
  exact x_load hx (m_loadW ht m)
theorem x_ldA {t k : Nat} {ad : Addr} {cs : List Value} (ht : Wide P t k = true) (hc : ∀ j v, cs[j]? = some v → w.cell? (ad.add j) = some v) (hl : cs.length = k) (hx : ov l x = some (.pointer (some ad))) : Runs P n l w (.load t x) (.agg cs.toArray) := by
  subst hl
  exact x_load hx (m_loadA ht hc)
end
end Go.Proofs.Ytaclncmkdpjnlaa
