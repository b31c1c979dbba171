/- whole; Loose. -/
import Derived.Test.YtaclncmkdpjnlaaTerm16
namespace Go.Proofs.Ytaclncmkdpjnlaa
open Go.RowKit Go.Shelf
set_option linter.unusedVariables false
set_option linter.unusedSimpArgs false

/-- What whole lets pass. -/
def CT.wf (c : CT) : Prop := c.okV 6 ∧ c.size ≤ 400 ∧ c.dep ≤ 64
theorem CT.wf.ok {c : CT} (h : c.wf) : c.ok := ⟨by have := h.2.1; omega, by have := h.2.2; omega⟩
def PT.loose : PT → Int → Int
  | .var n, d => if d ≤ n then min (n - d + 1) 9223372036854775807 else 0
  | .two k p q, d => max (p.loose d) (q.loose (d + if k = 3 ∨ k = 4 then 1 else 0))
  | .lt p q r, d => max (p.loose d) (max (q.loose d) (r.loose (d + 1)))
  | .sort _, _ => 0
  | .cst _ _, _ => 0
  | .odd _, _ => 0
def mostL (ps : List Int) : Int := if ps.length = 0 then 0 else mxl ps
def Glo (c : CT) (d : Int) (ps : List Int) : Int := match c with
  | .var n _ => if d ≤ n then min (n - d + 1) 9223372036854775807 else 0
  | _ => mostL ps
set_option maxRecDepth 100000 in
set_option maxHeartbeats 400000 in
theorem rMay30 (vars : Int) (c : CT) (x : C8) (w0 : World) (hx : RC w0 (fun k => k < w0.heap.size) c x) (hfit : c.fit) : Calls Try.prog 26 #[tv x, .int .i64 vars] w0 fun e w' => e = .returned (.int .i64 (c.mayT vars 1 0).1) ∧ Below w0.heap.size w0 w' := by
  have hB := Below.refl w0.heap.size w0
  have sB := hB.size
  refine calls_fs 9 [(0, tv x), (1, .int .i64 vars)] Try.func26 rfl rfl rfl rfl rfl fun a hF => ?_
  refine wp_rs fun K1 hK1 => ?_
  refine s_box (tc x) hF (by decide) rfl rfl fun w2 b2 a eb2 m2 B3 zb2 hF => ?_
  have sB3 := B3.size
  have hB := hB.trans (B3.mono hB.size)
  refine s_val hF (x_assign rfl) (by decide) fun a hF => ?_
  refine s_end (hK1 _ _ ?_)
  refine wp_rs fun K2 hK2 => ?_
  refine s_alloc1 hF (by decide) zero3 rfl fun w4 b5 a eb5 m5 B5 zb5 hF => ?_
  have sB5 := B5.size
  have hB := hB.trans (B5.mono hB.size)
  have m2 := m2.old B5
  refine s_put hF rfl rfl flat3 m5 (by first | (simp; done) | (simp [tc, lc]; done) | decide) rfl fun w6 m5 o7 => ?_
  have so7 := o7.size
  have hB := hB.trans (o7.below (by omega))
  have m2 := m2.only o7 (by omega)
  refine s_end (hK2 _ _ ?_)
  refine wp_rs fun K3 hK3 => ?_
  refine s_val hF (x_ldW wide27 m2 rfl rfl) (by decide) fun a hF => ?_
  refine s_val hF (x_move rfl) (by decide) fun a hF => ?_
  refine s_call (R := fun u w' => (u = .int .i64 (c.mayT vars 1 0).1 ∧ Blk w' b5 3 [.int .i64 (((c.mayT vars 1 0).2 : Nat) : Int)]) ∧ Ktw b5 b5 w6 w') hF [_, _, _, _] (enters_of Try.func62 (by kernel_rfl) rfl) rfl (by decide) (rmay73 vars w0 b5 (by omega) (c.size + 1) c x (by omega) hx hfit 1 0 w6 (by decide) (by decide) (by decide) hB m5) ?_
  rintro _ w8 a ⟨⟨rfl, m5⟩, k9⟩ hF
  have sk9 := k9.size
  have hB := k9.under hB (by omega)
  have m2 := m2.k2 k9 (by omega)
  refine s_val hF (x_assign rfl) (by decide) fun a hF => ?_
  refine s_end (hK3 _ _ ?_)
  refine wp_ret (res_slot hF rfl rfl ⟨rfl, hB⟩)

def CT.looseR (c : CT) : Int := if c.ok then c.ess.loose 0 else 0

end Go.Proofs.Ytaclncmkdpjnlaa
