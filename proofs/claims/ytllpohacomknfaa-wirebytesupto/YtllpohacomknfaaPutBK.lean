/- assizeref2.PutBytes on a row of the caller's own: no other block turns. -/
import Derived.Test.YtllpohacomknfaaStepK
namespace Go.Proofs.Ytllpohacomknfaa
open Go.RowKit
set_option linter.unusedVariables false
set_option linter.unusedSimpArgs false

set_option maxRecDepth 100000 in
set_option maxHeartbeats 1000000 in
theorem put22k (base : Nat) (xs s : List UInt8) (hb : xs.length + s.length + 10 ≤ 140737488355328) (v u : Value) (w0 w : World) (hu : RB w0 u s) (h0 : w0.heap.size ≤ base) (hB0 : Below w0.heap.size w0 w) (hbase : base ≤ w.heap.size) (hown : w.ownsRow base 5 1 v xs.length (xs.map encU)) :
    Calls Try.prog 22 #[v, u] w (PutsK base (xs ++ pb s) v w) := by
  obtain ⟨a, c, e1, hc, hn0⟩ := hu.form
  have HU := Lib.hid hu
  have hd := dig_len10 (n := s.length) (by omega)
  have H15 := Lib.hid (put15k base s.length (by omega) xs (by omega) v w hbase hown)
  have hvb := fun k hk => (hown.lt k hk).1
  have HVB := Lib.hid hvb
  clear hu hn0 hown hvb
  subst e1
  go_enter Try.func22, Try.ntmps22
  go_wp2_with fail
  refine H15.out.mono ?_
  rintro e w2 ⟨v2, rfl, ho2, hk2, hw2⟩
  have HR2 := Lib.hid (HU.out.below (hB0.trans ((hk2.below base hbase HVB.out).mono h0)))
  have HK2 := Lib.hid hk2
  have HW2 := Lib.hid hw2
  have hz2 := hk2.size
  have hl2 : (xs ++ dig s.length).length + s.length ≤ 140737488355328 := by simp; omega
  clear H15 HU hk2 hw2
  go_wp2_with (at_builtin; refine wpList_plain rfl fun K hK => ?_; refine wp_append_rbk _ _ rfl base _ _ rfl ho2 _ s rfl HR2.out hl2 (Nat.le_trans hbase hz2) ?_; intro v3 w3 ho3 hk3 hw3; refine hK _ _ ?_; clear hK)
  go_ret
  refine ⟨_, rfl, ?_, HK2.out.trans hk3 HW2.out, where_trans hz2 HW2.out hw3⟩
  simp only [pb, ← List.append_assoc]
  exact ho3
end Go.Proofs.Ytllpohacomknfaa
