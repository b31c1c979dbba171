/- wire.PutBytes, assizeref2.PutBytes; an append as one step of a region that draws. -/
import Derived.Test.YtllpohacomknfaaApp
namespace Go.Proofs.Ytllpohacomknfaa
open Go.RowKit
set_option linter.unusedVariables false
set_option linter.unusedSimpArgs false

/-- Bytes with their length. -/
def pb (s : List UInt8) : List UInt8 := dig s.length ++ s

set_option maxRecDepth 100000 in
set_option maxHeartbeats 1000000 in
theorem put21 (bs s : List UInt8) (hb : bs.length + s.length + 10 ≤ 140737488355328) (v u : Value) (w : World) (hv : RB w v bs) (hu : RB w u s) :
    Calls Try.prog 21 #[v, u] w (Gives (bs ++ pb s) w) := by
  have H := Lib.hid (fresh38 bs (10 + s.length) (by omega) v w hv)
  obtain ⟨a, c, e1, hc, hn0⟩ := hu.form
  have HU := Lib.hid hu
  have hd := dig_len10 (n := s.length) (by omega)
  clear hv hu hn0
  subst e1
  go_enter Try.func21, Try.ntmps21
  go_wp2_with fail
  rw [show (10 : Int) + (s.length : Int) = ((10 + s.length : Nat) : Int) from by omega]
  refine H.out.mono ?_
  rintro e w1 ⟨v1, rfl, ho1, hB1⟩
  go_wp2_with fail
  refine (putn37 w.heap.size s.length (by omega) bs (by omega) v1 w1 hB1.size ho1).mono ?_
  rintro e w2 ⟨v2, rfl, ho2, hB2, hz2⟩
  have HR2 := Lib.hid (HU.out.below (hB1.trans hB2))
  have hl2 : (bs ++ dig s.length).length + s.length ≤ 140737488355328 := by simp; omega
  clear ho1 H HU
  go_wp2_with (at_builtin; refine wpList_append_rb rfl _ _ rfl w.heap.size _ _ rfl ho2 _ s rfl HR2.out hl2 (Nat.le_trans hB1.size hz2) ?_; intro v3 w3 ho3 hB3)
  go_ret
  refine ⟨_, rfl, ?_, (hB1.trans hB2).trans hB3⟩
  simp only [pb, ← List.append_assoc]
  exact ho3

set_option maxRecDepth 100000 in
set_option maxHeartbeats 1000000 in
theorem put22 (base : Nat) (xs s : List UInt8) (hb : xs.length + s.length + 10 ≤ 140737488355328) (v u : Value) (w0 w : World) (hu : RB w0 u s) (h0 : w0.heap.size ≤ base) (hB0 : Below w0.heap.size w0 w) (hbase : base ≤ w.heap.size) (hown : w.ownsRow base 5 1 v xs.length (xs.map encU)) :
    Calls Try.prog 22 #[v, u] w (Puts base (xs ++ pb s) w) := by
  obtain ⟨a, c, e1, hc, hn0⟩ := hu.form
  have HU := Lib.hid hu
  have hd := dig_len10 (n := s.length) (by omega)
  have H15 := Lib.hid (put15 base s.length (by omega) xs (by omega) v w hbase hown)
  clear hu hn0 hown
  subst e1
  go_enter Try.func22, Try.ntmps22
  go_wp2_with fail
  refine H15.out.mono ?_
  rintro e w2 ⟨v2, rfl, ho2, hB2, hz2⟩
  have HR2 := Lib.hid (HU.out.below (hB0.trans (hB2.mono h0)))
  have hl2 : (xs ++ dig s.length).length + s.length ≤ 140737488355328 := by simp; omega
  clear H15 HU
  go_wp2_with (at_builtin; refine wpList_append_rb rfl _ _ rfl base _ _ rfl ho2 _ s rfl HR2.out hl2 (Nat.le_trans hbase hz2) ?_; intro v3 w3 ho3 hB3)
  go_ret
  refine ⟨_, rfl, ?_, hB2.trans hB3, Nat.le_trans hz2 hB3.size⟩
  simp only [pb, ← List.append_assoc]
  exact ho3

/-- An append of bytes to a row of the call's own, as one step of a region that draws its order. -/
theorem step_append_rb {w : World} {ops : Array Oper} {o : Oper} {a : Act} {K : Act → World → Prop} {Q : Exit → Act → World → Prop} {E : Prop} (hw : Region.wanted o (yielded ops a.tmps) = true) (s x : Operand)
    (ho : o.op = .call { callee := .builtin .append, args := #[s, x], argTypes := #[22, 22] }) (base : Nat) (v : Value) (xs : List UInt8) (hs : a.eval s = v) (hown : w.ownsRow base 5 1 v xs.length (xs.map encU))
    (u : Value) (bs : List UInt8) (hx : a.eval x = u) (hu : RB w u bs) (hb : xs.length + bs.length ≤ 140737488355328) (hbase : base ≤ w.heap.size)
    (h : ∀ v' w', w'.ownsRow base 5 1 v' (xs ++ bs).length ((xs ++ bs).map encU) → Below base w w' → K (a.put o.dst v') w') : if Region.wanted o (yielded ops a.tmps) = true then Oper.wp Try.prog o a w K Q else E := by
  rw [if_pos hw]
  obtain ⟨i0, hi, hz0, hz1, hz2⟩ := info_parts info5
  obtain ⟨ad, c, rfl, hl, hn⟩ := hu.form
  have hsrc := hu.src (Below.refl _ _)
  cases ad with
  | none =>
    obtain ⟨h0, rfl⟩ := hsrc.1 rfl
    obtain rfl : bs = [] := List.eq_nil_of_length_eq_zero h0
    have hrun := run_append_owned_none (P := Try.prog) (w := w) base 22 o.type 5 i0 1 Try.underlying22 hi v _ _ hown
    unfold Oper.wp
    simp only [List.length_nil] at hx
    simp [execOp, ho, resolve, invoke, builtin, hs, hx, hrun, Result.andThen]
    exact h v w (by simpa using hown) (Below.refl _ _)
  | some ad =>
    refine wp_append_own w s x 22 ho base 5 i0 (.int .u8 0) 1 1 Try.underlying22 hi hz0 hz1 hz2 rfl (by decide) v _ _ hs hown ad bs.length c (bs.map encU) hx (by simp) (hsrc.2 ad rfl) (oneCell_encU bs) (by unfold maxLen; omega) (by omega) hbase ?_
    intro v' w' h1 h2 _
    exact h v' w' (by simpa using h1) ((Below.refl base w).grown h2 hbase (fun k hk => (hown.lt k hk).1))
end Go.Proofs.Ytllpohacomknfaa
