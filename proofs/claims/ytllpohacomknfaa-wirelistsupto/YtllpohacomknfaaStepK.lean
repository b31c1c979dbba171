/- An append of bytes to a row of the call's own, as one step of a region that draws: no other block turns. -/
import Derived.Test.YtllpohacomknfaaPutK
namespace Go.Proofs.Ytllpohacomknfaa
open Go.RowKit
set_option linter.unusedVariables false
set_option linter.unusedSimpArgs false

theorem step_append_rbk {w : World} {ops : Array Oper} {o : Oper} {a : Act} {K : Act → World → Prop} {Q : Exit → Act → World → Prop} {E : Prop} (hw : Region.wanted o (yielded ops a.tmps) = true) (s x : Operand)
    (ho : o.op = .call { callee := .builtin .append, args := #[s, x], argTypes := #[22, 22] }) (base : Nat) (v : Value) (xs : List UInt8) (hs : a.eval s = v) (hown : w.ownsRow base 5 1 v xs.length (xs.map encU))
    (u : Value) (bs : List UInt8) (hx : a.eval x = u) (hu : RB w u bs) (hb : xs.length + bs.length ≤ 140737488355328) (hbase : base ≤ w.heap.size)
    (h : ∀ v' w', w'.ownsRow base 5 1 v' (xs ++ bs).length ((xs ++ bs).map encU) → Kept v w w' → (v'.ownBlock = v.ownBlock ∨ ∀ b, v'.ownBlock = some b → w.heap.size ≤ b) → K (a.put o.dst v') w') :
    if Region.wanted o (yielded ops a.tmps) = true then Oper.wp Try.prog o a w K Q else E := by
  rw [if_pos hw]
  obtain ⟨i0, hi, hz0, hz1, hz2⟩ := info_parts info5
  obtain ⟨ad, c, rfl, hl, hn⟩ := hu.form
  have hsrc := hu.src (Below.refl _ _)
  cases ad with
  | none =>
    obtain ⟨h0, rfl⟩ := hsrc.1 rfl
    obtain rfl : bs = [] := List.eq_nil_of_length_eq_zero h0
    have hrun := run_append_owned_none (P := Try.prog) (w := w) base 22 o.type 5 i0 1 Try.underlying22 hi v _ _ hown
    unfold Oper.wp
    simp only [List.length_nil] at hx
    simp [execOp, ho, resolve, invoke, builtin, hs, hx, hrun, Result.andThen]
    exact h v w (by simpa using hown) (Kept.refl _ _) (.inl rfl)
  | some ad =>
    obtain ⟨v', w', hrun, r1, r2, _⟩ := run_append_own (P := Try.prog) w base 22 o.type 5 i0 (.int .u8 0) 1 1 Try.underlying22 hi hz0 hz1 hz2 rfl (by decide) v _ _ hown ad bs.length c (bs.map encU) (by simp) (hsrc.2 ad rfl) (oneCell_encU bs) (by unfold maxLen; omega) (by omega) hbase
    have hwh : v'.ownBlock = v.ownBlock ∨ ∀ b, v'.ownBlock = some b → w.heap.size ≤ b := by
      by_cases h0 : bs.length = 0
      · obtain rfl : bs = [] := List.eq_nil_of_length_eq_zero h0
        rcases hown.2 with ⟨rfl, _⟩ | ⟨g, cap, cur, rfl, hg, hh, hle, _⟩
        · have h2 := run_append_own (P := Try.prog) w base 22 o.type 5 i0 (.int .u8 0) 1 1 Try.underlying22 hi hz0 hz1 hz2 rfl (by decide) _ _ _ hown ad 0 c [] (by simp) (by simp) (by simp) (by unfold maxLen; omega) (by omega) hbase
          obtain ⟨v2, w2, hr2, _, _, hn2⟩ := h2
          simp only [List.length_nil, List.map_nil] at hrun
          rw [hrun] at hr2
          simp only [Result.ok.injEq] at hr2
          left
          rw [hr2.1, hn2.2 ⟨rfl, rfl⟩]
        · obtain ⟨w2, h2, _⟩ := run_append_fits (P := Try.prog) w base 22 o.type 5 i0 1 Try.underlying22 hi hz1 g xs.length cap _ hown ad 0 c [] (by simp) (by simp) (by simp) (by omega)
          simp only [List.length_nil, List.map_nil] at hrun
          rw [hrun] at h2
          simp only [Result.ok.injEq] at h2
          exact .inl (by rw [h2.1]; rfl)
      · rcases append_where (P := Try.prog) w base 22 o.type 5 i0 (.int .u8 0) 1 1 Try.underlying22 hi hz0 hz1 hz2 v _ _ hown ad bs.length c (by omega) (bs.map encU) (by simp) (hsrc.2 ad rfl) (oneCell_encU bs) (by unfold maxLen; omega) (by omega) hrun with e | e
        · exact .inl e
        · exact .inr fun b hb => by rw [e] at hb; cases hb; exact Nat.le_refl _
    unfold Oper.wp
    simp [execOp, ho, resolve, invoke, builtin, hs, hx, hrun, Result.andThen]
    exact h v' w' (by simpa using r1) (Kept.of_grown r2) hwh
theorem wp_append_rbk {w : World} {o : Oper} {a : Act} {K : Act → World → Prop} {Q : Exit → Act → World → Prop} (s x : Operand)
    (ho : o.op = .call { callee := .builtin .append, args := #[s, x], argTypes := #[22, 22] }) (base : Nat) (v : Value) (xs : List UInt8) (hs : a.eval s = v) (hown : w.ownsRow base 5 1 v xs.length (xs.map encU))
    (u : Value) (bs : List UInt8) (hx : a.eval x = u) (hu : RB w u bs) (hb : xs.length + bs.length ≤ 140737488355328) (hbase : base ≤ w.heap.size)
    (h : ∀ v' w', w'.ownsRow base 5 1 v' (xs ++ bs).length ((xs ++ bs).map encU) → Kept v w w' → (v'.ownBlock = v.ownBlock ∨ ∀ b, v'.ownBlock = some b → w.heap.size ≤ b) → K (a.put o.dst v') w') :
    Oper.wp Try.prog o a w K Q := by
  obtain ⟨i0, hi, hz0, hz1, hz2⟩ := info_parts info5
  obtain ⟨ad, c, rfl, hl, hn⟩ := hu.form
  have hsrc := hu.src (Below.refl _ _)
  cases ad with
  | none =>
    obtain ⟨h0, rfl⟩ := hsrc.1 rfl
    obtain rfl : bs = [] := List.eq_nil_of_length_eq_zero h0
    have hrun := run_append_owned_none (P := Try.prog) (w := w) base 22 o.type 5 i0 1 Try.underlying22 hi v _ _ hown
    unfold Oper.wp
    simp only [List.length_nil] at hx
    simp [execOp, ho, resolve, invoke, builtin, hs, hx, hrun, Result.andThen]
    exact h v w (by simpa using hown) (Kept.refl _ _) (.inl rfl)
  | some ad =>
    obtain ⟨v', w', hrun, r1, r2, _⟩ := run_append_own (P := Try.prog) w base 22 o.type 5 i0 (.int .u8 0) 1 1 Try.underlying22 hi hz0 hz1 hz2 rfl (by decide) v _ _ hown ad bs.length c (bs.map encU) (by simp) (hsrc.2 ad rfl) (oneCell_encU bs) (by unfold maxLen; omega) (by omega) hbase
    have hwh : v'.ownBlock = v.ownBlock ∨ ∀ b, v'.ownBlock = some b → w.heap.size ≤ b := by
      by_cases h0 : bs.length = 0
      · obtain rfl : bs = [] := List.eq_nil_of_length_eq_zero h0
        rcases hown.2 with ⟨rfl, _⟩ | ⟨g, cap, cur, rfl, hg, hh, hle, _⟩
        · have h2 := run_append_own (P := Try.prog) w base 22 o.type 5 i0 (.int .u8 0) 1 1 Try.underlying22 hi hz0 hz1 hz2 rfl (by decide) _ _ _ hown ad 0 c [] (by simp) (by simp) (by simp) (by unfold maxLen; omega) (by omega) hbase
          obtain ⟨v2, w2, hr2, _, _, hn2⟩ := h2
          simp only [List.length_nil, List.map_nil] at hrun
          rw [hrun] at hr2
          simp only [Result.ok.injEq] at hr2
          left
          rw [hr2.1, hn2.2 ⟨rfl, rfl⟩]
        · obtain ⟨w2, h2, _⟩ := run_append_fits (P := Try.prog) w base 22 o.type 5 i0 1 Try.underlying22 hi hz1 g xs.length cap _ hown ad 0 c [] (by simp) (by simp) (by simp) (by omega)
          simp only [List.length_nil, List.map_nil] at hrun
          rw [hrun] at h2
          simp only [Result.ok.injEq] at h2
          exact .inl (by rw [h2.1]; rfl)
      · rcases append_where (P := Try.prog) w base 22 o.type 5 i0 (.int .u8 0) 1 1 Try.underlying22 hi hz0 hz1 hz2 v _ _ hown ad bs.length c (by omega) (bs.map encU) (by simp) (hsrc.2 ad rfl) (oneCell_encU bs) (by unfold maxLen; omega) (by omega) hrun with e | e
        · exact .inl e
        · exact .inr fun b hb => by rw [e] at hb; cases hb; exact Nat.le_refl _
    unfold Oper.wp
    simp [execOp, ho, resolve, invoke, builtin, hs, hx, hrun, Result.andThen]
    exact h v' w' (by simpa using r1) (Kept.of_grown r2) hwh
end Go.Proofs.Ytllpohacomknfaa
