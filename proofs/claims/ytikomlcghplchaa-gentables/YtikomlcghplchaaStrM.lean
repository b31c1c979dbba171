/- A slice that reads as strings; an append to one of one's own, as one step of a region that draws. -/
import Derived.Test.YtikomlcghplchaaSrtB
import Derived.Test.YtikomlcghplchaaDrawS
import Derived.OwnWalk
import Derived.Laws.AppendOwnNone
namespace Go.Proofs.Ytikomlcghplchaa
open Go.RowKit Go.Shelf
set_option linter.unusedVariables false
set_option linter.unusedSimpArgs false

/-- The slice v reads as the strings bs. -/
def RS (W : World) (v : Value) (bs : List ByteArray) : Prop :=
  (∃ a c, v = .slice a 0 c ∧ bs = [] ∧ (a = none → c = 0)) ∨
  ∃ b off cap, v = .slice (some ⟨b, off, none⟩) bs.length cap ∧ bs.length ≤ cap ∧ ∀ j u, bs[j]? = some u → W.cell? ⟨b, off + j, none⟩ = some (encS u)

theorem cells_blockS {W : World} {p : Addr} {u : Value} (h : W.cell? p = some u) : p.block < W.heap.size := by
  rcases Nat.lt_or_ge p.block W.heap.size with h' | h'
  · exact h'
  · have : W.heap[p.block]? = none := Array.getElem?_eq_none h'
    simp [World.cell?, this] at h

theorem RS.form {W : World} {v : Value} {bs : List ByteArray} (h : RS W v bs) : ∃ a c, v = .slice a bs.length c ∧ bs.length ≤ c ∧ (a = none → c = 0) := by
  rcases h with ⟨a, c, rfl, rfl, h⟩ | ⟨b, off, cap, rfl, h, _⟩
  · exact ⟨a, c, rfl, Nat.zero_le _, h⟩
  · exact ⟨_, cap, rfl, h, by simp⟩

theorem RS.below {W W' : World} {v : Value} {bs : List ByteArray} (h : RS W v bs) (hB : Below W.heap.size W W') : RS W' v bs := by
  rcases h with h | ⟨b, off, cap, rfl, h1, h2⟩
  · exact .inl h
  · refine .inr ⟨b, off, cap, rfl, h1, fun j u hj => ?_⟩
    have hc := h2 j u hj
    exact (hB.cell (p := ⟨b, off + j, none⟩) (cells_blockS hc)).trans hc

theorem RS.of_row {W : World} {base e : Nat} {v : Value} {bs : List ByteArray} (h : W.ownsRow base e 1 v bs.length (bs.map encS)) : RS W v bs := by
  rcases h.2 with ⟨rfl, h0⟩ | ⟨g, cap, cur, rfl, hg, hh, h1, h2, h3, h4⟩
  · exact .inl ⟨_, _, rfl, List.eq_nil_of_length_eq_zero h0, fun _ => rfl⟩
  · refine .inr ⟨g, 0, cap, rfl, h1, fun j u hj => ?_⟩
    have := h.cells (g := g) rfl j (encS u) (by simp [hj])
    rwa [addr_add] at this

theorem RS.nil (W : World) : RS W (.slice none 0 0) [] := .inl ⟨_, _, rfl, rfl, fun _ => rfl⟩

theorem RS.upto {W : World} {a : Option Addr} {l c : Nat} {bs : List ByteArray} (h : RS W (.slice a l c) bs) {k : Nat} (hk : k ≤ bs.length) : RS W (.slice a k c) (bs.take k) := by
  rcases h with ⟨a', c', e, rfl, h⟩ | ⟨b, off, cap, e, h1, h2⟩
  · cases e
    obtain rfl : k = 0 := by simpa using hk
    exact .inl ⟨_, _, rfl, by simp, h⟩
  · cases e
    have e : (bs.take k).length = k := by simp; omega
    refine .inr ⟨b, off, c, by rw [e], by omega, fun j u hj => h2 j u ?_⟩
    rw [List.getElem?_take] at hj
    split at hj
    · exact hj
    · cases hj

theorem oneCell_encS (l : List ByteArray) : ∀ u ∈ l.map encS, u.oneCell' = true := by
  intro u hu
  simp only [List.mem_map] at hu
  obtain ⟨c, _, rfl⟩ := hu
  rfl

/-- What is asked of the source of an append. -/
theorem RS.src {W W1 : World} {a : Option Addr} {c : Nat} {bs : List ByteArray} (h : RS W (.slice a bs.length c) bs) (hB : Below W.heap.size W W1) :
    (a = none → bs.length = 0 ∧ c = 0) ∧ ∀ ad, a = some ad → ∀ j u, (bs.map encS)[j]? = some u → W1.cell? (ad.add j) = some u := by
  refine ⟨fun e => ?_, ?_⟩
  · obtain ⟨a', c', e', hl, hn⟩ := h.form
    cases e'
    have := hn e
    omega
  · rcases h.below hB with ⟨a', c', e', rfl, _⟩ | ⟨b, off, cap, e', h1, h2⟩
    · intro ad e j u hu; simp at hu
    · cases e'
      intro ad e j u hu
      cases e
      simp only [List.getElem?_map, Option.map_eq_some_iff] at hu
      obtain ⟨x, hx, rfl⟩ := hu
      rw [addr_add]
      exact h2 j x hx
theorem wp_append_rs {w : World} {o : Oper} {a : Act} {K : Act → World → Prop} {Q : Exit → Act → World → Prop} (s x : Operand)
    (ho : o.op = .call { callee := .builtin .append, args := #[s, x], argTypes := #[48, 48] }) (base : Nat) (v : Value) (xs : List ByteArray) (hs : a.eval s = v) (hown : w.ownsRow base 9 1 v xs.length (xs.map encS))
    (u : Value) (bs : List ByteArray) (hx : a.eval x = u) (hu : RS w u bs) (hb : xs.length + bs.length ≤ 100000) (hbase : base ≤ w.heap.size)
    (h : ∀ v' w', w'.ownsRow base 9 1 v' (xs ++ bs).length ((xs ++ bs).map encS) → Only (fun k => v.ownBlock = some k) w w' → (v'.ownBlock = v.ownBlock ∨ ∀ b, v'.ownBlock = some b → w.heap.size ≤ b) → K (a.put o.dst v') w') :
    Oper.wp Try.prog o a w K Q := by
  obtain ⟨i0, hi, hz0, hz1, hz2⟩ := info_parts info9
  obtain ⟨ad, c, rfl, hl, hn⟩ := hu.form
  have hsrc := hu.src (Below.refl _ _)
  cases ad with
  | none =>
    obtain ⟨h0, rfl⟩ := hsrc.1 rfl
    obtain rfl : bs = [] := List.eq_nil_of_length_eq_zero h0
    have hrun := run_append_owned_none (P := Try.prog) (w := w) base 48 o.type 9 i0 1 Try.underlying48 hi v _ _ hown
    unfold Oper.wp
    simp only [List.length_nil] at hx
    simp [execOp, ho, resolve, invoke, builtin, hs, hx, hrun, Result.andThen]
    exact h v w (by simpa using hown) (Only.refl _ _) (.inl rfl)
  | some ad =>
    obtain ⟨v', w', hrun, r1, r2, _⟩ := run_append_own (P := Try.prog) w base 48 o.type 9 i0 (.string ByteArray.empty) 1 16 Try.underlying48 hi hz0 hz1 hz2 rfl (by decide) v _ _ hown ad bs.length c (bs.map encS) (by simp) (hsrc.2 ad rfl) (oneCell_encS bs) (by unfold maxLen; omega) (by omega) hbase
    have hwh : v'.ownBlock = v.ownBlock ∨ ∀ b, v'.ownBlock = some b → w.heap.size ≤ b := by
      by_cases h0 : bs.length = 0
      · obtain rfl : bs = [] := List.eq_nil_of_length_eq_zero h0
        rcases hown.2 with ⟨rfl, _⟩ | ⟨g, cap, cur, rfl, hg, hh, hle, _⟩
        · have h2 := run_append_own (P := Try.prog) w base 48 o.type 9 i0 (.string ByteArray.empty) 1 16 Try.underlying48 hi hz0 hz1 hz2 rfl (by decide) _ _ _ hown ad 0 c [] (by simp) (by simp) (by simp) (by unfold maxLen; omega) (by omega) hbase
          obtain ⟨v2, w2, hr2, _, _, hn2⟩ := h2
          simp only [List.length_nil, List.map_nil] at hrun
          rw [hrun] at hr2
          simp only [Result.ok.injEq] at hr2
          left
          rw [hr2.1, hn2.2 ⟨rfl, rfl⟩]
        · obtain ⟨w2, h2, _⟩ := run_append_fits (P := Try.prog) w base 48 o.type 9 i0 1 Try.underlying48 hi hz1 g xs.length cap _ hown ad 0 c [] (by simp) (by simp) (by simp) (by omega)
          simp only [List.length_nil, List.map_nil] at hrun
          rw [hrun] at h2
          simp only [Result.ok.injEq] at h2
          exact .inl (by rw [h2.1]; rfl)
      · rcases append_where (P := Try.prog) w base 48 o.type 9 i0 (.string ByteArray.empty) 1 16 Try.underlying48 hi hz0 hz1 hz2 v _ _ hown ad bs.length c (by omega) (bs.map encS) (by simp) (hsrc.2 ad rfl) (oneCell_encS bs) (by unfold maxLen; omega) (by omega) hrun with e | e
        · exact .inl e
        · exact .inr fun b hb => by rw [e] at hb; cases hb; exact Nat.le_refl _
    unfold Oper.wp
    simp [execOp, ho, resolve, invoke, builtin, hs, hx, hrun, Result.andThen]
    exact h v' w' (by simpa using r1) (Only.of_grownBy r2 (fun k hk => hk)) hwh

/-- 'm[:k]'. -/
theorem RS.head {W : World} {a : Option Addr} {l c : Nat} {bs : List ByteArray} (h : RS W (.slice a l c) bs) {k : Nat} (hk : k ≤ bs.length) :
    ∃ v, (∀ w, (Instr.sliceAt 48 (.slice a l c) none (some (.int .i64 k)) none).run Try.prog w = .ok v w) ∧ RS W v (bs.take k) := by
  have he : Try.prog.elem 48 = 9 := by kernel_rfl
  have ht : Try.prog.underlying 48 = some (.slice (Try.prog.elem 48)) := by rw [he]; exact Try.underlying48
  have hs : ∀ w, (Go.sizeOf 9).run Try.prog w = .ok 1 w := Try.sizeOf9
  obtain ⟨a', c', e', hl, hn⟩ := h.form
  cases e'
  refine ⟨sliced a 0 k c 1, fun w => ?_, ?_⟩
  · rw [run_sliceAt_slice _ _ _ _ _ _ ht, run_slice_h _ 48 a bs.length c ht .i64 k (by omega) (by omega), he, hs]
    simp [Result.andThen]
  · rcases h with ⟨a', c', e, rfl, h⟩ | ⟨b, off, cap, e, h1, h2⟩
    · cases e
      obtain rfl : k = 0 := by simpa using hk
      refine .inl ⟨_, _, rfl, by simp, fun e => ?_⟩
      by_cases hc : c = 0
      · simp [hc]
      · rw [if_neg hc] at e
        exact h (by simpa using e)
    · cases e
      have e2 : (bs.take k).length = k := by simp; omega
      by_cases hc : c = 0
      · obtain rfl : k = 0 := by omega
        exact .inl ⟨_, _, rfl, by simp, fun e => by simp [hc] at e⟩
      · refine .inr ⟨b, off, c, ?_, by omega, fun j u hj => h2 j u ?_⟩
        · simp [sliced, hc, addr_add]; omega
        · rw [List.getElem?_take] at hj
          split at hj
          · exact hj
          · cases hj
/-- 'm[k:]'. -/
theorem RS.rest {W : World} {a : Option Addr} {l c : Nat} {bs : List ByteArray} (h : RS W (.slice a l c) bs) {k : Nat} (hk : k ≤ bs.length) :
    ∃ v, (∀ w, (Instr.sliceAt 48 (.slice a l c) (some (.int .i64 k)) none none).run Try.prog w = .ok v w) ∧ RS W v (bs.drop k) := by
  have he : Try.prog.elem 48 = 9 := by kernel_rfl
  have ht : Try.prog.underlying 48 = some (.slice (Try.prog.elem 48)) := by rw [he]; exact Try.underlying48
  have hs : ∀ w, (Go.sizeOf 9).run Try.prog w = .ok 1 w := Try.sizeOf9
  obtain ⟨a', c', e', hl, hn⟩ := h.form
  cases e'
  refine ⟨sliced a k bs.length c 1, fun w => ?_, ?_⟩
  · rw [run_sliceAt_slice _ _ _ _ _ _ ht, run_slice_l _ 48 a bs.length c ht .i64 k (by omega) (by omega), he, hs]
    simp [Result.andThen]
  · rcases h with ⟨a', c', e, rfl, h⟩ | ⟨b, off, cap, e, h1, h2⟩
    · cases e
      obtain rfl : k = 0 := by simpa using hk
      refine .inl ⟨_, _, rfl, by simp, fun e => ?_⟩
      by_cases hc : c = 0
      · simp [hc]
      · rw [if_neg hc] at e
        have := h (by simpa using e)
        omega
    · cases e
      by_cases hc : c = k
      · have hkl : k = bs.length := by omega
        refine .inl ⟨some ⟨b, off, none⟩, 0, ?_, by simp [hkl], fun e => by cases e⟩
        simp [sliced, hc]
        omega
      · refine .inr ⟨b, off + k, c - k, ?_, by simp; omega, fun j u hj => ?_⟩
        · simp [sliced, hc, addr_add]
        · rw [List.getElem?_drop] at hj
          have := h2 _ u hj
          rwa [show off + k + j = off + (k + j) by omega]
end Go.Proofs.Ytikomlcghplchaa
