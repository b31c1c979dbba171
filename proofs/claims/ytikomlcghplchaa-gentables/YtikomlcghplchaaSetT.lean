/- The methods of a table from strings to ints. -/
import Derived.Test.YtikomlcghplchaaTabB
import Derived.Test.YtikomlcghplchaaProg
import Derived.WalkSpells
import Derived.WalkLawsBesides
import Derived.Lib.Hide
import Derived.Laws.ResultCell
namespace Go.Proofs.Ytikomlcghplchaa
open Go.RowKit Go.Shelf
open Go.Maps (Keyed)
set_option linter.unusedVariables false
set_option linter.unusedSimpArgs false
attribute [local go_sem] Oper.semAt_some wide_fn wide_depth

abbrev TabT := TabB pairT Try.prog 9 88
abbrev StoredT := StoredB pairT Try.prog 9 88
theorem keyT : Keyed Try.prog 9 := Maps.string_keyed Try.underlying9
theorem zeroT (w : World) : (zeroValue 90).run Try.prog w = .ok (pairT.cell ByteArray.empty pairT.zero) w := Try.zeroValue90 w
theorem lookT {W : World} {b n : Nat} {l : List (ByteArray × Int)} (h : pairT.Map Try.prog 9 W b n l) {x : ByteArray} (hx : x.size ≤ maxLen) :
    (Instr.lookup 86 (.map (some b)) (.string x) true).run Try.prog W = .ok (.tuple #[pairT.cellAt ByteArray.empty x l, .bool (hasK x l)]) W :=
  h.look Try.underlying9 Try.underlying86 (zeroT W) (by decide) hx

set_option maxRecDepth 100000 in
set_option maxHeartbeats 1000000 in
theorem get44 {W : World} {T N : Nat} {m : Option Nat} {l : List (ByteArray × Int)} (h : TabT W T m N l) {x : ByteArray} (hx : x.size ≤ maxLen) :
    Calls Try.prog 44 #[.pointer (some ⟨T, 0, none⟩), .string x] W fun e w' => e = .returned (.tuple #[.int .i64 ((getK x l).getD 0), .bool (hasK x l)]) ∧ Below W.heap.size W w' := by
  refine (callsIn_wide (n := 0)).1 ?_
  refine callsIn_of_wp Try.func44 rfl trivial ?_ rfl
  simp only [Try.ntmps44, List.size_toArray, List.length_cons, List.length_nil, Nat.reduceAdd, Nat.reduceSub, Array.replicate_succ, Array.replicate_zero, List.push_toArray, List.append_toArray, List.nil_append, List.cons_append]
  have hc := h.1.cell
  have hl := h.1.lt
  rcases h.2 with ⟨rfl, rfl⟩ | ⟨b, rfl, hne, hm⟩
  · have hk := fun w => Maps.look_nil (P := Try.prog) (w := w) true keyT Try.underlying86 (zeroT w) (WideMaps.keyOf_string_mk Try.underlying9 hx)
    simp only [if_true, pairT] at hk
    have e0 : hasK x ([] : List (ByteArray × Int)) = false := rfl
    have e1 : getK x ([] : List (ByteArray × Int)) = none := rfl
    rw [e0, e1]
    gi_wp2
    refine bodyPost_ret (by simp [results, Try.f44, go_sem]) rfl ⟨rfl, ?_⟩
    exact (Below.refl _ W).alloc (Nat.le_refl _) _
  · have hk : ∃ u, (Instr.lookup 86 (.map (some b)) (.string x) true).run Try.prog W = .ok (.tuple #[.agg #[.string u, .int .i64 ((getK x l).getD 0)], .bool (hasK x l)]) W := by
      have := lookT hm hx
      unfold PairK.cellAt at this
      cases hg : getK x l with
      | none => rw [hg] at this; exact ⟨_, this⟩
      | some v => rw [hg] at this; exact ⟨_, this⟩
    obtain ⟨u, hk⟩ := hk
    generalize hasK x l = r at hk ⊢
    generalize (getK x l).getD 0 = q at hk ⊢
    gi_wp2
    refine bodyPost_ret (by simp [results, Try.f44, go_sem]) rfl ⟨rfl, ?_⟩
    exact (Below.refl _ W).alloc (Nat.le_refl _) _

set_option maxRecDepth 100000 in
set_option maxHeartbeats 1000000 in
theorem len45 {W : World} {T N : Nat} {m : Option Nat} {l : List (ByteArray × Int)} (h : TabT W T m N l) :
    Calls Try.prog 45 #[.pointer (some ⟨T, 0, none⟩)] W fun e w' => e = .returned (.int .i64 l.length) ∧ W = w' := by
  refine (callsIn_wide (n := 0)).1 ?_
  refine callsIn_of_wp Try.func45 rfl trivial ?_ rfl
  simp only [Try.ntmps45, List.size_toArray, List.length_cons, List.length_nil, Nat.reduceAdd, Nat.reduceSub, Array.replicate_succ, Array.replicate_zero, List.push_toArray, List.append_toArray, List.nil_append, List.cons_append]
  have hc := h.1.cell
  have hl := h.1.lt
  rcases h.2 with ⟨rfl, rfl⟩ | ⟨b, rfl, hne, hm⟩
  · have hk := fun w => Maps.len_nil (P := Try.prog) (w := w) Try.underlying86
    gi_wp2
    go_ret
    exact ⟨rfl, rfl⟩
  · have hk := hm.len Try.underlying86
    gi_wp2
    go_ret
    exact ⟨rfl, rfl⟩

set_option maxRecDepth 100000 in
set_option maxHeartbeats 1000000 in
theorem put42 {W : World} {T N : Nat} {m : Option Nat} {l : List (ByteArray × Int)} (h : TabT W T m N l) (hN : N < 100000) {x : ByteArray} (hx : x.size ≤ maxLen) {a : Int} (hv : (Lit.int .i64 a).wf = true) :
    Calls Try.prog 42 #[.pointer (some ⟨T, 0, none⟩), .string x, .int .i64 a] W fun e w' => (∃ v, e = .returned v) ∧ StoredT T m W (N + 1) (putK x a l) w' := by
  refine (callsIn_wide (n := 0)).1 ?_
  refine callsIn_of_wp Try.func42 rfl trivial ?_ rfl
  simp only [Try.ntmps42, List.size_toArray, List.length_cons, List.length_nil, Nat.reduceAdd, Nat.reduceSub, Array.replicate_succ, Array.replicate_zero, List.push_toArray, List.append_toArray, List.nil_append, List.cons_append]
  have hq := fun w r => run_eql_map_nil (P := Try.prog) w 86 9 90 r Try.underlying86
  have hmk := fun w => run_makeMap (P := Try.prog) 86 w
  have hT := h.1
  have hc := hT.cell
  have hl := hT.lt
  have hf := hT.frozen
  have hN' : N < maxLen := by unfold maxLen; omega
  rcases h.2 with ⟨rfl, rfl⟩ | ⟨b, rfl, hne, hm⟩
  · have hT2 : Boxed ((W.setCell ⟨T, 0, none⟩ (.map (some W.heap.size))).alloc (.map #[] 0)) T 88 (.map (some W.heap.size)) := (hT.set _).alloc _
    have hmade : ((W.setCell ⟨T, 0, none⟩ (.map (some W.heap.size))).alloc (.map #[] 0)).ownsMap Try.prog 9 pairT.R W.heap.size N (pairT.tab []) := by
      have := World.ownsMap_made (W.setCell ⟨T, 0, none⟩ (.map (some W.heap.size))) Try.prog 9 pairT.R
      rw [World.size_setCell] at this
      exact this.mono (Nat.zero_le _)
    obtain ⟨W', hup, hm', hg'⟩ := PairK.Map.put (K := pairT) ⟨pairT.fine_nil, hmade⟩ hN' Try.underlying9 Try.underlying86 hx hv
    have hon : Only (fun k => k = T ∨ none = some k) W W' := by
      have e1 : Only (fun k => k = T ∨ none = some k) W ((W.setCell ⟨T, 0, none⟩ (.map (some W.heap.size))).alloc (.map #[] 0)) :=
        (Only.setCell (a := ⟨T, 0, none⟩) (.inl (.inl rfl)) _).trans (Only.alloc _ _ _) (Grows.refl _ _)
      exact e1.trans (Only.of_grownBy (H := fun k => k = W.heap.size) hg' (fun k hk => by simpa using hk.symm)) (fun k hk => .inr (by omega))
    have hc2 := hT2.cell
    have Hfin : Hid (StoredT T none W (N + 1) (putK x a []) W') := ⟨some W.heap.size, ⟨(hg'.block T hT2.lt (by simp; omega)).trans hT2, .inr ⟨_, rfl, by omega, hm'⟩⟩, fun k hk => .inr (by simp at hk; omega), hon⟩
    clear hon hm' hg' hmade hT2 hT h
    simp only [pairT] at hup
    gi_wp2
    go_end0
    exact ⟨⟨_, rfl⟩, Hfin.out⟩
  · obtain ⟨W', hup, hm', hg'⟩ := PairK.Map.put (K := pairT) hm hN' Try.underlying9 Try.underlying86 hx hv
    have hon : Only (fun k => k = T ∨ some b = some k) W W' := Only.of_grownBy (H := fun k => k = T ∨ some b = some k) hg' (fun k hk => .inr hk)
    have Hfin : Hid (StoredT T (some b) W (N + 1) (putK x a l) W') := ⟨some b, ⟨(hg'.block T hT.lt (by simp; omega)).trans hT, .inr ⟨_, rfl, hne, hm'⟩⟩, fun k hk => .inl hk, hon⟩
    clear hon hm' hg' hT h hm
    simp only [pairT] at hup
    gi_wp2
    go_end0
    exact ⟨⟨_, rfl⟩, Hfin.out⟩

set_option maxRecDepth 100000 in
set_option maxHeartbeats 1000000 in
theorem del43 {W : World} {T N : Nat} {m : Option Nat} {l : List (ByteArray × Int)} (h : TabT W T m N l) {x : ByteArray} (hx : x.size ≤ maxLen) :
    Calls Try.prog 43 #[.pointer (some ⟨T, 0, none⟩), .string x] W fun e w' => e = .returned (.bool (hasK x l)) ∧ StoredT T m W N (delK x l) w' := by
  refine (callsIn_wide (n := 0)).1 ?_
  refine callsIn_of_wp Try.func43 rfl trivial ?_ rfl
  simp only [Try.ntmps43, List.size_toArray, List.length_cons, List.length_nil, Nat.reduceAdd, Nat.reduceSub, Array.replicate_succ, Array.replicate_zero, List.push_toArray, List.append_toArray, List.nil_append, List.cons_append]
  have hc := h.1.cell
  have Hh := Lib.hid h
  have Hg := get44 h hx
  cases hm : hasK x l with
  | false =>
    simp only [hm] at Hg ⊢
    have Hg := Lib.hid Hg
    have Hst := Lib.hid (fun w1 (hB : Below W.heap.size W w1) => h.same hB)
    rw [delK_none hm]
    clear h
    gi_wp2_with (gi_at_call 44; refine ((callsIn_wide (n := 0)).2 Hg.out).mono ?_; rintro e w1 ⟨rfl, hB1⟩)
    go_ret
    exact ⟨rfl, Hst.out _ hB1⟩
  | true =>
    simp only [hm] at Hg ⊢
    obtain ⟨b, rfl⟩ : ∃ b, m = some b := by
      rcases h.2 with ⟨_, rfl⟩ | ⟨b, e, _⟩
      · simp [hasK] at hm
      · exact ⟨b, e⟩
    have hD : ∀ w1, Below W.heap.size W w1 → ∃ W', (Builtin.delete_ #[86, 9] 0 #[.map (some b), .string x]).run Try.prog w1 = .ok (.tuple #[]) W' ∧ StoredT T (some b) W N (delK x l) W' := fun w1 hB => by
      have hB' := hB
      have h1 := h.below hB'
      obtain ⟨hne, hM⟩ := h1.map
      obtain ⟨W', hdel, hm', hg'⟩ := hM.drop Try.underlying9 Try.underlying86 hx 0
      exact ⟨W', hdel, some b, ⟨(hg'.block T h1.lt (by simpa using hne.symm)).trans h1.1, .inr ⟨b, rfl, hne, hm'⟩⟩, fun k hk => .inl hk,
        (Only.of_below (H := fun k => k = T ∨ some b = some k) hB').trans (Only.of_grownBy hg' (fun k hk => .inr hk)) (Grows.refl _ _)⟩
    have HD := Lib.hid hD
    have Hg := Lib.hid Hg
    clear h hD
    gi_wp2_with (gi_at_call 44; refine ((callsIn_wide (n := 0)).2 Hg.out).mono ?_; rintro e w1 ⟨rfl, hB1⟩; have hc1 := (Hh.out.below hB1).1.cell; have hl1 := (Hh.out.below hB1).lt; obtain ⟨W', hdel, hst⟩ := HD.out w1 hB1)
    go_ret
    exact ⟨rfl, hst⟩

set_option maxRecDepth 100000 in
set_option maxHeartbeats 1000000 in
/-- gen.NewTable[string, int](). -/
theorem new41 (W : World) : Calls Try.prog 41 #[] W fun e w' => e = .returned (.pointer (some ⟨W.heap.size, 0, none⟩)) ∧ TabT w' W.heap.size none 0 [] ∧ Below W.heap.size W w' := by
  refine (callsIn_wide (n := 0)).1 ?_
  refine callsIn_of_wp Try.func41 rfl trivial ?_ rfl
  simp only [Try.ntmps41, List.size_toArray, List.length_cons, List.length_nil, Nat.reduceAdd, Nat.reduceSub, Array.replicate_succ, Array.replicate_zero, List.push_toArray, List.append_toArray, List.nil_append, List.cons_append]
  gi_wp2
  go_ret
  exact ⟨rfl, TabB.empty W, (Below.refl _ W).alloc (Nat.le_refl _) _⟩
end Go.Proofs.Ytikomlcghplchaa
