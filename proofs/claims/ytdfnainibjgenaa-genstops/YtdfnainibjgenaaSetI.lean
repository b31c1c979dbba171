/- A table of ints as the set of gen uses it: its map, its methods. -/
import Derived.Test.YtdfnainibjgenaaDrop
import Derived.Maps.OwnIn
import Derived.Maps.Ext
import Derived.Maps.OwnSet
import Derived.Maps.RangeWalk
namespace Go.Proofs.Ytdfnainibjgenaa
open Go.RowKit Go.Shelf
open Go.Maps (Keyed)
set_option linter.unusedVariables false
set_option linter.unusedSimpArgs false
attribute [local go_sem] Oper.semAt_some wide_fn wide_depth

/-- How a pair of an int and nothing reads. -/
def pairI : Value → Option (DataW Unit × List MemPlace)
  | .agg cs => match cs.toList with
    | [.int .i64 a] => if (Lit.int .i64 a).wf = true then some (.lit (.int .i64 a), []) else none
    | _ => none
  | _ => none
theorem pairI_mk {a : Int} (h : (Lit.int .i64 a).wf = true) : pairI (.agg #[.int .i64 a]) = some (.lit (.int .i64 a), []) := by simp [pairI, h]
theorem pairI_inv {v : Value} {z : DataW Unit × List MemPlace} (h : pairI v = some z) : ∃ a, v = .agg #[.int .i64 a] ∧ z = (.lit (.int .i64 a), []) ∧ (Lit.int .i64 a).wf = true := by
  unfold pairI at h
  split at h
  · next cs =>
    split at h
    · next a hcs =>
      split at h
      · next hw =>
        refine ⟨a, ?_, ?_, hw⟩
        · obtain ⟨l⟩ := cs; simp at hcs; rw [hcs]
        · simp at h; exact h.symm
      · cases h
    · cases h
  · cases h

/-- The map that stands for the rising list ks. -/
def entI (x : Int) : Lit × DataW Unit := (.int .i64 x, .lit (.int .i64 x))
def setD (ks : List Int) : DataW Unit := .map (ks.map entI)
def Rising (ks : List Int) : Prop := ks.Pairwise (· < ·) ∧ ∀ x ∈ ks, (Lit.int .i64 x).wf = true
/-- x put in where it belongs. -/
def ins (x : Int) : List Int → List Int
  | [] => [x]
  | y :: r => if x < y then x :: y :: r else if x = y then y :: r else y :: ins x r
theorem mem_ins {x z : Int} {ks : List Int} : z ∈ ins x ks ↔ z = x ∨ z ∈ ks := by
  induction ks with
  | nil => simp [ins]
  | cons y r ih =>
    unfold ins
    split
    · simp
    · split
      · next h => subst h; simp
      · simp [ih]; constructor <;> (rintro (h | h | h) <;> simp [h])
theorem ins_rising {x : Int} {ks : List Int} (hx : (Lit.int .i64 x).wf = true) (h : Rising ks) : Rising (ins x ks) := by
  refine ⟨?_, fun z hz => (mem_ins.1 hz).elim (fun e => e ▸ hx) (h.2 z)⟩
  have h1 := h.1
  clear h
  induction ks with
  | nil => simp [ins]
  | cons y r ih =>
    unfold ins
    split
    · next hlt =>
      refine List.pairwise_cons.2 ⟨fun z hz => ?_, h1⟩
      rcases List.mem_cons.1 hz with rfl | hz
      · exact hlt
      · have := (List.pairwise_cons.1 h1).1 z hz; omega
    · split
      · exact h1
      · next h2 h3 =>
        refine List.pairwise_cons.2 ⟨fun z hz => ?_, ih (List.pairwise_cons.1 h1).2⟩
        rcases mem_ins.1 hz with rfl | hz
        · omega
        · exact (List.pairwise_cons.1 h1).1 z hz
theorem before_int {x y : Int} (h : x < y) : (Lit.int .i64 x).before (.int .i64 y) = true := by simp [Lit.before, h]
theorem same_int (x y : Int) : (Lit.int .i64 x).sameKey (.int .i64 y) = decide (x = y) := by
  by_cases h : x = y <;> simp [Lit.sameKey, h]
theorem insert_entI (x : Int) : ∀ l : List Int, x ∉ l → DataW.insert (entI x) (l.map entI) = (ins x l).map entI
  | [], _ => rfl
  | y :: r, h => by
    have hb : (entI x).1.before (entI y).1 = decide (x < y) := by simp [entI, Lit.before]
    simp only [List.map_cons, DataW.insert, ins, hb, decide_eq_true_eq]
    split
    · rfl
    · have hne : x ≠ y := fun e => h (by simp [e])
      rw [if_neg hne, List.map_cons, insert_entI x r (fun e => h (by simp [e]))]
theorem ins_filter (x : Int) : ∀ l : List Int, l.Pairwise (· < ·) → ins x (l.filter fun y => !decide (y = x)) = ins x l
  | [], _ => rfl
  | y :: r, h => by
    have hr := (List.pairwise_cons.1 h)
    by_cases hy : y = x
    · subst hy
      have hf : r.filter (fun z => !decide (z = y)) = r := List.filter_eq_self.2 fun z hz => by have := hr.1 z hz; simp; omega
      simp only [List.filter_cons, decide_true, Bool.not_true, Bool.false_eq_true, if_false, hf]
      have : ins y (y :: r) = y :: r := by simp [ins]
      rw [this]
      cases r with
      | nil => rfl
      | cons z r' => have := hr.1 z (by simp); simp [ins, this]
    · simp only [List.filter_cons, hy, decide_false, Bool.not_false, if_true]
      unfold ins
      split
      · next hlt =>
        have hf : r.filter (fun z => !decide (z = x)) = r := List.filter_eq_self.2 fun z hz => by have := hr.1 z hz; simp; omega
        rw [hf]
      · rw [if_neg (fun e => hy e.symm), if_neg (fun e => hy e.symm), ins_filter x r hr.2]
theorem setD_put {ks : List Int} (h : Rising ks) (x : Int) : (setD ks).put (.int .i64 x) (.lit (.int .i64 x)) = setD (ins x ks) := by
  have e1 : (ks.map entI).filter (fun p => !p.1.sameKey (.int .i64 x)) = (ks.filter fun y => !decide (y = x)).map entI := by
    rw [List.filter_map]; congr 1; apply List.filter_congr; intro y _; simp [entI, same_int]
  show DataW.map (DataW.insert (entI x) _) = _
  rw [e1, insert_entI _ _ (by simp), ins_filter x ks h.1]
  rfl
theorem setD_has (ks : List Int) (x : Int) : Maps.has (setD ks) (.int .i64 x) = decide (x ∈ ks) := by
  unfold setD
  rw [Maps.has_eq, List.any_map]
  induction ks with
  | nil => rfl
  | cons y r ih => simp only [List.any_cons, ih, Function.comp, entI, same_int]; by_cases h : x = y <;> simp [h, eq_comm]
theorem setD_at (ks : List Int) (x : Int) (z : DataW Unit) : (setD ks).atKey (.int .i64 x) z = if x ∈ ks then .lit (.int .i64 x) else z := by
  unfold setD
  induction ks with
  | nil => rfl
  | cons y r ih =>
    simp only [DataW.atKey, List.map_cons, List.find?_cons, entI, same_int] at ih ⊢
    by_cases h : y = x
    · simp [h]
    · simp only [h, decide_false, ih, List.mem_cons, show ¬ x = y from fun e => h e.symm, false_or]
theorem setD_size (ks : List Int) : Maps.size (setD ks) = ks.length := by simp [setD, Maps.size_eq]
theorem rising_nil : Rising [] := ⟨List.Pairwise.nil, by simp⟩
theorem ins_length_le (x : Int) : ∀ ks : List Int, (ins x ks).length ≤ ks.length + 1
  | [] => by simp [ins]
  | y :: r => by unfold ins; split <;> (try split) <;> simp <;> exact ins_length_le x r
theorem ins_of_mem {x : Int} : ∀ {ks : List Int}, ks.Pairwise (· < ·) → x ∈ ks → ins x ks = ks
  | [], _, h => by simp at h
  | y :: r, hp, h => by
    unfold ins
    by_cases hx : x = y
    · rw [if_neg (by omega), if_pos hx]
    · have hm : x ∈ r := (List.mem_cons.1 h).resolve_left hx
      have := (List.pairwise_cons.1 hp).1 x hm
      rw [if_neg (by omega), if_neg hx, ins_of_mem (List.pairwise_cons.1 hp).2 hm]

theorem keyed3 : Keyed Try.prog 3 := Maps.int_keyed Try.underlying3
theorem zero132 (w : World) : (zeroValue 132).run Try.prog w = .ok (.agg #[.int .i64 0]) w := Try.zeroValue132 w
/-- What the map of a table of ints is. -/
def TabM (W : World) (b n : Nat) (ks : List Int) : Prop := Rising ks ∧ W.ownsMap Try.prog 3 pairI b n (setD ks)
theorem TabM.look {W : World} {b n : Nat} {ks : List Int} (h : TabM W b n ks) {x : Int} (hx : (Lit.int .i64 x).wf = true) :
    (Instr.lookup 99 (.map (some b)) (.int .i64 x) true).run Try.prog W = .ok (.tuple #[.agg #[.int .i64 (if x ∈ ks then x else 0)], .bool (decide (x ∈ ks))]) W := by
  obtain ⟨v, ps, hrun, hv⟩ := h.2.look_ok keyed3 Try.underlying99 (zero132 W) (pairI_mk (by decide)) (Maps.keyOf_int_mk Try.underlying3 hx)
  rw [setD_at] at hv
  obtain ⟨a, rfl, ha, _⟩ := pairI_inv hv
  rw [hrun, setD_has]
  split at ha
  · next hm => simp at ha; rw [if_pos hm, ha.1]
  · next hm => simp at ha; rw [if_neg hm, ha.1]
end Go.Proofs.Ytdfnainibjgenaa
