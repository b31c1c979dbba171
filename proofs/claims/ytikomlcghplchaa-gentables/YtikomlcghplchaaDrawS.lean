/- More operations of a region that draws its order: an index, a field, a part of a slice; comparisons of strings. No program is named here. -/
import Derived.Test.YtikomlcghplchaaDraw
import Derived.Test.YtikomlcghplchaaTab
import Derived.Laws.Strings
namespace Go.Proofs.Ytikomlcghplchaa
open Go.RowKit Go.Shelf
set_option linter.unusedVariables false
set_option linter.unusedSimpArgs false

section
variable {P : Program} {ops : Array Oper} {N n fuel : Nat} {done : List Nat} {a : Act} {w : World} {l : List (Nat × Value)} {S : World → Prop} {K : Act → World → Prop}
theorem take_index (i d : Nat) (t : TypeId) (x ix : Operand) (u k v : Value) {g : Option (Nat × Bool)} (hF : Fr n a l) (hS : S w) (hop : look ops i = some (some d, .indexAddr t x ix, g)) (hok : okTake ops (lst N done) i = true) (hd : d < n) (hg : gw ops l g = some true) (hx : ev l x = some u) (hy : ev l ix = some k)
    (hr : ∀ W, (Instr.indexAt t u k).run P W = .ok v W)
    (h : ∀ a', Fr n a' ((d, v) :: l) → wpAnyH P .any ops (QN K) S fuel (lst N (i :: done)) a' w) : wpAnyH P .any ops (QN K) S (fuel + 1) (lst N done) a w :=
  draw_take hop hok hd hF hg hS (fun o ho W _ => by simp [execOp, ho, hF.ev hx, hF.ev hy, hr W]) h
theorem take_field (i d : Nat) (t : TypeId) (x : Operand) (f : Nat) (u v : Value) {g : Option (Nat × Bool)} (hF : Fr n a l) (hS : S w) (hop : look ops i = some (some d, .fieldAddr t x f, g)) (hok : okTake ops (lst N done) i = true) (hd : d < n) (hg : gw ops l g = some true) (hx : ev l x = some u)
    (hr : ∀ W, S W → (Instr.fieldAt t u f).run P W = .ok v W)
    (h : ∀ a', Fr n a' ((d, v) :: l) → wpAnyH P .any ops (QN K) S fuel (lst N (i :: done)) a' w) : wpAnyH P .any ops (QN K) S (fuel + 1) (lst N done) a w :=
  draw_take hop hok hd hF hg hS (fun o ho W hSW => by simp [execOp, ho, hF.ev hx, hr W hSW]) h
/-- 'x[:k]'. -/
theorem take_upto (i d : Nat) (t : TypeId) (x k : Operand) (u q v : Value) {g : Option (Nat × Bool)} (hF : Fr n a l) (hS : S w) (hop : look ops i = some (some d, .slice t x none (some k) none, g)) (hok : okTake ops (lst N done) i = true) (hd : d < n) (hg : gw ops l g = some true) (hx : ev l x = some u) (hk : ev l k = some q)
    (hr : ∀ W, (Instr.sliceAt t u none (some q) none).run P W = .ok v W)
    (h : ∀ a', Fr n a' ((d, v) :: l) → wpAnyH P .any ops (QN K) S fuel (lst N (i :: done)) a' w) : wpAnyH P .any ops (QN K) S (fuel + 1) (lst N done) a w :=
  draw_take hop hok hd hF hg hS (fun o ho W _ => by simp [execOp, ho, hF.ev hx, hF.ev hk, hr W]) h
/-- 'x[k:]'. -/
theorem take_from (i d : Nat) (t : TypeId) (x k : Operand) (u q v : Value) {g : Option (Nat × Bool)} (hF : Fr n a l) (hS : S w) (hop : look ops i = some (some d, .slice t x (some k) none none, g)) (hok : okTake ops (lst N done) i = true) (hd : d < n) (hg : gw ops l g = some true) (hx : ev l x = some u) (hk : ev l k = some q)
    (hr : ∀ W, (Instr.sliceAt t u (some q) none none).run P W = .ok v W)
    (h : ∀ a', Fr n a' ((d, v) :: l) → wpAnyH P .any ops (QN K) S fuel (lst N (i :: done)) a' w) : wpAnyH P .any ops (QN K) S (fuel + 1) (lst N done) a w :=
  draw_take hop hok hd hF hg hS (fun o ho W _ => by simp [execOp, ho, hF.ev hx, hF.ev hk, hr W]) h
theorem less_str (a b : ByteArray) : Op.bytesLess a.toList b.toList = sl a b := by rw [less_before, ByteArray.toList_eq, ByteArray.toList_eq]; rfl
theorem same_str (a b : ByteArray) : (a.toList == b.toList) = decide (a = b) := by
  rw [ByteArray.toList_eq, ByteArray.toList_eq]
  by_cases h : a = b
  · simp [h]
  · simp only [h, decide_false, beq_eq_false_iff_ne, ne_eq]
    exact fun e => h (bytes_ext e)
theorem lss_str {t : TypeId} {x y : Operand} {p q : ByteArray} {b : Bool} (h : sl p q = b) : Binds P .lss t x y (.string p) (.string q) (.bool b) :=
  fun W => ⟨by simp [eqGuard], by simp [binOp, Op.stringOp, less_str, h]⟩
theorem eql_strb {t : TypeId} {x y : Operand} {p q : ByteArray} {b : Bool} (h : decide (p = q) = b) : Binds P .eql t x y (.string p) (.string q) (.bool b) :=
  fun W => ⟨by simp [eqGuard], by rw [← h, ← same_str]; simp [binOp, Op.stringOp]⟩
theorem neq_strb {t : TypeId} {x y : Operand} {p q : ByteArray} {b : Bool} (h : (!decide (p = q)) = b) : Binds P .neq t x y (.string p) (.string q) (.bool b) :=
  fun W => ⟨by simp [eqGuard], by rw [← h, ← same_str]; simp [binOp, Op.stringOp]⟩
theorem lss_int {t : TypeId} {x y : Operand} {k : IntKind} {p q : Int} {b : Bool} (h : decide (p < q) = b) : Binds P .lss t x y (.int k p) (.int k q) (.bool b) := by
  subst h
  exact bin_int fun W => by simp [binOp, Op.intCmp]
end
end Go.Proofs.Ytikomlcghplchaa
