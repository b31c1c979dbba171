/- Strings, bools, tuples, arrays held against each other, slice literals, in Sym's walk. No program is named here. -/
import Derived.Test.YtaclncmkdpjnlaaWords64
import Derived.Laws.StructEq
import Derived.Great.BuildSlice
namespace Go.Proofs.Ytaclncmkdpjnlaa
open Go.RowKit Go.Shelf
set_option linter.unusedVariables false
set_option linter.unusedSimpArgs false

section
variable {P : Program} {n : Nat} {l : List (Nat × Value)} {w : World} {t t' : TypeId} {x y : Operand}

theorem x_not {b : Bool} (hx : ov l x = some (.bool b)) : Runs P n l w (.unOp .not t x) (.bool (!b)) := x_un hx (by simp [Op.unary])
theorem x_ext {vs : Array Value} {i : Nat} {v : Value} (hx : ov l x = some (.tuple vs)) (hv : vs[i]? = some v) : Runs P n l w (.extract x i) v :=
  fun ds a hF o ho => by simp [execOp, ho, hF.ov hx, Instr.extract, hv]
theorem x_lenS {ty : TypeId} {s : ByteArray} (ht : P.underlying ty = some .string) (hx : ov l x = some (.string s)) : Runs P n l w (.call { callee := .builtin .len, args := #[x], argTypes := #[ty] }) (.int .i64 (s.size : Int)) :=
  fun ds a hF o ho => by
    simp [execOp, ho, resolve, invoke, builtin, hF.ov hx]
    go_simp
theorem x_eqS {p q : ByteArray} {b : Bool} (h : decide (p = q) = b) (hx : ov l x = some (.string p)) (hy : ov l y = some (.string q)) : Runs P n l w (.binOp .eql t x y t') (.bool b) :=
  x_bin hx hy fun W => ⟨by simp [eqGuard], by
    subst h
    simp [binOp, Op.stringOp]
    rw [Bool.eq_iff_iff]
    simp only [beq_iff_eq, decide_eq_true_eq]
    constructor
    · intro h
      rw [ByteArray.toList_eq, ByteArray.toList_eq] at h
      exact ByteArray.ext (Array.ext' h)
    · rintro rfl
      rfl⟩
theorem x_eqB {p q b : Bool} (ht : P.underlying t = some .bool) (h : (p == q) = b) (hx : ov l x = some (.bool p)) (hy : ov l y = some (.bool q)) : Runs P n l w (.binOp .eql t x y t') (.bool b) :=
  x_bin hx hy fun W => ⟨by simp [eqGuard], by
    subst h
    have h := fun d => run_equalIn_bool' (P := P) W d t p q ht
    have h := h 9999
    simp only [binOp, Op.equal, Op.maxDepth]
    simp [h]⟩

/-- Of an array's elements from the kth on. -/
def eqFrom (P : Program) (d e : Nat) (xs ys : Array Value) : List Nat → Sem Bool
  | [] => pure true
  | i :: is => do
    let a ← part e xs i
    let b ← part e ys i
    let r ← Op.equalIn d e a b
    if (!r) = true then pure false else eqFrom P d e xs ys is
end

section
variable {P : Program} {n d : Nat} {l : List (Nat × Value)} {w : World} {a : Act} {ops : Array Oper} {Q : Exit → Act → World → Prop} {rest : List Oper} {ty : TypeId} {pos : String} {af : Array Edge}

end
end Go.Proofs.Ytaclncmkdpjnlaa
