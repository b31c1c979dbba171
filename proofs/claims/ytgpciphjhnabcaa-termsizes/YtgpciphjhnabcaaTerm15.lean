/- The reference's Name and May; whole. -/
import Derived.Test.YtgpciphjhnabcaaTerm14
namespace Go.Proofs.Ytgpciphjhnabcaa
open Go.RowKit Go.Shelf
set_option linter.unusedVariables false
set_option linter.unusedSimpArgs false

def letC (c : UInt8) : Prop := 97 ≤ c.toNat ∧ c.toNat ≤ 122
def othC (c : UInt8) : Prop := (48 ≤ c.toNat ∧ c.toNat ≤ 57) ∨ c.toNat = 95 ∨ c.toNat = 46
def okAt (l : List UInt8) (i : Nat) : Prop := ∀ c, l[i]? = some c → letC c ∨ (i ≠ 0 ∧ othC c)
def nameP (l : List UInt8) : Prop := (∀ i, okAt l i) ∧ 1 ≤ l.length ∧ l.length ≤ 32
noncomputable def nameB (s : ByteArray) : Bool := @decide (nameP s.data.toList) (Classical.propDecidable _)
/-- No name and no list of levels is longer than may be. -/
def CT.fit : CT → Prop
  | .cst s ls _ => s.size ≤ 9223372036854775807 ∧ ls.length ≤ 9223372036854775807
  | .two _ a b _ => a.fit ∧ b.fit
  | .lt a b c _ => a.fit ∧ b.fit ∧ c.fit
  | _ => True
def fstErr (vars : Int) : List Lv → Int
  | [] => 0
  | l :: ls => if (chk 32 1048576 vars 1 100 l).1 ≠ 0 then (chk 32 1048576 vars 1 100 l).1 else fstErr vars ls
noncomputable def leafErr (vars : Int) : CT → Int
  | .var n _ => if n < 0 ∨ 1048576 < n then 1 else 0
  | .sort l _ => (chk 32 1048576 vars 1 100 l).1
  | .cst s ls _ => if nameB s = false then 8 else if 6 < ls.length then 2 else fstErr vars ls
  | _ => 0
noncomputable def nodeErr (vars d : Int) (n : Nat) (c : CT) : Int := if 64 < d ∨ 400 < n then 2 else if arT c.kd < 0 ∨ (c.len : Int) ≠ arT c.kd then 1 else leafErr vars c
noncomputable def CT.mayT (vars : Int) : CT → Int → Nat → Int × Nat
  | .two k a b m, d, n => if nodeErr vars d (n + 1) (.two k a b m) ≠ 0 then (nodeErr vars d (n + 1) (.two k a b m), n + 1) else
    if (a.mayT vars (d + 1) (n + 1)).1 ≠ 0 then a.mayT vars (d + 1) (n + 1) else b.mayT vars (d + 1) (a.mayT vars (d + 1) (n + 1)).2
  | .lt a b c m, d, n => if nodeErr vars d (n + 1) (.lt a b c m) ≠ 0 then (nodeErr vars d (n + 1) (.lt a b c m), n + 1) else
    if (a.mayT vars (d + 1) (n + 1)).1 ≠ 0 then a.mayT vars (d + 1) (n + 1) else
    if (b.mayT vars (d + 1) (a.mayT vars (d + 1) (n + 1)).2).1 ≠ 0 then b.mayT vars (d + 1) (a.mayT vars (d + 1) (n + 1)).2 else c.mayT vars (d + 1) (b.mayT vars (d + 1) (a.mayT vars (d + 1) (n + 1)).2).2
  | .var z m, d, n => (nodeErr vars d (n + 1) (.var z m), n + 1)
  | .sort l m, d, n => (nodeErr vars d (n + 1) (.sort l m), n + 1)
  | .cst s ls m, d, n => (nodeErr vars d (n + 1) (.cst s ls m), n + 1)
  | .odd k m, d, n => (nodeErr vars d (n + 1) (.odd k m), n + 1)
noncomputable def mayK (vars : Int) : List CT → Int → Nat → Int × Nat
  | [], _, n => (0, n)
  | k :: ks, d, n => if (k.mayT vars d n).1 ≠ 0 then k.mayT vars d n else mayK vars ks d (k.mayT vars d n).2
/-- What passes. -/
def CT.okV (vars : Int) : CT → Prop
  | .var n _ => 0 ≤ n ∧ n ≤ 1048576
  | .sort l _ => (chk 32 1048576 vars 1 100 l).1 = 0
  | .cst _ ls _ => ls.length ≤ 6 ∧ ∀ l ∈ ls, (chk 32 1048576 vars 1 100 l).1 = 0
  | .odd .. => False
  | .two _ a b _ => a.okV vars ∧ b.okV vars
  | .lt a b c _ => a.okV vars ∧ b.okV vars ∧ c.okV vars
end Go.Proofs.Ytgpciphjhnabcaa
