/- Copies of levels of whatever form. -/
import Derived.Test.YtmkjhdiepkpdoaaTerm5
import Derived.Test.YtmkjhdiepkpdoaaLevB
namespace Go.Proofs.Ytmkjhdiepkpdoaa
open Go.RowKit Go.Shelf
set_option linter.unusedVariables false
set_option linter.unusedSimpArgs false
section
variable {P : Program} {ops : Array Oper} {n d : Nat} {l : List (Nat × Value)} {w : World} {a : Act} {Q : Exit → Act → World → Prop} {rest : List Oper} {ty : TypeId} {pos : String} {af : Array Edge} {x y : Operand} {t e k kb base m o : Nat} {v : Value} {xs ys : List Value}
end
mutual
def Lv.sz : Lv → Nat
 | .mk _ _ ls => Lv.szs ls + 1
def Lv.szs : List Lv → Nat
 | [] => 0
 | l :: ls => l.sz + Lv.szs ls
end
/-- Levels of whatever form, one behind the other. -/
def QL (W : World) (A : Nat → Prop) (zs : List C3) (ps : List Lv) : Prop := zs.length = ps.length ∧ ∀ (j : Nat) z p, zs[j]? = some z → ps[j]? = some p → RLn W A z p
section
variable {W W' : World} {A B : Nat → Prop} {zs : List C3} {ps : List Lv}
theorem QL.nil : QL W A [] [] := ⟨rfl, fun j z p h => by simp at h⟩
theorem QL.mono (h : QL W A zs ps) (hm : ∀ k, A k → B k) : QL W B zs ps := ⟨h.1, fun j z p h1 h2 => (h.2 j z p h1 h2).mono hm⟩
theorem QL.valid (h : QL W A zs ps) : QL W (fun k => A k ∧ k < W.heap.size) zs ps := ⟨h.1, fun j z p h1 h2 => (h.2 j z p h1 h2).valid⟩
theorem QL.keep (h : QL W A zs ps) (hs : W.heap.size ≤ W'.heap.size) (hk : ∀ k, A k → k < W.heap.size → W'.heap[k]? = W.heap[k]?) : QL W' A zs ps := ⟨h.1, fun j z p h1 h2 => RLn.keep hs hk (h.2 j z p h1 h2)⟩
theorem QL.below (h : QL W A zs ps) (hB : Below W.heap.size W W') : QL W' A zs ps := h.keep hB.size fun k _ hk => hB.block k hk
theorem QL.only {c : Nat} (h : QL W A zs ps) (o : Only c W W') (hc : ∀ k, A k → k ≠ c) : QL W' A zs ps := h.keep (Nat.le_of_eq o.size.symm) fun k ha _ => o.block k (hc k ha)
theorem QL.k2 {a b : Nat} (h : QL W A zs ps) (hK : Ktw a b W W') (hc : ∀ k, A k → k ≠ a ∧ k ≠ b) : QL W' A zs ps := h.keep hK.size fun k ha hk => hK.block k hk (hc k ha)
end
/-- RLn, by another name. -/
def RLx (W : World) (A : Nat → Prop) (x : C3) (l : Lv) : Prop := RLn W A x l
section
variable {W W' : World} {A B : Nat → Prop} {x : C3} {l : Lv}
theorem RLx.below (h : RLx W A x l) (hB : Below W.heap.size W W') : RLx W' A x l := RLn.keep hB.size (fun k _ hk => hB.block k hk) h
theorem RLx.only {c : Nat} (h : RLx W A x l) (o : Only c W W') (hc : ∀ k, A k → k ≠ c) : RLx W' A x l := RLn.keep (Nat.le_of_eq o.size.symm) (fun k ha _ => o.block k (hc k ha)) h
theorem RLx.k2 {a b : Nat} (h : RLx W A x l) (hK : Ktw a b W W') (hc : ∀ k, A k → k ≠ a ∧ k ≠ b) : RLx W' A x l := RLn.keep hK.size (fun k ha hk => hK.block k hk (hc k ha)) h
theorem RLx.mono (h : RLx W A x l) (hm : ∀ k, A k → B k) : RLx W B x l := RLn.mono hm h
theorem RLx.valid (h : RLx W A x l) : RLx W (fun k => A k ∧ k < W.heap.size) x l := RLn.valid h
theorem RLx.rl (h : RLx W A x l) : RL W x l := RLn.rl h
end
/-- A level as it was, or a copy of it. -/
def isCp (l l' : Lv) : Prop := l' = l ∨ l' = cpy l
theorem isCp.slO {W : World} {x : C3} {l l' : Lv} (h : isCp l l') (hL : RL W x l) : slO l' = slO l := by
 rcases h with rfl | rfl
 ·
  rfl
 ·
  exact slO_cpy hL
end Go.Proofs.Ytmkjhdiepkpdoaa

namespace Go.Proofs.Ytmkjhdiepkpdoaa
open Go.RowKit Go.Shelf
set_option linter.unusedVariables false
set_option linter.unusedSimpArgs false
section
variable {P : Program} {n : Nat} {l : List (Nat × Value)} {w : World}
theorem x_quon {t t' : TypeId} {x y : Operand} {p q : Int} (r : Int) (h0 : 0 < q) (hp : 0 ≤ p) (hp2 : p < 9223372036854775808) (h1 : p / q = r) (hx : ov l x = some (.int .i64 p)) (hy : ov l y = some (.int .i64 q)) : Runs P n l w (.binOp .quo t x y t') (.int .i64 r) :=
 x_bin hx hy (b_int fun W => by
  have h2 : p.tdiv q = r := by rw [Int.tdiv_eq_ediv_of_nonneg hp]; exact h1
  have h3 : 0 ≤ r := by rw [← h1]; exact Int.ediv_nonneg hp (by omega)
  have h4 : r ≤ p := by rw [← h1]; exact Int.ediv_le_self _ hp
  simp [binOp, Op.intDiv, show q ≠ 0 by omega, h2, wrap_i64 (by omega : -9223372036854775808 ≤ r) (by omega)])
end
def Lv.kids : Lv → List Lv
 | .mk _ _ ls => ls
theorem RLn.kids {W : World} {A : Nat → Prop} {x : C3} {l : Lv} (h : RLn W A x l) : RVn W A x.2.2 l.kids := by
 cases h with
 | mk hR hl hk => exact ⟨_, hR, hl, hk⟩
theorem RVn.row {W : World} {A : Nat → Prop} {v : Value} {ls : List Lv} (h : RVn W A v ls) {i : Nat} (hi : i < ls.length) :
    ∃ b off c x y, v = .slice (some ⟨b, off, none⟩) ls.length c ∧ ls[i]? = some y ∧ RLn W A x y ∧ A b ∧ b < W.heap.size ∧ ∀ W' : World, W'.heap[b]? = W.heap[b]? → ∀ j u, (lc x)[j]? = some u → W'.cell? ((⟨b, off + i * 3, none⟩ : Addr).add j) = some u := by
  obtain ⟨xs, h1, h2, h3⟩ := h
  obtain ⟨b, off, c, rfl, hb⟩ := h1.1.some (by omega)
  refine ⟨b, off, c, xs[i]'(by omega), ls[i], by rw [h2], List.getElem?_eq_getElem hi, h3 i _ _ (List.getElem?_eq_getElem (by omega)) (List.getElem?_eq_getElem hi), h1.2 (by omega) b rfl, hb, fun W' hB j u hj => ?_⟩
  rw [addr_addn, Nat.add_assoc]
  exact (World.cell?_of_block (w := W) (a := ⟨b, off + (i * 3 + j), none⟩) hB).trans (h1.1.cell (fm3_get xs i j _ u (List.getElem?_eq_getElem (by omega)) hj))
def sumT (cs : List CT) : Nat := (cs.map CT.size).sum
end Go.Proofs.Ytmkjhdiepkpdoaa

namespace Go.Proofs.Ytmkjhdiepkpdoaa
open Go.RowKit Go.Shelf
set_option linter.unusedVariables false
set_option linter.unusedSimpArgs false
theorem RVn.k2 {W W' : World} {A : Nat → Prop} {v : Value} {ls : List Lv} {a b : Nat} (h : RVn W A v ls) (hK : Ktw a b W W') (hA : ∀ k, A k → k ≠ a ∧ k ≠ b) : RVn W' A v ls := h.keep hK.size (fun k ha hk => hK.block k hk (hA k ha))
theorem Ok.k2 {W W' : World} {A : Nat → Prop} {x : C8} {a b : Nat} (h : Ok W A x) (hK : Ktw a b W W') (hA : ∀ k, A k → k ≠ a ∧ k ≠ b) : Ok W' A x := h.keep hK.size (fun k ha hk => hK.block k hk (hA k ha))
/-- Each is as it was, or a copy. -/
def cpAll (ls ls' : List Lv) : Prop := ∀ (j : Nat) l l', ls[j]? = some l → ls'[j]? = some l' → isCp l l'
theorem cpAll.slO {W : World} {A : Nat → Prop} {v : Value} {ls ls' : List Lv} (h : cpAll ls ls') (hl : ls'.length = ls.length) (hV : RVn W A v ls) : ls'.map slO = ls.map slO := by
 obtain ⟨xs, h1, h2, h3⟩ := hV
 apply List.ext_getElem?
 intro i
 by_cases hi : i < ls.length
 ·
  rw [List.getElem?_map, List.getElem?_map, List.getElem?_eq_getElem hi, List.getElem?_eq_getElem (by omega : i < ls'.length)]
  exact congrArg some ((h i _ _ (List.getElem?_eq_getElem hi) (List.getElem?_eq_getElem (by omega))).slO (h3 i (xs[i]'(by omega)) _ (List.getElem?_eq_getElem (by omega)) (List.getElem?_eq_getElem hi)).rl)
 ·
  rw [List.getElem?_eq_none (by simp; omega), List.getElem?_eq_none (by simp; omega)]
/-- A node, with these kids. -/
def nodeP : CT → List PT → PT
 | .var n _, _ => .var n
 | .sort l _, _ => .sort (slO l)
 | .cst s ls _, _ => .cst s (ls.map slO)
 | .odd k _, _ => .odd k
 | .two k _ _ _, ps => .two k (ps.getD 0 (.odd 0)) (ps.getD 1 (.odd 0))
 | .lt .., ps => .lt (ps.getD 0 (.odd 0)) (ps.getD 1 (.odd 0)) (ps.getD 2 (.odd 0))
section
variable {W W' : World} {A B : Nat → Prop}
theorem RC.var_of : ∀ {c : CT} {x : C8}, RC W A c x → x.k = 1 → ∃ n m, c = .var n m
 | .var n m, _, _, _ => ⟨n, m, rfl⟩
 | .sort .., x, h, hk => by have := h.1; omega
 | .cst .., x, h, hk => by have := h.1; omega
 | .odd k m, x, h, hk => by
  have h1 := h.1
  have h2 := h.2.1
  rw [← h1, hk] at h2
  simp [arT] at h2
  omega
 | .two .., x, h, hk => by have := h.1; have := h.2.1; omega
 | .lt .., x, h, hk => by have := h.1; omega
theorem RC.sort_of : ∀ {c : CT} {x : C8}, RC W A c x → x.k = 2 → ∃ n m, c = .sort n m
 | .sort n m, _, _, _ => ⟨n, m, rfl⟩
 | .var .., x, h, hk => by have := h.1; omega
 | .cst .., x, h, hk => by have := h.1; omega
 | .odd k m, x, h, hk => by
  have h1 := h.1
  have h2 := h.2.1
  rw [← h1, hk] at h2
  simp [arT] at h2
  omega
 | .two .., x, h, hk => by have := h.1; have := h.2.1; omega
 | .lt .., x, h, hk => by have := h.1; omega
theorem RC.cst_of : ∀ {c : CT} {x : C8}, RC W A c x → x.k = 7 → ∃ s ls m, c = .cst s ls m
 | .cst s n m, _, _, _ => ⟨s, n, m, rfl⟩
 | .var .., x, h, hk => by have := h.1; omega
 | .sort .., x, h, hk => by have := h.1; omega
 | .odd k m, x, h, hk => by
  have h1 := h.1
  have h2 := h.2.1
  rw [← h1, hk] at h2
  simp [arT] at h2
  omega
 | .two .., x, h, hk => by have := h.1; have := h.2.1; omega
 | .lt .., x, h, hk => by have := h.1; omega
theorem RVn.below {v : Value} {ls : List Lv} (h : RVn W A v ls) (hB : Below W.heap.size W W') : RVn W' A v ls := h.keep hB.size fun k _ hk => hB.block k hk
theorem RVn.only {v : Value} {ls : List Lv} {c : Nat} (h : RVn W A v ls) (o : Only c W W') (hc : ∀ k, A k → k ≠ c) : RVn W' A v ls := h.keep (Nat.le_of_eq o.size.symm) fun k ha _ => o.block k (hc k ha)
end
end Go.Proofs.Ytmkjhdiepkpdoaa

namespace Go.Proofs.Ytmkjhdiepkpdoaa
open Go.RowKit Go.Shelf
set_option linter.unusedVariables false
set_option linter.unusedSimpArgs false
def Go_ (c : CT) (_ : Int) (ps : List PT) : PT := nodeP c ps
def mx63 : Int := 9223372036854775807
def liftN (f b d n : Int) : Int := if d ≤ n ∧ f ≤ n - d then max (min (n + b) 9223372036854775807) d else n
def PT.lift (f b : Int) : PT → Int → PT
 | .var n, d => .var (liftN f b d n)
 | .two k p q, d => .two k (p.lift f b d) (q.lift f b (d + if k = 3 ∨ k = 4 then 1 else 0))
 | .lt p q r, d => .lt (p.lift f b d) (q.lift f b d) (r.lift f b (d + 1))
 | .sort o, _ => .sort o
 | .cst s os, _ => .cst s os
 | .odd k, _ => .odd k
def Gl (f b : Int) (c : CT) (d : Int) (ps : List PT) : PT := match c with
 | .var n _ => .var (liftN f b d n)
 | c => nodeP c ps
def PT.put (v : PT) : PT → Int → PT
 | .var n, d => if n = d then v.lift 0 d 0 else .var (if d < n then n - 1 else n)
 | .two k p q, d => .two k (PT.put v p d) (PT.put v q (d + if k = 3 ∨ k = 4 then 1 else 0))
 | .lt p q r, d => .lt (PT.put v p d) (PT.put v q d) (PT.put v r (d + 1))
 | .sort o, _ => .sort o
 | .cst s os, _ => .cst s os
 | .odd k, _ => .odd k
def Gp (v : PT) (c : CT) (d : Int) (ps : List PT) : PT := match c with
 | .var n _ => if n = d then v.lift 0 d 0 else .var (if d < n then n - 1 else n)
 | c => nodeP c ps
theorem RKE.valid {W : World} {A : Nat → Prop} {v : Value} {ps : List PT} : RKE W A v ps → RKE W (fun k => A k ∧ k < W.heap.size) v ps := fun ⟨xs, h1, h2, h3⟩ => ⟨xs, h1.lt, h2, fun i x c e1 e2 => (h3 i x c e1 e2).valid⟩
end Go.Proofs.Ytmkjhdiepkpdoaa

namespace Go.Proofs.Ytmkjhdiepkpdoaa
open Go.RowKit Go.Shelf
set_option linter.unusedVariables false
set_option linter.unusedSimpArgs false
theorem Room.k2 {W W' : World} {br a b : Nat} (h : Room W br) (hK : Ktw a b W W') (hb : br ≠ a ∧ br ≠ b) : Room W' br := let ⟨r, h1, h2⟩ := h; ⟨r, h1.k2 hK hb, h2⟩
/-- Terms, one behind the other. -/
def QT (W : World) (A : Nat → Prop) (zs : List C8) (ps : List PT) : Prop := zs.length = ps.length ∧ ∀ (j : Nat) z p, zs[j]? = some z → ps[j]? = some p → RE W A p z
section
variable {W W' : World} {A B : Nat → Prop} {zs : List C8} {ps : List PT}
theorem QT.nil : QT W A [] [] := ⟨rfl, fun j z p h => by simp at h⟩
theorem QT.mono (h : QT W A zs ps) (hm : ∀ k, A k → B k) : QT W B zs ps := ⟨h.1, fun j z p h1 h2 => (h.2 j z p h1 h2).mono hm⟩
theorem QT.keep (h : QT W A zs ps) (hs : W.heap.size ≤ W'.heap.size) (hk : ∀ k, A k → k < W.heap.size → W'.heap[k]? = W.heap[k]?) : QT W' A zs ps := ⟨h.1, fun j z p h1 h2 => RE.keep hs hk (h.2 j z p h1 h2)⟩
theorem QT.below (h : QT W A zs ps) (hB : Below W.heap.size W W') : QT W' A zs ps := h.keep hB.size fun k _ hk => hB.block k hk
theorem QT.only {c : Nat} (h : QT W A zs ps) (o : Only c W W') (hc : ∀ k, A k → k ≠ c) : QT W' A zs ps := h.keep (Nat.le_of_eq o.size.symm) fun k ha _ => o.block k (hc k ha)
theorem QT.k2 {a b : Nat} (h : QT W A zs ps) (hK : Ktw a b W W') (hc : ∀ k, A k → k ≠ a ∧ k ≠ b) : QT W' A zs ps := h.keep hK.size fun k ha hk => hK.block k hk (hc k ha)
end
/-- RE, by another name. -/
def REx (W : World) (A : Nat → Prop) (p : PT) (x : C8) : Prop := RE W A p x
section
variable {W W' : World} {A B : Nat → Prop} {p : PT} {x : C8}
theorem REx.below (h : REx W A p x) (hB : Below W.heap.size W W') : REx W' A p x := RE.below h hB
theorem REx.only {c : Nat} (h : REx W A p x) (o : Only c W W') (hc : ∀ k, A k → k ≠ c) : REx W' A p x := RE.only h o (fun ha => hc c ha rfl)
theorem REx.k2 {a b : Nat} (h : REx W A p x) (hK : Ktw a b W W') (hc : ∀ k, A k → k ≠ a ∧ k ≠ b) : REx W' A p x := RE.k2 h hK (fun ha => (hc a ha).1 rfl) (fun hb => (hc b hb).2 rfl)
end
def plc (o p : Int × Int) : Int × Int := (o.1 + p.1, if 0 < p.1 then max o.2 (p.2 + 1) else o.2)
def Gpl (c : CT) (d : Int) (ps : List (Int × Int)) : Int × Int := if c.isV d then (1, 1) else ps.foldl plc (0, 0)
end Go.Proofs.Ytmkjhdiepkpdoaa

namespace Go.Proofs.Ytmkjhdiepkpdoaa
open Go.RowKit Go.Shelf
set_option linter.unusedVariables false
set_option linter.unusedSimpArgs false
theorem RC.bel {w0 w : World} {c : CT} {x : C8} (h : RC w0 (fun k => k < w0.heap.size) c x) (hB : Below w0.heap.size w0 w) : RC w (fun k => k < w.heap.size) c x :=
 (h.keep hB.size (fun k hk _ => hB.block k hk)).mono (fun k hk => by have := hB.size; omega)
theorem PT.size_pos (p : PT) : 0 < p.size := by cases p <;> simp [PT.size]
theorem PT.dep_pos (p : PT) : 0 < p.dep := by cases p <;> simp [PT.dep]
def PT.ok (p : PT) : Prop := p.size ≤ 20000 ∧ p.dep ≤ 2000
instance (p : PT) : Decidable p.ok := inferInstanceAs (Decidable (_ ∧ _))
/-- What it is asked ahead of putting in. -/
def holdsP (n dp vn vd cnt pd : Int) : Prop := n + cnt * (vn - 1) ≤ 20000 ∧ (if 0 < cnt then max dp (pd + vd - 1) else dp) ≤ 2000
instance (n dp vn vd cnt pd : Int) : Decidable (holdsP n dp vn vd cnt pd) := inferInstanceAs (Decidable (_ ∧ _))
end Go.Proofs.Ytmkjhdiepkpdoaa

namespace Go.Proofs.Ytmkjhdiepkpdoaa
open Go.RowKit Go.Shelf
set_option linter.unusedVariables false
set_option linter.unusedSimpArgs false
/-- x reads as a term that says p. -/
def RT (W : World) (p : PT) (x : C8) : Prop := RE W (fun k => k < W.heap.size) p x
theorem RE.rt {W : World} {A : Nat → Prop} {p : PT} {x : C8} (h : RE W A p x) : RT W p x := h.valid.mono (fun k hk => hk.2)
theorem RT.below {W W' : World} {p : PT} {x : C8} (h : RT W p x) (hB : Below W.heap.size W W') : RT W' p x := (RE.below h hB).rt
def PT.inst (t v : PT) : PT := if t.ok ∧ v.ok ∧ (PT.put v t 0).ok then PT.put v t 0 else .odd 0
def cut20 (b : Int) : Int := min (max b (-1048576)) 1048576
def PT.Lift (t : PT) (f b : Int) : PT := if t.ok then t.lift (max f 0) (cut20 b) 0 else .odd 0
end Go.Proofs.Ytmkjhdiepkpdoaa

namespace Go.Proofs.Ytmkjhdiepkpdoaa
open Go.RowKit Go.Shelf
set_option linter.unusedVariables false
set_option linter.unusedSimpArgs false
def PT.apps (f : PT) (xs : List PT) : PT := xs.foldl (fun t a => .two 6 t a) f
def PT.appsR (f : PT) (xs : List PT) : PT := if (PT.apps f xs).ok then PT.apps f xs else .odd 0
end Go.Proofs.Ytmkjhdiepkpdoaa

namespace Go.Proofs.Ytmkjhdiepkpdoaa
open Go.RowKit Go.Shelf
set_option linter.unusedVariables false
set_option linter.unusedSimpArgs false
abbrev sA : ByteArray := ByteArray.mk #[97]
abbrev sC : ByteArray := ByteArray.mk #[99]
end Go.Proofs.Ytmkjhdiepkpdoaa

namespace Go.Proofs.Ytmkjhdiepkpdoaa
set_option maxRecDepth 100000
set_option maxHeartbeats 1600000
open Go.RowKit Go.Shelf
set_option linter.unusedVariables false
set_option linter.unusedSimpArgs false
def letC (c : UInt8) : Prop := 97 ≤ c.toNat ∧ c.toNat ≤ 122
def othC (c : UInt8) : Prop := (48 ≤ c.toNat ∧ c.toNat ≤ 57) ∨ c.toNat = 95 ∨ c.toNat = 46
def okAt (l : List UInt8) (i : Nat) : Prop := ∀ c, l[i]? = some c → letC c ∨ (i ≠ 0 ∧ othC c)
def nameP (l : List UInt8) : Prop := (∀ i, okAt l i) ∧ 1 ≤ l.length ∧ l.length ≤ 32
noncomputable def nameB (s : ByteArray) : Bool := @decide (nameP s.data.toList) (Classical.propDecidable _)
theorem nameB_true {s : ByteArray} : nameB s = true ↔ nameP s.data.toList := by unfold nameB; exact @decide_eq_true_iff _ (Classical.propDecidable _)
theorem nameB_of {s : ByteArray} {b : Bool} (h : b = true ↔ nameP s.data.toList) : nameB s = b := by
 rw [Bool.eq_iff_iff, nameB_true, h]
theorem size_list (s : ByteArray) : s.data.toList.length = s.size := by simp
/-- No name and no list of levels is longer than may be. -/
def CT.fit : CT → Prop
 | .cst s ls _ => s.size ≤ 9223372036854775807 ∧ ls.length ≤ 9223372036854775807
 | .two _ a b _ => a.fit ∧ b.fit
 | .lt a b c _ => a.fit ∧ b.fit ∧ c.fit
 | _ => True
theorem CT.fit_kid : ∀ {c k : CT} {i : Nat}, c.fit → c.kids[i]? = some k → k.fit
 | .two _ a b _, k, i, h, hk => by
  rcases i with _ | _ | i
  ·
   simp [CT.kids] at hk; subst hk; exact h.1
  ·
   simp [CT.kids] at hk; subst hk; exact h.2
  ·
   simp [CT.kids] at hk
 | .lt a b c _, k, i, h, hk => by
  rcases i with _ | _ | _ | i
  ·
   simp [CT.kids] at hk; subst hk; exact h.1
  ·
   simp [CT.kids] at hk; subst hk; exact h.2.1
  ·
   simp [CT.kids] at hk; subst hk; exact h.2.2
  ·
   simp [CT.kids] at hk
 | .var .., k, i, h, hk => by simp [CT.kids] at hk
 | .sort .., k, i, h, hk => by simp [CT.kids] at hk
 | .cst .., k, i, h, hk => by simp [CT.kids] at hk
 | .odd .., k, i, h, hk => by simp [CT.kids] at hk
def fstErr (vars : Int) : List Lv → Int
 | [] => 0
 | l :: ls => if (chk 32 1048576 vars 1 100 l).1 ≠ 0 then (chk 32 1048576 vars 1 100 l).1 else fstErr vars ls
noncomputable def leafErr (vars : Int) : CT → Int
 | .var n _ => if n < 0 ∨ 1048576 < n then 1 else 0
 | .sort l _ => (chk 32 1048576 vars 1 100 l).1
 | .cst s ls _ => if nameB s = false then 8 else if 6 < ls.length then 2 else fstErr vars ls
 | _ => 0
noncomputable def nodeErr (vars d : Int) (n : Nat) (c : CT) : Int := if 64 < d ∨ 400 < n then 2 else if arT c.kd < 0 ∨ (c.len : Int) ≠ arT c.kd then 1 else leafErr vars c
noncomputable def CT.mayT (vars : Int) : CT → Int → Nat → Int × Nat
 | .two k a b m, d, n => if nodeErr vars d (n + 1) (.two k a b m) ≠ 0 then (nodeErr vars d (n + 1) (.two k a b m), n + 1) else
  if (a.mayT vars (d + 1) (n + 1)).1 ≠ 0 then a.mayT vars (d + 1) (n + 1) else b.mayT vars (d + 1) (a.mayT vars (d + 1) (n + 1)).2
 | .lt a b c m, d, n => if nodeErr vars d (n + 1) (.lt a b c m) ≠ 0 then (nodeErr vars d (n + 1) (.lt a b c m), n + 1) else
  if (a.mayT vars (d + 1) (n + 1)).1 ≠ 0 then a.mayT vars (d + 1) (n + 1) else
  if (b.mayT vars (d + 1) (a.mayT vars (d + 1) (n + 1)).2).1 ≠ 0 then b.mayT vars (d + 1) (a.mayT vars (d + 1) (n + 1)).2 else c.mayT vars (d + 1) (b.mayT vars (d + 1) (a.mayT vars (d + 1) (n + 1)).2).2
 | .var z m, d, n => (nodeErr vars d (n + 1) (.var z m), n + 1)
 | .sort l m, d, n => (nodeErr vars d (n + 1) (.sort l m), n + 1)
 | .cst s ls m, d, n => (nodeErr vars d (n + 1) (.cst s ls m), n + 1)
 | .odd k m, d, n => (nodeErr vars d (n + 1) (.odd k m), n + 1)
noncomputable def mayK (vars : Int) : List CT → Int → Nat → Int × Nat
 | [], _, n => (0, n)
 | k :: ks, d, n => if (k.mayT vars d n).1 ≠ 0 then k.mayT vars d n else mayK vars ks d (k.mayT vars d n).2
theorem may_last (p : Int × Nat) : (if p.1 ≠ 0 then p else (0, p.2)) = p := by
  split
  · rfl
  · next h => have : p.1 = 0 := by omega
              rw [← this]
theorem mayT_eq (vars : Int) (c : CT) (d : Int) (n : Nat) : c.mayT vars d n = if nodeErr vars d (n + 1) c ≠ 0 then (nodeErr vars d (n + 1) c, n + 1) else mayK vars c.kids (d + 1) (n + 1) := by
 cases c <;> simp only [CT.mayT, CT.kids, mayK, may_last]
 all_goals (split <;> first | rfl | (rename_i h; rw [show nodeErr vars d (n + 1) _ = 0 by omega]))
theorem nodeErr_two {vars d : Int} {n : Nat} {c : CT} (h : 64 < d ∨ 400 < n) : nodeErr vars d n c = 2 := if_pos h
theorem nodeErr_one {vars d : Int} {n : Nat} {c : CT} (h : ¬ (64 < d ∨ 400 < n)) (h2 : arT c.kd < 0 ∨ (c.len : Int) ≠ arT c.kd) : nodeErr vars d n c = 1 := by unfold nodeErr; rw [if_neg h, if_pos h2]
theorem nodeErr_leaf {vars d : Int} {n : Nat} {c : CT} (h : ¬ (64 < d ∨ 400 < n)) (h2 : ¬ (arT c.kd < 0 ∨ (c.len : Int) ≠ arT c.kd)) : nodeErr vars d n c = leafErr vars c := by unfold nodeErr; rw [if_neg h, if_neg h2]
theorem leafErr_rest {W : World} {A : Nat → Prop} {vars : Int} : ∀ {c : CT} {x : C8}, RC W A c x → (x.k ≠ 1 ∧ x.k ≠ 2 ∧ x.k ≠ 7) → leafErr vars c = 0
 | .var .., x, h, hk => by have := h.1; omega
 | .sort .., x, h, hk => by have := h.1; omega
 | .cst .., x, h, hk => by have := h.1; omega
 | .odd .., x, h, hk => rfl
 | .two .., x, h, hk => rfl
 | .lt .., x, h, hk => rfl
/-- What passes. -/
def CT.okV (vars : Int) : CT → Prop
 | .var n _ => 0 ≤ n ∧ n ≤ 1048576
 | .sort l _ => (chk 32 1048576 vars 1 100 l).1 = 0
 | .cst _ ls _ => ls.length ≤ 6 ∧ ∀ l ∈ ls, (chk 32 1048576 vars 1 100 l).1 = 0
 | .odd .. => False
 | .two _ a b _ => a.okV vars ∧ b.okV vars
 | .lt a b c _ => a.okV vars ∧ b.okV vars ∧ c.okV vars
theorem fstErr_zero {vars : Int} : ∀ {ls : List Lv}, fstErr vars ls = 0 → ∀ l ∈ ls, (chk 32 1048576 vars 1 100 l).1 = 0
 | [], _, l, h => by cases h
 | l' :: ls, h, l, hl => by
  unfold fstErr at h
  split at h
  ·
   next h2 => exact absurd h h2
  ·
   next h2 =>
   rcases List.mem_cons.1 hl with rfl | hl
   ·
    omega
   ·
    exact fstErr_zero h l hl
theorem nodeErr_zero {vars d : Int} {n : Nat} {c : CT} (h : nodeErr vars d n c = 0) : d ≤ 64 ∧ n ≤ 400 ∧ ¬ (arT c.kd < 0 ∨ (c.len : Int) ≠ arT c.kd) ∧ leafErr vars c = 0 := by
 unfold nodeErr at h
 split at h
 ·
  omega
 ·
  split at h
  ·
   omega
  ·
   exact ⟨by omega, by omega, by assumption, h⟩
theorem may_zero {W : World} {A : Nat → Prop} {vars : Int} : ∀ (c : CT) (x : C8) (d : Int) (n : Nat), RC W A c x → (c.mayT vars d n).1 = 0 → c.okV vars ∧ (c.mayT vars d n).2 = n + c.size ∧ n + c.size ≤ 400 ∧ d + c.dep ≤ 65
 | .two k a b m, x, d, n, hx, h => by
  obtain ⟨_, _, ⟨y, z, cs, _, ha, hb⟩, _⟩ := hx
  simp only [CT.mayT] at h ⊢
  split at h
  ·
   next h1 => exact absurd h h1
  ·
   next h1 =>
   rw [if_neg h1]
   have h0 := nodeErr_zero (show nodeErr vars d (n + 1) (.two k a b m) = 0 by omega)
   split at h
   ·
    next h2 => exact absurd h h2
   ·
    next h2 =>
    rw [if_neg h2]
    obtain ⟨a1, a2, a3, a4⟩ := may_zero (vars := vars) a y (d + 1) (n + 1) ha (by omega)
    obtain ⟨b1, b2, b3, b4⟩ := may_zero (vars := vars) b z (d + 1) (a.mayT vars (d + 1) (n + 1)).2 hb h
    refine ⟨⟨a1, b1⟩, ?_, ?_, ?_⟩
    ·
     rw [b2, a2]; simp only [CT.size]; omega
    ·
     rw [a2] at b3; simp only [CT.size]; omega
    ·
     simp only [CT.dep]; omega
 | .lt a b c m, x, d, n, hx, h => by
  obtain ⟨_, ⟨y, z, u, cs, _, ha, hb, hc⟩, _⟩ := hx
  simp only [CT.mayT] at h ⊢
  split at h
  ·
   next h1 => exact absurd h h1
  ·
   next h1 =>
   rw [if_neg h1]
   have h0 := nodeErr_zero (show nodeErr vars d (n + 1) (.lt a b c m) = 0 by omega)
   split at h
   ·
    next h2 => exact absurd h h2
   ·
    next h2 =>
    rw [if_neg h2]
    split at h
    ·
     next h3 => exact absurd h h3
    ·
     next h3 =>
     rw [if_neg h3]
     obtain ⟨a1, a2, a3, a4⟩ := may_zero (vars := vars) a y (d + 1) (n + 1) ha (by omega)
     obtain ⟨b1, b2, b3, b4⟩ := may_zero (vars := vars) b z (d + 1) (a.mayT vars (d + 1) (n + 1)).2 hb (by omega)
     obtain ⟨c1, c2, c3, c4⟩ := may_zero (vars := vars) c u (d + 1) (b.mayT vars (d + 1) (a.mayT vars (d + 1) (n + 1)).2).2 hc h
     refine ⟨⟨a1, b1, c1⟩, ?_, ?_, ?_⟩
     ·
      rw [c2, b2, a2]; simp only [CT.size]; omega
     ·
      rw [b2, a2] at c3; simp only [CT.size]; omega
     ·
      simp only [CT.dep]; omega
 | .var z m, x, d, n, hx, h => by
  obtain ⟨h1, h2, h3, h4⟩ := nodeErr_zero h
  refine ⟨?_, rfl, h2, by simp only [CT.dep]; omega⟩
  simp only [leafErr] at h4
  simp only [CT.okV]
  split at h4 <;> omega
 | .sort l m, x, d, n, hx, h => by
  obtain ⟨h1, h2, h3, h4⟩ := nodeErr_zero h
  exact ⟨h4, rfl, h2, by simp only [CT.dep]; omega⟩
 | .cst s ls m, x, d, n, hx, h => by
  obtain ⟨h1, h2, h3, h4⟩ := nodeErr_zero h
  refine ⟨?_, rfl, h2, by simp only [CT.dep]; omega⟩
  simp only [leafErr] at h4
  split at h4
  ·
   omega
  ·
   split at h4
   ·
    omega
   ·
    exact ⟨by omega, fstErr_zero h4⟩
 | .odd k m, x, d, n, hx, h => by
  obtain ⟨h1, h2, h3, h4⟩ := nodeErr_zero h
  have := hx.2.1
  simp only [CT.kd, CT.len] at h3
  omega
theorem rName32 (s : ByteArray) (w0 : World) (hs : s.size ≤ 9223372036854775807) : Calls Try.prog 72 #[.string s] w0 fun e w' => e = .returned (.bool (nameB s)) ∧ w' = w0 := by
 refine calls_fs 51 [(0, .string s)] Try.func72 rfl rfl rfl rfl rfl fun a F => ?_
 refine wp_rs fun _ K1 => F.sg rfl fun a F => ?_
 refine s_end (K1 _ _ ?_)
 refine wp_seq_k fun _ K2 => ?_
 refine wp_rs fun _ K3 => F.mv rfl fun a F => F.vl (x_lenS Try.underlying9 rfl) fun a F => F.mv rfl fun a F => ?_
 refine s_end (K3 _ _ ?_)
 refine wp_block ?_
 refine wp_up s.size (fun i a w => w = w0 ∧ (∀ j, j < i → okAt s.data.toList j) ∧ Fs 51 a [(0, .string s), (7, .int .i64 (s.size : Int)), (8, .int .i64 (i : Int))]) ⟨rfl, (fun j h => absurd h (by omega)), F.sub _ rfl⟩ ?_
 clear F
 rintro i a w hi ⟨hw, hok, F⟩ K' hK'
 subst hw
 refine wp_rs fun _ K4 => F.vl (x_lss (b := decide (i < s.size)) (decide_eq_decide.2 (by omega)) rfl rfl) fun a F => ?_
 refine s_end (K4 _ _ ?_)
 refine wp_seq_k fun _ K5 => ?_
 refine wp_iff F rfl (fun hc9 => ?_) (fun hc9 => ?_)
 ·
  obtain ⟨q, hq⟩ : ∃ q, s.data.toList[i]? = some q := ⟨_, List.getElem?_eq_getElem (by rw [size_list]; omega)⟩
  refine wp_skip (K5 _ _ ?_)
  refine wp_seq_k fun _ K6 => ?_
  refine wp_block ?_
  refine wp_rs fun _ K7 => F.mv rfl fun a F => F.sg rfl fun a F => ?_
  refine s_end (K7 _ _ ?_)
  refine wp_rs fun _ K8 => F.mv rfl fun a F => F.mv rfl fun a F => F.vl (x_ix rfl rfl (m_ixstr i Try.underlying9 rfl hq)) fun a F => F.sg rfl fun a F => ?_
  refine s_end (K8 _ _ ?_)
  rcases (show (97 ≤ (q.toNat : Int) ∧ (q.toNat : Int) ≤ 122) ∨ (97 ≤ (q.toNat : Int) ∧ 122 < (q.toNat : Int)) ∨ (q.toNat : Int) < 97 by omega) with hq1 | hq1 | hq1
  ·
   skip
   refine wp_rs fun _ K10 => F.mv rfl fun a F => F.vl (geqT (by omega) rfl rfl) fun a F => F.mv rfl fun a F => s_grd 16 F rfl rfl rfl <| F.mv rfl fun a F => s_grd 16 F rfl rfl rfl <| F.vl (leqT (by omega) rfl rfl) fun a F => F.vl (x_pick (b := true) rfl rfl) fun a F => F.sg rfl fun a F => ?_
   refine s_end (K10 _ _ ?_)
   rcases (show (97 ≤ (q.toNat : Int) ∧ (q.toNat : Int) ≤ 122) ∨ (¬ (97 ≤ (q.toNat : Int) ∧ (q.toNat : Int) ≤ 122) ∧ (i : Int) = 0) ∨ (¬ (97 ≤ (q.toNat : Int) ∧ (q.toNat : Int) ≤ 122) ∧ (i : Int) ≠ 0 ∧ (q.toNat : Int) < 48 ∧ (q.toNat : Int) ≠ 46) ∨ (¬ (97 ≤ (q.toNat : Int) ∧ (q.toNat : Int) ≤ 122) ∧ (i : Int) ≠ 0 ∧ (q.toNat : Int) = 46) ∨ (¬ (97 ≤ (q.toNat : Int) ∧ (q.toNat : Int) ≤ 122) ∧ (i : Int) ≠ 0 ∧ 57 < (q.toNat : Int) ∧ (q.toNat : Int) = 95) ∨ (¬ (97 ≤ (q.toNat : Int) ∧ (q.toNat : Int) ≤ 122) ∧ (i : Int) ≠ 0 ∧ 57 < (q.toNat : Int) ∧ (q.toNat : Int) ≠ 95) ∨ (¬ (97 ≤ (q.toNat : Int) ∧ (q.toNat : Int) ≤ 122) ∧ (i : Int) ≠ 0 ∧ 48 ≤ (q.toNat : Int) ∧ (q.toNat : Int) ≤ 57) by omega) with hz | hz | hz | hz | hz | hz | hz
   ·
    have hoki : okAt s.data.toList i := fun c hc => by rw [hq] at hc; cases hc; unfold letC othC; omega
    refine wp_rs fun _ K12 => F.mv rfl fun a F => F.vl (x_not rfl) fun a F => F.mv rfl fun a F => s_grdn 22 F rfl rfl (by decide) fun a F => s_grdn 22 F rfl rfl (by decide) fun a F => s_grdn 22 F rfl rfl (by decide) fun a F => s_grdu 25 F rfl rfl (by decide) fun a F => s_grdu 25 F rfl rfl (by decide) fun a F => s_grdu 25 F rfl rfl (by decide) fun a F => s_grdu 28 F rfl rfl (by decide) fun a F => s_grdu 28 F rfl rfl (by decide) fun a F => s_grdu 25 F rfl rfl (by decide) fun a F => s_grdu 25 F rfl rfl (by decide) fun a F => s_grdu 32 F rfl rfl (by decide) fun a F => s_grdu 32 F rfl rfl (by decide) fun a F => s_grdu 25 F rfl rfl (by decide) fun a F => s_grdu 25 F rfl rfl (by decide) fun a F => s_grdu 36 F rfl rfl (by decide) fun a F => s_grdu 36 F rfl rfl (by decide) fun a F => s_grdu 25 F rfl rfl (by decide) fun a F => s_grdn 22 F rfl rfl (by decide) fun a F => F.vl (x_pick (b := false) rfl rfl) fun a F => ?_
    refine s_end (K12 _ _ ?_)
    refine wp_if F rfl ?_
    refine wp_skip (K6 _ _ ?_)
    refine wp_region_lit ?_
    refine F.vl (x_addn (i + 1) (by omega) (by omega) rfl rfl) fun a F => F.mv rfl fun a F => ?_
    refine s_end (hK' _ _ (by omega) ⟨rfl, (fun j hj => by rcases Nat.lt_or_ge j i with h | h; (· exact hok j h); (· rw [show j = i by omega]; exact hoki)), F.sub _ rfl⟩)
   ·
    exfalso; omega
   ·
    exfalso; omega
   ·
    exfalso; omega
   ·
    exfalso; omega
   ·
    exfalso; omega
   ·
    exfalso; omega
  ·
   skip
   refine wp_rs fun _ K13 => F.mv rfl fun a F => F.vl (geqT (by omega) rfl rfl) fun a F => F.mv rfl fun a F => s_grd 16 F rfl rfl rfl <| F.mv rfl fun a F => s_grd 16 F rfl rfl rfl <| F.vl (leqF (by omega) rfl rfl) fun a F => F.vl (x_pick (b := true) rfl rfl) fun a F => F.sg rfl fun a F => ?_
   refine s_end (K13 _ _ ?_)
   rcases (show (97 ≤ (q.toNat : Int) ∧ (q.toNat : Int) ≤ 122) ∨ (¬ (97 ≤ (q.toNat : Int) ∧ (q.toNat : Int) ≤ 122) ∧ (i : Int) = 0) ∨ (¬ (97 ≤ (q.toNat : Int) ∧ (q.toNat : Int) ≤ 122) ∧ (i : Int) ≠ 0 ∧ (q.toNat : Int) < 48 ∧ (q.toNat : Int) ≠ 46) ∨ (¬ (97 ≤ (q.toNat : Int) ∧ (q.toNat : Int) ≤ 122) ∧ (i : Int) ≠ 0 ∧ (q.toNat : Int) = 46) ∨ (¬ (97 ≤ (q.toNat : Int) ∧ (q.toNat : Int) ≤ 122) ∧ (i : Int) ≠ 0 ∧ 57 < (q.toNat : Int) ∧ (q.toNat : Int) = 95) ∨ (¬ (97 ≤ (q.toNat : Int) ∧ (q.toNat : Int) ≤ 122) ∧ (i : Int) ≠ 0 ∧ 57 < (q.toNat : Int) ∧ (q.toNat : Int) ≠ 95) ∨ (¬ (97 ≤ (q.toNat : Int) ∧ (q.toNat : Int) ≤ 122) ∧ (i : Int) ≠ 0 ∧ 48 ≤ (q.toNat : Int) ∧ (q.toNat : Int) ≤ 57) by omega) with hz | hz | hz | hz | hz | hz | hz
   ·
    exfalso; omega
   ·
    have hbad : nameB s = false := nameB_of ⟨fun h => absurd h (by decide), fun h => by have := h.1 i q hq; unfold letC othC at this; omega⟩
    refine wp_rs fun _ K15 => F.mv rfl fun a F => F.vl (x_not rfl) fun a F => F.mv rfl fun a F => s_grd 22 F rfl rfl rfl <| F.mv rfl fun a F => s_grd 22 F rfl rfl rfl <| F.vl (eqlT (by omega) rfl rfl) fun a F => s_grd 22 F rfl rfl rfl <| F.mv rfl fun a F => s_grdn 25 F rfl rfl (by decide) fun a F => s_grdn 25 F rfl rfl (by decide) fun a F => s_grdn 25 F rfl rfl (by decide) fun a F => s_grdu 28 F rfl rfl (by decide) fun a F => s_grdu 28 F rfl rfl (by decide) fun a F => s_grdn 25 F rfl rfl (by decide) fun a F => s_grdn 25 F rfl rfl (by decide) fun a F => s_grdu 32 F rfl rfl (by decide) fun a F => s_grdu 32 F rfl rfl (by decide) fun a F => s_grdn 25 F rfl rfl (by decide) fun a F => s_grdn 25 F rfl rfl (by decide) fun a F => s_grdu 36 F rfl rfl (by decide) fun a F => s_grdu 36 F rfl rfl (by decide) fun a F => s_grdn 25 F rfl rfl (by decide) fun a F => s_grd 22 F rfl rfl rfl <| F.vl (x_pick (b := true) rfl rfl) fun a F => F.vl (x_pick (b := true) rfl rfl) fun a F => ?_
    refine s_end (K15 _ _ ?_)
    refine wp_if F rfl ?_
    refine wp_rs fun _ K16 => F.sg rfl fun a F => ?_
    refine s_end (K16 _ _ ?_)
    refine wp_ret (inb_ret (then_ret (then_ret (inb_ret (then_ret (res_slot F rfl rfl ⟨by rw [hbad], rfl⟩))))))
   ·
    have hbad : nameB s = false := nameB_of ⟨fun h => absurd h (by decide), fun h => by have := h.1 i q hq; unfold letC othC at this; omega⟩
    refine wp_rs fun _ K17 => F.mv rfl fun a F => F.vl (x_not rfl) fun a F => F.mv rfl fun a F => s_grd 22 F rfl rfl rfl <| F.mv rfl fun a F => s_grd 22 F rfl rfl rfl <| F.vl (eqlF (by omega) rfl rfl) fun a F => s_grd 22 F rfl rfl rfl <| F.mv rfl fun a F => s_grd 25 F rfl rfl rfl <| F.mv rfl fun a F => s_grd 25 F rfl rfl rfl <| F.vl (lssT (by omega) rfl rfl) fun a F => s_grd 25 F rfl rfl rfl <| F.mv rfl fun a F => s_grdn 28 F rfl rfl (by decide) fun a F => s_grdn 28 F rfl rfl (by decide) fun a F => s_grd 25 F rfl rfl rfl <| F.vl (x_pick (b := true) rfl rfl) fun a F => s_grd 25 F rfl rfl rfl <| F.mv rfl fun a F => s_grd 32 F rfl rfl rfl <| F.mv rfl fun a F => s_grd 32 F rfl rfl rfl <| F.vl (neqT (by omega) rfl rfl) fun a F => s_grd 25 F rfl rfl rfl <| F.vl (x_pick (b := true) rfl rfl) fun a F => s_grd 25 F rfl rfl rfl <| F.mv rfl fun a F => s_grd 36 F rfl rfl rfl ?_
    refine F.mv rfl fun a F => s_grd 36 F rfl rfl rfl <| F.vl (neqT (by omega) rfl rfl) fun a F => s_grd 25 F rfl rfl rfl <| F.vl (x_pick (b := true) rfl rfl) fun a F => s_grd 22 F rfl rfl rfl <| F.vl (x_pick (b := false) rfl rfl) fun a F => F.vl (x_pick (b := true) rfl rfl) fun a F => ?_
    refine s_end (K17 _ _ ?_)
    refine wp_if F rfl ?_
    refine wp_rs fun _ K18 => F.sg rfl fun a F => ?_
    refine s_end (K18 _ _ ?_)
    refine wp_ret (inb_ret (then_ret (then_ret (inb_ret (then_ret (res_slot F rfl rfl ⟨by rw [hbad], rfl⟩))))))
   ·
    have hoki : okAt s.data.toList i := fun c hc => by rw [hq] at hc; cases hc; unfold letC othC; omega
    refine wp_rs fun _ K19 => F.mv rfl fun a F => F.vl (x_not rfl) fun a F => F.mv rfl fun a F => s_grd 22 F rfl rfl rfl <| F.mv rfl fun a F => s_grd 22 F rfl rfl rfl <| F.vl (eqlF (by omega) rfl rfl) fun a F => s_grd 22 F rfl rfl rfl <| F.mv rfl fun a F => s_grd 25 F rfl rfl rfl <| F.mv rfl fun a F => s_grd 25 F rfl rfl rfl <| F.vl (lssT (by omega) rfl rfl) fun a F => s_grd 25 F rfl rfl rfl <| F.mv rfl fun a F => s_grdn 28 F rfl rfl (by decide) fun a F => s_grdn 28 F rfl rfl (by decide) fun a F => s_grd 25 F rfl rfl rfl <| F.vl (x_pick (b := true) rfl rfl) fun a F => s_grd 25 F rfl rfl rfl <| F.mv rfl fun a F => s_grd 32 F rfl rfl rfl <| F.mv rfl fun a F => s_grd 32 F rfl rfl rfl <| F.vl (neqT (by omega) rfl rfl) fun a F => s_grd 25 F rfl rfl rfl <| F.vl (x_pick (b := true) rfl rfl) fun a F => s_grd 25 F rfl rfl rfl <| F.mv rfl fun a F => s_grd 36 F rfl rfl rfl ?_
    refine F.mv rfl fun a F => s_grd 36 F rfl rfl rfl <| F.vl (neqF (by omega) rfl rfl) fun a F => s_grd 25 F rfl rfl rfl <| F.vl (x_pick (b := true) rfl rfl) fun a F => s_grd 22 F rfl rfl rfl <| F.vl (x_pick (b := false) rfl rfl) fun a F => F.vl (x_pick (b := true) rfl rfl) fun a F => ?_
    refine s_end (K19 _ _ ?_)
    refine wp_if F rfl ?_
    refine wp_skip (K6 _ _ ?_)
    refine wp_region_lit ?_
    refine F.vl (x_addn (i + 1) (by omega) (by omega) rfl rfl) fun a F => F.mv rfl fun a F => ?_
    refine s_end (hK' _ _ (by omega) ⟨rfl, (fun j hj => by rcases Nat.lt_or_ge j i with h | h; (· exact hok j h); (· rw [show j = i by omega]; exact hoki)), F.sub _ rfl⟩)
   ·
    have hoki : okAt s.data.toList i := fun c hc => by rw [hq] at hc; cases hc; unfold letC othC; omega
    refine wp_rs fun _ K20 => F.mv rfl fun a F => F.vl (x_not rfl) fun a F => F.mv rfl fun a F => s_grd 22 F rfl rfl rfl <| F.mv rfl fun a F => s_grd 22 F rfl rfl rfl <| F.vl (eqlF (by omega) rfl rfl) fun a F => s_grd 22 F rfl rfl rfl <| F.mv rfl fun a F => s_grd 25 F rfl rfl rfl <| F.mv rfl fun a F => s_grd 25 F rfl rfl rfl <| F.vl (lssF (by omega) rfl rfl) fun a F => s_grd 25 F rfl rfl rfl <| F.mv rfl fun a F => s_grd 28 F rfl rfl rfl <| F.mv rfl fun a F => s_grd 28 F rfl rfl rfl <| F.vl (gtrT (by omega) rfl rfl) fun a F => s_grd 25 F rfl rfl rfl <| F.vl (x_pick (b := false) rfl rfl) fun a F => s_grd 25 F rfl rfl rfl <| F.mv rfl fun a F => s_grd 32 F rfl rfl rfl <| F.mv rfl fun a F => s_grd 32 F rfl rfl rfl <| F.vl (neqF (by omega) rfl rfl) fun a F => s_grd 25 F rfl rfl rfl <| F.vl (x_pick (b := true) rfl rfl) fun a F => s_grd 25 F rfl rfl rfl ?_
    refine F.mv rfl fun a F => s_grdn 36 F rfl rfl (by decide) fun a F => s_grdn 36 F rfl rfl (by decide) fun a F => s_grd 25 F rfl rfl rfl <| F.vl (x_pick (b := false) rfl rfl) fun a F => s_grd 22 F rfl rfl rfl <| F.vl (x_pick (b := false) rfl rfl) fun a F => F.vl (x_pick (b := true) rfl rfl) fun a F => ?_
    refine s_end (K20 _ _ ?_)
    refine wp_if F rfl ?_
    refine wp_skip (K6 _ _ ?_)
    refine wp_region_lit ?_
    refine F.vl (x_addn (i + 1) (by omega) (by omega) rfl rfl) fun a F => F.mv rfl fun a F => ?_
    refine s_end (hK' _ _ (by omega) ⟨rfl, (fun j hj => by rcases Nat.lt_or_ge j i with h | h; (· exact hok j h); (· rw [show j = i by omega]; exact hoki)), F.sub _ rfl⟩)
   ·
    have hbad : nameB s = false := nameB_of ⟨fun h => absurd h (by decide), fun h => by have := h.1 i q hq; unfold letC othC at this; omega⟩
    refine wp_rs fun _ K21 => F.mv rfl fun a F => F.vl (x_not rfl) fun a F => F.mv rfl fun a F => s_grd 22 F rfl rfl rfl <| F.mv rfl fun a F => s_grd 22 F rfl rfl rfl <| F.vl (eqlF (by omega) rfl rfl) fun a F => s_grd 22 F rfl rfl rfl <| F.mv rfl fun a F => s_grd 25 F rfl rfl rfl <| F.mv rfl fun a F => s_grd 25 F rfl rfl rfl <| F.vl (lssF (by omega) rfl rfl) fun a F => s_grd 25 F rfl rfl rfl <| F.mv rfl fun a F => s_grd 28 F rfl rfl rfl <| F.mv rfl fun a F => s_grd 28 F rfl rfl rfl <| F.vl (gtrT (by omega) rfl rfl) fun a F => s_grd 25 F rfl rfl rfl <| F.vl (x_pick (b := false) rfl rfl) fun a F => s_grd 25 F rfl rfl rfl <| F.mv rfl fun a F => s_grd 32 F rfl rfl rfl <| F.mv rfl fun a F => s_grd 32 F rfl rfl rfl <| F.vl (neqT (by omega) rfl rfl) fun a F => s_grd 25 F rfl rfl rfl <| F.vl (x_pick (b := true) rfl rfl) fun a F => s_grd 25 F rfl rfl rfl ?_
    refine F.mv rfl fun a F => s_grd 36 F rfl rfl rfl <| F.mv rfl fun a F => s_grd 36 F rfl rfl rfl <| F.vl (neqT (by omega) rfl rfl) fun a F => s_grd 25 F rfl rfl rfl <| F.vl (x_pick (b := true) rfl rfl) fun a F => s_grd 22 F rfl rfl rfl <| F.vl (x_pick (b := false) rfl rfl) fun a F => F.vl (x_pick (b := true) rfl rfl) fun a F => ?_
    refine s_end (K21 _ _ ?_)
    refine wp_if F rfl ?_
    refine wp_rs fun _ K22 => F.sg rfl fun a F => ?_
    refine s_end (K22 _ _ ?_)
    refine wp_ret (inb_ret (then_ret (then_ret (inb_ret (then_ret (res_slot F rfl rfl ⟨by rw [hbad], rfl⟩))))))
   ·
    have hoki : okAt s.data.toList i := fun c hc => by rw [hq] at hc; cases hc; unfold letC othC; omega
    refine wp_rs fun _ K23 => F.mv rfl fun a F => F.vl (x_not rfl) fun a F => F.mv rfl fun a F => s_grd 22 F rfl rfl rfl <| F.mv rfl fun a F => s_grd 22 F rfl rfl rfl <| F.vl (eqlF (by omega) rfl rfl) fun a F => s_grd 22 F rfl rfl rfl <| F.mv rfl fun a F => s_grd 25 F rfl rfl rfl <| F.mv rfl fun a F => s_grd 25 F rfl rfl rfl <| F.vl (lssF (by omega) rfl rfl) fun a F => s_grd 25 F rfl rfl rfl <| F.mv rfl fun a F => s_grd 28 F rfl rfl rfl <| F.mv rfl fun a F => s_grd 28 F rfl rfl rfl <| F.vl (gtrF (by omega) rfl rfl) fun a F => s_grd 25 F rfl rfl rfl <| F.vl (x_pick (b := false) rfl rfl) fun a F => s_grd 25 F rfl rfl rfl <| F.mv rfl fun a F => s_grdn 32 F rfl rfl (by decide) fun a F => s_grdn 32 F rfl rfl (by decide) fun a F => s_grd 25 F rfl rfl rfl <| F.vl (x_pick (b := false) rfl rfl) fun a F => s_grd 25 F rfl rfl rfl <| F.mv rfl fun a F => s_grdn 36 F rfl rfl (by decide) fun a F => ?_
    refine s_grdn 36 F rfl rfl (by decide) fun a F => s_grd 25 F rfl rfl rfl <| F.vl (x_pick (b := false) rfl rfl) fun a F => s_grd 22 F rfl rfl rfl <| F.vl (x_pick (b := false) rfl rfl) fun a F => F.vl (x_pick (b := true) rfl rfl) fun a F => ?_
    refine s_end (K23 _ _ ?_)
    refine wp_if F rfl ?_
    refine wp_skip (K6 _ _ ?_)
    refine wp_region_lit ?_
    refine F.vl (x_addn (i + 1) (by omega) (by omega) rfl rfl) fun a F => F.mv rfl fun a F => ?_
    refine s_end (hK' _ _ (by omega) ⟨rfl, (fun j hj => by rcases Nat.lt_or_ge j i with h | h; (· exact hok j h); (· rw [show j = i by omega]; exact hoki)), F.sub _ rfl⟩)
  ·
   skip
   refine wp_rs fun _ K24 => F.mv rfl fun a F => F.vl (geqF (by omega) rfl rfl) fun a F => F.mv rfl fun a F => s_grdn 16 F rfl rfl (by decide) fun a F => s_grdn 16 F rfl rfl (by decide) fun a F => F.vl (x_pick (b := false) rfl rfl) fun a F => F.sg rfl fun a F => ?_
   refine s_end (K24 _ _ ?_)
   rcases (show (97 ≤ (q.toNat : Int) ∧ (q.toNat : Int) ≤ 122) ∨ (¬ (97 ≤ (q.toNat : Int) ∧ (q.toNat : Int) ≤ 122) ∧ (i : Int) = 0) ∨ (¬ (97 ≤ (q.toNat : Int) ∧ (q.toNat : Int) ≤ 122) ∧ (i : Int) ≠ 0 ∧ (q.toNat : Int) < 48 ∧ (q.toNat : Int) ≠ 46) ∨ (¬ (97 ≤ (q.toNat : Int) ∧ (q.toNat : Int) ≤ 122) ∧ (i : Int) ≠ 0 ∧ (q.toNat : Int) = 46) ∨ (¬ (97 ≤ (q.toNat : Int) ∧ (q.toNat : Int) ≤ 122) ∧ (i : Int) ≠ 0 ∧ 57 < (q.toNat : Int) ∧ (q.toNat : Int) = 95) ∨ (¬ (97 ≤ (q.toNat : Int) ∧ (q.toNat : Int) ≤ 122) ∧ (i : Int) ≠ 0 ∧ 57 < (q.toNat : Int) ∧ (q.toNat : Int) ≠ 95) ∨ (¬ (97 ≤ (q.toNat : Int) ∧ (q.toNat : Int) ≤ 122) ∧ (i : Int) ≠ 0 ∧ 48 ≤ (q.toNat : Int) ∧ (q.toNat : Int) ≤ 57) by omega) with hz | hz | hz | hz | hz | hz | hz
   ·
    exfalso; omega
   ·
    have hbad : nameB s = false := nameB_of ⟨fun h => absurd h (by decide), fun h => by have := h.1 i q hq; unfold letC othC at this; omega⟩
    refine wp_rs fun _ K26 => F.mv rfl fun a F => F.vl (x_not rfl) fun a F => F.mv rfl fun a F => s_grd 22 F rfl rfl rfl <| F.mv rfl fun a F => s_grd 22 F rfl rfl rfl <| F.vl (eqlT (by omega) rfl rfl) fun a F => s_grd 22 F rfl rfl rfl <| F.mv rfl fun a F => s_grdn 25 F rfl rfl (by decide) fun a F => s_grdn 25 F rfl rfl (by decide) fun a F => s_grdn 25 F rfl rfl (by decide) fun a F => s_grdu 28 F rfl rfl (by decide) fun a F => s_grdu 28 F rfl rfl (by decide) fun a F => s_grdn 25 F rfl rfl (by decide) fun a F => s_grdn 25 F rfl rfl (by decide) fun a F => s_grdu 32 F rfl rfl (by decide) fun a F => s_grdu 32 F rfl rfl (by decide) fun a F => s_grdn 25 F rfl rfl (by decide) fun a F => s_grdn 25 F rfl rfl (by decide) fun a F => s_grdu 36 F rfl rfl (by decide) fun a F => s_grdu 36 F rfl rfl (by decide) fun a F => s_grdn 25 F rfl rfl (by decide) fun a F => s_grd 22 F rfl rfl rfl <| F.vl (x_pick (b := true) rfl rfl) fun a F => F.vl (x_pick (b := true) rfl rfl) fun a F => ?_
    refine s_end (K26 _ _ ?_)
    refine wp_if F rfl ?_
    refine wp_rs fun _ K27 => F.sg rfl fun a F => ?_
    refine s_end (K27 _ _ ?_)
    refine wp_ret (inb_ret (then_ret (then_ret (inb_ret (then_ret (res_slot F rfl rfl ⟨by rw [hbad], rfl⟩))))))
   ·
    have hbad : nameB s = false := nameB_of ⟨fun h => absurd h (by decide), fun h => by have := h.1 i q hq; unfold letC othC at this; omega⟩
    refine wp_rs fun _ K28 => F.mv rfl fun a F => F.vl (x_not rfl) fun a F => F.mv rfl fun a F => s_grd 22 F rfl rfl rfl <| F.mv rfl fun a F => s_grd 22 F rfl rfl rfl <| F.vl (eqlF (by omega) rfl rfl) fun a F => s_grd 22 F rfl rfl rfl <| F.mv rfl fun a F => s_grd 25 F rfl rfl rfl <| F.mv rfl fun a F => s_grd 25 F rfl rfl rfl <| F.vl (lssT (by omega) rfl rfl) fun a F => s_grd 25 F rfl rfl rfl <| F.mv rfl fun a F => s_grdn 28 F rfl rfl (by decide) fun a F => s_grdn 28 F rfl rfl (by decide) fun a F => s_grd 25 F rfl rfl rfl <| F.vl (x_pick (b := true) rfl rfl) fun a F => s_grd 25 F rfl rfl rfl <| F.mv rfl fun a F => s_grd 32 F rfl rfl rfl <| F.mv rfl fun a F => s_grd 32 F rfl rfl rfl <| F.vl (neqT (by omega) rfl rfl) fun a F => s_grd 25 F rfl rfl rfl <| F.vl (x_pick (b := true) rfl rfl) fun a F => s_grd 25 F rfl rfl rfl <| F.mv rfl fun a F => s_grd 36 F rfl rfl rfl ?_
    refine F.mv rfl fun a F => s_grd 36 F rfl rfl rfl <| F.vl (neqT (by omega) rfl rfl) fun a F => s_grd 25 F rfl rfl rfl <| F.vl (x_pick (b := true) rfl rfl) fun a F => s_grd 22 F rfl rfl rfl <| F.vl (x_pick (b := false) rfl rfl) fun a F => F.vl (x_pick (b := true) rfl rfl) fun a F => ?_
    refine s_end (K28 _ _ ?_)
    refine wp_if F rfl ?_
    refine wp_rs fun _ K29 => F.sg rfl fun a F => ?_
    refine s_end (K29 _ _ ?_)
    refine wp_ret (inb_ret (then_ret (then_ret (inb_ret (then_ret (res_slot F rfl rfl ⟨by rw [hbad], rfl⟩))))))
   ·
    have hoki : okAt s.data.toList i := fun c hc => by rw [hq] at hc; cases hc; unfold letC othC; omega
    refine wp_rs fun _ K30 => F.mv rfl fun a F => F.vl (x_not rfl) fun a F => F.mv rfl fun a F => s_grd 22 F rfl rfl rfl <| F.mv rfl fun a F => s_grd 22 F rfl rfl rfl <| F.vl (eqlF (by omega) rfl rfl) fun a F => s_grd 22 F rfl rfl rfl <| F.mv rfl fun a F => s_grd 25 F rfl rfl rfl <| F.mv rfl fun a F => s_grd 25 F rfl rfl rfl <| F.vl (lssT (by omega) rfl rfl) fun a F => s_grd 25 F rfl rfl rfl <| F.mv rfl fun a F => s_grdn 28 F rfl rfl (by decide) fun a F => s_grdn 28 F rfl rfl (by decide) fun a F => s_grd 25 F rfl rfl rfl <| F.vl (x_pick (b := true) rfl rfl) fun a F => s_grd 25 F rfl rfl rfl <| F.mv rfl fun a F => s_grd 32 F rfl rfl rfl <| F.mv rfl fun a F => s_grd 32 F rfl rfl rfl <| F.vl (neqT (by omega) rfl rfl) fun a F => s_grd 25 F rfl rfl rfl <| F.vl (x_pick (b := true) rfl rfl) fun a F => s_grd 25 F rfl rfl rfl <| F.mv rfl fun a F => s_grd 36 F rfl rfl rfl ?_
    refine F.mv rfl fun a F => s_grd 36 F rfl rfl rfl <| F.vl (neqF (by omega) rfl rfl) fun a F => s_grd 25 F rfl rfl rfl <| F.vl (x_pick (b := true) rfl rfl) fun a F => s_grd 22 F rfl rfl rfl <| F.vl (x_pick (b := false) rfl rfl) fun a F => F.vl (x_pick (b := true) rfl rfl) fun a F => ?_
    refine s_end (K30 _ _ ?_)
    refine wp_if F rfl ?_
    refine wp_skip (K6 _ _ ?_)
    refine wp_region_lit ?_
    refine F.vl (x_addn (i + 1) (by omega) (by omega) rfl rfl) fun a F => F.mv rfl fun a F => ?_
    refine s_end (hK' _ _ (by omega) ⟨rfl, (fun j hj => by rcases Nat.lt_or_ge j i with h | h; (· exact hok j h); (· rw [show j = i by omega]; exact hoki)), F.sub _ rfl⟩)
   ·
    have hoki : okAt s.data.toList i := fun c hc => by rw [hq] at hc; cases hc; unfold letC othC; omega
    refine wp_rs fun _ K31 => F.mv rfl fun a F => F.vl (x_not rfl) fun a F => F.mv rfl fun a F => s_grd 22 F rfl rfl rfl <| F.mv rfl fun a F => s_grd 22 F rfl rfl rfl <| F.vl (eqlF (by omega) rfl rfl) fun a F => s_grd 22 F rfl rfl rfl <| F.mv rfl fun a F => s_grd 25 F rfl rfl rfl <| F.mv rfl fun a F => s_grd 25 F rfl rfl rfl <| F.vl (lssF (by omega) rfl rfl) fun a F => s_grd 25 F rfl rfl rfl <| F.mv rfl fun a F => s_grd 28 F rfl rfl rfl <| F.mv rfl fun a F => s_grd 28 F rfl rfl rfl <| F.vl (gtrT (by omega) rfl rfl) fun a F => s_grd 25 F rfl rfl rfl <| F.vl (x_pick (b := false) rfl rfl) fun a F => s_grd 25 F rfl rfl rfl <| F.mv rfl fun a F => s_grd 32 F rfl rfl rfl <| F.mv rfl fun a F => s_grd 32 F rfl rfl rfl <| F.vl (neqF (by omega) rfl rfl) fun a F => s_grd 25 F rfl rfl rfl <| F.vl (x_pick (b := true) rfl rfl) fun a F => s_grd 25 F rfl rfl rfl ?_
    refine F.mv rfl fun a F => s_grdn 36 F rfl rfl (by decide) fun a F => s_grdn 36 F rfl rfl (by decide) fun a F => s_grd 25 F rfl rfl rfl <| F.vl (x_pick (b := false) rfl rfl) fun a F => s_grd 22 F rfl rfl rfl <| F.vl (x_pick (b := false) rfl rfl) fun a F => F.vl (x_pick (b := true) rfl rfl) fun a F => ?_
    refine s_end (K31 _ _ ?_)
    refine wp_if F rfl ?_
    refine wp_skip (K6 _ _ ?_)
    refine wp_region_lit ?_
    refine F.vl (x_addn (i + 1) (by omega) (by omega) rfl rfl) fun a F => F.mv rfl fun a F => ?_
    refine s_end (hK' _ _ (by omega) ⟨rfl, (fun j hj => by rcases Nat.lt_or_ge j i with h | h; (· exact hok j h); (· rw [show j = i by omega]; exact hoki)), F.sub _ rfl⟩)
   ·
    have hbad : nameB s = false := nameB_of ⟨fun h => absurd h (by decide), fun h => by have := h.1 i q hq; unfold letC othC at this; omega⟩
    refine wp_rs fun _ K32 => F.mv rfl fun a F => F.vl (x_not rfl) fun a F => F.mv rfl fun a F => s_grd 22 F rfl rfl rfl <| F.mv rfl fun a F => s_grd 22 F rfl rfl rfl <| F.vl (eqlF (by omega) rfl rfl) fun a F => s_grd 22 F rfl rfl rfl <| F.mv rfl fun a F => s_grd 25 F rfl rfl rfl <| F.mv rfl fun a F => s_grd 25 F rfl rfl rfl <| F.vl (lssF (by omega) rfl rfl) fun a F => s_grd 25 F rfl rfl rfl <| F.mv rfl fun a F => s_grd 28 F rfl rfl rfl <| F.mv rfl fun a F => s_grd 28 F rfl rfl rfl <| F.vl (gtrT (by omega) rfl rfl) fun a F => s_grd 25 F rfl rfl rfl <| F.vl (x_pick (b := false) rfl rfl) fun a F => s_grd 25 F rfl rfl rfl <| F.mv rfl fun a F => s_grd 32 F rfl rfl rfl <| F.mv rfl fun a F => s_grd 32 F rfl rfl rfl <| F.vl (neqT (by omega) rfl rfl) fun a F => s_grd 25 F rfl rfl rfl <| F.vl (x_pick (b := true) rfl rfl) fun a F => s_grd 25 F rfl rfl rfl ?_
    refine F.mv rfl fun a F => s_grd 36 F rfl rfl rfl <| F.mv rfl fun a F => s_grd 36 F rfl rfl rfl <| F.vl (neqT (by omega) rfl rfl) fun a F => s_grd 25 F rfl rfl rfl <| F.vl (x_pick (b := true) rfl rfl) fun a F => s_grd 22 F rfl rfl rfl <| F.vl (x_pick (b := false) rfl rfl) fun a F => F.vl (x_pick (b := true) rfl rfl) fun a F => ?_
    refine s_end (K32 _ _ ?_)
    refine wp_if F rfl ?_
    refine wp_rs fun _ K33 => F.sg rfl fun a F => ?_
    refine s_end (K33 _ _ ?_)
    refine wp_ret (inb_ret (then_ret (then_ret (inb_ret (then_ret (res_slot F rfl rfl ⟨by rw [hbad], rfl⟩))))))
   ·
    have hoki : okAt s.data.toList i := fun c hc => by rw [hq] at hc; cases hc; unfold letC othC; omega
    refine wp_rs fun _ K34 => F.mv rfl fun a F => F.vl (x_not rfl) fun a F => F.mv rfl fun a F => s_grd 22 F rfl rfl rfl <| F.mv rfl fun a F => s_grd 22 F rfl rfl rfl <| F.vl (eqlF (by omega) rfl rfl) fun a F => s_grd 22 F rfl rfl rfl <| F.mv rfl fun a F => s_grd 25 F rfl rfl rfl <| F.mv rfl fun a F => s_grd 25 F rfl rfl rfl <| F.vl (lssF (by omega) rfl rfl) fun a F => s_grd 25 F rfl rfl rfl <| F.mv rfl fun a F => s_grd 28 F rfl rfl rfl <| F.mv rfl fun a F => s_grd 28 F rfl rfl rfl <| F.vl (gtrF (by omega) rfl rfl) fun a F => s_grd 25 F rfl rfl rfl <| F.vl (x_pick (b := false) rfl rfl) fun a F => s_grd 25 F rfl rfl rfl <| F.mv rfl fun a F => s_grdn 32 F rfl rfl (by decide) fun a F => s_grdn 32 F rfl rfl (by decide) fun a F => s_grd 25 F rfl rfl rfl <| F.vl (x_pick (b := false) rfl rfl) fun a F => s_grd 25 F rfl rfl rfl <| F.mv rfl fun a F => s_grdn 36 F rfl rfl (by decide) fun a F => ?_
    refine s_grdn 36 F rfl rfl (by decide) fun a F => s_grd 25 F rfl rfl rfl <| F.vl (x_pick (b := false) rfl rfl) fun a F => s_grd 22 F rfl rfl rfl <| F.vl (x_pick (b := false) rfl rfl) fun a F => F.vl (x_pick (b := true) rfl rfl) fun a F => ?_
    refine s_end (K34 _ _ ?_)
    refine wp_if F rfl ?_
    refine wp_skip (K6 _ _ ?_)
    refine wp_region_lit ?_
    refine F.vl (x_addn (i + 1) (by omega) (by omega) rfl rfl) fun a F => F.mv rfl fun a F => ?_
    refine s_end (hK' _ _ (by omega) ⟨rfl, (fun j hj => by rcases Nat.lt_or_ge j i with h | h; (· exact hok j h); (· rw [show j = i by omega]; exact hoki)), F.sub _ rfl⟩)
 ·
  obtain rfl : i = s.size := by omega
  have hall : ∀ j, okAt s.data.toList j := fun j c hc => by have hj := (List.getElem?_eq_some_iff.1 hc).1; rw [size_list] at hj; exact hok j hj c hc
  refine wp_exit (K2 _ _ ?_)
  rcases (show 1 ≤ (s.size : Int) ∧ (s.size : Int) ≤ 32 ∨ (1 ≤ (s.size : Int) ∧ ¬ (s.size : Int) ≤ 32) ∨ ¬ 1 ≤ (s.size : Int) by omega) with hz | hz | hz
  ·
   have hres : nameB s = true := nameB_of ⟨fun _ => ⟨hall, by rw [size_list]; omega, by rw [size_list]; omega⟩, fun _ => rfl⟩
   refine wp_rs fun _ K36 => F.mv rfl fun a F => F.vl (x_lenS Try.underlying9 rfl) fun a F => F.vl (geqT (by omega) rfl rfl) fun a F => F.mv rfl fun a F => s_grd 46 F rfl rfl rfl <| F.mv rfl fun a F => s_grd 46 F rfl rfl rfl <| F.vl (x_lenS Try.underlying9 rfl) fun a F => s_grd 46 F rfl rfl rfl <| F.vl (leqT (by omega) rfl rfl) fun a F => F.vl (x_pick (b := true) rfl rfl) fun a F => F.sg rfl fun a F => ?_
   refine s_end (K36 _ _ ?_)
   refine wp_ret (res_slot F rfl rfl ⟨by rw [hres], rfl⟩)
  ·
   have hres : nameB s = false := nameB_of ⟨fun h => absurd h (by decide), fun h => by have h1 := h.2.1; have h2 := h.2.2; rw [size_list] at h1 h2; omega⟩
   refine wp_rs fun _ K37 => F.mv rfl fun a F => F.vl (x_lenS Try.underlying9 rfl) fun a F => F.vl (geqT (by omega) rfl rfl) fun a F => F.mv rfl fun a F => s_grd 46 F rfl rfl rfl <| F.mv rfl fun a F => s_grd 46 F rfl rfl rfl <| F.vl (x_lenS Try.underlying9 rfl) fun a F => s_grd 46 F rfl rfl rfl <| F.vl (leqF (by omega) rfl rfl) fun a F => F.vl (x_pick (b := true) rfl rfl) fun a F => F.sg rfl fun a F => ?_
   refine s_end (K37 _ _ ?_)
   refine wp_ret (res_slot F rfl rfl ⟨by rw [hres], rfl⟩)
  ·
   have hres : nameB s = false := nameB_of ⟨fun h => absurd h (by decide), fun h => by have h1 := h.2.1; have h2 := h.2.2; rw [size_list] at h1 h2; omega⟩
   refine wp_rs fun _ K38 => F.mv rfl fun a F => F.vl (x_lenS Try.underlying9 rfl) fun a F => F.vl (geqF (by omega) rfl rfl) fun a F => F.mv rfl fun a F => s_grdn 46 F rfl rfl (by decide) fun a F => s_grdn 46 F rfl rfl (by decide) fun a F => s_grdn 46 F rfl rfl (by decide) fun a F => F.vl (x_pick (b := false) rfl rfl) fun a F => F.sg rfl fun a F => ?_
   refine s_end (K38 _ _ ?_)
   refine wp_ret (res_slot F rfl rfl ⟨by rw [hres], rfl⟩)
end Go.Proofs.Ytmkjhdiepkpdoaa

namespace Go.Proofs.Ytmkjhdiepkpdoaa
set_option maxRecDepth 100000
set_option maxHeartbeats 1600000
open Go.RowKit Go.Shelf
set_option linter.unusedVariables false
set_option linter.unusedSimpArgs false
theorem mayK_at {vars d : Int} {ks : List CT} {i n : Nat} {k : CT} (h : ks[i]? = some k) : mayK vars (ks.drop i) d n = if (k.mayT vars d n).1 ≠ 0 then k.mayT vars d n else mayK vars (ks.drop (i + 1)) d (k.mayT vars d n).2 := by
 have hi : i < ks.length := (List.getElem?_eq_some_iff.1 h).1
 have : ks[i] = k := (List.getElem?_eq_some_iff.1 h).2
 rw [← List.getElem_cons_drop hi, this, mayK]
theorem fstErr_at {vars : Int} {ls : List Lv} {i : Nat} {l : Lv} (h : ls[i]? = some l) : fstErr vars (ls.drop i) = if (chk 32 1048576 vars 1 100 l).1 ≠ 0 then (chk 32 1048576 vars 1 100 l).1 else fstErr vars (ls.drop (i + 1)) := by
 have hi : i < ls.length := (List.getElem?_eq_some_iff.1 h).1
 have : ls[i] = l := (List.getElem?_eq_some_iff.1 h).2
 rw [← List.getElem_cons_drop hi, this, fstErr]
theorem CT.kids_arT2 {W : World} {A : Nat → Prop} {c : CT} {x : C8} (h : RC W A c x) (h2 : ¬ (arT c.kd < 0 ∨ (c.len : Int) ≠ arT c.kd)) : c.kids.length = c.len := by
 rcases CT.kids_arT h with h3 | h3 <;> omega
theorem rmay73 (vars : Int) (w0 : World) (g : Nat) (hg : w0.heap.size ≤ g) : ∀ (N : Nat) (c : CT) (x : C8), c.size < N → RC w0 (fun k => k < w0.heap.size) c x → c.fit → ∀ (d : Int) (n : Nat) (w1 : World), 0 ≤ d → d ≤ 65 → n ≤ 400 → Below w0.heap.size w0 w1 → Blk w1 g 3 [.int .i64 (n : Int)] →
    Calls Try.prog 116 #[tv x, .int .i64 vars, .int .i64 d, .pointer (some ⟨g, 0, none⟩)] w1 fun e w' => ∃ u, e = .returned u ∧ (u = .int .i64 (c.mayT vars d n).1 ∧ Blk w' g 3 [.int .i64 (((c.mayT vars d n).2 : Nat) : Int)]) ∧ Ktw g g w1 w' := by
  intro N
  induction N with
  | zero => intro s x h; omega
  | succ N ih =>
  intro c x hN hx hfit d n w1 hd0 hd1 hn hB mg
  have hK := Ktw.refl g g w1
  have sB := hB.size
  have sK := hK.size
  have hgl := mg.lt
  have heq := mayT_eq vars c d n
  have hrg := arT_rng c.kd
  obtain ⟨av, nv, cv, hts, hle9, hlen9, hcap, hkid⟩ := hx.kids
  obtain ⟨xk, xn, xs, xl, xls, xts⟩ := x
  simp only at hts
  subst hts
  have hkd : xk = c.kd := hx.kd
  have hone := hx.one
  obtain ⟨KC, hKC⟩ : ∃ KC, KC = c.kids := ⟨_, rfl⟩
  rw [← hKC] at heq hkid hle9 hcap
  refine calls_fs 108 [(0, tv ⟨xk, xn, xs, xl, xls, .slice av nv cv⟩), (1, .int .i64 vars), (2, .int .i64 d), (3, .pointer (some ⟨g, 0, none⟩))] Try.func116 rfl rfl rfl rfl rfl fun a F => ?_
  refine wp_rs fun _ K1 => ?_
  refine s_box ([.int .i64 xk, .int .i64 xn, .string xs, .int .i64 xl.1, .int .i64 xl.2.1, xl.2.2, xls, .slice av nv cv]) F (by decide) rfl rfl fun w2 b4 a eb4 m4 B3 zb4 F => ?_
  have sB3 := B3.size
  have hB := bt hB B3
  have hK := hK.below B3
  have mg := mg.old B3
  refine F.sg rfl fun a F => ?_
  refine s_end (K1 _ _ ?_)
  refine wp_rs fun _ K2 => F.mv rfl fun a F => F.vl (x_nil rfl) fun a F => F.ld mg flat3 rfl rfl fun a F => F.vl (x_addn (n + 1) (by omega) (by omega) rfl rfl) fun a F => F.vl (x_nil rfl) fun a F => ?_
  refine s_put F rfl rfl flat3 mg (by first | (simp; done) | (simp [tc, lc]; done) | decide) rfl fun w4 mg o5 => ?_
  have so5 := o5.size
  have hB := hB.trans (o5.below (by omega))
  have hK := hK.only o5 (by omega)
  have m4 := m4.only o5 (by omega)
  refine s_end (K2 _ _ ?_)
  refine wp_seq_k fun _ K3 => ?_
  refine wp_block ?_
  rcases (show 64 < d ∨ (¬ 64 < d ∧ 400 < ((n + 1 : Nat) : Int)) ∨ (¬ 64 < d ∧ ¬ 400 < ((n + 1 : Nat) : Int)) by omega) with hz | hz | hz
  · have hpre : nodeErr vars d (n + 1) c = 2 := nodeErr_two (by omega)
    rw [hpre, if_pos (by decide)] at heq
    refine wp_rs fun _ K5 => F.mv rfl fun a F => F.vl (gtrT (by omega) rfl rfl) fun a F => F.mv rfl fun a F => s_grdn 23 F rfl rfl (by decide) fun a F => s_grdn 23 F rfl rfl (by decide) fun a F => s_grdn 23 F rfl rfl (by decide) fun a F => s_grdn 23 F rfl rfl (by decide) fun a F => F.vl (x_pick (b := true) rfl rfl) fun a F => F.sg rfl fun a F => ?_
    refine s_end (K5 _ _ ?_)
    refine wp_if F rfl ?_
    refine wp_rs fun _ K6 => F.sg rfl fun a F => ?_
    refine s_end (K6 _ _ ?_)
    refine wp_ret (inb_ret (then_ret (res_slot F rfl rfl ⟨_, rfl, ⟨by rw [heq], by rw [heq]; exact mg⟩, hK⟩)))
  · have hpre : nodeErr vars d (n + 1) c = 2 := nodeErr_two (by omega)
    rw [hpre, if_pos (by decide)] at heq
    refine wp_rs fun _ K7 => F.mv rfl fun a F => F.vl (gtrF (by omega) rfl rfl) fun a F => F.mv rfl fun a F => s_grd 23 F rfl rfl rfl <| F.mv rfl fun a F => s_grd 23 F rfl rfl rfl <| F.vl (x_nil rfl) fun a F => s_grd 23 F rfl rfl rfl <| F.ld mg flat3 rfl rfl fun a F => s_grd 23 F rfl rfl rfl <| F.vl (gtrT (by omega) rfl rfl) fun a F => F.vl (x_pick (b := false) rfl rfl) fun a F => F.sg rfl fun a F => ?_
    refine s_end (K7 _ _ ?_)
    refine wp_if F rfl ?_
    refine wp_rs fun _ K8 => F.sg rfl fun a F => ?_
    refine s_end (K8 _ _ ?_)
    refine wp_ret (inb_ret (then_ret (res_slot F rfl rfl ⟨_, rfl, ⟨by rw [heq], by rw [heq]; exact mg⟩, hK⟩)))
  · skip
    refine wp_rs fun _ K9 => F.mv rfl fun a F => F.vl (gtrF (by omega) rfl rfl) fun a F => F.mv rfl fun a F => s_grd 23 F rfl rfl rfl <| F.mv rfl fun a F => s_grd 23 F rfl rfl rfl <| F.vl (x_nil rfl) fun a F => s_grd 23 F rfl rfl rfl <| F.ld mg flat3 rfl rfl fun a F => s_grd 23 F rfl rfl rfl <| F.vl (gtrF (by omega) rfl rfl) fun a F => F.vl (x_pick (b := false) rfl rfl) fun a F => F.sg rfl fun a F => ?_
    refine s_end (K9 _ _ ?_)
    refine wp_if F rfl ?_
    rcases (show arT c.kd < 0 ∨ (¬ arT c.kd < 0 ∧ (nv : Int) ≠ arT c.kd) ∨ (¬ arT c.kd < 0 ∧ (nv : Int) = arT c.kd) by omega) with hy | hy | hy
    · have hpre : nodeErr vars d (n + 1) c = 1 := nodeErr_one (by omega) (by omega)
      rw [hpre, if_pos (by decide)] at heq
      refine dk2_seq (w4.heap.size) (w4.heap.size) (ops := regOps Try.f116 4) (N := 14) (by kernel_rfl) wide_orders (by kernel_rfl) fun w6 hw6 B7 hS K11 hK11 => ?_
      have zw6 : w6.heap.size = w4.heap.size := by rw [hw6]
      have sB7 := B7.size
      have hB := bt hB B7
      have hK := hK.below B7
      have mg := mg.old B7
      have m4 := m4.old B7
      have mg_d := mg
      have m4_d := m4
      have hB_d := hB
      have hK_d := hK
      refine F.dv 0 30 (.fieldAddr 27 (.tmp 4) 0) hS (fun W hW => x_fa0 fa27_0 rfl) fun a F => F.dv 1 31 (.load 3 (.tmp 30)) hS (fun W hW => x_load rfl (m_load flat3 ((m4_d.k2 hW (by omega)).cell (j := 0) rfl))) fun a F => ?_
      refine d1 2 (some 32) (.call (.mk (.value (.func 82)) #[(.tmp 31)] #[3])) fun ty pos af => ?_
      refine s_callS [_] F E82 rfl (by decide) ((kids54 xk w6).mono fun e w' h => ⟨(by rw [h.1, hkd] : e = .returned (.int .i64 (arT c.kd))), h.2⟩) fun a F => ?_
      refine s_end ⟨hS, ?_⟩
      refine F.dv 3 33 (.binOp .lss 3 (.tmp 32) (.const (.int .i64 0)) 3) hS (fun W hW => lssT (by omega) rfl rfl) fun a F => F.dv 4 34 (.move (.tmp 33)) hS (fun W hW => x_move rfl) fun a F => d_skip 5 35 34 (j := 4) (want := false) (op := (.fieldAddr 27 (.tmp 4) 5)) F hS (by kernel_rfl) (by kernel_rfl) rfl (by kernel_rfl) (by decide) fun a F => d_skip 6 36 34 (j := 4) (want := false) (op := (.load 25 (.tmp 35))) F hS (by kernel_rfl) (by kernel_rfl) rfl (by kernel_rfl) (by decide) fun a F => d_skip 7 37 34 (j := 4) (want := false) (op := (.call (.mk (.builtin .len) #[(.tmp 36)] #[25]))) F hS (by kernel_rfl) (by kernel_rfl) rfl (by kernel_rfl) (by decide) fun a F => d_skip 8 38 34 (j := 4) (want := false) (op := (.fieldAddr 27 (.tmp 4) 0)) F hS (by kernel_rfl) (by kernel_rfl) rfl (by kernel_rfl) (by decide) fun a F => d_skip 9 39 34 (j := 4) (want := false) (op := (.load 3 (.tmp 38))) F hS (by kernel_rfl) (by kernel_rfl) rfl (by kernel_rfl) (by decide) fun a F => d_skip 10 40 34 (j := 4) (want := false) (op := (.call (.mk (.value (.func 82)) #[(.tmp 39)] #[3]))) F hS (by kernel_rfl) (by kernel_rfl) rfl (by kernel_rfl) (by decide) fun a F => d_skip 11 41 34 (j := 4) (want := false) (op := (.binOp .neq 3 (.tmp 37) (.tmp 40) 3)) F hS (by kernel_rfl) (by kernel_rfl) rfl (by kernel_rfl) (by decide) fun a F => F.dv 12 42 (.pick (.tmp 34) (.const (.bool true)) (.tmp 41)) hS (fun W hW => x_pick (b := true) rfl rfl) fun a F => F.dv 13 29 (.assign (.tmp 42)) hS (fun W hW => x_assign rfl) fun a F => ?_
      refine d_end (by kernel_rfl) (hK11 _ _ ?_)
      refine wp_if F rfl ?_
      refine wp_rs fun _ K12 => F.sg rfl fun a F => ?_
      refine s_end (K12 _ _ ?_)
      refine wp_ret (inb_ret (then_ret (res_slot F rfl rfl ⟨_, rfl, ⟨by rw [heq], by rw [heq]; exact mg⟩, hK⟩)))
    · have hpre : nodeErr vars d (n + 1) c = 1 := nodeErr_one (by omega) (by omega)
      rw [hpre, if_pos (by decide)] at heq
      refine dk2_seq (w4.heap.size) (w4.heap.size) (ops := regOps Try.f116 4) (N := 14) (by kernel_rfl) wide_orders (by kernel_rfl) fun w8 hw8 B9 hS K13 hK13 => ?_
      have zw8 : w8.heap.size = w4.heap.size := by rw [hw8]
      have sB9 := B9.size
      have hB := bt hB B9
      have hK := hK.below B9
      have mg := mg.old B9
      have m4 := m4.old B9
      have mg_d := mg
      have m4_d := m4
      have hB_d := hB
      have hK_d := hK
      refine F.dv 0 30 (.fieldAddr 27 (.tmp 4) 0) hS (fun W hW => x_fa0 fa27_0 rfl) fun a F => F.dv 1 31 (.load 3 (.tmp 30)) hS (fun W hW => x_load rfl (m_load flat3 ((m4_d.k2 hW (by omega)).cell (j := 0) rfl))) fun a F => ?_
      refine d1 2 (some 32) (.call (.mk (.value (.func 82)) #[(.tmp 31)] #[3])) fun ty pos af => ?_
      refine s_callS [_] F E82 rfl (by decide) ((kids54 xk w8).mono fun e w' h => ⟨(by rw [h.1, hkd] : e = .returned (.int .i64 (arT c.kd))), h.2⟩) fun a F => ?_
      refine s_end ⟨hS, ?_⟩
      refine F.dv 3 33 (.binOp .lss 3 (.tmp 32) (.const (.int .i64 0)) 3) hS (fun W hW => lssF (by omega) rfl rfl) fun a F => F.dv 4 34 (.move (.tmp 33)) hS (fun W hW => x_move rfl) fun a F => F.dg 5 35 34 4 false (.fieldAddr 27 (.tmp 4) 5) hS rfl (fun W hW => x_fa0 fa27_5 rfl) fun a F => F.dg 6 36 34 4 false (.load 25 (.tmp 35)) hS rfl (fun W hW => x_load rfl (m_load flat25 ((m4_d.k2 hW (by omega)).cell (j := 7) rfl))) fun a F => F.dg 7 37 34 4 false (.call (.mk (.builtin .len) #[(.tmp 36)] #[25])) hS rfl (fun W hW => x_len Try.underlying25 rfl) fun a F => F.dg 8 38 34 4 false (.fieldAddr 27 (.tmp 4) 0) hS rfl (fun W hW => x_fa0 fa27_0 rfl) fun a F => F.dg 9 39 34 4 false (.load 3 (.tmp 38)) hS rfl (fun W hW => x_load rfl (m_load flat3 ((m4_d.k2 hW (by omega)).cell (j := 0) rfl))) fun a F => ?_
      refine d_oneg 10 34 (some 40) (.call (.mk (.value (.func 82)) #[(.tmp 39)] #[3])) (j := 4) (want := false) F (by kernel_rfl) (by kernel_rfl) (by kernel_rfl) rfl fun ty pos af => ?_
      refine s_callS [_] F E82 rfl (by decide) ((kids54 xk w8).mono fun e w' h => ⟨(by rw [h.1, hkd] : e = .returned (.int .i64 (arT c.kd))), h.2⟩) fun a F => ?_
      refine s_end ⟨hS, ?_⟩
      refine F.dg 11 41 34 4 false (.binOp .neq 3 (.tmp 37) (.tmp 40) 3) hS rfl (fun W hW => neqT (by omega) rfl rfl) fun a F => F.dv 12 42 (.pick (.tmp 34) (.const (.bool true)) (.tmp 41)) hS (fun W hW => x_pick (b := false) rfl rfl) fun a F => F.dv 13 29 (.assign (.tmp 42)) hS (fun W hW => x_assign rfl) fun a F => ?_
      refine d_end (by kernel_rfl) (hK13 _ _ ?_)
      refine wp_if F rfl ?_
      refine wp_rs fun _ K14 => F.sg rfl fun a F => ?_
      refine s_end (K14 _ _ ?_)
      refine wp_ret (inb_ret (then_ret (res_slot F rfl rfl ⟨_, rfl, ⟨by rw [heq], by rw [heq]; exact mg⟩, hK⟩)))
    · skip
      refine dk2_seq (w4.heap.size) (w4.heap.size) (ops := regOps Try.f116 4) (N := 14) (by kernel_rfl) wide_orders (by kernel_rfl) fun w10 hw10 B11 hS K15 hK15 => ?_
      have zw10 : w10.heap.size = w4.heap.size := by rw [hw10]
      have sB11 := B11.size
      have hB := bt hB B11
      have hK := hK.below B11
      have mg := mg.old B11
      have m4 := m4.old B11
      have mg_d := mg
      have m4_d := m4
      have hB_d := hB
      have hK_d := hK
      refine F.dv 0 30 (.fieldAddr 27 (.tmp 4) 0) hS (fun W hW => x_fa0 fa27_0 rfl) fun a F => F.dv 1 31 (.load 3 (.tmp 30)) hS (fun W hW => x_load rfl (m_load flat3 ((m4_d.k2 hW (by omega)).cell (j := 0) rfl))) fun a F => ?_
      refine d1 2 (some 32) (.call (.mk (.value (.func 82)) #[(.tmp 31)] #[3])) fun ty pos af => ?_
      refine s_callS [_] F E82 rfl (by decide) ((kids54 xk w10).mono fun e w' h => ⟨(by rw [h.1, hkd] : e = .returned (.int .i64 (arT c.kd))), h.2⟩) fun a F => ?_
      refine s_end ⟨hS, ?_⟩
      refine F.dv 3 33 (.binOp .lss 3 (.tmp 32) (.const (.int .i64 0)) 3) hS (fun W hW => lssF (by omega) rfl rfl) fun a F => F.dv 4 34 (.move (.tmp 33)) hS (fun W hW => x_move rfl) fun a F => F.dg 5 35 34 4 false (.fieldAddr 27 (.tmp 4) 5) hS rfl (fun W hW => x_fa0 fa27_5 rfl) fun a F => F.dg 6 36 34 4 false (.load 25 (.tmp 35)) hS rfl (fun W hW => x_load rfl (m_load flat25 ((m4_d.k2 hW (by omega)).cell (j := 7) rfl))) fun a F => F.dg 7 37 34 4 false (.call (.mk (.builtin .len) #[(.tmp 36)] #[25])) hS rfl (fun W hW => x_len Try.underlying25 rfl) fun a F => F.dg 8 38 34 4 false (.fieldAddr 27 (.tmp 4) 0) hS rfl (fun W hW => x_fa0 fa27_0 rfl) fun a F => F.dg 9 39 34 4 false (.load 3 (.tmp 38)) hS rfl (fun W hW => x_load rfl (m_load flat3 ((m4_d.k2 hW (by omega)).cell (j := 0) rfl))) fun a F => ?_
      refine d_oneg 10 34 (some 40) (.call (.mk (.value (.func 82)) #[(.tmp 39)] #[3])) (j := 4) (want := false) F (by kernel_rfl) (by kernel_rfl) (by kernel_rfl) rfl fun ty pos af => ?_
      refine s_callS [_] F E82 rfl (by decide) ((kids54 xk w10).mono fun e w' h => ⟨(by rw [h.1, hkd] : e = .returned (.int .i64 (arT c.kd))), h.2⟩) fun a F => ?_
      refine s_end ⟨hS, ?_⟩
      refine F.dg 11 41 34 4 false (.binOp .neq 3 (.tmp 37) (.tmp 40) 3) hS rfl (fun W hW => neqF (by omega) rfl rfl) fun a F => F.dv 12 42 (.pick (.tmp 34) (.const (.bool true)) (.tmp 41)) hS (fun W hW => x_pick (b := false) rfl rfl) fun a F => F.dv 13 29 (.assign (.tmp 42)) hS (fun W hW => x_assign rfl) fun a F => ?_
      refine d_end (by kernel_rfl) (hK15 _ _ ?_)
      refine wp_if F rfl ?_
      rcases (show (xk = 1 ∧ xn < 0) ∨ (xk = 1 ∧ ¬ xn < 0 ∧ 1048576 < xn) ∨ (xk = 1 ∧ ¬ xn < 0 ∧ ¬ 1048576 < xn) ∨ xk = 2 ∨ xk = 7 ∨ (xk ≠ 1 ∧ xk ≠ 2 ∧ xk ≠ 7) by omega) with hq | hq | hq | hq | hq | hq
      · have hlf := nodeErr_leaf (vars := vars) (n := n + 1) (d := d) (c := c) (by omega) (by omega)
        obtain ⟨z, m, rfl⟩ := hx.var_of hq.1
        have hzn : xn = z := hx.2.1
        have hle : leafErr vars (.var z m) = 1 := by simp only [leafErr]; rw [if_pos (by omega)]
        rw [hle] at hlf
        rw [hlf, if_pos (by decide)] at heq
        refine wp_rs fun _ K17 => F.vl (x_fa0 fa27_0 rfl) fun a F => F.ld m4 flat3 rfl rfl fun a F => F.vl (eqlT (by omega) rfl rfl) fun a F => F.mv rfl fun a F => s_grd 47 F rfl rfl rfl <| F.vl (x_fa0 fa27_1 rfl) fun a F => s_grd 47 F rfl rfl rfl <| F.ld m4 flat3 rfl rfl fun a F => s_grd 47 F rfl rfl rfl <| F.vl (lssT (by omega) rfl rfl) fun a F => s_grd 47 F rfl rfl rfl <| F.mv rfl fun a F => s_grdn 51 F rfl rfl (by decide) fun a F => s_grdn 51 F rfl rfl (by decide) fun a F => s_grdn 51 F rfl rfl (by decide) fun a F => s_grd 47 F rfl rfl rfl <| F.vl (x_pick (b := true) rfl rfl) fun a F => F.vl (x_pick (b := true) rfl rfl) fun a F => F.sg rfl fun a F => ?_
        refine s_end (K17 _ _ ?_)
        refine wp_if F rfl ?_
        refine wp_rs fun _ K18 => F.sg rfl fun a F => ?_
        refine s_end (K18 _ _ ?_)
        refine wp_ret (inb_ret (then_ret (res_slot F rfl rfl ⟨_, rfl, ⟨by rw [heq], by rw [heq]; exact mg⟩, hK⟩)))
      · have hlf := nodeErr_leaf (vars := vars) (n := n + 1) (d := d) (c := c) (by omega) (by omega)
        obtain ⟨z, m, rfl⟩ := hx.var_of hq.1
        have hzn : xn = z := hx.2.1
        have hle : leafErr vars (.var z m) = 1 := by simp only [leafErr]; rw [if_pos (by omega)]
        rw [hle] at hlf
        rw [hlf, if_pos (by decide)] at heq
        refine wp_rs fun _ K19 => F.vl (x_fa0 fa27_0 rfl) fun a F => F.ld m4 flat3 rfl rfl fun a F => F.vl (eqlT (by omega) rfl rfl) fun a F => F.mv rfl fun a F => s_grd 47 F rfl rfl rfl <| F.vl (x_fa0 fa27_1 rfl) fun a F => s_grd 47 F rfl rfl rfl <| F.ld m4 flat3 rfl rfl fun a F => s_grd 47 F rfl rfl rfl <| F.vl (lssF (by omega) rfl rfl) fun a F => s_grd 47 F rfl rfl rfl <| F.mv rfl fun a F => s_grd 51 F rfl rfl rfl <| F.vl (x_fa0 fa27_1 rfl) fun a F => s_grd 51 F rfl rfl rfl <| F.ld m4 flat3 rfl rfl fun a F => s_grd 51 F rfl rfl rfl <| F.vl (gtrT (by omega) rfl rfl) fun a F => s_grd 47 F rfl rfl rfl <| F.vl (x_pick (b := false) rfl rfl) fun a F => F.vl (x_pick (b := true) rfl rfl) fun a F => F.sg rfl fun a F => ?_
        refine s_end (K19 _ _ ?_)
        refine wp_if F rfl ?_
        refine wp_rs fun _ K20 => F.sg rfl fun a F => ?_
        refine s_end (K20 _ _ ?_)
        refine wp_ret (inb_ret (then_ret (res_slot F rfl rfl ⟨_, rfl, ⟨by rw [heq], by rw [heq]; exact mg⟩, hK⟩)))
      · have hlf := nodeErr_leaf (vars := vars) (n := n + 1) (d := d) (c := c) (by omega) (by omega)
        obtain ⟨z, m, rfl⟩ := hx.var_of hq.1
        have hzn : xn = z := hx.2.1
        have hle : leafErr vars (.var z m) = 0 := by simp only [leafErr]; rw [if_neg (by omega)]
        rw [hle] at hlf
        rw [hlf, if_neg (by decide)] at heq
        have hk9 := CT.kids_arT2 hx (by omega)
        rw [← hKC] at hk9
        refine wp_rs fun _ K21 => F.vl (x_fa0 fa27_0 rfl) fun a F => F.ld m4 flat3 rfl rfl fun a F => F.vl (eqlT (by omega) rfl rfl) fun a F => F.mv rfl fun a F => s_grd 47 F rfl rfl rfl <| F.vl (x_fa0 fa27_1 rfl) fun a F => s_grd 47 F rfl rfl rfl <| F.ld m4 flat3 rfl rfl fun a F => s_grd 47 F rfl rfl rfl <| F.vl (lssF (by omega) rfl rfl) fun a F => s_grd 47 F rfl rfl rfl <| F.mv rfl fun a F => s_grd 51 F rfl rfl rfl <| F.vl (x_fa0 fa27_1 rfl) fun a F => s_grd 51 F rfl rfl rfl <| F.ld m4 flat3 rfl rfl fun a F => s_grd 51 F rfl rfl rfl <| F.vl (gtrF (by omega) rfl rfl) fun a F => s_grd 47 F rfl rfl rfl <| F.vl (x_pick (b := false) rfl rfl) fun a F => F.vl (x_pick (b := true) rfl rfl) fun a F => F.sg rfl fun a F => ?_
        refine s_end (K21 _ _ ?_)
        refine wp_if F rfl ?_
        refine wp_rs fun _ K22 => F.vl (x_fa0 fa27_0 rfl) fun a F => F.ld m4 flat3 rfl rfl fun a F => F.vl (eqlF (by omega) rfl rfl) fun a F => F.sg rfl fun a F => ?_
        refine s_end (K22 _ _ ?_)
        refine wp_if F rfl ?_
        refine wp_rs fun _ K23 => F.vl (x_fa0 fa27_0 rfl) fun a F => F.ld m4 flat3 rfl rfl fun a F => F.vl (eqlF (by omega) rfl rfl) fun a F => F.sg rfl fun a F => ?_
        refine s_end (K23 _ _ ?_)
        refine wp_if F rfl ?_
        refine wp_skip (K3 _ _ ?_)
        refine wp_seq_k fun _ K24 => ?_
        refine wp_rs fun _ K25 => F.vl (x_fa0 fa27_5 rfl) fun a F => F.ld m4 flat25 rfl rfl fun a F => F.vl (x_len Try.underlying25 rfl) fun a F => F.mv rfl fun a F => ?_
        refine s_end (K25 _ _ ?_)
        refine wp_block ?_
        refine wp_up nv (fun i a w => ∃ n2 : Nat, mayK vars (KC.drop i) (d + 1) n2 = mayK vars KC (d + 1) (n + 1) ∧ n2 ≤ 400 ∧ Blk w g 3 [.int .i64 (n2 : Int)] ∧ Below w0.heap.size w0 w ∧ Ktw g g w1 w ∧ Fs 108 a [(1, .int .i64 vars), (2, .int .i64 d), (3, .pointer (some ⟨g, 0, none⟩)), (92, .slice av nv cv), (93, .int .i64 (nv : Int)), (94, .int .i64 (i : Int))]) ⟨n + 1, rfl, by omega, mg, hB, hK, F.sub _ rfl⟩ ?_
        repeat clear F
        clear hB hK mg m4
        rintro i a w hi ⟨n2, hn2, hn3, mg, hB, hK, F⟩ K' hK'
        have sB := hB.size
        have sK := hK.size
        have hgl := mg.lt
        refine wp_rs fun _ K26 => F.vl (x_lss (b := decide (i < nv)) (decide_eq_decide.2 (by omega)) rfl rfl) fun a F => ?_
        refine s_end (K26 _ _ ?_)
        refine wp_seq_k fun _ K27 => ?_
        refine wp_iff F rfl (fun hc95 => ?_) (fun hc95 => ?_)
        · obtain ⟨b9, off9, c9, y, kd, hve, hyk, hry, hAb, hbl, hrow⟩ := hkid.row (i := i) (by omega)
          cases hve
          have hks := CT.kid_size (hKC ▸ hyk)
          have hkf := CT.fit_kid hfit (hKC ▸ hyk)
          have hma := mayK_at (vars := vars) (d := d + 1) (n := n2) hyk
          rw [hn2] at hma
          refine wp_skip (K27 _ _ ?_)
          refine wp_seq_k fun _ K28 => ?_
          refine wp_block ?_
          refine wp_rs fun _ K29 => F.vl (x_ixa rfl rfl (m_ixsK i Try.underlying25 el25.size rfl (by omega))) fun a F => F.vl (x_ldA wide27 (hrow _ (hB.block _ hbl)) rfl rfl) fun a F => ?_
          refine s_alloc F (by decide) zero27 fun w12 b13 a eb13 m13 B13 zb13 F => ?_
          have sB13 := B13.size
          have hB := bt hB B13
          have hK := hK.below B13
          have mg := mg.old B13
          refine s_putW F rfl rfl (size_wide wide27) m13 rfl hry.one fun w16 m13 o17 => ?_
          have so17 := o17.size
          have hB := hB.trans (o17.below (by omega))
          have hK := hK.only o17 (by omega)
          have mg := mg.only o17 (by omega)
          refine s_end (K29 _ _ ?_)
          refine wp_rs fun _ K30 => F.vl (x_ldW wide27 m13 rfl rfl) fun a F => F.mv rfl fun a F => F.mv rfl fun a F => F.vl (x_add (by omega) (by omega) rfl rfl) fun a F => F.mv rfl fun a F => ?_
          refine s_call (R := fun u w' => (u = .int .i64 (kd.mayT vars (d + 1) n2).1 ∧ Blk w' g 3 [.int .i64 (((kd.mayT vars (d + 1) n2).2 : Nat) : Int)]) ∧ Ktw g g w16 w') F [_, _, _, _] E116 rfl (by decide) (ih kd y (by omega) hry hkf (d + 1) n2 w16 (by omega) (by omega) hn3 hB mg) ?_
          rintro _ w18 a ⟨⟨rfl, mg⟩, k19⟩ F
          have sk19 := k19.size
          have hB := k19.under hB (by omega)
          have hK := hK.trans k19 (by omega)
          refine F.sg rfl fun a F => ?_
          refine s_end (K30 _ _ ?_)
          refine wp_rs fun _ K31 => F.mv rfl fun a F => F.vl (x_neq rfl rfl rfl) fun a F => ?_
          refine s_end (K31 _ _ ?_)
          refine wp_iff F rfl (fun hc105 => ?_) (fun hc105 => ?_)
          · rw [if_pos hc105] at hma
            rw [hma] at heq
            refine wp_rs fun _ K32 => F.mv rfl fun a F => F.sg rfl fun a F => ?_
            refine s_end (K32 _ _ ?_)
            refine wp_ret (inb_ret (then_ret (then_ret (inb_ret (then_ret (res_slot F rfl rfl ⟨_, rfl, ⟨by rw [heq], by rw [heq]; exact mg⟩, hK⟩))))))
          · rw [if_neg hc105] at hma
            have hmz := may_zero (vars := vars) kd y (d + 1) n2 hry (by omega)
            refine wp_skip (K28 _ _ ?_)
            refine wp_region_lit ?_
            refine F.vl (x_addn (i + 1) (by omega) (by omega) rfl rfl) fun a F => F.mv rfl fun a F => ?_
            refine s_end (hK' _ _ (by omega) ⟨_, hma.symm, by omega, mg, hB, hK, F.sub _ rfl⟩)
        · obtain rfl : i = nv := by omega
          rw [List.drop_of_length_le (by omega), mayK] at hn2
          rw [← hn2] at heq
          refine wp_exit (K24 _ _ ?_)
          refine wp_rs fun _ K33 => F.sg rfl fun a F => ?_
          refine s_end (K33 _ _ ?_)
          refine wp_ret (res_slot F rfl rfl ⟨_, rfl, ⟨by rw [heq], by rw [heq]; exact mg⟩, hK⟩)
      · obtain ⟨l, m, rfl⟩ := hx.sort_of hq
        refine wp_rs fun _ K34 => F.vl (x_fa0 fa27_0 rfl) fun a F => F.ld m4 flat3 rfl rfl fun a F => F.vl (eqlF (by omega) rfl rfl) fun a F => F.mv rfl fun a F => s_grdn 47 F rfl rfl (by decide) fun a F => s_grdn 47 F rfl rfl (by decide) fun a F => s_grdn 47 F rfl rfl (by decide) fun a F => s_grdn 47 F rfl rfl (by decide) fun a F => s_grdu 51 F rfl rfl (by decide) fun a F => s_grdu 51 F rfl rfl (by decide) fun a F => s_grdu 51 F rfl rfl (by decide) fun a F => s_grdn 47 F rfl rfl (by decide) fun a F => F.vl (x_pick (b := false) rfl rfl) fun a F => F.sg rfl fun a F => ?_
        refine s_end (K34 _ _ ?_)
        refine wp_if F rfl ?_
        refine wp_rs fun _ K35 => F.vl (x_fa0 fa27_0 rfl) fun a F => F.ld m4 flat3 rfl rfl fun a F => F.vl (eqlT (by omega) rfl rfl) fun a F => F.sg rfl fun a F => ?_
        refine s_end (K35 _ _ ?_)
        refine wp_if F rfl ?_
        refine wp_rs fun _ K36 => F.vl (x_fa0 fa27_3 rfl) fun a F => F.vl (x_load rfl (m_loadP (vs := [_, _, _]) wide24 m4 rfl)) fun a F => F.mv rfl fun a F => ?_
        have hl9 : RLn w0 _ xl l := hx.2.1
        refine s_callB [_, _] F E146 rfl (by decide) (rmay14 xl l vars w10 ((hl9.keep hB.size (fun k hk _ => hB.block k hk)).rl)) fun w20 a B21 F => ?_
        have sB21 := B21.size
        have hK := hK.below B21
        have mg := mg.old B21
        refine F.sg rfl fun a F => ?_
        refine s_end (K36 _ _ ?_)
        have hcs : (CT.sort l m).mayT vars d n = ((chk 32 1048576 vars 1 100 l).1, n + 1) := by simp only [CT.mayT]; rw [nodeErr_leaf (by omega) (by omega)]; rfl
        refine wp_ret (inb_ret (then_ret (res_slot F rfl rfl ⟨_, rfl, ⟨by rw [hcs], by rw [hcs]; exact mg⟩, hK⟩)))
      · have hlf := nodeErr_leaf (vars := vars) (n := n + 1) (d := d) (c := c) (by omega) (by omega)
        obtain ⟨s, ls, m, rfl⟩ := hx.cst_of hq
        have hs9 : xs = s := hx.2.1
        have hls9 : RVn w0 _ xls ls := hx.2.2.1
        obtain ⟨la, lcp, hlv, _, _⟩ := hls9.form
        subst hs9 hlv
        refine wp_rs fun _ K37 => F.vl (x_fa0 fa27_0 rfl) fun a F => F.ld m4 flat3 rfl rfl fun a F => F.vl (eqlF (by omega) rfl rfl) fun a F => F.mv rfl fun a F => s_grdn 47 F rfl rfl (by decide) fun a F => s_grdn 47 F rfl rfl (by decide) fun a F => s_grdn 47 F rfl rfl (by decide) fun a F => s_grdn 47 F rfl rfl (by decide) fun a F => s_grdu 51 F rfl rfl (by decide) fun a F => s_grdu 51 F rfl rfl (by decide) fun a F => s_grdu 51 F rfl rfl (by decide) fun a F => s_grdn 47 F rfl rfl (by decide) fun a F => F.vl (x_pick (b := false) rfl rfl) fun a F => F.sg rfl fun a F => ?_
        refine s_end (K37 _ _ ?_)
        refine wp_if F rfl ?_
        refine wp_rs fun _ K38 => F.vl (x_fa0 fa27_0 rfl) fun a F => F.ld m4 flat3 rfl rfl fun a F => F.vl (eqlF (by omega) rfl rfl) fun a F => F.sg rfl fun a F => ?_
        refine s_end (K38 _ _ ?_)
        refine wp_if F rfl ?_
        refine wp_rs fun _ K39 => F.vl (x_fa0 fa27_0 rfl) fun a F => F.ld m4 flat3 rfl rfl fun a F => F.vl (eqlT (by omega) rfl rfl) fun a F => F.sg rfl fun a F => ?_
        refine s_end (K39 _ _ ?_)
        refine wp_if F rfl ?_
        refine wp_seq_k fun _ K40 => ?_
        rcases (show nameB xs = false ∨ nameB xs = true by cases nameB xs <;> simp) with hw | hw
        · have hle : leafErr vars (.cst xs ls m) = 8 := by simp only [leafErr]; rw [if_pos hw]
          rw [hle] at hlf
          rw [hlf, if_pos (by decide)] at heq
          refine wp_rs fun _ K42 => F.vl (x_fa0 fa27_2 rfl) fun a F => F.ld m4 flat9 rfl rfl fun a F => ?_
          refine s_callS [_] F E72 rfl (by decide) ((rName32 xs w10 hfit.1).mono fun e w' h => ⟨by rw [h.1, hw], h.2⟩) fun a F => ?_
          refine F.vl (x_not rfl) fun a F => ?_
          refine s_end (K42 _ _ ?_)
          refine wp_if F rfl ?_
          refine wp_rs fun _ K43 => F.sg rfl fun a F => ?_
          refine s_end (K43 _ _ ?_)
          refine wp_ret (then_ret (inb_ret (then_ret (res_slot F rfl rfl ⟨_, rfl, ⟨by rw [heq], by rw [heq]; exact mg⟩, hK⟩))))
        · skip
          refine wp_rs fun _ K44 => F.vl (x_fa0 fa27_2 rfl) fun a F => F.ld m4 flat9 rfl rfl fun a F => ?_
          refine s_callS [_] F E72 rfl (by decide) ((rName32 xs w10 hfit.1).mono fun e w' h => ⟨by rw [h.1, hw], h.2⟩) fun a F => ?_
          refine F.vl (x_not rfl) fun a F => ?_
          refine s_end (K44 _ _ ?_)
          refine wp_if F rfl ?_
          refine wp_skip (K40 _ _ ?_)
          refine wp_seq_k fun _ K45 => ?_
          rcases (show 6 < (ls.length : Int) ∨ ¬ 6 < (ls.length : Int) by omega) with hv | hv
          · have hle : leafErr vars (.cst xs ls m) = 2 := by simp only [leafErr]; rw [if_neg (by rw [hw]; decide), if_pos (by omega)]
            rw [hle] at hlf
            rw [hlf, if_pos (by decide)] at heq
            refine wp_rs fun _ K47 => F.vl (x_fa0 fa27_4 rfl) fun a F => F.ld m4 flat22 rfl rfl fun a F => F.vl (x_len Try.underlying22 rfl) fun a F => F.vl (gtrT (by omega) rfl rfl) fun a F => ?_
            refine s_end (K47 _ _ ?_)
            refine wp_if F rfl ?_
            refine wp_rs fun _ K48 => F.sg rfl fun a F => ?_
            refine s_end (K48 _ _ ?_)
            refine wp_ret (then_ret (inb_ret (then_ret (res_slot F rfl rfl ⟨_, rfl, ⟨by rw [heq], by rw [heq]; exact mg⟩, hK⟩))))
          · have hle0 : leafErr vars (.cst xs ls m) = fstErr vars ls := by simp only [leafErr]; rw [if_neg (by rw [hw]; decide), if_neg (by omega)]
            refine wp_rs fun _ K49 => F.vl (x_fa0 fa27_4 rfl) fun a F => F.ld m4 flat22 rfl rfl fun a F => F.vl (x_len Try.underlying22 rfl) fun a F => F.vl (gtrF (by omega) rfl rfl) fun a F => ?_
            refine s_end (K49 _ _ ?_)
            refine wp_if F rfl ?_
            refine wp_skip (K45 _ _ ?_)
            refine wp_rs fun _ K50 => F.vl (x_fa0 fa27_4 rfl) fun a F => F.ld m4 flat22 rfl rfl fun a F => F.vl (x_len Try.underlying22 rfl) fun a F => F.mv rfl fun a F => ?_
            refine s_end (K50 _ _ ?_)
            refine wp_block ?_
            refine wp_up ls.length (fun i a w => leafErr vars (.cst xs ls m) = fstErr vars (ls.drop i) ∧ Blk w g 3 [.int .i64 ((n + 1 : Nat) : Int)] ∧ Blk w b4 27 [.int .i64 xk, .int .i64 xn, .string xs, .int .i64 xl.1, .int .i64 xl.2.1, xl.2.2, .slice la ls.length lcp, .slice av nv cv] ∧ Below w0.heap.size w0 w ∧ Ktw g g w1 w ∧ Fs 108 a [(1, .int .i64 vars), (2, .int .i64 d), (3, .pointer (some ⟨g, 0, none⟩)), (4, .pointer (some ⟨b4, 0, none⟩)), (78, .slice la ls.length lcp), (79, .int .i64 (ls.length : Int)), (80, .int .i64 (i : Int))]) ⟨by simpa using hle0, mg, m4, hB, hK, F.sub _ rfl⟩ ?_
            have hb4 : b4 ≠ g ∧ w1.heap.size ≤ b4 := by omega
            repeat clear F
            clear hB hK mg m4
            rintro i a w hi ⟨hlei, mg, m4, hB, hK, F⟩ K' hK'
            have sB := hB.size
            have sK := hK.size
            have hgl := mg.lt
            have h4l := m4.lt
            refine wp_rs fun _ K51 => F.vl (x_lss (b := decide (i < ls.length)) (decide_eq_decide.2 (by omega)) rfl rfl) fun a F => ?_
            refine s_end (K51 _ _ ?_)
            refine wp_seq_k fun _ K52 => ?_
            refine wp_iff F rfl (fun hc81 => ?_) (fun hc81 => ?_)
            · obtain ⟨b9, off9, c9, y, l, hve, hl, hry, hAb, hbl, hrow⟩ := hls9.row (i := i) (by omega)
              cases hve
              have hfe := fstErr_at (vars := vars) hl
              have h1y := hry.rl.one1
              refine wp_skip (K52 _ _ ?_)
              refine wp_seq_k fun _ K53 => ?_
              refine wp_block ?_
              refine wp_rs fun _ K54 => F.vl (x_ixa rfl rfl (m_ixsK i Try.underlying22 el22.size rfl (by omega))) fun a F => F.vl (x_ldA wide24 (hrow _ (hB.block _ hbl)) rfl rfl) fun a F => ?_
              refine s_alloc F (by decide) zero24 fun w22 b10 a eb10 m10 B23 zb10 F => ?_
              have sB23 := B23.size
              have hB := bt hB B23
              have hK := hK.below B23
              have mg := mg.old B23
              have m4 := m4.old B23
              refine s_putW F rfl rfl (size_wide wide24) m10 rfl (one_lc h1y) fun w26 m10 o27 => ?_
              have so27 := o27.size
              have hB := hB.trans (o27.below (by omega))
              have hK := hK.only o27 (by omega)
              have mg := mg.only o27 (by omega)
              have m4 := m4.only o27 (by omega)
              refine s_end (K54 _ _ ?_)
              refine wp_rs fun _ K55 => F.vl (x_ldW wide24 m10 rfl rfl) fun a F => F.mv rfl fun a F => ?_
              refine s_callB [_, _] F E146 rfl (by decide) (rmay14 y l vars w26 ((hry.keep hB.size (fun k hk _ => hB.block k hk)).rl)) fun w28 a B29 F => ?_
              have sB29 := B29.size
              have hB := bt hB B29
              have hK := hK.below B29
              have mg := mg.old B29
              have m4 := m4.old B29
              refine F.sg rfl fun a F => ?_
              refine s_end (K55 _ _ ?_)
              refine wp_rs fun _ K56 => F.mv rfl fun a F => F.vl (x_neq rfl rfl rfl) fun a F => ?_
              refine s_end (K56 _ _ ?_)
              refine wp_iff F rfl (fun hc88 => ?_) (fun hc88 => ?_)
              · rw [hfe, if_pos hc88] at hlei
                rw [hlei] at hlf
                rw [hlf, if_pos hc88] at heq
                refine wp_rs fun _ K57 => F.mv rfl fun a F => F.sg rfl fun a F => ?_
                refine s_end (K57 _ _ ?_)
                refine wp_ret (inb_ret (then_ret (then_ret (inb_ret (inb_ret (then_ret (res_slot F rfl rfl ⟨_, rfl, ⟨by rw [heq], by rw [heq]; exact mg⟩, hK⟩)))))))
              · rw [hfe, if_neg hc88] at hlei
                refine wp_skip (K53 _ _ ?_)
                refine wp_region_lit ?_
                refine F.vl (x_addn (i + 1) (by omega) (by have := hfit.2; omega) rfl rfl) fun a F => F.mv rfl fun a F => ?_
                refine s_end (hK' _ _ (by omega) ⟨hlei, mg, m4, hB, hK, F.sub _ rfl⟩)
            · obtain rfl : i = ls.length := by omega
              rw [List.drop_length] at hlei
              rw [hlei] at hlf
              have hlf : nodeErr vars d (n + 1) (.cst xs ls m) = 0 := hlf
              rw [hlf, if_neg (by decide)] at heq
              have hk9 := CT.kids_arT2 hx (by omega)
              rw [← hKC] at hk9
              refine wp_exit (K3 _ _ ?_)
              refine wp_seq_k fun _ K58 => ?_
              refine wp_rs fun _ K59 => F.vl (x_fa0 fa27_5 rfl) fun a F => F.ld m4 flat25 rfl rfl fun a F => F.vl (x_len Try.underlying25 rfl) fun a F => F.mv rfl fun a F => ?_
              refine s_end (K59 _ _ ?_)
              refine wp_block ?_
              refine wp_up nv (fun i a w => ∃ n2 : Nat, mayK vars (KC.drop i) (d + 1) n2 = mayK vars KC (d + 1) (n + 1) ∧ n2 ≤ 400 ∧ Blk w g 3 [.int .i64 (n2 : Int)] ∧ Below w0.heap.size w0 w ∧ Ktw g g w1 w ∧ Fs 108 a [(1, .int .i64 vars), (2, .int .i64 d), (3, .pointer (some ⟨g, 0, none⟩)), (92, .slice av nv cv), (93, .int .i64 (nv : Int)), (94, .int .i64 (i : Int))]) ⟨n + 1, rfl, by omega, mg, hB, hK, F.sub _ rfl⟩ ?_
              repeat clear F
              clear hB hK mg m4
              rintro i a w hi ⟨n2, hn2, hn3, mg, hB, hK, F⟩ K' hK'
              have sB := hB.size
              have sK := hK.size
              have hgl := mg.lt
              refine wp_rs fun _ K60 => F.vl (x_lss (b := decide (i < nv)) (decide_eq_decide.2 (by omega)) rfl rfl) fun a F => ?_
              refine s_end (K60 _ _ ?_)
              refine wp_seq_k fun _ K61 => ?_
              refine wp_iff F rfl (fun hc95 => ?_) (fun hc95 => ?_)
              · obtain ⟨b9, off9, c9, y, kd, hve, hyk, hry, hAb, hbl, hrow⟩ := hkid.row (i := i) (by omega)
                cases hve
                have hks := CT.kid_size (hKC ▸ hyk)
                have hkf := CT.fit_kid hfit (hKC ▸ hyk)
                have hma := mayK_at (vars := vars) (d := d + 1) (n := n2) hyk
                rw [hn2] at hma
                refine wp_skip (K61 _ _ ?_)
                refine wp_seq_k fun _ K62 => ?_
                refine wp_block ?_
                refine wp_rs fun _ K63 => F.vl (x_ixa rfl rfl (m_ixsK i Try.underlying25 el25.size rfl (by omega))) fun a F => F.vl (x_ldA wide27 (hrow _ (hB.block _ hbl)) rfl rfl) fun a F => ?_
                refine s_alloc F (by decide) zero27 fun w30 b13 a eb13 m13 B31 zb13 F => ?_
                have sB31 := B31.size
                have hB := bt hB B31
                have hK := hK.below B31
                have mg := mg.old B31
                refine s_putW F rfl rfl (size_wide wide27) m13 rfl hry.one fun w34 m13 o35 => ?_
                have so35 := o35.size
                have hB := hB.trans (o35.below (by omega))
                have hK := hK.only o35 (by omega)
                have mg := mg.only o35 (by omega)
                refine s_end (K63 _ _ ?_)
                refine wp_rs fun _ K64 => F.vl (x_ldW wide27 m13 rfl rfl) fun a F => F.mv rfl fun a F => F.mv rfl fun a F => F.vl (x_add (by omega) (by omega) rfl rfl) fun a F => F.mv rfl fun a F => ?_
                refine s_call (R := fun u w' => (u = .int .i64 (kd.mayT vars (d + 1) n2).1 ∧ Blk w' g 3 [.int .i64 (((kd.mayT vars (d + 1) n2).2 : Nat) : Int)]) ∧ Ktw g g w34 w') F [_, _, _, _] E116 rfl (by decide) (ih kd y (by omega) hry hkf (d + 1) n2 w34 (by omega) (by omega) hn3 hB mg) ?_
                rintro _ w36 a ⟨⟨rfl, mg⟩, k37⟩ F
                have sk37 := k37.size
                have hB := k37.under hB (by omega)
                have hK := hK.trans k37 (by omega)
                refine F.sg rfl fun a F => ?_
                refine s_end (K64 _ _ ?_)
                refine wp_rs fun _ K65 => F.mv rfl fun a F => F.vl (x_neq rfl rfl rfl) fun a F => ?_
                refine s_end (K65 _ _ ?_)
                refine wp_iff F rfl (fun hc105 => ?_) (fun hc105 => ?_)
                · rw [if_pos hc105] at hma
                  rw [hma] at heq
                  refine wp_rs fun _ K66 => F.mv rfl fun a F => F.sg rfl fun a F => ?_
                  refine s_end (K66 _ _ ?_)
                  refine wp_ret (inb_ret (then_ret (then_ret (inb_ret (then_ret (res_slot F rfl rfl ⟨_, rfl, ⟨by rw [heq], by rw [heq]; exact mg⟩, hK⟩))))))
                · rw [if_neg hc105] at hma
                  have hmz := may_zero (vars := vars) kd y (d + 1) n2 hry (by omega)
                  refine wp_skip (K62 _ _ ?_)
                  refine wp_region_lit ?_
                  refine F.vl (x_addn (i + 1) (by omega) (by omega) rfl rfl) fun a F => F.mv rfl fun a F => ?_
                  refine s_end (hK' _ _ (by omega) ⟨_, hma.symm, by omega, mg, hB, hK, F.sub _ rfl⟩)
              · obtain rfl : i = nv := by omega
                rw [List.drop_of_length_le (by omega), mayK] at hn2
                rw [← hn2] at heq
                refine wp_exit (K58 _ _ ?_)
                refine wp_rs fun _ K67 => F.sg rfl fun a F => ?_
                refine s_end (K67 _ _ ?_)
                refine wp_ret (res_slot F rfl rfl ⟨_, rfl, ⟨by rw [heq], by rw [heq]; exact mg⟩, hK⟩)
      · have hlf := nodeErr_leaf (vars := vars) (n := n + 1) (d := d) (c := c) (by omega) (by omega)
        rw [leafErr_rest hx hq] at hlf
        rw [hlf, if_neg (by decide)] at heq
        have hk9 := CT.kids_arT2 hx (by omega)
        rw [← hKC] at hk9
        refine wp_rs fun _ K68 => F.vl (x_fa0 fa27_0 rfl) fun a F => F.ld m4 flat3 rfl rfl fun a F => F.vl (eqlF (by omega) rfl rfl) fun a F => F.mv rfl fun a F => s_grdn 47 F rfl rfl (by decide) fun a F => s_grdn 47 F rfl rfl (by decide) fun a F => s_grdn 47 F rfl rfl (by decide) fun a F => s_grdn 47 F rfl rfl (by decide) fun a F => s_grdu 51 F rfl rfl (by decide) fun a F => s_grdu 51 F rfl rfl (by decide) fun a F => s_grdu 51 F rfl rfl (by decide) fun a F => s_grdn 47 F rfl rfl (by decide) fun a F => F.vl (x_pick (b := false) rfl rfl) fun a F => F.sg rfl fun a F => ?_
        refine s_end (K68 _ _ ?_)
        refine wp_if F rfl ?_
        refine wp_rs fun _ K69 => F.vl (x_fa0 fa27_0 rfl) fun a F => F.ld m4 flat3 rfl rfl fun a F => F.vl (eqlF (by omega) rfl rfl) fun a F => F.sg rfl fun a F => ?_
        refine s_end (K69 _ _ ?_)
        refine wp_if F rfl ?_
        refine wp_rs fun _ K70 => F.vl (x_fa0 fa27_0 rfl) fun a F => F.ld m4 flat3 rfl rfl fun a F => F.vl (eqlF (by omega) rfl rfl) fun a F => F.sg rfl fun a F => ?_
        refine s_end (K70 _ _ ?_)
        refine wp_if F rfl ?_
        refine wp_skip (K3 _ _ ?_)
        refine wp_seq_k fun _ K71 => ?_
        refine wp_rs fun _ K72 => F.vl (x_fa0 fa27_5 rfl) fun a F => F.ld m4 flat25 rfl rfl fun a F => F.vl (x_len Try.underlying25 rfl) fun a F => F.mv rfl fun a F => ?_
        refine s_end (K72 _ _ ?_)
        refine wp_block ?_
        refine wp_up nv (fun i a w => ∃ n2 : Nat, mayK vars (KC.drop i) (d + 1) n2 = mayK vars KC (d + 1) (n + 1) ∧ n2 ≤ 400 ∧ Blk w g 3 [.int .i64 (n2 : Int)] ∧ Below w0.heap.size w0 w ∧ Ktw g g w1 w ∧ Fs 108 a [(1, .int .i64 vars), (2, .int .i64 d), (3, .pointer (some ⟨g, 0, none⟩)), (92, .slice av nv cv), (93, .int .i64 (nv : Int)), (94, .int .i64 (i : Int))]) ⟨n + 1, rfl, by omega, mg, hB, hK, F.sub _ rfl⟩ ?_
        repeat clear F
        clear hB hK mg m4
        rintro i a w hi ⟨n2, hn2, hn3, mg, hB, hK, F⟩ K' hK'
        have sB := hB.size
        have sK := hK.size
        have hgl := mg.lt
        refine wp_rs fun _ K73 => F.vl (x_lss (b := decide (i < nv)) (decide_eq_decide.2 (by omega)) rfl rfl) fun a F => ?_
        refine s_end (K73 _ _ ?_)
        refine wp_seq_k fun _ K74 => ?_
        refine wp_iff F rfl (fun hc95 => ?_) (fun hc95 => ?_)
        · obtain ⟨b9, off9, c9, y, kd, hve, hyk, hry, hAb, hbl, hrow⟩ := hkid.row (i := i) (by omega)
          cases hve
          have hks := CT.kid_size (hKC ▸ hyk)
          have hkf := CT.fit_kid hfit (hKC ▸ hyk)
          have hma := mayK_at (vars := vars) (d := d + 1) (n := n2) hyk
          rw [hn2] at hma
          refine wp_skip (K74 _ _ ?_)
          refine wp_seq_k fun _ K75 => ?_
          refine wp_block ?_
          refine wp_rs fun _ K76 => F.vl (x_ixa rfl rfl (m_ixsK i Try.underlying25 el25.size rfl (by omega))) fun a F => F.vl (x_ldA wide27 (hrow _ (hB.block _ hbl)) rfl rfl) fun a F => ?_
          refine s_alloc F (by decide) zero27 fun w38 b13 a eb13 m13 B39 zb13 F => ?_
          have sB39 := B39.size
          have hB := bt hB B39
          have hK := hK.below B39
          have mg := mg.old B39
          refine s_putW F rfl rfl (size_wide wide27) m13 rfl hry.one fun w42 m13 o43 => ?_
          have so43 := o43.size
          have hB := hB.trans (o43.below (by omega))
          have hK := hK.only o43 (by omega)
          have mg := mg.only o43 (by omega)
          refine s_end (K76 _ _ ?_)
          refine wp_rs fun _ K77 => F.vl (x_ldW wide27 m13 rfl rfl) fun a F => F.mv rfl fun a F => F.mv rfl fun a F => F.vl (x_add (by omega) (by omega) rfl rfl) fun a F => F.mv rfl fun a F => ?_
          refine s_call (R := fun u w' => (u = .int .i64 (kd.mayT vars (d + 1) n2).1 ∧ Blk w' g 3 [.int .i64 (((kd.mayT vars (d + 1) n2).2 : Nat) : Int)]) ∧ Ktw g g w42 w') F [_, _, _, _] E116 rfl (by decide) (ih kd y (by omega) hry hkf (d + 1) n2 w42 (by omega) (by omega) hn3 hB mg) ?_
          rintro _ w44 a ⟨⟨rfl, mg⟩, k45⟩ F
          have sk45 := k45.size
          have hB := k45.under hB (by omega)
          have hK := hK.trans k45 (by omega)
          refine F.sg rfl fun a F => ?_
          refine s_end (K77 _ _ ?_)
          refine wp_rs fun _ K78 => F.mv rfl fun a F => F.vl (x_neq rfl rfl rfl) fun a F => ?_
          refine s_end (K78 _ _ ?_)
          refine wp_iff F rfl (fun hc105 => ?_) (fun hc105 => ?_)
          · rw [if_pos hc105] at hma
            rw [hma] at heq
            refine wp_rs fun _ K79 => F.mv rfl fun a F => F.sg rfl fun a F => ?_
            refine s_end (K79 _ _ ?_)
            refine wp_ret (inb_ret (then_ret (then_ret (inb_ret (then_ret (res_slot F rfl rfl ⟨_, rfl, ⟨by rw [heq], by rw [heq]; exact mg⟩, hK⟩))))))
          · rw [if_neg hc105] at hma
            have hmz := may_zero (vars := vars) kd y (d + 1) n2 hry (by omega)
            refine wp_skip (K75 _ _ ?_)
            refine wp_region_lit ?_
            refine F.vl (x_addn (i + 1) (by omega) (by omega) rfl rfl) fun a F => F.mv rfl fun a F => ?_
            refine s_end (hK' _ _ (by omega) ⟨_, hma.symm, by omega, mg, hB, hK, F.sub _ rfl⟩)
        · obtain rfl : i = nv := by omega
          rw [List.drop_of_length_le (by omega), mayK] at hn2
          rw [← hn2] at heq
          refine wp_exit (K71 _ _ ?_)
          refine wp_rs fun _ K80 => F.sg rfl fun a F => ?_
          refine s_end (K80 _ _ ?_)
          refine wp_ret (res_slot F rfl rfl ⟨_, rfl, ⟨by rw [heq], by rw [heq]; exact mg⟩, hK⟩)
end Go.Proofs.Ytmkjhdiepkpdoaa

namespace Go.Proofs.Ytmkjhdiepkpdoaa
set_option maxRecDepth 100000
set_option maxHeartbeats 1600000
open Go.RowKit Go.Shelf
set_option linter.unusedVariables false
set_option linter.unusedSimpArgs false
/-- What whole lets pass. -/
def CT.wf (c : CT) : Prop := c.okV 6 ∧ c.size ≤ 400 ∧ c.dep ≤ 64
theorem CT.wf.ok {c : CT} (h : c.wf) : c.ok := ⟨by have := h.2.1; omega, by have := h.2.2; omega⟩
def PT.loose : PT → Int → Int
 | .var n, d => if d ≤ n then min (n - d + 1) 9223372036854775807 else 0
 | .two k p q, d => max (p.loose d) (q.loose (d + if k = 3 ∨ k = 4 then 1 else 0))
 | .lt p q r, d => max (p.loose d) (max (q.loose d) (r.loose (d + 1)))
 | .sort _, _ => 0
 | .cst _ _, _ => 0
 | .odd _, _ => 0
def mostL (ps : List Int) : Int := if ps.length = 0 then 0 else mxl ps
def Glo (c : CT) (d : Int) (ps : List Int) : Int := match c with
 | .var n _ => if d ≤ n then min (n - d + 1) 9223372036854775807 else 0
 | _ => mostL ps
theorem rMay30 (vars : Int) (c : CT) (x : C8) (w0 : World) (hx : RC w0 (fun k => k < w0.heap.size) c x) (hfit : c.fit) : Calls Try.prog 73 #[tv x, .int .i64 vars] w0 fun e w' => e = .returned (.int .i64 (c.mayT vars 1 0).1) ∧ Below w0.heap.size w0 w' := by
 have hB := Below.refl w0.heap.size w0
 have sB := hB.size
 refine calls_fs 9 [(0, tv x), (1, .int .i64 vars)] Try.func73 rfl rfl rfl rfl rfl fun a F => ?_
 refine wp_rs fun _ K1 => ?_
 refine s_box (tc x) F (by decide) rfl rfl fun w2 b2 a eb2 m2 B3 zb2 F => ?_
 have sB3 := B3.size
 have hB := bt hB B3
 refine F.sg rfl fun a F => ?_
 refine s_end (K1 _ _ ?_)
 refine wp_rs fun _ K2 => ?_
 refine s_alloc1 F (by decide) zero3 rfl fun w4 b5 a eb5 m5 B5 zb5 F => ?_
 have sB5 := B5.size
 have hB := bt hB B5
 have m2 := m2.old B5
 refine s_put F rfl rfl flat3 m5 (by first | (simp; done) | (simp [tc, lc]; done) | decide) rfl fun w6 m5 o7 => ?_
 have so7 := o7.size
 have hB := hB.trans (o7.below (by omega))
 have m2 := m2.only o7 (by omega)
 refine s_end (K2 _ _ ?_)
 refine wp_rs fun _ K3 => F.vl (x_ldW wide27 m2 rfl rfl) fun a F => F.mv rfl fun a F => ?_
 refine s_call (R := fun u w' => (u = .int .i64 (c.mayT vars 1 0).1 ∧ Blk w' b5 3 [.int .i64 (((c.mayT vars 1 0).2 : Nat) : Int)]) ∧ Ktw b5 b5 w6 w') F [_, _, _, _] E116 rfl (by decide) (rmay73 vars w0 b5 (by omega) (c.size + 1) c x (by omega) hx hfit 1 0 w6 (by decide) (by decide) (by decide) hB m5) ?_
 rintro _ w8 a ⟨⟨rfl, m5⟩, k9⟩ F
 have sk9 := k9.size
 have hB := k9.under hB (by omega)
 refine F.sg rfl fun a F => ?_
 refine s_end (K3 _ _ ?_)
 refine wp_ret (res_slot F rfl rfl ⟨rfl, hB⟩)
def CT.looseR (c : CT) : Int := if c.ok then c.ess.loose 0 else 0
end Go.Proofs.Ytmkjhdiepkpdoaa

namespace Go.Proofs.Ytmkjhdiepkpdoaa
set_option maxRecDepth 100000
set_option maxHeartbeats 1600000
open Go.RowKit Go.Shelf
set_option linter.unusedVariables false
set_option linter.unusedSimpArgs false
def letB (q : UInt8) : Bool := decide (97 ≤ q.toNat ∧ q.toNat ≤ 122)
theorem ok_byte {l : List UInt8} {i : Nat} {q : UInt8} (hq : l[i]? = some q) (h0 : i = 0 → letC q) (h : letC q ∨ othC q) : okAt l i := fun c hc => by
 rw [hq] at hc; cases hc
 rcases Nat.eq_zero_or_pos i with hi | hi
 ·
  exact .inl (h0 hi)
 ·
  rcases h with h | h
  ·
   exact .inl h
  ·
   exact .inr ⟨by omega, h⟩
theorem letB_iff {q : UInt8} : letB q = true ↔ letC q := by unfold letB letC; simp
theorem isLetter74 (q : UInt8) (w0 : World) : Calls Try.prog 114 #[.int .u8 (q.toNat : Int)] w0 fun e w' => e = .returned (.bool (letB q)) ∧ w' = w0 := by
 refine calls_fs 9 [(0, .int .u8 (q.toNat : Int))] Try.func114 rfl rfl rfl rfl rfl fun a F => ?_
 refine wp_rs fun _ K1 => F.sg rfl fun a F => ?_
 refine s_end (K1 _ _ ?_)
 rcases (show (97 ≤ (q.toNat : Int) ∧ (q.toNat : Int) ≤ 122) ∨ (97 ≤ (q.toNat : Int) ∧ ¬ (q.toNat : Int) ≤ 122) ∨ ¬ 97 ≤ (q.toNat : Int) by omega) with hz | hz | hz
 ·
  have hr : letB q = true := decide_eq_true (by omega)
  refine wp_rs fun _ K3 => F.mv rfl fun a F => F.vl (leqT (by omega) rfl rfl) fun a F => F.mv rfl fun a F => s_grd 5 F rfl rfl rfl <| F.mv rfl fun a F => s_grd 5 F rfl rfl rfl <| F.vl (leqT (by omega) rfl rfl) fun a F => F.vl (x_pick (b := true) rfl rfl) fun a F => F.sg rfl fun a F => ?_
  refine s_end (K3 _ _ ?_)
  refine wp_ret (res_slot F rfl rfl ⟨by rw [hr], rfl⟩)
 ·
  have hr : letB q = false := decide_eq_false (by omega)
  refine wp_rs fun _ K4 => F.mv rfl fun a F => F.vl (leqT (by omega) rfl rfl) fun a F => F.mv rfl fun a F => s_grd 5 F rfl rfl rfl <| F.mv rfl fun a F => s_grd 5 F rfl rfl rfl <| F.vl (leqF (by omega) rfl rfl) fun a F => F.vl (x_pick (b := true) rfl rfl) fun a F => F.sg rfl fun a F => ?_
  refine s_end (K4 _ _ ?_)
  refine wp_ret (res_slot F rfl rfl ⟨by rw [hr], rfl⟩)
 ·
  have hr : letB q = false := decide_eq_false (by omega)
  refine wp_rs fun _ K5 => F.mv rfl fun a F => F.vl (leqF (by omega) rfl rfl) fun a F => F.mv rfl fun a F => s_grdn 5 F rfl rfl (by decide) fun a F => s_grdn 5 F rfl rfl (by decide) fun a F => F.vl (x_pick (b := false) rfl rfl) fun a F => F.sg rfl fun a F => ?_
  refine s_end (K5 _ _ ?_)
  refine wp_ret (res_slot F rfl rfl ⟨by rw [hr], rfl⟩)
theorem Name31 (s : ByteArray) (w0 : World) (hs : s.size ≤ 9223372036854775807) : Calls Try.prog 69 #[.string s] w0 fun e w' => e = .returned (.bool (nameB s)) ∧ w' = w0 := by
 refine calls_fs 47 [(0, .string s)] Try.func69 rfl rfl rfl rfl rfl fun a F => ?_
 refine wp_rs fun _ K1 => F.sg rfl fun a F => ?_
 refine s_end (K1 _ _ ?_)
 refine wp_seq_k fun _ K2 => ?_
 rcases (show (s.size : Int) = 0 ∨ (¬ (s.size : Int) = 0 ∧ 32 < (s.size : Int)) ∨ (¬ (s.size : Int) = 0 ∧ ¬ 32 < (s.size : Int) ∧ (∃ q0, s.data.toList[0]? = some q0 ∧ letB q0 = true)) ∨ (¬ (s.size : Int) = 0 ∧ ¬ 32 < (s.size : Int) ∧ (∃ q0, s.data.toList[0]? = some q0 ∧ letB q0 = false)) by
  rcases (show (s.size : Int) = 0 ∨ (¬ (s.size : Int) = 0 ∧ 32 < (s.size : Int)) ∨ (¬ (s.size : Int) = 0 ∧ ¬ 32 < (s.size : Int)) by omega) with hz | hz | hz
  ·
   exact .inl hz
  ·
   exact .inr (.inl hz)
  ·
   obtain ⟨q0, hq0⟩ : ∃ q0, s.data.toList[0]? = some q0 := ⟨_, List.getElem?_eq_getElem (by rw [size_list]; omega)⟩
   cases hb : letB q0
   ·
    exact .inr (.inr (.inr ⟨hz.1, hz.2, q0, hq0, hb⟩))
   ·
    exact .inr (.inr (.inl ⟨hz.1, hz.2, q0, hq0, hb⟩))) with hz | hz | ⟨hz1, hz2, q0, hq0, hw⟩ | ⟨hz1, hz2, q0, hq0, hw⟩
 ·
  have hres : nameB s = false := nameB_of ⟨fun h => absurd h (by decide), fun h => by have h1 := h.2.1; rw [size_list] at h1; omega⟩
  refine wp_rs fun _ K4 => F.mv rfl fun a F => F.vl (x_lenS Try.underlying9 rfl) fun a F => F.vl (eqlT (by omega) rfl rfl) fun a F => F.mv rfl fun a F => s_grdn 8 F rfl rfl (by decide) fun a F => s_grdn 8 F rfl rfl (by decide) fun a F => s_grdn 8 F rfl rfl (by decide) fun a F => F.vl (x_pick (b := true) rfl rfl) fun a F => F.mv rfl fun a F => s_grdn 13 F rfl rfl (by decide) fun a F => s_grdn 13 F rfl rfl (by decide) fun a F => s_grdn 13 F rfl rfl (by decide) fun a F => s_grdn 13 F rfl rfl (by decide) fun a F => F.vl (x_pick (b := true) rfl rfl) fun a F => ?_
  refine s_end (K4 _ _ ?_)
  refine wp_if F rfl ?_
  refine wp_rs fun _ K5 => F.sg rfl fun a F => ?_
  refine s_end (K5 _ _ ?_)
  refine wp_ret (then_ret (res_slot F rfl rfl ⟨by rw [hres], rfl⟩))
 ·
  have hres : nameB s = false := nameB_of ⟨fun h => absurd h (by decide), fun h => by have h1 := h.2.2; rw [size_list] at h1; omega⟩
  refine wp_rs fun _ K6 => F.mv rfl fun a F => F.vl (x_lenS Try.underlying9 rfl) fun a F => F.vl (eqlF (by omega) rfl rfl) fun a F => F.mv rfl fun a F => s_grd 8 F rfl rfl rfl <| F.mv rfl fun a F => s_grd 8 F rfl rfl rfl <| F.vl (x_lenS Try.underlying9 rfl) fun a F => s_grd 8 F rfl rfl rfl <| F.vl (gtrT (by omega) rfl rfl) fun a F => F.vl (x_pick (b := false) rfl rfl) fun a F => F.mv rfl fun a F => s_grdn 13 F rfl rfl (by decide) fun a F => s_grdn 13 F rfl rfl (by decide) fun a F => s_grdn 13 F rfl rfl (by decide) fun a F => s_grdn 13 F rfl rfl (by decide) fun a F => F.vl (x_pick (b := true) rfl rfl) fun a F => ?_
  refine s_end (K6 _ _ ?_)
  refine wp_if F rfl ?_
  refine wp_rs fun _ K7 => F.sg rfl fun a F => ?_
  refine s_end (K7 _ _ ?_)
  refine wp_ret (then_ret (res_slot F rfl rfl ⟨by rw [hres], rfl⟩))
 ·
  skip
  refine wp_rs fun _ K8 => F.mv rfl fun a F => F.vl (x_lenS Try.underlying9 rfl) fun a F => F.vl (eqlF (by omega) rfl rfl) fun a F => F.mv rfl fun a F => s_grd 8 F rfl rfl rfl <| F.mv rfl fun a F => s_grd 8 F rfl rfl rfl <| F.vl (x_lenS Try.underlying9 rfl) fun a F => s_grd 8 F rfl rfl rfl <| F.vl (gtrF (by omega) rfl rfl) fun a F => F.vl (x_pick (b := false) rfl rfl) fun a F => F.mv rfl fun a F => s_grd 13 F rfl rfl rfl <| F.mv rfl fun a F => s_grd 13 F rfl rfl rfl <| F.vl (x_ix rfl rfl (m_ixstr 0 Try.underlying9 rfl hq0)) fun a F => s_grd 13 F rfl rfl rfl ?_
  refine s_callS [_] F E114 rfl (by decide) ((isLetter74 q0 w0).mono fun e w' h => ⟨by rw [h.1, hw], h.2⟩) fun a F => ?_
  refine s_grd 13 F rfl rfl rfl <| F.vl (x_not rfl) fun a F => F.vl (x_pick (b := false) rfl rfl) fun a F => ?_
  refine s_end (K8 _ _ ?_)
  refine wp_if F rfl ?_
  refine wp_skip (K2 _ _ ?_)
  refine wp_seq_k fun _ K9 => ?_
  refine wp_rs fun _ K10 => F.mv rfl fun a F => F.vl (x_lenS Try.underlying9 rfl) fun a F => F.mv rfl fun a F => ?_
  refine s_end (K10 _ _ ?_)
  refine wp_block ?_
  refine wp_up s.size (fun i a w => w = w0 ∧ (∀ j, j < i → okAt s.data.toList j) ∧ Fs 47 a [(0, .string s), (20, .int .i64 (s.size : Int)), (21, .int .i64 (i : Int))]) ⟨rfl, (fun j h => absurd h (by omega)), F.sub _ rfl⟩ ?_
  clear F
  rintro i a w hi ⟨hw, hok, F⟩ K' hK'
  subst hw
  refine wp_rs fun _ K11 => F.vl (x_lss (b := decide (i < s.size)) (decide_eq_decide.2 (by omega)) rfl rfl) fun a F => ?_
  refine s_end (K11 _ _ ?_)
  refine wp_seq_k fun _ K12 => ?_
  refine wp_iff F rfl (fun hc22 => ?_) (fun hc22 => ?_)
  ·
   obtain ⟨q, hq⟩ : ∃ q, s.data.toList[i]? = some q := ⟨_, List.getElem?_eq_getElem (by rw [size_list]; omega)⟩
   refine wp_skip (K12 _ _ ?_)
   refine wp_seq_k fun _ K13 => ?_
   refine wp_block ?_
   refine wp_rs fun _ K14 => F.mv rfl fun a F => F.sg rfl fun a F => ?_
   refine s_end (K14 _ _ ?_)
   refine wp_rs fun _ K15 => F.mv rfl fun a F => F.mv rfl fun a F => F.vl (x_ix rfl rfl (m_ixstr i Try.underlying9 rfl hq)) fun a F => F.sg rfl fun a F => ?_
   refine s_end (K15 _ _ ?_)
   rcases (show (97 ≤ (q.toNat : Int) ∧ (q.toNat : Int) ≤ 122) ∨ (¬ (97 ≤ (q.toNat : Int) ∧ (q.toNat : Int) ≤ 122) ∧ (q.toNat : Int) < 48 ∧ (q.toNat : Int) ≠ 46) ∨ (¬ (97 ≤ (q.toNat : Int) ∧ (q.toNat : Int) ≤ 122) ∧ (q.toNat : Int) = 46) ∨ (¬ (97 ≤ (q.toNat : Int) ∧ (q.toNat : Int) ≤ 122) ∧ 57 < (q.toNat : Int) ∧ (q.toNat : Int) = 95) ∨ (¬ (97 ≤ (q.toNat : Int) ∧ (q.toNat : Int) ≤ 122) ∧ 57 < (q.toNat : Int) ∧ (q.toNat : Int) ≠ 95) ∨ (¬ (97 ≤ (q.toNat : Int) ∧ (q.toNat : Int) ≤ 122) ∧ 48 ≤ (q.toNat : Int) ∧ (q.toNat : Int) ≤ 57) by omega) with hy | hy | hy | hy | hy | hy
   ·
    have hl : letB q = true := decide_eq_true (by omega)
    have hoki : okAt s.data.toList i := ok_byte hq (fun h0 => by subst h0; rw [hq0] at hq; cases hq; exact letB_iff.1 hw) (by unfold letC othC; omega)
    refine wp_rs fun _ K17 => F.mv rfl fun a F => ?_
    refine s_callS [_] F E114 rfl (by decide) ((isLetter74 q w).mono fun e w' h => ⟨by rw [h.1, hl], h.2⟩) fun a F => ?_
    refine F.vl (x_not rfl) fun a F => F.mv rfl fun a F => s_grdn 30 F rfl rfl (by decide) fun a F => s_grdn 30 F rfl rfl (by decide) fun a F => s_grdn 30 F rfl rfl (by decide) fun a F => s_grdu 33 F rfl rfl (by decide) fun a F => s_grdu 33 F rfl rfl (by decide) fun a F => s_grdn 30 F rfl rfl (by decide) fun a F => F.vl (x_pick (b := false) rfl rfl) fun a F => F.mv rfl fun a F => s_grdn 38 F rfl rfl (by decide) fun a F => s_grdn 38 F rfl rfl (by decide) fun a F => F.vl (x_pick (b := false) rfl rfl) fun a F => F.mv rfl fun a F => s_grdn 42 F rfl rfl (by decide) fun a F => s_grdn 42 F rfl rfl (by decide) fun a F => F.vl (x_pick (b := false) rfl rfl) fun a F => ?_
    refine s_end (K17 _ _ ?_)
    refine wp_if F rfl ?_
    refine wp_skip (K13 _ _ ?_)
    refine wp_region_lit ?_
    refine F.vl (x_addn (i + 1) (by omega) (by omega) rfl rfl) fun a F => F.mv rfl fun a F => ?_
    refine s_end (hK' _ _ (by omega) ⟨rfl, (fun j hj => by rcases Nat.lt_or_ge j i with h | h; (· exact hok j h); (· rw [show j = i by omega]; exact hoki)), F.sub _ rfl⟩)
   ·
    have hl : letB q = false := decide_eq_false (by omega)
    have hres : nameB s = false := nameB_of ⟨fun h => absurd h (by decide), fun h => by have := h.1 i q hq; unfold letC othC at this; omega⟩
    refine wp_rs fun _ K18 => F.mv rfl fun a F => ?_
    refine s_callS [_] F E114 rfl (by decide) ((isLetter74 q w).mono fun e w' h => ⟨by rw [h.1, hl], h.2⟩) fun a F => ?_
    refine F.vl (x_not rfl) fun a F => F.mv rfl fun a F => s_grd 30 F rfl rfl rfl <| F.mv rfl fun a F => s_grd 30 F rfl rfl rfl <| F.vl (lssT (by omega) rfl rfl) fun a F => s_grd 30 F rfl rfl rfl <| F.mv rfl fun a F => s_grdn 33 F rfl rfl (by decide) fun a F => s_grdn 33 F rfl rfl (by decide) fun a F => s_grd 30 F rfl rfl rfl <| F.vl (x_pick (b := true) rfl rfl) fun a F => F.vl (x_pick (b := true) rfl rfl) fun a F => F.mv rfl fun a F => s_grd 38 F rfl rfl rfl <| F.mv rfl fun a F => s_grd 38 F rfl rfl rfl <| F.vl (neqT (by omega) rfl rfl) fun a F => F.vl (x_pick (b := true) rfl rfl) fun a F => F.mv rfl fun a F => s_grd 42 F rfl rfl rfl <| F.mv rfl fun a F => s_grd 42 F rfl rfl rfl <| F.vl (neqT (by omega) rfl rfl) fun a F => F.vl (x_pick (b := true) rfl rfl) fun a F => ?_
    refine s_end (K18 _ _ ?_)
    refine wp_if F rfl ?_
    refine wp_rs fun _ K19 => F.sg rfl fun a F => ?_
    refine s_end (K19 _ _ ?_)
    refine wp_ret (inb_ret (then_ret (then_ret (inb_ret (then_ret (res_slot F rfl rfl ⟨by rw [hres], rfl⟩))))))
   ·
    have hl : letB q = false := decide_eq_false (by omega)
    have hoki : okAt s.data.toList i := ok_byte hq (fun h0 => by subst h0; rw [hq0] at hq; cases hq; exact letB_iff.1 hw) (by unfold letC othC; omega)
    refine wp_rs fun _ K20 => F.mv rfl fun a F => ?_
    refine s_callS [_] F E114 rfl (by decide) ((isLetter74 q w).mono fun e w' h => ⟨by rw [h.1, hl], h.2⟩) fun a F => ?_
    refine F.vl (x_not rfl) fun a F => F.mv rfl fun a F => s_grd 30 F rfl rfl rfl <| F.mv rfl fun a F => s_grd 30 F rfl rfl rfl <| F.vl (lssT (by omega) rfl rfl) fun a F => s_grd 30 F rfl rfl rfl <| F.mv rfl fun a F => s_grdn 33 F rfl rfl (by decide) fun a F => s_grdn 33 F rfl rfl (by decide) fun a F => s_grd 30 F rfl rfl rfl <| F.vl (x_pick (b := true) rfl rfl) fun a F => F.vl (x_pick (b := true) rfl rfl) fun a F => F.mv rfl fun a F => s_grd 38 F rfl rfl rfl <| F.mv rfl fun a F => s_grd 38 F rfl rfl rfl <| F.vl (neqT (by omega) rfl rfl) fun a F => F.vl (x_pick (b := true) rfl rfl) fun a F => F.mv rfl fun a F => s_grd 42 F rfl rfl rfl <| F.mv rfl fun a F => s_grd 42 F rfl rfl rfl <| F.vl (neqF (by omega) rfl rfl) fun a F => F.vl (x_pick (b := true) rfl rfl) fun a F => ?_
    refine s_end (K20 _ _ ?_)
    refine wp_if F rfl ?_
    refine wp_skip (K13 _ _ ?_)
    refine wp_region_lit ?_
    refine F.vl (x_addn (i + 1) (by omega) (by omega) rfl rfl) fun a F => F.mv rfl fun a F => ?_
    refine s_end (hK' _ _ (by omega) ⟨rfl, (fun j hj => by rcases Nat.lt_or_ge j i with h | h; (· exact hok j h); (· rw [show j = i by omega]; exact hoki)), F.sub _ rfl⟩)
   ·
    have hl : letB q = false := decide_eq_false (by omega)
    have hoki : okAt s.data.toList i := ok_byte hq (fun h0 => by subst h0; rw [hq0] at hq; cases hq; exact letB_iff.1 hw) (by unfold letC othC; omega)
    refine wp_rs fun _ K21 => F.mv rfl fun a F => ?_
    refine s_callS [_] F E114 rfl (by decide) ((isLetter74 q w).mono fun e w' h => ⟨by rw [h.1, hl], h.2⟩) fun a F => ?_
    refine F.vl (x_not rfl) fun a F => F.mv rfl fun a F => s_grd 30 F rfl rfl rfl <| F.mv rfl fun a F => s_grd 30 F rfl rfl rfl <| F.vl (lssF (by omega) rfl rfl) fun a F => s_grd 30 F rfl rfl rfl <| F.mv rfl fun a F => s_grd 33 F rfl rfl rfl <| F.mv rfl fun a F => s_grd 33 F rfl rfl rfl <| F.vl (gtrT (by omega) rfl rfl) fun a F => s_grd 30 F rfl rfl rfl <| F.vl (x_pick (b := false) rfl rfl) fun a F => F.vl (x_pick (b := true) rfl rfl) fun a F => F.mv rfl fun a F => s_grd 38 F rfl rfl rfl <| F.mv rfl fun a F => s_grd 38 F rfl rfl rfl <| F.vl (neqF (by omega) rfl rfl) fun a F => F.vl (x_pick (b := true) rfl rfl) fun a F => F.mv rfl fun a F => s_grdn 42 F rfl rfl (by decide) fun a F => s_grdn 42 F rfl rfl (by decide) fun a F => F.vl (x_pick (b := false) rfl rfl) fun a F => ?_
    refine s_end (K21 _ _ ?_)
    refine wp_if F rfl ?_
    refine wp_skip (K13 _ _ ?_)
    refine wp_region_lit ?_
    refine F.vl (x_addn (i + 1) (by omega) (by omega) rfl rfl) fun a F => F.mv rfl fun a F => ?_
    refine s_end (hK' _ _ (by omega) ⟨rfl, (fun j hj => by rcases Nat.lt_or_ge j i with h | h; (· exact hok j h); (· rw [show j = i by omega]; exact hoki)), F.sub _ rfl⟩)
   ·
    have hl : letB q = false := decide_eq_false (by omega)
    have hres : nameB s = false := nameB_of ⟨fun h => absurd h (by decide), fun h => by have := h.1 i q hq; unfold letC othC at this; omega⟩
    refine wp_rs fun _ K22 => F.mv rfl fun a F => ?_
    refine s_callS [_] F E114 rfl (by decide) ((isLetter74 q w).mono fun e w' h => ⟨by rw [h.1, hl], h.2⟩) fun a F => ?_
    refine F.vl (x_not rfl) fun a F => F.mv rfl fun a F => s_grd 30 F rfl rfl rfl <| F.mv rfl fun a F => s_grd 30 F rfl rfl rfl <| F.vl (lssF (by omega) rfl rfl) fun a F => s_grd 30 F rfl rfl rfl <| F.mv rfl fun a F => s_grd 33 F rfl rfl rfl <| F.mv rfl fun a F => s_grd 33 F rfl rfl rfl <| F.vl (gtrT (by omega) rfl rfl) fun a F => s_grd 30 F rfl rfl rfl <| F.vl (x_pick (b := false) rfl rfl) fun a F => F.vl (x_pick (b := true) rfl rfl) fun a F => F.mv rfl fun a F => s_grd 38 F rfl rfl rfl <| F.mv rfl fun a F => s_grd 38 F rfl rfl rfl <| F.vl (neqT (by omega) rfl rfl) fun a F => F.vl (x_pick (b := true) rfl rfl) fun a F => F.mv rfl fun a F => s_grd 42 F rfl rfl rfl <| F.mv rfl fun a F => s_grd 42 F rfl rfl rfl <| F.vl (neqT (by omega) rfl rfl) fun a F => F.vl (x_pick (b := true) rfl rfl) fun a F => ?_
    refine s_end (K22 _ _ ?_)
    refine wp_if F rfl ?_
    refine wp_rs fun _ K23 => F.sg rfl fun a F => ?_
    refine s_end (K23 _ _ ?_)
    refine wp_ret (inb_ret (then_ret (then_ret (inb_ret (then_ret (res_slot F rfl rfl ⟨by rw [hres], rfl⟩))))))
   ·
    have hl : letB q = false := decide_eq_false (by omega)
    have hoki : okAt s.data.toList i := ok_byte hq (fun h0 => by subst h0; rw [hq0] at hq; cases hq; exact letB_iff.1 hw) (by unfold letC othC; omega)
    refine wp_rs fun _ K24 => F.mv rfl fun a F => ?_
    refine s_callS [_] F E114 rfl (by decide) ((isLetter74 q w).mono fun e w' h => ⟨by rw [h.1, hl], h.2⟩) fun a F => ?_
    refine F.vl (x_not rfl) fun a F => F.mv rfl fun a F => s_grd 30 F rfl rfl rfl <| F.mv rfl fun a F => s_grd 30 F rfl rfl rfl <| F.vl (lssF (by omega) rfl rfl) fun a F => s_grd 30 F rfl rfl rfl <| F.mv rfl fun a F => s_grd 33 F rfl rfl rfl <| F.mv rfl fun a F => s_grd 33 F rfl rfl rfl <| F.vl (gtrF (by omega) rfl rfl) fun a F => s_grd 30 F rfl rfl rfl <| F.vl (x_pick (b := false) rfl rfl) fun a F => F.vl (x_pick (b := true) rfl rfl) fun a F => F.mv rfl fun a F => s_grdn 38 F rfl rfl (by decide) fun a F => s_grdn 38 F rfl rfl (by decide) fun a F => F.vl (x_pick (b := false) rfl rfl) fun a F => F.mv rfl fun a F => s_grdn 42 F rfl rfl (by decide) fun a F => s_grdn 42 F rfl rfl (by decide) fun a F => F.vl (x_pick (b := false) rfl rfl) fun a F => ?_
    refine s_end (K24 _ _ ?_)
    refine wp_if F rfl ?_
    refine wp_skip (K13 _ _ ?_)
    refine wp_region_lit ?_
    refine F.vl (x_addn (i + 1) (by omega) (by omega) rfl rfl) fun a F => F.mv rfl fun a F => ?_
    refine s_end (hK' _ _ (by omega) ⟨rfl, (fun j hj => by rcases Nat.lt_or_ge j i with h | h; (· exact hok j h); (· rw [show j = i by omega]; exact hoki)), F.sub _ rfl⟩)
  ·
   obtain rfl : i = s.size := by omega
   have hall : ∀ j, okAt s.data.toList j := fun j c hc => by have hj := (List.getElem?_eq_some_iff.1 hc).1; rw [size_list] at hj; exact hok j hj c hc
   have hres : nameB s = true := nameB_of ⟨fun _ => ⟨hall, by rw [size_list]; omega, by rw [size_list]; omega⟩, fun _ => rfl⟩
   refine wp_exit (K9 _ _ ?_)
   refine wp_rs fun _ K25 => F.sg rfl fun a F => ?_
   refine s_end (K25 _ _ ?_)
   refine wp_ret (res_slot F rfl rfl ⟨by rw [hres], rfl⟩)
 ·
  have hres : nameB s = false := nameB_of ⟨fun h => absurd h (by decide), fun h => by have h1 := h.1 0 q0 hq0; rcases h1 with h1 | h1; (· rw [letB_iff.2 h1] at hw; cases hw); (· exact absurd rfl h1.1)⟩
  refine wp_rs fun _ K26 => F.mv rfl fun a F => F.vl (x_lenS Try.underlying9 rfl) fun a F => F.vl (eqlF (by omega) rfl rfl) fun a F => F.mv rfl fun a F => s_grd 8 F rfl rfl rfl <| F.mv rfl fun a F => s_grd 8 F rfl rfl rfl <| F.vl (x_lenS Try.underlying9 rfl) fun a F => s_grd 8 F rfl rfl rfl <| F.vl (gtrF (by omega) rfl rfl) fun a F => F.vl (x_pick (b := false) rfl rfl) fun a F => F.mv rfl fun a F => s_grd 13 F rfl rfl rfl <| F.mv rfl fun a F => s_grd 13 F rfl rfl rfl <| F.vl (x_ix rfl rfl (m_ixstr 0 Try.underlying9 rfl hq0)) fun a F => s_grd 13 F rfl rfl rfl ?_
  refine s_callS [_] F E114 rfl (by decide) ((isLetter74 q0 w0).mono fun e w' h => ⟨by rw [h.1, hw], h.2⟩) fun a F => ?_
  refine s_grd 13 F rfl rfl rfl <| F.vl (x_not rfl) fun a F => F.vl (x_pick (b := false) rfl rfl) fun a F => ?_
  refine s_end (K26 _ _ ?_)
  refine wp_if F rfl ?_
  refine wp_rs fun _ K27 => F.sg rfl fun a F => ?_
  refine s_end (K27 _ _ ?_)
  refine wp_ret (then_ret (res_slot F rfl rfl ⟨by rw [hres], rfl⟩))
theorem mayConst111 (vars : Int) (s : ByteArray) (ls : List Lv) (m : Nat) (x : C8) (w0 : World) (hx : RC w0 (fun k => k < w0.heap.size) (.cst s ls m) x) (hfit : s.size ≤ 9223372036854775807 ∧ ls.length ≤ 9223372036854775807) : Calls Try.prog 145 #[tv x, .int .i64 vars] w0 fun e w' => e = .returned (.int .i64 (leafErr vars (.cst s ls m))) ∧ Below w0.heap.size w0 w' := by
 obtain ⟨xk, xn, xs, xl, xls, xts⟩ := x
 have hone := hx.one
 have hs9 : xs = s := hx.2.1
 have hls9 : RVn w0 _ xls ls := hx.2.2.1
 obtain ⟨la, lcp, hlv, _, _⟩ := hls9.form
 subst hs9 hlv
 have hB := Below.refl w0.heap.size w0
 have sB := hB.size
 refine calls_fs 30 [(0, tv ⟨xk, xn, xs, xl, .slice la ls.length lcp, xts⟩), (1, .int .i64 vars)] Try.func145 rfl rfl rfl rfl rfl fun a F => ?_
 refine wp_rs fun _ K1 => ?_
 refine s_box ([.int .i64 xk, .int .i64 xn, .string xs, .int .i64 xl.1, .int .i64 xl.2.1, xl.2.2, .slice la ls.length lcp, xts]) F (by decide) rfl rfl fun w2 b2 a eb2 m2 B3 zb2 F => ?_
 have sB3 := B3.size
 have hB := bt hB B3
 refine F.sg rfl fun a F => ?_
 refine s_end (K1 _ _ ?_)
 refine wp_seq_k fun _ K2 => ?_
 rcases (show nameB xs = false ∨ nameB xs = true by cases nameB xs <;> simp) with hw | hw
 ·
  have hres : leafErr vars (.cst xs ls m) = 8 := by simp only [leafErr]; rw [if_pos hw]
  refine wp_rs fun _ K4 => F.vl (x_fa0 fa27_2 rfl) fun a F => F.ld m2 flat9 rfl rfl fun a F => ?_
  refine s_callS [_] F E69 rfl (by decide) ((Name31 xs w2 hfit.1).mono fun e w' h => ⟨by rw [h.1, hw], h.2⟩) fun a F => ?_
  refine F.vl (x_not rfl) fun a F => ?_
  refine s_end (K4 _ _ ?_)
  refine wp_if F rfl ?_
  refine wp_rs fun _ K5 => F.sg rfl fun a F => ?_
  refine s_end (K5 _ _ ?_)
  refine wp_ret (then_ret (res_slot F rfl rfl ⟨by rw [hres], hB⟩))
 ·
  skip
  refine wp_rs fun _ K6 => F.vl (x_fa0 fa27_2 rfl) fun a F => F.ld m2 flat9 rfl rfl fun a F => ?_
  refine s_callS [_] F E69 rfl (by decide) ((Name31 xs w2 hfit.1).mono fun e w' h => ⟨by rw [h.1, hw], h.2⟩) fun a F => ?_
  refine F.vl (x_not rfl) fun a F => ?_
  refine s_end (K6 _ _ ?_)
  refine wp_if F rfl ?_
  refine wp_skip (K2 _ _ ?_)
  refine wp_seq_k fun _ K7 => ?_
  rcases (show 6 < (ls.length : Int) ∨ ¬ 6 < (ls.length : Int) by omega) with hv | hv
  ·
   have hres : leafErr vars (.cst xs ls m) = 2 := by simp only [leafErr]; rw [if_neg (by rw [hw]; decide), if_pos (by omega)]
   refine wp_rs fun _ K9 => F.vl (x_fa0 fa27_4 rfl) fun a F => F.ld m2 flat22 rfl rfl fun a F => F.vl (x_len Try.underlying22 rfl) fun a F => F.vl (gtrT (by omega) rfl rfl) fun a F => ?_
   refine s_end (K9 _ _ ?_)
   refine wp_if F rfl ?_
   refine wp_rs fun _ K10 => F.sg rfl fun a F => ?_
   refine s_end (K10 _ _ ?_)
   refine wp_ret (then_ret (res_slot F rfl rfl ⟨by rw [hres], hB⟩))
  ·
   have hle0 : leafErr vars (.cst xs ls m) = fstErr vars ls := by simp only [leafErr]; rw [if_neg (by rw [hw]; decide), if_neg (by omega)]
   refine wp_rs fun _ K11 => F.vl (x_fa0 fa27_4 rfl) fun a F => F.ld m2 flat22 rfl rfl fun a F => F.vl (x_len Try.underlying22 rfl) fun a F => F.vl (gtrF (by omega) rfl rfl) fun a F => ?_
   refine s_end (K11 _ _ ?_)
   refine wp_if F rfl ?_
   refine wp_skip (K7 _ _ ?_)
   refine wp_seq_k fun _ K12 => ?_
   refine wp_rs fun _ K13 => F.vl (x_fa0 fa27_4 rfl) fun a F => F.ld m2 flat22 rfl rfl fun a F => F.vl (x_len Try.underlying22 rfl) fun a F => F.mv rfl fun a F => ?_
   refine s_end (K13 _ _ ?_)
   refine wp_block ?_
   refine wp_up ls.length (fun i a w => leafErr vars (.cst xs ls m) = fstErr vars (ls.drop i) ∧ Below w0.heap.size w0 w ∧ Fs 30 a [(1, .int .i64 vars), (17, .slice la ls.length lcp), (18, .int .i64 (ls.length : Int)), (19, .int .i64 (i : Int))]) ⟨by simpa using hle0, hB, F.sub _ rfl⟩ ?_
   repeat clear F
   clear hB m2
   rintro i a w hi ⟨hlei, hB, F⟩ K' hK'
   have sB := hB.size
   refine wp_rs fun _ K14 => F.vl (x_lss (b := decide (i < ls.length)) (decide_eq_decide.2 (by omega)) rfl rfl) fun a F => ?_
   refine s_end (K14 _ _ ?_)
   refine wp_seq_k fun _ K15 => ?_
   refine wp_iff F rfl (fun hc20 => ?_) (fun hc20 => ?_)
   ·
    obtain ⟨b9, off9, c9, y, l, hve, hl, hry, hAb, hbl, hrow⟩ := hls9.row (i := i) (by omega)
    cases hve
    have hfe := fstErr_at (vars := vars) hl
    have h1y := hry.rl.one1
    refine wp_skip (K15 _ _ ?_)
    refine wp_seq_k fun _ K16 => ?_
    refine wp_block ?_
    refine wp_rs fun _ K17 => F.vl (x_ixa rfl rfl (m_ixsK i Try.underlying22 el22.size rfl (by omega))) fun a F => F.vl (x_ldA wide24 (hrow _ (hB.block _ hbl)) rfl rfl) fun a F => ?_
    refine s_alloc F (by decide) zero24 fun w4 b6 a eb6 m6 B5 zb6 F => ?_
    have sB5 := B5.size
    have hB := bt hB B5
    refine s_putW F rfl rfl (size_wide wide24) m6 rfl (one_lc h1y) fun w8 m6 o9 => ?_
    have so9 := o9.size
    have hB := hB.trans (o9.below (by omega))
    refine s_end (K17 _ _ ?_)
    refine wp_rs fun _ K18 => F.vl (x_ldW wide24 m6 rfl rfl) fun a F => F.mv rfl fun a F => ?_
    refine s_callB [_, _] F E144 rfl (by decide) (may13 y l vars w8 ((hry.keep hB.size (fun k hk _ => hB.block k hk)).rl)) fun w10 a B11 F => ?_
    have sB11 := B11.size
    have hB := bt hB B11
    refine F.sg rfl fun a F => ?_
    refine s_end (K18 _ _ ?_)
    refine wp_rs fun _ K19 => F.mv rfl fun a F => F.vl (x_neq rfl rfl rfl) fun a F => ?_
    refine s_end (K19 _ _ ?_)
    refine wp_iff F rfl (fun hc27 => ?_) (fun hc27 => ?_)
    ·
     rw [hfe, if_pos hc27] at hlei
     have hres := hlei
     refine wp_rs fun _ K20 => F.mv rfl fun a F => F.sg rfl fun a F => ?_
     refine s_end (K20 _ _ ?_)
     refine wp_ret (inb_ret (then_ret (then_ret (inb_ret (then_ret (res_slot F rfl rfl ⟨by rw [hres], hB⟩))))))
    ·
     rw [hfe, if_neg hc27] at hlei
     refine wp_skip (K16 _ _ ?_)
     refine wp_region_lit ?_
     refine F.vl (x_addn (i + 1) (by omega) (by have := hfit.2; omega) rfl rfl) fun a F => F.mv rfl fun a F => ?_
     refine s_end (hK' _ _ (by omega) ⟨hlei, hB, F.sub _ rfl⟩)
   ·
    obtain rfl : i = ls.length := by omega
    rw [List.drop_length] at hlei
    have hres : leafErr vars (.cst xs ls m) = 0 := hlei
    refine wp_exit (K12 _ _ ?_)
    refine wp_rs fun _ K21 => F.sg rfl fun a F => ?_
    refine s_end (K21 _ _ ?_)
    refine wp_ret (res_slot F rfl rfl ⟨by rw [hres], hB⟩)
noncomputable def errE (vars : Int) (c : CT) : Int := if arT c.kd < 0 ∨ (c.len : Int) ≠ arT c.kd then 1 else leafErr vars c
theorem nodeErr_E9 (vars d : Int) (n : Nat) (c : CT) : nodeErr vars d n c = if 64 < d ∨ 400 < n then 2 else errE vars c := rfl
theorem mayNode72 (vars : Int) (c : CT) (x : C8) (w0 : World) (hx : RC w0 (fun k => k < w0.heap.size) c x) (hfit : c.fit) : Calls Try.prog 115 #[tv x, .int .i64 vars] w0 fun e w' => e = .returned (.int .i64 (errE vars c)) ∧ Below w0.heap.size w0 w' := by
 obtain ⟨av, nv, cv, hts, hle9, hlen9, hcap, hkid⟩ := hx.kids
 obtain ⟨xk, xn, xs, xl, xls, xts⟩ := x
 simp only at hts
 subst hts
 have hkd : xk = c.kd := hx.kd
 have hone := hx.one
 have hak : arT xk = arT c.kd := by rw [hkd]
 have hB := Below.refl w0.heap.size w0
 have sB := hB.size
 refine calls_fs 45 [(0, tv ⟨xk, xn, xs, xl, xls, .slice av nv cv⟩), (1, .int .i64 vars)] Try.func115 rfl rfl rfl rfl rfl fun a F => ?_
 refine wp_rs fun _ K1 => ?_
 refine s_box ([.int .i64 xk, .int .i64 xn, .string xs, .int .i64 xl.1, .int .i64 xl.2.1, xl.2.2, xls, .slice av nv cv]) F (by decide) rfl rfl fun w2 b2 a eb2 m2 B3 zb2 F => ?_
 have sB3 := B3.size
 have hB := bt hB B3
 refine F.sg rfl fun a F => ?_
 refine s_end (K1 _ _ ?_)
 refine wp_seq_k fun _ K2 => ?_
 rcases (show arT xk < 0 ∨ (¬ arT xk < 0 ∧ (nv : Int) ≠ max 0 (arT xk)) ∨ (¬ arT xk < 0 ∧ (nv : Int) = max 0 (arT xk)) by omega) with hy | hy | hy
 ·
  have hres : errE vars c = 1 := if_pos (by omega)
  refine wp_rs fun _ K4 => F.vl (x_fa0 fa27_0 rfl) fun a F => F.ld m2 flat3 rfl rfl fun a F => ?_
  refine s_callS [_] F E122 rfl (by decide) ((arity109 xk w2).mono fun e w' h => ⟨(by rw [h.1, decide_eq_false (by omega)] : e = .returned (.tuple #[.int .i64 (max 0 (arT xk)), .bool false])), h.2⟩) fun a F => ?_
  refine F.mv rfl fun a F => F.vl (x_ext rfl rfl) fun a F => F.vl (x_ext rfl rfl) fun a F => F.sg rfl fun a F => F.sg rfl fun a F => ?_
  refine s_end (K4 _ _ ?_)
  refine wp_rs fun _ K5 => F.mv rfl fun a F => F.vl (x_not rfl) fun a F => F.mv rfl fun a F => s_grdn 15 F rfl rfl (by decide) fun a F => s_grdn 15 F rfl rfl (by decide) fun a F => s_grdn 15 F rfl rfl (by decide) fun a F => s_grdn 15 F rfl rfl (by decide) fun a F => s_grdn 15 F rfl rfl (by decide) fun a F => F.vl (x_pick (b := true) rfl rfl) fun a F => ?_
  refine s_end (K5 _ _ ?_)
  refine wp_if F rfl ?_
  refine wp_rs fun _ K6 => F.sg rfl fun a F => ?_
  refine s_end (K6 _ _ ?_)
  refine wp_ret (then_ret (res_slot F rfl rfl ⟨by rw [hres], hB⟩))
 ·
  have hres : errE vars c = 1 := if_pos (by omega)
  refine wp_rs fun _ K7 => F.vl (x_fa0 fa27_0 rfl) fun a F => F.ld m2 flat3 rfl rfl fun a F => ?_
  refine s_callS [_] F E122 rfl (by decide) ((arity109 xk w2).mono fun e w' h => ⟨(by rw [h.1, decide_eq_true (by omega)] : e = .returned (.tuple #[.int .i64 (max 0 (arT xk)), .bool true])), h.2⟩) fun a F => ?_
  refine F.mv rfl fun a F => F.vl (x_ext rfl rfl) fun a F => F.vl (x_ext rfl rfl) fun a F => F.sg rfl fun a F => F.sg rfl fun a F => ?_
  refine s_end (K7 _ _ ?_)
  refine wp_rs fun _ K8 => F.mv rfl fun a F => F.vl (x_not rfl) fun a F => F.mv rfl fun a F => s_grd 15 F rfl rfl rfl <| F.vl (x_fa0 fa27_5 rfl) fun a F => s_grd 15 F rfl rfl rfl <| F.ld m2 flat25 rfl rfl fun a F => s_grd 15 F rfl rfl rfl <| F.vl (x_len Try.underlying25 rfl) fun a F => s_grd 15 F rfl rfl rfl <| F.mv rfl fun a F => s_grd 15 F rfl rfl rfl <| F.vl (neqT (by omega) rfl rfl) fun a F => F.vl (x_pick (b := false) rfl rfl) fun a F => ?_
  refine s_end (K8 _ _ ?_)
  refine wp_if F rfl ?_
  refine wp_rs fun _ K9 => F.sg rfl fun a F => ?_
  refine s_end (K9 _ _ ?_)
  refine wp_ret (then_ret (res_slot F rfl rfl ⟨by rw [hres], hB⟩))
 ·
  skip
  refine wp_rs fun _ K10 => F.vl (x_fa0 fa27_0 rfl) fun a F => F.ld m2 flat3 rfl rfl fun a F => ?_
  refine s_callS [_] F E122 rfl (by decide) ((arity109 xk w2).mono fun e w' h => ⟨(by rw [h.1, decide_eq_true (by omega)] : e = .returned (.tuple #[.int .i64 (max 0 (arT xk)), .bool true])), h.2⟩) fun a F => ?_
  refine F.mv rfl fun a F => F.vl (x_ext rfl rfl) fun a F => F.vl (x_ext rfl rfl) fun a F => F.sg rfl fun a F => F.sg rfl fun a F => ?_
  refine s_end (K10 _ _ ?_)
  refine wp_rs fun _ K11 => F.mv rfl fun a F => F.vl (x_not rfl) fun a F => F.mv rfl fun a F => s_grd 15 F rfl rfl rfl <| F.vl (x_fa0 fa27_5 rfl) fun a F => s_grd 15 F rfl rfl rfl <| F.ld m2 flat25 rfl rfl fun a F => s_grd 15 F rfl rfl rfl <| F.vl (x_len Try.underlying25 rfl) fun a F => s_grd 15 F rfl rfl rfl <| F.mv rfl fun a F => s_grd 15 F rfl rfl rfl <| F.vl (neqF (by omega) rfl rfl) fun a F => F.vl (x_pick (b := false) rfl rfl) fun a F => ?_
  refine s_end (K11 _ _ ?_)
  refine wp_if F rfl ?_
  refine wp_skip (K2 _ _ ?_)
  refine wp_seq_k fun _ K12 => ?_
  rcases (show (xk = 1 ∧ xn < 0) ∨ (xk = 1 ∧ ¬ xn < 0 ∧ 1048576 < xn) ∨ (xk = 1 ∧ ¬ xn < 0 ∧ ¬ 1048576 < xn) ∨ xk = 2 ∨ xk = 7 ∨ (xk ≠ 1 ∧ xk ≠ 2 ∧ xk ≠ 7) by omega) with hq | hq | hq | hq | hq | hq
  ·
   have hlf : errE vars c = leafErr vars c := if_neg (by omega)
   obtain ⟨z, m, rfl⟩ := hx.var_of hq.1
   have hzn : xn = z := hx.2.1
   have hres : errE vars (.var z m) = 1 := by rw [hlf]; simp only [leafErr]; rw [if_pos (by omega)]
   refine wp_rs fun _ K14 => F.vl (x_fa0 fa27_0 rfl) fun a F => F.ld m2 flat3 rfl rfl fun a F => ?_
   refine s_end (K14 _ _ ?_)
   refine wp_block ?_
   refine wp_rs fun _ K15 => F.vl (eqlT (by omega) rfl rfl) fun a F => F.sg rfl fun a F => ?_
   refine s_end (K15 _ _ ?_)
   refine wp_if F rfl ?_
   refine wp_rs fun _ K16 => F.vl (x_fa0 fa27_1 rfl) fun a F => F.ld m2 flat3 rfl rfl fun a F => F.vl (lssT (by omega) rfl rfl) fun a F => F.mv rfl fun a F => s_grdn 29 F rfl rfl (by decide) fun a F => s_grdn 29 F rfl rfl (by decide) fun a F => s_grdn 29 F rfl rfl (by decide) fun a F => F.vl (x_pick (b := true) rfl rfl) fun a F => ?_
   refine s_end (K16 _ _ ?_)
   refine wp_if F rfl ?_
   refine wp_rs fun _ K17 => F.sg rfl fun a F => ?_
   refine s_end (K17 _ _ ?_)
   refine wp_ret (inb_ret (then_ret (res_slot F rfl rfl ⟨by rw [hres], hB⟩)))
  ·
   have hlf : errE vars c = leafErr vars c := if_neg (by omega)
   obtain ⟨z, m, rfl⟩ := hx.var_of hq.1
   have hzn : xn = z := hx.2.1
   have hres : errE vars (.var z m) = 1 := by rw [hlf]; simp only [leafErr]; rw [if_pos (by omega)]
   refine wp_rs fun _ K18 => F.vl (x_fa0 fa27_0 rfl) fun a F => F.ld m2 flat3 rfl rfl fun a F => ?_
   refine s_end (K18 _ _ ?_)
   refine wp_block ?_
   refine wp_rs fun _ K19 => F.vl (eqlT (by omega) rfl rfl) fun a F => F.sg rfl fun a F => ?_
   refine s_end (K19 _ _ ?_)
   refine wp_if F rfl ?_
   refine wp_rs fun _ K20 => F.vl (x_fa0 fa27_1 rfl) fun a F => F.ld m2 flat3 rfl rfl fun a F => F.vl (lssF (by omega) rfl rfl) fun a F => F.mv rfl fun a F => s_grd 29 F rfl rfl rfl <| F.vl (x_fa0 fa27_1 rfl) fun a F => s_grd 29 F rfl rfl rfl <| F.ld m2 flat3 rfl rfl fun a F => s_grd 29 F rfl rfl rfl <| F.vl (gtrT (by omega) rfl rfl) fun a F => F.vl (x_pick (b := false) rfl rfl) fun a F => ?_
   refine s_end (K20 _ _ ?_)
   refine wp_if F rfl ?_
   refine wp_rs fun _ K21 => F.sg rfl fun a F => ?_
   refine s_end (K21 _ _ ?_)
   refine wp_ret (inb_ret (then_ret (res_slot F rfl rfl ⟨by rw [hres], hB⟩)))
  ·
   have hlf : errE vars c = leafErr vars c := if_neg (by omega)
   obtain ⟨z, m, rfl⟩ := hx.var_of hq.1
   have hzn : xn = z := hx.2.1
   have hres : errE vars (.var z m) = 0 := by rw [hlf]; simp only [leafErr]; rw [if_neg (by omega)]
   refine wp_rs fun _ K22 => F.vl (x_fa0 fa27_0 rfl) fun a F => F.ld m2 flat3 rfl rfl fun a F => ?_
   refine s_end (K22 _ _ ?_)
   refine wp_block ?_
   refine wp_rs fun _ K23 => F.vl (eqlT (by omega) rfl rfl) fun a F => F.sg rfl fun a F => ?_
   refine s_end (K23 _ _ ?_)
   refine wp_if F rfl ?_
   refine wp_rs fun _ K24 => F.vl (x_fa0 fa27_1 rfl) fun a F => F.ld m2 flat3 rfl rfl fun a F => F.vl (lssF (by omega) rfl rfl) fun a F => F.mv rfl fun a F => s_grd 29 F rfl rfl rfl <| F.vl (x_fa0 fa27_1 rfl) fun a F => s_grd 29 F rfl rfl rfl <| F.ld m2 flat3 rfl rfl fun a F => s_grd 29 F rfl rfl rfl <| F.vl (gtrF (by omega) rfl rfl) fun a F => F.vl (x_pick (b := false) rfl rfl) fun a F => ?_
   refine s_end (K24 _ _ ?_)
   refine wp_if F rfl ?_
   refine wp_skip (K12 _ _ ?_)
   refine wp_rs fun _ K25 => F.sg rfl fun a F => ?_
   refine s_end (K25 _ _ ?_)
   refine wp_ret (res_slot F rfl rfl ⟨by rw [hres], hB⟩)
  ·
   obtain ⟨l, m, rfl⟩ := hx.sort_of hq
   have hres : errE vars (.sort l m) = (chk 32 1048576 vars 1 100 l).1 := if_neg (by omega)
   refine wp_rs fun _ K26 => F.vl (x_fa0 fa27_0 rfl) fun a F => F.ld m2 flat3 rfl rfl fun a F => ?_
   refine s_end (K26 _ _ ?_)
   refine wp_block ?_
   refine wp_rs fun _ K27 => F.vl (eqlF (by omega) rfl rfl) fun a F => F.sg rfl fun a F => ?_
   refine s_end (K27 _ _ ?_)
   refine wp_if F rfl ?_
   refine wp_rs fun _ K28 => F.vl (eqlT (by omega) rfl rfl) fun a F => F.sg rfl fun a F => ?_
   refine s_end (K28 _ _ ?_)
   refine wp_if F rfl ?_
   refine wp_rs fun _ K29 => F.vl (x_fa0 fa27_3 rfl) fun a F => F.vl (x_load rfl (m_loadP (vs := [_, _, _]) wide24 m2 rfl)) fun a F => F.mv rfl fun a F => ?_
   have hl9 : RLn w0 _ xl l := hx.2.1
   refine s_callB [_, _] F E144 rfl (by decide) (may13 xl l vars w2 ((hl9.keep hB.size (fun k hk _ => hB.block k hk)).rl)) fun w4 a B5 F => ?_
   have sB5 := B5.size
   have hB := bt hB B5
   refine F.sg rfl fun a F => ?_
   refine s_end (K29 _ _ ?_)
   refine wp_ret (inb_ret (then_ret (res_slot F rfl rfl ⟨by rw [hres], hB⟩)))
  ·
   obtain ⟨s, ls, m, rfl⟩ := hx.cst_of hq
   have hres : errE vars (.cst s ls m) = leafErr vars (.cst s ls m) := if_neg (by omega)
   refine wp_rs fun _ K30 => F.vl (x_fa0 fa27_0 rfl) fun a F => F.ld m2 flat3 rfl rfl fun a F => ?_
   refine s_end (K30 _ _ ?_)
   refine wp_block ?_
   refine wp_rs fun _ K31 => F.vl (eqlF (by omega) rfl rfl) fun a F => F.sg rfl fun a F => ?_
   refine s_end (K31 _ _ ?_)
   refine wp_if F rfl ?_
   refine wp_rs fun _ K32 => F.vl (eqlF (by omega) rfl rfl) fun a F => F.sg rfl fun a F => ?_
   refine s_end (K32 _ _ ?_)
   refine wp_if F rfl ?_
   refine wp_rs fun _ K33 => F.vl (eqlT (by omega) rfl rfl) fun a F => F.sg rfl fun a F => ?_
   refine s_end (K33 _ _ ?_)
   refine wp_if F rfl ?_
   refine wp_rs fun _ K34 => F.vl (x_ldW wide27 m2 rfl rfl) fun a F => F.mv rfl fun a F => ?_
   refine s_callB [_, _] F E145 rfl (by decide) (mayConst111 vars s ls m ⟨xk, xn, xs, xl, xls, .slice av nv cv⟩ w2 (hx.bel hB) hfit) fun w6 a B7 F => ?_
   have sB7 := B7.size
   have hB := bt hB B7
   refine F.sg rfl fun a F => ?_
   refine s_end (K34 _ _ ?_)
   refine wp_ret (inb_ret (then_ret (res_slot F rfl rfl ⟨by rw [hres], hB⟩)))
  ·
   have hlf : errE vars c = leafErr vars c := if_neg (by omega)
   have hres := hlf.trans (leafErr_rest hx hq)
   refine wp_rs fun _ K35 => F.vl (x_fa0 fa27_0 rfl) fun a F => F.ld m2 flat3 rfl rfl fun a F => ?_
   refine s_end (K35 _ _ ?_)
   refine wp_block ?_
   refine wp_rs fun _ K36 => F.vl (eqlF (by omega) rfl rfl) fun a F => F.sg rfl fun a F => ?_
   refine s_end (K36 _ _ ?_)
   refine wp_if F rfl ?_
   refine wp_rs fun _ K37 => F.vl (eqlF (by omega) rfl rfl) fun a F => F.sg rfl fun a F => ?_
   refine s_end (K37 _ _ ?_)
   refine wp_if F rfl ?_
   refine wp_rs fun _ K38 => F.vl (eqlF (by omega) rfl rfl) fun a F => F.sg rfl fun a F => ?_
   refine s_end (K38 _ _ ?_)
   refine wp_if F rfl ?_
   refine wp_skip (K12 _ _ ?_)
   refine wp_rs fun _ K39 => F.sg rfl fun a F => ?_
   refine s_end (K39 _ _ ?_)
   refine wp_ret (res_slot F rfl rfl ⟨by rw [hres], hB⟩)
noncomputable def listErr (vars : Int) : Nat → List (Int × CT) → Int
 | _, [] => 0
 | n, (d, c) :: l => if nodeErr vars d (n + 1) c ≠ 0 then nodeErr vars d (n + 1) c else listErr vars (n + 1) l
theorem listErr_app (vars : Int) : ∀ (p q : List (Int × CT)) (n : Nat), listErr vars n (p ++ q) = if listErr vars n p ≠ 0 then listErr vars n p else listErr vars (n + p.length) q
 | [], q, n => by simp [listErr]
 | (d, c) :: p, q, n => by
  simp only [List.cons_append, listErr]
  split
  ·
   rfl
  ·
   next h => rw [listErr_app vars p q (n + 1), List.length_cons, show n + (p.length + 1) = n + 1 + p.length by omega]
theorem listErr_one {vars : Int} {n : Nat} {d : Int} {c : CT} : listErr vars n [(d, c)] = nodeErr vars d (n + 1) c := by
 simp only [listErr]
 split
 ·
  rfl
 ·
  omega
theorem listErr_node (vars : Int) : ∀ (c : CT) (d : Int) (n : Nat), listErr vars n (c.nodes d) = (c.mayT vars d n).1 ∧ ((c.mayT vars d n).1 = 0 → (c.mayT vars d n).2 = n + (c.nodes d).length)
 | .two k a b m, d, n => by
  obtain ⟨a1, a2⟩ := listErr_node vars a (d + 1) (n + 1)
  obtain ⟨b1, b2⟩ := listErr_node vars b (d + 1) (n + 1 + (a.nodes (d + 1)).length)
  simp only [CT.nodes, listErr, CT.mayT]
  rw [listErr_app, a1, b1]
  split
  ·
   next h => exact ⟨rfl, fun h2 => absurd h2 h⟩
  ·
   next h =>
   split
   ·
    next h2 => exact ⟨rfl, fun h3 => absurd h3 h2⟩
   ·
    next h2 =>
    rw [a2 (by omega)]
    refine ⟨rfl, fun h3 => ?_⟩
    rw [b2 h3, List.length_cons, List.length_append]; omega
 | .lt a b c m, d, n => by
  obtain ⟨a1, a2⟩ := listErr_node vars a (d + 1) (n + 1)
  obtain ⟨b1, b2⟩ := listErr_node vars b (d + 1) (n + 1 + (a.nodes (d + 1)).length)
  obtain ⟨c1, c2⟩ := listErr_node vars c (d + 1) (n + 1 + (a.nodes (d + 1)).length + (b.nodes (d + 1)).length)
  simp only [CT.nodes, listErr, CT.mayT]
  rw [listErr_app, listErr_app, a1, b1, c1]
  split
  ·
   next h => exact ⟨rfl, fun h2 => absurd h2 h⟩
  ·
   next h =>
   split
   ·
    next h2 => exact ⟨rfl, fun h3 => absurd h3 h2⟩
   ·
    next h2 =>
    rw [a2 (by omega)]
    split
    ·
     next h3 => exact ⟨rfl, fun h4 => absurd h4 h3⟩
    ·
     next h3 =>
     rw [b2 (by omega)]
     refine ⟨rfl, fun h4 => ?_⟩
     rw [c2 h4, List.length_cons, List.length_append, List.length_append]; omega
 | .var z m, d, n => ⟨listErr_one, fun _ => rfl⟩
 | .sort l m, d, n => ⟨listErr_one, fun _ => rfl⟩
 | .cst s l m, d, n => ⟨listErr_one, fun _ => rfl⟩
 | .odd k m, d, n => ⟨listErr_one, fun _ => rfl⟩
theorem nodes_fit : ∀ (c : CT) (d : Int), c.fit → ∀ e ∈ c.nodes d, e.2.fit
 | .two k a b m, d, h, e, he => by
  simp only [CT.nodes, List.mem_cons, List.mem_append] at he
  rcases he with rfl | he | he
  ·
   exact h
  ·
   exact nodes_fit a _ h.1 e he
  ·
   exact nodes_fit b _ h.2 e he
 | .lt a b c m, d, h, e, he => by
  simp only [CT.nodes, List.mem_cons, List.mem_append] at he
  rcases he with rfl | he | he | he
  ·
   exact h
  ·
   exact nodes_fit a _ h.1 e he
  ·
   exact nodes_fit b _ h.2.1 e he
  ·
   exact nodes_fit c _ h.2.2 e he
 | .var .., d, h, e, he => by simp [CT.nodes] at he; subst he; exact h
 | .sort .., d, h, e, he => by simp [CT.nodes] at he; subst he; exact h
 | .cst .., d, h, e, he => by simp [CT.nodes] at he; subst he; exact h
 | .odd .., d, h, e, he => by simp [CT.nodes] at he; subst he; exact h
theorem listErr_snoc {vars : Int} {p : List (Int × CT)} {e : Int × CT} (h : listErr vars 0 p = 0) : listErr vars 0 (p ++ [e]) = nodeErr vars e.1 (p.length + 1) e.2 := by
 rw [listErr_app, if_neg (by omega)]
 simp only [listErr, Nat.zero_add]
 split <;> omega
theorem listErr_pre {vars : Int} {p q : List (Int × CT)} (hp : p <+: q) (h : listErr vars 0 p ≠ 0) : listErr vars 0 q = listErr vars 0 p := by
 obtain ⟨t, rfl⟩ := hp
 rw [listErr_app, if_pos h]
theorem May29 (vars : Int) (c : CT) (x : C8) (w0 : World) (hx : RC w0 (fun k => k < w0.heap.size) c x) (hfit : c.fit) : Calls Try.prog 70 #[tv x, .int .i64 vars] w0 fun e w' => e = .returned (.int .i64 (c.mayT vars 1 0).1) ∧ Below w0.heap.size w0 w' := by
 have hLE := (listErr_node vars c 1 0).1
 have hB := Below.refl w0.heap.size w0
 have sB := hB.size
 refine calls_fsM 27 [(0, tv x), (1, .int .i64 vars)] Try.func70 rfl rfl rfl rfl rfl fun a F => ?_
 refine wp_rs fun _ K1 => ?_
 refine s_box (tc x) F (by decide) rfl rfl fun w2 b2 a eb2 m2 B3 zb2 F => ?_
 have sB3 := B3.size
 have hB := bt hB B3
 refine s_box ([.int .i64 vars]) F (by decide) rfl rfl fun w4 b3 a eb3 m3 B5 zb3 F => ?_
 have sB5 := B5.size
 have hB := bt hB B5
 have m2 := m2.old B5
 refine s_alloc1 F (by decide) zero43 rfl fun w6 b4 a eb4 m4 B7 zb4 F => ?_
 have sB7 := B7.size
 have hB := bt hB B7
 have m2 := m2.old B7
 have m3 := m3.old B7
 refine s_end (K1 _ _ ?_)
 refine wp_rs fun _ K2 => ?_
 refine s_alloc1 F (by decide) zero3 rfl fun w8 b5 a eb5 m5 B9 zb5 F => ?_
 have sB9 := B9.size
 have hB := bt hB B9
 have m2 := m2.old B9
 have m3 := m3.old B9
 have m4 := m4.old B9
 refine s_put F rfl rfl flat3 m5 (by first | (simp; done) | (simp [tc, lc]; done) | decide) rfl fun w10 m5 o11 => ?_
 have so11 := o11.size
 have hB := hB.trans (o11.below (by omega))
 have m2 := m2.only o11 (by omega)
 have m3 := m3.only o11 (by omega)
 have m4 := m4.only o11 (by omega)
 refine s_end (K2 _ _ ?_)
 refine wp_seq_k fun _ K3 => ?_
 refine wp_rs fun _ K4 => F.vl (x_ldW wide27 m2 rfl rfl) fun a F => ?_
 refine s_callR (R := fun v w' => ∃ b1, v = .func (.func 124) #[] #[.pointer (some ⟨b1, 0, none⟩)] ∧ w10.heap.size ≤ b1 ∧ Blk w' b1 27 (tc x)) [_] F E88 rfl (by decide) (nodes71 x w10 hx.one) ?_
 rintro v10 w12 a ⟨bx, hve, hbx, mx⟩ B13 F
 have sB13 := B13.size
 have hB := bt hB B13
 have m3 := m3.old B13
 have m4 := m4.old B13
 have m5 := m5.old B13
 subst hve
 refine s_end (K4 _ _ ?_)
 refine wp_block ?_
 have sD := hB.size
 refine wp_range (w0 := w0) F rfl E124 _ rfl hB (hands107 w0 c x bx _ hx (by omega) (by have := mx.lt; omega) _ mx (by omega)) (fun W' hW' => mx.old hW') (by decide) (fun e vs ⟨y, h, _⟩ => by rw [h]; rfl)
  (fun p W => (∀ e ∈ p, e.1 ≤ 64) ∧ p.length ≤ 400 ∧ listErr vars 0 p = 0 ∧ Blk W b3 3 [.int .i64 vars] ∧ Blk W b5 3 [.int .i64 (p.length : Int)] ∧ Blk W b4 49 [.int .i64 0])
  (fun c' p W => c' = .ret ∧ listErr vars 0 p ≠ 0 ∧ Blk W b4 49 [.int .i64 (listErr vars 0 p)])
  (fun p W W' ⟨h1, h2, h3, h4, h5, h6⟩ hW => ⟨h1, h2, h3, h4.below hW (by omega), h5.below hW (by omega), h6.below hW (by omega)⟩) (fun c p W W' ⟨h1, h2, h3⟩ hW => ⟨h1, h2, h3.below hW (by omega)⟩) (fun p e W ⟨h1, _⟩ => by have := h1 e (by simp); omega) (⟨by simp, by simp, rfl, m3, m5, m4⟩) ?_ ?_ ?_
 ·
  rintro L p e1 rest W a vs hL hq hv hI hWs hBr F K hK
  obtain ⟨hds, hpl, han, m3, m5, m4⟩ := hI
  obtain ⟨y, rfl, hy⟩ := hv
  have sBr := hBr.size
  have hlW : w12.heap.size + 1 < W.heap.size := by omega
  have hM := Mid.refl w0.heap.size w12.heap.size W
  have sM := hM.size
  have hm3l := m3.lt
  have hm4l := m4.lt
  have hm5l := m5.lt
  refine wpI_rs (by repeat' first | exact rndPost.calm | exact false.calm | refine Calm.then ?_ _ | refine Calm.block ?_ _) rfl fun _ K5 => ?_
  refine F.sg rfl fun a F => ?_
  refine s_end (K5 _ _ ?_)
  refine wpI_r (by repeat' first | exact rndPost.calm | exact false.calm | refine Calm.then ?_ _ | refine Calm.block ?_ _) rfl ?_
  refine s_alloc F (by decide) zero27 fun w14 b7 a eb7 m7 B15 zb7 F => ?_
  have sB15 := B15.size
  have hBr := bt hBr B15
  have m3 := m3.old B15
  have m4 := m4.old B15
  have m5 := m5.old B15
  have hM := hM.old B15
  refine s_putW F rfl rfl (size_wide wide27) m7 rfl hy.one fun w18 m7 o19 => ?_
  have so19 := o19.size
  have hBr := hBr.trans (o19.below (by omega))
  have m3 := m3.only o19 (by omega)
  have m4 := m4.only o19 (by omega)
  have m5 := m5.only o19 (by omega)
  have hM := hM.only o19 (by omega)
  refine s_end ?_
  refine hK _ _ hM fun W3 hO3 => ?_
  have hM := Mid.refl w0.heap.size w12.heap.size W3
  have sO := hO3.size
  have m3 := m3.only hO3 (by omega)
  have m4 := m4.only hO3 (by omega)
  have m5 := m5.only hO3 (by omega)
  have m7 := m7.only hO3 (by omega)
  have hBr := hBr.trans (hO3.below (by omega))
  have hfe := nodes_fit c 1 hfit e1 (by rw [hq]; simp)
  have hsn := listErr_snoc (vars := vars) (e := e1) han
  refine wpIn_block ?_
  refine wpI_rs (by repeat' first | exact rndPost.calm | exact false.calm | refine Calm.then ?_ _ | refine Calm.block ?_ _) rfl fun _ K6 => ?_
  refine F.ld m5 flat3 rfl rfl fun a F => F.vl (x_addn (p.length + 1) (by omega) (by omega) rfl rfl) fun a F => ?_
  refine s_put F rfl rfl flat3 m5 (by first | (simp; done) | (simp [tc, lc]; done) | decide) rfl fun w20 m5 o21 => ?_
  have so21 := o21.size
  have hBr := hBr.trans (o21.below (by omega))
  have m3 := m3.only o21 (by omega)
  have m4 := m4.only o21 (by omega)
  have m7 := m7.only o21 (by omega)
  have hM := hM.only o21 (by omega)
  refine s_end (K6 _ _ ?_)
  refine wpIn_seq_k fun _ K7 => ?_
  rcases (show 64 < e1.1 ∨ (¬ 64 < e1.1 ∧ 400 < ((p.length + 1 : Nat) : Int)) ∨ (¬ 64 < e1.1 ∧ ¬ 400 < ((p.length + 1 : Nat) : Int)) by omega) with hz | hz | hz
  ·
   have hne : nodeErr vars e1.1 (p.length + 1) e1.2 = 2 := nodeErr_two (by omega)
   refine wpI_rs (by repeat' first | exact rndPost.calm | exact false.calm | refine Calm.then ?_ _ | refine Calm.block ?_ _) rfl fun _ K9 => ?_
   refine F.mv rfl fun a F => F.vl (gtrT (by omega) rfl rfl) fun a F => F.mv rfl fun a F => s_grdn 17 F rfl rfl (by decide) fun a F => s_grdn 17 F rfl rfl (by decide) fun a F => F.vl (x_pick (b := true) rfl rfl) fun a F => ?_
   refine s_end (K9 _ _ ?_)
   refine wpI_if F rfl ?_
   refine wpI_rs (by repeat' first | exact rndPost.calm | exact false.calm | refine Calm.then ?_ _ | refine Calm.block ?_ _) rfl fun _ K10 => ?_
   refine s_put F rfl rfl flat43 m4 (by first | (simp; done) | (simp [tc, lc]; done) | decide) rfl fun w22 m4 o23 => ?_
   have so23 := o23.size
   have hM := hM.only o23 (by omega)
   refine s_end (K10 _ _ ?_)
   refine wpIn_ret ⟨hM, rfl, by rw [hsn, hne]; decide, by rw [hsn, hne]; exact m4⟩
  ·
   have hne : nodeErr vars e1.1 (p.length + 1) e1.2 = 2 := nodeErr_two (by omega)
   refine wpI_rs (by repeat' first | exact rndPost.calm | exact false.calm | refine Calm.then ?_ _ | refine Calm.block ?_ _) rfl fun _ K11 => ?_
   refine F.mv rfl fun a F => F.vl (gtrF (by omega) rfl rfl) fun a F => F.mv rfl fun a F => s_grd 17 F rfl rfl rfl <| F.ld m5 flat3 rfl rfl fun a F => s_grd 17 F rfl rfl rfl <| F.vl (gtrT (by omega) rfl rfl) fun a F => F.vl (x_pick (b := false) rfl rfl) fun a F => ?_
   refine s_end (K11 _ _ ?_)
   refine wpI_if F rfl ?_
   refine wpI_rs (by repeat' first | exact rndPost.calm | exact false.calm | refine Calm.then ?_ _ | refine Calm.block ?_ _) rfl fun _ K12 => ?_
   refine s_put F rfl rfl flat43 m4 (by first | (simp; done) | (simp [tc, lc]; done) | decide) rfl fun w24 m4 o25 => ?_
   have so25 := o25.size
   have hM := hM.only o25 (by omega)
   refine s_end (K12 _ _ ?_)
   refine wpIn_ret ⟨hM, rfl, by rw [hsn, hne]; decide, by rw [hsn, hne]; exact m4⟩
  ·
   have hne : nodeErr vars e1.1 (p.length + 1) e1.2 = errE vars e1.2 := by rw [nodeErr_E9, if_neg (by omega)]
   refine wpI_rs (by repeat' first | exact rndPost.calm | exact false.calm | refine Calm.then ?_ _ | refine Calm.block ?_ _) rfl fun _ K13 => ?_
   refine F.mv rfl fun a F => F.vl (gtrF (by omega) rfl rfl) fun a F => F.mv rfl fun a F => s_grd 17 F rfl rfl rfl <| F.ld m5 flat3 rfl rfl fun a F => s_grd 17 F rfl rfl rfl <| F.vl (gtrF (by omega) rfl rfl) fun a F => F.vl (x_pick (b := false) rfl rfl) fun a F => ?_
   refine s_end (K13 _ _ ?_)
   refine wpI_if F rfl ?_
   refine wpIn_skip (K7 _ _ ?_)
   refine wpI_rs (by repeat' first | exact rndPost.calm | exact false.calm | refine Calm.then ?_ _ | refine Calm.block ?_ _) rfl fun _ K14 => ?_
   refine F.vl (x_ldW wide27 m7 rfl rfl) fun a F => F.ld m3 flat3 rfl rfl fun a F => ?_
   refine s_callB [_, _] F E115 rfl (by decide) (mayNode72 vars e1.2 y w20 (hy.bel hBr) hfe) fun w26 a B27 F => ?_
   have sB27 := B27.size
   have m3 := m3.old B27
   have m4 := m4.old B27
   have m5 := m5.old B27
   have hM := hM.old B27
   refine F.sg rfl fun a F => ?_
   refine s_end (K14 _ _ ?_)
   refine wpI_rs (by repeat' first | exact rndPost.calm | exact false.calm | refine Calm.then ?_ _ | refine Calm.block ?_ _) rfl fun _ K15 => ?_
   refine F.mv rfl fun a F => F.vl (x_neq rfl rfl rfl) fun a F => ?_
   refine s_end (K15 _ _ ?_)
   refine wpI_iff F rfl (fun hc25 => ?_) (fun hc25 => ?_)
   ·
    refine wpI_rs (by repeat' first | exact rndPost.calm | exact false.calm | refine Calm.then ?_ _ | refine Calm.block ?_ _) rfl fun _ K16 => ?_
    refine F.mv rfl fun a F => ?_
    refine s_put F rfl rfl flat43 m4 (by first | (simp; done) | (simp [tc, lc]; done) | decide) rfl fun w28 m4 o29 => ?_
    have so29 := o29.size
    have hM := hM.only o29 (by omega)
    refine s_end (K16 _ _ ?_)
    refine wpIn_ret ⟨hM, rfl, by rw [hsn, hne]; exact hc25, by rw [hsn, hne]; exact m4⟩
   ·
    refine wpIn_skip ?_
    exact ⟨hM, (fun e he => by rcases List.mem_append.1 he with he | he; (· exact hds e he); (· rw [List.mem_singleton.1 he]; omega)), by simp only [List.length_append, List.length_cons, List.length_nil]; omega, by rw [hsn, hne]; omega, m3, by simp only [List.length_append, List.length_cons, List.length_nil]; exact m5, m4⟩
 ·
  rintro a W hI hM hD F
  obtain ⟨hds, hpl, han, m3, m5, m4⟩ := hI
  have sM := hM.size
  have hB := hB.trans (hM.below (by omega))
  obtain ⟨bD, hbD⟩ : ∃ bD, bD = w12.heap.size := ⟨_, rfl⟩
  rw [← hbD] at hD F
  have hD : Dfr W bD := hD
  refine K3 _ _ ?_
  refine wp_rs fun _ K17 => ?_
  refine s_put F rfl rfl flat43 m4 (by first | (simp; done) | (simp [tc, lc]; done) | decide) rfl fun w30 m4 o31 => ?_
  have so31 := o31.size
  have hB := hB.trans (o31.below (by omega))
  have hD := hD.only o31 (by omega)
  refine s_end (K17 _ _ ?_)
  have hz : (c.mayT vars 1 0).1 = 0 := by rw [← hLE]; exact han
  refine wp_ret (resM F hD fun w9 o9 => ⟨run_cell (t0 := 0) (cs := []) F rfl rfl (m_load flat43 ((m4.only o9 (by omega)).cell (j := 0) rfl)), by rw [hz], hB.trans (o9.below (by omega))⟩)
 ·
  rintro a c p W hp hI hM hD F
  obtain ⟨rfl, han, m4⟩ := hI
  have hB := hB.trans (hM.below (by omega))
  have hz : (c.mayT vars 1 0).1 = listErr vars 0 p := by rw [← hLE]; exact listErr_pre hp han
  refine wp_ret (inb_ret (then_ret (resM F hD fun w9 o9 => ⟨run_cell (t0 := 0) (cs := []) F rfl rfl (m_load flat43 ((m4.only o9 (by omega)).cell (j := 0) rfl)), by rw [hz], hB.trans (o9.below (by omega))⟩)))
end Go.Proofs.Ytmkjhdiepkpdoaa

namespace Go.Proofs.Ytmkjhdiepkpdoaa
set_option maxRecDepth 100000
set_option maxHeartbeats 1600000
open Go.RowKit Go.Shelf
set_option linter.unusedVariables false
set_option linter.unusedSimpArgs false
/-- The bytes of a number. -/
def dig (n : Nat) : List UInt8 := if n < 128 then [UInt8.ofNat n] else UInt8.ofNat (n % 128 + 128) :: dig (n / 128)
termination_by n
decreasing_by omega
theorem dig_lt {n : Nat} (h : n < 128) : dig n = [UInt8.ofNat n] := by rw [dig, if_pos h]
theorem dig_ge {n : Nat} (h : 128 ≤ n) : dig n = UInt8.ofNat (n % 128 + 128) :: dig (n / 128) := by rw [dig, if_neg (by omega)]
theorem dig_len (k : Nat) : ∀ n, n < 128 ^ (k + 1) → (dig n).length ≤ k + 1 := by
 induction k with
 | zero => intro n h; rw [dig_lt (by simpa using h)]; simp
 | succ k ih =>
  intro n h
  by_cases h1 : n < 128
  ·
   rw [dig_lt h1]; simp
  ·
   rw [dig_ge (by omega)]
   have := ih (n / 128) (by rw [Nat.div_lt_iff_lt_mul (by decide)]; rw [Nat.pow_succ] at h; exact h)
   simp; omega
theorem dig_len10 (n : UInt64) : (dig n.toNat).length ≤ 10 := dig_len 9 _ (Nat.lt_of_lt_of_le n.toNat_lt (by decide))
theorem dig_pos (n : Nat) : 0 < (dig n).length := by
 by_cases h : n < 128
 ·
  rw [dig_lt h]; simp
 ·
  rw [dig_ge (by omega)]; simp
theorem el503 : Elem Try.prog 48 5 1 1 := elem_of (by kernel_rfl)
section
variable {P : Program} {n d : Nat} {l : List (Nat × Value)} {w : World} {t t' : TypeId} {x y : Operand}
theorem x_remD {p : UInt64} (hx : ov l x = some (encD p)) (hy : ov l y = some (.int .u64 128)) : Runs P n l w (.binOp .rem t x y t') (encD (p % 128)) :=
 x_bin hx hy (b_int fun W => by
  have h1 : (p.toNat : Int).tmod 128 = (((p % 128).toNat : Nat) : Int) := by
   rw [UInt64.toNat_mod]
   exact (Int.ofNat_tmod p.toNat 128).symm
  simp [binOp, Op.intDiv, encD, h1])
end
theorem lowbyte (k : UInt64) (h : k.toNat < 128) : k.toUInt8 = UInt8.ofNat k.toNat := by
 apply UInt8.toNat_inj.1
 simp
theorem remByte (k : UInt64) : (k % 128).toUInt8 + 128 = UInt8.ofNat (k.toNat % 128 + 128) := by
 apply UInt8.toNat_inj.1
 simp [UInt64.toNat_mod]
theorem or128 : ∀ n, n < 128 → UInt8.ofNat n ||| 128 = UInt8.ofNat (n + 128) := by decide
theorem orByte (k : UInt64) : (k &&& 127).toUInt8 ||| 128 = UInt8.ofNat (k.toNat % 128 + 128) := by
 have h : (k &&& 127).toUInt8 = UInt8.ofNat (k.toNat % 128) := by
  apply UInt8.toNat_inj.1
  have h1 : (k &&& 127).toNat = k.toNat % 128 := by
   rw [UInt64.toNat_and]
   exact Nat.and_two_pow_sub_one_eq_mod k.toNat 7
  rw [UInt64.toNat_toUInt8, h1, UInt8.toNat_ofNat']
 rw [h, or128 _ (Nat.mod_lt _ (by decide))]
theorem shr7 (k : UInt64) : (k >>> UInt64.ofNat 7).toNat = k.toNat / 128 := by
 rw [UInt64.toNat_shiftRight]
 simp [Nat.shiftRight_eq_div_pow]
theorem putNumber331 (base o : Nat) (v : Value) (bs : List UInt8) (k0 : UInt64) (w0 : World) (hO : w0.ownsRow base 5 1 v bs.length (bs.map encB)) (hat : ∀ j, v.ownBlock = some j → j = o) (ho : o ≤ w0.heap.size) (hb0 : base ≤ w0.heap.size) (hlen : bs.length + 20 ≤ 140737488355328) :
    Calls Try.prog 147 #[v, encD k0] w0 (PutsY 5 base o w0 (bs ++ dig k0.toNat)) := by
  have hK := Ktw.refl o o w0
  have sK := hK.size
  refine calls_fs 21 [(0, v), (1, encD k0)] Try.func147 rfl rfl rfl rfl rfl fun a F => ?_
  refine wp_rs fun _ K1 => F.sg rfl fun a F => ?_
  refine s_end (K1 _ _ ?_)
  refine wp_seq_k fun _ K2 => ?_
  refine wp_block ?_
  refine wp_up k0.toNat (fun i a w => ∃ (k : UInt64) (v' : Value) (xs : List UInt8) (o' : Nat), k.toNat + i ≤ k0.toNat ∧ xs ++ dig k.toNat = bs ++ dig k0.toNat ∧ w.ownsRow base 5 1 v' xs.length (xs.map encB) ∧ (∀ j, v'.ownBlock = some j → j = o') ∧ ((o' = o ∨ w0.heap.size ≤ o') ∧ o' ≤ w.heap.size) ∧ Ktw o o w0 w ∧ Fs 21 a [(0, v'), (1, encD k)]) ⟨k0, v, bs, o, Nat.le_refl _, rfl, hO, hat, ⟨.inl rfl, ho⟩, hK, F.sub _ rfl⟩ ?_
  clear F hK sK hO hat
  rintro i a w hi ⟨k, v', xs, o1, hk, hxs, hO, hat, ho1, hK, F⟩ K' hK'
  have sK := hK.size
  have hxl : xs.length + (dig k.toNat).length = bs.length + (dig k0.toNat).length := by rw [← List.length_append, hxs, List.length_append]
  have hd0 := dig_len10 k0
  have hdp := dig_pos k.toNat
  refine wp_seq_k fun _ K3 => ?_
  refine wp_rs fun _ K4 => F.mv rfl fun a F => F.vl (x_geq (b := decide (128 ≤ k.toNat)) (decide_eq_decide.2 (by omega)) rfl rfl) fun a F => ?_
  refine s_end (K4 _ _ ?_)
  refine wp_iff F rfl (fun hc6 => ?_) (fun hc6 => ?_)
  · have hbyte := remByte k
    refine wp_skip (K3 _ _ ?_)
    refine wp_block ?_
    refine wp_rs fun _ K5 => F.mv rfl fun a F => F.mv rfl fun a F => F.vl (x_remD rfl rfl) fun a F => F.vl (x_d2b Try.underlying54 Try.underlying5 rfl) fun a F => F.vl (x_add8 (q := 128) rfl rfl) fun a F => ?_
    refine s_litG [encB ((k % 128).toUInt8 + 128)] el503 F (by decide) rfl (by simp [Value.cells, encB]) rfl (by decide) (by decide) fun w2 bl a ebl ml B3 zbl F => ?_
    have sB3 := B3.size
    have hK := hK.below B3
    have hO := own_below hO B3
    have ml : Blk w2 bl 5 ([(k % 128).toUInt8 + 128].map encB) := ml
    have hlY : (xs).length + ([(k % 128).toUInt8 + 128]).length ≤ 140737488355328 := by simp; omega
    refine s_appP (o := o1) (p := ([(k % 128).toUInt8 + 128]).length) (ys := ([(k % 128).toUInt8 + 128]).map encB) el503 F (by decide) rfl rfl hO (Rd.blk ml rfl) (oneY _) hat (by omega) (by omega) (by unfold maxLen; omega) (by omega) fun v2 w4 a o2 hOn hatn hon k5 F => ?_
    clear hO hat
    have hat := hatn
    have hO : w4.ownsRow base 5 1 v2 (xs ++ ([(k % 128).toUInt8 + 128])).length ((xs ++ ([(k % 128).toUInt8 + 128])).map encB) := by rw [List.length_append, List.map_append]; exact hOn
    clear hOn hatn
    have sk5 := k5.size
    have hK := hK.trans k5 (by omega)
    refine F.sg rfl fun a F => ?_
    refine s_end (K5 _ _ ?_)
    refine wp_region_lit ?_
    refine F.mv rfl fun a F => F.vl (x_shr64 7 rfl (by decide) rfl rfl) fun a F => F.sg rfl fun a F => ?_
    refine s_end (hK' _ _ (by omega) ⟨k >>> UInt64.ofNat 7, v2, xs ++ [(k % 128).toUInt8 + 128], o2, by rw [shr7]; omega, by rw [shr7, ← hxs, List.append_assoc, dig_ge (n := k.toNat) (by omega), hbyte]; rfl, hO, hat, by omega, hK, F.sub _ rfl⟩)
  · have hlast := lowbyte k (by omega)
    refine wp_exit (K2 _ _ ?_)
    refine wp_rs fun _ K6 => F.mv rfl fun a F => F.mv rfl fun a F => F.vl (x_d2b Try.underlying54 Try.underlying5 rfl) fun a F => ?_
    refine s_litG [encB (k.toUInt8)] el503 F (by decide) rfl (by simp [Value.cells, encB]) rfl (by decide) (by decide) fun w6 bl a ebl ml B7 zbl F => ?_
    have sB7 := B7.size
    have hK := hK.below B7
    have hO := own_below hO B7
    have ml : Blk w6 bl 5 ([k.toUInt8].map encB) := ml
    have hlY : (xs).length + ([k.toUInt8]).length ≤ 140737488355328 := by simp; omega
    refine s_appP (o := o1) (p := ([k.toUInt8]).length) (ys := ([k.toUInt8]).map encB) el503 F (by decide) rfl rfl hO (Rd.blk ml rfl) (oneY _) hat (by omega) (by omega) (by unfold maxLen; omega) (by omega) fun v2 w8 a o2 hOn hatn hon k9 F => ?_
    clear hO hat
    have hat := hatn
    have hO : w8.ownsRow base 5 1 v2 (xs ++ ([k.toUInt8])).length ((xs ++ ([k.toUInt8])).map encB) := by rw [List.length_append, List.map_append]; exact hOn
    clear hOn hatn
    have sk9 := k9.size
    have hK := hK.trans k9 (by omega)
    refine F.sg rfl fun a F => ?_
    refine s_end (K6 _ _ ?_)
    refine wp_ret (res_slot F rfl rfl ⟨v2, rfl, ⟨o2, ?_, hat, by omega⟩, hK⟩)
    rw [← hxs, dig_lt (n := k.toNat) (by omega), ← hlast]
    exact hO
theorem Put314 (base o : Nat) (v : Value) (bs : List UInt8) (k0 : UInt64) (w0 : World) (hO : w0.ownsRow base 5 1 v bs.length (bs.map encB)) (hat : ∀ j, v.ownBlock = some j → j = o) (ho : o ≤ w0.heap.size) (hb0 : base ≤ w0.heap.size) (hlen : bs.length + 20 ≤ 140737488355328) :
    Calls Try.prog 68 #[v, encD k0] w0 (PutsY 5 base o w0 (bs ++ dig k0.toNat)) := by
  have hK := Ktw.refl o o w0
  have sK := hK.size
  refine calls_fs 21 [(0, v), (1, encD k0)] Try.func68 rfl rfl rfl rfl rfl fun a F => ?_
  refine wp_rs fun _ K1 => F.sg rfl fun a F => ?_
  refine s_end (K1 _ _ ?_)
  refine wp_seq_k fun _ K2 => ?_
  refine wp_block ?_
  refine wp_up k0.toNat (fun i a w => ∃ (k : UInt64) (v' : Value) (xs : List UInt8) (o' : Nat), k.toNat + i ≤ k0.toNat ∧ xs ++ dig k.toNat = bs ++ dig k0.toNat ∧ w.ownsRow base 5 1 v' xs.length (xs.map encB) ∧ (∀ j, v'.ownBlock = some j → j = o') ∧ ((o' = o ∨ w0.heap.size ≤ o') ∧ o' ≤ w.heap.size) ∧ Ktw o o w0 w ∧ Fs 21 a [(0, v'), (1, encD k)]) ⟨k0, v, bs, o, Nat.le_refl _, rfl, hO, hat, ⟨.inl rfl, ho⟩, hK, F.sub _ rfl⟩ ?_
  clear F hK sK hO hat
  rintro i a w hi ⟨k, v', xs, o1, hk, hxs, hO, hat, ho1, hK, F⟩ K' hK'
  have sK := hK.size
  have hxl : xs.length + (dig k.toNat).length = bs.length + (dig k0.toNat).length := by rw [← List.length_append, hxs, List.length_append]
  have hd0 := dig_len10 k0
  have hdp := dig_pos k.toNat
  refine wp_seq_k fun _ K3 => ?_
  refine wp_rs fun _ K4 => F.mv rfl fun a F => F.vl (x_geq (b := decide (128 ≤ k.toNat)) (decide_eq_decide.2 (by omega)) rfl rfl) fun a F => ?_
  refine s_end (K4 _ _ ?_)
  refine wp_iff F rfl (fun hc6 => ?_) (fun hc6 => ?_)
  · have hbyte := orByte k
    refine wp_skip (K3 _ _ ?_)
    refine wp_block ?_
    refine wp_rs fun _ K5 => F.mv rfl fun a F => F.mv rfl fun a F => F.vl (x_and64 (q := 127) rfl rfl) fun a F => F.vl (x_d2b Try.underlying54 Try.underlying5 rfl) fun a F => F.vl (x_or8 (q := 128) rfl rfl) fun a F => ?_
    refine s_litG [encB ((k &&& 127).toUInt8 ||| 128)] el503 F (by decide) rfl (by simp [Value.cells, encB]) rfl (by decide) (by decide) fun w2 bl a ebl ml B3 zbl F => ?_
    have sB3 := B3.size
    have hK := hK.below B3
    have hO := own_below hO B3
    have ml : Blk w2 bl 5 ([(k &&& 127).toUInt8 ||| 128].map encB) := ml
    have hlY : (xs).length + ([(k &&& 127).toUInt8 ||| 128]).length ≤ 140737488355328 := by simp; omega
    refine s_appP (o := o1) (p := ([(k &&& 127).toUInt8 ||| 128]).length) (ys := ([(k &&& 127).toUInt8 ||| 128]).map encB) el503 F (by decide) rfl rfl hO (Rd.blk ml rfl) (oneY _) hat (by omega) (by omega) (by unfold maxLen; omega) (by omega) fun v2 w4 a o2 hOn hatn hon k5 F => ?_
    clear hO hat
    have hat := hatn
    have hO : w4.ownsRow base 5 1 v2 (xs ++ ([(k &&& 127).toUInt8 ||| 128])).length ((xs ++ ([(k &&& 127).toUInt8 ||| 128])).map encB) := by rw [List.length_append, List.map_append]; exact hOn
    clear hOn hatn
    have sk5 := k5.size
    have hK := hK.trans k5 (by omega)
    refine F.sg rfl fun a F => ?_
    refine s_end (K5 _ _ ?_)
    refine wp_region_lit ?_
    refine F.mv rfl fun a F => F.vl (x_shr64 7 rfl (by decide) rfl rfl) fun a F => F.sg rfl fun a F => ?_
    refine s_end (hK' _ _ (by omega) ⟨k >>> UInt64.ofNat 7, v2, xs ++ [(k &&& 127).toUInt8 ||| 128], o2, by rw [shr7]; omega, by rw [shr7, ← hxs, List.append_assoc, dig_ge (n := k.toNat) (by omega), hbyte]; rfl, hO, hat, by omega, hK, F.sub _ rfl⟩)
  · have hlast := lowbyte k (by omega)
    refine wp_exit (K2 _ _ ?_)
    refine wp_rs fun _ K6 => F.mv rfl fun a F => F.mv rfl fun a F => F.vl (x_d2b Try.underlying54 Try.underlying5 rfl) fun a F => ?_
    refine s_litG [encB (k.toUInt8)] el503 F (by decide) rfl (by simp [Value.cells, encB]) rfl (by decide) (by decide) fun w6 bl a ebl ml B7 zbl F => ?_
    have sB7 := B7.size
    have hK := hK.below B7
    have hO := own_below hO B7
    have ml : Blk w6 bl 5 ([k.toUInt8].map encB) := ml
    have hlY : (xs).length + ([k.toUInt8]).length ≤ 140737488355328 := by simp; omega
    refine s_appP (o := o1) (p := ([k.toUInt8]).length) (ys := ([k.toUInt8]).map encB) el503 F (by decide) rfl rfl hO (Rd.blk ml rfl) (oneY _) hat (by omega) (by omega) (by unfold maxLen; omega) (by omega) fun v2 w8 a o2 hOn hatn hon k9 F => ?_
    clear hO hat
    have hat := hatn
    have hO : w8.ownsRow base 5 1 v2 (xs ++ ([k.toUInt8])).length ((xs ++ ([k.toUInt8])).map encB) := by rw [List.length_append, List.map_append]; exact hOn
    clear hOn hatn
    have sk9 := k9.size
    have hK := hK.trans k9 (by omega)
    refine F.sg rfl fun a F => ?_
    refine s_end (K6 _ _ ?_)
    refine wp_ret (res_slot F rfl rfl ⟨v2, rfl, ⟨o2, ?_, hat, by omega⟩, hK⟩)
    rw [← hxs, dig_lt (n := k.toNat) (by omega), ← hlast]
    exact hO
theorem fresh325 (v : Value) (bs : List UInt8) (r : Nat) (w0 : World) (hR : Rd w0 v 1 bs.length (bs.map encB)) (hlen : bs.length + r ≤ 140737488355328) : Calls Try.prog 117 #[v, .int .i64 (r : Int)] w0 (FreshY 5 w0 bs) := by
 obtain ⟨av, cv, hve, _⟩ := hR.form
 subst hve
 have hB := Below.refl w0.heap.size w0
 have sB := hB.size
 refine calls_fs 12 [(0, .slice av bs.length cv), (1, .int .i64 (r : Int))] Try.func117 rfl rfl rfl rfl rfl fun a F => ?_
 refine wp_rs fun _ K1 => F.sg rfl fun a F => ?_
 refine s_end (K1 _ _ ?_)
 refine wp_rs fun _ K2 => F.mv rfl fun a F => F.vl (x_len Try.underlying48 rfl) fun a F => F.mv rfl fun a F => F.vl (x_add (by omega) (by omega) rfl rfl) fun a F => ?_
 refine s_mkC (bs.length + r) el503 F (by decide) rfl rfl (by omega) (by omega) (by omega) fun w2 bl a cs ebl hcs ml B3 zbl F => ?_
 have sB3 := B3.size
 have hB := bt hB B3
 have hR := hR.below B3
 have hO : w2.ownsRow w0.heap.size 5 1 (.slice (some ⟨bl, 0, none⟩) 0 (bs.length + r)) ([] : List UInt8).length (([] : List UInt8).map encB) := own_of (by omega) ml (Nat.zero_le _) (by unfold maxLen; omega) hcs (by simp)
 have hat : ∀ j, (Value.slice (some ⟨bl, 0, none⟩) 0 (bs.length + r)).ownBlock = some j → j = bl := fun j h => (Option.some.inj h).symm
 have hbl := ml.lt
 refine F.mv rfl fun a F => ?_
 have hlY : (([] : List UInt8)).length + (bs).length ≤ 140737488355328 := by simp; omega
 refine s_appP (o := bl) (p := (bs).length) (ys := (bs).map encB) el503 F (by decide) rfl rfl hO (hR) (oneY _) hat (by omega) (by omega) (by unfold maxLen; omega) (by omega) fun v2 w4 a o2 hOn hatn hon k5 F => ?_
 clear hO hat
 have hat := hatn
 have hO : w4.ownsRow w0.heap.size 5 1 v2 (([] : List UInt8) ++ (bs)).length ((([] : List UInt8) ++ (bs)).map encB) := by rw [List.length_append, List.map_append]; exact hOn
 clear hOn hatn
 have sk5 := k5.size
 have hB := k5.under hB (by omega)
 refine F.sg rfl fun a F => ?_
 refine s_end (K2 _ _ ?_)
 refine wp_ret (res_slot F rfl rfl ⟨v2, rfl, ⟨o2, by simpa using hO, hat, by omega⟩, hB⟩)
theorem Put326 (v : Value) (bs : List UInt8) (k0 : UInt64) (w0 : World) (hR : Rd w0 v 1 bs.length (bs.map encB)) (hlen : bs.length + 40 ≤ 140737488355328) : Calls Try.prog 118 #[v, encD k0] w0 (FreshY 5 w0 (bs ++ dig k0.toNat)) := by
 have hB := Below.refl w0.heap.size w0
 have sB := hB.size
 refine calls_fs 9 [(0, v), (1, encD k0)] Try.func118 rfl rfl rfl rfl rfl fun a F => ?_
 refine wp_rs fun _ K1 => F.sg rfl fun a F => ?_
 refine s_end (K1 _ _ ?_)
 refine wp_rs fun _ K2 => F.mv rfl fun a F => ?_
 refine s_call (R := fun u w' => (∃ o', w'.ownsRow w0.heap.size 5 1 u (bs).length ((bs).map encB) ∧ (∀ j, u.ownBlock = some j → j = o') ∧ (w0.heap.size ≤ o' ∧ o' < w'.heap.size)) ∧ Below w0.heap.size w0 w') F [_, _] E117 rfl (by decide) (fresh325 _ bs (10) w0 hR (by omega)) ?_
 rintro v1 w2 a ⟨⟨o1, h1O, h1at, h1o⟩, B3⟩ F
 have sB3 := B3.size
 have hB := bt hB B3
 have h1R := Rd.own h1O
 have hO := h1O
 have hat := h1at
 refine F.mv rfl fun a F => ?_
 refine s_call (R := fun u w' => (∃ o', w'.ownsRow w0.heap.size 5 1 u (bs ++ dig k0.toNat).length ((bs ++ dig k0.toNat).map encB) ∧ (∀ j, u.ownBlock = some j → j = o') ∧ ((o' = o1 ∨ w2.heap.size ≤ o') ∧ o' < w'.heap.size)) ∧ Ktw o1 o1 w2 w') F [_, _] E147 rfl (by decide) (putNumber331 w0.heap.size o1 v1 bs k0 w2 hO hat (by omega) (by omega) (by omega)) ?_
 rintro v2 w4 a ⟨⟨o2, hOn, hatn, hon⟩, k5⟩ F
 clear hO hat
 have hO := hOn
 have hat := hatn
 clear hOn hatn
 have sk5 := k5.size
 have hB := k5.under hB (by omega)
 refine F.sg rfl fun a F => ?_
 refine s_end (K2 _ _ ?_)
 refine wp_ret (res_slot F rfl rfl ⟨v2, rfl, ⟨o2, hO, hat, by omega⟩, hB⟩)
theorem PutBytes327 (v u : Value) (bs ss : List UInt8) (w0 : World) (hR : Rd w0 v 1 bs.length (bs.map encB)) (hS : Rd w0 u 1 ss.length (ss.map encB)) (hlen : bs.length + ss.length + 40 ≤ 140737488355328) : Calls Try.prog 140 #[v, u] w0 (FreshY 5 w0 (bs ++ dig ss.length ++ ss)) := by
 obtain ⟨au, cu, hue, _⟩ := hS.form
 subst hue
 have hd2 : (UInt64.ofNat ss.length).toNat = ss.length := d2n (by omega)
 have hdl := dig_len10 (UInt64.ofNat ss.length)
 rw [hd2] at hdl
 have hS0 := hS
 have hB := Below.refl w0.heap.size w0
 have sB := hB.size
 refine calls_fs 18 [(0, v), (1, .slice au ss.length cu)] Try.func140 rfl rfl rfl rfl rfl fun a F => ?_
 refine wp_rs fun _ K1 => F.sg rfl fun a F => ?_
 refine s_end (K1 _ _ ?_)
 refine wp_rs fun _ K2 => F.mv rfl fun a F => F.mv rfl fun a F => F.vl (x_len Try.underlying48 rfl) fun a F => F.vl (x_add (by omega) (by omega) rfl rfl) fun a F => ?_
 refine s_call (R := fun u w' => (∃ o', w'.ownsRow w0.heap.size 5 1 u (bs).length ((bs).map encB) ∧ (∀ j, u.ownBlock = some j → j = o') ∧ (w0.heap.size ≤ o' ∧ o' < w'.heap.size)) ∧ Below w0.heap.size w0 w') F [_, _] E117 rfl (by decide) (fresh325 _ bs (10 + ss.length) w0 hR (by omega)) ?_
 rintro v1 w2 a ⟨⟨o1, h1O, h1at, h1o⟩, B3⟩ F
 have sB3 := B3.size
 have hB := bt hB B3
 have hS := hS.below B3
 have h1R := Rd.own h1O
 have hO := h1O
 have hat := h1at
 refine F.mv rfl fun a F => F.vl (x_len Try.underlying48 rfl) fun a F => F.vl (x_i2d (m := ss.length) Try.underlying3 Try.underlying54 rfl) fun a F => ?_
 refine s_call (R := fun u w' => (∃ o', w'.ownsRow w0.heap.size 5 1 u (bs ++ dig ss.length).length ((bs ++ dig ss.length).map encB) ∧ (∀ j, u.ownBlock = some j → j = o') ∧ ((o' = o1 ∨ w2.heap.size ≤ o') ∧ o' < w'.heap.size)) ∧ Ktw o1 o1 w2 w') F [_, _] E147 rfl (by decide) (by have h := putNumber331 w0.heap.size o1 v1 bs (UInt64.ofNat ss.length) w2 hO hat (by omega) (by omega) (by omega); rw [hd2] at h; exact h) ?_
 rintro v2 w4 a ⟨⟨o2, hOn, hatn, hon⟩, k5⟩ F
 clear hO hat
 have hO := hOn
 have hat := hatn
 clear hOn hatn
 have sk5 := k5.size
 have hB := k5.under hB (by omega)
 have hS := hS.k2p k5 (fun c hc hn => by have := hS0.lt hn hc; omega)
 refine F.sg rfl fun a F => ?_
 refine s_end (K2 _ _ ?_)
 refine wp_rs fun _ K3 => F.mv rfl fun a F => F.mv rfl fun a F => ?_
 have hlY : (bs ++ dig ss.length).length + (ss).length ≤ 140737488355328 := by simp; omega
 refine s_appP (o := o2) (p := (ss).length) (ys := (ss).map encB) el503 F (by decide) rfl rfl hO (hS) (oneY _) hat (by omega) (by omega) (by unfold maxLen; omega) (by omega) fun v3 w6 a o3 hOn hatn hon k7 F => ?_
 clear hO hat
 have hat := hatn
 have hO : w6.ownsRow w0.heap.size 5 1 v3 (bs ++ dig ss.length ++ (ss)).length ((bs ++ dig ss.length ++ (ss)).map encB) := by rw [List.length_append, List.map_append]; exact hOn
 clear hOn hatn
 have sk7 := k7.size
 have hB := k7.under hB (by omega)
 refine F.sg rfl fun a F => ?_
 refine s_end (K3 _ _ ?_)
 refine wp_ret (res_slot F rfl rfl ⟨v3, rfl, ⟨o3, hO, hat, by omega⟩, hB⟩)
theorem putNumber320 (base o : Nat) (v : Value) (bs : List UInt8) (k : Nat) (w0 : World) (hO : w0.ownsRow base 5 1 v bs.length (bs.map encB)) (hat : ∀ j, v.ownBlock = some j → j = o) (ho : o < w0.heap.size) (hb0 : base ≤ w0.heap.size) (hk : k < 9223372036854775808) (hlen : bs.length + 40 ≤ 140737488355328) : Calls Try.prog 109 #[v, .int .i64 (k : Int)] w0 (PutsY 5 base o w0 (bs ++ dig k)) := by
 have hd2 : (UInt64.ofNat k).toNat = k := d2n (by omega)
 have hdl := dig_len10 (UInt64.ofNat k)
 rw [hd2] at hdl
 have hK := Ktw.refl o o w0
 have sK := hK.size
 refine calls_fs 10 [(0, v), (1, .int .i64 (k : Int))] Try.func109 rfl rfl rfl rfl rfl fun a F => ?_
 refine wp_rs fun _ K1 => F.sg rfl fun a F => ?_
 refine s_end (K1 _ _ ?_)
 refine wp_rs fun _ K2 => F.mv rfl fun a F => F.mv rfl fun a F => F.vl (x_i2d (m := k) Try.underlying3 Try.underlying54 rfl) fun a F => ?_
 refine s_call (R := fun u w' => (∃ o', w'.ownsRow w0.heap.size 5 1 u (dig k).length ((dig k).map encB) ∧ (∀ j, u.ownBlock = some j → j = o') ∧ (w0.heap.size ≤ o' ∧ o' < w'.heap.size)) ∧ Below w0.heap.size w0 w') F [_, _] E118 rfl (by decide) (by have h := Put326 _ [] (UInt64.ofNat k) w0 (Rd.nil _ _) (by simp); rw [hd2] at h; exact h) ?_
 rintro v9 w2 a ⟨⟨o9, h9O, h9at, h9o⟩, B3⟩ F
 have sB3 := B3.size
 have hK := hK.below B3
 have hO := own_below hO B3
 have h9R := Rd.own h9O
 have hlY : (bs).length + (dig k).length ≤ 140737488355328 := by omega
 refine s_appP (o := o) (p := (dig k).length) (ys := (dig k).map encB) el503 F (by decide) rfl rfl hO (h9R) (oneY _) hat (by omega) (by omega) (by unfold maxLen; omega) (by omega) fun v2 w4 a o2 hOn hatn hon k5 F => ?_
 clear hO hat
 have hat := hatn
 have hO : w4.ownsRow base 5 1 v2 (bs ++ (dig k)).length ((bs ++ (dig k)).map encB) := by rw [List.length_append, List.map_append]; exact hOn
 clear hOn hatn
 have sk5 := k5.size
 have hK := hK.trans k5 (by omega)
 refine F.sg rfl fun a F => ?_
 refine s_end (K2 _ _ ?_)
 refine wp_ret (res_slot F rfl rfl ⟨v2, rfl, ⟨o2, ?_, hat, by omega⟩, hK⟩)
 exact hO
theorem putName319 (base o : Nat) (v : Value) (bs : List UInt8) (s : ByteArray) (w0 : World) (hO : w0.ownsRow base 5 1 v bs.length (bs.map encB)) (hat : ∀ j, v.ownBlock = some j → j = o) (ho : o < w0.heap.size) (hb0 : base ≤ w0.heap.size) (hlen : bs.length + s.data.toList.length + 40 ≤ 140737488355328) : Calls Try.prog 108 #[v, .string s] w0 (PutsY 5 base o w0 (bs ++ (dig s.data.toList.length ++ s.data.toList))) := by
 have hd2 : (UInt64.ofNat s.data.toList.length).toNat = s.data.toList.length := d2n (by omega)
 have hdl := dig_len10 (UInt64.ofNat s.data.toList.length)
 rw [hd2] at hdl
 have hK := Ktw.refl o o w0
 have sK := hK.size
 refine calls_fs 10 [(0, v), (1, .string s)] Try.func108 rfl rfl rfl rfl rfl fun a F => ?_
 refine wp_rs fun _ K1 => F.sg rfl fun a F => ?_
 refine s_end (K1 _ _ ?_)
 refine wp_rs fun _ K2 => F.mv rfl fun a F => F.mv rfl fun a F => ?_
 refine s_s2b F (by decide) rfl Try.underlying9 Try.underlying48 Try.underlying5 fun w2 vs a hsR hsat B3 F => ?_
 have sB3 := B3.size
 have hK := hK.below B3
 have hO := own_below hO B3
 refine s_call (R := fun u w' => (∃ o', w'.ownsRow w2.heap.size 5 1 u (dig s.data.toList.length ++ s.data.toList).length ((dig s.data.toList.length ++ s.data.toList).map encB) ∧ (∀ j, u.ownBlock = some j → j = o') ∧ (w2.heap.size ≤ o' ∧ o' < w'.heap.size)) ∧ Below w2.heap.size w2 w') F [_, _] E140 rfl (by decide) (by have h := PutBytes327 _ vs [] s.data.toList w2 (Rd.nil _ _) hsR (by simp at hlen ⊢; omega); exact h) ?_
 rintro v9 w4 a ⟨⟨o9, h9O, h9at, h9o⟩, B5⟩ F
 have sB5 := B5.size
 have hK := hK.below B5
 have hO := own_below hO B5
 have h9R := Rd.own h9O
 have hlY : (bs).length + (dig s.data.toList.length ++ s.data.toList).length ≤ 140737488355328 := by simp at hdl hlen ⊢; omega
 refine s_appP (o := o) (p := (dig s.data.toList.length ++ s.data.toList).length) (ys := (dig s.data.toList.length ++ s.data.toList).map encB) el503 F (by decide) rfl rfl hO (h9R) (oneY _) hat (by omega) (by omega) (by unfold maxLen; omega) (by omega) fun v2 w6 a o2 hOn hatn hon k7 F => ?_
 clear hO hat
 have hat := hatn
 have hO : w6.ownsRow base 5 1 v2 (bs ++ (dig s.data.toList.length ++ s.data.toList)).length ((bs ++ (dig s.data.toList.length ++ s.data.toList)).map encB) := by rw [List.length_append, List.map_append]; exact hOn
 clear hOn hatn
 have sk7 := k7.size
 have hK := hK.trans k7 (by omega)
 refine F.sg rfl fun a F => ?_
 refine s_end (K2 _ _ ?_)
 refine wp_ret (res_slot F rfl rfl ⟨v2, rfl, ⟨o2, ?_, hat, by omega⟩, hK⟩)
 exact hO
theorem PutBytes312 (base o : Nat) (v : Value) (bs : List UInt8) (u : Value) (ss : List UInt8) (w0 : World) (hO : w0.ownsRow base 5 1 v bs.length (bs.map encB)) (hat : ∀ j, v.ownBlock = some j → j = o) (ho : o < w0.heap.size) (hb0 : base ≤ w0.heap.size) (hS : Rd w0 u 1 ss.length (ss.map encB)) (hne : ∀ j, u.ownBlock = some j → j ≠ o) (hlen : bs.length + ss.length + 40 ≤ 140737488355328) : Calls Try.prog 66 #[v, u] w0 (PutsY 5 base o w0 (bs ++ (dig ss.length ++ ss))) := by
 obtain ⟨au, cu, hue, _⟩ := hS.form
 subst hue
 have hd2 : (UInt64.ofNat ss.length).toNat = ss.length := d2n (by omega)
 have hdl := dig_len10 (UInt64.ofNat ss.length)
 rw [hd2] at hdl
 have hK := Ktw.refl o o w0
 have sK := hK.size
 refine calls_fs 12 [(0, v), (1, .slice au ss.length cu)] Try.func66 rfl rfl rfl rfl rfl fun a F => ?_
 refine wp_rs fun _ K1 => F.sg rfl fun a F => ?_
 refine s_end (K1 _ _ ?_)
 refine wp_rs fun _ K2 => F.mv rfl fun a F => F.mv rfl fun a F => F.vl (x_len Try.underlying48 rfl) fun a F => F.vl (x_i2d (m := ss.length) Try.underlying3 Try.underlying54 rfl) fun a F => ?_
 refine s_call (R := fun u w' => (∃ o', w'.ownsRow base 5 1 u (bs ++ dig ss.length).length ((bs ++ dig ss.length).map encB) ∧ (∀ j, u.ownBlock = some j → j = o') ∧ ((o' = o ∨ w0.heap.size ≤ o') ∧ o' < w'.heap.size)) ∧ Ktw o o w0 w') F [_, _] E68 rfl (by decide) (by have h := Put314 base o v bs (UInt64.ofNat ss.length) w0 hO hat (by omega) (by omega) (by omega); rw [hd2] at h; exact h) ?_
 rintro v2 w2 a ⟨⟨o2, hOn, hatn, hon⟩, k3⟩ F
 clear hO hat
 have hO := hOn
 have hat := hatn
 clear hOn hatn
 have sk3 := k3.size
 have hK := hK.trans k3 (by omega)
 have hS := hS.k2 k3 (fun c hc => by have := hne c hc; exact ⟨this, this⟩)
 refine F.mv rfl fun a F => ?_
 have hlY : (bs ++ dig ss.length).length + (ss).length ≤ 140737488355328 := by simp; omega
 refine s_appP (o := o2) (p := (ss).length) (ys := (ss).map encB) el503 F (by decide) rfl rfl hO (hS) (oneY _) hat (by omega) (by omega) (by unfold maxLen; omega) (by omega) fun v3 w4 a o3 hOn hatn hon k5 F => ?_
 clear hO hat
 have hat := hatn
 have hO : w4.ownsRow base 5 1 v3 (bs ++ dig ss.length ++ (ss)).length ((bs ++ dig ss.length ++ (ss)).map encB) := by rw [List.length_append, List.map_append]; exact hOn
 clear hOn hatn
 have sk5 := k5.size
 have hK := hK.trans k5 (by omega)
 refine F.sg rfl fun a F => ?_
 refine s_end (K2 _ _ ?_)
 refine wp_ret (res_slot F rfl rfl ⟨v3, rfl, ⟨o3, ?_, hat, by omega⟩, hK⟩)
 rw [← List.append_assoc]
 exact hO
theorem hasNumber332 (k : Int) (w0 : World) : Calls Try.prog 162 #[.int .i64 k] w0 fun e w' => (e = .returned (.bool (decide (k = 1 ∨ k = 2 ∨ k = 3)))) ∧ w' = w0 := by
 refine calls_fs 13 [(0, .int .i64 k)] Try.func162 rfl rfl rfl rfl rfl fun a F => ?_
 refine wp_rs fun _ K1 => F.sg rfl fun a F => ?_
 refine s_end (K1 _ _ ?_)
 rcases (show k = 1 ∨ (k ≠ 1 ∧ k = 2) ∨ (k ≠ 1 ∧ k ≠ 2 ∧ k = 3) ∨ (k ≠ 1 ∧ k ≠ 2 ∧ k ≠ 3) by omega) with hk | hk | hk | hk
 ·
  skip
  refine wp_rs fun _ K3 => F.mv rfl fun a F => F.vl (eqlT (by omega) rfl rfl) fun a F => F.mv rfl fun a F => s_grdn 5 F rfl rfl (by decide) fun a F => s_grdn 5 F rfl rfl (by decide) fun a F => F.vl (x_pick (b := true) rfl rfl) fun a F => F.mv rfl fun a F => s_grdn 9 F rfl rfl (by decide) fun a F => s_grdn 9 F rfl rfl (by decide) fun a F => F.vl (x_pick (b := true) rfl rfl) fun a F => F.sg rfl fun a F => ?_
  refine s_end (K3 _ _ ?_)
  refine wp_ret (res_slot F rfl rfl ⟨by simp [hk], rfl⟩)
 ·
  skip
  refine wp_rs fun _ K4 => F.mv rfl fun a F => F.vl (eqlF (by omega) rfl rfl) fun a F => F.mv rfl fun a F => s_grd 5 F rfl rfl rfl <| F.mv rfl fun a F => s_grd 5 F rfl rfl rfl <| F.vl (eqlT (by omega) rfl rfl) fun a F => F.vl (x_pick (b := false) rfl rfl) fun a F => F.mv rfl fun a F => s_grdn 9 F rfl rfl (by decide) fun a F => s_grdn 9 F rfl rfl (by decide) fun a F => F.vl (x_pick (b := true) rfl rfl) fun a F => F.sg rfl fun a F => ?_
  refine s_end (K4 _ _ ?_)
  refine wp_ret (res_slot F rfl rfl ⟨by simp [hk], rfl⟩)
 ·
  skip
  refine wp_rs fun _ K5 => F.mv rfl fun a F => F.vl (eqlF (by omega) rfl rfl) fun a F => F.mv rfl fun a F => s_grd 5 F rfl rfl rfl <| F.mv rfl fun a F => s_grd 5 F rfl rfl rfl <| F.vl (eqlF (by omega) rfl rfl) fun a F => F.vl (x_pick (b := false) rfl rfl) fun a F => F.mv rfl fun a F => s_grd 9 F rfl rfl rfl <| F.mv rfl fun a F => s_grd 9 F rfl rfl rfl <| F.vl (eqlT (by omega) rfl rfl) fun a F => F.vl (x_pick (b := false) rfl rfl) fun a F => F.sg rfl fun a F => ?_
  refine s_end (K5 _ _ ?_)
  refine wp_ret (res_slot F rfl rfl ⟨by simp [hk], rfl⟩)
 ·
  skip
  refine wp_rs fun _ K6 => F.mv rfl fun a F => F.vl (eqlF (by omega) rfl rfl) fun a F => F.mv rfl fun a F => s_grd 5 F rfl rfl rfl <| F.mv rfl fun a F => s_grd 5 F rfl rfl rfl <| F.vl (eqlF (by omega) rfl rfl) fun a F => F.vl (x_pick (b := false) rfl rfl) fun a F => F.mv rfl fun a F => s_grd 9 F rfl rfl rfl <| F.mv rfl fun a F => s_grd 9 F rfl rfl rfl <| F.vl (eqlF (by omega) rfl rfl) fun a F => F.vl (x_pick (b := false) rfl rfl) fun a F => F.sg rfl fun a F => ?_
  refine s_end (K6 _ _ ?_)
  refine wp_ret (res_slot F rfl rfl ⟨by simp [hk], rfl⟩)
end Go.Proofs.Ytmkjhdiepkpdoaa
