/- Levels in memory: what a value reads as, which levels are sound. -/
import Derived.Test.YtmkjhdiepkpdoaaPureL
import Derived.Test.YtmkjhdiepkpdoaaRows
namespace Go.Proofs.Ytmkjhdiepkpdoaa
open Go.RowKit Go.Shelf
set_option linter.unusedVariables false
set_option linter.unusedSimpArgs false
theorem wide_orders : Try.prog.follows .mixedOrders = true := by kernel_rfl
theorem flat3 : Flat Try.prog 3 = true := by kernel_rfl
theorem flat22 : Flat Try.prog 22 = true := by kernel_rfl
theorem flat29 : Flat Try.prog 117 = true := by kernel_rfl
theorem wide24 : Wide Try.prog 24 3 = true := by kernel_rfl
theorem wide59 : Wide Try.prog 119 2 = true := by kernel_rfl
theorem wide36 : Wide Try.prog 156 2 = true := by kernel_rfl
theorem el22 : Elem Try.prog 22 24 3 40 := elem_of (by kernel_rfl)
theorem el29 : Elem Try.prog 117 3 1 8 := elem_of (by kernel_rfl)
theorem zero3 : (Try.prog.info? 3).bind (·.zero) = some (.int .i64 0) := by kernel_rfl
theorem zero24 : (Try.prog.info? 24).bind (·.zero) = some (.agg [Value.int .i64 0, Value.int .i64 0, Value.slice none 0 0].toArray) := by kernel_rfl
theorem zero59 : (Try.prog.info? 119).bind (·.zero) = some (.agg [Value.int .i64 0, Value.slice none 0 0].toArray) := by kernel_rfl
theorem zero36 : (Try.prog.info? 156).bind (·.zero) = some (.agg [Value.int .i64 0, Value.slice none 0 0].toArray) := by kernel_rfl
theorem fa24_0 : fldB Try.prog 24 0 0 = true := by kernel_rfl
theorem fa24_1 : fldB Try.prog 24 1 1 = true := by kernel_rfl
theorem fa24_2 : fldB Try.prog 24 2 2 = true := by kernel_rfl
theorem fa59_0 : fldB Try.prog 119 0 0 = true := by kernel_rfl
theorem fa59_1 : fldB Try.prog 119 1 1 = true := by kernel_rfl
theorem fa36_0 : fldB Try.prog 156 0 0 = true := by kernel_rfl
theorem fa36_1 : fldB Try.prog 156 1 1 = true := by kernel_rfl
theorem fa54_0 : fldB Try.prog 163 0 0 = true := by kernel_rfl
theorem fa54_1 : fldB Try.prog 163 1 1 = true := by kernel_rfl
theorem fa54_2 : fldB Try.prog 163 2 2 = true := by kernel_rfl
theorem fa54_3 : fldB Try.prog 163 3 3 = true := by kernel_rfl
/-- A level's three cells: its kind, its number, its kids. -/
abbrev C3 := Int × Int × Value
def lc (x : C3) : List Value := [.int .i64 x.1, .int .i64 x.2.1, x.2.2]
abbrev lv (x : C3) : Value := .agg (lc x).toArray
abbrev ints (ks : List Int) : List Value := ks.map (Value.int .i64)
/-- A slice is one cell. -/
theorem Rd.one {W : World} {v : Value} {k n : Nat} {cs : List Value} (h : Rd W v k n cs) : v.oneCell' = true := by
 obtain ⟨a, c, rfl, _⟩ := h.form
 rfl
theorem one_lc {k n : Int} {v : Value} (h : v.oneCell' = true) : ∀ u ∈ lc (k, n, v), u.oneCell' = true := by
 intro u hu
 simp only [lc, List.mem_cons, List.not_mem_nil, or_false] at hu
 rcases hu with rfl | rfl | rfl
 ·
  rfl
 ·
  rfl
 ·
  exact h
theorem fm3_get : ∀ (xs : List C3) (i j : Nat) (x : C3) (u : Value), xs[i]? = some x → (lc x)[j]? = some u → (xs.flatMap lc)[i * 3 + j]? = some u
 | [], i, j, x, u, h1, _ => by simp at h1
 | y :: xs, 0, j, x, u, h1, h2 => by
  simp at h1
  subst h1
  have hj : j < 3 := (List.getElem?_eq_some_iff.1 h2).1
  rw [List.flatMap_cons, List.getElem?_append_left (by simp [lc]; omega), Nat.zero_mul, Nat.zero_add, h2]
 | y :: xs, i + 1, j, x, u, h1, h2 => by
  rw [List.flatMap_cons, List.getElem?_append_right (by simp [lc]; omega), show (i + 1) * 3 + j - (lc y).length = i * 3 + j by simp [lc]; omega]
  exact fm3_get xs i j x u (by simpa using h1) h2
/-- A kid, read. -/
theorem rd_row3 {W : World} {v : Value} {xs : List C3} (h : Rd W v 3 xs.length (xs.flatMap lc)) {i : Nat} (hi : i < xs.length) :
    ∃ b off c x, v = .slice (some ⟨b, off, none⟩) xs.length c ∧ xs[i]? = some x ∧ ∀ W', Below W.heap.size W W' → ∀ j u, (lc x)[j]? = some u → W'.cell? ((⟨b, off + i * 3, none⟩ : Addr).add j) = some u := by
  obtain ⟨b, off, c, rfl, hb⟩ := h.some (by omega)
  refine ⟨b, off, c, xs[i], rfl, List.getElem?_eq_getElem hi, fun W' hB j u hj => ?_⟩
  rw [addr_addn, Nat.add_assoc]
  exact (hB.cell (p := ⟨b, off + (i * 3 + j), none⟩) hb).trans (h.cell (fm3_get xs i j _ u (List.getElem?_eq_getElem hi) hj))
theorem rd_rowI {W : World} {v : Value} {ks : List Int} (h : Rd W v 1 ks.length (ints ks)) {i : Nat} (hi : i < ks.length) :
    ∃ b off c, v = .slice (some ⟨b, off, none⟩) ks.length c ∧ ∀ W', Below W.heap.size W W' → W'.cell? ⟨b, off + i, none⟩ = some (.int .i64 (gt ks i)) := by
  obtain ⟨b, off, c, rfl, hb⟩ := h.some (by omega)
  refine ⟨b, off, c, rfl, fun W' hB => ?_⟩
  exact (hB.cell (p := ⟨b, off + i, none⟩) hb).trans (h.cell (by rw [List.getElem?_map, List.getElem?_eq_getElem hi, gt_lt hi]; rfl))
/-- A level of whatever form. -/
inductive Lv where
 | mk (k n : Int) (ls : List Lv) : Lv
/-- x reads as l. -/
inductive RL (W : World) : C3 → Lv → Prop where
 | mk {k n : Int} {v : Value} {xs : List C3} {ls : List Lv} (hR : Rd W v 3 xs.length (xs.flatMap lc)) (hl : xs.length = ls.length) (hk : ∀ (i : Nat) x l, xs[i]? = some x → ls[i]? = some l → RL W x l) (hbd9 : ls.length ≤ 9223372036854775807 := by first | (simp; done) | assumption | omega) : RL W (k, n, v) (.mk k n ls)
/-- x reads as s. -/
def RS (W : World) : SL → C3 → Prop
 | .num n, x => x.1 = 1 ∧ x.2.1 = (n : Int) ∧ Rd W x.2.2 3 0 []
 | .var i, x => x.1 = 2 ∧ x.2.1 = (i : Int) ∧ Rd W x.2.2 3 0 []
 | .succ n a, x => x.1 = 3 ∧ x.2.1 = (n : Int) ∧ ∃ y, Rd W x.2.2 3 1 (lc y) ∧ RS W a y
 | .mx a b, x => x.1 = 4 ∧ ∃ y z, Rd W x.2.2 3 2 (lc y ++ lc z) ∧ RS W a y ∧ RS W b z
theorem RL.old {W W' : World} {x : C3} {l : Lv} (h : RL W x l) (hB : Below W.heap.size W W') : RL W' x l := by
 induction h with
 | mk hR hl hk hbd9 ih => exact .mk (hR.below hB) hl (fun i x l h1 h2 => ih i x l h1 h2) hbd9
theorem RS.below {W W' : World} (hB : Below W.heap.size W W') : ∀ {s : SL} {x : C3}, RS W s x → RS W' s x
 | .num n, x, h => ⟨h.1, h.2.1, h.2.2.below hB⟩
 | .var n, x, h => ⟨h.1, h.2.1, h.2.2.below hB⟩
 | .succ n a, x, ⟨h1, h2, y, h3, h4⟩ => ⟨h1, h2, y, h3.below hB, RS.below hB h4⟩
 | .mx a b, x, ⟨h1, y, z, h3, h4, h5⟩ => ⟨h1, y, z, h3.below hB, RS.below hB h4, RS.below hB h5⟩
theorem RS.slice {W : World} : ∀ {s : SL} {x : C3}, RS W s x → ∃ n cs, Rd W x.2.2 3 n cs
 | .num n, x, h => ⟨_, _, h.2.2⟩
 | .var n, x, h => ⟨_, _, h.2.2⟩
 | .succ n a, x, ⟨h1, h2, y, h3, h4⟩ => ⟨_, _, h3⟩
 | .mx a b, x, ⟨h1, y, z, h3, h4, h5⟩ => ⟨_, _, h3⟩
theorem RL.slice {W : World} {x : C3} {l : Lv} (h : RL W x l) : ∃ n cs, Rd W x.2.2 3 n cs := by
 cases h with
 | mk hR hl hk => exact ⟨_, _, hR⟩
/-! ### Which may be -/
def kidsB (k : Int) (len : Nat) : Bool := decide (((k = 1 ∨ k = 2) ∧ len = 0) ∨ (k = 3 ∧ len = 1) ∨ (k = 4 ∧ len = 2))
def numB (top k n : Int) : Bool := decide ((k = 1 → 0 ≤ n ∧ n ≤ top) ∧ (k = 3 → 1 ≤ n ∧ n ≤ top))
def nodeE (D top vars d : Int) (r : Nat) (k n : Int) (len : Nat) : Int :=
 if D < d ∨ r = 0 then 2 else if kidsB k len = false ∨ numB top k n = false then 1 else if k = 2 ∧ (n < 0 ∨ vars ≤ n) then 10 else 0
mutual
def chk (D top vars : Int) (d : Int) (r : Nat) : Lv → Int × Nat
 | .mk k n ls => if nodeE D top vars d r k n ls.length ≠ 0 then (nodeE D top vars d r k n ls.length, 0) else chks D top vars (d + 1) (r - 1) ls
def chks (D top vars : Int) (d : Int) (r : Nat) : List Lv → Int × Nat
 | [] => (0, r)
 | l :: ls => if (chk D top vars d r l).1 ≠ 0 then ((chk D top vars d r l).1, 0) else chks D top vars d (chk D top vars d r l).2 ls
end
mutual
theorem chk_le (D top vars : Int) (d : Int) (r : Nat) : ∀ l, (chk D top vars d r l).2 ≤ r
 | .mk k n ls => by
  unfold chk
  split
  ·
   exact Nat.zero_le _
  ·
   exact Nat.le_trans (chks_le D top vars (d + 1) (r - 1) ls) (Nat.sub_le _ _)
theorem chks_le (D top vars : Int) (d : Int) (r : Nat) : ∀ ls, (chks D top vars d r ls).2 ≤ r
 | [] => by simp [chks]
 | l :: ls => by
  unfold chks
  split
  ·
   exact Nat.zero_le _
  ·
   exact Nat.le_trans (chks_le D top vars d _ ls) (chk_le D top vars d r l)
end
def sndL (l : Lv) : Prop := (chk 256 1099511627776 1001 1 1000 l).1 = 0
instance (l : Lv) : Decidable (sndL l) := inferInstanceAs (Decidable (_ = _))
theorem nodeE_iff {D top vars d : Int} {r : Nat} {k n : Int} {len : Nat} : nodeE D top vars d r k n len = 0 ↔ d ≤ D ∧ r ≠ 0 ∧ kidsB k len = true ∧ numB top k n = true ∧ ¬ (k = 2 ∧ (n < 0 ∨ vars ≤ n)) := by
 unfold nodeE
 by_cases c1 : D < d ∨ r = 0
 ·
  rw [if_pos c1]
  constructor
  ·
   intro h; cases h
  ·
   rintro ⟨h1, h2, _⟩; omega
 ·
  rw [if_neg c1]
  by_cases c2 : kidsB k len = false ∨ numB top k n = false
  ·
   rw [if_pos c2]
   constructor
   ·
    intro h; cases h
   ·
    rintro ⟨_, _, h3, h4, _⟩; rcases c2 with h | h
    ·
     rw [h] at h3; cases h3
    ·
     rw [h] at h4; cases h4
  ·
   rw [if_neg c2]
   simp only [not_or, Bool.not_eq_false] at c2
   by_cases c3 : k = 2 ∧ (n < 0 ∨ vars ≤ n)
   ·
    rw [if_pos c3]
    constructor
    ·
     intro h; cases h
    ·
     rintro ⟨_, _, _, _, h⟩; exact absurd c3 h
   ·
    rw [if_neg c3]
    exact ⟨fun _ => ⟨by omega, by omega, c2.1, c2.2, c3⟩, fun _ => rfl⟩
theorem chk_in {D top vars d : Int} {r : Nat} {k n : Int} {ls : List Lv} (h : nodeE D top vars d r k n ls.length = 0) : chk D top vars d r (.mk k n ls) = chks D top vars (d + 1) (r - 1) ls := by
 rw [chk, if_neg (by simp [h])]
theorem chk_out {D top vars d : Int} {r : Nat} {k n : Int} {ls : List Lv} (h : nodeE D top vars d r k n ls.length ≠ 0) : (chk D top vars d r (.mk k n ls)).1 = nodeE D top vars d r k n ls.length := by
 rw [chk, if_pos h]
theorem chks_in {D top vars d : Int} {r : Nat} {l : Lv} {ls : List Lv} (h : (chk D top vars d r l).1 = 0) : chks D top vars d r (l :: ls) = chks D top vars d (chk D top vars d r l).2 ls := by
 rw [chks, if_neg (by simp [h])]
theorem chks_out {D top vars d : Int} {r : Nat} {l : Lv} {ls : List Lv} (h : (chk D top vars d r l).1 ≠ 0) : (chks D top vars d r (l :: ls)).1 = (chk D top vars d r l).1 := by
 rw [chks, if_pos h]
theorem chk_iff {D top vars d : Int} {r : Nat} {k n : Int} {ls : List Lv} : (chk D top vars d r (.mk k n ls)).1 = 0 ↔ nodeE D top vars d r k n ls.length = 0 ∧ (chks D top vars (d + 1) (r - 1) ls).1 = 0 := by
 by_cases h : nodeE D top vars d r k n ls.length = 0
 ·
  rw [chk_in h]; simp [h]
 ·
  rw [chk_out h]; simp [h]
theorem chks_iff {D top vars d : Int} {r : Nat} {l : Lv} {ls : List Lv} : (chks D top vars d r (l :: ls)).1 = 0 ↔ (chk D top vars d r l).1 = 0 ∧ (chks D top vars d (chk D top vars d r l).2 ls).1 = 0 := by
 by_cases h : (chk D top vars d r l).1 = 0
 ·
  rw [chks_in h]; simp [h]
 ·
  rw [chks_out h]; simp [h]
theorem nodeE1 {D top vars d n : Int} {r : Nat} : nodeE D top vars d r 1 n 0 = 0 ↔ d ≤ D ∧ r ≠ 0 ∧ 0 ≤ n ∧ n ≤ top := by
 rw [nodeE_iff]; simp [kidsB, numB]
theorem nodeE2 {D top vars d n : Int} {r : Nat} : nodeE D top vars d r 2 n 0 = 0 ↔ d ≤ D ∧ r ≠ 0 ∧ 0 ≤ n ∧ n < vars := by
 rw [nodeE_iff]; simp [kidsB, numB]
theorem nodeE3 {D top vars d n : Int} {r : Nat} : nodeE D top vars d r 3 n 1 = 0 ↔ d ≤ D ∧ r ≠ 0 ∧ 1 ≤ n ∧ n ≤ top := by
 rw [nodeE_iff]; simp [kidsB, numB]
theorem nodeE4 {D top vars d n : Int} {r : Nat} : nodeE D top vars d r 4 n 2 = 0 ↔ d ≤ D ∧ r ≠ 0 := by
 rw [nodeE_iff]; simp [kidsB, numB]
theorem len2 {α : Type} {xs : List α} (h : xs.length = 2) : ∃ a b, xs = [a, b] := by
 match xs, h with
 | [a, b], _ => exact ⟨a, b, rfl⟩
theorem kidsB_iff {k : Int} {len : Nat} : kidsB k len = true ↔ ((k = 1 ∨ k = 2) ∧ len = 0) ∨ (k = 3 ∧ len = 1) ∨ (k = 4 ∧ len = 2) := by simp only [kidsB, decide_eq_true_eq]
theorem numB_iff {top k n : Int} : numB top k n = true ↔ (k = 1 → 0 ≤ n ∧ n ≤ top) ∧ (k = 3 → 1 ≤ n ∧ n ≤ top) := by simp only [numB, decide_eq_true_eq]
/-- What passes is of the four kinds. -/
theorem chk_sl {W : World} {D top vars : Nat} {x : C3} {l : Lv} (h : RL W x l) : ∀ (d : Int) (r : Nat), (chk D top vars d r l).1 = 0 → ∃ s, RS W s x ∧ s.nums top vars ∧ (s.dep : Int) + d ≤ D + 1 ∧ s.size + (chk D top vars d r l).2 = r := by
 induction h with
 | @mk k n v xs ls hR hl hk hbd9 ih =>
  intro d r hc0
  obtain ⟨h0, hc⟩ := chk_iff.1 hc0
  clear hc0
  rw [chk_in h0]
  clear hk
  obtain ⟨h1, h2, h4, h5, h3⟩ := nodeE_iff.1 h0
  rw [kidsB_iff] at h4
  rw [numB_iff] at h5
  clear h0
  rcases h4 with ⟨hk12, h0⟩ | ⟨rfl, h0⟩ | ⟨rfl, h0⟩
  ·
   obtain rfl : ls = [] := List.eq_nil_of_length_eq_zero h0
   obtain rfl : xs = [] := List.eq_nil_of_length_eq_zero (by simpa using hl)
   simp only [chks]
   rcases hk12 with rfl | rfl
   ·
    have := h5.1 rfl
    exact ⟨.num n.toNat, ⟨rfl, by simp; omega, by simpa using hR⟩, by simp only [SL.nums]; omega, by simp only [SL.dep]; omega, by simp only [SL.size]; omega⟩
   ·
    exact ⟨.var n.toNat, ⟨rfl, by simp; omega, by simpa using hR⟩, by simp only [SL.nums]; omega, by simp only [SL.dep]; omega, by simp only [SL.size]; omega⟩
  ·
   have h6 := h5.2 rfl
   obtain ⟨a, rfl⟩ : ∃ a, ls = [a] := List.length_eq_one_iff.1 h0
   obtain ⟨y, rfl⟩ : ∃ y, xs = [y] := List.length_eq_one_iff.1 (by simpa using hl)
   obtain ⟨hq, _⟩ := chks_iff.1 hc
   obtain ⟨s, g1, g2, g3, g4⟩ := ih 0 y a rfl rfl (d + 1) (r - 1) hq
   rw [chks_in hq]
   simp only [chks]
   exact ⟨.succ n.toNat s, ⟨rfl, by simp; omega, y, by simpa using hR, g1⟩, ⟨by omega, by omega, g2⟩, by simp only [SL.dep]; omega, by simp only [SL.size]; omega⟩
  ·
   obtain ⟨a, b, rfl⟩ := len2 h0
   obtain ⟨y, z, rfl⟩ := len2 (hl.trans (by simp))
   obtain ⟨hq, hc⟩ := chks_iff.1 hc
   obtain ⟨hp, _⟩ := chks_iff.1 hc
   obtain ⟨s, g1, g2, g3, g4⟩ := ih 0 y a rfl rfl (d + 1) (r - 1) hq
   obtain ⟨t, g5, g6, g7, g8⟩ := ih 1 z b rfl rfl (d + 1) _ hp
   rw [chks_in hq, chks_in hp]
   simp only [chks]
   exact ⟨.mx s t, ⟨rfl, y, z, by simpa using hR, g1, g5⟩, ⟨g2, g6⟩, by simp only [SL.dep]; omega, by simp only [SL.size]; omega⟩
/-- A level of the four kinds, as one of whatever form. -/
theorem RS.rl {W : World} {D top vars : Nat} : ∀ {s : SL} {x : C3}, RS W s x → ∃ l, RL W x l ∧ ∀ (d : Int) (r : Nat), ((chk D top vars d r l).1 = 0 ↔ s.nums top vars ∧ (s.dep : Int) + d ≤ D + 1 ∧ s.size ≤ r) ∧ ((chk D top vars d r l).1 = 0 → (chk D top vars d r l).2 + s.size = r)
 | .num m, (k, n, v), ⟨h1, h2, h3⟩ => by
  simp only at h1 h2 h3
  subst h1 h2
  refine ⟨.mk 1 m [], .mk (xs := []) (by simpa using h3) rfl (fun i x l h => by simp at h), fun d r => ⟨?_, fun h => ?_⟩⟩
  ·
   rw [chk_iff, List.length_nil, nodeE1, chks]
   simp only [SL.nums, SL.dep, SL.size, and_true]
   omega
  ·
   have h0 := (chk_iff.1 h).1
   have := nodeE1.1 h0
   rw [chk_in h0]
   simp only [chks, SL.size]
   omega
 | .var m, (k, n, v), ⟨h1, h2, h3⟩ => by
  simp only at h1 h2 h3
  subst h1 h2
  refine ⟨.mk 2 m [], .mk (xs := []) (by simpa using h3) rfl (fun i x l h => by simp at h), fun d r => ⟨?_, fun h => ?_⟩⟩
  ·
   rw [chk_iff, List.length_nil, nodeE2, chks]
   simp only [SL.nums, SL.dep, SL.size, and_true]
   omega
  ·
   have h0 := (chk_iff.1 h).1
   have := nodeE2.1 h0
   rw [chk_in h0]
   simp only [chks, SL.size]
   omega
 | .succ m a, (k, n, v), ⟨h1, h2, y, h3, h4⟩ => by
  simp only at h1 h2 h3
  subst h1 h2
  obtain ⟨l, g1, g2⟩ := RS.rl (D := D) (top := top) (vars := vars) h4
  refine ⟨.mk 3 m [l], .mk (xs := [y]) (by simpa using h3) rfl (fun i x l' e1 e2 => ?_), fun d r => ?_⟩
  ·
   cases i
   ·
    simp at e1 e2; subst e1 e2; exact g1
   ·
    simp at e1
  ·
   obtain ⟨e1, e2⟩ := g2 (d + 1) (r - 1)
   refine ⟨?_, fun h => ?_⟩
   ·
    rw [chk_iff, show ([l] : List Lv).length = 1 from rfl, nodeE3, chks_iff, e1, chks]
    simp only [SL.nums, SL.dep, SL.size]
    exact ⟨fun ⟨⟨h1, h2, h3, h4⟩, ⟨h6, h7, h8⟩, _⟩ => ⟨⟨by omega, by omega, h6⟩, by omega, by omega⟩, fun ⟨⟨h1, h2, h3⟩, h4, h5⟩ => ⟨⟨by omega, by omega, by omega, by omega⟩, ⟨h3, by omega, by omega⟩, trivial⟩⟩
   ·
    obtain ⟨h0, hc⟩ := chk_iff.1 h
    have := nodeE3.1 h0
    obtain ⟨hq, _⟩ := chks_iff.1 hc
    have := e2 hq
    rw [chk_in h0, chks_in hq]
    simp only [chks, SL.size]
    omega
 | .mx a b, (k, n, v), ⟨h1, y, z, h3, h4, h5⟩ => by
  simp only at h1 h3
  subst h1
  obtain ⟨la, g1, g2⟩ := RS.rl (D := D) (top := top) (vars := vars) h4
  obtain ⟨lb, g3, g4⟩ := RS.rl (D := D) (top := top) (vars := vars) h5
  refine ⟨.mk 4 n [la, lb], .mk (xs := [y, z]) (by simpa using h3) rfl (fun i x l' e1 e2 => ?_), fun d r => ?_⟩
  ·
   rcases i with _ | _ | i
   ·
    simp at e1 e2; subst e1 e2; exact g1
   ·
    simp at e1 e2; subst e1 e2; exact g3
   ·
    simp at e1
  ·
   obtain ⟨e1, e2⟩ := g2 (d + 1) (r - 1)
   obtain ⟨e3, e4⟩ := g4 (d + 1) (chk D top vars (d + 1) (r - 1) la).2
   refine ⟨?_, fun h => ?_⟩
   ·
    rw [chk_iff, show ([la, lb] : List Lv).length = 2 from rfl, nodeE4, chks_iff, chks_iff, chks]
    simp only [SL.nums, SL.dep, SL.size]
    refine ⟨fun ⟨⟨h1, h2⟩, h6, h7, _⟩ => ?_, fun ⟨⟨h1, h2⟩, h4, h5⟩ => ?_⟩
    ·
     have := e2 h6
     obtain ⟨p1, p2, p3⟩ := e1.1 h6
     obtain ⟨p4, p5, p6⟩ := e3.1 h7
     exact ⟨⟨p1, p4⟩, by omega, by omega⟩
    ·
     have h6 := e1.2 ⟨h1, by omega, by omega⟩
     have := e2 h6
     exact ⟨⟨by omega, by omega⟩, h6, e3.2 ⟨h2, by omega, by omega⟩, trivial⟩
   ·
    obtain ⟨h0, hc⟩ := chk_iff.1 h
    have := nodeE4.1 h0
    obtain ⟨hq, hc⟩ := chks_iff.1 hc
    obtain ⟨hp, _⟩ := chks_iff.1 hc
    have := e2 hq
    have := e4 hp
    rw [chk_in h0, chks_in hq, chks_in hp]
    simp only [chks, SL.size]
    omega
theorem sound_sl {W : World} {x : C3} {l : Lv} (h : RL W x l) (hs : sndL l) : ∃ s, RS W s x ∧ s.good := by
 obtain ⟨s, h1, h2, h3, h4⟩ := chk_sl (D := 256) (top := 1099511627776) (vars := 1001) h 1 1000 hs
 exact ⟨s, h1, by omega, by omega, h2⟩
theorem RS.snd {W : World} {s : SL} {x : C3} (h : RS W s x) : ∃ l, RL W x l ∧ (sndL l ↔ s.good) := by
 obtain ⟨l, h1, h2⟩ := RS.rl (D := 256) (top := 1099511627776) (vars := 1001) h
 refine ⟨l, h1, ?_⟩
 have := (h2 1 1000).1
 unfold sndL SL.good
 constructor
 ·
  intro h
  have := this.1 h
  exact ⟨by omega, by omega, this.1⟩
 ·
  rintro ⟨g1, g2, g3⟩
  exact this.2 ⟨g3, by omega, g1⟩
theorem lc_inj {x y : C3} (h : lc x = lc y) : x = y := by
 obtain ⟨a, b, c⟩ := x
 obtain ⟨d, e, f⟩ := y
 simp [lc] at h
 obtain ⟨rfl, rfl, rfl⟩ := h
 rfl
theorem fm3_inj : ∀ {xs ys : List C3}, xs.length = ys.length → xs.flatMap lc = ys.flatMap lc → xs = ys
 | [], [], _, _ => rfl
 | [], _ :: _, h, _ => by simp at h
 | _ :: _, [], h, _ => by simp at h
 | x :: xs, y :: ys, h, e => by
  rw [List.flatMap_cons, List.flatMap_cons] at e
  obtain ⟨e1, e2⟩ := List.append_inj e rfl
  rw [lc_inj e1, fm3_inj (by simpa using h) e2]
/-- What a slice reads as is one thing. -/
theorem Rd.inj {W : World} {v : Value} {k n m : Nat} {cs ds : List Value} (h : Rd W v k n cs) (h' : Rd W v k m ds) : n = m ∧ cs = ds := by
 have e : n = m := by
  obtain ⟨a, c, rfl, _⟩ := h.form
  obtain ⟨a', c', e, _⟩ := h'.form
  cases e
  rfl
 subst e
 refine ⟨rfl, ?_⟩
 rcases Nat.eq_zero_or_pos n with rfl | hn
 ·
  have h1 := h.1
  have h2 := h'.1
  rw [Nat.zero_mul] at h1 h2
  rw [List.eq_nil_of_length_eq_zero h1, List.eq_nil_of_length_eq_zero h2]
 ·
  obtain ⟨b, off, c, rfl, hb⟩ := h.some hn
  apply List.ext_getElem (h.1.trans h'.1.symm)
  intro i h1 h2
  have e1 := h.cell (List.getElem?_eq_getElem h1)
  have e2 := h'.cell (List.getElem?_eq_getElem h2)
  rw [e1] at e2
  simpa using e2
theorem RS.inj {W : World} : ∀ {s t : SL} {x : C3}, RS W s x → RS W t x → s = t
 | .num a, .num b, x, h, h' => by have := h.2.1.symm.trans h'.2.1; congr 1; omega
 | .var a, .var b, x, h, h' => by have := h.2.1.symm.trans h'.2.1; congr 1; omega
 | .succ a s, .succ b t, x, ⟨_, h1, y, h2, h3⟩, ⟨_, h4, z, h5, h6⟩ => by
  have e := lc_inj (h2.inj h5).2
  subst e
  rw [RS.inj h3 h6, show a = b by omega]
 | .mx a b, .mx c d, x, ⟨_, y, z, h2, h3, h4⟩, ⟨_, y', z', h5, h6, h7⟩ => by
  have e := (h2.inj h5).2
  have e := List.append_inj e rfl
  have e1 := lc_inj e.1
  have e2 := lc_inj e.2
  subst e1 e2
  rw [RS.inj h3 h6, RS.inj h4 h7]
 | .num _, .var _, x, h, h' => by have := h.1.symm.trans h'.1; omega
 | .num _, .succ _ _, x, h, h' => by have := h.1.symm.trans h'.1; omega
 | .num _, .mx _ _, x, h, h' => by have := h.1.symm.trans h'.1; omega
 | .var _, .num _, x, h, h' => by have := h.1.symm.trans h'.1; omega
 | .var _, .succ _ _, x, h, h' => by have := h.1.symm.trans h'.1; omega
 | .var _, .mx _ _, x, h, h' => by have := h.1.symm.trans h'.1; omega
 | .succ _ _, .num _, x, h, h' => by have := h.1.symm.trans h'.1; omega
 | .succ _ _, .var _, x, h, h' => by have := h.1.symm.trans h'.1; omega
 | .succ _ _, .mx _ _, x, h, h' => by have := h.1.symm.trans h'.1; omega
 | .mx _ _, .num _, x, h, h' => by have := h.1.symm.trans h'.1; omega
 | .mx _ _, .var _, x, h, h' => by have := h.1.symm.trans h'.1; omega
 | .mx _ _, .succ _ _, x, h, h' => by have := h.1.symm.trans h'.1; omega
theorem RL.inj {W : World} {x : C3} {l l' : Lv} (h : RL W x l) : RL W x l' → l = l' := by
 induction h generalizing l' with
 | @mk k n v xs ls hR hl hk hbd9 ih =>
  intro h'
  cases h' with
  | @mk _ _ _ ys ls' hR' hl' hk' =>
   obtain ⟨e1, e2⟩ := hR.inj hR'
   have e3 : xs = ys := fm3_inj e1 e2
   subst e3
   have : ls = ls' := by
    apply List.ext_getElem (by omega)
    intro i h1 h2
    exact ih i xs[i] ls[i] (List.getElem?_eq_getElem (by omega)) (List.getElem?_eq_getElem h1) (hk' i xs[i] ls'[i] (List.getElem?_eq_getElem (by omega)) (List.getElem?_eq_getElem h2))
   rw [this]
/-- A level of the four kinds that is good passes. -/
theorem rs_snd {W : World} {x : C3} {l : Lv} {s : SL} (hL : RL W x l) (hs : RS W s x) (hg : s.good) : sndL l := by
 obtain ⟨l', h1, h2⟩ := hs.snd
 rw [hL.inj h1]
 exact h2.2 hg
theorem E8 : Enters Try.prog 8 := enters_of Try.func8 (by kernel_rfl) rfl
theorem E27 : Enters Try.prog 27 := enters_of Try.func27 (by kernel_rfl) rfl
theorem E29 : Enters Try.prog 29 := enters_of Try.func29 (by kernel_rfl) rfl
theorem E31 : Enters Try.prog 31 := enters_of Try.func31 (by kernel_rfl) rfl
theorem E37 : Enters Try.prog 37 := enters_of Try.func37 (by kernel_rfl) rfl
theorem E38 : Enters Try.prog 38 := enters_of Try.func38 (by kernel_rfl) rfl
theorem E39 : Enters Try.prog 39 := enters_of Try.func39 (by kernel_rfl) rfl
theorem E43 : Enters Try.prog 43 := enters_of Try.func43 (by kernel_rfl) rfl
theorem E46 : Enters Try.prog 46 := enters_of Try.func46 (by kernel_rfl) rfl
theorem E50 : Enters Try.prog 50 := enters_of Try.func50 (by kernel_rfl) rfl
theorem E54 : Enters Try.prog 54 := enters_of Try.func54 (by kernel_rfl) rfl
theorem E65 : Enters Try.prog 65 := enters_of Try.func65 (by kernel_rfl) rfl
theorem E69 : Enters Try.prog 69 := enters_of Try.func69 (by kernel_rfl) rfl
theorem E70 : Enters Try.prog 70 := enters_of Try.func70 (by kernel_rfl) rfl
theorem E71 : Enters Try.prog 71 := enters_of Try.func71 (by kernel_rfl) rfl
theorem E74 : Enters Try.prog 74 := enters_of Try.func74 (by kernel_rfl) rfl
theorem E78 : Enters Try.prog 78 := enters_of Try.func78 (by kernel_rfl) rfl
theorem E79 : Enters Try.prog 79 := enters_of Try.func79 (by kernel_rfl) rfl
theorem E80 : Enters Try.prog 80 := enters_of Try.func80 (by kernel_rfl) rfl
theorem E81 : Enters Try.prog 81 := enters_of Try.func81 (by kernel_rfl) rfl
theorem E82 : Enters Try.prog 82 := enters_of Try.func82 (by kernel_rfl) rfl
theorem E84 : Enters Try.prog 84 := enters_of Try.func84 (by kernel_rfl) rfl
theorem E87 : Enters Try.prog 87 := enters_of Try.func87 (by kernel_rfl) rfl
theorem E88 : Enters Try.prog 88 := enters_of Try.func88 (by kernel_rfl) rfl
theorem E89 : Enters Try.prog 89 := enters_of Try.func89 (by kernel_rfl) rfl
theorem E102 : Enters Try.prog 102 := enters_of Try.func102 (by kernel_rfl) rfl
theorem E103 : Enters Try.prog 103 := enters_of Try.func103 (by kernel_rfl) rfl
theorem E105 : Enters Try.prog 105 := enters_of Try.func105 (by kernel_rfl) rfl
theorem E108 : Enters Try.prog 108 := enters_of Try.func108 (by kernel_rfl) rfl
theorem E109 : Enters Try.prog 109 := enters_of Try.func109 (by kernel_rfl) rfl
theorem E110 : Enters Try.prog 110 := enters_of Try.func110 (by kernel_rfl) rfl
theorem E111 : Enters Try.prog 111 := enters_of Try.func111 (by kernel_rfl) rfl
theorem E112 : Enters Try.prog 112 := enters_of Try.func112 (by kernel_rfl) rfl
theorem E114 : Enters Try.prog 114 := enters_of Try.func114 (by kernel_rfl) rfl
theorem E115 : Enters Try.prog 115 := enters_of Try.func115 (by kernel_rfl) rfl
theorem E117 : Enters Try.prog 117 := enters_of Try.func117 (by kernel_rfl) rfl
theorem E118 : Enters Try.prog 118 := enters_of Try.func118 (by kernel_rfl) rfl
theorem E119 : Enters Try.prog 119 := enters_of Try.func119 (by kernel_rfl) rfl
theorem E120 : Enters Try.prog 120 := enters_of Try.func120 (by kernel_rfl) rfl
theorem E122 : Enters Try.prog 122 := enters_of Try.func122 (by kernel_rfl) rfl
theorem E123 : Enters Try.prog 123 := enters_of Try.func123 (by kernel_rfl) rfl
theorem E124 : Enters Try.prog 124 := enters_of Try.func124 (by kernel_rfl) rfl
theorem E125 : Enters Try.prog 125 := enters_of Try.func125 (by kernel_rfl) rfl
theorem E131 : Enters Try.prog 131 := enters_of Try.func131 (by kernel_rfl) rfl
theorem E132 : Enters Try.prog 132 := enters_of Try.func132 (by kernel_rfl) rfl
theorem E133 : Enters Try.prog 133 := enters_of Try.func133 (by kernel_rfl) rfl
theorem E134 : Enters Try.prog 134 := enters_of Try.func134 (by kernel_rfl) rfl
theorem E140 : Enters Try.prog 140 := enters_of Try.func140 (by kernel_rfl) rfl
theorem E141 : Enters Try.prog 141 := enters_of Try.func141 (by kernel_rfl) rfl
theorem E142 : Enters Try.prog 142 := enters_of Try.func142 (by kernel_rfl) rfl
theorem E143 : Enters Try.prog 143 := enters_of Try.func143 (by kernel_rfl) rfl
theorem E144 : Enters Try.prog 144 := enters_of Try.func144 (by kernel_rfl) rfl
theorem E145 : Enters Try.prog 145 := enters_of Try.func145 (by kernel_rfl) rfl
theorem E147 : Enters Try.prog 147 := enters_of Try.func147 (by kernel_rfl) rfl
theorem E148 : Enters Try.prog 148 := enters_of Try.func148 (by kernel_rfl) rfl
theorem E149 : Enters Try.prog 149 := enters_of Try.func149 (by kernel_rfl) rfl
theorem E150 : Enters Try.prog 150 := enters_of Try.func150 (by kernel_rfl) rfl
theorem E151 : Enters Try.prog 151 := enters_of Try.func151 (by kernel_rfl) rfl
theorem E152 : Enters Try.prog 152 := enters_of Try.func152 (by kernel_rfl) rfl
theorem E153 : Enters Try.prog 153 := enters_of Try.func153 (by kernel_rfl) rfl
theorem E154 : Enters Try.prog 154 := enters_of Try.func154 (by kernel_rfl) rfl
theorem E156 : Enters Try.prog 156 := enters_of Try.func156 (by kernel_rfl) rfl
theorem E162 : Enters Try.prog 162 := enters_of Try.func162 (by kernel_rfl) rfl
theorem E163 : Enters Try.prog 163 := enters_of Try.func163 (by kernel_rfl) rfl
theorem E165 : Enters Try.prog 165 := enters_of Try.func165 (by kernel_rfl) rfl
theorem E166 : Enters Try.prog 166 := enters_of Try.func166 (by kernel_rfl) rfl
theorem E167 : Enters Try.prog 167 := enters_of Try.func167 (by kernel_rfl) rfl
theorem E168 : Enters Try.prog 168 := enters_of Try.func168 (by kernel_rfl) rfl
theorem E169 : Enters Try.prog 169 := enters_of Try.func169 (by kernel_rfl) rfl
theorem E172 : Enters Try.prog 172 := enters_of Try.func172 (by kernel_rfl) rfl
end Go.Proofs.Ytmkjhdiepkpdoaa

namespace Go.Proofs.Ytmkjhdiepkpdoaa
open Go.RowKit Go.Shelf
set_option linter.unusedVariables false
set_option linter.unusedSimpArgs false
theorem b24_0 (k : Int) (w : World) : (Instr.build 24 [(0, Value.int .i64 k)].toArray).run Try.prog w = .ok (.agg [Value.int .i64 k, Value.int .i64 0, Value.slice none 0 0].toArray) w := run_build w 24 _ _ (by kernel_rfl)
theorem b59_ (w : World) : (Instr.build 119 [].toArray).run Try.prog w = .ok (.agg [Value.int .i64 0, Value.slice none 0 0].toArray) w := run_build w 119 _ _ (by kernel_rfl)
theorem b36_0 (k : Int) (w : World) : (Instr.build 156 [(0, Value.int .i64 k)].toArray).run Try.prog w = .ok (.agg [Value.int .i64 k, Value.slice none 0 0].toArray) w := run_build w 156 _ _ (by kernel_rfl)
theorem b36_ (w : World) : (Instr.build 156 [].toArray).run Try.prog w = .ok (.agg [Value.int .i64 0, Value.slice none 0 0].toArray) w := run_build w 156 _ _ (by kernel_rfl)
theorem b54_0123 (p q r s : Int) (w : World) : (Instr.build 163 [(0, Value.int .i64 p), (1, Value.int .i64 q), (2, Value.int .i64 r), (3, Value.int .i64 s)].toArray).run Try.prog w = .ok (.agg [Value.int .i64 p, Value.int .i64 q, Value.int .i64 r, Value.int .i64 s].toArray) w := run_build w 163 _ _ (by kernel_rfl)
theorem one2 {k : Int} {v : Value} (h : v.oneCell' = true) : ∀ u ∈ [Value.int .i64 k, v], u.oneCell' = true := by
 intro u hu
 simp only [List.mem_cons, List.not_mem_nil, or_false] at hu
 rcases hu with rfl | rfl
 ·
  rfl
 ·
  exact h
section
variable {P : Program} {n : Nat} {l : List (Nat × Value)} {w : World} {x y : Operand}
theorem x_ldW {t k b t0 : Nat} {cs : List Value} (ht : Wide P t k = true) (m : Blk w b t0 cs) (hl : cs.length = k) (hx : ov l x = some (.pointer (some ⟨b, 0, none⟩))) : Runs P n l w (.load t x) (.agg cs.toArray) := by
 subst hl
 exact x_load hx (m_loadW ht m)
theorem x_ldA {t k : Nat} {ad : Addr} {cs : List Value} (ht : Wide P t k = true) (hc : ∀ j v, cs[j]? = some v → w.cell? (ad.add j) = some v) (hl : cs.length = k) (hx : ov l x = some (.pointer (some ad))) : Runs P n l w (.load t x) (.agg cs.toArray) := by
 subst hl
 exact x_load hx (m_loadA ht hc)
end
end Go.Proofs.Ytmkjhdiepkpdoaa

namespace Go.Proofs.Ytmkjhdiepkpdoaa
set_option maxRecDepth 100000
set_option maxHeartbeats 1600000
open Go.RowKit Go.Shelf
set_option linter.unusedVariables false
set_option linter.unusedSimpArgs false
theorem sum54 (n m : Int) (h0 : 0 ≤ n) (h1 : n ≤ 1099511627776) (h2 : -4611686018427387904 ≤ m) (h3 : m ≤ 4611686018427387904) (w0 : World) : Calls Try.prog 133 #[.int .i64 n, .int .i64 m] w0 fun e w' => e = .returned (.int .i64 (cut (n + m))) ∧ w' = w0 := by
 refine calls_fs 12 [(0, .int .i64 n), (1, .int .i64 m)] Try.func133 rfl rfl rfl rfl rfl fun a F => ?_
 refine wp_rs fun _ K1 => F.sg rfl fun a F => ?_
 refine s_end (K1 _ _ ?_)
 refine wp_seq_k fun _ K2 => ?_
 refine wp_rs fun _ K3 => F.mv rfl fun a F => F.mv rfl fun a F => F.vl (x_sub (by omega) (by omega) rfl rfl) fun a F => F.vl (x_gtr rfl rfl rfl) fun a F => ?_
 refine s_end (K3 _ _ ?_)
 refine wp_iff F rfl (fun hc8 => ?_) (fun hc8 => ?_)
 ·
  refine wp_rs fun _ K4 => F.sg rfl fun a F => ?_
  refine s_end (K4 _ _ ?_)
  refine wp_ret (then_ret (res_slot F rfl rfl ⟨by rw [show cut (n + m) = 1099511627776 by unfold cut; omega], rfl⟩))
 ·
  refine wp_skip (K2 _ _ ?_)
  refine wp_rs fun _ K5 => F.mv rfl fun a F => F.mv rfl fun a F => F.vl (x_add (by omega) (by omega) rfl rfl) fun a F => F.sg rfl fun a F => ?_
  refine s_end (K5 _ _ ?_)
  refine wp_ret (res_slot F rfl rfl ⟨by rw [show cut (n + m) = n + m by unfold cut; omega], rfl⟩)
def arI (k : Int) : Int := if k = 1 ∨ k = 2 then 0 else if k = 3 then 1 else if k = 4 then 2 else -1
theorem arity58 (k : Int) (w0 : World) : Calls Try.prog 123 #[.int .i64 k] w0 fun e w' => e = .returned (.int .i64 (arI k)) ∧ w' = w0 := by
 refine calls_fs 11 [(0, .int .i64 k)] Try.func123 rfl rfl rfl rfl rfl fun a F => ?_
 rcases (show k = 1 ∨ k = 2 ∨ k = 3 ∨ k = 4 ∨ (k ≠ 1 ∧ k ≠ 2 ∧ k ≠ 3 ∧ k ≠ 4) by omega) with hk | hk | hk | hk | hk
 ·
  skip
  refine wp_rs fun _ K2 => F.sg rfl fun a F => ?_
  refine s_end (K2 _ _ ?_)
  refine wp_seq_k fun _ K3 => ?_
  refine wp_rs fun _ K4 => F.mv rfl fun a F => ?_
  refine s_end (K4 _ _ ?_)
  refine wp_block ?_
  refine wp_seq_k fun _ K5 => ?_
  refine wp_rs fun _ K6 => F.vl (eqlT (by omega) rfl rfl) fun a F => F.sg rfl fun a F => ?_
  refine s_end (K6 _ _ ?_)
  refine wp_if F rfl ?_
  refine wp_skip (K5 _ _ ?_)
  refine wp_if F rfl ?_
  refine wp_rs fun _ K7 => F.sg rfl fun a F => ?_
  refine s_end (K7 _ _ ?_)
  refine wp_ret (inb_ret (then_ret (res_slot F rfl rfl ⟨by simp [arI, hk], rfl⟩)))
 ·
  skip
  refine wp_rs fun _ K8 => F.sg rfl fun a F => ?_
  refine s_end (K8 _ _ ?_)
  refine wp_seq_k fun _ K9 => ?_
  refine wp_rs fun _ K10 => F.mv rfl fun a F => ?_
  refine s_end (K10 _ _ ?_)
  refine wp_block ?_
  refine wp_seq_k fun _ K11 => ?_
  refine wp_rs fun _ K12 => F.vl (eqlF (by omega) rfl rfl) fun a F => F.sg rfl fun a F => ?_
  refine s_end (K12 _ _ ?_)
  refine wp_if F rfl ?_
  refine wp_region_lit ?_
  refine F.vl (eqlT (by omega) rfl rfl) fun a F => F.sg rfl fun a F => ?_
  refine s_end (K11 _ _ ?_)
  refine wp_if F rfl ?_
  refine wp_rs fun _ K13 => F.sg rfl fun a F => ?_
  refine s_end (K13 _ _ ?_)
  refine wp_ret (inb_ret (then_ret (res_slot F rfl rfl ⟨by simp [arI, hk], rfl⟩)))
 ·
  skip
  refine wp_rs fun _ K14 => F.sg rfl fun a F => ?_
  refine s_end (K14 _ _ ?_)
  refine wp_seq_k fun _ K15 => ?_
  refine wp_rs fun _ K16 => F.mv rfl fun a F => ?_
  refine s_end (K16 _ _ ?_)
  refine wp_block ?_
  refine wp_seq_k fun _ K17 => ?_
  refine wp_rs fun _ K18 => F.vl (eqlF (by omega) rfl rfl) fun a F => F.sg rfl fun a F => ?_
  refine s_end (K18 _ _ ?_)
  refine wp_if F rfl ?_
  refine wp_region_lit ?_
  refine F.vl (eqlF (by omega) rfl rfl) fun a F => F.sg rfl fun a F => ?_
  refine s_end (K17 _ _ ?_)
  refine wp_if F rfl ?_
  refine wp_rs fun _ K19 => F.vl (eqlT (by omega) rfl rfl) fun a F => F.sg rfl fun a F => ?_
  refine s_end (K19 _ _ ?_)
  refine wp_if F rfl ?_
  refine wp_rs fun _ K20 => F.sg rfl fun a F => ?_
  refine s_end (K20 _ _ ?_)
  refine wp_ret (inb_ret (then_ret (res_slot F rfl rfl ⟨by simp [arI, hk], rfl⟩)))
 ·
  skip
  refine wp_rs fun _ K21 => F.sg rfl fun a F => ?_
  refine s_end (K21 _ _ ?_)
  refine wp_seq_k fun _ K22 => ?_
  refine wp_rs fun _ K23 => F.mv rfl fun a F => ?_
  refine s_end (K23 _ _ ?_)
  refine wp_block ?_
  refine wp_seq_k fun _ K24 => ?_
  refine wp_rs fun _ K25 => F.vl (eqlF (by omega) rfl rfl) fun a F => F.sg rfl fun a F => ?_
  refine s_end (K25 _ _ ?_)
  refine wp_if F rfl ?_
  refine wp_region_lit ?_
  refine F.vl (eqlF (by omega) rfl rfl) fun a F => F.sg rfl fun a F => ?_
  refine s_end (K24 _ _ ?_)
  refine wp_if F rfl ?_
  refine wp_rs fun _ K26 => F.vl (eqlF (by omega) rfl rfl) fun a F => F.sg rfl fun a F => ?_
  refine s_end (K26 _ _ ?_)
  refine wp_if F rfl ?_
  refine wp_rs fun _ K27 => F.vl (eqlT (by omega) rfl rfl) fun a F => F.sg rfl fun a F => ?_
  refine s_end (K27 _ _ ?_)
  refine wp_if F rfl ?_
  refine wp_rs fun _ K28 => F.sg rfl fun a F => ?_
  refine s_end (K28 _ _ ?_)
  refine wp_ret (inb_ret (then_ret (res_slot F rfl rfl ⟨by simp [arI, hk], rfl⟩)))
 ·
  skip
  refine wp_rs fun _ K29 => F.sg rfl fun a F => ?_
  refine s_end (K29 _ _ ?_)
  refine wp_seq_k fun _ K30 => ?_
  refine wp_rs fun _ K31 => F.mv rfl fun a F => ?_
  refine s_end (K31 _ _ ?_)
  refine wp_block ?_
  refine wp_seq_k fun _ K32 => ?_
  refine wp_rs fun _ K33 => F.vl (eqlF (by omega) rfl rfl) fun a F => F.sg rfl fun a F => ?_
  refine s_end (K33 _ _ ?_)
  refine wp_if F rfl ?_
  refine wp_region_lit ?_
  refine F.vl (eqlF (by omega) rfl rfl) fun a F => F.sg rfl fun a F => ?_
  refine s_end (K32 _ _ ?_)
  refine wp_if F rfl ?_
  refine wp_rs fun _ K34 => F.vl (eqlF (by omega) rfl rfl) fun a F => F.sg rfl fun a F => ?_
  refine s_end (K34 _ _ ?_)
  refine wp_if F rfl ?_
  refine wp_rs fun _ K35 => F.vl (eqlF (by omega) rfl rfl) fun a F => F.sg rfl fun a F => ?_
  refine s_end (K35 _ _ ?_)
  refine wp_if F rfl ?_
  refine wp_skip (K30 _ _ ?_)
  refine wp_rs fun _ K36 => F.sg rfl fun a F => ?_
  refine s_end (K36 _ _ ?_)
  refine wp_ret (res_slot F rfl rfl ⟨by simp [arI, hk], rfl⟩)
theorem hasKids56 (k n : Int) (v : Value) (len : Nat) (cs : List Value) (w0 : World) (hR : Rd w0 v 3 len cs) : Calls Try.prog 168 #[.agg [.int .i64 k, .int .i64 n, v].toArray] w0 fun e w' => e = .returned (.bool (kidsB k len)) ∧ Below w0.heap.size w0 w' := by
 obtain ⟨av, cv, rfl, _⟩ := hR.form
 have hB := Below.refl w0.heap.size w0
 have sB := hB.size
 refine calls_fs 24 [(0, .agg [.int .i64 k, .int .i64 n, .slice av len cv].toArray)] Try.func168 rfl rfl rfl rfl rfl fun a F => ?_
 rcases (show k = 1 ∨ k = 2 ∨ k = 3 ∨ k = 4 ∨ (k ≠ 1 ∧ k ≠ 2 ∧ k ≠ 3 ∧ k ≠ 4) by omega) with hk | hk | hk | hk | hk
 ·
  skip
  refine wp_rs fun _ K2 => ?_
  refine s_box ([.int .i64 k, .int .i64 n, .slice av len cv]) F (by decide) rfl rfl fun w2 b1 a eb1 m1 B3 zb1 F => ?_
  have sB3 := B3.size
  have hB := bt hB B3
  refine F.sg rfl fun a F => ?_
  refine s_end (K2 _ _ ?_)
  refine wp_seq_k fun _ K3 => ?_
  refine wp_rs fun _ K4 => F.vl (x_fa0 fa24_0 rfl) fun a F => F.ld m1 flat3 rfl rfl fun a F => ?_
  refine s_end (K4 _ _ ?_)
  refine wp_block ?_
  refine wp_seq_k fun _ K5 => ?_
  refine wp_rs fun _ K6 => F.vl (eqlT (by omega) rfl rfl) fun a F => F.sg rfl fun a F => ?_
  refine s_end (K6 _ _ ?_)
  refine wp_if F rfl ?_
  refine wp_skip (K5 _ _ ?_)
  refine wp_if F rfl ?_
  refine wp_rs fun _ K7 => F.vl (x_fa0 fa24_2 rfl) fun a F => F.ld m1 flat22 rfl rfl fun a F => F.vl (x_len Try.underlying22 rfl) fun a F => F.vl (x_eql (b := decide (len = 0)) (decide_eq_decide.2 (by omega)) rfl rfl) fun a F => F.sg rfl fun a F => ?_
  refine s_end (K7 _ _ ?_)
  refine wp_ret (inb_ret (then_ret (res_slot F rfl rfl ⟨by simp [kidsB, hk], hB⟩)))
 ·
  skip
  refine wp_rs fun _ K8 => ?_
  refine s_box ([.int .i64 k, .int .i64 n, .slice av len cv]) F (by decide) rfl rfl fun w4 b1 a eb1 m1 B5 zb1 F => ?_
  have sB5 := B5.size
  have hB := bt hB B5
  refine F.sg rfl fun a F => ?_
  refine s_end (K8 _ _ ?_)
  refine wp_seq_k fun _ K9 => ?_
  refine wp_rs fun _ K10 => F.vl (x_fa0 fa24_0 rfl) fun a F => F.ld m1 flat3 rfl rfl fun a F => ?_
  refine s_end (K10 _ _ ?_)
  refine wp_block ?_
  refine wp_seq_k fun _ K11 => ?_
  refine wp_rs fun _ K12 => F.vl (eqlF (by omega) rfl rfl) fun a F => F.sg rfl fun a F => ?_
  refine s_end (K12 _ _ ?_)
  refine wp_if F rfl ?_
  refine wp_region_lit ?_
  refine F.vl (eqlT (by omega) rfl rfl) fun a F => F.sg rfl fun a F => ?_
  refine s_end (K11 _ _ ?_)
  refine wp_if F rfl ?_
  refine wp_rs fun _ K13 => F.vl (x_fa0 fa24_2 rfl) fun a F => F.ld m1 flat22 rfl rfl fun a F => F.vl (x_len Try.underlying22 rfl) fun a F => F.vl (x_eql (b := decide (len = 0)) (decide_eq_decide.2 (by omega)) rfl rfl) fun a F => F.sg rfl fun a F => ?_
  refine s_end (K13 _ _ ?_)
  refine wp_ret (inb_ret (then_ret (res_slot F rfl rfl ⟨by simp [kidsB, hk], hB⟩)))
 ·
  skip
  refine wp_rs fun _ K14 => ?_
  refine s_box ([.int .i64 k, .int .i64 n, .slice av len cv]) F (by decide) rfl rfl fun w6 b1 a eb1 m1 B7 zb1 F => ?_
  have sB7 := B7.size
  have hB := bt hB B7
  refine F.sg rfl fun a F => ?_
  refine s_end (K14 _ _ ?_)
  refine wp_seq_k fun _ K15 => ?_
  refine wp_rs fun _ K16 => F.vl (x_fa0 fa24_0 rfl) fun a F => F.ld m1 flat3 rfl rfl fun a F => ?_
  refine s_end (K16 _ _ ?_)
  refine wp_block ?_
  refine wp_seq_k fun _ K17 => ?_
  refine wp_rs fun _ K18 => F.vl (eqlF (by omega) rfl rfl) fun a F => F.sg rfl fun a F => ?_
  refine s_end (K18 _ _ ?_)
  refine wp_if F rfl ?_
  refine wp_region_lit ?_
  refine F.vl (eqlF (by omega) rfl rfl) fun a F => F.sg rfl fun a F => ?_
  refine s_end (K17 _ _ ?_)
  refine wp_if F rfl ?_
  refine wp_rs fun _ K19 => F.vl (eqlT (by omega) rfl rfl) fun a F => F.sg rfl fun a F => ?_
  refine s_end (K19 _ _ ?_)
  refine wp_if F rfl ?_
  refine wp_rs fun _ K20 => F.vl (x_fa0 fa24_2 rfl) fun a F => F.ld m1 flat22 rfl rfl fun a F => F.vl (x_len Try.underlying22 rfl) fun a F => F.vl (x_eql (b := decide (len = 1)) (decide_eq_decide.2 (by omega)) rfl rfl) fun a F => F.sg rfl fun a F => ?_
  refine s_end (K20 _ _ ?_)
  refine wp_ret (inb_ret (then_ret (res_slot F rfl rfl ⟨by simp [kidsB, hk], hB⟩)))
 ·
  skip
  refine wp_rs fun _ K21 => ?_
  refine s_box ([.int .i64 k, .int .i64 n, .slice av len cv]) F (by decide) rfl rfl fun w8 b1 a eb1 m1 B9 zb1 F => ?_
  have sB9 := B9.size
  have hB := bt hB B9
  refine F.sg rfl fun a F => ?_
  refine s_end (K21 _ _ ?_)
  refine wp_seq_k fun _ K22 => ?_
  refine wp_rs fun _ K23 => F.vl (x_fa0 fa24_0 rfl) fun a F => F.ld m1 flat3 rfl rfl fun a F => ?_
  refine s_end (K23 _ _ ?_)
  refine wp_block ?_
  refine wp_seq_k fun _ K24 => ?_
  refine wp_rs fun _ K25 => F.vl (eqlF (by omega) rfl rfl) fun a F => F.sg rfl fun a F => ?_
  refine s_end (K25 _ _ ?_)
  refine wp_if F rfl ?_
  refine wp_region_lit ?_
  refine F.vl (eqlF (by omega) rfl rfl) fun a F => F.sg rfl fun a F => ?_
  refine s_end (K24 _ _ ?_)
  refine wp_if F rfl ?_
  refine wp_rs fun _ K26 => F.vl (eqlF (by omega) rfl rfl) fun a F => F.sg rfl fun a F => ?_
  refine s_end (K26 _ _ ?_)
  refine wp_if F rfl ?_
  refine wp_rs fun _ K27 => F.vl (eqlT (by omega) rfl rfl) fun a F => F.sg rfl fun a F => ?_
  refine s_end (K27 _ _ ?_)
  refine wp_if F rfl ?_
  refine wp_rs fun _ K28 => F.vl (x_fa0 fa24_2 rfl) fun a F => F.ld m1 flat22 rfl rfl fun a F => F.vl (x_len Try.underlying22 rfl) fun a F => F.vl (x_eql (b := decide (len = 2)) (decide_eq_decide.2 (by omega)) rfl rfl) fun a F => F.sg rfl fun a F => ?_
  refine s_end (K28 _ _ ?_)
  refine wp_ret (inb_ret (then_ret (res_slot F rfl rfl ⟨by simp [kidsB, hk], hB⟩)))
 ·
  skip
  refine wp_rs fun _ K29 => ?_
  refine s_box ([.int .i64 k, .int .i64 n, .slice av len cv]) F (by decide) rfl rfl fun w10 b1 a eb1 m1 B11 zb1 F => ?_
  have sB11 := B11.size
  have hB := bt hB B11
  refine F.sg rfl fun a F => ?_
  refine s_end (K29 _ _ ?_)
  refine wp_seq_k fun _ K30 => ?_
  refine wp_rs fun _ K31 => F.vl (x_fa0 fa24_0 rfl) fun a F => F.ld m1 flat3 rfl rfl fun a F => ?_
  refine s_end (K31 _ _ ?_)
  refine wp_block ?_
  refine wp_seq_k fun _ K32 => ?_
  refine wp_rs fun _ K33 => F.vl (eqlF (by omega) rfl rfl) fun a F => F.sg rfl fun a F => ?_
  refine s_end (K33 _ _ ?_)
  refine wp_if F rfl ?_
  refine wp_region_lit ?_
  refine F.vl (eqlF (by omega) rfl rfl) fun a F => F.sg rfl fun a F => ?_
  refine s_end (K32 _ _ ?_)
  refine wp_if F rfl ?_
  refine wp_rs fun _ K34 => F.vl (eqlF (by omega) rfl rfl) fun a F => F.sg rfl fun a F => ?_
  refine s_end (K34 _ _ ?_)
  refine wp_if F rfl ?_
  refine wp_rs fun _ K35 => F.vl (eqlF (by omega) rfl rfl) fun a F => F.sg rfl fun a F => ?_
  refine s_end (K35 _ _ ?_)
  refine wp_if F rfl ?_
  refine wp_skip (K30 _ _ ?_)
  refine wp_rs fun _ K36 => F.sg rfl fun a F => ?_
  refine s_end (K36 _ _ ?_)
  refine wp_ret (res_slot F rfl rfl ⟨by simp [kidsB, hk], hB⟩)
theorem hasNumber57 (k n top : Int) (v : Value) (w0 : World) : Calls Try.prog 169 #[.agg [.int .i64 k, .int .i64 n, v].toArray, .int .i64 top] w0 fun e w' => e = .returned (.bool (numB top k n)) ∧ Below w0.heap.size w0 w' := by
 have hB := Below.refl w0.heap.size w0
 have sB := hB.size
 refine calls_fs 29 [(0, .agg [.int .i64 k, .int .i64 n, v].toArray), (1, .int .i64 top)] Try.func169 rfl rfl rfl rfl rfl fun a F => ?_
 rcases (show (k = 1 ∧ n < 0) ∨ (k = 1 ∧ 0 ≤ n ∧ n ≤ top) ∨ (k = 1 ∧ 0 ≤ n ∧ top < n) ∨ (k = 3 ∧ n < 1) ∨ (k = 3 ∧ 1 ≤ n ∧ n ≤ top) ∨ (k = 3 ∧ 1 ≤ n ∧ top < n) ∨ (k ≠ 1 ∧ k ≠ 3) by omega) with hk | hk | hk | hk | hk | hk | hk
 ·
  skip
  refine wp_rs fun _ K2 => ?_
  refine s_box ([.int .i64 k, .int .i64 n, v]) F (by decide) rfl rfl fun w2 b2 a eb2 m2 B3 zb2 F => ?_
  have sB3 := B3.size
  have hB := bt hB B3
  refine F.sg rfl fun a F => ?_
  refine s_end (K2 _ _ ?_)
  refine wp_seq_k fun _ K3 => ?_
  refine wp_rs fun _ K4 => F.vl (x_fa0 fa24_0 rfl) fun a F => F.ld m2 flat3 rfl rfl fun a F => ?_
  refine s_end (K4 _ _ ?_)
  refine wp_block ?_
  refine wp_rs fun _ K5 => F.vl (eqlT (by omega) rfl rfl) fun a F => F.sg rfl fun a F => ?_
  refine s_end (K5 _ _ ?_)
  refine wp_if F rfl ?_
  refine wp_rs fun _ K6 => F.vl (x_fa0 fa24_1 rfl) fun a F => F.ld m2 flat3 rfl rfl fun a F => F.vl (leqF (by omega) rfl rfl) fun a F => F.mv rfl fun a F => s_grdn 12 F rfl rfl (by decide) fun a F => s_grdn 12 F rfl rfl (by decide) fun a F => s_grdn 12 F rfl rfl (by decide) fun a F => s_grdn 12 F rfl rfl (by decide) fun a F => F.vl (x_pick (b := false) rfl rfl) fun a F => F.sg rfl fun a F => ?_
  refine s_end (K6 _ _ ?_)
  refine wp_ret (inb_ret (then_ret (res_slot F rfl rfl ⟨by rw [show numB top k n = false from Bool.eq_false_iff.2 (fun h => by have := numB_iff.1 h; omega)], hB⟩)))
 ·
  skip
  refine wp_rs fun _ K7 => ?_
  refine s_box ([.int .i64 k, .int .i64 n, v]) F (by decide) rfl rfl fun w4 b2 a eb2 m2 B5 zb2 F => ?_
  have sB5 := B5.size
  have hB := bt hB B5
  refine F.sg rfl fun a F => ?_
  refine s_end (K7 _ _ ?_)
  refine wp_seq_k fun _ K8 => ?_
  refine wp_rs fun _ K9 => F.vl (x_fa0 fa24_0 rfl) fun a F => F.ld m2 flat3 rfl rfl fun a F => ?_
  refine s_end (K9 _ _ ?_)
  refine wp_block ?_
  refine wp_rs fun _ K10 => F.vl (eqlT (by omega) rfl rfl) fun a F => F.sg rfl fun a F => ?_
  refine s_end (K10 _ _ ?_)
  refine wp_if F rfl ?_
  refine wp_rs fun _ K11 => F.vl (x_fa0 fa24_1 rfl) fun a F => F.ld m2 flat3 rfl rfl fun a F => F.vl (leqT (by omega) rfl rfl) fun a F => F.mv rfl fun a F => s_grd 12 F rfl rfl rfl <| F.vl (x_fa0 fa24_1 rfl) fun a F => s_grd 12 F rfl rfl rfl <| F.ld m2 flat3 rfl rfl fun a F => s_grd 12 F rfl rfl rfl <| F.mv rfl fun a F => s_grd 12 F rfl rfl rfl <| F.vl (leqT (by omega) rfl rfl) fun a F => F.vl (x_pick (b := true) rfl rfl) fun a F => F.sg rfl fun a F => ?_
  refine s_end (K11 _ _ ?_)
  refine wp_ret (inb_ret (then_ret (res_slot F rfl rfl ⟨by rw [show numB top k n = true from numB_iff.2 (by omega)], hB⟩)))
 ·
  skip
  refine wp_rs fun _ K12 => ?_
  refine s_box ([.int .i64 k, .int .i64 n, v]) F (by decide) rfl rfl fun w6 b2 a eb2 m2 B7 zb2 F => ?_
  have sB7 := B7.size
  have hB := bt hB B7
  refine F.sg rfl fun a F => ?_
  refine s_end (K12 _ _ ?_)
  refine wp_seq_k fun _ K13 => ?_
  refine wp_rs fun _ K14 => F.vl (x_fa0 fa24_0 rfl) fun a F => F.ld m2 flat3 rfl rfl fun a F => ?_
  refine s_end (K14 _ _ ?_)
  refine wp_block ?_
  refine wp_rs fun _ K15 => F.vl (eqlT (by omega) rfl rfl) fun a F => F.sg rfl fun a F => ?_
  refine s_end (K15 _ _ ?_)
  refine wp_if F rfl ?_
  refine wp_rs fun _ K16 => F.vl (x_fa0 fa24_1 rfl) fun a F => F.ld m2 flat3 rfl rfl fun a F => F.vl (leqT (by omega) rfl rfl) fun a F => F.mv rfl fun a F => s_grd 12 F rfl rfl rfl <| F.vl (x_fa0 fa24_1 rfl) fun a F => s_grd 12 F rfl rfl rfl <| F.ld m2 flat3 rfl rfl fun a F => s_grd 12 F rfl rfl rfl <| F.mv rfl fun a F => s_grd 12 F rfl rfl rfl <| F.vl (leqF (by omega) rfl rfl) fun a F => F.vl (x_pick (b := true) rfl rfl) fun a F => F.sg rfl fun a F => ?_
  refine s_end (K16 _ _ ?_)
  refine wp_ret (inb_ret (then_ret (res_slot F rfl rfl ⟨by rw [show numB top k n = false from Bool.eq_false_iff.2 (fun h => by have := numB_iff.1 h; omega)], hB⟩)))
 ·
  skip
  refine wp_rs fun _ K17 => ?_
  refine s_box ([.int .i64 k, .int .i64 n, v]) F (by decide) rfl rfl fun w8 b2 a eb2 m2 B9 zb2 F => ?_
  have sB9 := B9.size
  have hB := bt hB B9
  refine F.sg rfl fun a F => ?_
  refine s_end (K17 _ _ ?_)
  refine wp_seq_k fun _ K18 => ?_
  refine wp_rs fun _ K19 => F.vl (x_fa0 fa24_0 rfl) fun a F => F.ld m2 flat3 rfl rfl fun a F => ?_
  refine s_end (K19 _ _ ?_)
  refine wp_block ?_
  refine wp_rs fun _ K20 => F.vl (eqlF (by omega) rfl rfl) fun a F => F.sg rfl fun a F => ?_
  refine s_end (K20 _ _ ?_)
  refine wp_if F rfl ?_
  refine wp_rs fun _ K21 => F.vl (eqlT (by omega) rfl rfl) fun a F => F.sg rfl fun a F => ?_
  refine s_end (K21 _ _ ?_)
  refine wp_if F rfl ?_
  refine wp_rs fun _ K22 => F.vl (x_fa0 fa24_1 rfl) fun a F => F.ld m2 flat3 rfl rfl fun a F => F.vl (leqF (by omega) rfl rfl) fun a F => F.mv rfl fun a F => s_grdn 23 F rfl rfl (by decide) fun a F => s_grdn 23 F rfl rfl (by decide) fun a F => s_grdn 23 F rfl rfl (by decide) fun a F => s_grdn 23 F rfl rfl (by decide) fun a F => F.vl (x_pick (b := false) rfl rfl) fun a F => F.sg rfl fun a F => ?_
  refine s_end (K22 _ _ ?_)
  refine wp_ret (inb_ret (then_ret (res_slot F rfl rfl ⟨by rw [show numB top k n = false from Bool.eq_false_iff.2 (fun h => by have := numB_iff.1 h; omega)], hB⟩)))
 ·
  skip
  refine wp_rs fun _ K23 => ?_
  refine s_box ([.int .i64 k, .int .i64 n, v]) F (by decide) rfl rfl fun w10 b2 a eb2 m2 B11 zb2 F => ?_
  have sB11 := B11.size
  have hB := bt hB B11
  refine F.sg rfl fun a F => ?_
  refine s_end (K23 _ _ ?_)
  refine wp_seq_k fun _ K24 => ?_
  refine wp_rs fun _ K25 => F.vl (x_fa0 fa24_0 rfl) fun a F => F.ld m2 flat3 rfl rfl fun a F => ?_
  refine s_end (K25 _ _ ?_)
  refine wp_block ?_
  refine wp_rs fun _ K26 => F.vl (eqlF (by omega) rfl rfl) fun a F => F.sg rfl fun a F => ?_
  refine s_end (K26 _ _ ?_)
  refine wp_if F rfl ?_
  refine wp_rs fun _ K27 => F.vl (eqlT (by omega) rfl rfl) fun a F => F.sg rfl fun a F => ?_
  refine s_end (K27 _ _ ?_)
  refine wp_if F rfl ?_
  refine wp_rs fun _ K28 => F.vl (x_fa0 fa24_1 rfl) fun a F => F.ld m2 flat3 rfl rfl fun a F => F.vl (leqT (by omega) rfl rfl) fun a F => F.mv rfl fun a F => s_grd 23 F rfl rfl rfl <| F.vl (x_fa0 fa24_1 rfl) fun a F => s_grd 23 F rfl rfl rfl <| F.ld m2 flat3 rfl rfl fun a F => s_grd 23 F rfl rfl rfl <| F.mv rfl fun a F => s_grd 23 F rfl rfl rfl <| F.vl (leqT (by omega) rfl rfl) fun a F => F.vl (x_pick (b := true) rfl rfl) fun a F => F.sg rfl fun a F => ?_
  refine s_end (K28 _ _ ?_)
  refine wp_ret (inb_ret (then_ret (res_slot F rfl rfl ⟨by rw [show numB top k n = true from numB_iff.2 (by omega)], hB⟩)))
 ·
  skip
  refine wp_rs fun _ K29 => ?_
  refine s_box ([.int .i64 k, .int .i64 n, v]) F (by decide) rfl rfl fun w12 b2 a eb2 m2 B13 zb2 F => ?_
  have sB13 := B13.size
  have hB := bt hB B13
  refine F.sg rfl fun a F => ?_
  refine s_end (K29 _ _ ?_)
  refine wp_seq_k fun _ K30 => ?_
  refine wp_rs fun _ K31 => F.vl (x_fa0 fa24_0 rfl) fun a F => F.ld m2 flat3 rfl rfl fun a F => ?_
  refine s_end (K31 _ _ ?_)
  refine wp_block ?_
  refine wp_rs fun _ K32 => F.vl (eqlF (by omega) rfl rfl) fun a F => F.sg rfl fun a F => ?_
  refine s_end (K32 _ _ ?_)
  refine wp_if F rfl ?_
  refine wp_rs fun _ K33 => F.vl (eqlT (by omega) rfl rfl) fun a F => F.sg rfl fun a F => ?_
  refine s_end (K33 _ _ ?_)
  refine wp_if F rfl ?_
  refine wp_rs fun _ K34 => F.vl (x_fa0 fa24_1 rfl) fun a F => F.ld m2 flat3 rfl rfl fun a F => F.vl (leqT (by omega) rfl rfl) fun a F => F.mv rfl fun a F => s_grd 23 F rfl rfl rfl <| F.vl (x_fa0 fa24_1 rfl) fun a F => s_grd 23 F rfl rfl rfl <| F.ld m2 flat3 rfl rfl fun a F => s_grd 23 F rfl rfl rfl <| F.mv rfl fun a F => s_grd 23 F rfl rfl rfl <| F.vl (leqF (by omega) rfl rfl) fun a F => F.vl (x_pick (b := true) rfl rfl) fun a F => F.sg rfl fun a F => ?_
  refine s_end (K34 _ _ ?_)
  refine wp_ret (inb_ret (then_ret (res_slot F rfl rfl ⟨by rw [show numB top k n = false from Bool.eq_false_iff.2 (fun h => by have := numB_iff.1 h; omega)], hB⟩)))
 ·
  skip
  refine wp_rs fun _ K35 => ?_
  refine s_box ([.int .i64 k, .int .i64 n, v]) F (by decide) rfl rfl fun w14 b2 a eb2 m2 B15 zb2 F => ?_
  have sB15 := B15.size
  have hB := bt hB B15
  refine F.sg rfl fun a F => ?_
  refine s_end (K35 _ _ ?_)
  refine wp_seq_k fun _ K36 => ?_
  refine wp_rs fun _ K37 => F.vl (x_fa0 fa24_0 rfl) fun a F => F.ld m2 flat3 rfl rfl fun a F => ?_
  refine s_end (K37 _ _ ?_)
  refine wp_block ?_
  refine wp_rs fun _ K38 => F.vl (eqlF (by omega) rfl rfl) fun a F => F.sg rfl fun a F => ?_
  refine s_end (K38 _ _ ?_)
  refine wp_if F rfl ?_
  refine wp_rs fun _ K39 => F.vl (eqlF (by omega) rfl rfl) fun a F => F.sg rfl fun a F => ?_
  refine s_end (K39 _ _ ?_)
  refine wp_if F rfl ?_
  refine wp_skip (K36 _ _ ?_)
  refine wp_rs fun _ K40 => F.sg rfl fun a F => ?_
  refine s_end (K40 _ _ ?_)
  refine wp_ret (res_slot F rfl rfl ⟨by rw [show numB top k n = true from numB_iff.2 (by omega)], hB⟩)
end Go.Proofs.Ytmkjhdiepkpdoaa

namespace Go.Proofs.Ytmkjhdiepkpdoaa
set_option maxRecDepth 100000
set_option maxHeartbeats 1600000
open Go.RowKit Go.Shelf
set_option linter.unusedVariables false
set_option linter.unusedSimpArgs false
theorem chk_two {D top vars d : Int} {r : Nat} {k n : Int} {ls : List Lv} (h : D < d ∨ r = 0) : (chk D top vars d r (.mk k n ls)).1 = 2 := by
 have e : nodeE D top vars d r k n ls.length = 2 := by rw [nodeE, if_pos h]
 rw [chk_out (by rw [e]; decide), e]
theorem chk_one {D top vars d : Int} {r : Nat} {k n : Int} {ls : List Lv} (h : ¬ (D < d ∨ r = 0)) (h1 : kidsB k ls.length = false ∨ numB top k n = false) : (chk D top vars d r (.mk k n ls)).1 = 1 := by
 have e : nodeE D top vars d r k n ls.length = 1 := by rw [nodeE, if_neg h, if_pos h1]
 rw [chk_out (by rw [e]; decide), e]
theorem chk_ten {D top vars d : Int} {r : Nat} {k n : Int} {ls : List Lv} (h : ¬ (D < d ∨ r = 0)) (h1 : kidsB k ls.length = true) (h2 : numB top k n = true) (h3 : k = 2 ∧ (n < 0 ∨ vars ≤ n)) : (chk D top vars d r (.mk k n ls)).1 = 10 := by
 have e : nodeE D top vars d r k n ls.length = 10 := by rw [nodeE, if_neg h, if_neg (by rw [h1, h2]; simp), if_pos h3]
 rw [chk_out (by rw [e]; decide), e]
theorem RL.one1 {W : World} {x : C3} {l : Lv} (h : RL W x l) : x.2.2.oneCell' = true := by
 obtain ⟨_, _, h⟩ := h.slice
 exact h.one
theorem drop_at {α : Type} {ls : List α} {i : Nat} {l : α} (h : ls[i]? = some l) : ls.drop i = l :: ls.drop (i + 1) := by
 obtain ⟨hi, rfl⟩ := List.getElem?_eq_some_iff.1 h
 exact List.drop_eq_getElem_cons hi
theorem arI_kids {k : Int} {len : Nat} : kidsB k len = true ↔ 0 ≤ arI k ∧ (len : Int) = arI k := by
 rw [kidsB_iff]
 unfold arI
 split
 ·
  omega
 ·
  split
  ·
   omega
  ·
   split
   ·
    omega
   ·
    omega
theorem arI_no {k : Int} {len : Nat} (h : arI k < 0 ∨ (len : Int) ≠ arI k) : kidsB k len = false := Bool.eq_false_iff.2 fun h1 => by have := arI_kids.1 h1; omega
theorem kids_le {k : Int} {len : Nat} (h : kidsB k len = true) : len ≤ 2 := by
 have := kidsB_iff.1 h
 omega
theorem int_of {x y : Int} (h : x = y) : Value.int .i64 x = Value.int .i64 y := by rw [h]
theorem check34 (D top vars : Int) (hD : D ≤ 256) (w0 : World) (g : Nat) (hg : w0.heap.size ≤ g) : ∀ (x : C3) (l : Lv), RL w0 x l → ∀ (d : Int) (r : Nat) (w1 : World), 1 ≤ d → d ≤ 300 → r ≤ 1000 → Below w0.heap.size w0 w1 → Blk w1 g 163 [.int .i64 D, .int .i64 (r : Int), .int .i64 top, .int .i64 vars] →
    Calls Try.prog 156 #[lv x, .int .i64 d, .pointer (some ⟨g, 0, none⟩)] w1 fun e w' => ∃ v, e = .returned v ∧ (v = .int .i64 (chk D top vars d r l).1 ∧ ((chk D top vars d r l).1 = 0 → Blk w' g 163 [.int .i64 D, .int .i64 ((chk D top vars d r l).2 : Int), .int .i64 top, .int .i64 vars])) ∧ Ktw g g w1 w' := by
  intro x l h
  induction h with
  | @mk k n v xs ls hR hl hk hbd9 ih =>
  intro d r w1 hd1 hd2 hr hB mg
  obtain ⟨av, cv, rfl, _⟩ := hR.form
  have hK := Ktw.refl g g w1
  have sB := hB.size
  have hgl := mg.lt
  refine calls_fs 75 [(0, .agg [.int .i64 k, .int .i64 n, .slice av xs.length cv].toArray), (1, .int .i64 d), (2, .pointer (some ⟨g, 0, none⟩))] Try.func156 rfl rfl rfl rfl rfl fun a F => ?_
  refine wp_rs fun _ K1 => ?_
  refine s_box ([.int .i64 k, .int .i64 n, .slice av xs.length cv]) F (by decide) rfl rfl fun w2 b3 a eb3 m3 B3 zb3 F => ?_
  have sB3 := B3.size
  have hB := bt hB B3
  have hK := hK.below B3
  have mg := mg.old B3
  refine F.sg rfl fun a F => ?_
  refine s_end (K1 _ _ ?_)
  refine wp_seq_k fun _ K2 => ?_
  rcases (show D < d ∨ (d ≤ D ∧ r = 0) ∨ (d ≤ D ∧ r ≠ 0) by omega) with hp | hp | hp
  · skip
    refine wp_rs fun _ K4 => F.mv rfl fun a F => F.mv rfl fun a F => F.vl (x_nil rfl) fun a F => F.vl (x_fa0 fa54_0 rfl) fun a F => F.ld mg flat3 rfl rfl fun a F => F.vl (gtrT (by omega) rfl rfl) fun a F => F.mv rfl fun a F => s_grdn 16 F rfl rfl (by decide) fun a F => s_grdn 16 F rfl rfl (by decide) fun a F => s_grdn 16 F rfl rfl (by decide) fun a F => s_grdn 16 F rfl rfl (by decide) fun a F => s_grdn 16 F rfl rfl (by decide) fun a F => F.vl (x_pick (b := true) rfl rfl) fun a F => ?_
    refine s_end (K4 _ _ ?_)
    refine wp_if F rfl ?_
    refine wp_rs fun _ K5 => F.sg rfl fun a F => ?_
    refine s_end (K5 _ _ ?_)
    refine wp_ret (then_ret (res_slot F rfl rfl ⟨_, rfl, ⟨int_of (chk_two (by omega)).symm, fun h => absurd ((chk_two (by omega)).symm.trans h) (by decide)⟩, hK⟩))
  · skip
    refine wp_rs fun _ K6 => F.mv rfl fun a F => F.mv rfl fun a F => F.vl (x_nil rfl) fun a F => F.vl (x_fa0 fa54_0 rfl) fun a F => F.ld mg flat3 rfl rfl fun a F => F.vl (gtrF (by omega) rfl rfl) fun a F => F.mv rfl fun a F => s_grd 16 F rfl rfl rfl <| F.mv rfl fun a F => s_grd 16 F rfl rfl rfl <| F.vl (x_nil rfl) fun a F => s_grd 16 F rfl rfl rfl <| F.vl (x_fa0 fa54_1 rfl) fun a F => s_grd 16 F rfl rfl rfl <| F.ld mg flat3 rfl rfl fun a F => s_grd 16 F rfl rfl rfl <| F.vl (eqlT (by omega) rfl rfl) fun a F => F.vl (x_pick (b := false) rfl rfl) fun a F => ?_
    refine s_end (K6 _ _ ?_)
    refine wp_if F rfl ?_
    refine wp_rs fun _ K7 => F.sg rfl fun a F => ?_
    refine s_end (K7 _ _ ?_)
    refine wp_ret (then_ret (res_slot F rfl rfl ⟨_, rfl, ⟨int_of (chk_two (by omega)).symm, fun h => absurd ((chk_two (by omega)).symm.trans h) (by decide)⟩, hK⟩))
  · skip
    refine wp_rs fun _ K8 => F.mv rfl fun a F => F.mv rfl fun a F => F.vl (x_nil rfl) fun a F => F.vl (x_fa0 fa54_0 rfl) fun a F => F.ld mg flat3 rfl rfl fun a F => F.vl (gtrF (by omega) rfl rfl) fun a F => F.mv rfl fun a F => s_grd 16 F rfl rfl rfl <| F.mv rfl fun a F => s_grd 16 F rfl rfl rfl <| F.vl (x_nil rfl) fun a F => s_grd 16 F rfl rfl rfl <| F.vl (x_fa0 fa54_1 rfl) fun a F => s_grd 16 F rfl rfl rfl <| F.ld mg flat3 rfl rfl fun a F => s_grd 16 F rfl rfl rfl <| F.vl (eqlF (by omega) rfl rfl) fun a F => F.vl (x_pick (b := false) rfl rfl) fun a F => ?_
    refine s_end (K8 _ _ ?_)
    refine wp_if F rfl ?_
    refine wp_skip (K2 _ _ ?_)
    refine wp_rs fun _ K9 => F.mv rfl fun a F => F.vl (x_nil rfl) fun a F => F.vl (x_fa0 fa54_1 rfl) fun a F => F.ld mg flat3 rfl rfl fun a F => F.vl (x_subn (r - 1) (by omega) (by omega) rfl rfl) fun a F => F.vl (x_nil rfl) fun a F => F.vl (x_fa0 fa54_1 rfl) fun a F => ?_
    refine s_put F rfl rfl flat3 mg (by first | (simp; done) | (show _ < 3; decide)) rfl fun w4 mg o5 => ?_
    have so5 := o5.size
    have hB := hB.trans (o5.below (by omega))
    have hK := hK.only o5 (by omega)
    have m3 := m3.only o5 (by omega)
    refine s_end (K9 _ _ ?_)
    refine wp_seq_k fun _ K10 => ?_
    rcases (show kidsB k xs.length = false ∨ (kidsB k xs.length = true ∧ numB top k n = false) ∨ (kidsB k xs.length = true ∧ numB top k n = true) by cases kidsB k xs.length <;> cases numB top k n <;> simp) with hkb | ⟨hkb, hnb⟩ | ⟨hkb, hnb⟩
    · have hq : kidsB k ls.length = false ∨ numB top k n = false := .inl (by rw [← hl]; exact hkb)
      refine dk2_seq (w4.heap.size) (w4.heap.size) (ops := regOps Try.f156 4) (N := 12) (by kernel_rfl) wide_orders (by kernel_rfl) fun w6 hw6 B7 hS K12 hK12 => ?_
      have zw6 : w6.heap.size = w4.heap.size := by rw [hw6]
      have sB7 := B7.size
      have hB := bt hB B7
      have hK := hK.below B7
      have mg := mg.old B7
      have m3 := m3.old B7
      have mg_d := mg
      have m3_d := m3
      have hB_d := hB
      have hK_d := hK
      refine F.dv 0 30 (.load 24 (.tmp 3)) hS (fun W hW => x_ldW wide24 (m3_d.k2 hW (by omega)) rfl rfl) fun a F => ?_
      refine d1 1 (some 31) (.call (.mk (.value (.func 168)) #[(.tmp 30)] #[24])) fun ty pos af => ?_
      refine s_callB [_] F E168 rfl (by decide) (hasKids56 k n _ _ _ w6 (hR.below hB)) fun w8 a B9 F => ?_
      have sB9 := B9.size
      have hK := hK.below B9
      have hS := hS.below B9
      rw [hkb] at F
      refine s_end ⟨hS, ?_⟩
      refine F.dv 2 32 (.unOp .not 4 (.tmp 31)) hS (fun W hW => x_not rfl) fun a F => F.dv 3 33 (.move (.tmp 32)) hS (fun W hW => x_move rfl) fun a F => d_skip 4 34 33 (j := 3) (want := false) (op := (.load 24 (.tmp 3))) F hS (by kernel_rfl) (by kernel_rfl) rfl (by kernel_rfl) (by decide) fun a F => d_skip 5 35 33 (j := 3) (want := false) (op := (.move (.tmp 2))) F hS (by kernel_rfl) (by kernel_rfl) rfl (by kernel_rfl) (by decide) fun a F => d_skip 6 36 33 (j := 3) (want := false) (op := (.nilCheck (.tmp 35))) F hS (by kernel_rfl) (by kernel_rfl) rfl (by kernel_rfl) (by decide) fun a F => d_skip 7 37 33 (j := 3) (want := false) (op := (.fieldAddr 163 (.tmp 36) 2)) F hS (by kernel_rfl) (by kernel_rfl) rfl (by kernel_rfl) (by decide) fun a F => d_skip 8 38 33 (j := 3) (want := false) (op := (.load 3 (.tmp 37))) F hS (by kernel_rfl) (by kernel_rfl) rfl (by kernel_rfl) (by decide) fun a F => d_skip 9 39 33 (j := 3) (want := false) (op := (.call (.mk (.value (.func 169)) #[(.tmp 34), (.tmp 38)] #[24, 3]))) F hS (by kernel_rfl) (by kernel_rfl) rfl (by kernel_rfl) (by decide) fun a F => d_skip 10 40 33 (j := 3) (want := false) (op := (.unOp .not 4 (.tmp 39))) F hS (by kernel_rfl) (by kernel_rfl) rfl (by kernel_rfl) (by decide) fun a F => F.dv 11 41 (.pick (.tmp 33) (.const (.bool true)) (.tmp 40)) hS (fun W hW => x_pick (b := true) rfl rfl) fun a F => ?_
      refine d_end (by kernel_rfl) (hK12 _ _ ?_)
      refine wp_if F rfl ?_
      refine wp_rs fun _ K13 => F.sg rfl fun a F => ?_
      refine s_end (K13 _ _ ?_)
      refine wp_ret (then_ret (res_slot F rfl rfl ⟨_, rfl, ⟨int_of (chk_one (by omega) hq).symm, fun h => absurd ((chk_one (by omega) hq).symm.trans h) (by decide)⟩, hK⟩))
    · have hq : kidsB k ls.length = false ∨ numB top k n = false := .inr hnb
      refine dk2_seq (w4.heap.size) (w4.heap.size) (ops := regOps Try.f156 4) (N := 12) (by kernel_rfl) wide_orders (by kernel_rfl) fun w10 hw10 B11 hS K14 hK14 => ?_
      have zw10 : w10.heap.size = w4.heap.size := by rw [hw10]
      have sB11 := B11.size
      have hB := bt hB B11
      have hK := hK.below B11
      have mg := mg.old B11
      have m3 := m3.old B11
      have mg_d := mg
      have m3_d := m3
      have hB_d := hB
      have hK_d := hK
      refine F.dv 0 30 (.load 24 (.tmp 3)) hS (fun W hW => x_ldW wide24 (m3_d.k2 hW (by omega)) rfl rfl) fun a F => ?_
      refine d1 1 (some 31) (.call (.mk (.value (.func 168)) #[(.tmp 30)] #[24])) fun ty pos af => ?_
      refine s_callB [_] F E168 rfl (by decide) (hasKids56 k n _ _ _ w10 (hR.below hB)) fun w12 a B13 F => ?_
      have sB13 := B13.size
      have hK := hK.below B13
      have hS := hS.below B13
      rw [hkb] at F
      refine s_end ⟨hS, ?_⟩
      refine F.dv 2 32 (.unOp .not 4 (.tmp 31)) hS (fun W hW => x_not rfl) fun a F => F.dv 3 33 (.move (.tmp 32)) hS (fun W hW => x_move rfl) fun a F => F.dg 4 34 33 3 false (.load 24 (.tmp 3)) hS rfl (fun W hW => x_ldW wide24 (m3_d.k2 hW (by omega)) rfl rfl) fun a F => F.dg 5 35 33 3 false (.move (.tmp 2)) hS rfl (fun W hW => x_move rfl) fun a F => F.dg 6 36 33 3 false (.nilCheck (.tmp 35)) hS rfl (fun W hW => x_nil rfl) fun a F => F.dg 7 37 33 3 false (.fieldAddr 163 (.tmp 36) 2) hS rfl (fun W hW => x_fa0 fa54_2 rfl) fun a F => F.dg 8 38 33 3 false (.load 3 (.tmp 37)) hS rfl (fun W hW => x_load rfl (m_load flat3 ((mg_d.k2 hW (by omega)).cell (j := 2) rfl))) fun a F => ?_
      refine d_oneg 9 33 (some 39) (.call (.mk (.value (.func 169)) #[(.tmp 34), (.tmp 38)] #[24, 3])) (j := 3) (want := false) F (by kernel_rfl) (by kernel_rfl) (by kernel_rfl) rfl fun ty pos af => ?_
      refine s_callB [_, _] F E169 rfl (by decide) (hasNumber57 k n top _ w12) fun w14 a B15 F => ?_
      have sB15 := B15.size
      have hK := hK.below B15
      have hS := hS.below B15
      rw [hnb] at F
      refine s_end ⟨hS, ?_⟩
      refine F.dg 10 40 33 3 false (.unOp .not 4 (.tmp 39)) hS rfl (fun W hW => x_not rfl) fun a F => F.dv 11 41 (.pick (.tmp 33) (.const (.bool true)) (.tmp 40)) hS (fun W hW => x_pick (b := false) rfl rfl) fun a F => ?_
      refine d_end (by kernel_rfl) (hK14 _ _ ?_)
      refine wp_if F rfl ?_
      refine wp_rs fun _ K15 => F.sg rfl fun a F => ?_
      refine s_end (K15 _ _ ?_)
      refine wp_ret (then_ret (res_slot F rfl rfl ⟨_, rfl, ⟨int_of (chk_one (by omega) hq).symm, fun h => absurd ((chk_one (by omega) hq).symm.trans h) (by decide)⟩, hK⟩))
    · have hkl : kidsB k ls.length = true := by rw [← hl]; exact hkb
      refine dk2_seq (w4.heap.size) (w4.heap.size) (ops := regOps Try.f156 4) (N := 12) (by kernel_rfl) wide_orders (by kernel_rfl) fun w16 hw16 B17 hS K16 hK16 => ?_
      have zw16 : w16.heap.size = w4.heap.size := by rw [hw16]
      have sB17 := B17.size
      have hB := bt hB B17
      have hK := hK.below B17
      have mg := mg.old B17
      have m3 := m3.old B17
      have mg_d := mg
      have m3_d := m3
      have hB_d := hB
      have hK_d := hK
      refine F.dv 0 30 (.load 24 (.tmp 3)) hS (fun W hW => x_ldW wide24 (m3_d.k2 hW (by omega)) rfl rfl) fun a F => ?_
      refine d1 1 (some 31) (.call (.mk (.value (.func 168)) #[(.tmp 30)] #[24])) fun ty pos af => ?_
      refine s_callB [_] F E168 rfl (by decide) (hasKids56 k n _ _ _ w16 (hR.below hB)) fun w18 a B19 F => ?_
      have sB19 := B19.size
      have hB := bt hB B19
      have hK := hK.below B19
      have mg := mg.old B19
      have m3 := m3.old B19
      have hS := hS.below B19
      rw [hkb] at F
      refine s_end ⟨hS, ?_⟩
      refine F.dv 2 32 (.unOp .not 4 (.tmp 31)) hS (fun W hW => x_not rfl) fun a F => F.dv 3 33 (.move (.tmp 32)) hS (fun W hW => x_move rfl) fun a F => F.dg 4 34 33 3 false (.load 24 (.tmp 3)) hS rfl (fun W hW => x_ldW wide24 (m3_d.k2 hW (by omega)) rfl rfl) fun a F => F.dg 5 35 33 3 false (.move (.tmp 2)) hS rfl (fun W hW => x_move rfl) fun a F => F.dg 6 36 33 3 false (.nilCheck (.tmp 35)) hS rfl (fun W hW => x_nil rfl) fun a F => F.dg 7 37 33 3 false (.fieldAddr 163 (.tmp 36) 2) hS rfl (fun W hW => x_fa0 fa54_2 rfl) fun a F => F.dg 8 38 33 3 false (.load 3 (.tmp 37)) hS rfl (fun W hW => x_load rfl (m_load flat3 ((mg_d.k2 hW (by omega)).cell (j := 2) rfl))) fun a F => ?_
      refine d_oneg 9 33 (some 39) (.call (.mk (.value (.func 169)) #[(.tmp 34), (.tmp 38)] #[24, 3])) (j := 3) (want := false) F (by kernel_rfl) (by kernel_rfl) (by kernel_rfl) rfl fun ty pos af => ?_
      refine s_callB [_, _] F E169 rfl (by decide) (hasNumber57 k n top _ w18) fun w20 a B21 F => ?_
      have sB21 := B21.size
      have hB := bt hB B21
      have hK := hK.below B21
      have mg := mg.old B21
      have m3 := m3.old B21
      have hS := hS.below B21
      rw [hnb] at F
      refine s_end ⟨hS, ?_⟩
      refine F.dg 10 40 33 3 false (.unOp .not 4 (.tmp 39)) hS rfl (fun W hW => x_not rfl) fun a F => F.dv 11 41 (.pick (.tmp 33) (.const (.bool true)) (.tmp 40)) hS (fun W hW => x_pick (b := false) rfl rfl) fun a F => ?_
      refine d_end (by kernel_rfl) (hK16 _ _ ?_)
      refine wp_if F rfl ?_
      refine wp_skip (K10 _ _ ?_)
      refine wp_seq_k fun _ K17 => ?_
      rcases (show (k = 2 ∧ n < 0) ∨ (k = 2 ∧ 0 ≤ n ∧ vars ≤ n) ∨ (k = 2 ∧ 0 ≤ n ∧ n < vars) ∨ k ≠ 2 by omega) with hv | hv | hv | hv
      · skip
        refine dk2_seq (w20.heap.size) (w20.heap.size) (ops := regOps Try.f156 6) (N := 17) (by kernel_rfl) wide_orders (by kernel_rfl) fun w22 hw22 B23 hS K19 hK19 => ?_
        have zw22 : w22.heap.size = w20.heap.size := by rw [hw22]
        have sB23 := B23.size
        have hB := bt hB B23
        have hK := hK.below B23
        have mg := mg.old B23
        have m3 := m3.old B23
        have mg_d := mg
        have m3_d := m3
        have hB_d := hB
        have hK_d := hK
        refine F.dv 0 42 (.fieldAddr 24 (.tmp 3) 0) hS (fun W hW => x_fa0 fa24_0 rfl) fun a F => F.dv 1 43 (.load 3 (.tmp 42)) hS (fun W hW => x_load rfl (m_load flat3 ((m3_d.k2 hW (by omega)).cell (j := 0) rfl))) fun a F => F.dv 2 44 (.binOp .eql 3 (.tmp 43) (.const (.int .i64 2)) 3) hS (fun W hW => eqlT (by omega) rfl rfl) fun a F => F.dv 3 45 (.move (.tmp 44)) hS (fun W hW => x_move rfl) fun a F => F.dg 4 46 45 3 true (.fieldAddr 24 (.tmp 3) 1) hS rfl (fun W hW => x_fa0 fa24_1 rfl) fun a F => F.dg 5 47 45 3 true (.load 3 (.tmp 46)) hS rfl (fun W hW => x_load rfl (m_load flat3 ((m3_d.k2 hW (by omega)).cell (j := 1) rfl))) fun a F => F.dg 6 48 45 3 true (.binOp .lss 3 (.tmp 47) (.const (.int .i64 0)) 3) hS rfl (fun W hW => lssT (by omega) rfl rfl) fun a F => F.dg 7 49 45 3 true (.move (.tmp 48)) hS rfl (fun W hW => x_move rfl) fun a F => d_skip 8 50 49 (j := 7) (want := false) (op := (.fieldAddr 24 (.tmp 3) 1)) F hS (by kernel_rfl) (by kernel_rfl) rfl (by kernel_rfl) (by decide) fun a F => d_skip 9 51 49 (j := 7) (want := false) (op := (.load 3 (.tmp 50))) F hS (by kernel_rfl) (by kernel_rfl) rfl (by kernel_rfl) (by decide) fun a F => d_skip 10 52 49 (j := 7) (want := false) (op := (.move (.tmp 2))) F hS (by kernel_rfl) (by kernel_rfl) rfl (by kernel_rfl) (by decide) fun a F => d_skip 11 53 49 (j := 7) (want := false) (op := (.nilCheck (.tmp 52))) F hS (by kernel_rfl) (by kernel_rfl) rfl (by kernel_rfl) (by decide) fun a F => d_skip 12 54 49 (j := 7) (want := false) (op := (.fieldAddr 163 (.tmp 53) 3)) F hS (by kernel_rfl) (by kernel_rfl) rfl (by kernel_rfl) (by decide) fun a F => d_skip 13 55 49 (j := 7) (want := false) (op := (.load 3 (.tmp 54))) F hS (by kernel_rfl) (by kernel_rfl) rfl (by kernel_rfl) (by decide) fun a F => d_skip 14 56 49 (j := 7) (want := false) (op := (.binOp .geq 3 (.tmp 51) (.tmp 55) 3)) F hS (by kernel_rfl) (by kernel_rfl) rfl (by kernel_rfl) (by decide) fun a F => F.dg 15 57 45 3 true (.pick (.tmp 49) (.const (.bool true)) (.tmp 56)) hS rfl (fun W hW => x_pick (b := true) rfl rfl) fun a F => F.dv 16 58 (.pick (.tmp 45) (.tmp 57) (.const (.bool false))) hS (fun W hW => x_pick (b := true) rfl rfl) fun a F => ?_
        refine d_end (by kernel_rfl) (hK19 _ _ ?_)
        refine wp_if F rfl ?_
        refine wp_rs fun _ K20 => F.sg rfl fun a F => ?_
        refine s_end (K20 _ _ ?_)
        refine wp_ret (then_ret (res_slot F rfl rfl ⟨_, rfl, ⟨int_of (chk_ten (by omega) hkl hnb (by omega)).symm, fun h => absurd ((chk_ten (by omega) hkl hnb (by omega)).symm.trans h) (by decide)⟩, hK⟩))
      · skip
        refine dk2_seq (w20.heap.size) (w20.heap.size) (ops := regOps Try.f156 6) (N := 17) (by kernel_rfl) wide_orders (by kernel_rfl) fun w24 hw24 B25 hS K21 hK21 => ?_
        have zw24 : w24.heap.size = w20.heap.size := by rw [hw24]
        have sB25 := B25.size
        have hB := bt hB B25
        have hK := hK.below B25
        have mg := mg.old B25
        have m3 := m3.old B25
        have mg_d := mg
        have m3_d := m3
        have hB_d := hB
        have hK_d := hK
        refine F.dv 0 42 (.fieldAddr 24 (.tmp 3) 0) hS (fun W hW => x_fa0 fa24_0 rfl) fun a F => F.dv 1 43 (.load 3 (.tmp 42)) hS (fun W hW => x_load rfl (m_load flat3 ((m3_d.k2 hW (by omega)).cell (j := 0) rfl))) fun a F => F.dv 2 44 (.binOp .eql 3 (.tmp 43) (.const (.int .i64 2)) 3) hS (fun W hW => eqlT (by omega) rfl rfl) fun a F => F.dv 3 45 (.move (.tmp 44)) hS (fun W hW => x_move rfl) fun a F => F.dg 4 46 45 3 true (.fieldAddr 24 (.tmp 3) 1) hS rfl (fun W hW => x_fa0 fa24_1 rfl) fun a F => F.dg 5 47 45 3 true (.load 3 (.tmp 46)) hS rfl (fun W hW => x_load rfl (m_load flat3 ((m3_d.k2 hW (by omega)).cell (j := 1) rfl))) fun a F => F.dg 6 48 45 3 true (.binOp .lss 3 (.tmp 47) (.const (.int .i64 0)) 3) hS rfl (fun W hW => lssF (by omega) rfl rfl) fun a F => F.dg 7 49 45 3 true (.move (.tmp 48)) hS rfl (fun W hW => x_move rfl) fun a F => F.dg 8 50 49 7 false (.fieldAddr 24 (.tmp 3) 1) hS rfl (fun W hW => x_fa0 fa24_1 rfl) fun a F => F.dg 9 51 49 7 false (.load 3 (.tmp 50)) hS rfl (fun W hW => x_load rfl (m_load flat3 ((m3_d.k2 hW (by omega)).cell (j := 1) rfl))) fun a F => F.dg 10 52 49 7 false (.move (.tmp 2)) hS rfl (fun W hW => x_move rfl) fun a F => F.dg 11 53 49 7 false (.nilCheck (.tmp 52)) hS rfl (fun W hW => x_nil rfl) fun a F => F.dg 12 54 49 7 false (.fieldAddr 163 (.tmp 53) 3) hS rfl (fun W hW => x_fa0 fa54_3 rfl) fun a F => F.dg 13 55 49 7 false (.load 3 (.tmp 54)) hS rfl (fun W hW => x_load rfl (m_load flat3 ((mg_d.k2 hW (by omega)).cell (j := 3) rfl))) fun a F => F.dg 14 56 49 7 false (.binOp .geq 3 (.tmp 51) (.tmp 55) 3) hS rfl (fun W hW => geqT (by omega) rfl rfl) fun a F => F.dg 15 57 45 3 true (.pick (.tmp 49) (.const (.bool true)) (.tmp 56)) hS rfl (fun W hW => x_pick (b := false) rfl rfl) fun a F => F.dv 16 58 (.pick (.tmp 45) (.tmp 57) (.const (.bool false))) hS (fun W hW => x_pick (b := true) rfl rfl) fun a F => ?_
        refine d_end (by kernel_rfl) (hK21 _ _ ?_)
        refine wp_if F rfl ?_
        refine wp_rs fun _ K22 => F.sg rfl fun a F => ?_
        refine s_end (K22 _ _ ?_)
        refine wp_ret (then_ret (res_slot F rfl rfl ⟨_, rfl, ⟨int_of (chk_ten (by omega) hkl hnb (by omega)).symm, fun h => absurd ((chk_ten (by omega) hkl hnb (by omega)).symm.trans h) (by decide)⟩, hK⟩))
      · have hnd := nodeE_iff.2 ⟨hp.1, hp.2, hkl, hnb, (by omega : ¬ (k = 2 ∧ (n < 0 ∨ vars ≤ n)))⟩
        refine dk2_seq (w20.heap.size) (w20.heap.size) (ops := regOps Try.f156 6) (N := 17) (by kernel_rfl) wide_orders (by kernel_rfl) fun w26 hw26 B27 hS K23 hK23 => ?_
        have zw26 : w26.heap.size = w20.heap.size := by rw [hw26]
        have sB27 := B27.size
        have hB := bt hB B27
        have hK := hK.below B27
        have mg := mg.old B27
        have m3 := m3.old B27
        have mg_d := mg
        have m3_d := m3
        have hB_d := hB
        have hK_d := hK
        refine F.dv 0 42 (.fieldAddr 24 (.tmp 3) 0) hS (fun W hW => x_fa0 fa24_0 rfl) fun a F => F.dv 1 43 (.load 3 (.tmp 42)) hS (fun W hW => x_load rfl (m_load flat3 ((m3_d.k2 hW (by omega)).cell (j := 0) rfl))) fun a F => F.dv 2 44 (.binOp .eql 3 (.tmp 43) (.const (.int .i64 2)) 3) hS (fun W hW => eqlT (by omega) rfl rfl) fun a F => F.dv 3 45 (.move (.tmp 44)) hS (fun W hW => x_move rfl) fun a F => F.dg 4 46 45 3 true (.fieldAddr 24 (.tmp 3) 1) hS rfl (fun W hW => x_fa0 fa24_1 rfl) fun a F => F.dg 5 47 45 3 true (.load 3 (.tmp 46)) hS rfl (fun W hW => x_load rfl (m_load flat3 ((m3_d.k2 hW (by omega)).cell (j := 1) rfl))) fun a F => F.dg 6 48 45 3 true (.binOp .lss 3 (.tmp 47) (.const (.int .i64 0)) 3) hS rfl (fun W hW => lssF (by omega) rfl rfl) fun a F => F.dg 7 49 45 3 true (.move (.tmp 48)) hS rfl (fun W hW => x_move rfl) fun a F => F.dg 8 50 49 7 false (.fieldAddr 24 (.tmp 3) 1) hS rfl (fun W hW => x_fa0 fa24_1 rfl) fun a F => F.dg 9 51 49 7 false (.load 3 (.tmp 50)) hS rfl (fun W hW => x_load rfl (m_load flat3 ((m3_d.k2 hW (by omega)).cell (j := 1) rfl))) fun a F => F.dg 10 52 49 7 false (.move (.tmp 2)) hS rfl (fun W hW => x_move rfl) fun a F => F.dg 11 53 49 7 false (.nilCheck (.tmp 52)) hS rfl (fun W hW => x_nil rfl) fun a F => F.dg 12 54 49 7 false (.fieldAddr 163 (.tmp 53) 3) hS rfl (fun W hW => x_fa0 fa54_3 rfl) fun a F => F.dg 13 55 49 7 false (.load 3 (.tmp 54)) hS rfl (fun W hW => x_load rfl (m_load flat3 ((mg_d.k2 hW (by omega)).cell (j := 3) rfl))) fun a F => F.dg 14 56 49 7 false (.binOp .geq 3 (.tmp 51) (.tmp 55) 3) hS rfl (fun W hW => geqF (by omega) rfl rfl) fun a F => F.dg 15 57 45 3 true (.pick (.tmp 49) (.const (.bool true)) (.tmp 56)) hS rfl (fun W hW => x_pick (b := false) rfl rfl) fun a F => F.dv 16 58 (.pick (.tmp 45) (.tmp 57) (.const (.bool false))) hS (fun W hW => x_pick (b := true) rfl rfl) fun a F => ?_
        refine d_end (by kernel_rfl) (hK23 _ _ ?_)
        refine wp_if F rfl ?_
        refine wp_skip (K17 _ _ ?_)
        refine wp_seq_k fun _ K24 => ?_
        refine wp_rs fun _ K25 => F.vl (x_fa0 fa24_2 rfl) fun a F => F.ld m3 flat22 rfl rfl fun a F => F.vl (x_len Try.underlying22 rfl) fun a F => F.mv rfl fun a F => ?_
        refine s_end (K25 _ _ ?_)
        refine wp_block ?_
        refine wp_up xs.length (fun i a w => ∃ ri : Nat, ri ≤ 1000 ∧ chks D top vars (d + 1) (r - 1) ls = chks D top vars (d + 1) ri (ls.drop i) ∧ Blk w g 163 [.int .i64 D, .int .i64 (ri : Int), .int .i64 top, .int .i64 vars] ∧ Below w0.heap.size w0 w ∧ Ktw g g w1 w ∧ Fs 75 a [(62, .int .i64 (i : Int)), (61, .int .i64 (xs.length : Int)), (60, .slice av xs.length cv), (1, .int .i64 d), (2, .pointer (some ⟨g, 0, none⟩))]) ⟨r - 1, by omega, rfl, mg, hB, hK, F.sub _ rfl⟩ ?_
        clear F hB hK mg
        rintro i a w hi ⟨ri, hri, hck, mg, hB, hK, F⟩ K' hK'
        have sB := hB.size
        have hgl := mg.lt
        have sK := hK.size
        have hle := kids_le hkl
        refine wp_rs fun _ K26 => F.vl (x_lss rfl rfl rfl) fun a F => ?_
        refine s_end (K26 _ _ ?_)
        refine wp_seq_k fun _ K27 => ?_
        refine wp_iff F rfl (fun hc63 => ?_) (fun hc63 => ?_)
        · obtain ⟨b, off, c, y, hve, hy, hrow⟩ := rd_row3 hR (i := i) (by omega)
          cases hve
          obtain ⟨l, hlk⟩ : ∃ l, ls[i]? = some l := ⟨_, List.getElem?_eq_getElem (by omega)⟩
          have ihy := ih i y l hy hlk
          have h1y := (hk i y l hy hlk).one1
          rw [drop_at hlk] at hck
          refine wp_skip (K27 _ _ ?_)
          refine wp_seq_k fun _ K28 => ?_
          refine wp_block ?_
          refine wp_rs fun _ K29 => F.vl (x_ixa rfl rfl (m_ixsK i Try.underlying22 el22.size rfl (by omega))) fun a F => F.vl (x_ldA wide24 (hrow _ hB) rfl rfl) fun a F => ?_
          refine s_alloc F (by decide) zero24 fun w28 b8 a eb8 m8 B29 zb8 F => ?_
          have sB29 := B29.size
          have hB := bt hB B29
          have hK := hK.below B29
          have mg := mg.old B29
          refine s_putW F rfl rfl (size_wide wide24) m8 rfl (one_lc h1y) fun w30 m8 o31 => ?_
          have so31 := o31.size
          have hB := hB.trans (o31.below (by omega))
          have hK := hK.only o31 (by omega)
          have mg := mg.only o31 (by omega)
          refine s_end (K29 _ _ ?_)
          refine wp_rs fun _ K30 => F.vl (x_ldW wide24 m8 rfl rfl) fun a F => F.mv rfl fun a F => F.vl (x_add (by omega) (by omega) rfl rfl) fun a F => F.mv rfl fun a F => ?_
          refine s_call (R := fun u w' => (u = .int .i64 (chk D top vars (d + 1) ri l).1 ∧ ((chk D top vars (d + 1) ri l).1 = 0 → Blk w' g 163 [.int .i64 D, .int .i64 ((chk D top vars (d + 1) ri l).2 : Int), .int .i64 top, .int .i64 vars])) ∧ Ktw g g w30 w') F [_, _, _] E156 rfl (by decide) (ihy (d + 1) ri w30 (by omega) (by omega) hri hB mg) ?_
          rintro _ w32 a ⟨⟨rfl, hmg⟩, k33⟩ F
          have sk33 := k33.size
          have hB := k33.under hB (by omega)
          have hK := hK.trans k33 (by omega)
          refine F.sg rfl fun a F => ?_
          refine s_end (K30 _ _ ?_)
          refine wp_rs fun _ K31 => F.mv rfl fun a F => F.vl (x_neq rfl rfl rfl) fun a F => ?_
          refine s_end (K31 _ _ ?_)
          refine wp_iff F rfl (fun hc72 => ?_) (fun hc72 => ?_)
          · refine wp_rs fun _ K32 => ?_
            refine F.mv rfl fun a F => F.sg rfl fun a F => ?_
            refine s_end (K32 _ _ ?_)
            refine wp_ret (inb_ret (then_ret (then_ret (inb_ret (then_ret (res_slot F rfl rfl ⟨_, rfl, ⟨int_of (by rw [chk_in hnd, hck, chks_out hc72]), fun h => absurd (by rw [chk_in hnd, hck, chks_out hc72] at h; exact h) hc72⟩, hK⟩))))))
          · have hc0 : (chk D top vars (d + 1) ri l).1 = 0 := by omega
            have mg := hmg hc0
            refine wp_skip (K28 _ _ ?_)
            refine wp_region_lit ?_
            refine F.vl (x_addn (i + 1) (by omega) (by omega) rfl rfl) fun a F => F.mv rfl fun a F => ?_
            refine s_end (hK' _ _ (by omega) ⟨(chk D top vars (d + 1) ri l).2, Nat.le_trans (chk_le _ _ _ _ _ _) hri, by rw [hck, chks_in hc0], mg, hB, hK, F.sub _ rfl⟩)
        · refine wp_exit (K24 _ _ ?_)
          refine wp_rs fun _ K33 => F.sg rfl fun a F => ?_
          refine s_end (K33 _ _ ?_)
          have hnil : ls.drop i = [] := List.drop_of_length_le (by omega)
          rw [hnil] at hck
          refine wp_ret (res_slot F rfl rfl ⟨_, rfl, ⟨int_of (by rw [chk_in hnd, hck]; rfl), fun _ => by rw [chk_in hnd, hck]; exact mg⟩, hK⟩)
      · have hnd := nodeE_iff.2 ⟨hp.1, hp.2, hkl, hnb, (by omega : ¬ (k = 2 ∧ (n < 0 ∨ vars ≤ n)))⟩
        refine dk2_seq (w20.heap.size) (w20.heap.size) (ops := regOps Try.f156 6) (N := 17) (by kernel_rfl) wide_orders (by kernel_rfl) fun w34 hw34 B35 hS K34 hK34 => ?_
        have zw34 : w34.heap.size = w20.heap.size := by rw [hw34]
        have sB35 := B35.size
        have hB := bt hB B35
        have hK := hK.below B35
        have mg := mg.old B35
        have m3 := m3.old B35
        have mg_d := mg
        have m3_d := m3
        have hB_d := hB
        have hK_d := hK
        refine F.dv 0 42 (.fieldAddr 24 (.tmp 3) 0) hS (fun W hW => x_fa0 fa24_0 rfl) fun a F => F.dv 1 43 (.load 3 (.tmp 42)) hS (fun W hW => x_load rfl (m_load flat3 ((m3_d.k2 hW (by omega)).cell (j := 0) rfl))) fun a F => F.dv 2 44 (.binOp .eql 3 (.tmp 43) (.const (.int .i64 2)) 3) hS (fun W hW => eqlF (by omega) rfl rfl) fun a F => F.dv 3 45 (.move (.tmp 44)) hS (fun W hW => x_move rfl) fun a F => d_skip 4 46 45 (j := 3) (want := true) (op := (.fieldAddr 24 (.tmp 3) 1)) F hS (by kernel_rfl) (by kernel_rfl) rfl (by kernel_rfl) (by decide) fun a F => d_skip 5 47 45 (j := 3) (want := true) (op := (.load 3 (.tmp 46))) F hS (by kernel_rfl) (by kernel_rfl) rfl (by kernel_rfl) (by decide) fun a F => d_skip 6 48 45 (j := 3) (want := true) (op := (.binOp .lss 3 (.tmp 47) (.const (.int .i64 0)) 3)) F hS (by kernel_rfl) (by kernel_rfl) rfl (by kernel_rfl) (by decide) fun a F => d_skip 7 49 45 (j := 3) (want := true) (op := (.move (.tmp 48))) F hS (by kernel_rfl) (by kernel_rfl) rfl (by kernel_rfl) (by decide) fun a F => d_skipu 8 50 49 (j := 7) (want := false) (op := (.fieldAddr 24 (.tmp 3) 1)) F hS (by kernel_rfl) (by kernel_rfl) rfl (by kernel_rfl) (by decide) fun a F => d_skipu 9 51 49 (j := 7) (want := false) (op := (.load 3 (.tmp 50))) F hS (by kernel_rfl) (by kernel_rfl) rfl (by kernel_rfl) (by decide) fun a F => d_skipu 10 52 49 (j := 7) (want := false) (op := (.move (.tmp 2))) F hS (by kernel_rfl) (by kernel_rfl) rfl (by kernel_rfl) (by decide) fun a F => d_skipu 11 53 49 (j := 7) (want := false) (op := (.nilCheck (.tmp 52))) F hS (by kernel_rfl) (by kernel_rfl) rfl (by kernel_rfl) (by decide) fun a F => d_skipu 12 54 49 (j := 7) (want := false) (op := (.fieldAddr 163 (.tmp 53) 3)) F hS (by kernel_rfl) (by kernel_rfl) rfl (by kernel_rfl) (by decide) fun a F => d_skipu 13 55 49 (j := 7) (want := false) (op := (.load 3 (.tmp 54))) F hS (by kernel_rfl) (by kernel_rfl) rfl (by kernel_rfl) (by decide) fun a F => d_skipu 14 56 49 (j := 7) (want := false) (op := (.binOp .geq 3 (.tmp 51) (.tmp 55) 3)) F hS (by kernel_rfl) (by kernel_rfl) rfl (by kernel_rfl) (by decide) fun a F => d_skip 15 57 45 (j := 3) (want := true) (op := (.pick (.tmp 49) (.const (.bool true)) (.tmp 56))) F hS (by kernel_rfl) (by kernel_rfl) rfl (by kernel_rfl) (by decide) fun a F => F.dv 16 58 (.pick (.tmp 45) (.tmp 57) (.const (.bool false))) hS (fun W hW => x_pick (b := false) rfl rfl) fun a F => ?_
        refine d_end (by kernel_rfl) (hK34 _ _ ?_)
        refine wp_if F rfl ?_
        refine wp_skip (K17 _ _ ?_)
        refine wp_seq_k fun _ K35 => ?_
        refine wp_rs fun _ K36 => F.vl (x_fa0 fa24_2 rfl) fun a F => F.ld m3 flat22 rfl rfl fun a F => F.vl (x_len Try.underlying22 rfl) fun a F => F.mv rfl fun a F => ?_
        refine s_end (K36 _ _ ?_)
        refine wp_block ?_
        refine wp_up xs.length (fun i a w => ∃ ri : Nat, ri ≤ 1000 ∧ chks D top vars (d + 1) (r - 1) ls = chks D top vars (d + 1) ri (ls.drop i) ∧ Blk w g 163 [.int .i64 D, .int .i64 (ri : Int), .int .i64 top, .int .i64 vars] ∧ Below w0.heap.size w0 w ∧ Ktw g g w1 w ∧ Fs 75 a [(62, .int .i64 (i : Int)), (61, .int .i64 (xs.length : Int)), (60, .slice av xs.length cv), (1, .int .i64 d), (2, .pointer (some ⟨g, 0, none⟩))]) ⟨r - 1, by omega, rfl, mg, hB, hK, F.sub _ rfl⟩ ?_
        clear F hB hK mg
        rintro i a w hi ⟨ri, hri, hck, mg, hB, hK, F⟩ K' hK'
        have sB := hB.size
        have hgl := mg.lt
        have sK := hK.size
        have hle := kids_le hkl
        refine wp_rs fun _ K37 => F.vl (x_lss rfl rfl rfl) fun a F => ?_
        refine s_end (K37 _ _ ?_)
        refine wp_seq_k fun _ K38 => ?_
        refine wp_iff F rfl (fun hc63 => ?_) (fun hc63 => ?_)
        · obtain ⟨b, off, c, y, hve, hy, hrow⟩ := rd_row3 hR (i := i) (by omega)
          cases hve
          obtain ⟨l, hlk⟩ : ∃ l, ls[i]? = some l := ⟨_, List.getElem?_eq_getElem (by omega)⟩
          have ihy := ih i y l hy hlk
          have h1y := (hk i y l hy hlk).one1
          rw [drop_at hlk] at hck
          refine wp_skip (K38 _ _ ?_)
          refine wp_seq_k fun _ K39 => ?_
          refine wp_block ?_
          refine wp_rs fun _ K40 => F.vl (x_ixa rfl rfl (m_ixsK i Try.underlying22 el22.size rfl (by omega))) fun a F => F.vl (x_ldA wide24 (hrow _ hB) rfl rfl) fun a F => ?_
          refine s_alloc F (by decide) zero24 fun w36 b8 a eb8 m8 B37 zb8 F => ?_
          have sB37 := B37.size
          have hB := bt hB B37
          have hK := hK.below B37
          have mg := mg.old B37
          refine s_putW F rfl rfl (size_wide wide24) m8 rfl (one_lc h1y) fun w38 m8 o39 => ?_
          have so39 := o39.size
          have hB := hB.trans (o39.below (by omega))
          have hK := hK.only o39 (by omega)
          have mg := mg.only o39 (by omega)
          refine s_end (K40 _ _ ?_)
          refine wp_rs fun _ K41 => F.vl (x_ldW wide24 m8 rfl rfl) fun a F => F.mv rfl fun a F => F.vl (x_add (by omega) (by omega) rfl rfl) fun a F => F.mv rfl fun a F => ?_
          refine s_call (R := fun u w' => (u = .int .i64 (chk D top vars (d + 1) ri l).1 ∧ ((chk D top vars (d + 1) ri l).1 = 0 → Blk w' g 163 [.int .i64 D, .int .i64 ((chk D top vars (d + 1) ri l).2 : Int), .int .i64 top, .int .i64 vars])) ∧ Ktw g g w38 w') F [_, _, _] E156 rfl (by decide) (ihy (d + 1) ri w38 (by omega) (by omega) hri hB mg) ?_
          rintro _ w40 a ⟨⟨rfl, hmg⟩, k41⟩ F
          have sk41 := k41.size
          have hB := k41.under hB (by omega)
          have hK := hK.trans k41 (by omega)
          refine F.sg rfl fun a F => ?_
          refine s_end (K41 _ _ ?_)
          refine wp_rs fun _ K42 => F.mv rfl fun a F => F.vl (x_neq rfl rfl rfl) fun a F => ?_
          refine s_end (K42 _ _ ?_)
          refine wp_iff F rfl (fun hc72 => ?_) (fun hc72 => ?_)
          · refine wp_rs fun _ K43 => ?_
            refine F.mv rfl fun a F => F.sg rfl fun a F => ?_
            refine s_end (K43 _ _ ?_)
            refine wp_ret (inb_ret (then_ret (then_ret (inb_ret (then_ret (res_slot F rfl rfl ⟨_, rfl, ⟨int_of (by rw [chk_in hnd, hck, chks_out hc72]), fun h => absurd (by rw [chk_in hnd, hck, chks_out hc72] at h; exact h) hc72⟩, hK⟩))))))
          · have hc0 : (chk D top vars (d + 1) ri l).1 = 0 := by omega
            have mg := hmg hc0
            refine wp_skip (K39 _ _ ?_)
            refine wp_region_lit ?_
            refine F.vl (x_addn (i + 1) (by omega) (by omega) rfl rfl) fun a F => F.mv rfl fun a F => ?_
            refine s_end (hK' _ _ (by omega) ⟨(chk D top vars (d + 1) ri l).2, Nat.le_trans (chk_le _ _ _ _ _ _) hri, by rw [hck, chks_in hc0], mg, hB, hK, F.sub _ rfl⟩)
        · refine wp_exit (K35 _ _ ?_)
          refine wp_rs fun _ K44 => F.sg rfl fun a F => ?_
          refine s_end (K44 _ _ ?_)
          have hnil : ls.drop i = [] := List.drop_of_length_le (by omega)
          rw [hnil] at hck
          refine wp_ret (res_slot F rfl rfl ⟨_, rfl, ⟨int_of (by rw [chk_in hnd, hck]; rfl), fun _ => by rw [chk_in hnd, hck]; exact mg⟩, hK⟩)
theorem may13 (x : C3) (l : Lv) (vars : Int) (w0 : World) (hL : RL w0 x l) : Calls Try.prog 144 #[lv x, .int .i64 vars] w0 fun e w' => e = .returned (.int .i64 (chk 32 1048576 vars 1 100 l).1) ∧ Below w0.heap.size w0 w' := by
 have hB := Below.refl w0.heap.size w0
 have sB := hB.size
 refine calls_fs 10 [(0, lv x), (1, .int .i64 vars)] Try.func144 rfl rfl rfl rfl rfl fun a F => ?_
 refine wp_rs fun _ K1 => ?_
 refine s_box (lc x) F (by decide) rfl rfl fun w2 b2 a eb2 m2 B3 zb2 F => ?_
 have sB3 := B3.size
 have hB := bt hB B3
 refine F.sg rfl fun a F => ?_
 refine s_end (K1 _ _ ?_)
 refine wp_rs fun _ K2 => F.vl (x_ldW wide24 m2 rfl rfl) fun a F => F.mv rfl fun a F => F.vl (x_build (vs := [(0, _), (1, _), (2, _), (3, _)]) rfl (b54_0123 _ _ _ _ _)) fun a F => ?_
 refine s_box ([.int .i64 32, .int .i64 100, .int .i64 1048576, .int .i64 vars]) F (by decide) rfl rfl fun w4 b8 a eb8 m8 B5 zb8 F => ?_
 have sB5 := B5.size
 have hB := bt hB B5
 refine s_call (R := fun u w' => (u = .int .i64 (chk 32 1048576 vars 1 100 l).1 ∧ ((chk 32 1048576 vars 1 100 l).1 = 0 → Blk w' b8 163 [.int .i64 32, .int .i64 ((chk 32 1048576 vars 1 100 l).2 : Int), .int .i64 1048576, .int .i64 vars])) ∧ Ktw b8 b8 w4 w') F [_, _, _] E156 rfl (by decide) (check34 32 1048576 vars (by decide) w0 b8 (by omega) x l hL 1 100 w4 (by decide) (by decide) (by decide) hB m8) ?_
 rintro _ w6 a ⟨⟨rfl, _⟩, k7⟩ F
 have sk7 := k7.size
 have hB := k7.under hB (by omega)
 refine F.sg rfl fun a F => ?_
 refine s_end (K2 _ _ ?_)
 refine wp_ret (res_slot F rfl rfl ⟨rfl, hB⟩)
theorem isSound49 (x : C3) (l : Lv) (w0 : World) (hL : RL w0 x l) : Calls Try.prog 131 #[lv x] w0 fun e w' => e = .returned (.bool (decide (sndL l))) ∧ Below w0.heap.size w0 w' := by
 have hB := Below.refl w0.heap.size w0
 have sB := hB.size
 refine calls_fs 8 [(0, lv x)] Try.func131 rfl rfl rfl rfl rfl fun a F => ?_
 refine wp_rs fun _ K1 => ?_
 refine s_box (lc x) F (by decide) rfl rfl fun w2 b1 a eb1 m1 B3 zb1 F => ?_
 have sB3 := B3.size
 have hB := bt hB B3
 refine F.sg rfl fun a F => ?_
 refine s_end (K1 _ _ ?_)
 refine wp_rs fun _ K2 => F.vl (x_ldW wide24 m1 rfl rfl) fun a F => F.vl (x_build (vs := [(0, _), (1, _), (2, _), (3, _)]) rfl (b54_0123 _ _ _ _ _)) fun a F => ?_
 refine s_box ([.int .i64 256, .int .i64 1000, .int .i64 1099511627776, .int .i64 1001]) F (by decide) rfl rfl fun w4 b5 a eb5 m5 B5 zb5 F => ?_
 have sB5 := B5.size
 have hB := bt hB B5
 refine s_call (R := fun u w' => (u = .int .i64 (chk 256 1099511627776 1001 1 1000 l).1 ∧ ((chk 256 1099511627776 1001 1 1000 l).1 = 0 → Blk w' b5 163 [.int .i64 256, .int .i64 ((chk 256 1099511627776 1001 1 1000 l).2 : Int), .int .i64 1099511627776, .int .i64 1001])) ∧ Ktw b5 b5 w4 w') F [_, _, _] E156 rfl (by decide) (check34 256 1099511627776 1001 (by decide) w0 b5 (by omega) x l hL 1 1000 w4 (by decide) (by decide) (by decide) hB m5) ?_
 rintro _ w6 a ⟨⟨rfl, _⟩, k7⟩ F
 have sk7 := k7.size
 have hB := k7.under hB (by omega)
 refine F.vl (x_eql (b := decide (sndL l)) rfl rfl rfl) fun a F => F.sg rfl fun a F => ?_
 refine s_end (K2 _ _ ?_)
 refine wp_ret (res_slot F rfl rfl ⟨rfl, hB⟩)
end Go.Proofs.Ytmkjhdiepkpdoaa

namespace Go.Proofs.Ytmkjhdiepkpdoaa
set_option maxRecDepth 100000
set_option maxHeartbeats 1600000
open Go.RowKit Go.Shelf
set_option linter.unusedVariables false
set_option linter.unusedSimpArgs false
theorem chk_no {D top vars d : Int} {r : Nat} {k n : Int} {ls : List Lv} (h : nodeE D top vars d r k n ls.length ≠ 0) : (chk D top vars d r (.mk k n ls)).1 ≠ 0 := by rw [chk_out h]; exact h
theorem node_two {D top vars d : Int} {r : Nat} {k n : Int} {len : Nat} (h : D < d ∨ r = 0) : nodeE D top vars d r k n len ≠ 0 := fun h1 => by have := nodeE_iff.1 h1; omega
theorem node_kid {D top vars d : Int} {r : Nat} {k n : Int} {len : Nat} (h : arI k < 0 ∨ (len : Int) ≠ arI k) : nodeE D top vars d r k n len ≠ 0 := fun h1 => by
 have := (nodeE_iff.1 h1).2.2.1
 rw [arI_no h] at this
 cases this
theorem node_num {D top vars d : Int} {r : Nat} {k n : Int} {len : Nat} (h : ¬ ((k = 1 → 0 ≤ n ∧ n ≤ top) ∧ (k = 3 → 1 ≤ n ∧ n ≤ top))) : nodeE D top vars d r k n len ≠ 0 := fun h1 => h (numB_iff.1 (nodeE_iff.1 h1).2.2.2.1)
theorem node_var {D top vars d : Int} {r : Nat} {k n : Int} {len : Nat} (h : k = 2 ∧ (n < 0 ∨ vars ≤ n)) : nodeE D top vars d r k n len ≠ 0 := fun h1 => (nodeE_iff.1 h1).2.2.2.2 h
theorem nil_of_kids {k : Int} {ls : List Lv} (h : kidsB k ls.length = true) (hk : k = 1 ∨ k = 2) : ls = [] := List.eq_nil_of_length_eq_zero (by have := kidsB_iff.1 h; omega)
theorem bool_of {p : Prop} [Decidable p] {b : Bool} (h : b = decide p) : Value.bool b = Value.bool (decide p) := by rw [h]
theorem rsound39 (w0 : World) (g : Nat) (hg : w0.heap.size ≤ g) : ∀ (x : C3) (l : Lv), RL w0 x l → ∀ (d : Int) (r : Nat) (w1 : World), 1 ≤ d → d ≤ 300 → r ≤ 1000 → Below w0.heap.size w0 w1 → Blk w1 g 3 [.int .i64 (1000 - (r : Int))] →
    Calls Try.prog 87 #[lv x, .int .i64 d, .pointer (some ⟨g, 0, none⟩)] w1 fun e w' => ∃ v, e = .returned v ∧ (v = .bool (decide ((chk 256 1099511627776 1001 d r l).1 = 0)) ∧ ((chk 256 1099511627776 1001 d r l).1 = 0 → Blk w' g 3 [.int .i64 (1000 - ((chk 256 1099511627776 1001 d r l).2 : Int))])) ∧ Ktw g g w1 w' := by
  intro x l h
  induction h with
  | @mk k n v xs ls hR hl hk hbd9 ih =>
  intro d r w1 hd1 hd2 hr hB mg
  obtain ⟨av, cv, rfl, _⟩ := hR.form
  have hK := Ktw.refl g g w1
  have sB := hB.size
  have hgl := mg.lt
  refine calls_fs 83 [(0, .agg [.int .i64 k, .int .i64 n, .slice av xs.length cv].toArray), (1, .int .i64 d), (2, .pointer (some ⟨g, 0, none⟩))] Try.func87 rfl rfl rfl rfl rfl fun a F => ?_
  refine wp_rs fun _ K1 => ?_
  refine s_box ([.int .i64 k, .int .i64 n, .slice av xs.length cv]) F (by decide) rfl rfl fun w2 b3 a eb3 m3 B3 zb3 F => ?_
  have sB3 := B3.size
  have hB := bt hB B3
  have hK := hK.below B3
  have mg := mg.old B3
  refine F.sg rfl fun a F => ?_
  refine s_end (K1 _ _ ?_)
  refine wp_rs fun _ K2 => F.mv rfl fun a F => F.vl (x_nil rfl) fun a F => F.ld mg flat3 rfl rfl fun a F => F.vl (x_add (by omega) (by omega) rfl rfl) fun a F => F.vl (x_nil rfl) fun a F => ?_
  refine s_put F rfl rfl flat3 mg (by simp) rfl fun w4 mg o5 => ?_
  have so5 := o5.size
  have hB := hB.trans (o5.below (by omega))
  have hK := hK.only o5 (by omega)
  have m3 := m3.only o5 (by omega)
  refine s_end (K2 _ _ ?_)
  refine wp_seq_k fun _ K3 => ?_
  rcases (show 256 < d ∨ (d ≤ 256 ∧ r = 0) ∨ (d ≤ 256 ∧ r ≠ 0 ∧ arI k < 0) ∨ (d ≤ 256 ∧ r ≠ 0 ∧ 0 ≤ arI k ∧ (xs.length : Int) ≠ arI k) ∨ (d ≤ 256 ∧ r ≠ 0 ∧ 0 ≤ arI k ∧ (xs.length : Int) = arI k) by omega) with hp | hp | hp | hp | hp
  · skip
    refine dk2_seq (w4.heap.size) (w4.heap.size) (ops := regOps Try.f87 2) (N := 23) (by kernel_rfl) wide_orders (by kernel_rfl) fun w6 hw6 B7 hS K5 hK5 => ?_
    have zw6 : w6.heap.size = w4.heap.size := by rw [hw6]
    have sB7 := B7.size
    have hB := bt hB B7
    have hK := hK.below B7
    have mg := mg.old B7
    have m3 := m3.old B7
    have mg_d := mg
    have m3_d := m3
    have hB_d := hB
    have hK_d := hK
    refine F.dv 0 14 (.move (.tmp 1)) hS (fun W hW => x_move rfl) fun a F => F.dv 1 15 (.binOp .gtr 3 (.tmp 14) (.const (.int .i64 256)) 3) hS (fun W hW => gtrT (by omega) rfl rfl) fun a F => F.dv 2 16 (.move (.tmp 15)) hS (fun W hW => x_move rfl) fun a F => d_skip 3 17 16 (j := 2) (want := false) (op := (.move (.tmp 2))) F hS (by kernel_rfl) (by kernel_rfl) rfl (by kernel_rfl) (by decide) fun a F => d_skip 4 18 16 (j := 2) (want := false) (op := (.nilCheck (.tmp 17))) F hS (by kernel_rfl) (by kernel_rfl) rfl (by kernel_rfl) (by decide) fun a F => d_skip 5 19 16 (j := 2) (want := false) (op := (.load 3 (.tmp 18))) F hS (by kernel_rfl) (by kernel_rfl) rfl (by kernel_rfl) (by decide) fun a F => d_skip 6 20 16 (j := 2) (want := false) (op := (.binOp .gtr 3 (.tmp 19) (.const (.int .i64 1000)) 3)) F hS (by kernel_rfl) (by kernel_rfl) rfl (by kernel_rfl) (by decide) fun a F => F.dv 7 21 (.pick (.tmp 16) (.const (.bool true)) (.tmp 20)) hS (fun W hW => x_pick (b := true) rfl rfl) fun a F => F.dv 8 22 (.move (.tmp 21)) hS (fun W hW => x_move rfl) fun a F => d_skip 9 23 22 (j := 8) (want := false) (op := (.fieldAddr 24 (.tmp 3) 0)) F hS (by kernel_rfl) (by kernel_rfl) rfl (by kernel_rfl) (by decide) fun a F => d_skip 10 24 22 (j := 8) (want := false) (op := (.load 3 (.tmp 23))) F hS (by kernel_rfl) (by kernel_rfl) rfl (by kernel_rfl) (by decide) fun a F => d_skip 11 25 22 (j := 8) (want := false) (op := (.call (.mk (.value (.func 123)) #[(.tmp 24)] #[3]))) F hS (by kernel_rfl) (by kernel_rfl) rfl (by kernel_rfl) (by decide) fun a F => d_skip 12 26 22 (j := 8) (want := false) (op := (.binOp .lss 3 (.tmp 25) (.const (.int .i64 0)) 3)) F hS (by kernel_rfl) (by kernel_rfl) rfl (by kernel_rfl) (by decide) fun a F => F.dv 13 27 (.pick (.tmp 22) (.const (.bool true)) (.tmp 26)) hS (fun W hW => x_pick (b := true) rfl rfl) fun a F => F.dv 14 28 (.move (.tmp 27)) hS (fun W hW => x_move rfl) fun a F => d_skip 15 29 28 (j := 14) (want := false) (op := (.fieldAddr 24 (.tmp 3) 2)) F hS (by kernel_rfl) (by kernel_rfl) rfl (by kernel_rfl) (by decide) fun a F => d_skip 16 30 28 (j := 14) (want := false) (op := (.load 22 (.tmp 29))) F hS (by kernel_rfl) (by kernel_rfl) rfl (by kernel_rfl) (by decide) fun a F => d_skip 17 31 28 (j := 14) (want := false) (op := (.call (.mk (.builtin .len) #[(.tmp 30)] #[22]))) F hS (by kernel_rfl) (by kernel_rfl) rfl (by kernel_rfl) (by decide) fun a F => d_skip 18 32 28 (j := 14) (want := false) (op := (.fieldAddr 24 (.tmp 3) 0)) F hS (by kernel_rfl) (by kernel_rfl) rfl (by kernel_rfl) (by decide) fun a F => d_skip 19 33 28 (j := 14) (want := false) (op := (.load 3 (.tmp 32))) F hS (by kernel_rfl) (by kernel_rfl) rfl (by kernel_rfl) (by decide) fun a F => d_skip 20 34 28 (j := 14) (want := false) (op := (.call (.mk (.value (.func 123)) #[(.tmp 33)] #[3]))) F hS (by kernel_rfl) (by kernel_rfl) rfl (by kernel_rfl) (by decide) fun a F => d_skip 21 35 28 (j := 14) (want := false) (op := (.binOp .neq 3 (.tmp 31) (.tmp 34) 3)) F hS (by kernel_rfl) (by kernel_rfl) rfl (by kernel_rfl) (by decide) fun a F => F.dv 22 36 (.pick (.tmp 28) (.const (.bool true)) (.tmp 35)) hS (fun W hW => x_pick (b := true) rfl rfl) fun a F => ?_
    refine d_end (by kernel_rfl) (hK5 _ _ ?_)
    refine wp_if F rfl ?_
    refine wp_rs fun _ K6 => F.sg rfl fun a F => ?_
    refine s_end (K6 _ _ ?_)
    refine wp_ret (then_ret (res_slot F rfl rfl ⟨_, rfl, ⟨bool_of (decide_eq_false (chk_no (node_two (by omega)))).symm, fun h => absurd h (chk_no (node_two (by omega)))⟩, hK⟩))
  · skip
    refine dk2_seq (w4.heap.size) (w4.heap.size) (ops := regOps Try.f87 2) (N := 23) (by kernel_rfl) wide_orders (by kernel_rfl) fun w8 hw8 B9 hS K7 hK7 => ?_
    have zw8 : w8.heap.size = w4.heap.size := by rw [hw8]
    have sB9 := B9.size
    have hB := bt hB B9
    have hK := hK.below B9
    have mg := mg.old B9
    have m3 := m3.old B9
    have mg_d := mg
    have m3_d := m3
    have hB_d := hB
    have hK_d := hK
    refine F.dv 0 14 (.move (.tmp 1)) hS (fun W hW => x_move rfl) fun a F => F.dv 1 15 (.binOp .gtr 3 (.tmp 14) (.const (.int .i64 256)) 3) hS (fun W hW => gtrF (by omega) rfl rfl) fun a F => F.dv 2 16 (.move (.tmp 15)) hS (fun W hW => x_move rfl) fun a F => F.dg 3 17 16 2 false (.move (.tmp 2)) hS rfl (fun W hW => x_move rfl) fun a F => F.dg 4 18 16 2 false (.nilCheck (.tmp 17)) hS rfl (fun W hW => x_nil rfl) fun a F => F.dg 5 19 16 2 false (.load 3 (.tmp 18)) hS rfl (fun W hW => x_load rfl (m_load flat3 ((mg_d.k2 hW (by omega)).cell (j := 0) rfl))) fun a F => F.dg 6 20 16 2 false (.binOp .gtr 3 (.tmp 19) (.const (.int .i64 1000)) 3) hS rfl (fun W hW => gtrT (by omega) rfl rfl) fun a F => F.dv 7 21 (.pick (.tmp 16) (.const (.bool true)) (.tmp 20)) hS (fun W hW => x_pick (b := false) rfl rfl) fun a F => F.dv 8 22 (.move (.tmp 21)) hS (fun W hW => x_move rfl) fun a F => d_skip 9 23 22 (j := 8) (want := false) (op := (.fieldAddr 24 (.tmp 3) 0)) F hS (by kernel_rfl) (by kernel_rfl) rfl (by kernel_rfl) (by decide) fun a F => d_skip 10 24 22 (j := 8) (want := false) (op := (.load 3 (.tmp 23))) F hS (by kernel_rfl) (by kernel_rfl) rfl (by kernel_rfl) (by decide) fun a F => d_skip 11 25 22 (j := 8) (want := false) (op := (.call (.mk (.value (.func 123)) #[(.tmp 24)] #[3]))) F hS (by kernel_rfl) (by kernel_rfl) rfl (by kernel_rfl) (by decide) fun a F => d_skip 12 26 22 (j := 8) (want := false) (op := (.binOp .lss 3 (.tmp 25) (.const (.int .i64 0)) 3)) F hS (by kernel_rfl) (by kernel_rfl) rfl (by kernel_rfl) (by decide) fun a F => F.dv 13 27 (.pick (.tmp 22) (.const (.bool true)) (.tmp 26)) hS (fun W hW => x_pick (b := true) rfl rfl) fun a F => F.dv 14 28 (.move (.tmp 27)) hS (fun W hW => x_move rfl) fun a F => d_skip 15 29 28 (j := 14) (want := false) (op := (.fieldAddr 24 (.tmp 3) 2)) F hS (by kernel_rfl) (by kernel_rfl) rfl (by kernel_rfl) (by decide) fun a F => d_skip 16 30 28 (j := 14) (want := false) (op := (.load 22 (.tmp 29))) F hS (by kernel_rfl) (by kernel_rfl) rfl (by kernel_rfl) (by decide) fun a F => d_skip 17 31 28 (j := 14) (want := false) (op := (.call (.mk (.builtin .len) #[(.tmp 30)] #[22]))) F hS (by kernel_rfl) (by kernel_rfl) rfl (by kernel_rfl) (by decide) fun a F => d_skip 18 32 28 (j := 14) (want := false) (op := (.fieldAddr 24 (.tmp 3) 0)) F hS (by kernel_rfl) (by kernel_rfl) rfl (by kernel_rfl) (by decide) fun a F => d_skip 19 33 28 (j := 14) (want := false) (op := (.load 3 (.tmp 32))) F hS (by kernel_rfl) (by kernel_rfl) rfl (by kernel_rfl) (by decide) fun a F => d_skip 20 34 28 (j := 14) (want := false) (op := (.call (.mk (.value (.func 123)) #[(.tmp 33)] #[3]))) F hS (by kernel_rfl) (by kernel_rfl) rfl (by kernel_rfl) (by decide) fun a F => d_skip 21 35 28 (j := 14) (want := false) (op := (.binOp .neq 3 (.tmp 31) (.tmp 34) 3)) F hS (by kernel_rfl) (by kernel_rfl) rfl (by kernel_rfl) (by decide) fun a F => F.dv 22 36 (.pick (.tmp 28) (.const (.bool true)) (.tmp 35)) hS (fun W hW => x_pick (b := true) rfl rfl) fun a F => ?_
    refine d_end (by kernel_rfl) (hK7 _ _ ?_)
    refine wp_if F rfl ?_
    refine wp_rs fun _ K8 => F.sg rfl fun a F => ?_
    refine s_end (K8 _ _ ?_)
    refine wp_ret (then_ret (res_slot F rfl rfl ⟨_, rfl, ⟨bool_of (decide_eq_false (chk_no (node_two (by omega)))).symm, fun h => absurd h (chk_no (node_two (by omega)))⟩, hK⟩))
  · skip
    refine dk2_seq (w4.heap.size) (w4.heap.size) (ops := regOps Try.f87 2) (N := 23) (by kernel_rfl) wide_orders (by kernel_rfl) fun w10 hw10 B11 hS K9 hK9 => ?_
    have zw10 : w10.heap.size = w4.heap.size := by rw [hw10]
    have sB11 := B11.size
    have hB := bt hB B11
    have hK := hK.below B11
    have mg := mg.old B11
    have m3 := m3.old B11
    have mg_d := mg
    have m3_d := m3
    have hB_d := hB
    have hK_d := hK
    refine F.dv 0 14 (.move (.tmp 1)) hS (fun W hW => x_move rfl) fun a F => F.dv 1 15 (.binOp .gtr 3 (.tmp 14) (.const (.int .i64 256)) 3) hS (fun W hW => gtrF (by omega) rfl rfl) fun a F => F.dv 2 16 (.move (.tmp 15)) hS (fun W hW => x_move rfl) fun a F => F.dg 3 17 16 2 false (.move (.tmp 2)) hS rfl (fun W hW => x_move rfl) fun a F => F.dg 4 18 16 2 false (.nilCheck (.tmp 17)) hS rfl (fun W hW => x_nil rfl) fun a F => F.dg 5 19 16 2 false (.load 3 (.tmp 18)) hS rfl (fun W hW => x_load rfl (m_load flat3 ((mg_d.k2 hW (by omega)).cell (j := 0) rfl))) fun a F => F.dg 6 20 16 2 false (.binOp .gtr 3 (.tmp 19) (.const (.int .i64 1000)) 3) hS rfl (fun W hW => gtrF (by omega) rfl rfl) fun a F => F.dv 7 21 (.pick (.tmp 16) (.const (.bool true)) (.tmp 20)) hS (fun W hW => x_pick (b := false) rfl rfl) fun a F => F.dv 8 22 (.move (.tmp 21)) hS (fun W hW => x_move rfl) fun a F => F.dg 9 23 22 8 false (.fieldAddr 24 (.tmp 3) 0) hS rfl (fun W hW => x_fa0 fa24_0 rfl) fun a F => F.dg 10 24 22 8 false (.load 3 (.tmp 23)) hS rfl (fun W hW => x_load rfl (m_load flat3 ((m3_d.k2 hW (by omega)).cell (j := 0) rfl))) fun a F => ?_
    refine d_oneg 11 22 (some 25) (.call (.mk (.value (.func 123)) #[(.tmp 24)] #[3])) (j := 8) (want := false) F (by kernel_rfl) (by kernel_rfl) (by kernel_rfl) rfl fun ty pos af => ?_
    refine s_callS [.int .i64 k] F E123 rfl (by decide) (arity58 k _) fun a F => ?_
    refine s_end ⟨hS, ?_⟩
    refine F.dg 12 26 22 8 false (.binOp .lss 3 (.tmp 25) (.const (.int .i64 0)) 3) hS rfl (fun W hW => lssT (by omega) rfl rfl) fun a F => F.dv 13 27 (.pick (.tmp 22) (.const (.bool true)) (.tmp 26)) hS (fun W hW => x_pick (b := false) rfl rfl) fun a F => F.dv 14 28 (.move (.tmp 27)) hS (fun W hW => x_move rfl) fun a F => d_skip 15 29 28 (j := 14) (want := false) (op := (.fieldAddr 24 (.tmp 3) 2)) F hS (by kernel_rfl) (by kernel_rfl) rfl (by kernel_rfl) (by decide) fun a F => d_skip 16 30 28 (j := 14) (want := false) (op := (.load 22 (.tmp 29))) F hS (by kernel_rfl) (by kernel_rfl) rfl (by kernel_rfl) (by decide) fun a F => d_skip 17 31 28 (j := 14) (want := false) (op := (.call (.mk (.builtin .len) #[(.tmp 30)] #[22]))) F hS (by kernel_rfl) (by kernel_rfl) rfl (by kernel_rfl) (by decide) fun a F => d_skip 18 32 28 (j := 14) (want := false) (op := (.fieldAddr 24 (.tmp 3) 0)) F hS (by kernel_rfl) (by kernel_rfl) rfl (by kernel_rfl) (by decide) fun a F => d_skip 19 33 28 (j := 14) (want := false) (op := (.load 3 (.tmp 32))) F hS (by kernel_rfl) (by kernel_rfl) rfl (by kernel_rfl) (by decide) fun a F => d_skip 20 34 28 (j := 14) (want := false) (op := (.call (.mk (.value (.func 123)) #[(.tmp 33)] #[3]))) F hS (by kernel_rfl) (by kernel_rfl) rfl (by kernel_rfl) (by decide) fun a F => d_skip 21 35 28 (j := 14) (want := false) (op := (.binOp .neq 3 (.tmp 31) (.tmp 34) 3)) F hS (by kernel_rfl) (by kernel_rfl) rfl (by kernel_rfl) (by decide) fun a F => F.dv 22 36 (.pick (.tmp 28) (.const (.bool true)) (.tmp 35)) hS (fun W hW => x_pick (b := true) rfl rfl) fun a F => ?_
    refine d_end (by kernel_rfl) (hK9 _ _ ?_)
    refine wp_if F rfl ?_
    refine wp_rs fun _ K10 => F.sg rfl fun a F => ?_
    refine s_end (K10 _ _ ?_)
    refine wp_ret (then_ret (res_slot F rfl rfl ⟨_, rfl, ⟨bool_of (decide_eq_false (chk_no (node_kid (by omega)))).symm, fun h => absurd h (chk_no (node_kid (by omega)))⟩, hK⟩))
  · skip
    refine dk2_seq (w4.heap.size) (w4.heap.size) (ops := regOps Try.f87 2) (N := 23) (by kernel_rfl) wide_orders (by kernel_rfl) fun w12 hw12 B13 hS K11 hK11 => ?_
    have zw12 : w12.heap.size = w4.heap.size := by rw [hw12]
    have sB13 := B13.size
    have hB := bt hB B13
    have hK := hK.below B13
    have mg := mg.old B13
    have m3 := m3.old B13
    have mg_d := mg
    have m3_d := m3
    have hB_d := hB
    have hK_d := hK
    refine F.dv 0 14 (.move (.tmp 1)) hS (fun W hW => x_move rfl) fun a F => F.dv 1 15 (.binOp .gtr 3 (.tmp 14) (.const (.int .i64 256)) 3) hS (fun W hW => gtrF (by omega) rfl rfl) fun a F => F.dv 2 16 (.move (.tmp 15)) hS (fun W hW => x_move rfl) fun a F => F.dg 3 17 16 2 false (.move (.tmp 2)) hS rfl (fun W hW => x_move rfl) fun a F => F.dg 4 18 16 2 false (.nilCheck (.tmp 17)) hS rfl (fun W hW => x_nil rfl) fun a F => F.dg 5 19 16 2 false (.load 3 (.tmp 18)) hS rfl (fun W hW => x_load rfl (m_load flat3 ((mg_d.k2 hW (by omega)).cell (j := 0) rfl))) fun a F => F.dg 6 20 16 2 false (.binOp .gtr 3 (.tmp 19) (.const (.int .i64 1000)) 3) hS rfl (fun W hW => gtrF (by omega) rfl rfl) fun a F => F.dv 7 21 (.pick (.tmp 16) (.const (.bool true)) (.tmp 20)) hS (fun W hW => x_pick (b := false) rfl rfl) fun a F => F.dv 8 22 (.move (.tmp 21)) hS (fun W hW => x_move rfl) fun a F => F.dg 9 23 22 8 false (.fieldAddr 24 (.tmp 3) 0) hS rfl (fun W hW => x_fa0 fa24_0 rfl) fun a F => F.dg 10 24 22 8 false (.load 3 (.tmp 23)) hS rfl (fun W hW => x_load rfl (m_load flat3 ((m3_d.k2 hW (by omega)).cell (j := 0) rfl))) fun a F => ?_
    refine d_oneg 11 22 (some 25) (.call (.mk (.value (.func 123)) #[(.tmp 24)] #[3])) (j := 8) (want := false) F (by kernel_rfl) (by kernel_rfl) (by kernel_rfl) rfl fun ty pos af => ?_
    refine s_callS [.int .i64 k] F E123 rfl (by decide) (arity58 k _) fun a F => ?_
    refine s_end ⟨hS, ?_⟩
    refine F.dg 12 26 22 8 false (.binOp .lss 3 (.tmp 25) (.const (.int .i64 0)) 3) hS rfl (fun W hW => lssF (by omega) rfl rfl) fun a F => F.dv 13 27 (.pick (.tmp 22) (.const (.bool true)) (.tmp 26)) hS (fun W hW => x_pick (b := false) rfl rfl) fun a F => F.dv 14 28 (.move (.tmp 27)) hS (fun W hW => x_move rfl) fun a F => F.dg 15 29 28 14 false (.fieldAddr 24 (.tmp 3) 2) hS rfl (fun W hW => x_fa0 fa24_2 rfl) fun a F => F.dg 16 30 28 14 false (.load 22 (.tmp 29)) hS rfl (fun W hW => x_load rfl (m_load flat22 ((m3_d.k2 hW (by omega)).cell (j := 2) rfl))) fun a F => F.dg 17 31 28 14 false (.call (.mk (.builtin .len) #[(.tmp 30)] #[22])) hS rfl (fun W hW => x_len Try.underlying22 rfl) fun a F => F.dg 18 32 28 14 false (.fieldAddr 24 (.tmp 3) 0) hS rfl (fun W hW => x_fa0 fa24_0 rfl) fun a F => F.dg 19 33 28 14 false (.load 3 (.tmp 32)) hS rfl (fun W hW => x_load rfl (m_load flat3 ((m3_d.k2 hW (by omega)).cell (j := 0) rfl))) fun a F => ?_
    refine d_oneg 20 28 (some 34) (.call (.mk (.value (.func 123)) #[(.tmp 33)] #[3])) (j := 14) (want := false) F (by kernel_rfl) (by kernel_rfl) (by kernel_rfl) rfl fun ty pos af => ?_
    refine s_callS [.int .i64 k] F E123 rfl (by decide) (arity58 k _) fun a F => ?_
    refine s_end ⟨hS, ?_⟩
    refine F.dg 21 35 28 14 false (.binOp .neq 3 (.tmp 31) (.tmp 34) 3) hS rfl (fun W hW => neqT (by omega) rfl rfl) fun a F => F.dv 22 36 (.pick (.tmp 28) (.const (.bool true)) (.tmp 35)) hS (fun W hW => x_pick (b := false) rfl rfl) fun a F => ?_
    refine d_end (by kernel_rfl) (hK11 _ _ ?_)
    refine wp_if F rfl ?_
    refine wp_rs fun _ K12 => F.sg rfl fun a F => ?_
    refine s_end (K12 _ _ ?_)
    refine wp_ret (then_ret (res_slot F rfl rfl ⟨_, rfl, ⟨bool_of (decide_eq_false (chk_no (node_kid (by omega)))).symm, fun h => absurd h (chk_no (node_kid (by omega)))⟩, hK⟩))
  · have hkl : kidsB k ls.length = true := arI_kids.2 (by omega)
    refine dk2_seq (w4.heap.size) (w4.heap.size) (ops := regOps Try.f87 2) (N := 23) (by kernel_rfl) wide_orders (by kernel_rfl) fun w14 hw14 B15 hS K13 hK13 => ?_
    have zw14 : w14.heap.size = w4.heap.size := by rw [hw14]
    have sB15 := B15.size
    have hB := bt hB B15
    have hK := hK.below B15
    have mg := mg.old B15
    have m3 := m3.old B15
    have mg_d := mg
    have m3_d := m3
    have hB_d := hB
    have hK_d := hK
    refine F.dv 0 14 (.move (.tmp 1)) hS (fun W hW => x_move rfl) fun a F => F.dv 1 15 (.binOp .gtr 3 (.tmp 14) (.const (.int .i64 256)) 3) hS (fun W hW => gtrF (by omega) rfl rfl) fun a F => F.dv 2 16 (.move (.tmp 15)) hS (fun W hW => x_move rfl) fun a F => F.dg 3 17 16 2 false (.move (.tmp 2)) hS rfl (fun W hW => x_move rfl) fun a F => F.dg 4 18 16 2 false (.nilCheck (.tmp 17)) hS rfl (fun W hW => x_nil rfl) fun a F => F.dg 5 19 16 2 false (.load 3 (.tmp 18)) hS rfl (fun W hW => x_load rfl (m_load flat3 ((mg_d.k2 hW (by omega)).cell (j := 0) rfl))) fun a F => F.dg 6 20 16 2 false (.binOp .gtr 3 (.tmp 19) (.const (.int .i64 1000)) 3) hS rfl (fun W hW => gtrF (by omega) rfl rfl) fun a F => F.dv 7 21 (.pick (.tmp 16) (.const (.bool true)) (.tmp 20)) hS (fun W hW => x_pick (b := false) rfl rfl) fun a F => F.dv 8 22 (.move (.tmp 21)) hS (fun W hW => x_move rfl) fun a F => F.dg 9 23 22 8 false (.fieldAddr 24 (.tmp 3) 0) hS rfl (fun W hW => x_fa0 fa24_0 rfl) fun a F => F.dg 10 24 22 8 false (.load 3 (.tmp 23)) hS rfl (fun W hW => x_load rfl (m_load flat3 ((m3_d.k2 hW (by omega)).cell (j := 0) rfl))) fun a F => ?_
    refine d_oneg 11 22 (some 25) (.call (.mk (.value (.func 123)) #[(.tmp 24)] #[3])) (j := 8) (want := false) F (by kernel_rfl) (by kernel_rfl) (by kernel_rfl) rfl fun ty pos af => ?_
    refine s_callS [.int .i64 k] F E123 rfl (by decide) (arity58 k _) fun a F => ?_
    refine s_end ⟨hS, ?_⟩
    refine F.dg 12 26 22 8 false (.binOp .lss 3 (.tmp 25) (.const (.int .i64 0)) 3) hS rfl (fun W hW => lssF (by omega) rfl rfl) fun a F => F.dv 13 27 (.pick (.tmp 22) (.const (.bool true)) (.tmp 26)) hS (fun W hW => x_pick (b := false) rfl rfl) fun a F => F.dv 14 28 (.move (.tmp 27)) hS (fun W hW => x_move rfl) fun a F => F.dg 15 29 28 14 false (.fieldAddr 24 (.tmp 3) 2) hS rfl (fun W hW => x_fa0 fa24_2 rfl) fun a F => F.dg 16 30 28 14 false (.load 22 (.tmp 29)) hS rfl (fun W hW => x_load rfl (m_load flat22 ((m3_d.k2 hW (by omega)).cell (j := 2) rfl))) fun a F => F.dg 17 31 28 14 false (.call (.mk (.builtin .len) #[(.tmp 30)] #[22])) hS rfl (fun W hW => x_len Try.underlying22 rfl) fun a F => F.dg 18 32 28 14 false (.fieldAddr 24 (.tmp 3) 0) hS rfl (fun W hW => x_fa0 fa24_0 rfl) fun a F => F.dg 19 33 28 14 false (.load 3 (.tmp 32)) hS rfl (fun W hW => x_load rfl (m_load flat3 ((m3_d.k2 hW (by omega)).cell (j := 0) rfl))) fun a F => ?_
    refine d_oneg 20 28 (some 34) (.call (.mk (.value (.func 123)) #[(.tmp 33)] #[3])) (j := 14) (want := false) F (by kernel_rfl) (by kernel_rfl) (by kernel_rfl) rfl fun ty pos af => ?_
    refine s_callS [.int .i64 k] F E123 rfl (by decide) (arity58 k _) fun a F => ?_
    refine s_end ⟨hS, ?_⟩
    refine F.dg 21 35 28 14 false (.binOp .neq 3 (.tmp 31) (.tmp 34) 3) hS rfl (fun W hW => neqF (by omega) rfl rfl) fun a F => F.dv 22 36 (.pick (.tmp 28) (.const (.bool true)) (.tmp 35)) hS (fun W hW => x_pick (b := false) rfl rfl) fun a F => ?_
    refine d_end (by kernel_rfl) (hK13 _ _ ?_)
    refine wp_if F rfl ?_
    refine wp_skip (K3 _ _ ?_)
    refine wp_seq_k fun _ K14 => ?_
    rcases (show (k = 1 ∧ n < 0) ∨ (k = 1 ∧ 0 ≤ n ∧ 1099511627776 < n) ∨ (k = 1 ∧ 0 ≤ n ∧ n ≤ 1099511627776) ∨ (k = 2 ∧ n < 0) ∨ (k = 2 ∧ 0 ≤ n ∧ 1000 < n) ∨ (k = 2 ∧ 0 ≤ n ∧ n ≤ 1000) ∨ (k = 3 ∧ n < 1) ∨ (k = 3 ∧ 1 ≤ n ∧ 1099511627776 < n) ∨ (k = 3 ∧ 1 ≤ n ∧ n ≤ 1099511627776) ∨ (k ≠ 1 ∧ k ≠ 2 ∧ k ≠ 3) by omega) with hv | hv | hv | hv | hv | hv | hv | hv | hv | hv
    · skip
      refine wp_rs fun _ K16 => F.vl (x_fa0 fa24_0 rfl) fun a F => F.ld m3 flat3 rfl rfl fun a F => ?_
      refine s_end (K16 _ _ ?_)
      refine wp_block ?_
      refine wp_rs fun _ K17 => F.vl (eqlT (by omega) rfl rfl) fun a F => F.sg rfl fun a F => ?_
      refine s_end (K17 _ _ ?_)
      refine wp_if F rfl ?_
      refine wp_rs fun _ K18 => F.vl (x_fa0 fa24_1 rfl) fun a F => F.ld m3 flat3 rfl rfl fun a F => F.vl (geqF (by omega) rfl rfl) fun a F => F.mv rfl fun a F => s_grdn 44 F rfl rfl (by decide) fun a F => s_grdn 44 F rfl rfl (by decide) fun a F => s_grdn 44 F rfl rfl (by decide) fun a F => F.vl (x_pick (b := false) rfl rfl) fun a F => F.sg rfl fun a F => ?_
      refine s_end (K18 _ _ ?_)
      refine wp_ret (inb_ret (then_ret (res_slot F rfl rfl ⟨_, rfl, ⟨bool_of (decide_eq_false (chk_no (node_num (by omega)))).symm, fun h => absurd h (chk_no (node_num (by omega)))⟩, hK⟩)))
    · skip
      refine wp_rs fun _ K19 => F.vl (x_fa0 fa24_0 rfl) fun a F => F.ld m3 flat3 rfl rfl fun a F => ?_
      refine s_end (K19 _ _ ?_)
      refine wp_block ?_
      refine wp_rs fun _ K20 => F.vl (eqlT (by omega) rfl rfl) fun a F => F.sg rfl fun a F => ?_
      refine s_end (K20 _ _ ?_)
      refine wp_if F rfl ?_
      refine wp_rs fun _ K21 => F.vl (x_fa0 fa24_1 rfl) fun a F => F.ld m3 flat3 rfl rfl fun a F => F.vl (geqT (by omega) rfl rfl) fun a F => F.mv rfl fun a F => s_grd 44 F rfl rfl rfl <| F.vl (x_fa0 fa24_1 rfl) fun a F => s_grd 44 F rfl rfl rfl <| F.ld m3 flat3 rfl rfl fun a F => s_grd 44 F rfl rfl rfl <| F.vl (leqF (by omega) rfl rfl) fun a F => F.vl (x_pick (b := true) rfl rfl) fun a F => F.sg rfl fun a F => ?_
      refine s_end (K21 _ _ ?_)
      refine wp_ret (inb_ret (then_ret (res_slot F rfl rfl ⟨_, rfl, ⟨bool_of (decide_eq_false (chk_no (node_num (by omega)))).symm, fun h => absurd h (chk_no (node_num (by omega)))⟩, hK⟩)))
    · have hnb : numB 1099511627776 k n = true := numB_iff.2 (by omega)
      have hnd := nodeE_iff.2 ⟨(by omega : d ≤ 256), (by omega : r ≠ 0), hkl, hnb, (by omega : ¬ (k = 2 ∧ (n < 0 ∨ 1001 ≤ n)))⟩
      have hnil := nil_of_kids hkl (by omega)
      refine wp_rs fun _ K22 => F.vl (x_fa0 fa24_0 rfl) fun a F => F.ld m3 flat3 rfl rfl fun a F => ?_
      refine s_end (K22 _ _ ?_)
      refine wp_block ?_
      refine wp_rs fun _ K23 => F.vl (eqlT (by omega) rfl rfl) fun a F => F.sg rfl fun a F => ?_
      refine s_end (K23 _ _ ?_)
      refine wp_if F rfl ?_
      refine wp_rs fun _ K24 => F.vl (x_fa0 fa24_1 rfl) fun a F => F.ld m3 flat3 rfl rfl fun a F => F.vl (geqT (by omega) rfl rfl) fun a F => F.mv rfl fun a F => s_grd 44 F rfl rfl rfl <| F.vl (x_fa0 fa24_1 rfl) fun a F => s_grd 44 F rfl rfl rfl <| F.ld m3 flat3 rfl rfl fun a F => s_grd 44 F rfl rfl rfl <| F.vl (leqT (by omega) rfl rfl) fun a F => F.vl (x_pick (b := true) rfl rfl) fun a F => F.sg rfl fun a F => ?_
      refine s_end (K24 _ _ ?_)
      have mg : Blk w14 g 3 [.int .i64 (1000 - ((r - 1 : Nat) : Int))] := by rw [show (1000 : Int) - ((r - 1 : Nat) : Int) = 1000 - (r : Int) + 1 by omega]; exact mg
      refine wp_ret (inb_ret (then_ret (res_slot F rfl rfl ⟨_, rfl, ⟨bool_of (decide_eq_true (by rw [chk_in hnd, hnil]; rfl)).symm, fun _ => by rw [chk_in hnd, hnil]; exact mg⟩, hK⟩)))
    · skip
      refine wp_rs fun _ K25 => F.vl (x_fa0 fa24_0 rfl) fun a F => F.ld m3 flat3 rfl rfl fun a F => ?_
      refine s_end (K25 _ _ ?_)
      refine wp_block ?_
      refine wp_rs fun _ K26 => F.vl (eqlF (by omega) rfl rfl) fun a F => F.sg rfl fun a F => ?_
      refine s_end (K26 _ _ ?_)
      refine wp_if F rfl ?_
      refine wp_rs fun _ K27 => F.vl (eqlT (by omega) rfl rfl) fun a F => F.sg rfl fun a F => ?_
      refine s_end (K27 _ _ ?_)
      refine wp_if F rfl ?_
      refine wp_rs fun _ K28 => F.vl (x_fa0 fa24_1 rfl) fun a F => F.ld m3 flat3 rfl rfl fun a F => F.vl (geqF (by omega) rfl rfl) fun a F => F.mv rfl fun a F => s_grdn 54 F rfl rfl (by decide) fun a F => s_grdn 54 F rfl rfl (by decide) fun a F => s_grdn 54 F rfl rfl (by decide) fun a F => F.vl (x_pick (b := false) rfl rfl) fun a F => F.sg rfl fun a F => ?_
      refine s_end (K28 _ _ ?_)
      refine wp_ret (inb_ret (then_ret (res_slot F rfl rfl ⟨_, rfl, ⟨bool_of (decide_eq_false (chk_no (node_var (by omega)))).symm, fun h => absurd h (chk_no (node_var (by omega)))⟩, hK⟩)))
    · skip
      refine wp_rs fun _ K29 => F.vl (x_fa0 fa24_0 rfl) fun a F => F.ld m3 flat3 rfl rfl fun a F => ?_
      refine s_end (K29 _ _ ?_)
      refine wp_block ?_
      refine wp_rs fun _ K30 => F.vl (eqlF (by omega) rfl rfl) fun a F => F.sg rfl fun a F => ?_
      refine s_end (K30 _ _ ?_)
      refine wp_if F rfl ?_
      refine wp_rs fun _ K31 => F.vl (eqlT (by omega) rfl rfl) fun a F => F.sg rfl fun a F => ?_
      refine s_end (K31 _ _ ?_)
      refine wp_if F rfl ?_
      refine wp_rs fun _ K32 => F.vl (x_fa0 fa24_1 rfl) fun a F => F.ld m3 flat3 rfl rfl fun a F => F.vl (geqT (by omega) rfl rfl) fun a F => F.mv rfl fun a F => s_grd 54 F rfl rfl rfl <| F.vl (x_fa0 fa24_1 rfl) fun a F => s_grd 54 F rfl rfl rfl <| F.ld m3 flat3 rfl rfl fun a F => s_grd 54 F rfl rfl rfl <| F.vl (leqF (by omega) rfl rfl) fun a F => F.vl (x_pick (b := true) rfl rfl) fun a F => F.sg rfl fun a F => ?_
      refine s_end (K32 _ _ ?_)
      refine wp_ret (inb_ret (then_ret (res_slot F rfl rfl ⟨_, rfl, ⟨bool_of (decide_eq_false (chk_no (node_var (by omega)))).symm, fun h => absurd h (chk_no (node_var (by omega)))⟩, hK⟩)))
    · have hnb : numB 1099511627776 k n = true := numB_iff.2 (by omega)
      have hnd := nodeE_iff.2 ⟨(by omega : d ≤ 256), (by omega : r ≠ 0), hkl, hnb, (by omega : ¬ (k = 2 ∧ (n < 0 ∨ 1001 ≤ n)))⟩
      have hnil := nil_of_kids hkl (by omega)
      refine wp_rs fun _ K33 => F.vl (x_fa0 fa24_0 rfl) fun a F => F.ld m3 flat3 rfl rfl fun a F => ?_
      refine s_end (K33 _ _ ?_)
      refine wp_block ?_
      refine wp_rs fun _ K34 => F.vl (eqlF (by omega) rfl rfl) fun a F => F.sg rfl fun a F => ?_
      refine s_end (K34 _ _ ?_)
      refine wp_if F rfl ?_
      refine wp_rs fun _ K35 => F.vl (eqlT (by omega) rfl rfl) fun a F => F.sg rfl fun a F => ?_
      refine s_end (K35 _ _ ?_)
      refine wp_if F rfl ?_
      refine wp_rs fun _ K36 => F.vl (x_fa0 fa24_1 rfl) fun a F => F.ld m3 flat3 rfl rfl fun a F => F.vl (geqT (by omega) rfl rfl) fun a F => F.mv rfl fun a F => s_grd 54 F rfl rfl rfl <| F.vl (x_fa0 fa24_1 rfl) fun a F => s_grd 54 F rfl rfl rfl <| F.ld m3 flat3 rfl rfl fun a F => s_grd 54 F rfl rfl rfl <| F.vl (leqT (by omega) rfl rfl) fun a F => F.vl (x_pick (b := true) rfl rfl) fun a F => F.sg rfl fun a F => ?_
      refine s_end (K36 _ _ ?_)
      have mg : Blk w14 g 3 [.int .i64 (1000 - ((r - 1 : Nat) : Int))] := by rw [show (1000 : Int) - ((r - 1 : Nat) : Int) = 1000 - (r : Int) + 1 by omega]; exact mg
      refine wp_ret (inb_ret (then_ret (res_slot F rfl rfl ⟨_, rfl, ⟨bool_of (decide_eq_true (by rw [chk_in hnd, hnil]; rfl)).symm, fun _ => by rw [chk_in hnd, hnil]; exact mg⟩, hK⟩)))
    · skip
      refine wp_rs fun _ K37 => F.vl (x_fa0 fa24_0 rfl) fun a F => F.ld m3 flat3 rfl rfl fun a F => ?_
      refine s_end (K37 _ _ ?_)
      refine wp_block ?_
      refine wp_rs fun _ K38 => F.vl (eqlF (by omega) rfl rfl) fun a F => F.sg rfl fun a F => ?_
      refine s_end (K38 _ _ ?_)
      refine wp_if F rfl ?_
      refine wp_rs fun _ K39 => F.vl (eqlF (by omega) rfl rfl) fun a F => F.sg rfl fun a F => ?_
      refine s_end (K39 _ _ ?_)
      refine wp_if F rfl ?_
      refine wp_rs fun _ K40 => F.vl (eqlT (by omega) rfl rfl) fun a F => F.sg rfl fun a F => ?_
      refine s_end (K40 _ _ ?_)
      refine wp_if F rfl ?_
      refine wp_rs fun _ K41 => F.vl (x_fa0 fa24_1 rfl) fun a F => F.ld m3 flat3 rfl rfl fun a F => F.vl (lssT (by omega) rfl rfl) fun a F => F.mv rfl fun a F => s_grdn 64 F rfl rfl (by decide) fun a F => s_grdn 64 F rfl rfl (by decide) fun a F => s_grdn 64 F rfl rfl (by decide) fun a F => F.vl (x_pick (b := true) rfl rfl) fun a F => ?_
      refine s_end (K41 _ _ ?_)
      refine wp_if F rfl ?_
      refine wp_rs fun _ K42 => F.sg rfl fun a F => ?_
      refine s_end (K42 _ _ ?_)
      refine wp_ret (inb_ret (then_ret (res_slot F rfl rfl ⟨_, rfl, ⟨bool_of (decide_eq_false (chk_no (node_num (by omega)))).symm, fun h => absurd h (chk_no (node_num (by omega)))⟩, hK⟩)))
    · skip
      refine wp_rs fun _ K43 => F.vl (x_fa0 fa24_0 rfl) fun a F => F.ld m3 flat3 rfl rfl fun a F => ?_
      refine s_end (K43 _ _ ?_)
      refine wp_block ?_
      refine wp_rs fun _ K44 => F.vl (eqlF (by omega) rfl rfl) fun a F => F.sg rfl fun a F => ?_
      refine s_end (K44 _ _ ?_)
      refine wp_if F rfl ?_
      refine wp_rs fun _ K45 => F.vl (eqlF (by omega) rfl rfl) fun a F => F.sg rfl fun a F => ?_
      refine s_end (K45 _ _ ?_)
      refine wp_if F rfl ?_
      refine wp_rs fun _ K46 => F.vl (eqlT (by omega) rfl rfl) fun a F => F.sg rfl fun a F => ?_
      refine s_end (K46 _ _ ?_)
      refine wp_if F rfl ?_
      refine wp_rs fun _ K47 => F.vl (x_fa0 fa24_1 rfl) fun a F => F.ld m3 flat3 rfl rfl fun a F => F.vl (lssF (by omega) rfl rfl) fun a F => F.mv rfl fun a F => s_grd 64 F rfl rfl rfl <| F.vl (x_fa0 fa24_1 rfl) fun a F => s_grd 64 F rfl rfl rfl <| F.ld m3 flat3 rfl rfl fun a F => s_grd 64 F rfl rfl rfl <| F.vl (gtrT (by omega) rfl rfl) fun a F => F.vl (x_pick (b := false) rfl rfl) fun a F => ?_
      refine s_end (K47 _ _ ?_)
      refine wp_if F rfl ?_
      refine wp_rs fun _ K48 => F.sg rfl fun a F => ?_
      refine s_end (K48 _ _ ?_)
      refine wp_ret (inb_ret (then_ret (res_slot F rfl rfl ⟨_, rfl, ⟨bool_of (decide_eq_false (chk_no (node_num (by omega)))).symm, fun h => absurd h (chk_no (node_num (by omega)))⟩, hK⟩)))
    · have hnb : numB 1099511627776 k n = true := numB_iff.2 (by omega)
      have hnd := nodeE_iff.2 ⟨(by omega : d ≤ 256), (by omega : r ≠ 0), hkl, hnb, (by omega : ¬ (k = 2 ∧ (n < 0 ∨ 1001 ≤ n)))⟩
      refine wp_rs fun _ K49 => F.vl (x_fa0 fa24_0 rfl) fun a F => F.ld m3 flat3 rfl rfl fun a F => ?_
      refine s_end (K49 _ _ ?_)
      refine wp_block ?_
      refine wp_rs fun _ K50 => F.vl (eqlF (by omega) rfl rfl) fun a F => F.sg rfl fun a F => ?_
      refine s_end (K50 _ _ ?_)
      refine wp_if F rfl ?_
      refine wp_rs fun _ K51 => F.vl (eqlF (by omega) rfl rfl) fun a F => F.sg rfl fun a F => ?_
      refine s_end (K51 _ _ ?_)
      refine wp_if F rfl ?_
      refine wp_rs fun _ K52 => F.vl (eqlT (by omega) rfl rfl) fun a F => F.sg rfl fun a F => ?_
      refine s_end (K52 _ _ ?_)
      refine wp_if F rfl ?_
      refine wp_rs fun _ K53 => F.vl (x_fa0 fa24_1 rfl) fun a F => F.ld m3 flat3 rfl rfl fun a F => F.vl (lssF (by omega) rfl rfl) fun a F => F.mv rfl fun a F => s_grd 64 F rfl rfl rfl <| F.vl (x_fa0 fa24_1 rfl) fun a F => s_grd 64 F rfl rfl rfl <| F.ld m3 flat3 rfl rfl fun a F => s_grd 64 F rfl rfl rfl <| F.vl (gtrF (by omega) rfl rfl) fun a F => F.vl (x_pick (b := false) rfl rfl) fun a F => ?_
      refine s_end (K53 _ _ ?_)
      refine wp_if F rfl ?_
      refine wp_skip (K14 _ _ ?_)
      refine wp_seq_k fun _ K54 => ?_
      refine wp_rs fun _ K55 => F.vl (x_fa0 fa24_2 rfl) fun a F => F.ld m3 flat22 rfl rfl fun a F => F.vl (x_len Try.underlying22 rfl) fun a F => F.mv rfl fun a F => ?_
      refine s_end (K55 _ _ ?_)
      refine wp_block ?_
      have mg : Blk w14 g 3 [.int .i64 (1000 - ((r - 1 : Nat) : Int))] := by rw [show (1000 : Int) - ((r - 1 : Nat) : Int) = 1000 - (r : Int) + 1 by omega]; exact mg
      refine wp_up xs.length (fun i a w => ∃ ri : Nat, ri ≤ 1000 ∧ chks 256 1099511627776 1001 (d + 1) (r - 1) ls = chks 256 1099511627776 1001 (d + 1) ri (ls.drop i) ∧ Blk w g 3 [.int .i64 (1000 - (ri : Int))] ∧ Below w0.heap.size w0 w ∧ Ktw g g w1 w ∧ Fs 83 a [(72, .int .i64 (i : Int)), (71, .int .i64 (xs.length : Int)), (70, .slice av xs.length cv), (1, .int .i64 d), (2, .pointer (some ⟨g, 0, none⟩))]) ⟨r - 1, by omega, rfl, mg, hB, hK, F.sub _ rfl⟩ ?_
      clear F hB hK mg
      rintro i a w hi ⟨ri, hri, hck, mg, hB, hK, F⟩ K' hK'
      have sB := hB.size
      have hgl := mg.lt
      have sK := hK.size
      have hle := kids_le hkl
      refine wp_rs fun _ K56 => F.vl (x_lss rfl rfl rfl) fun a F => ?_
      refine s_end (K56 _ _ ?_)
      refine wp_seq_k fun _ K57 => ?_
      refine wp_iff F rfl (fun hc73 => ?_) (fun hc73 => ?_)
      · obtain ⟨b, off, c, y, hve, hy, hrow⟩ := rd_row3 hR (i := i) (by omega)
        cases hve
        obtain ⟨l, hlk⟩ : ∃ l, ls[i]? = some l := ⟨_, List.getElem?_eq_getElem (by omega)⟩
        have ihy := ih i y l hy hlk
        have h1y := (hk i y l hy hlk).one1
        rw [drop_at hlk] at hck
        refine wp_skip (K57 _ _ ?_)
        refine wp_seq_k fun _ K58 => ?_
        refine wp_block ?_
        refine wp_rs fun _ K59 => F.vl (x_ixa rfl rfl (m_ixsK i Try.underlying22 el22.size rfl (by omega))) fun a F => F.vl (x_ldA wide24 (hrow _ hB) rfl rfl) fun a F => ?_
        refine s_alloc F (by decide) zero24 fun w16 b8 a eb8 m8 B17 zb8 F => ?_
        have sB17 := B17.size
        have hB := bt hB B17
        have hK := hK.below B17
        have mg := mg.old B17
        refine s_putW F rfl rfl (size_wide wide24) m8 rfl (one_lc h1y) fun w18 m8 o19 => ?_
        have so19 := o19.size
        have hB := hB.trans (o19.below (by omega))
        have hK := hK.only o19 (by omega)
        have mg := mg.only o19 (by omega)
        refine s_end (K59 _ _ ?_)
        refine wp_rs fun _ K60 => F.vl (x_ldW wide24 m8 rfl rfl) fun a F => F.mv rfl fun a F => F.vl (x_add (by omega) (by omega) rfl rfl) fun a F => F.mv rfl fun a F => ?_
        refine s_call (R := fun u w' => (u = .bool (decide ((chk 256 1099511627776 1001 (d + 1) ri l).1 = 0)) ∧ ((chk 256 1099511627776 1001 (d + 1) ri l).1 = 0 → Blk w' g 3 [.int .i64 (1000 - ((chk 256 1099511627776 1001 (d + 1) ri l).2 : Int))])) ∧ Ktw g g w18 w') F [_, _, _] E87 rfl (by decide) (ihy (d + 1) ri w18 (by omega) (by omega) hri hB mg) ?_
        rintro _ w20 a ⟨⟨rfl, hmg⟩, k21⟩ F
        have sk21 := k21.size
        have hB := k21.under hB (by omega)
        have hK := hK.trans k21 (by omega)
        refine F.vl (x_not rfl) fun a F => ?_
        refine s_end (K60 _ _ ?_)
        refine wp_ifb F rfl (fun hc81 => ?_) (fun hc81 => ?_)
        · have hc0 : ¬ (chk 256 1099511627776 1001 (d + 1) ri l).1 = 0 := by simpa using hc81
          refine wp_rs fun _ K61 => F.sg rfl fun a F => ?_
          refine s_end (K61 _ _ ?_)
          refine wp_ret (inb_ret (then_ret (then_ret (inb_ret (then_ret (res_slot F rfl rfl ⟨_, rfl, ⟨bool_of (decide_eq_false (by rw [chk_in hnd, hck, chks_out hc0]; exact hc0)).symm, fun h => absurd (by rw [chk_in hnd, hck, chks_out hc0] at h; exact h) hc0⟩, hK⟩))))))
        · have hc0 : (chk 256 1099511627776 1001 (d + 1) ri l).1 = 0 := by simpa using hc81
          have mg := hmg hc0
          refine wp_skip (K58 _ _ ?_)
          refine wp_region_lit ?_
          refine F.vl (x_addn (i + 1) (by omega) (by omega) rfl rfl) fun a F => F.mv rfl fun a F => ?_
          refine s_end (hK' _ _ (by omega) ⟨(chk 256 1099511627776 1001 (d + 1) ri l).2, Nat.le_trans (chk_le _ _ _ _ _ _) hri, by rw [hck, chks_in hc0], mg, hB, hK, F.sub _ rfl⟩)
      · refine wp_exit (K54 _ _ ?_)
        refine wp_rs fun _ K62 => F.sg rfl fun a F => ?_
        refine s_end (K62 _ _ ?_)
        have hnil : ls.drop i = [] := List.drop_of_length_le (by omega)
        rw [hnil] at hck
        refine wp_ret (res_slot F rfl rfl ⟨_, rfl, ⟨bool_of (decide_eq_true (by rw [chk_in hnd, hck]; rfl)).symm, fun _ => by rw [chk_in hnd, hck]; exact mg⟩, hK⟩)
    · have hnb : numB 1099511627776 k n = true := numB_iff.2 (by omega)
      have hnd := nodeE_iff.2 ⟨(by omega : d ≤ 256), (by omega : r ≠ 0), hkl, hnb, (by omega : ¬ (k = 2 ∧ (n < 0 ∨ 1001 ≤ n)))⟩
      refine wp_rs fun _ K63 => F.vl (x_fa0 fa24_0 rfl) fun a F => F.ld m3 flat3 rfl rfl fun a F => ?_
      refine s_end (K63 _ _ ?_)
      refine wp_block ?_
      refine wp_rs fun _ K64 => F.vl (eqlF (by omega) rfl rfl) fun a F => F.sg rfl fun a F => ?_
      refine s_end (K64 _ _ ?_)
      refine wp_if F rfl ?_
      refine wp_rs fun _ K65 => F.vl (eqlF (by omega) rfl rfl) fun a F => F.sg rfl fun a F => ?_
      refine s_end (K65 _ _ ?_)
      refine wp_if F rfl ?_
      refine wp_rs fun _ K66 => F.vl (eqlF (by omega) rfl rfl) fun a F => F.sg rfl fun a F => ?_
      refine s_end (K66 _ _ ?_)
      refine wp_if F rfl ?_
      refine wp_skip (K14 _ _ ?_)
      refine wp_seq_k fun _ K67 => ?_
      refine wp_rs fun _ K68 => F.vl (x_fa0 fa24_2 rfl) fun a F => F.ld m3 flat22 rfl rfl fun a F => F.vl (x_len Try.underlying22 rfl) fun a F => F.mv rfl fun a F => ?_
      refine s_end (K68 _ _ ?_)
      refine wp_block ?_
      have mg : Blk w14 g 3 [.int .i64 (1000 - ((r - 1 : Nat) : Int))] := by rw [show (1000 : Int) - ((r - 1 : Nat) : Int) = 1000 - (r : Int) + 1 by omega]; exact mg
      refine wp_up xs.length (fun i a w => ∃ ri : Nat, ri ≤ 1000 ∧ chks 256 1099511627776 1001 (d + 1) (r - 1) ls = chks 256 1099511627776 1001 (d + 1) ri (ls.drop i) ∧ Blk w g 3 [.int .i64 (1000 - (ri : Int))] ∧ Below w0.heap.size w0 w ∧ Ktw g g w1 w ∧ Fs 83 a [(72, .int .i64 (i : Int)), (71, .int .i64 (xs.length : Int)), (70, .slice av xs.length cv), (1, .int .i64 d), (2, .pointer (some ⟨g, 0, none⟩))]) ⟨r - 1, by omega, rfl, mg, hB, hK, F.sub _ rfl⟩ ?_
      clear F hB hK mg
      rintro i a w hi ⟨ri, hri, hck, mg, hB, hK, F⟩ K' hK'
      have sB := hB.size
      have hgl := mg.lt
      have sK := hK.size
      have hle := kids_le hkl
      refine wp_rs fun _ K69 => F.vl (x_lss rfl rfl rfl) fun a F => ?_
      refine s_end (K69 _ _ ?_)
      refine wp_seq_k fun _ K70 => ?_
      refine wp_iff F rfl (fun hc73 => ?_) (fun hc73 => ?_)
      · obtain ⟨b, off, c, y, hve, hy, hrow⟩ := rd_row3 hR (i := i) (by omega)
        cases hve
        obtain ⟨l, hlk⟩ : ∃ l, ls[i]? = some l := ⟨_, List.getElem?_eq_getElem (by omega)⟩
        have ihy := ih i y l hy hlk
        have h1y := (hk i y l hy hlk).one1
        rw [drop_at hlk] at hck
        refine wp_skip (K70 _ _ ?_)
        refine wp_seq_k fun _ K71 => ?_
        refine wp_block ?_
        refine wp_rs fun _ K72 => F.vl (x_ixa rfl rfl (m_ixsK i Try.underlying22 el22.size rfl (by omega))) fun a F => F.vl (x_ldA wide24 (hrow _ hB) rfl rfl) fun a F => ?_
        refine s_alloc F (by decide) zero24 fun w22 b8 a eb8 m8 B23 zb8 F => ?_
        have sB23 := B23.size
        have hB := bt hB B23
        have hK := hK.below B23
        have mg := mg.old B23
        refine s_putW F rfl rfl (size_wide wide24) m8 rfl (one_lc h1y) fun w24 m8 o25 => ?_
        have so25 := o25.size
        have hB := hB.trans (o25.below (by omega))
        have hK := hK.only o25 (by omega)
        have mg := mg.only o25 (by omega)
        refine s_end (K72 _ _ ?_)
        refine wp_rs fun _ K73 => F.vl (x_ldW wide24 m8 rfl rfl) fun a F => F.mv rfl fun a F => F.vl (x_add (by omega) (by omega) rfl rfl) fun a F => F.mv rfl fun a F => ?_
        refine s_call (R := fun u w' => (u = .bool (decide ((chk 256 1099511627776 1001 (d + 1) ri l).1 = 0)) ∧ ((chk 256 1099511627776 1001 (d + 1) ri l).1 = 0 → Blk w' g 3 [.int .i64 (1000 - ((chk 256 1099511627776 1001 (d + 1) ri l).2 : Int))])) ∧ Ktw g g w24 w') F [_, _, _] E87 rfl (by decide) (ihy (d + 1) ri w24 (by omega) (by omega) hri hB mg) ?_
        rintro _ w26 a ⟨⟨rfl, hmg⟩, k27⟩ F
        have sk27 := k27.size
        have hB := k27.under hB (by omega)
        have hK := hK.trans k27 (by omega)
        refine F.vl (x_not rfl) fun a F => ?_
        refine s_end (K73 _ _ ?_)
        refine wp_ifb F rfl (fun hc81 => ?_) (fun hc81 => ?_)
        · have hc0 : ¬ (chk 256 1099511627776 1001 (d + 1) ri l).1 = 0 := by simpa using hc81
          refine wp_rs fun _ K74 => F.sg rfl fun a F => ?_
          refine s_end (K74 _ _ ?_)
          refine wp_ret (inb_ret (then_ret (then_ret (inb_ret (then_ret (res_slot F rfl rfl ⟨_, rfl, ⟨bool_of (decide_eq_false (by rw [chk_in hnd, hck, chks_out hc0]; exact hc0)).symm, fun h => absurd (by rw [chk_in hnd, hck, chks_out hc0] at h; exact h) hc0⟩, hK⟩))))))
        · have hc0 : (chk 256 1099511627776 1001 (d + 1) ri l).1 = 0 := by simpa using hc81
          have mg := hmg hc0
          refine wp_skip (K71 _ _ ?_)
          refine wp_region_lit ?_
          refine F.vl (x_addn (i + 1) (by omega) (by omega) rfl rfl) fun a F => F.mv rfl fun a F => ?_
          refine s_end (hK' _ _ (by omega) ⟨(chk 256 1099511627776 1001 (d + 1) ri l).2, Nat.le_trans (chk_le _ _ _ _ _ _) hri, by rw [hck, chks_in hc0], mg, hB, hK, F.sub _ rfl⟩)
      · refine wp_exit (K67 _ _ ?_)
        refine wp_rs fun _ K75 => F.sg rfl fun a F => ?_
        refine s_end (K75 _ _ ?_)
        have hnil : ls.drop i = [] := List.drop_of_length_le (by omega)
        rw [hnil] at hck
        refine wp_ret (res_slot F rfl rfl ⟨_, rfl, ⟨bool_of (decide_eq_true (by rw [chk_in hnd, hck]; rfl)).symm, fun _ => by rw [chk_in hnd, hck]; exact mg⟩, hK⟩)
theorem rSound17 (x : C3) (l : Lv) (w0 : World) (hL : RL w0 x l) : Calls Try.prog 43 #[lv x] w0 fun e w' => e = .returned (.bool (decide (sndL l))) ∧ Below w0.heap.size w0 w' := by
 have hB := Below.refl w0.heap.size w0
 have sB := hB.size
 refine calls_fs 6 [(0, lv x)] Try.func43 rfl rfl rfl rfl rfl fun a F => ?_
 refine wp_rs fun _ K1 => ?_
 refine s_box (lc x) F (by decide) rfl rfl fun w2 b1 a eb1 m1 B3 zb1 F => ?_
 have sB3 := B3.size
 have hB := bt hB B3
 refine F.sg rfl fun a F => ?_
 refine s_end (K1 _ _ ?_)
 refine wp_rs fun _ K2 => ?_
 refine s_alloc1 F (by decide) zero3 rfl fun w4 b3 a eb3 m3 B5 zb3 F => ?_
 have sB5 := B5.size
 have hB := bt hB B5
 have m1 := m1.old B5
 refine s_put F rfl rfl flat3 m3 (by simp) rfl fun w6 m3 o7 => ?_
 have so7 := o7.size
 have hB := hB.trans (o7.below (by omega))
 have m1 := m1.only o7 (by omega)
 refine s_end (K2 _ _ ?_)
 refine wp_rs fun _ K3 => F.vl (x_ldW wide24 m1 rfl rfl) fun a F => ?_
 refine s_call (R := fun u w' => (u = .bool (decide ((chk 256 1099511627776 1001 1 1000 l).1 = 0)) ∧ ((chk 256 1099511627776 1001 1 1000 l).1 = 0 → Blk w' b3 3 [.int .i64 (1000 - ((chk 256 1099511627776 1001 1 1000 l).2 : Int))])) ∧ Ktw b3 b3 w6 w') F [_, _, _] E87 rfl (by decide) (rsound39 w0 b3 (by omega) x l hL 1 1000 w6 (by decide) (by decide) (by decide) hB m3) ?_
 rintro _ w8 a ⟨⟨rfl, _⟩, k9⟩ F
 have sk9 := k9.size
 have hB := k9.under hB (by omega)
 refine F.sg rfl fun a F => ?_
 refine s_end (K3 _ _ ?_)
 refine wp_ret (res_slot F rfl rfl ⟨rfl, hB⟩)
/-- Its numbers are small. -/
def SL.lit : SL → Prop
 | .num n => n ≤ 1048576
 | .var _ => True
 | .succ n a => n ≤ 1048576 ∧ a.lit
 | .mx a b => a.lit ∧ b.lit
theorem rd_row1 {W : World} {v : Value} {y : C3} (h : Rd W v 3 1 (lc y)) : ∃ b off c, v = .slice (some ⟨b, off, none⟩) 1 c ∧ ∀ W', Below W.heap.size W W' → ∀ j u, (lc y)[j]? = some u → W'.cell? ((⟨b, off + 0 * 3, none⟩ : Addr).add j) = some u := by
 obtain ⟨b, off, c, x, h1, h2, h3⟩ := rd_row3 (xs := [y]) (by simpa using h) (i := 0) (by simp)
 simp at h2
 subst h2
 exact ⟨b, off, c, h1, h3⟩
theorem rd_row2 {W : World} {v : Value} {y z : C3} (h : Rd W v 3 2 (lc y ++ lc z)) : ∃ b off c, v = .slice (some ⟨b, off, none⟩) 2 c ∧ (∀ W', Below W.heap.size W W' → ∀ j u, (lc y)[j]? = some u → W'.cell? ((⟨b, off + 0 * 3, none⟩ : Addr).add j) = some u) ∧ (∀ W', Below W.heap.size W W' → ∀ j u, (lc z)[j]? = some u → W'.cell? ((⟨b, off + 1 * 3, none⟩ : Addr).add j) = some u) := by
 obtain ⟨b, off, c, x, h1, h2, h3⟩ := rd_row3 (xs := [y, z]) (by simpa using h) (i := 0) (by simp)
 obtain ⟨b', off', c', x', h4, h5, h6⟩ := rd_row3 (xs := [y, z]) (by simpa using h) (i := 1) (by simp)
 simp at h2 h5
 subst h2 h5
 rw [h1] at h4
 cases h4
 exact ⟨b, off, c, h1, h3, h6⟩
theorem RS.one1 {W : World} {s : SL} {x : C3} (h : RS W s x) : x.2.2.oneCell' = true := by
 obtain ⟨_, _, h⟩ := h.slice
 exact h.one
/-- A level of the four kinds: its kids as a list. -/
def SL.kids : SL → List SL
 | .num _ => []
 | .var _ => []
 | .succ _ a => [a]
 | .mx a b => [a, b]
theorem RS.kids {W : World} : ∀ {s : SL} {x : C3}, RS W s x → ∃ xs : List C3, Rd W x.2.2 3 xs.length (xs.flatMap lc) ∧ xs.length = s.kids.length ∧ ∀ (i : Nat) y t, xs[i]? = some y → s.kids[i]? = some t → RS W t y
 | .num _, x, h => ⟨[], by simpa using h.2.2, rfl, fun i y t h1 => by simp at h1⟩
 | .var _, x, h => ⟨[], by simpa using h.2.2, rfl, fun i y t h1 => by simp at h1⟩
 | .succ _ a, x, ⟨_, _, y, h1, h2⟩ => ⟨[y], by simpa using h1, rfl, fun i z t e1 e2 => by
  rcases i with _ | i
  ·
   simp [SL.kids] at e1 e2; subst e1 e2; exact h2
  ·
   simp at e1⟩
 | .mx a b, x, ⟨_, y, z, h1, h2, h3⟩ => ⟨[y, z], by simpa using h1, rfl, fun i u t e1 e2 => by
  rcases i with _ | _ | i
  ·
   simp [SL.kids] at e1 e2; subst e1 e2; exact h2
  ·
   simp [SL.kids] at e1 e2; subst e1 e2; exact h3
  ·
   simp at e1⟩
theorem SL.kids_le (s : SL) : s.kids.length ≤ 2 := by cases s <;> simp [SL.kids]
end Go.Proofs.Ytmkjhdiepkpdoaa

namespace Go.Proofs.Ytmkjhdiepkpdoaa
open Go.RowKit Go.Shelf
set_option linter.unusedVariables false
set_option linter.unusedSimpArgs false
def rho (vs : List Int) (i : Nat) : Int := max 0 (min (vs.getD i 0) 1099511627776)
def val : SL → (Nat → Int) → Int
 | .num n, _ => n
 | .var i, ρ => ρ i
 | .succ n a, ρ => cut (n + val a ρ)
 | .mx a b, ρ => max (val a ρ) (val b ρ)
end Go.Proofs.Ytmkjhdiepkpdoaa

namespace Go.Proofs.Ytmkjhdiepkpdoaa
open Go.RowKit Go.Shelf
set_option linter.unusedVariables false
set_option linter.unusedSimpArgs false
/-- A form (of type t) that lies in block g; its slice v lies in block o, if it has one. -/
structure FA (t base : Nat) (w : World) (g o : Nat) (v : Value) (c : Int) (ks : List Int) : Prop where
 blk : Blk w g t [.int .i64 c, v]
 own : w.ownsRow base 3 1 v ks.length (ints ks)
 at' : ∀ j, v.ownBlock = some j → j = o
 ne : v.ownBlock ≠ some g
 lo : base ≤ o ∧ base ≤ g ∧ o < w.heap.size
section
variable {t base : Nat} {w w' : World} {g o : Nat} {v : Value} {c : Int} {ks : List Int}
theorem FA.below (h : FA t base w g o v c ks) (hB : Below w.heap.size w w') : FA t base w' g o v c ks := ⟨h.blk.old hB, own_below h.own hB, h.at', h.ne, by have := h.lo; have := hB.size; omega⟩
theorem FA.only {k : Nat} (h : FA t base w g o v c ks) (hO : Only k w w') (hk : k ≠ g ∧ k ≠ o) : FA t base w' g o v c ks := ⟨h.blk.only hO (by omega), own_only h.own hO (fun e => by have := h.at' _ e; omega), h.at', h.ne, by have := h.lo; have := hO.size; omega⟩
theorem FA.k2 {a b : Nat} (h : FA t base w g o v c ks) (hK : Ktw a b w w') (hk : g ≠ a ∧ g ≠ b ∧ o ≠ a ∧ o ≠ b) : FA t base w' g o v c ks := ⟨h.blk.k2 hK (by omega), own_k2 h.own hK (fun c hc => by have := h.at' c hc; omega), h.at', h.ne, by have := h.lo; have := hK.size; omega⟩
theorem FA.form (h : FA t base w g o v c ks) : ∃ a cp, v = .slice a ks.length cp ∧ ks.length ≤ cp := by
 obtain ⟨a, cp, h1, h2, _⟩ := (Rd.own h.own).form
 exact ⟨a, cp, h1, h2⟩
theorem FA.rd (h : FA t base w g o v c ks) : Rd w v 1 ks.length (ints ks) := Rd.own h.own
theorem FA.lt (h : FA t base w g o v c ks) : g < w.heap.size := h.blk.lt
theorem FA.start (hB : Blk w g t [.int .i64 c, .slice none 0 0]) (hb : base ≤ g) : FA t base w g g (.slice none 0 0) c [] :=
 ⟨hB, World.ownsRow_nil _ _ _ _, (fun j h => by cases h), (fun h => by cases h), ⟨hb, hb, hB.lt⟩⟩
end
theorem ints_app (ks : List Int) (z : Int) : ints (ks ++ [z]) = ints ks ++ [.int .i64 z] := by simp
theorem ints_set (ks : List Int) (i : Nat) (z : Int) : ints (ks.set i z) = (ints ks).set i (.int .i64 z) := List.map_set
theorem rc_bd {s : SL} {n c : Int} (hn : 0 ≤ n) (h1 : n ≤ 1099511627776) (hc : 0 ≤ c) (h2 : c ≤ 1099511627776) : 0 ≤ rc s n c ∧ rc s n c ≤ 1099511627776 := by
 rw [rc_eq s n c hn (by omega)]
 have := cf_hi s n h1
 omega
end Go.Proofs.Ytmkjhdiepkpdoaa

namespace Go.Proofs.Ytmkjhdiepkpdoaa
set_option maxRecDepth 100000
set_option maxHeartbeats 1600000
open Go.RowKit Go.Shelf
set_option linter.unusedVariables false
set_option linter.unusedSimpArgs false
theorem raiseVar48 (base g o : Nat) (v : Value) (c : Int) (ks : List Int) (i : Nat) (k : Int) (w1 : World) (hA : FA 119 base w1 g o v c ks) (hi : i ≤ 2000) (hks : ks.length ≤ 3000) :
    Calls Try.prog 103 #[.pointer (some ⟨g, 0, none⟩), .int .i64 (i : Int), .int .i64 k] w1 fun e w' => ∃ u, e = .returned u ∧ (u = .tuple #[] ∧ ∃ v' o', FA 119 base w' g o' v' c (up ks i k) ∧ (o' = o ∨ w1.heap.size ≤ o')) ∧ Ktw g o w1 w' := by
  have hK := Ktw.refl g o w1
  refine calls_fs 37 [(0, .pointer (some ⟨g, 0, none⟩)), (1, .int .i64 (i : Int)), (2, .int .i64 k)] Try.func103 rfl rfl rfl rfl rfl fun a F => ?_
  refine wp_seq_k fun _ K1 => ?_
  refine wp_block ?_
  refine wp_up (i + 1 - ks.length) (fun j a w => ∃ v' o', FA 119 base w g o' v' c (ks ++ List.replicate j (-1)) ∧ (o' = o ∨ w1.heap.size ≤ o') ∧ Ktw g o w1 w ∧ Fs 37 a [(0, .pointer (some ⟨g, 0, none⟩)), (1, .int .i64 (i : Int)), (2, .int .i64 k)]) ⟨v, o, by simpa using hA, .inl rfl, hK, F.sub _ rfl⟩ ?_
  clear F hK hA
  rintro j a w hj ⟨v2, o2, hA, ho2, hK, F⟩ K' hK'
  have sK := hK.size
  obtain ⟨L, hL⟩ : ∃ L, L = ks ++ List.replicate j (-1) := ⟨_, rfl⟩
  rw [← hL] at hA
  have hLl : L.length = ks.length + j := by rw [hL]; simp
  obtain ⟨av, cv, rfl, hcv⟩ := hA.form
  have mg := hA.blk
  have hO := hA.own
  have hat := hA.at'
  have hne := hA.ne
  have hlo := hA.lo
  have hgl := mg.lt
  refine wp_seq_k fun _ K2 => ?_
  refine wp_rs fun _ K3 => F.mv rfl fun a F => F.vl (x_nil rfl) fun a F => F.vl (x_fa0 fa59_1 rfl) fun a F => F.ld mg flat29 rfl rfl fun a F => F.vl (x_len Try.underlying117 rfl) fun a F => F.mv rfl fun a F => F.vl (x_leq (b := decide (L.length ≤ i)) (decide_eq_decide.2 (by omega)) rfl rfl) fun a F => ?_
  refine s_end (K3 _ _ ?_)
  refine wp_iff F rfl (fun hc12 => ?_) (fun hc12 => ?_)
  · refine wp_skip (K2 _ _ ?_)
    refine wp_block ?_
    refine wp_region_lit ?_
    refine F.mv rfl fun a F => F.mv rfl fun a F => F.vl (x_nil rfl) fun a F => F.vl (x_fa0 fa59_1 rfl) fun a F => F.ld mg flat29 rfl rfl fun a F => ?_
    refine s_litG [.int .i64 (-1)] el29 F (by decide) rfl (by simp [Value.cells]) rfl (by decide) (by decide) fun w2 bl a ebl ml B3 zbl F => ?_
    have sB3 := B3.size
    have hK := hK.below B3
    have mg := mg.old B3
    have hO := own_below hO B3
    have ml : Blk w2 bl 3 [.int .i64 (-1)] := by simpa [Value.cells] using ml
    refine s_app1 (o := o2) el29 F (by decide) rfl rfl hO ml rfl (by simp [Value.oneCell']) hat (by omega) (by omega) (by decide) (by omega) fun v3 w4 a o3 hOn hOatn how hsrc k5 hkeep F => ?_
    have sk5 := k5.size
    have hK := hK.trans k5 (by omega)
    have mg := (hkeep _ mg.lt hne).trans mg
    have hO := hOn
    have hO_at := hOatn
    have hneg : v3.ownBlock ≠ some g := fun h => by rcases hsrc g h with h | h; exact hne h; omega
    refine F.vl (x_nil rfl) fun a F => F.vl (x_fa0 fa59_1 rfl) fun a F => ?_
    refine s_put F rfl rfl flat29 mg (by simp) (Rd.own hO).one fun w6 mg o7 => ?_
    have so7 := o7.size
    have hK := hK.only o7 (by omega)
    have hO := own_only hO o7 (hneg)
    have hL2 : ks ++ List.replicate (j + 1) (-1) = L ++ [-1] := by rw [hL, List.append_assoc, ← List.replicate_succ']
    refine s_end (hK' _ _ (by omega) ⟨v3, o3, ⟨mg, by rw [hL2, ints_app]; simpa using hO, hO_at, hneg, by omega⟩, by omega, hK, F.sub _ rfl⟩)
  · have hjj : j = i + 1 - ks.length := by omega
    obtain ⟨o4, cap, cur, hve, hb4, mo, hc1, hc2, hc3, hc4⟩ := own_blk hO (by omega)
    cases hve
    obtain rfl : o4 = o2 := hat _ rfl
    have hgo : g ≠ o4 := fun e => hne (by rw [e]; rfl)
    rw [Nat.mul_one] at hc3 hc4
    have hcur : cur[i]? = some (.int .i64 (gt L i)) := by
      have : (cur.take L.length)[i]? = some (.int .i64 (gt L i)) := by rw [hc4, List.getElem?_map, List.getElem?_eq_getElem (by omega), gt_lt (by omega)]; rfl
      rwa [List.getElem?_take, if_pos (by omega)] at this
    have hLp : L = padL ks (i + 1) := by rw [hL, hjj]; rfl
    have mol := mo.lt
    refine wp_exit (K1 _ _ ?_)
    refine dk2_one (o4) (o4) (ops := regOps Try.f103 2) (N := 16) (by kernel_rfl) wide_orders (by kernel_rfl) fun w8 hw8 B9 hS K4 K4 => ?_
    have zw8 : w8.heap.size = w.heap.size := by rw [hw8]
    have sB9 := B9.size
    have hK := hK.below B9
    have mg := mg.old B9
    have mo := mo.old B9
    have mg_d := mg
    have mo_d := mo
    have hK_d := hK
    refine F.dv 0 22 (.move (.tmp 0)) hS (fun W hW => x_move rfl) fun a F => F.dv 1 23 (.nilCheck (.tmp 22)) hS (fun W hW => x_nil rfl) fun a F => F.dv 2 24 (.fieldAddr 119 (.tmp 23) 1) hS (fun W hW => x_fa0 fa59_1 rfl) fun a F => F.dv 3 25 (.load 117 (.tmp 24)) hS (fun W hW => x_load rfl (m_load flat29 ((mg_d.k2 hW (by omega)).cell (j := 1) rfl))) fun a F => F.dv 4 26 (.move (.tmp 1)) hS (fun W hW => x_move rfl) fun a F => F.dv 5 27 (.move (.tmp 0)) hS (fun W hW => x_move rfl) fun a F => F.dv 6 28 (.nilCheck (.tmp 27)) hS (fun W hW => x_nil rfl) fun a F => F.dv 7 29 (.fieldAddr 119 (.tmp 28) 1) hS (fun W hW => x_fa0 fa59_1 rfl) fun a F => F.dv 8 30 (.load 117 (.tmp 29)) hS (fun W hW => x_load rfl (m_load flat29 ((mg_d.k2 hW (by omega)).cell (j := 1) rfl))) fun a F => F.dv 9 31 (.move (.tmp 1)) hS (fun W hW => x_move rfl) fun a F => F.dv 10 32 (.indexAddr 117 (.tmp 30) (.tmp 31)) hS (fun W hW => x_ixa rfl rfl (m_ixs0 i Try.underlying117 el29.size rfl (by omega))) fun a F => F.dv 12 34 (.move (.tmp 2)) hS (fun W hW => x_move rfl) fun a F => ?_
    refine d1 11 (some 33) (.load 3 (.tmp 32)) fun ty pos af => ?_
    refine F.vl (x_load rfl (m_load flat3 (mo.cell (j := i) hcur))) fun a F => ?_
    refine s_end ⟨hS, ?_⟩
    refine F.dv 13 35 (.call (.mk (.builtin .max) #[(.tmp 33), (.tmp 34)] #[3, 3])) hS (fun W hW => x_imax rfl rfl) fun a F => F.dv 14 36 (.indexAddr 117 (.tmp 25) (.tmp 26)) hS (fun W hW => x_ixa rfl rfl (m_ixs0 i Try.underlying117 el29.size rfl (by omega))) fun a F => ?_
    refine d1 15 none (.store 3 (.tmp 36) (.tmp 35)) fun ty pos af => ?_
    refine s_put F rfl rfl flat3 mo (by omega) rfl fun wz mo oz => ?_
    have hK := hK.only oz (by omega)
    have mg := mg.only oz (by omega)
    have hS := hS.only oz (by omega)
    have szz := oz.size
    clear hO
    refine s_end ⟨hS, ?_⟩
    refine d_end (by kernel_rfl) (K4 _ _ ?_)
    show bodyPost Try.prog Try.f103 (_) .normal a wz
    refine post_normal (res_none F rfl ⟨_, rfl, ⟨rfl, .slice (some ⟨o4, 0, none⟩) L.length cv, o4, ⟨mg, ?_, fun j h => (Option.some.inj h).symm, fun h => hgo (Option.some.inj h).symm, by omega⟩, ho2⟩, hK⟩)
    have hup : up ks i k = L.set i (max (gt L i) k) := by rw [up, hLp, gt_pad]
    have hul : (up ks i k).length = L.length := by rw [hup, List.length_set]
    have := own_of (k := 1) (n := L.length) (xs := ints (up ks i k)) hb4 mo hc1 hc2 (by rw [List.length_set]; omega) (by rw [Nat.mul_one, List.take_set, hc4, hup, ints_set])
    rw [hul]
    exact this
theorem raise59 (w0 : World) (g : Nat) : ∀ (s : SL) (x : C3), RS w0 s x → s.nums 1099511627776 1001 → ∀ (n : Int) (o : Nat) (v : Value) (c : Int) (ks : List Int) (w1 : World), 0 ≤ n → n ≤ 1099511627776 → 0 ≤ c → c ≤ 1099511627776 → ks.length ≤ 1001 → Below w0.heap.size w0 w1 → FA 119 w0.heap.size w1 g o v c ks →
    Calls Try.prog 132 #[.pointer (some ⟨g, 0, none⟩), lv x, .int .i64 n] w1 fun e w' => ∃ u, e = .returned u ∧ (u = .tuple #[] ∧ ∃ v' o', FA 119 w0.heap.size w' g o' v' (rc s n c) (rk s n ks) ∧ (o' = o ∨ w1.heap.size ≤ o')) ∧ Ktw g o w1 w' := by
  intro s
  induction s with
  | num p =>
    rintro ⟨k, m, vx⟩ hS0 hnm n o v c ks w1 hn0 hn1 hc0 hc1 hkl hB hA
    have hK := Ktw.refl g o w1
    have sB := hB.size
    have hlo := hA.lo
    have hgl := hA.lt
    obtain ⟨h1, h2, h3⟩ := hS0
    simp only at h1 h2
    subst h1 h2
    have hp : p ≤ 1099511627776 := hnm
    have mg := hA.blk
    have hO := hA.own
    have hat := hA.at'
    have hne := hA.ne
    refine calls_fs 57 [(0, .pointer (some ⟨g, 0, none⟩)), (1, .agg [.int .i64 1, .int .i64 (p : Int), vx].toArray), (2, .int .i64 n)] Try.func132 rfl rfl rfl rfl rfl fun a F => ?_
    refine wp_rs fun _ K1 => ?_
    refine s_box ([.int .i64 1, .int .i64 (p : Int), vx]) F (by decide) rfl rfl fun w2 b4 a eb4 m4 B3 zb4 F => ?_
    have sB3 := B3.size
    have hB := bt hB B3
    have hK := hK.below B3
    have mg := mg.old B3
    have hO := own_below hO B3
    refine s_end (K1 _ _ ?_)
    refine wp_rs fun _ K2 => F.vl (x_fa0 fa24_0 rfl) fun a F => F.ld m4 flat3 rfl rfl fun a F => ?_
    refine s_end (K2 _ _ ?_)
    refine wp_block ?_
    refine wp_rs fun _ K3 => F.vl (eqlT (by omega) rfl rfl) fun a F => F.sg rfl fun a F => ?_
    refine s_end (K3 _ _ ?_)
    refine wp_if F rfl ?_
    refine dk2_one (g) (g) (ops := regOps Try.f132 3) (N := 13) (by kernel_rfl) wide_orders (by kernel_rfl) fun w4 hw4 B5 hS K4 K4 => ?_
    have zw4 : w4.heap.size = w2.heap.size := by rw [hw4]
    have sB5 := B5.size
    have hB := bt hB B5
    have hK := hK.below B5
    have mg := mg.old B5
    have hO := own_below hO B5
    have m4 := m4.old B5
    have mg_d := mg
    have hO_d := hO
    have m4_d := m4
    have hB_d := hB
    have hK_d := hK
    refine F.dv 0 10 (.move (.tmp 0)) hS (fun W hW => x_move rfl) fun a F => F.dv 1 11 (.move (.tmp 0)) hS (fun W hW => x_move rfl) fun a F => F.dv 2 12 (.nilCheck (.tmp 11)) hS (fun W hW => x_nil rfl) fun a F => F.dv 3 13 (.fieldAddr 119 (.tmp 12) 0) hS (fun W hW => x_fa0 fa59_0 rfl) fun a F => F.dv 5 15 (.move (.tmp 2)) hS (fun W hW => x_move rfl) fun a F => F.dv 6 16 (.fieldAddr 24 (.tmp 4) 1) hS (fun W hW => x_fa0 fa24_1 rfl) fun a F => F.dv 7 17 (.load 3 (.tmp 16)) hS (fun W hW => x_load rfl (m_load flat3 ((m4_d.k2 hW (by omega)).cell (j := 1) rfl))) fun a F => ?_
    refine d_two 4 8 (by kernel_rfl) ?_ ?_
    · refine d_op 4 (some 14) (.load 3 (.tmp 13)) (by kernel_rfl) fun ty pos af => ?_
      refine F.ld mg flat3 rfl rfl fun a F => ?_
      refine s_end ⟨hS, ?_⟩
      refine d1 8 (some 18) (.call (.mk (.value (.func 133)) #[(.tmp 15), (.tmp 17)] #[3, 3])) fun ty pos af => ?_
      refine s_callS [_, _] F E133 rfl (by decide) (sum54 _ _ (by omega) (by omega) (by omega) (by omega) _) fun a F => ?_
      refine s_end ⟨hS, ?_⟩
      refine F.dv 9 19 (.call (.mk (.builtin .max) #[(.tmp 14), (.tmp 18)] #[3, 3])) hS (fun W hW => x_imax rfl rfl) fun a F => F.dv 10 20 (.nilCheck (.tmp 10)) hS (fun W hW => x_nil rfl) fun a F => F.dv 11 21 (.fieldAddr 119 (.tmp 20) 0) hS (fun W hW => x_fa0 fa59_0 rfl) fun a F => ?_
      refine d1 12 none (.store 3 (.tmp 21) (.tmp 19)) fun ty pos af => ?_
      refine s_put F rfl rfl flat3 mg (by simp) rfl fun w6 mg o7 => ?_
      have so7 := o7.size
      have hK := hK.only o7 (by omega)
      have hO := own_only hO o7 (hne)
      have hS := hS.only o7 (by omega)
      refine s_end ⟨hS, ?_⟩
      refine d_end (by kernel_rfl) (K4 _ _ ?_)
      show bodyPost Try.prog Try.f132 (fun e w' => ∃ u, e = .returned u ∧ (u = .tuple #[] ∧ ∃ v' o', FA 119 w0.heap.size w' g o' v' (rc (SL.num p) n c) (rk (SL.num p) n ks) ∧ (o' = o ∨ w1.heap.size ≤ o')) ∧ Ktw g o w1 w') .normal a w6
      refine post_normal (res_none F rfl ⟨_, rfl, ⟨rfl, _, _, ⟨mg, hO, hat, hne, by omega⟩, .inl rfl⟩, hK⟩)
    · refine d_op 8 (some 18) (.call (.mk (.value (.func 133)) #[(.tmp 15), (.tmp 17)] #[3, 3])) (by kernel_rfl) fun ty pos af => ?_
      refine s_callS [_, _] F E133 rfl (by decide) (sum54 _ _ (by omega) (by omega) (by omega) (by omega) _) fun a F => ?_
      refine s_end ⟨hS, ?_⟩
      refine d1 4 (some 14) (.load 3 (.tmp 13)) fun ty pos af => ?_
      refine F.ld mg flat3 rfl rfl fun a F => ?_
      refine s_end ⟨hS, ?_⟩
      refine F.dv 9 19 (.call (.mk (.builtin .max) #[(.tmp 14), (.tmp 18)] #[3, 3])) hS (fun W hW => x_imax rfl rfl) fun a F => F.dv 10 20 (.nilCheck (.tmp 10)) hS (fun W hW => x_nil rfl) fun a F => F.dv 11 21 (.fieldAddr 119 (.tmp 20) 0) hS (fun W hW => x_fa0 fa59_0 rfl) fun a F => ?_
      refine d1 12 none (.store 3 (.tmp 21) (.tmp 19)) fun ty pos af => ?_
      refine s_put F rfl rfl flat3 mg (by simp) rfl fun w8 mg o9 => ?_
      have so9 := o9.size
      have hK := hK.only o9 (by omega)
      have hO := own_only hO o9 (hne)
      have hS := hS.only o9 (by omega)
      refine s_end ⟨hS, ?_⟩
      refine d_end (by kernel_rfl) (K4 _ _ ?_)
      show bodyPost Try.prog Try.f132 (fun e w' => ∃ u, e = .returned u ∧ (u = .tuple #[] ∧ ∃ v' o', FA 119 w0.heap.size w' g o' v' (rc (SL.num p) n c) (rk (SL.num p) n ks) ∧ (o' = o ∨ w1.heap.size ≤ o')) ∧ Ktw g o w1 w') .normal a w8
      refine post_normal (res_none F rfl ⟨_, rfl, ⟨rfl, _, _, ⟨mg, hO, hat, hne, by omega⟩, .inl rfl⟩, hK⟩)
  | var i =>
    rintro ⟨k, m, vx⟩ hS0 hnm n o v c ks w1 hn0 hn1 hc0 hc1 hkl hB hA
    have hK := Ktw.refl g o w1
    have sB := hB.size
    have hlo := hA.lo
    have hgl := hA.lt
    obtain ⟨h1, h2, h3⟩ := hS0
    simp only at h1 h2
    subst h1 h2
    have hi : i < 1001 := hnm
    refine calls_fs 57 [(0, .pointer (some ⟨g, 0, none⟩)), (1, .agg [.int .i64 2, .int .i64 (i : Int), vx].toArray), (2, .int .i64 n)] Try.func132 rfl rfl rfl rfl rfl fun a F => ?_
    refine wp_rs fun _ K1 => ?_
    refine s_box ([.int .i64 2, .int .i64 (i : Int), vx]) F (by decide) rfl rfl fun w2 b4 a eb4 m4 B3 zb4 F => ?_
    have sB3 := B3.size
    have hK := hK.below B3
    have hA := hA.below B3
    refine s_end (K1 _ _ ?_)
    refine wp_rs fun _ K2 => F.vl (x_fa0 fa24_0 rfl) fun a F => F.ld m4 flat3 rfl rfl fun a F => ?_
    refine s_end (K2 _ _ ?_)
    refine wp_block ?_
    refine wp_rs fun _ K3 => F.vl (eqlF (by omega) rfl rfl) fun a F => F.sg rfl fun a F => ?_
    refine s_end (K3 _ _ ?_)
    refine wp_if F rfl ?_
    refine wp_rs fun _ K4 => F.vl (eqlT (by omega) rfl rfl) fun a F => F.sg rfl fun a F => ?_
    refine s_end (K4 _ _ ?_)
    refine wp_if F rfl ?_
    refine wp_region_lit ?_
    refine F.mv rfl fun a F => F.vl (x_fa0 fa24_1 rfl) fun a F => F.ld m4 flat3 rfl rfl fun a F => F.mv rfl fun a F => ?_
    refine s_call (R := fun u w' => (u = .tuple #[] ∧ ∃ v' o', FA 119 w0.heap.size w' g o' v' c (up ks i n) ∧ (o' = o ∨ w2.heap.size ≤ o')) ∧ Ktw g o w2 w') F [_, _, _] E103 rfl (by decide) (raiseVar48 w0.heap.size g o v c ks i n w2 hA (by omega) (by omega)) ?_
    rintro _ w4 a ⟨⟨rfl, v2, o2, hA, ho2⟩, k5⟩ F
    have sk5 := k5.size
    have hK := hK.trans k5 (by omega)
    refine s_end ?_
    show bodyPost Try.prog Try.f132 (fun e w' => ∃ u, e = .returned u ∧ (u = .tuple #[] ∧ ∃ v' o', FA 119 w0.heap.size w' g o' v' (rc (SL.var i) n c) (rk (SL.var i) n ks) ∧ (o' = o ∨ w1.heap.size ≤ o')) ∧ Ktw g o w1 w') .normal a w4
    refine post_normal (res_none F rfl ⟨_, rfl, ⟨rfl, _, _, hA, by omega⟩, hK⟩)
  | succ p sa iha =>
    rintro ⟨k, m, vx⟩ hS0 hnm n o v c ks w1 hn0 hn1 hc0 hc1 hkl hB hA
    have hK := Ktw.refl g o w1
    have sB := hB.size
    have hlo := hA.lo
    have hgl := hA.lt
    obtain ⟨h1, h2, y, h3, hy⟩ := hS0
    simp only at h1 h2 h3
    subst h1 h2
    have hp1 := hnm.1
    have hp2 := hnm.2.1
    obtain ⟨b, off, cp, rfl, hrow⟩ := rd_row1 h3
    refine calls_fs 57 [(0, .pointer (some ⟨g, 0, none⟩)), (1, .agg [.int .i64 3, .int .i64 (p : Int), .slice (some ⟨b, off, none⟩) 1 cp].toArray), (2, .int .i64 n)] Try.func132 rfl rfl rfl rfl rfl fun a F => ?_
    refine wp_rs fun _ K1 => ?_
    refine s_box ([.int .i64 3, .int .i64 (p : Int), .slice (some ⟨b, off, none⟩) 1 cp]) F (by decide) rfl rfl fun w2 b4 a eb4 m4 B3 zb4 F => ?_
    have sB3 := B3.size
    have hB := bt hB B3
    have hK := hK.below B3
    have hA := hA.below B3
    refine s_end (K1 _ _ ?_)
    refine wp_rs fun _ K2 => F.vl (x_fa0 fa24_0 rfl) fun a F => F.ld m4 flat3 rfl rfl fun a F => ?_
    refine s_end (K2 _ _ ?_)
    refine wp_block ?_
    refine wp_rs fun _ K3 => F.vl (eqlF (by omega) rfl rfl) fun a F => F.sg rfl fun a F => ?_
    refine s_end (K3 _ _ ?_)
    refine wp_if F rfl ?_
    refine wp_rs fun _ K4 => F.vl (eqlF (by omega) rfl rfl) fun a F => F.sg rfl fun a F => ?_
    refine s_end (K4 _ _ ?_)
    refine wp_if F rfl ?_
    refine wp_rs fun _ K5 => F.vl (eqlT (by omega) rfl rfl) fun a F => F.sg rfl fun a F => ?_
    refine s_end (K5 _ _ ?_)
    refine wp_if F rfl ?_
    refine dk2_one (g) (o) (ops := regOps Try.f132 7) (N := 10) (by kernel_rfl) wide_orders (by kernel_rfl) fun w4 hw4 B5 hS K6 K6 => ?_
    have zw4 : w4.heap.size = w2.heap.size := by rw [hw4]
    have sB5 := B5.size
    have hB := bt hB B5
    have hK := hK.below B5
    have hA := hA.below B5
    have m4 := m4.old B5
    have hA_d := hA
    have m4_d := m4
    have hB_d := hB
    have hK_d := hK
    refine F.dv 0 31 (.move (.tmp 0)) hS (fun W hW => x_move rfl) fun a F => F.dv 1 32 (.fieldAddr 24 (.tmp 4) 2) hS (fun W hW => x_fa0 fa24_2 rfl) fun a F => F.dv 2 33 (.load 22 (.tmp 32)) hS (fun W hW => x_load rfl (m_load flat22 ((m4_d.k2 hW (by omega)).cell (j := 2) rfl))) fun a F => F.dv 3 34 (.indexAddr 22 (.tmp 33) (.const (.int .i64 0))) hS (fun W hW => x_ixa rfl rfl (m_ixsK 0 Try.underlying22 el22.size rfl (by omega))) fun a F => F.dv 4 35 (.load 24 (.tmp 34)) hS (fun W hW => x_ldA wide24 (hrow _ (hW.under hB_d (by omega))) rfl rfl) fun a F => F.dv 5 36 (.move (.tmp 2)) hS (fun W hW => x_move rfl) fun a F => F.dv 6 37 (.fieldAddr 24 (.tmp 4) 1) hS (fun W hW => x_fa0 fa24_1 rfl) fun a F => F.dv 7 38 (.load 3 (.tmp 37)) hS (fun W hW => x_load rfl (m_load flat3 ((m4_d.k2 hW (by omega)).cell (j := 1) rfl))) fun a F => ?_
    refine d1 8 (some 39) (.call (.mk (.value (.func 133)) #[(.tmp 36), (.tmp 38)] #[3, 3])) fun ty pos af => ?_
    refine s_callS [_, _] F E133 rfl (by decide) (sum54 _ _ (by omega) (by omega) (by omega) (by omega) _) fun a F => ?_
    refine s_end ⟨hS, ?_⟩
    refine d1 9 (some 40) (.call (.mk (.value (.func 132)) #[(.tmp 31), (.tmp 35), (.tmp 39)] #[144, 24, 3])) fun ty pos af => ?_
    refine s_call (R := fun u w' => (u = .tuple #[] ∧ ∃ v' o', FA 119 w0.heap.size w' g o' v' (rc sa (cut (n + (p : Int))) (c)) (rk sa (cut (n + (p : Int))) (ks)) ∧ (o' = o ∨ w4.heap.size ≤ o')) ∧ Ktw g o w4 w') F [_, _, _] E132 rfl (by decide) (iha _ hy hnm.2.2 (cut (n + (p : Int))) _ _ (c) (ks) w4 (cut_nn (by omega)) (cut_le _) hc0 hc1 hkl hB hA) ?_
    rintro _ w6 a ⟨⟨rfl, v2, o2, hA, ho2⟩, k7⟩ F
    have sk7 := k7.size
    have hK := hK.trans k7 (by omega)
    have hS := hS.trans k7 (by omega)
    refine s_end ⟨hS, ?_⟩
    refine d_end (by kernel_rfl) (K6 _ _ ?_)
    show bodyPost Try.prog Try.f132 (fun e w' => ∃ u, e = .returned u ∧ (u = .tuple #[] ∧ ∃ v' o', FA 119 w0.heap.size w' g o' v' (rc (SL.succ p sa) n c) (rk (SL.succ p sa) n ks) ∧ (o' = o ∨ w1.heap.size ≤ o')) ∧ Ktw g o w1 w') .normal a w6
    refine post_normal (res_none F rfl ⟨_, rfl, ⟨rfl, _, _, hA, by omega⟩, hK⟩)
  | mx sa sb iha ihb =>
    rintro ⟨k, m, vx⟩ hS0 hnm n o v c ks w1 hn0 hn1 hc0 hc1 hkl hB hA
    have hK := Ktw.refl g o w1
    have sB := hB.size
    have hlo := hA.lo
    have hgl := hA.lt
    obtain ⟨h1, y, z, h3, hy, hz⟩ := hS0
    simp only at h1 h3
    subst h1
    obtain ⟨b, off, cp, rfl, hrow1, hrow2⟩ := rd_row2 h3
    refine calls_fs 57 [(0, .pointer (some ⟨g, 0, none⟩)), (1, .agg [.int .i64 4, .int .i64 m, .slice (some ⟨b, off, none⟩) 2 cp].toArray), (2, .int .i64 n)] Try.func132 rfl rfl rfl rfl rfl fun a F => ?_
    refine wp_rs fun _ K1 => ?_
    refine s_box ([.int .i64 4, .int .i64 m, .slice (some ⟨b, off, none⟩) 2 cp]) F (by decide) rfl rfl fun w2 b4 a eb4 m4 B3 zb4 F => ?_
    have sB3 := B3.size
    have hB := bt hB B3
    have hK := hK.below B3
    have hA := hA.below B3
    refine s_end (K1 _ _ ?_)
    refine wp_rs fun _ K2 => F.vl (x_fa0 fa24_0 rfl) fun a F => F.ld m4 flat3 rfl rfl fun a F => ?_
    refine s_end (K2 _ _ ?_)
    refine wp_block ?_
    refine wp_rs fun _ K3 => F.vl (eqlF (by omega) rfl rfl) fun a F => F.sg rfl fun a F => ?_
    refine s_end (K3 _ _ ?_)
    refine wp_if F rfl ?_
    refine wp_rs fun _ K4 => F.vl (eqlF (by omega) rfl rfl) fun a F => F.sg rfl fun a F => ?_
    refine s_end (K4 _ _ ?_)
    refine wp_if F rfl ?_
    refine wp_rs fun _ K5 => F.vl (eqlF (by omega) rfl rfl) fun a F => F.sg rfl fun a F => ?_
    refine s_end (K5 _ _ ?_)
    refine wp_if F rfl ?_
    refine wp_rs fun _ K6 => F.vl (eqlT (by omega) rfl rfl) fun a F => F.sg rfl fun a F => ?_
    refine s_end (K6 _ _ ?_)
    refine wp_if F rfl ?_
    refine wp_rs fun _ K7 => F.mv rfl fun a F => F.vl (x_fa0 fa24_2 rfl) fun a F => F.ld m4 flat22 rfl rfl fun a F => F.vl (x_ixa rfl rfl (m_ixsK 0 Try.underlying22 el22.size rfl (by omega))) fun a F => F.vl (x_ldA wide24 (hrow1 _ hB) rfl rfl) fun a F => F.mv rfl fun a F => ?_
    refine s_call (R := fun u w' => (u = .tuple #[] ∧ ∃ v' o', FA 119 w0.heap.size w' g o' v' (rc sa (n) (c)) (rk sa (n) (ks)) ∧ (o' = o ∨ w2.heap.size ≤ o')) ∧ Ktw g o w2 w') F [_, _, _] E132 rfl (by decide) (iha _ hy hnm.1 (n) _ _ (c) (ks) w2 hn0 hn1 hc0 hc1 hkl hB hA) ?_
    rintro _ w4 a ⟨⟨rfl, v2, o2, hA, ho2⟩, k5⟩ F
    have sk5 := k5.size
    have hB := k5.under hB (by omega)
    have hK := hK.trans k5 (by omega)
    have m4 := m4.k2 k5 (by omega)
    have hlo2 := hA.lo
    have hgl2 := hA.lt
    have hbd := rc_bd (s := sa) hn0 hn1 hc0 hc1
    refine s_end (K7 _ _ ?_)
    refine wp_region_lit ?_
    refine F.mv rfl fun a F => F.vl (x_fa0 fa24_2 rfl) fun a F => F.ld m4 flat22 rfl rfl fun a F => F.vl (x_ixa rfl rfl (m_ixsK 1 Try.underlying22 el22.size rfl (by omega))) fun a F => F.vl (x_ldA wide24 (hrow2 _ hB) rfl rfl) fun a F => F.mv rfl fun a F => ?_
    refine s_call (R := fun u w' => (u = .tuple #[] ∧ ∃ v' o', FA 119 w0.heap.size w' g o' v' (rc sb (n) (rc sa n c)) (rk sb (n) (rk sa n ks)) ∧ (o' = o2 ∨ w4.heap.size ≤ o')) ∧ Ktw g o2 w4 w') F [_, _, _] E132 rfl (by decide) (ihb _ hz hnm.2 (n) _ _ (rc sa n c) (rk sa n ks) w4 hn0 hn1 hbd.1 hbd.2 (rk_len sa n ks 1001 hnm.1 hkl) hB hA) ?_
    rintro _ w6 a ⟨⟨rfl, v3, o3, hA, ho3⟩, k7⟩ F
    have sk7 := k7.size
    have hK := hK.trans k7 (by omega)
    refine s_end ?_
    show bodyPost Try.prog Try.f132 (fun e w' => ∃ u, e = .returned u ∧ (u = .tuple #[] ∧ ∃ v' o', FA 119 w0.heap.size w' g o' v' (rc (SL.mx sa sb) n c) (rk (SL.mx sa sb) n ks) ∧ (o' = o ∨ w1.heap.size ≤ o')) ∧ Ktw g o w1 w') .normal a w6
    refine post_normal (res_none F rfl ⟨_, rfl, ⟨rfl, _, _, hA, by omega⟩, hK⟩)
theorem max63 (ks : List Int) (v : Value) (w0 : World) (hn : 0 < ks.length) (hl : ks.length ≤ 9223372036854775807) (hLo : Lo ks) (hV : Rd w0 v 1 ks.length (ints ks)) : Calls Try.prog 134 #[v] w0 fun e w' => e = .returned (.int .i64 (mxl ks)) ∧ w' = w0 := by
 obtain ⟨b, off, cv, hve, hrow0⟩ := rd_rowI hV (i := 0) hn
 subst hve
 have hBr := Below.refl w0.heap.size w0
 have h0 := hLo.gt 0
 refine calls_fs 25 [(0, .slice (some ⟨b, off, none⟩) ks.length cv)] Try.func134 rfl rfl rfl rfl rfl fun a F => ?_
 refine wp_rs fun _ K1 => F.sg rfl fun a F => ?_
 refine s_end (K1 _ _ ?_)
 refine wp_seq_k fun _ K2 => ?_
 refine wp_rs fun _ K3 => F.mv rfl fun a F => F.vl (x_len Try.underlying117 rfl) fun a F => F.vl (lssF (by omega) rfl rfl) fun a F => ?_
 refine s_end (K3 _ _ ?_)
 refine wp_if F rfl ?_
 refine wp_skip (K2 _ _ ?_)
 refine wp_rs fun _ K4 => F.mv rfl fun a F => F.vl (x_ixa rfl rfl (m_ixs 0 Try.underlying117 el29.size rfl (by omega))) fun a F => F.vl (x_load rfl (m_load flat3 (hrow0 _ hBr))) fun a F => F.sg rfl fun a F => ?_
 refine s_end (K4 _ _ ?_)
 refine wp_seq_k fun _ K5 => ?_
 refine wp_rs fun _ K6 => F.sg rfl fun a F => ?_
 refine s_end (K6 _ _ ?_)
 refine wp_block ?_
 refine wp_up (ks.length - 1) (fun j a w => w = w0 ∧ Fs 25 a [(3, .int .i64 ((ks.take (j + 1)).foldl max (-1))), (4, .int .i64 ((j + 1 : Nat) : Int)), (0, .slice (some ⟨b, off, none⟩) ks.length cv)]) ⟨rfl, ?_⟩ ?_
 ·
  have e1 : (ks.take 1).foldl max (-1) = gt ks 0 := by rw [List.take_one, List.head?_eq_getElem?, List.getElem?_eq_getElem hn, gt_lt hn]; simp only [Option.toList_some, List.foldl_cons, List.foldl_nil]; rw [gt_lt hn] at h0; omega
  refine F.sub _ ?_
  show [_, _, _] = [_, _, _]
  rw [show (0 + 1 : Nat) = 1 from rfl, e1]
  rfl
 clear F
 rintro j a w hj ⟨rfl, F⟩ K' hK'
 refine wp_seq_k fun _ K7 => ?_
 refine wp_rs fun _ K8 => F.mv rfl fun a F => F.mv rfl fun a F => F.vl (x_len Try.underlying117 rfl) fun a F => F.vl (x_lss (b := decide (j + 1 < ks.length)) (decide_eq_decide.2 (by omega)) rfl rfl) fun a F => ?_
 refine s_end (K8 _ _ ?_)
 refine wp_iff F rfl (fun hc15 => ?_) (fun hc15 => ?_)
 ·
  obtain ⟨b2, off2, cv2, hve, hrow⟩ := rd_rowI hV (i := j + 1) (by omega)
  cases hve
  refine wp_skip (K7 _ _ ?_)
  refine wp_seq_k fun _ K9 => ?_
  refine wp_block ?_
  refine wp_region_lit ?_
  refine F.mv rfl fun a F => F.mv rfl fun a F => F.mv rfl fun a F => F.vl (x_ixa rfl rfl (m_ixs (j + 1) Try.underlying117 el29.size rfl (by omega))) fun a F => F.vl (x_load rfl (m_load flat3 (hrow _ hBr))) fun a F => F.vl (x_imax rfl rfl) fun a F => F.sg rfl fun a F => ?_
  refine s_end (K9 _ _ ?_)
  refine wp_region_lit ?_
  refine F.mv rfl fun a F => F.vl (x_addn (j + 1 + 1) (by omega) (by omega) rfl rfl) fun a F => F.sg rfl fun a F => ?_
  have e1 : (ks.take (j + 1 + 1)).foldl max (-1) = max ((ks.take (j + 1)).foldl max (-1)) (gt ks (j + 1)) := by rw [List.take_add_one, List.getElem?_eq_getElem (by omega), gt_lt (by omega), List.foldl_append]; rfl
  refine s_end (hK' _ _ (by omega) ⟨rfl, F.sub _ (by rw [e1]; rfl)⟩)
 ·
  refine wp_exit (K5 _ _ ?_)
  refine wp_rs fun _ K10 => F.mv rfl fun a F => F.sg rfl fun a F => ?_
  refine s_end (K10 _ _ ?_)
  refine wp_ret (res_slot F rfl rfl ⟨by rw [mxl, List.take_of_length_le (by omega)], rfl⟩)
theorem equal62 (ks ls : List Int) (v u : Value) (w0 : World) (hl : ks.length ≤ 9223372036854775807) (hV : Rd w0 v 1 ks.length (ints ks)) (hU : Rd w0 u 1 ls.length (ints ls)) : Calls Try.prog 172 #[v, u] w0 fun e w' => e = .returned (.bool (decide (ks = ls))) ∧ Below w0.heap.size w0 w' := by
 obtain ⟨av, cv, hve, _⟩ := hV.form
 obtain ⟨au, cu, hue, _⟩ := hU.form
 subst hve hue
 have hB := Below.refl w0.heap.size w0
 have sB := hB.size
 refine calls_fs 26 [(0, .slice av ks.length cv), (1, .slice au ls.length cu)] Try.func172 rfl rfl rfl rfl rfl fun a F => ?_
 refine wp_rs fun _ K1 => F.sg rfl fun a F => ?_
 refine s_end (K1 _ _ ?_)
 refine wp_seq_k fun _ K2 => ?_
 rcases (show ks.length ≠ ls.length ∨ ks.length = ls.length by omega) with hq | hq
 ·
  skip
  refine wp_rs fun _ K4 => F.mv rfl fun a F => F.vl (x_len Try.underlying117 rfl) fun a F => F.mv rfl fun a F => F.vl (x_len Try.underlying117 rfl) fun a F => F.vl (neqT (by omega) rfl rfl) fun a F => ?_
  refine s_end (K4 _ _ ?_)
  refine wp_if F rfl ?_
  refine wp_rs fun _ K5 => F.sg rfl fun a F => ?_
  refine s_end (K5 _ _ ?_)
  refine wp_ret (then_ret (res_slot F rfl rfl ⟨by rw [decide_eq_false (fun h => hq (by rw [h]))], hB⟩))
 ·
  skip
  refine wp_rs fun _ K6 => F.mv rfl fun a F => F.vl (x_len Try.underlying117 rfl) fun a F => F.mv rfl fun a F => F.vl (x_len Try.underlying117 rfl) fun a F => F.vl (neqF (by omega) rfl rfl) fun a F => ?_
  refine s_end (K6 _ _ ?_)
  refine wp_if F rfl ?_
  refine wp_skip (K2 _ _ ?_)
  refine wp_seq_k fun _ K7 => ?_
  refine wp_rs fun _ K8 => F.mv rfl fun a F => F.vl (x_len Try.underlying117 rfl) fun a F => F.mv rfl fun a F => ?_
  refine s_end (K8 _ _ ?_)
  refine wp_block ?_
  refine wp_up ks.length (fun i a w => ks.take i = ls.take i ∧ Below w0.heap.size w0 w ∧ Fs 26 a [(13, .int .i64 (i : Int)), (12, .int .i64 (ks.length : Int)), (0, .slice av ks.length cv), (1, .slice au ls.length cu)]) ⟨by simp, hB, F.sub _ rfl⟩ ?_
  clear F hB
  rintro i a w hi ⟨heq, hB, F⟩ K' hK'
  have sB := hB.size
  refine wp_rs fun _ K9 => F.vl (x_lss rfl rfl rfl) fun a F => ?_
  refine s_end (K9 _ _ ?_)
  refine wp_seq_k fun _ K10 => ?_
  refine wp_iff F rfl (fun hc14 => ?_) (fun hc14 => ?_)
  ·
   obtain ⟨b1, off1, c1, hve, hrow1⟩ := rd_rowI hV (i := i) (by omega)
   cases hve
   obtain ⟨b2, off2, c2, hve, hrow2⟩ := rd_rowI hU (i := i) (by omega)
   cases hve
   refine wp_skip (K10 _ _ ?_)
   refine wp_seq_k fun _ K11 => ?_
   refine wp_block ?_
   refine wp_rs fun _ K12 => F.mv rfl fun a F => F.sg rfl fun a F => ?_
   refine s_end (K12 _ _ ?_)
   refine dk2_seq (w.heap.size) (w.heap.size) (ops := regOps Try.f172 6) (N := 9) (by kernel_rfl) wide_orders (by kernel_rfl) fun w2 hw2 B3 hS K13 hK13 => ?_
   have zw2 : w2.heap.size = w.heap.size := by rw [hw2]
   have sB3 := B3.size
   have hB := bt hB B3
   have hB_d := hB
   refine F.dv 0 16 (.move (.tmp 0)) hS (fun W hW => x_move rfl) fun a F => F.dv 1 17 (.move (.tmp 5)) hS (fun W hW => x_move rfl) fun a F => F.dv 2 18 (.indexAddr 117 (.tmp 16) (.tmp 17)) hS (fun W hW => x_ixa rfl rfl (m_ixs i Try.underlying117 el29.size rfl (by omega))) fun a F => F.dv 3 19 (.load 3 (.tmp 18)) hS (fun W hW => x_load rfl (m_load flat3 (hrow1 _ (hW.under hB_d (by omega))))) fun a F => F.dv 4 20 (.move (.tmp 1)) hS (fun W hW => x_move rfl) fun a F => F.dv 5 21 (.move (.tmp 5)) hS (fun W hW => x_move rfl) fun a F => F.dv 6 22 (.indexAddr 117 (.tmp 20) (.tmp 21)) hS (fun W hW => x_ixa rfl rfl (m_ixs i Try.underlying117 el29.size rfl (by omega))) fun a F => F.dv 7 23 (.load 3 (.tmp 22)) hS (fun W hW => x_load rfl (m_load flat3 (hrow2 _ (hW.under hB_d (by omega))))) fun a F => F.dv 8 24 (.binOp .neq 3 (.tmp 19) (.tmp 23) 3) hS (fun W hW => x_neq rfl rfl rfl) fun a F => ?_
   refine d_end (by kernel_rfl) (hK13 _ _ ?_)
   refine wp_iff F rfl (fun hc24 => ?_) (fun hc24 => ?_)
   ·
    refine wp_rs fun _ K14 => F.sg rfl fun a F => ?_
    refine s_end (K14 _ _ ?_)
    refine wp_ret (inb_ret (then_ret (then_ret (inb_ret (then_ret (res_slot F rfl rfl ⟨by rw [decide_eq_false (fun h => hc24 (by rw [h]))], hB⟩))))))
   ·
    refine wp_skip (K11 _ _ ?_)
    refine wp_region_lit ?_
    refine F.vl (x_addn (i + 1) (by omega) (by omega) rfl rfl) fun a F => F.mv rfl fun a F => ?_
    have heq2 : ks.take (i + 1) = ls.take (i + 1) := by rw [List.take_add_one, List.take_add_one, heq, List.getElem?_eq_getElem (by omega), List.getElem?_eq_getElem (by omega)]; rw [gt_lt (by omega), gt_lt (by omega)] at hc24; rw [show ks[i] = ls[i] by omega]
    refine s_end (hK' _ _ (by omega) ⟨heq2, hB, F.sub _ rfl⟩)
  ·
   refine wp_exit (K7 _ _ ?_)
   refine wp_rs fun _ K15 => F.sg rfl fun a F => ?_
   refine s_end (K15 _ _ ?_)
   refine wp_ret (res_slot F rfl rfl ⟨by rw [decide_eq_true (show ks = ls by rw [← List.take_of_length_le (l := ks) (i := i) (by omega), ← List.take_of_length_le (l := ls) (i := i) (by omega)]; exact heq)], hB⟩)
theorem settle47 (base g o : Nat) (v : Value) (c : Int) (ks : List Int) (w1 : World) (hA : FA 119 base w1 g o v c ks) (hks : ks.length ≤ 3000) (hLo : Lo ks) (hc : 0 ≤ c) :
    Calls Try.prog 105 #[.pointer (some ⟨g, 0, none⟩)] w1 fun e w' => ∃ u, e = .returned u ∧ (u = .tuple #[] ∧ FA 119 base w' g o v (setl c ks) ks) ∧ Ktw g o w1 w' := by
  have hK := Ktw.refl g o w1
  have hlo := hA.lo
  obtain ⟨av, cv, rfl, hcv⟩ := hA.form
  have mg := hA.blk
  have hO := hA.own
  have hat := hA.at'
  have hne := hA.ne
  have hgl := mg.lt
  refine calls_fs 23 [(0, .pointer (some ⟨g, 0, none⟩))] Try.func105 rfl rfl rfl rfl rfl fun a F => ?_
  rcases (show ks.length = 0 ∨ (0 < ks.length ∧ c ≤ mxl ks) ∨ (0 < ks.length ∧ mxl ks < c) by omega) with hq | hq | hq
  · have hz : setl c ks = c := by rw [List.eq_nil_of_length_eq_zero hq]; have := setl_is c []; have h2 : mxl [] = -1 := rfl; omega
    refine dk2_seq (w1.heap.size) (w1.heap.size) (ops := regOps Try.f105 0) (N := 18) (by kernel_rfl) wide_orders (by kernel_rfl) fun w2 hw2 B3 hS K2 K2 => ?_
    have zw2 : w2.heap.size = w1.heap.size := by rw [hw2]
    have sB3 := B3.size
    have hK := hK.below B3
    have mg := mg.old B3
    have hO := own_below hO B3
    have mg_d := mg
    have hO_d := hO
    have hK_d := hK
    refine F.dv 0 2 (.move (.tmp 0)) hS (fun W hW => x_move rfl) fun a F => F.dv 1 3 (.nilCheck (.tmp 2)) hS (fun W hW => x_nil rfl) fun a F => F.dv 2 4 (.fieldAddr 119 (.tmp 3) 1) hS (fun W hW => x_fa0 fa59_1 rfl) fun a F => F.dv 3 5 (.load 117 (.tmp 4)) hS (fun W hW => x_load rfl (m_load flat29 ((mg_d.k2 hW (by omega)).cell (j := 1) rfl))) fun a F => F.dv 4 6 (.call (.mk (.builtin .len) #[(.tmp 5)] #[117])) hS (fun W hW => x_len Try.underlying117 rfl) fun a F => F.dv 5 7 (.binOp .gtr 3 (.tmp 6) (.const (.int .i64 0)) 3) hS (fun W hW => gtrF (by omega) rfl rfl) fun a F => F.dv 6 8 (.move (.tmp 7)) hS (fun W hW => x_move rfl) fun a F => d_skip 7 9 8 (j := 6) (want := true) (op := (.move (.tmp 0))) F hS (by kernel_rfl) (by kernel_rfl) rfl (by kernel_rfl) (by decide) fun a F => d_skip 8 10 8 (j := 6) (want := true) (op := (.nilCheck (.tmp 9))) F hS (by kernel_rfl) (by kernel_rfl) rfl (by kernel_rfl) (by decide) fun a F => d_skip 9 11 8 (j := 6) (want := true) (op := (.fieldAddr 119 (.tmp 10) 1)) F hS (by kernel_rfl) (by kernel_rfl) rfl (by kernel_rfl) (by decide) fun a F => d_skip 10 12 8 (j := 6) (want := true) (op := (.load 117 (.tmp 11))) F hS (by kernel_rfl) (by kernel_rfl) rfl (by kernel_rfl) (by decide) fun a F => d_skip 11 13 8 (j := 6) (want := true) (op := (.call (.mk (.value (.func 134)) #[(.tmp 12)] #[117]))) F hS (by kernel_rfl) (by kernel_rfl) rfl (by kernel_rfl) (by decide) fun a F => d_skip 12 14 8 (j := 6) (want := true) (op := (.move (.tmp 0))) F hS (by kernel_rfl) (by kernel_rfl) rfl (by kernel_rfl) (by decide) fun a F => d_skip 13 15 8 (j := 6) (want := true) (op := (.nilCheck (.tmp 14))) F hS (by kernel_rfl) (by kernel_rfl) rfl (by kernel_rfl) (by decide) fun a F => d_skip 14 16 8 (j := 6) (want := true) (op := (.fieldAddr 119 (.tmp 15) 0)) F hS (by kernel_rfl) (by kernel_rfl) rfl (by kernel_rfl) (by decide) fun a F => d_skip 15 17 8 (j := 6) (want := true) (op := (.load 3 (.tmp 16))) F hS (by kernel_rfl) (by kernel_rfl) rfl (by kernel_rfl) (by decide) fun a F => d_skip 16 18 8 (j := 6) (want := true) (op := (.binOp .geq 3 (.tmp 13) (.tmp 17) 3)) F hS (by kernel_rfl) (by kernel_rfl) rfl (by kernel_rfl) (by decide) fun a F => F.dv 17 19 (.pick (.tmp 8) (.tmp 18) (.const (.bool false))) hS (fun W hW => x_pick (b := false) rfl rfl) fun a F => ?_
    refine d_end (by kernel_rfl) (K2 _ _ ?_)
    refine wp_if F rfl ?_
    refine wp_skip ?_
    show bodyPost Try.prog Try.f105 (_) .normal a w2
    refine post_normal (res_none F rfl ⟨_, rfl, ⟨rfl, ⟨by rw [hz]; exact mg, hO, hat, hne, by have := hK.size; omega⟩⟩, hK⟩)
  · have hz : setl c ks = 0 := by have := setl_is c ks; omega
    refine dk2_seq (w1.heap.size) (w1.heap.size) (ops := regOps Try.f105 0) (N := 18) (by kernel_rfl) wide_orders (by kernel_rfl) fun w4 hw4 B5 hS K3 K3 => ?_
    have zw4 : w4.heap.size = w1.heap.size := by rw [hw4]
    have sB5 := B5.size
    have hK := hK.below B5
    have mg := mg.old B5
    have hO := own_below hO B5
    have mg_d := mg
    have hO_d := hO
    have hK_d := hK
    refine F.dv 0 2 (.move (.tmp 0)) hS (fun W hW => x_move rfl) fun a F => F.dv 1 3 (.nilCheck (.tmp 2)) hS (fun W hW => x_nil rfl) fun a F => F.dv 2 4 (.fieldAddr 119 (.tmp 3) 1) hS (fun W hW => x_fa0 fa59_1 rfl) fun a F => F.dv 3 5 (.load 117 (.tmp 4)) hS (fun W hW => x_load rfl (m_load flat29 ((mg_d.k2 hW (by omega)).cell (j := 1) rfl))) fun a F => F.dv 4 6 (.call (.mk (.builtin .len) #[(.tmp 5)] #[117])) hS (fun W hW => x_len Try.underlying117 rfl) fun a F => F.dv 5 7 (.binOp .gtr 3 (.tmp 6) (.const (.int .i64 0)) 3) hS (fun W hW => gtrT (by omega) rfl rfl) fun a F => F.dv 6 8 (.move (.tmp 7)) hS (fun W hW => x_move rfl) fun a F => F.dg 7 9 8 6 true (.move (.tmp 0)) hS rfl (fun W hW => x_move rfl) fun a F => F.dg 8 10 8 6 true (.nilCheck (.tmp 9)) hS rfl (fun W hW => x_nil rfl) fun a F => F.dg 9 11 8 6 true (.fieldAddr 119 (.tmp 10) 1) hS rfl (fun W hW => x_fa0 fa59_1 rfl) fun a F => F.dg 10 12 8 6 true (.load 117 (.tmp 11)) hS rfl (fun W hW => x_load rfl (m_load flat29 ((mg_d.k2 hW (by omega)).cell (j := 1) rfl))) fun a F => F.dg 12 14 8 6 true (.move (.tmp 0)) hS rfl (fun W hW => x_move rfl) fun a F => F.dg 13 15 8 6 true (.nilCheck (.tmp 14)) hS rfl (fun W hW => x_nil rfl) fun a F => F.dg 14 16 8 6 true (.fieldAddr 119 (.tmp 15) 0) hS rfl (fun W hW => x_fa0 fa59_0 rfl) fun a F => F.dg 15 17 8 6 true (.load 3 (.tmp 16)) hS rfl (fun W hW => x_load rfl (m_load flat3 ((mg_d.k2 hW (by omega)).cell (j := 0) rfl))) fun a F => ?_
    refine d_oneg 11 8 (some 13) (.call (.mk (.value (.func 134)) #[(.tmp 12)] #[117])) (j := 6) (want := true) F (by kernel_rfl) (by kernel_rfl) (by kernel_rfl) rfl fun ty pos af => ?_
    refine s_callS [_] F E134 rfl (by decide) (max63 ks _ _ (by omega) (by omega) hLo (Rd.own hO)) fun a F => ?_
    refine s_end ⟨hS, ?_⟩
    refine F.dg 16 18 8 6 true (.binOp .geq 3 (.tmp 13) (.tmp 17) 3) hS rfl (fun W hW => geqT (by omega) rfl rfl) fun a F => F.dv 17 19 (.pick (.tmp 8) (.tmp 18) (.const (.bool false))) hS (fun W hW => x_pick (b := true) rfl rfl) fun a F => ?_
    refine d_end (by kernel_rfl) (K3 _ _ ?_)
    refine wp_if F rfl ?_
    refine wp_region_lit ?_
    refine F.mv rfl fun a F => F.vl (x_nil rfl) fun a F => F.vl (x_fa0 fa59_0 rfl) fun a F => ?_
    refine s_put F rfl rfl flat3 mg (by simp) rfl fun w6 mg o7 => ?_
    have so7 := o7.size
    have hK := hK.only o7 (by omega)
    have hO := own_only hO o7 (hne)
    refine s_end ?_
    show bodyPost Try.prog Try.f105 (_) .normal a w6
    refine post_normal (res_none F rfl ⟨_, rfl, ⟨rfl, ⟨by rw [hz]; exact mg, hO, hat, hne, by have := hK.size; omega⟩⟩, hK⟩)
  · have hz : setl c ks = c := by have := setl_is c ks; omega
    refine dk2_seq (w1.heap.size) (w1.heap.size) (ops := regOps Try.f105 0) (N := 18) (by kernel_rfl) wide_orders (by kernel_rfl) fun w8 hw8 B9 hS K4 K4 => ?_
    have zw8 : w8.heap.size = w1.heap.size := by rw [hw8]
    have sB9 := B9.size
    have hK := hK.below B9
    have mg := mg.old B9
    have hO := own_below hO B9
    have mg_d := mg
    have hO_d := hO
    have hK_d := hK
    refine F.dv 0 2 (.move (.tmp 0)) hS (fun W hW => x_move rfl) fun a F => F.dv 1 3 (.nilCheck (.tmp 2)) hS (fun W hW => x_nil rfl) fun a F => F.dv 2 4 (.fieldAddr 119 (.tmp 3) 1) hS (fun W hW => x_fa0 fa59_1 rfl) fun a F => F.dv 3 5 (.load 117 (.tmp 4)) hS (fun W hW => x_load rfl (m_load flat29 ((mg_d.k2 hW (by omega)).cell (j := 1) rfl))) fun a F => F.dv 4 6 (.call (.mk (.builtin .len) #[(.tmp 5)] #[117])) hS (fun W hW => x_len Try.underlying117 rfl) fun a F => F.dv 5 7 (.binOp .gtr 3 (.tmp 6) (.const (.int .i64 0)) 3) hS (fun W hW => gtrT (by omega) rfl rfl) fun a F => F.dv 6 8 (.move (.tmp 7)) hS (fun W hW => x_move rfl) fun a F => F.dg 7 9 8 6 true (.move (.tmp 0)) hS rfl (fun W hW => x_move rfl) fun a F => F.dg 8 10 8 6 true (.nilCheck (.tmp 9)) hS rfl (fun W hW => x_nil rfl) fun a F => F.dg 9 11 8 6 true (.fieldAddr 119 (.tmp 10) 1) hS rfl (fun W hW => x_fa0 fa59_1 rfl) fun a F => F.dg 10 12 8 6 true (.load 117 (.tmp 11)) hS rfl (fun W hW => x_load rfl (m_load flat29 ((mg_d.k2 hW (by omega)).cell (j := 1) rfl))) fun a F => F.dg 12 14 8 6 true (.move (.tmp 0)) hS rfl (fun W hW => x_move rfl) fun a F => F.dg 13 15 8 6 true (.nilCheck (.tmp 14)) hS rfl (fun W hW => x_nil rfl) fun a F => F.dg 14 16 8 6 true (.fieldAddr 119 (.tmp 15) 0) hS rfl (fun W hW => x_fa0 fa59_0 rfl) fun a F => F.dg 15 17 8 6 true (.load 3 (.tmp 16)) hS rfl (fun W hW => x_load rfl (m_load flat3 ((mg_d.k2 hW (by omega)).cell (j := 0) rfl))) fun a F => ?_
    refine d_oneg 11 8 (some 13) (.call (.mk (.value (.func 134)) #[(.tmp 12)] #[117])) (j := 6) (want := true) F (by kernel_rfl) (by kernel_rfl) (by kernel_rfl) rfl fun ty pos af => ?_
    refine s_callS [_] F E134 rfl (by decide) (max63 ks _ _ (by omega) (by omega) hLo (Rd.own hO)) fun a F => ?_
    refine s_end ⟨hS, ?_⟩
    refine F.dg 16 18 8 6 true (.binOp .geq 3 (.tmp 13) (.tmp 17) 3) hS rfl (fun W hW => geqF (by omega) rfl rfl) fun a F => F.dv 17 19 (.pick (.tmp 8) (.tmp 18) (.const (.bool false))) hS (fun W hW => x_pick (b := true) rfl rfl) fun a F => ?_
    refine d_end (by kernel_rfl) (K4 _ _ ?_)
    refine wp_if F rfl ?_
    refine wp_skip ?_
    show bodyPost Try.prog Try.f105 (_) .normal a w8
    refine post_normal (res_none F rfl ⟨_, rfl, ⟨rfl, ⟨by rw [hz]; exact mg, hO, hat, hne, by have := hK.size; omega⟩⟩, hK⟩)
end Go.Proofs.Ytmkjhdiepkpdoaa

namespace Go.Proofs.Ytmkjhdiepkpdoaa
open Go.RowKit Go.Shelf
set_option linter.unusedVariables false
set_option linter.unusedSimpArgs false
/-- x reads as s, and its memory lies in blocks of A alone. -/
def RSn (W : World) (A : Nat → Prop) : SL → C3 → Prop
 | .num n, x => x.1 = 1 ∧ x.2.1 = (n : Int) ∧ Rd W x.2.2 3 0 []
 | .var i, x => x.1 = 2 ∧ x.2.1 = (i : Int) ∧ Rd W x.2.2 3 0 []
 | .succ n a, x => x.1 = 3 ∧ x.2.1 = (n : Int) ∧ ∃ y, Rd W x.2.2 3 1 (lc y) ∧ (∀ j, x.2.2.ownBlock = some j → A j) ∧ RSn W A a y
 | .mx a b, x => x.1 = 4 ∧ ∃ y z, Rd W x.2.2 3 2 (lc y ++ lc z) ∧ (∀ j, x.2.2.ownBlock = some j → A j) ∧ RSn W A a y ∧ RSn W A b z
section
variable {W W' : World} {A B : Nat → Prop}
theorem RSn.rs : ∀ {s : SL} {x : C3}, RSn W A s x → RS W s x
 | .num _, _, h => h
 | .var _, _, h => h
 | .succ _ _, _, ⟨h1, h2, y, h3, _, h5⟩ => ⟨h1, h2, y, h3, RSn.rs h5⟩
 | .mx _ _, _, ⟨h1, y, z, h3, _, h5, h6⟩ => ⟨h1, y, z, h3, RSn.rs h5, RSn.rs h6⟩
theorem RS.n : ∀ {s : SL} {x : C3}, RS W s x → RSn W (fun k => k < W.heap.size) s x
 | .num _, _, h => h
 | .var _, _, h => h
 | .succ _ _, _, ⟨h1, h2, y, h3, h5⟩ => ⟨h1, h2, y, h3, fun j hj => h3.lt (by decide) hj, RS.n h5⟩
 | .mx _ _, _, ⟨h1, y, z, h3, h5, h6⟩ => ⟨h1, y, z, h3, fun j hj => h3.lt (by decide) hj, RS.n h5, RS.n h6⟩
theorem RSn.mono (h : ∀ k, A k → B k) : ∀ {s : SL} {x : C3}, RSn W A s x → RSn W B s x
 | .num _, _, h => h
 | .var _, _, h => h
 | .succ _ _, _, ⟨h1, h2, y, h3, h4, h5⟩ => ⟨h1, h2, y, h3, fun j hj => h j (h4 j hj), RSn.mono h h5⟩
 | .mx _ _, _, ⟨h1, y, z, h3, h4, h5, h6⟩ => ⟨h1, y, z, h3, fun j hj => h j (h4 j hj), RSn.mono h h5, RSn.mono h h6⟩
theorem RSn.valid : ∀ {s : SL} {x : C3}, RSn W A s x → RSn W (fun k => A k ∧ k < W.heap.size) s x
 | .num _, _, h => h
 | .var _, _, h => h
 | .succ _ _, _, ⟨h1, h2, y, h3, h4, h5⟩ => ⟨h1, h2, y, h3, fun j hj => ⟨h4 j hj, h3.lt (by decide) hj⟩, RSn.valid h5⟩
 | .mx _ _, _, ⟨h1, y, z, h3, h4, h5, h6⟩ => ⟨h1, y, z, h3, fun j hj => ⟨h4 j hj, h3.lt (by decide) hj⟩, RSn.valid h5, RSn.valid h6⟩
theorem rd0_any {v : Value} {cs : List Value} (h : Rd W v 3 0 cs) : Rd W' v 3 0 cs := by
 refine ⟨h.1, ?_⟩
 obtain ⟨a, c, rfl, _, h0⟩ := h.form
 exact .inl ⟨a, c, rfl, rfl, h0⟩
theorem RSn.keep (hs : W.heap.size ≤ W'.heap.size) (hk : ∀ k, A k → k < W.heap.size → W'.heap[k]? = W.heap[k]?) : ∀ {s : SL} {x : C3}, RSn W A s x → RSn W' A s x
 | .num _, _, ⟨h1, h2, h3⟩ => ⟨h1, h2, rd0_any h3⟩
 | .var _, _, ⟨h1, h2, h3⟩ => ⟨h1, h2, rd0_any h3⟩
 | .succ _ _, _, ⟨h1, h2, y, h3, h4, h5⟩ => ⟨h1, h2, y, h3.keep hs (fun b hb hl => hk b (h4 b hb) hl), h4, RSn.keep hs hk h5⟩
 | .mx _ _, _, ⟨h1, y, z, h3, h4, h5, h6⟩ => ⟨h1, y, z, h3.keep hs (fun b hb hl => hk b (h4 b hb) hl), h4, RSn.keep hs hk h5, RSn.keep hs hk h6⟩
theorem RSn.below {s : SL} {x : C3} (h : RSn W A s x) (hB : Below W.heap.size W W') : RSn W' A s x := RSn.keep hB.size (fun k _ hk => hB.block k hk) h
theorem RSn.only {s : SL} {x : C3} {c : Nat} (h : RSn W A s x) (o : Only c W W') (hc : ∀ k, A k → k ≠ c) : RSn W' A s x := RSn.keep (Nat.le_of_eq o.size.symm) (fun k ha _ => o.block k (hc k ha)) h
theorem RSn.k2 {s : SL} {x : C3} {a b : Nat} (h : RSn W A s x) (hK : Ktw a b W W') (hc : ∀ k, A k → k ≠ a ∧ k ≠ b) : RSn W' A s x := RSn.keep hK.size (fun k ha hk => hK.block k hk (hc k ha)) h
end
/-- Rows of levels. -/
def PL (W : World) (A : Nat → Prop) (zs : List C3) (ps : List SL) : Prop := zs.length = ps.length ∧ ∀ (j : Nat) z p, zs[j]? = some z → ps[j]? = some p → RSn W A p z
section
variable {W W' : World} {A B : Nat → Prop} {zs : List C3} {ps : List SL}
theorem PL.nil : PL W A [] [] := ⟨rfl, fun j z p h => by simp at h⟩
theorem PL.mono (h : PL W A zs ps) (hm : ∀ k, A k → B k) : PL W B zs ps := ⟨h.1, fun j z p h1 h2 => (h.2 j z p h1 h2).mono hm⟩
theorem PL.valid (h : PL W A zs ps) : PL W (fun k => A k ∧ k < W.heap.size) zs ps := ⟨h.1, fun j z p h1 h2 => (h.2 j z p h1 h2).valid⟩
theorem PL.keep (h : PL W A zs ps) (hs : W.heap.size ≤ W'.heap.size) (hk : ∀ k, A k → k < W.heap.size → W'.heap[k]? = W.heap[k]?) : PL W' A zs ps := ⟨h.1, fun j z p h1 h2 => RSn.keep hs hk (h.2 j z p h1 h2)⟩
theorem PL.below (h : PL W A zs ps) (hB : Below W.heap.size W W') : PL W' A zs ps := h.keep hB.size fun k _ hk => hB.block k hk
theorem PL.only {c : Nat} (h : PL W A zs ps) (o : Only c W W') (hc : ∀ k, A k → k ≠ c) : PL W' A zs ps := h.keep (Nat.le_of_eq o.size.symm) fun k ha _ => o.block k (hc k ha)
theorem PL.k2 {a b : Nat} (h : PL W A zs ps) (hK : Ktw a b W W') (hc : ∀ k, A k → k ≠ a ∧ k ≠ b) : PL W' A zs ps := h.keep hK.size fun k ha hk => hK.block k hk (hc k ha)
theorem PL.at {j : Nat} {z : C3} (h : PL W A zs ps) (hz : zs[j]? = some z) : ∃ p, ps[j]? = some p ∧ RSn W A p z := by
 have hj := (List.getElem?_eq_some_iff.1 hz).1
 have hl := h.1
 exact ⟨ps[j]'(by omega), List.getElem?_eq_getElem (by omega), h.2 j z _ hz (List.getElem?_eq_getElem (by omega))⟩
end
/-! ### A form as a level -/
def part1 (i : Nat) (k : Int) : List SL := if k < 0 then [] else if k = 0 then [.var i] else [.succ k.toNat (.var i)]
def pts (c : Int) (ks : List Int) : Nat → List SL
 | 0 => if c ≠ 0 ∨ ks = [] then [.num c.toNat] else []
 | i + 1 => pts c ks i ++ part1 i (gt ks i)
def levF (c : Int) (ks : List Int) : SL := match pts c ks ks.length with
 | [] => .num 0
 | p :: ps => ps.foldl .mx p
end Go.Proofs.Ytmkjhdiepkpdoaa
