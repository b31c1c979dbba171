/- Levels in memory: what a value reads as, which levels are sound. -/
import Derived.Test.YtaclncmkdpjnlaaSymT
import Derived.Test.YtaclncmkdpjnlaaPureL
import Derived.Test.YtaclncmkdpjnlaaRows
namespace Go.Proofs.Ytaclncmkdpjnlaa
open Go.RowKit Go.Shelf
set_option linter.unusedVariables false
set_option linter.unusedSimpArgs false

theorem wide_orders : Try.prog.follows .mixedOrders = true := by kernel_rfl
theorem flat3 : Flat Try.prog 3 = true := by kernel_rfl
theorem flat22 : Flat Try.prog 22 = true := by kernel_rfl
theorem wide24 : Wide Try.prog 24 3 = true := by kernel_rfl
theorem el22 : Elem Try.prog 22 24 3 40 := elem_of (by kernel_rfl)
theorem zero3 : (Try.prog.info? 3).bind (·.zero) = some (.int .i64 0) := by kernel_rfl
theorem zero24 : (Try.prog.info? 24).bind (·.zero) = some (.agg [Value.int .i64 0, Value.int .i64 0, Value.slice none 0 0].toArray) := by kernel_rfl
theorem fa24_0 : fldB Try.prog 24 0 0 = true := by kernel_rfl
theorem fa24_1 : fldB Try.prog 24 1 1 = true := by kernel_rfl
theorem fa24_2 : fldB Try.prog 24 2 2 = true := by kernel_rfl
theorem fa54_0 : fldB Try.prog 135 0 0 = true := by kernel_rfl
theorem fa54_1 : fldB Try.prog 135 1 1 = true := by kernel_rfl
theorem fa54_2 : fldB Try.prog 135 2 2 = true := by kernel_rfl
theorem fa54_3 : fldB Try.prog 135 3 3 = true := by kernel_rfl

/-- A level's three cells: its kind, its number, its kids. -/
abbrev C3 := Int × Int × Value
def lc (x : C3) : List Value := [.int .i64 x.1, .int .i64 x.2.1, x.2.2]
abbrev lv (x : C3) : Value := .agg (lc x).toArray
abbrev ints (ks : List Int) : List Value := ks.map (Value.int .i64)
/-- A slice is one cell. -/
theorem Rd.one {W : World} {v : Value} {k n : Nat} {cs : List Value} (h : Rd W v k n cs) : v.oneCell' = true := by
  obtain ⟨a, c, rfl, _⟩ := h.form
  rfl
theorem one_lc {k n : Int} {v : Value} (h : v.oneCell' = true) : ∀ u ∈ lc (k, n, v), u.oneCell' = true := by
  intro u hu
  simp only [lc, List.mem_cons, List.not_mem_nil, or_false] at hu
  rcases hu with rfl | rfl | rfl
  · rfl
  · rfl
  · exact h
theorem fm3_get : ∀ (xs : List C3) (i j : Nat) (x : C3) (u : Value), xs[i]? = some x → (lc x)[j]? = some u → (xs.flatMap lc)[i * 3 + j]? = some u
  | [], i, j, x, u, h1, _ => by simp at h1
  | y :: xs, 0, j, x, u, h1, h2 => by
    simp at h1
    subst h1
    have hj : j < 3 := (List.getElem?_eq_some_iff.1 h2).1
    rw [List.flatMap_cons, List.getElem?_append_left (by simp [lc]; omega), Nat.zero_mul, Nat.zero_add, h2]
  | y :: xs, i + 1, j, x, u, h1, h2 => by
    rw [List.flatMap_cons, List.getElem?_append_right (by simp [lc]; omega), show (i + 1) * 3 + j - (lc y).length = i * 3 + j by simp [lc]; omega]
    exact fm3_get xs i j x u (by simpa using h1) h2
/-- A kid, read. -/
theorem rd_row3 {W : World} {v : Value} {xs : List C3} (h : Rd W v 3 xs.length (xs.flatMap lc)) {i : Nat} (hi : i < xs.length) :
    ∃ b off c x, v = .slice (some ⟨b, off, none⟩) xs.length c ∧ xs[i]? = some x ∧ ∀ W', Below W.heap.size W W' → ∀ j u, (lc x)[j]? = some u → W'.cell? ((⟨b, off + i * 3, none⟩ : Addr).add j) = some u := by
  obtain ⟨b, off, c, rfl, hb⟩ := h.some (by omega)
  refine ⟨b, off, c, xs[i], rfl, List.getElem?_eq_getElem hi, fun W' hB j u hj => ?_⟩
  rw [addr_addn, Nat.add_assoc]
  exact (hB.cell (p := ⟨b, off + (i * 3 + j), none⟩) hb).trans (h.cell (fm3_get xs i j _ u (List.getElem?_eq_getElem hi) hj))
/-- A level of whatever form. -/
inductive Lv where
  | mk (k n : Int) (ls : List Lv) : Lv
/-- x reads as l. -/
inductive RL (W : World) : C3 → Lv → Prop where
  | mk {k n : Int} {v : Value} {xs : List C3} {ls : List Lv} (hR : Rd W v 3 xs.length (xs.flatMap lc)) (hl : xs.length = ls.length) (hk : ∀ (i : Nat) x l, xs[i]? = some x → ls[i]? = some l → RL W x l) : RL W (k, n, v) (.mk k n ls)
/-- x reads as s. -/
def RS (W : World) : SL → C3 → Prop
  | .num n, x => x.1 = 1 ∧ x.2.1 = (n : Int) ∧ Rd W x.2.2 3 0 []
  | .var i, x => x.1 = 2 ∧ x.2.1 = (i : Int) ∧ Rd W x.2.2 3 0 []
  | .succ n a, x => x.1 = 3 ∧ x.2.1 = (n : Int) ∧ ∃ y, Rd W x.2.2 3 1 (lc y) ∧ RS W a y
  | .mx a b, x => x.1 = 4 ∧ ∃ y z, Rd W x.2.2 3 2 (lc y ++ lc z) ∧ RS W a y ∧ RS W b z
theorem RL.old {W W' : World} {x : C3} {l : Lv} (h : RL W x l) (hB : Below W.heap.size W W') : RL W' x l := by
  induction h with
  | mk hR hl hk ih => exact .mk (hR.below hB) hl fun i x l h1 h2 => ih i x l h1 h2
theorem RS.below {W W' : World} (hB : Below W.heap.size W W') : ∀ {s : SL} {x : C3}, RS W s x → RS W' s x
  | .num n, x, h => ⟨h.1, h.2.1, h.2.2.below hB⟩
  | .var n, x, h => ⟨h.1, h.2.1, h.2.2.below hB⟩
  | .succ n a, x, ⟨h1, h2, y, h3, h4⟩ => ⟨h1, h2, y, h3.below hB, RS.below hB h4⟩
  | .mx a b, x, ⟨h1, y, z, h3, h4, h5⟩ => ⟨h1, y, z, h3.below hB, RS.below hB h4, RS.below hB h5⟩
theorem RS.slice {W : World} : ∀ {s : SL} {x : C3}, RS W s x → ∃ n cs, Rd W x.2.2 3 n cs
  | .num n, x, h => ⟨_, _, h.2.2⟩
  | .var n, x, h => ⟨_, _, h.2.2⟩
  | .succ n a, x, ⟨h1, h2, y, h3, h4⟩ => ⟨_, _, h3⟩
  | .mx a b, x, ⟨h1, y, z, h3, h4, h5⟩ => ⟨_, _, h3⟩
theorem RL.slice {W : World} {x : C3} {l : Lv} (h : RL W x l) : ∃ n cs, Rd W x.2.2 3 n cs := by
  cases h with
  | mk hR hl hk => exact ⟨_, _, hR⟩

/-! ### Which may be -/
def kidsB (k : Int) (len : Nat) : Bool := decide (((k = 1 ∨ k = 2) ∧ len = 0) ∨ (k = 3 ∧ len = 1) ∨ (k = 4 ∧ len = 2))
def numB (top k n : Int) : Bool := decide ((k = 1 → 0 ≤ n ∧ n ≤ top) ∧ (k = 3 → 1 ≤ n ∧ n ≤ top))
def nodeE (D top vars d : Int) (r : Nat) (k n : Int) (len : Nat) : Int :=
  if D < d ∨ r = 0 then 2 else if kidsB k len = false ∨ numB top k n = false then 1 else if k = 2 ∧ (n < 0 ∨ vars ≤ n) then 10 else 0
mutual
def chk (D top vars : Int) (d : Int) (r : Nat) : Lv → Int × Nat
  | .mk k n ls => if nodeE D top vars d r k n ls.length ≠ 0 then (nodeE D top vars d r k n ls.length, 0) else chks D top vars (d + 1) (r - 1) ls
def chks (D top vars : Int) (d : Int) (r : Nat) : List Lv → Int × Nat
  | [] => (0, r)
  | l :: ls => if (chk D top vars d r l).1 ≠ 0 then ((chk D top vars d r l).1, 0) else chks D top vars d (chk D top vars d r l).2 ls
end
mutual
theorem chk_le (D top vars : Int) (d : Int) (r : Nat) : ∀ l, (chk D top vars d r l).2 ≤ r
  | .mk k n ls => by
    unfold chk
    split
    · exact Nat.zero_le _
    · exact Nat.le_trans (chks_le D top vars (d + 1) (r - 1) ls) (Nat.sub_le _ _)
theorem chks_le (D top vars : Int) (d : Int) (r : Nat) : ∀ ls, (chks D top vars d r ls).2 ≤ r
  | [] => by simp [chks]
  | l :: ls => by
    unfold chks
    split
    · exact Nat.zero_le _
    · exact Nat.le_trans (chks_le D top vars d _ ls) (chk_le D top vars d r l)
end
def sndL (l : Lv) : Prop := (chk 256 1099511627776 1001 1 1000 l).1 = 0
instance (l : Lv) : Decidable (sndL l) := inferInstanceAs (Decidable (_ = _))
theorem nodeE_iff {D top vars d : Int} {r : Nat} {k n : Int} {len : Nat} : nodeE D top vars d r k n len = 0 ↔ d ≤ D ∧ r ≠ 0 ∧ kidsB k len = true ∧ numB top k n = true ∧ ¬ (k = 2 ∧ (n < 0 ∨ vars ≤ n)) := by
  unfold nodeE
  by_cases c1 : D < d ∨ r = 0
  · rw [if_pos c1]
    constructor
    · intro h; cases h
    · rintro ⟨h1, h2, _⟩; omega
  · rw [if_neg c1]
    by_cases c2 : kidsB k len = false ∨ numB top k n = false
    · rw [if_pos c2]
      constructor
      · intro h; cases h
      · rintro ⟨_, _, h3, h4, _⟩; rcases c2 with h | h
        · rw [h] at h3; cases h3
        · rw [h] at h4; cases h4
    · rw [if_neg c2]
      simp only [not_or, Bool.not_eq_false] at c2
      by_cases c3 : k = 2 ∧ (n < 0 ∨ vars ≤ n)
      · rw [if_pos c3]
        constructor
        · intro h; cases h
        · rintro ⟨_, _, _, _, h⟩; exact absurd c3 h
      · rw [if_neg c3]
        exact ⟨fun _ => ⟨by omega, by omega, c2.1, c2.2, c3⟩, fun _ => rfl⟩
theorem chk_in {D top vars d : Int} {r : Nat} {k n : Int} {ls : List Lv} (h : nodeE D top vars d r k n ls.length = 0) : chk D top vars d r (.mk k n ls) = chks D top vars (d + 1) (r - 1) ls := by
  rw [chk, if_neg (by simp [h])]
theorem chk_out {D top vars d : Int} {r : Nat} {k n : Int} {ls : List Lv} (h : nodeE D top vars d r k n ls.length ≠ 0) : (chk D top vars d r (.mk k n ls)).1 = nodeE D top vars d r k n ls.length := by
  rw [chk, if_pos h]
theorem chks_in {D top vars d : Int} {r : Nat} {l : Lv} {ls : List Lv} (h : (chk D top vars d r l).1 = 0) : chks D top vars d r (l :: ls) = chks D top vars d (chk D top vars d r l).2 ls := by
  rw [chks, if_neg (by simp [h])]
theorem chks_out {D top vars d : Int} {r : Nat} {l : Lv} {ls : List Lv} (h : (chk D top vars d r l).1 ≠ 0) : (chks D top vars d r (l :: ls)).1 = (chk D top vars d r l).1 := by
  rw [chks, if_pos h]
theorem chk_iff {D top vars d : Int} {r : Nat} {k n : Int} {ls : List Lv} : (chk D top vars d r (.mk k n ls)).1 = 0 ↔ nodeE D top vars d r k n ls.length = 0 ∧ (chks D top vars (d + 1) (r - 1) ls).1 = 0 := by
  by_cases h : nodeE D top vars d r k n ls.length = 0
  · rw [chk_in h]; simp [h]
  · rw [chk_out h]; simp [h]
theorem chks_iff {D top vars d : Int} {r : Nat} {l : Lv} {ls : List Lv} : (chks D top vars d r (l :: ls)).1 = 0 ↔ (chk D top vars d r l).1 = 0 ∧ (chks D top vars d (chk D top vars d r l).2 ls).1 = 0 := by
  by_cases h : (chk D top vars d r l).1 = 0
  · rw [chks_in h]; simp [h]
  · rw [chks_out h]; simp [h]
theorem nodeE1 {D top vars d n : Int} {r : Nat} : nodeE D top vars d r 1 n 0 = 0 ↔ d ≤ D ∧ r ≠ 0 ∧ 0 ≤ n ∧ n ≤ top := by
  rw [nodeE_iff]; simp [kidsB, numB]
theorem nodeE2 {D top vars d n : Int} {r : Nat} : nodeE D top vars d r 2 n 0 = 0 ↔ d ≤ D ∧ r ≠ 0 ∧ 0 ≤ n ∧ n < vars := by
  rw [nodeE_iff]; simp [kidsB, numB]
theorem nodeE3 {D top vars d n : Int} {r : Nat} : nodeE D top vars d r 3 n 1 = 0 ↔ d ≤ D ∧ r ≠ 0 ∧ 1 ≤ n ∧ n ≤ top := by
  rw [nodeE_iff]; simp [kidsB, numB]
theorem nodeE4 {D top vars d n : Int} {r : Nat} : nodeE D top vars d r 4 n 2 = 0 ↔ d ≤ D ∧ r ≠ 0 := by
  rw [nodeE_iff]; simp [kidsB, numB]
theorem len2 {α : Type} {xs : List α} (h : xs.length = 2) : ∃ a b, xs = [a, b] := by
  match xs, h with
  | [a, b], _ => exact ⟨a, b, rfl⟩
theorem kidsB_iff {k : Int} {len : Nat} : kidsB k len = true ↔ ((k = 1 ∨ k = 2) ∧ len = 0) ∨ (k = 3 ∧ len = 1) ∨ (k = 4 ∧ len = 2) := by simp only [kidsB, decide_eq_true_eq]
theorem numB_iff {top k n : Int} : numB top k n = true ↔ (k = 1 → 0 ≤ n ∧ n ≤ top) ∧ (k = 3 → 1 ≤ n ∧ n ≤ top) := by simp only [numB, decide_eq_true_eq]
/-- What passes is of the four kinds. -/
theorem chk_sl {W : World} {D top vars : Nat} {x : C3} {l : Lv} (h : RL W x l) : ∀ (d : Int) (r : Nat), (chk D top vars d r l).1 = 0 → ∃ s, RS W s x ∧ s.nums top vars ∧ (s.dep : Int) + d ≤ D + 1 ∧ s.size + (chk D top vars d r l).2 = r := by
  induction h with
  | @mk k n v xs ls hR hl hk ih =>
    intro d r hc0
    obtain ⟨h0, hc⟩ := chk_iff.1 hc0
    clear hc0
    rw [chk_in h0]
    clear hk
    obtain ⟨h1, h2, h4, h5, h3⟩ := nodeE_iff.1 h0
    rw [kidsB_iff] at h4
    rw [numB_iff] at h5
    clear h0
    rcases h4 with ⟨hk12, h0⟩ | ⟨rfl, h0⟩ | ⟨rfl, h0⟩
    · obtain rfl : ls = [] := List.eq_nil_of_length_eq_zero h0
      obtain rfl : xs = [] := List.eq_nil_of_length_eq_zero (by simpa using hl)
      simp only [chks]
      rcases hk12 with rfl | rfl
      · have := h5.1 rfl
        exact ⟨.num n.toNat, ⟨rfl, by simp; omega, by simpa using hR⟩, by simp only [SL.nums]; omega, by simp only [SL.dep]; omega, by simp only [SL.size]; omega⟩
      · exact ⟨.var n.toNat, ⟨rfl, by simp; omega, by simpa using hR⟩, by simp only [SL.nums]; omega, by simp only [SL.dep]; omega, by simp only [SL.size]; omega⟩
    · have h6 := h5.2 rfl
      obtain ⟨a, rfl⟩ : ∃ a, ls = [a] := List.length_eq_one_iff.1 h0
      obtain ⟨y, rfl⟩ : ∃ y, xs = [y] := List.length_eq_one_iff.1 (by simpa using hl)
      obtain ⟨hq, _⟩ := chks_iff.1 hc
      obtain ⟨s, g1, g2, g3, g4⟩ := ih 0 y a rfl rfl (d + 1) (r - 1) hq
      rw [chks_in hq]
      simp only [chks]
      exact ⟨.succ n.toNat s, ⟨rfl, by simp; omega, y, by simpa using hR, g1⟩, ⟨by omega, by omega, g2⟩, by simp only [SL.dep]; omega, by simp only [SL.size]; omega⟩
    · obtain ⟨a, b, rfl⟩ := len2 h0
      obtain ⟨y, z, rfl⟩ := len2 (hl.trans (by simp))
      obtain ⟨hq, hc⟩ := chks_iff.1 hc
      obtain ⟨hp, _⟩ := chks_iff.1 hc
      obtain ⟨s, g1, g2, g3, g4⟩ := ih 0 y a rfl rfl (d + 1) (r - 1) hq
      obtain ⟨t, g5, g6, g7, g8⟩ := ih 1 z b rfl rfl (d + 1) _ hp
      rw [chks_in hq, chks_in hp]
      simp only [chks]
      exact ⟨.mx s t, ⟨rfl, y, z, by simpa using hR, g1, g5⟩, ⟨g2, g6⟩, by simp only [SL.dep]; omega, by simp only [SL.size]; omega⟩
/-- A level of the four kinds, as one of whatever form. -/
theorem RS.rl {W : World} {D top vars : Nat} : ∀ {s : SL} {x : C3}, RS W s x → ∃ l, RL W x l ∧ ∀ (d : Int) (r : Nat), ((chk D top vars d r l).1 = 0 ↔ s.nums top vars ∧ (s.dep : Int) + d ≤ D + 1 ∧ s.size ≤ r) ∧ ((chk D top vars d r l).1 = 0 → (chk D top vars d r l).2 + s.size = r)
  | .num m, (k, n, v), ⟨h1, h2, h3⟩ => by
    simp only at h1 h2 h3
    subst h1 h2
    refine ⟨.mk 1 m [], .mk (xs := []) (by simpa using h3) rfl (fun i x l h => by simp at h), fun d r => ⟨?_, fun h => ?_⟩⟩
    · rw [chk_iff, List.length_nil, nodeE1, chks]
      simp only [SL.nums, SL.dep, SL.size, and_true]
      omega
    · have h0 := (chk_iff.1 h).1
      have := nodeE1.1 h0
      rw [chk_in h0]
      simp only [chks, SL.size]
      omega
  | .var m, (k, n, v), ⟨h1, h2, h3⟩ => by
    simp only at h1 h2 h3
    subst h1 h2
    refine ⟨.mk 2 m [], .mk (xs := []) (by simpa using h3) rfl (fun i x l h => by simp at h), fun d r => ⟨?_, fun h => ?_⟩⟩
    · rw [chk_iff, List.length_nil, nodeE2, chks]
      simp only [SL.nums, SL.dep, SL.size, and_true]
      omega
    · have h0 := (chk_iff.1 h).1
      have := nodeE2.1 h0
      rw [chk_in h0]
      simp only [chks, SL.size]
      omega
  | .succ m a, (k, n, v), ⟨h1, h2, y, h3, h4⟩ => by
    simp only at h1 h2 h3
    subst h1 h2
    obtain ⟨l, g1, g2⟩ := RS.rl (D := D) (top := top) (vars := vars) h4
    refine ⟨.mk 3 m [l], .mk (xs := [y]) (by simpa using h3) rfl (fun i x l' e1 e2 => ?_), fun d r => ?_⟩
    · cases i
      · simp at e1 e2; subst e1 e2; exact g1
      · simp at e1
    · obtain ⟨e1, e2⟩ := g2 (d + 1) (r - 1)
      refine ⟨?_, fun h => ?_⟩
      · rw [chk_iff, show ([l] : List Lv).length = 1 from rfl, nodeE3, chks_iff, e1, chks]
        simp only [SL.nums, SL.dep, SL.size]
        exact ⟨fun ⟨⟨h1, h2, h3, h4⟩, ⟨h6, h7, h8⟩, _⟩ => ⟨⟨by omega, by omega, h6⟩, by omega, by omega⟩, fun ⟨⟨h1, h2, h3⟩, h4, h5⟩ => ⟨⟨by omega, by omega, by omega, by omega⟩, ⟨h3, by omega, by omega⟩, trivial⟩⟩
      · obtain ⟨h0, hc⟩ := chk_iff.1 h
        have := nodeE3.1 h0
        obtain ⟨hq, _⟩ := chks_iff.1 hc
        have := e2 hq
        rw [chk_in h0, chks_in hq]
        simp only [chks, SL.size]
        omega
  | .mx a b, (k, n, v), ⟨h1, y, z, h3, h4, h5⟩ => by
    simp only at h1 h3
    subst h1
    obtain ⟨la, g1, g2⟩ := RS.rl (D := D) (top := top) (vars := vars) h4
    obtain ⟨lb, g3, g4⟩ := RS.rl (D := D) (top := top) (vars := vars) h5
    refine ⟨.mk 4 n [la, lb], .mk (xs := [y, z]) (by simpa using h3) rfl (fun i x l' e1 e2 => ?_), fun d r => ?_⟩
    · rcases i with _ | _ | i
      · simp at e1 e2; subst e1 e2; exact g1
      · simp at e1 e2; subst e1 e2; exact g3
      · simp at e1
    · obtain ⟨e1, e2⟩ := g2 (d + 1) (r - 1)
      obtain ⟨e3, e4⟩ := g4 (d + 1) (chk D top vars (d + 1) (r - 1) la).2
      refine ⟨?_, fun h => ?_⟩
      · rw [chk_iff, show ([la, lb] : List Lv).length = 2 from rfl, nodeE4, chks_iff, chks_iff, chks]
        simp only [SL.nums, SL.dep, SL.size]
        refine ⟨fun ⟨⟨h1, h2⟩, h6, h7, _⟩ => ?_, fun ⟨⟨h1, h2⟩, h4, h5⟩ => ?_⟩
        · have := e2 h6
          obtain ⟨p1, p2, p3⟩ := e1.1 h6
          obtain ⟨p4, p5, p6⟩ := e3.1 h7
          exact ⟨⟨p1, p4⟩, by omega, by omega⟩
        · have h6 := e1.2 ⟨h1, by omega, by omega⟩
          have := e2 h6
          exact ⟨⟨by omega, by omega⟩, h6, e3.2 ⟨h2, by omega, by omega⟩, trivial⟩
      · obtain ⟨h0, hc⟩ := chk_iff.1 h
        have := nodeE4.1 h0
        obtain ⟨hq, hc⟩ := chks_iff.1 hc
        obtain ⟨hp, _⟩ := chks_iff.1 hc
        have := e2 hq
        have := e4 hp
        rw [chk_in h0, chks_in hq, chks_in hp]
        simp only [chks, SL.size]
        omega
theorem sound_sl {W : World} {x : C3} {l : Lv} (h : RL W x l) (hs : sndL l) : ∃ s, RS W s x ∧ s.good := by
  obtain ⟨s, h1, h2, h3, h4⟩ := chk_sl (D := 256) (top := 1099511627776) (vars := 1001) h 1 1000 hs
  exact ⟨s, h1, by omega, by omega, h2⟩
theorem RS.snd {W : World} {s : SL} {x : C3} (h : RS W s x) : ∃ l, RL W x l ∧ (sndL l ↔ s.good) := by
  obtain ⟨l, h1, h2⟩ := RS.rl (D := 256) (top := 1099511627776) (vars := 1001) h
  refine ⟨l, h1, ?_⟩
  have := (h2 1 1000).1
  unfold sndL SL.good
  constructor
  · intro h
    have := this.1 h
    exact ⟨by omega, by omega, this.1⟩
  · rintro ⟨g1, g2, g3⟩
    exact this.2 ⟨g3, by omega, g1⟩
theorem lc_inj {x y : C3} (h : lc x = lc y) : x = y := by
  obtain ⟨a, b, c⟩ := x
  obtain ⟨d, e, f⟩ := y
  simp [lc] at h
  obtain ⟨rfl, rfl, rfl⟩ := h
  rfl
theorem fm3_inj : ∀ {xs ys : List C3}, xs.length = ys.length → xs.flatMap lc = ys.flatMap lc → xs = ys
  | [], [], _, _ => rfl
  | [], _ :: _, h, _ => by simp at h
  | _ :: _, [], h, _ => by simp at h
  | x :: xs, y :: ys, h, e => by
    rw [List.flatMap_cons, List.flatMap_cons] at e
    obtain ⟨e1, e2⟩ := List.append_inj e rfl
    rw [lc_inj e1, fm3_inj (by simpa using h) e2]
/-- What a slice reads as is one thing. -/
theorem Rd.inj {W : World} {v : Value} {k n m : Nat} {cs ds : List Value} (h : Rd W v k n cs) (h' : Rd W v k m ds) : n = m ∧ cs = ds := by
  have e : n = m := by
    obtain ⟨a, c, rfl, _⟩ := h.form
    obtain ⟨a', c', e, _⟩ := h'.form
    cases e
    rfl
  subst e
  refine ⟨rfl, ?_⟩
  rcases Nat.eq_zero_or_pos n with rfl | hn
  · have h1 := h.1
    have h2 := h'.1
    rw [Nat.zero_mul] at h1 h2
    rw [List.eq_nil_of_length_eq_zero h1, List.eq_nil_of_length_eq_zero h2]
  · obtain ⟨b, off, c, rfl, hb⟩ := h.some hn
    apply List.ext_getElem (h.1.trans h'.1.symm)
    intro i h1 h2
    have e1 := h.cell (List.getElem?_eq_getElem h1)
    have e2 := h'.cell (List.getElem?_eq_getElem h2)
    rw [e1] at e2
    simpa using e2
theorem RS.inj {W : World} : ∀ {s t : SL} {x : C3}, RS W s x → RS W t x → s = t
  | .num a, .num b, x, h, h' => by have := h.2.1.symm.trans h'.2.1; congr 1; omega
  | .var a, .var b, x, h, h' => by have := h.2.1.symm.trans h'.2.1; congr 1; omega
  | .succ a s, .succ b t, x, ⟨_, h1, y, h2, h3⟩, ⟨_, h4, z, h5, h6⟩ => by
    have e := lc_inj (h2.inj h5).2
    subst e
    rw [RS.inj h3 h6, show a = b by omega]
  | .mx a b, .mx c d, x, ⟨_, y, z, h2, h3, h4⟩, ⟨_, y', z', h5, h6, h7⟩ => by
    have e := (h2.inj h5).2
    have e := List.append_inj e rfl
    have e1 := lc_inj e.1
    have e2 := lc_inj e.2
    subst e1 e2
    rw [RS.inj h3 h6, RS.inj h4 h7]
  | .num _, .var _, x, h, h' => by have := h.1.symm.trans h'.1; omega
  | .num _, .succ _ _, x, h, h' => by have := h.1.symm.trans h'.1; omega
  | .num _, .mx _ _, x, h, h' => by have := h.1.symm.trans h'.1; omega
  | .var _, .num _, x, h, h' => by have := h.1.symm.trans h'.1; omega
  | .var _, .succ _ _, x, h, h' => by have := h.1.symm.trans h'.1; omega
  | .var _, .mx _ _, x, h, h' => by have := h.1.symm.trans h'.1; omega
  | .succ _ _, .num _, x, h, h' => by have := h.1.symm.trans h'.1; omega
  | .succ _ _, .var _, x, h, h' => by have := h.1.symm.trans h'.1; omega
  | .succ _ _, .mx _ _, x, h, h' => by have := h.1.symm.trans h'.1; omega
  | .mx _ _, .num _, x, h, h' => by have := h.1.symm.trans h'.1; omega
  | .mx _ _, .var _, x, h, h' => by have := h.1.symm.trans h'.1; omega
  | .mx _ _, .succ _ _, x, h, h' => by have := h.1.symm.trans h'.1; omega
theorem RL.inj {W : World} {x : C3} {l l' : Lv} (h : RL W x l) : RL W x l' → l = l' := by
  induction h generalizing l' with
  | @mk k n v xs ls hR hl hk ih =>
    intro h'
    cases h' with
    | @mk _ _ _ ys ls' hR' hl' hk' =>
      obtain ⟨e1, e2⟩ := hR.inj hR'
      have e3 : xs = ys := fm3_inj e1 e2
      subst e3
      have : ls = ls' := by
        apply List.ext_getElem (by omega)
        intro i h1 h2
        exact ih i xs[i] ls[i] (List.getElem?_eq_getElem (by omega)) (List.getElem?_eq_getElem h1) (hk' i xs[i] ls'[i] (List.getElem?_eq_getElem (by omega)) (List.getElem?_eq_getElem h2))
      rw [this]
/-- A level of the four kinds that is good passes. -/
theorem rs_snd {W : World} {x : C3} {l : Lv} {s : SL} (hL : RL W x l) (hs : RS W s x) (hg : s.good) : sndL l := by
  obtain ⟨l', h1, h2⟩ := hs.snd
  rw [hL.inj h1]
  exact h2.2 hg
end Go.Proofs.Ytaclncmkdpjnlaa
