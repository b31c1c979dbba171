/- Nodes that are made. -/
import Derived.Test.YtaclncmkdpjnlaaTerm7
namespace Go.Proofs.Ytaclncmkdpjnlaa
open Go.RowKit Go.Shelf
set_option linter.unusedVariables false
set_option linter.unusedSimpArgs false

theorem RVn.k2 {W W' : World} {A : Nat → Prop} {v : Value} {ls : List Lv} {a b : Nat} (h : RVn W A v ls) (hK : Ktw a b W W') (hA : ∀ k, A k → k ≠ a ∧ k ≠ b) : RVn W' A v ls := h.keep hK.size (fun k ha hk => hK.block k hk (hA k ha))
theorem Ok.k2 {W W' : World} {A : Nat → Prop} {x : C8} {a b : Nat} (h : Ok W A x) (hK : Ktw a b W W') (hA : ∀ k, A k → k ≠ a ∧ k ≠ b) : Ok W' A x := h.keep hK.size (fun k ha hk => hK.block k hk (hA k ha))
theorem QL.rvn {W : World} {A : Nat → Prop} {v : Value} {zs : List C3} {ls : List Lv} (h : QL W A zs ls) (hR : Rd W v 3 zs.length (zs.flatMap lc)) (hA : ∀ j, v.ownBlock = some j → A j) : RVn W A v ls := ⟨zs, ⟨hR, fun _ j hj => hA j hj⟩, h.1, h.2⟩
/-- Each is as it was, or a copy. -/
def cpAll (ls ls' : List Lv) : Prop := ∀ (j : Nat) l l', ls[j]? = some l → ls'[j]? = some l' → isCp l l'
theorem cpAll.snoc {ls ls' : List Lv} {p p' : Lv} {i : Nat} (h : cpAll ls ls') (hl : ls'.length = i) (hp : ls[i]? = some p) (hc : isCp p p') : cpAll ls (ls' ++ [p']) := by
  intro j l l' e1 e2
  rcases Nat.lt_trichotomy j ls'.length with hj | hj | hj
  · rw [List.getElem?_append_left hj] at e2
    exact h j l l' e1 e2
  · subst hj
    rw [List.getElem?_append_right (Nat.le_refl _)] at e2
    simp at e2
    subst e2
    rw [hl, hp] at e1
    cases e1
    exact hc
  · rw [List.getElem?_eq_none (by simp; omega)] at e2
    cases e2
theorem cpAll.slO {W : World} {A : Nat → Prop} {v : Value} {ls ls' : List Lv} (h : cpAll ls ls') (hl : ls'.length = ls.length) (hV : RVn W A v ls) : ls'.map slO = ls.map slO := by
  obtain ⟨xs, h1, h2, h3⟩ := hV
  apply List.ext_getElem?
  intro i
  by_cases hi : i < ls.length
  · rw [List.getElem?_map, List.getElem?_map, List.getElem?_eq_getElem hi, List.getElem?_eq_getElem (by omega : i < ls'.length)]
    exact congrArg some ((h i _ _ (List.getElem?_eq_getElem hi) (List.getElem?_eq_getElem (by omega))).slO (h3 i (xs[i]'(by omega)) _ (List.getElem?_eq_getElem (by omega)) (List.getElem?_eq_getElem hi)).rl)
  · rw [List.getElem?_eq_none (by simp; omega), List.getElem?_eq_none (by simp; omega)]

set_option maxRecDepth 100000 in
set_option maxHeartbeats 1600000 in
theorem levels130 (W : World) (br : Nat) (hbr : br < W.heap.size) (A : Nat → Prop) (hA : ∀ k, A k → k ≠ br ∧ k < W.heap.size) (ls : List Lv) (v : Value) (hV : RVn W A v ls) (hR : Room W br) :
    Calls Try.prog 113 #[.pointer (some ⟨br, 0, none⟩), v] W fun e w' => ∃ u, e = .returned u ∧ ((∃ ls', RVn w' (fun k => A k ∨ W.heap.size ≤ k) u ls' ∧ ls'.map slO = ls.map slO) ∧ Room w' br) ∧ Ktw br br W w' := by
  have hK := Ktw.refl br br W
  have sK := hK.size
  obtain ⟨av, cv, hve, _⟩ := hV.form
  subst hve
  refine calls_fs 26 [(0, .pointer (some ⟨br, 0, none⟩)), (1, .slice av ls.length cv)] Try.func113 rfl rfl rfl rfl rfl fun a hF => ?_
  refine wp_rs fun K1 hK1 => ?_
  refine s_val hF (x_assign rfl) (by decide) fun a hF => ?_
  refine s_end (hK1 _ _ ?_)
  refine wp_seq_k fun K2 hK2 => ?_
  refine wp_rs fun K3 hK3 => ?_
  refine s_val hF (x_move rfl) (by decide) fun a hF => ?_
  refine s_val hF (x_move rfl) (by decide) fun a hF => ?_
  refine s_call (R := fun u w' => ((∃ b, u = .bool b ∧ (b = true → ls.length * 40 ≤ 2147483647)) ∧ Room w' br) ∧ Ktw br br W w') hF [_, _, _, _] (enters_of Try.func128 (by kernel_rfl) rfl) rfl (by decide) (takes143 W br hbr ls _ (hV.mono hA) W hK hR) ?_
  rintro _ w2 a ⟨⟨⟨b10, rfl, h10⟩, ⟨r4, mr, hr4, hr5⟩⟩, k3⟩ hF
  have sk3 := k3.size
  have hK := hK.trans k3 (by omega)
  refine s_val hF (x_not rfl) (by decide) fun a hF => ?_
  refine s_end (hK3 _ _ ?_)
  refine wp_ifb hF rfl (fun hc11 => ?_) (fun hc11 => ?_)
  · refine wp_rs fun K4 hK4 => ?_
    refine s_val hF (x_move rfl) (by decide) fun a hF => ?_
    refine s_val hF (x_assign rfl) (by decide) fun a hF => ?_
    refine s_end (hK4 _ _ ?_)
    refine wp_ret (then_ret (res_slot hF rfl rfl ⟨_, rfl, ⟨⟨ls, (hV.k2 hK (fun k hk => ⟨(hA k hk).1, (hA k hk).1⟩)).mono (fun k hk => .inl hk), rfl⟩, ⟨r4, mr, hr4, hr5⟩⟩, hK⟩))
  · obtain rfl : b10 = true := by simpa using hc11
    have h11 := h10 rfl
    refine wp_skip (hK2 _ _ ?_)
    refine wp_rs fun K5 hK5 => ?_
    refine s_val hF (x_assign rfl) (by decide) fun a hF => ?_
    refine s_end (hK5 _ _ ?_)
    refine wp_seq_k fun K6 hK6 => ?_
    refine wp_rs fun K7 hK7 => ?_
    refine s_val hF (x_move rfl) (by decide) fun a hF => ?_
    refine s_val hF (x_len Try.underlying22 rfl) (by decide) fun a hF => ?_
    refine s_val hF (x_move rfl) (by decide) fun a hF => ?_
    refine s_end (hK7 _ _ ?_)
    refine wp_block ?_
    refine wp_up ls.length (fun i a w => ∃ v' o' zs ls', w.ownsRow W.heap.size 24 3 v' zs.length (zs.flatMap lc) ∧ (∀ j, v'.ownBlock = some j → j = o') ∧ v'.ownBlock ≠ some br ∧ ((o' = br ∨ W.heap.size ≤ o') ∧ o' < w.heap.size) ∧ QL w (fun k => (k < W.heap.size ∧ k ≠ br ∧ A k ∨ W.heap.size ≤ k) ∧ k ≠ o' ∧ k < w.heap.size) zs ls' ∧ ls'.length = i ∧ cpAll ls ls' ∧ Blk w br 108 [.int .i64 r4] ∧ Ktw br br W w ∧ Fs 26 a [(5, v'), (13, .slice av ls.length cv), (14, .int .i64 (ls.length : Int)), (15, .int .i64 (i : Int))]) ⟨_, br, [], [], World.ownsRow_nil _ _ _ _, (fun j h => by cases h), (fun h => by cases h), by omega, QL.nil, rfl, (fun j l l' _ h => by simp at h), mr, hK, hF.sub _ rfl⟩ ?_
    repeat clear hF
    clear hK mr
    rintro i a w hi ⟨vv, o2, zs, ls2, hO, hat, hne, hlo, hP, hl2, hcp, mr, hK, hF⟩ K' hK'
    have sK := hK.size
    obtain ⟨top, htop⟩ : ∃ h, h = w.heap.size := ⟨_, rfl⟩
    rw [← htop] at hP
    have hPl := hP.1
    have h1vv := (Rd.own hO).one
    refine wp_rs fun K8 hK8 => ?_
    refine s_val hF (x_lss (b := decide (i < ls.length)) (decide_eq_decide.2 (by omega)) rfl rfl) (by decide) fun a hF => ?_
    refine s_end (hK8 _ _ ?_)
    refine wp_seq_k fun K9 hK9 => ?_
    refine wp_iff hF rfl (fun hc16 => ?_) (fun hc16 => ?_)
    · obtain ⟨b9, off9, c9, y, p, hve, hp, hry, hAb, hbl, hrow⟩ := hV.row (i := i) (by omega)
      cases hve
      have h1y := hry.rl.one1
      have hAb2 := hA _ hAb
      refine wp_skip (hK9 _ _ ?_)
      refine wp_seq_k fun K10 hK10 => ?_
      refine wp_block ?_
      refine wp_rs fun K11 hK11 => ?_
      refine s_val hF (x_ixa rfl rfl (m_ixsK i Try.underlying22 el22.size rfl (by omega))) (by decide) fun a hF => ?_
      refine s_val hF (x_ldA wide24 (hrow _ (hK.block _ hbl ⟨hAb2.1, hAb2.1⟩)) rfl rfl) (by decide) fun a hF => ?_
      refine s_alloc hF (by decide) zero24 fun w4 b7 a eb7 m7 B5 zb7 hF => ?_
      have sB5 := B5.size
      have hK := hK.below B5
      have mr := mr.old B5
      have hO := own_below hO B5
      have hP := hP.below B5
      refine s_putW hF rfl rfl (size_wide wide24) m7 rfl (one_lc h1y) fun w8 m7 o9 => ?_
      have so9 := o9.size
      have hK := hK.only o9 (by omega)
      have mr := mr.only o9 (by omega)
      have hO := own_only hO o9 (fun e => by have := hat _ e; omega)
      have hP := hP.only o9 (fun k (hk : (k < W.heap.size ∧ k ≠ br ∧ A k ∨ W.heap.size ≤ k) ∧ k ≠ o2 ∧ k < top) => by omega)
      refine s_end (hK11 _ _ ?_)
      refine wp_region_lit ?_
      refine s_val hF (x_move rfl) (by decide) fun a hF => ?_
      refine s_val hF (x_ldW wide24 m7 rfl rfl) (by decide) fun a hF => ?_
      refine s_callR (R := fun u w' => ∃ z l', u = lv z ∧ RLx w' (fun k => A k ∨ w8.heap.size ≤ k) z l' ∧ isCp p l') [_, _] hF (enters_of Try.func130 (by kernel_rfl) rfl) rfl (by decide) (plusL145 w8 A (fun k hk => by have := (hA k hk).2; omega) p y (hry.keep hK.size (fun k hk hb => hK.block k hb ⟨(hA k hk).1, (hA k hk).1⟩))) ?_
      rintro _ w10 a ⟨z, l2, rfl, hz0, hcz⟩ B11 hF
      have sB11 := B11.size
      have hK := hK.below B11
      have mr := mr.old B11
      have hO := own_below hO B11
      have hP := hP.below B11
      have m7 := m7.old B11
      have hz := hz0.valid
      clear hz0
      have hz : RLx w10 (fun k => (k < W.heap.size ∧ k ≠ br ∧ A k ∨ w8.heap.size ≤ k) ∧ k < w10.heap.size) z l2 := hz.mono (fun k hk => ⟨hk.1.elim (fun h => .inl ⟨(hA k h).2, (hA k h).1, h⟩) .inr, hk.2⟩)
      have h1z := hz.rl.one1
      refine s_litG [lv z] el22 hF (by decide) rfl (by simp [Value.cells, lc]) rfl (by decide) (by decide) fun w12 bl a ebl ml B13 zbl hF => ?_
      have sB13 := B13.size
      have hK := hK.below B13
      have mr := mr.old B13
      have hO := own_below hO B13
      have hP := hP.below B13
      have m7 := m7.old B13
      have hz := hz.below B13
      have ml : Blk w12 bl 24 (lc z) := by simpa [Value.cells] using ml
      refine s_appL (o := o2) el22 hF (by decide) rfl rfl hO ml rfl (one_lc h1z) hat (by omega) (by omega) (by decide) (by omega) fun v3 w14 a o3 hOn hOatn how hsrc k15 hkeep hF => ?_
      have sk15 := k15.size
      have hK := hK.trans k15 (by omega)
      have mr : Blk w14 br _ _ := (hkeep _ mr.lt hne).trans mr
      have hP := hP.k2 k15 (fun k (hk : (k < W.heap.size ∧ k ≠ br ∧ A k ∨ W.heap.size ≤ k) ∧ k ≠ o2 ∧ k < top) => by omega)
      have m7 := m7.k2 k15 (by omega)
      have hz := hz.k2 k15 (fun k (hk : (k < W.heap.size ∧ k ≠ br ∧ A k ∨ w8.heap.size ≤ k) ∧ k < w10.heap.size) => by omega)
      have ml := ml.k2 k15 (by omega)
      have hO := hOn
      have hO_at := hOatn
      have hneg : v3.ownBlock ≠ some br := fun h => by rcases hsrc br h with h | h; exact hne h; omega
      refine s_val hF (x_assign rfl) (by decide) fun a hF => ?_
      refine s_end (hK10 _ _ ?_)
      refine wp_region_lit ?_
      refine s_val hF (x_addn (i + 1) (by omega) (by omega) rfl rfl) (by decide) fun a hF => ?_
      refine s_val hF (x_move rfl) (by decide) fun a hF => ?_
      refine s_end (hK' _ _ (by omega) ⟨v3, o3, zs ++ [z], ls2 ++ [l2], by rw [fm3_app]; simpa using hO, hO_at, hneg, by omega, (hP.mono (fun k (hk : (k < W.heap.size ∧ k ≠ br ∧ A k ∨ W.heap.size ≤ k) ∧ k ≠ o2 ∧ k < top) => ⟨hk.1, by omega, by omega⟩)).snoc (hz.mono (fun k (hk : (k < W.heap.size ∧ k ≠ br ∧ A k ∨ w8.heap.size ≤ k) ∧ k < w10.heap.size) => ⟨hk.1.elim .inl (fun h => .inr (by omega)), by omega, by omega⟩)), by simp [hl2], hcp.snoc hl2 hp hcz, mr, hK, hF.sub _ rfl⟩)
    · obtain rfl : i = ls.length := by omega
      refine wp_exit (hK6 _ _ ?_)
      refine wp_rs fun K12 hK12 => ?_
      refine s_val hF (x_move rfl) (by decide) fun a hF => ?_
      refine s_val hF (x_assign rfl) (by decide) fun a hF => ?_
      refine s_end (hK12 _ _ ?_)
      refine wp_ret (res_slot hF rfl rfl ⟨_, rfl, ⟨⟨ls2, (hP.mono (B := fun k => A k ∨ W.heap.size ≤ k) (fun k hk => hk.1.elim (fun h => .inl h.2.2) .inr)).rvn (Rd.own hO) (fun j h => .inr (hO.lt j h).1), hcp.slO hl2 hV⟩, ⟨r4, mr, hr4, hr5⟩⟩, hK⟩)

/-- A node, with these kids. -/
def nodeP : CT → List PT → PT
  | .var n _, _ => .var n
  | .sort l _, _ => .sort (slO l)
  | .cst s ls _, _ => .cst s (ls.map slO)
  | .odd k _, _ => .odd k
  | .two k _ _ _, ps => .two k (ps.getD 0 (.odd 0)) (ps.getD 1 (.odd 0))
  | .lt .., ps => .lt (ps.getD 0 (.odd 0)) (ps.getD 1 (.odd 0)) (ps.getD 2 (.odd 0))
theorem RE_two {W : World} {A : Nat → Prop} {v : Value} {k : Int} {p q : PT} (hk : k = 3 ∨ k = 4 ∨ k = 6) (h : RKE W A v [p, q]) : RE W A (.two k p q) ⟨k, 0, emptyB, (0, 0, nilS), nilS, v⟩ := by
  obtain ⟨cs, ⟨xs, h1, h2, h3⟩, h4⟩ := h.ck
  obtain ⟨a, b, rfl⟩ := len2 (show cs.length = 2 by simpa using congrArg List.length h4)
  obtain ⟨y, z, rfl⟩ := len2 (show xs.length = 2 by simpa using h2)
  simp at h4
  obtain ⟨rfl, rfl⟩ := h4
  exact ⟨.two k a b 0, ⟨rfl, hk, ⟨y, z, [], by simpa using h1, h3 0 y a rfl rfl, h3 1 z b rfl rfl⟩, ok0 _ _ _ _ _ _⟩, rfl⟩
theorem len3 {α : Type} {xs : List α} (h : xs.length = 3) : ∃ a b c, xs = [a, b, c] := by
  match xs, h with
  | [a, b, c], _ => exact ⟨a, b, c, rfl⟩
theorem RE_lt {W : World} {A : Nat → Prop} {v : Value} {p q r : PT} (h : RKE W A v [p, q, r]) : RE W A (.lt p q r) ⟨5, 0, emptyB, (0, 0, nilS), nilS, v⟩ := by
  obtain ⟨cs, ⟨xs, h1, h2, h3⟩, h4⟩ := h.ck
  obtain ⟨a, b, c, rfl⟩ := len3 (show cs.length = 3 by simpa using congrArg List.length h4)
  obtain ⟨y, z, u, rfl⟩ := len3 (show xs.length = 3 by simpa using h2)
  simp at h4
  obtain ⟨rfl, rfl, rfl⟩ := h4
  exact ⟨.lt a b c 0, ⟨rfl, ⟨y, z, u, [], by simpa using h1, h3 0 y a rfl rfl, h3 1 z b rfl rfl, h3 2 u c rfl rfl⟩, ok0 _ _ _ _ _ _⟩, rfl⟩
theorem RKE.rn0 {W : World} {A : Nat → Prop} {v : Value} (h : RKE W A v []) : ∃ cs, Rn W A v 8 0 cs := by
  obtain ⟨xs, h1, h2, h3⟩ := h
  rw [h2] at h1
  exact ⟨_, h1⟩
theorem RE_odd {W : World} {A : Nat → Prop} {v : Value} {k : Int} (hk : arT k < 0 ∨ (0 : Int) < arT k) (h : RKE W A v []) : RE W A (.odd k) ⟨k, 0, emptyB, (0, 0, nilS), nilS, v⟩ := ⟨.odd k 0, ⟨rfl, hk, h.rn0, ok0 _ _ _ _ _ _⟩, rfl⟩
theorem RE_var {W : World} {A : Nat → Prop} {v : Value} {n : Int} (hn : in64 n) (h : RKE W A v []) : RE W A (.var n) ⟨1, n, emptyB, (0, 0, nilS), nilS, v⟩ := ⟨.var n 0, ⟨rfl, rfl, hn, h.rn0, ok0 _ _ _ _ _ _⟩, rfl⟩
theorem RE_sort {W : World} {A : Nat → Prop} {v : Value} {l : Lv} {o : Option SL} {z : C3} (hz : RLn W A z l) (ho : slO l = o) (h : RKE W A v []) : RE W A (.sort o) ⟨2, 0, emptyB, z, nilS, v⟩ := ⟨.sort l 0, ⟨rfl, hz, h.rn0, ⟨_, hz⟩, [], RVn.nil W A⟩, by rw [CT.ess, ho]⟩
theorem RE_cst {W : World} {A : Nat → Prop} {v u : Value} {s : ByteArray} {ls : List Lv} {os : List (Option SL)} (hz : RVn W A u ls) (ho : ls.map slO = os) (h : RKE W A v []) : RE W A (.cst s os) ⟨7, 0, s, (0, 0, nilS), u, v⟩ := ⟨.cst s ls 0, ⟨rfl, rfl, hz, h.rn0, ⟨.mk 0 0 [], .mk (xs := []) (Rn.nil W A 3) rfl (fun i x l h => by simp at h)⟩, ls, hz⟩, by rw [CT.ess, ho]⟩

section
variable {W W' : World} {A B : Nat → Prop}
theorem RC.var_of : ∀ {c : CT} {x : C8}, RC W A c x → x.k = 1 → ∃ n m, c = .var n m
  | .var n m, _, _, _ => ⟨n, m, rfl⟩
  | .sort .., x, h, hk => by have := h.1; omega
  | .cst .., x, h, hk => by have := h.1; omega
  | .odd k m, x, h, hk => by
    have h1 := h.1
    have h2 := h.2.1
    rw [← h1, hk] at h2
    simp [arT] at h2
    omega
  | .two .., x, h, hk => by have := h.1; have := h.2.1; omega
  | .lt .., x, h, hk => by have := h.1; omega
theorem RC.sort_of : ∀ {c : CT} {x : C8}, RC W A c x → x.k = 2 → ∃ n m, c = .sort n m
  | .sort n m, _, _, _ => ⟨n, m, rfl⟩
  | .var .., x, h, hk => by have := h.1; omega
  | .cst .., x, h, hk => by have := h.1; omega
  | .odd k m, x, h, hk => by
    have h1 := h.1
    have h2 := h.2.1
    rw [← h1, hk] at h2
    simp [arT] at h2
    omega
  | .two .., x, h, hk => by have := h.1; have := h.2.1; omega
  | .lt .., x, h, hk => by have := h.1; omega
theorem RC.cst_of : ∀ {c : CT} {x : C8}, RC W A c x → x.k = 7 → ∃ s ls m, c = .cst s ls m
  | .cst s n m, _, _, _ => ⟨s, n, m, rfl⟩
  | .var .., x, h, hk => by have := h.1; omega
  | .sort .., x, h, hk => by have := h.1; omega
  | .odd k m, x, h, hk => by
    have h1 := h.1
    have h2 := h.2.1
    rw [← h1, hk] at h2
    simp [arT] at h2
    omega
  | .two .., x, h, hk => by have := h.1; have := h.2.1; omega
  | .lt .., x, h, hk => by have := h.1; omega
theorem RE_rest {v : Value} {ps : List PT} : ∀ {c : CT} {x : C8}, RC W A c x → (x.k ≠ 1 ∧ x.k ≠ 2 ∧ x.k ≠ 7) → RKE W' B v ps → ps.length = c.kids.length → RE W' B (nodeP c ps) ⟨x.k, 0, emptyB, (0, 0, nilS), nilS, v⟩
  | .var .., x, h, hk, _, _ => by have := h.1; omega
  | .sort .., x, h, hk, _, _ => by have := h.1; omega
  | .cst .., x, h, hk, _, _ => by have := h.1; omega
  | .odd k m, x, h, hk, hV, hl => by
    obtain rfl : ps = [] := List.eq_nil_of_length_eq_zero hl
    rw [h.1]
    exact RE_odd (by have := h.2.1; omega) hV
  | .two k a b m, x, h, hk, hV, hl => by
    obtain ⟨p, q, rfl⟩ := len2 hl
    rw [h.1]
    exact RE_two h.2.1 hV
  | .lt a b c m, x, h, hk, hV, hl => by
    obtain ⟨p, q, r, rfl⟩ := len3 hl
    rw [h.1]
    exact RE_lt hV
theorem RVn.below {v : Value} {ls : List Lv} (h : RVn W A v ls) (hB : Below W.heap.size W W') : RVn W' A v ls := h.keep hB.size fun k _ hk => hB.block k hk
theorem RVn.only {v : Value} {ls : List Lv} {c : Nat} (h : RVn W A v ls) (o : Only c W W') (hc : ∀ k, A k → k ≠ c) : RVn W' A v ls := h.keep (Nat.le_of_eq o.size.symm) fun k ha _ => o.block k (hc k ha)
end

set_option maxRecDepth 100000 in
set_option maxHeartbeats 1600000 in
theorem node92 (W : World) (br : Nat) (hbr : br < W.heap.size) (A : Nat → Prop) (hA : ∀ k, A k → k ≠ br ∧ k < W.heap.size) (c : CT) (x : C8) (hx : RC W A c x) (v : Value) (ps : List PT) (hV : RKE W A v ps) (hl : ps.length = c.kids.length) (hR : Room W br) :
    Calls Try.prog 73 #[.pointer (some ⟨br, 0, none⟩), tv x, v] W fun e w' => ∃ u, e = .returned u ∧ ((∃ y, u = tv y ∧ RE w' (fun k => A k ∨ W.heap.size ≤ k) (nodeP c ps) y) ∧ Room w' br) ∧ Ktw br br W w' := by
  have hK := Ktw.refl br br W
  have sK := hK.size
  have hA2 : ∀ k, A k → k ≠ br ∧ k ≠ br := fun k hk => ⟨(hA k hk).1, (hA k hk).1⟩
  obtain ⟨av, cv, hve, _⟩ := hV.form
  subst hve
  have hone := hx.one
  obtain ⟨xk, xn, xs, xl, xls, xts⟩ := x
  refine calls_fs 40 [(0, .pointer (some ⟨br, 0, none⟩)), (1, tv ⟨xk, xn, xs, xl, xls, xts⟩), (2, .slice av ps.length cv)] Try.func73 rfl rfl rfl rfl rfl fun a hF => ?_
  refine wp_rs fun K1 hK1 => ?_
  refine s_box ([.int .i64 xk, .int .i64 xn, .string xs, .int .i64 xl.1, .int .i64 xl.2.1, xl.2.2, xls, xts]) hF (by decide) rfl rfl fun w2 b4 a eb4 m4 B3 zb4 hF => ?_
  have sB3 := B3.size
  have hK := hK.below B3
  have hR := hR.below B3
  refine s_alloc hF (by decide) zero27 fun w4 b6 a eb6 m6 B5 zb6 hF => ?_
  have sB5 := B5.size
  have hK := hK.below B5
  have m4 := m4.old B5
  have hR := hR.below B5
  refine s_end (hK1 _ _ ?_)
  refine wp_rs fun K2 hK2 => ?_
  refine s_val hF (x_fa0 fa27_0 rfl) (by decide) fun a hF => ?_
  refine s_val hF (x_load rfl (m_load flat3 (m4.cell (j := 0) rfl))) (by decide) fun a hF => ?_
  refine s_val hF (x_move rfl) (by decide) fun a hF => ?_
  refine s_val hF (x_build (vs := [(0, _), (5, _)]) rfl (b27_05 _ _ _ _ _)) (by decide) fun a hF => ?_
  refine s_alloc hF (by decide) zero27 fun w6 b7 a eb7 m7 B7 zb7 hF => ?_
  have sB7 := B7.size
  have hK := hK.below B7
  have m4 := m4.old B7
  have m6 := m6.old B7
  have hR := hR.below B7
  refine s_putW hF rfl rfl (size_wide wide27) m7 rfl (one_tc0 _ _ _ _ rfl) fun w10 m7 o11 => ?_
  have so11 := o11.size
  have hK := hK.only o11 (by omega)
  have m4 := m4.only o11 (by omega)
  have m6 := m6.only o11 (by omega)
  have hR := hR.only o11 (by omega)
  refine s_end (hK2 _ _ ?_)
  refine wp_seq_k fun K3 hK3 => ?_
  refine wp_rs fun K4 hK4 => ?_
  refine s_val hF (x_fa0 fa27_0 rfl) (by decide) fun a hF => ?_
  refine s_val hF (x_load rfl (m_load flat3 (m4.cell (j := 0) rfl))) (by decide) fun a hF => ?_
  refine s_end (hK4 _ _ ?_)
  refine wp_block ?_
  rcases (show xk = 1 ∨ xk = 2 ∨ xk = 7 ∨ (xk ≠ 1 ∧ xk ≠ 2 ∧ xk ≠ 7) by omega) with hk9 | hk9 | hk9 | hk9
  · obtain ⟨n9, m9, rfl⟩ := hx.var_of hk9
    obtain rfl : ps = [] := List.eq_nil_of_length_eq_zero hl
    have hn9 : xn = n9 := hx.2.1
    have hi9 : in64 n9 := hx.2.2.1
    subst hk9 hn9
    refine wp_rs fun K6 hK6 => ?_
    refine s_val hF (x_eql (b := true) (decide_eq_true (by omega)) rfl rfl) (by decide) fun a hF => ?_
    refine s_val hF (x_assign rfl) (by decide) fun a hF => ?_
    refine s_end (hK6 _ _ ?_)
    refine wp_if hF rfl ?_
    refine wp_region_lit ?_
    refine s_val hF (x_fa0 fa27_1 rfl) (by decide) fun a hF => ?_
    refine s_val hF (x_load rfl (m_load flat3 (m4.cell (j := 1) rfl))) (by decide) fun a hF => ?_
    refine s_val hF (x_fa0 fa27_1 rfl) (by decide) fun a hF => ?_
    refine s_put hF rfl rfl flat3 m7 (by first | (simp; done) | (simp [tc, lc]; done) | decide) rfl fun w12 m7 o13 => ?_
    have so13 := o13.size
    have hK := hK.only o13 (by omega)
    have m4 := m4.only o13 (by omega)
    have m6 := m6.only o13 (by omega)
    have hR := hR.only o13 (by omega)
    refine s_end (hK3 _ _ ?_)
    have h1Y := ((show RE w12 (fun k => A k ∨ W.heap.size ≤ k) _ _ from RE_var hi9 ((hV.keep hK.size (fun k hk hb => hK.block k hb (hA2 k hk))).mono (fun k hk => .inl hk)))).one
    refine wp_rs fun K7 hK7 => ?_
    refine s_val hF (x_ldW wide27 m7 rfl rfl) (by decide) fun a hF => ?_
    refine s_putW hF rfl rfl (size_wide wide27) m6 rfl h1Y fun w16 m6 o17 => ?_
    have so17 := o17.size
    have hK := hK.only o17 (by omega)
    have m4 := m4.only o17 (by omega)
    have m7 := m7.only o17 (by omega)
    have hR := hR.only o17 (by omega)
    refine s_end (hK7 _ _ ?_)
    refine wp_ret (res_cell hF rfl rfl m6 wide27 ⟨_, rfl, ⟨⟨_, rfl, RE_var hi9 ((hV.keep hK.size (fun k hk hb => hK.block k hb (hA2 k hk))).mono (fun k hk => .inl hk))⟩, hR⟩, hK⟩)
  · obtain ⟨l, m9, rfl⟩ := hx.sort_of hk9
    obtain rfl : ps = [] := List.eq_nil_of_length_eq_zero hl
    have hxl : RLn W A xl l := hx.2.1
    subst hk9
    refine wp_rs fun K8 hK8 => ?_
    refine s_val hF (x_eql (b := false) (decide_eq_false (by omega)) rfl rfl) (by decide) fun a hF => ?_
    refine s_val hF (x_assign rfl) (by decide) fun a hF => ?_
    refine s_end (hK8 _ _ ?_)
    refine wp_if hF rfl ?_
    refine wp_rs fun K9 hK9 => ?_
    refine s_val hF (x_eql (b := true) (decide_eq_true (by omega)) rfl rfl) (by decide) fun a hF => ?_
    refine s_val hF (x_assign rfl) (by decide) fun a hF => ?_
    refine s_end (hK9 _ _ ?_)
    refine wp_if hF rfl ?_
    refine wp_region_lit ?_
    refine s_val hF (x_move rfl) (by decide) fun a hF => ?_
    refine s_val hF (x_fa0 fa27_3 rfl) (by decide) fun a hF => ?_
    refine s_val hF (x_load rfl (m_loadP (vs := [_, _, _]) wide24 m4 rfl)) (by decide) fun a hF => ?_
    refine s_litG [lv xl] el22 hF (by decide) rfl (by simp [Value.cells, lc]) rfl (by decide) (by decide) fun w18 bl a ebl ml B19 zbl hF => ?_
    have sB19 := B19.size
    have hK := hK.below B19
    have m4 := m4.old B19
    have m6 := m6.old B19
    have m7 := m7.old B19
    have hR := hR.below B19
    have ml : Blk w18 bl 24 (lc xl) := by simpa [Value.cells] using ml
    have hbl1 := ml.lt
    have hrl : RVn w18 (fun k => A k ∨ k = bl) (.slice (some ⟨bl, 0, none⟩) 1 1) [l] := ⟨[xl], ⟨by simpa using Rd.blk ml (n := 1) rfl, fun _ b hb => by simp [Value.ownBlock] at hb; exact .inr hb.symm⟩, rfl, fun i x l2 e1 e2 => by rcases i with _ | i; (· simp at e1 e2; subst e1 e2; exact RLn.mono (fun k hk => .inl hk) (hxl.keep hK.size (fun k hk hb => hK.block k hb (hA2 k hk)))); simp at e1⟩
    refine s_call (R := fun u w' => ((∃ ls', RVn w' (fun k => (A k ∨ k = bl) ∨ w18.heap.size ≤ k) u ls' ∧ ls'.map slO = [l].map slO) ∧ Room w' br) ∧ Ktw br br w18 w') hF [_, _] (enters_of Try.func113 (by kernel_rfl) rfl) rfl (by decide) (levels130 w18 br (by omega) (fun k => A k ∨ k = bl) (fun k hk => by rcases hk with hk | rfl; (· have := hA k hk; omega); omega) [l] _ hrl hR) ?_
    rintro v25 w20 a ⟨⟨⟨ls2, hv25, he25⟩, hR⟩, k21⟩ hF
    have sk21 := k21.size
    have hK := hK.trans k21 (by omega)
    have m4 := m4.k2 k21 (by omega)
    have m6 := m6.k2 k21 (by omega)
    have m7 := m7.k2 k21 (by omega)
    have ml := ml.k2 k21 (by omega)
    obtain ⟨l2, rfl⟩ : ∃ l2, ls2 = [l2] := List.length_eq_one_iff.1 (by simpa using congrArg List.length he25)
    obtain ⟨b9, off9, c9, z, l3, hve, hyk, hz, hAb, hbl, hrow⟩ := hv25.row (i := 0) (by simp)
    subst hve
    simp only [List.length_singleton] at hF
    simp at hyk
    subst hyk
    simp at he25
    have hz : RLx w20 (fun k => (A k ∧ k < W.heap.size ∧ k ≠ br) ∨ k = bl ∨ w18.heap.size ≤ k) z l2 := RLx.mono hz (fun k hk => by rcases hk with (hk | hk) | hk; (· exact .inl ⟨hk, (hA k hk).2, (hA k hk).1⟩); (· exact .inr (.inl hk)); exact .inr (.inr hk))
    refine s_val hF (x_ixa rfl rfl (m_ixsK 0 Try.underlying22 el22.size rfl (by omega))) (by decide) fun a hF => ?_
    refine s_val hF (x_ldA wide24 (hrow _ rfl) rfl rfl) (by decide) fun a hF => ?_
    refine s_val hF (x_fa0 fa27_3 rfl) (by decide) fun a hF => ?_
    refine s_putP hF rfl rfl (size_wide wide24) m7 (by first | (simp [tc, lc]; done) | decide) (one_lc hz.rl.one1) fun w22 m7 o23 => ?_
    have so23 := o23.size
    have hK := hK.only o23 (by omega)
    have m4 := m4.only o23 (by omega)
    have m6 := m6.only o23 (by omega)
    have ml := ml.only o23 (by omega)
    have hz := hz.only o23 (fun k (hk : (A k ∧ k < W.heap.size ∧ k ≠ br) ∨ k = bl ∨ w18.heap.size ≤ k) => by omega)
    have hR := hR.only o23 (by omega)
    refine s_end (hK3 _ _ ?_)
    have h1Y := ((show RE w22 (fun k => A k ∨ W.heap.size ≤ k) _ _ from RE_sort (RLn.mono (fun k hk => by rcases hk with hk | hk | hk; (· exact .inl hk.1); (· exact .inr (by omega)); exact .inr (by omega)) hz) he25 ((hV.keep hK.size (fun k hk hb => hK.block k hb (hA2 k hk))).mono (fun k hk => .inl hk)))).one
    refine wp_rs fun K10 hK10 => ?_
    refine s_val hF (x_ldW wide27 m7 rfl rfl) (by decide) fun a hF => ?_
    refine s_putW hF rfl rfl (size_wide wide27) m6 rfl h1Y fun w26 m6 o27 => ?_
    have so27 := o27.size
    have hK := hK.only o27 (by omega)
    have m4 := m4.only o27 (by omega)
    have m7 := m7.only o27 (by omega)
    have ml := ml.only o27 (by omega)
    have hz := hz.only o27 (fun k (hk : (A k ∧ k < W.heap.size ∧ k ≠ br) ∨ k = bl ∨ w18.heap.size ≤ k) => by omega)
    have hR := hR.only o27 (by omega)
    refine s_end (hK10 _ _ ?_)
    refine wp_ret (res_cell hF rfl rfl m6 wide27 ⟨_, rfl, ⟨⟨_, rfl, RE_sort (RLn.mono (fun k hk => by rcases hk with hk | hk | hk; (· exact .inl hk.1); (· exact .inr (by omega)); exact .inr (by omega)) hz) he25 ((hV.keep hK.size (fun k hk hb => hK.block k hb (hA2 k hk))).mono (fun k hk => .inl hk))⟩, hR⟩, hK⟩)
  · obtain ⟨s9, ls, m9, rfl⟩ := hx.cst_of hk9
    obtain rfl : ps = [] := List.eq_nil_of_length_eq_zero hl
    have hs9 : xs = s9 := hx.2.1
    have hxls : RVn W A xls ls := hx.2.2.1
    subst hk9 hs9
    refine wp_rs fun K11 hK11 => ?_
    refine s_val hF (x_eql (b := false) (decide_eq_false (by omega)) rfl rfl) (by decide) fun a hF => ?_
    refine s_val hF (x_assign rfl) (by decide) fun a hF => ?_
    refine s_end (hK11 _ _ ?_)
    refine wp_if hF rfl ?_
    refine wp_rs fun K12 hK12 => ?_
    refine s_val hF (x_eql (b := false) (decide_eq_false (by omega)) rfl rfl) (by decide) fun a hF => ?_
    refine s_val hF (x_assign rfl) (by decide) fun a hF => ?_
    refine s_end (hK12 _ _ ?_)
    refine wp_if hF rfl ?_
    refine wp_rs fun K13 hK13 => ?_
    refine s_val hF (x_eql (b := true) (decide_eq_true (by omega)) rfl rfl) (by decide) fun a hF => ?_
    refine s_val hF (x_assign rfl) (by decide) fun a hF => ?_
    refine s_end (hK13 _ _ ?_)
    refine wp_if hF rfl ?_
    refine dk2_one (br) (b7) (ops := regOps Try.f73 8) (N := 10) (by kernel_rfl) wide_orders (by kernel_rfl) fun w28 hw28 B29 hS K14 hK14 => ?_
    have zw28 : w28.heap.size = w10.heap.size := by rw [hw28]
    have sB29 := B29.size
    have hK := hK.below B29
    have m4 := m4.old B29
    have m6 := m6.old B29
    have m7 := m7.old B29
    have hR := hR.below B29
    have hR_d := hR
    have m4_d := m4
    have m6_d := m6
    have m7_d := m7
    have hK_d := hK
    refine d_val 0 31 (op := (Go.Op.fieldAddr 27 (Go.Operand.tmp 4) 2)) hF hS (by kernel_rfl) (fun W hW => x_fa0 fa27_2 rfl) (by kernel_rfl) (by decide) fun a hF => ?_
    refine d_val 1 32 (op := (Go.Op.load 9 (Go.Operand.tmp 31))) hF hS (by kernel_rfl) (fun W hW => x_load rfl (m_load flat9 ((m4_d.k2 hW (by omega)).cell (j := 2) rfl))) (by kernel_rfl) (by decide) fun a hF => ?_
    refine d_val 2 33 (op := (Go.Op.move (Go.Operand.tmp 0))) hF hS (by kernel_rfl) (fun W hW => x_move rfl) (by kernel_rfl) (by decide) fun a hF => ?_
    refine d_val 3 34 (op := (Go.Op.fieldAddr 27 (Go.Operand.tmp 4) 4)) hF hS (by kernel_rfl) (fun W hW => x_fa0 fa27_4 rfl) (by kernel_rfl) (by decide) fun a hF => ?_
    refine d_val 4 35 (op := (Go.Op.load 22 (Go.Operand.tmp 34))) hF hS (by kernel_rfl) (fun W hW => x_load rfl (m_load flat22 ((m4_d.k2 hW (by omega)).cell (j := 6) rfl))) (by kernel_rfl) (by decide) fun a hF => ?_
    refine d_val 6 37 (op := (Go.Op.fieldAddr 27 (Go.Operand.tmp 7) 2)) hF hS (by kernel_rfl) (fun W hW => x_fa0 fa27_2 rfl) (by kernel_rfl) (by decide) fun a hF => ?_
    refine d_one 5 (some 36) (Go.Op.call (Go.Call.mk (Go.Callee.value (Go.Operand.func 113)) #[(Go.Operand.tmp 33), (Go.Operand.tmp 35)] #[61, 22])) (by kernel_rfl) (by kernel_rfl) fun ty pos af => ?_
    refine s_call (R := fun u w' => ((∃ ls', RVn w' (fun k => A k ∨ w28.heap.size ≤ k) u ls' ∧ ls'.map slO = ls.map slO) ∧ Room w' br) ∧ Ktw br br w28 w') hF [_, _] (enters_of Try.func113 (by kernel_rfl) rfl) rfl (by decide) (levels130 w28 br (by omega) A (fun k hk => ⟨(hA k hk).1, by have := (hA k hk).2; omega⟩) ls _ (hxls.k2 hK hA2) hR) ?_
    rintro v36 w30 a ⟨⟨⟨ls2, hv36, he36⟩, hR⟩, k31⟩ hF
    have sk31 := k31.size
    have hK := hK.trans k31 (by omega)
    have m4 := m4.k2 k31 (by omega)
    have m6 := m6.k2 k31 (by omega)
    have m7 := m7.k2 k31 (by omega)
    have hS := hS.trans k31 (by omega)
    have hv36 : RVn w30 (fun k => (A k ∧ k < W.heap.size ∧ k ≠ br) ∨ w28.heap.size ≤ k) v36 ls2 := hv36.mono (fun k hk => by rcases hk with hk | hk; (· exact .inl ⟨hk, (hA k hk).2, (hA k hk).1⟩); exact .inr hk)
    have h1v := hv36.one
    refine s_end ⟨hS, ?_⟩
    refine d_one 7 none (Go.Op.store 9 (Go.Operand.tmp 37) (Go.Operand.tmp 32)) (by kernel_rfl) (by kernel_rfl) fun ty pos af => ?_
    refine s_put hF rfl rfl flat9 m7 (by first | (simp; done) | (simp [tc, lc]; done) | decide) rfl fun w32 m7 o33 => ?_
    have so33 := o33.size
    have hK := hK.only o33 (by omega)
    have m4 := m4.only o33 (by omega)
    have m6 := m6.only o33 (by omega)
    have hv36 := hv36.only o33 (fun k (hk : (A k ∧ k < W.heap.size ∧ k ≠ br) ∨ w28.heap.size ≤ k) => by omega)
    have hS := hS.only o33 (by omega)
    have hR := hR.only o33 (by omega)
    refine s_end ⟨hS, ?_⟩
    refine d_val 8 38 (op := (Go.Op.fieldAddr 27 (Go.Operand.tmp 7) 4)) hF hS (by kernel_rfl) (fun W hW => x_fa0 fa27_4 rfl) (by kernel_rfl) (by decide) fun a hF => ?_
    refine d_one 9 none (Go.Op.store 22 (Go.Operand.tmp 38) (Go.Operand.tmp 36)) (by kernel_rfl) (by kernel_rfl) fun ty pos af => ?_
    refine s_put hF rfl rfl flat22 m7 (by first | (simp; done) | (simp [tc, lc]; done) | decide) h1v fun w34 m7 o35 => ?_
    have so35 := o35.size
    have hK := hK.only o35 (by omega)
    have m4 := m4.only o35 (by omega)
    have m6 := m6.only o35 (by omega)
    have hv36 := hv36.only o35 (fun k (hk : (A k ∧ k < W.heap.size ∧ k ≠ br) ∨ w28.heap.size ≤ k) => by omega)
    have hS := hS.only o35 (by omega)
    have hR := hR.only o35 (by omega)
    refine s_end ⟨hS, ?_⟩
    refine d_end (by kernel_rfl) (hK14 _ _ ?_)
    refine hK3 _ _ ?_
    have h1Y := ((show RE w34 (fun k => A k ∨ W.heap.size ≤ k) _ _ from RE_cst (s := xs) (hv36.mono (fun k hk => by rcases hk with hk | hk; (· exact .inl hk.1); exact .inr (by omega))) he36 ((hV.keep hK.size (fun k hk hb => hK.block k hb (hA2 k hk))).mono (fun k hk => .inl hk)))).one
    refine wp_rs fun K15 hK15 => ?_
    refine s_val hF (x_ldW wide27 m7 rfl rfl) (by decide) fun a hF => ?_
    refine s_putW hF rfl rfl (size_wide wide27) m6 rfl h1Y fun w38 m6 o39 => ?_
    have so39 := o39.size
    have hK := hK.only o39 (by omega)
    have m4 := m4.only o39 (by omega)
    have m7 := m7.only o39 (by omega)
    have hv36 := hv36.only o39 (fun k (hk : (A k ∧ k < W.heap.size ∧ k ≠ br) ∨ w28.heap.size ≤ k) => by omega)
    have hR := hR.only o39 (by omega)
    refine s_end (hK15 _ _ ?_)
    refine wp_ret (res_cell hF rfl rfl m6 wide27 ⟨_, rfl, ⟨⟨_, rfl, RE_cst (s := xs) (hv36.mono (fun k hk => by rcases hk with hk | hk; (· exact .inl hk.1); exact .inr (by omega))) he36 ((hV.keep hK.size (fun k hk hb => hK.block k hb (hA2 k hk))).mono (fun k hk => .inl hk))⟩, hR⟩, hK⟩)
  · skip
    refine wp_rs fun K16 hK16 => ?_
    refine s_val hF (x_eql (b := false) (decide_eq_false (by omega)) rfl rfl) (by decide) fun a hF => ?_
    refine s_val hF (x_assign rfl) (by decide) fun a hF => ?_
    refine s_end (hK16 _ _ ?_)
    refine wp_if hF rfl ?_
    refine wp_rs fun K17 hK17 => ?_
    refine s_val hF (x_eql (b := false) (decide_eq_false (by omega)) rfl rfl) (by decide) fun a hF => ?_
    refine s_val hF (x_assign rfl) (by decide) fun a hF => ?_
    refine s_end (hK17 _ _ ?_)
    refine wp_if hF rfl ?_
    refine wp_rs fun K18 hK18 => ?_
    refine s_val hF (x_eql (b := false) (decide_eq_false (by omega)) rfl rfl) (by decide) fun a hF => ?_
    refine s_val hF (x_assign rfl) (by decide) fun a hF => ?_
    refine s_end (hK18 _ _ ?_)
    refine wp_if hF rfl ?_
    refine wp_skip (hK3 _ _ ?_)
    have h1Y := ((show RE w10 (fun k => A k ∨ W.heap.size ≤ k) _ _ from RE_rest hx hk9 ((hV.keep hK.size (fun k hk hb => hK.block k hb (hA2 k hk))).mono (fun k hk => .inl hk)) hl)).one
    refine wp_rs fun K19 hK19 => ?_
    refine s_val hF (x_ldW wide27 m7 rfl rfl) (by decide) fun a hF => ?_
    refine s_putW hF rfl rfl (size_wide wide27) m6 rfl h1Y fun w42 m6 o43 => ?_
    have so43 := o43.size
    have hK := hK.only o43 (by omega)
    have m4 := m4.only o43 (by omega)
    have m7 := m7.only o43 (by omega)
    have hR := hR.only o43 (by omega)
    refine s_end (hK19 _ _ ?_)
    refine wp_ret (res_cell hF rfl rfl m6 wide27 ⟨_, rfl, ⟨⟨_, rfl, RE_rest hx hk9 ((hV.keep hK.size (fun k hk hb => hK.block k hb (hA2 k hk))).mono (fun k hk => .inl hk)) hl⟩, hR⟩, hK⟩)
end Go.Proofs.Ytaclncmkdpjnlaa
