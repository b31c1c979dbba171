/- joined, placesOf, holds, applied. -/
import Derived.Test.YtaclncmkdpjnlaaTerm9
namespace Go.Proofs.Ytaclncmkdpjnlaa
open Go.RowKit Go.Shelf
set_option linter.unusedVariables false
set_option linter.unusedSimpArgs false

theorem Room.k2 {W W' : World} {br a b : Nat} (h : Room W br) (hK : Ktw a b W W') (hb : br ≠ a ∧ br ≠ b) : Room W' br := let ⟨r, h1, h2⟩ := h; ⟨r, h1.k2 hK hb, h2⟩
/-- Terms, one behind the other. -/
def QT (W : World) (A : Nat → Prop) (zs : List C8) (ps : List PT) : Prop := zs.length = ps.length ∧ ∀ (j : Nat) z p, zs[j]? = some z → ps[j]? = some p → RE W A p z
section
variable {W W' : World} {A B : Nat → Prop} {zs : List C8} {ps : List PT}
theorem QT.nil : QT W A [] [] := ⟨rfl, fun j z p h => by simp at h⟩
theorem QT.mono (h : QT W A zs ps) (hm : ∀ k, A k → B k) : QT W B zs ps := ⟨h.1, fun j z p h1 h2 => (h.2 j z p h1 h2).mono hm⟩
theorem QT.keep (h : QT W A zs ps) (hs : W.heap.size ≤ W'.heap.size) (hk : ∀ k, A k → k < W.heap.size → W'.heap[k]? = W.heap[k]?) : QT W' A zs ps := ⟨h.1, fun j z p h1 h2 => RE.keep hs hk (h.2 j z p h1 h2)⟩
theorem QT.below (h : QT W A zs ps) (hB : Below W.heap.size W W') : QT W' A zs ps := h.keep hB.size fun k _ hk => hB.block k hk
theorem QT.only {c : Nat} (h : QT W A zs ps) (o : Only c W W') (hc : ∀ k, A k → k ≠ c) : QT W' A zs ps := h.keep (Nat.le_of_eq o.size.symm) fun k ha _ => o.block k (hc k ha)
theorem QT.k2 {a b : Nat} (h : QT W A zs ps) (hK : Ktw a b W W') (hc : ∀ k, A k → k ≠ a ∧ k ≠ b) : QT W' A zs ps := h.keep hK.size fun k ha hk => hK.block k hk (hc k ha)
theorem QT.snoc {z : C8} {p : PT} (h : QT W A zs ps) (hz : RE W A p z) : QT W A (zs ++ [z]) (ps ++ [p]) := by
  refine ⟨by simp [h.1], fun j y q e1 e2 => ?_⟩
  rcases Nat.lt_trichotomy j zs.length with hj | hj | hj
  · rw [List.getElem?_append_left hj] at e1
    rw [List.getElem?_append_left (by have := h.1; omega)] at e2
    exact h.2 j y q e1 e2
  · subst hj
    rw [List.getElem?_append_right (Nat.le_refl _)] at e1
    rw [h.1, List.getElem?_append_right (Nat.le_refl _)] at e2
    simp at e1 e2
    subst e1 e2
    exact hz
  · rw [List.getElem?_eq_none (by simp; omega)] at e1
    cases e1
theorem QT.rke {v : Value} (h : QT W A zs ps) (hR : Rd W v 8 zs.length (zs.flatMap tc)) (hA : ∀ j, v.ownBlock = some j → A j) : RKE W A v ps := ⟨zs, ⟨hR, fun _ j hj => hA j hj⟩, h.1, h.2⟩
end
theorem fm8_app (xs : List C8) (y : C8) : (xs ++ [y]).flatMap tc = xs.flatMap tc ++ tc y := by simp
/-- RE, by another name. -/
def REx (W : World) (A : Nat → Prop) (p : PT) (x : C8) : Prop := RE W A p x
section
variable {W W' : World} {A B : Nat → Prop} {p : PT} {x : C8}
theorem REx.below (h : REx W A p x) (hB : Below W.heap.size W W') : REx W' A p x := RE.below h hB
theorem REx.only {c : Nat} (h : REx W A p x) (o : Only c W W') (hc : ∀ k, A k → k ≠ c) : REx W' A p x := RE.only h o (fun ha => hc c ha rfl)
theorem REx.k2 {a b : Nat} (h : REx W A p x) (hK : Ktw a b W W') (hc : ∀ k, A k → k ≠ a ∧ k ≠ b) : REx W' A p x := RE.k2 h hK (fun ha => (hc a ha).1 rfl) (fun hb => (hc b hb).2 rfl)
end

set_option maxRecDepth 100000 in
set_option maxHeartbeats 400000 in
theorem joined60 (W : World) (br : Nat) (hbr : br < W.heap.size) (A : Nat → Prop) (hA : ∀ k, A k → k ≠ br ∧ k < W.heap.size) (kd : Int) (cs : List CT) (v : Value) (hV : RK W A v cs) (hlen : cs.length ≤ 1000000) (hR : Room W br) :
    Calls Try.prog 49 #[.pointer (some ⟨br, 0, none⟩), .int .i64 kd, v] W fun e w' => ∃ u, e = .returned u ∧ ((∃ v', u = tv ⟨kd, 0, emptyB, (0, 0, nilS), nilS, v'⟩ ∧ RKE w' (AS A W.heap.size) v' (cs.map CT.ess)) ∧ Room w' br) ∧ Ktw br br W w' := by
  have hK := Ktw.refl br br W
  have sK := hK.size
  have hA2 : ∀ k, A k → k ≠ br ∧ k ≠ br := fun k hk => ⟨(hA k hk).1, (hA k hk).1⟩
  obtain ⟨av, cv, hve, _⟩ := hV.form
  subst hve
  refine calls_fs 26 [(0, .pointer (some ⟨br, 0, none⟩)), (1, .int .i64 kd), (2, .slice av cs.length cv)] Try.func49 rfl rfl rfl rfl rfl fun a hF => ?_
  refine wp_rs fun K1 hK1 => ?_
  refine s_alloc hF (by decide) zero27 fun w2 b6 a eb6 m6 B3 zb6 hF => ?_
  have sB3 := B3.size
  have hK := hK.below B3
  have hR := hR.below B3
  refine s_end (hK1 _ _ ?_)
  refine wp_rs fun K2 hK2 => ?_
  refine s_val hF (x_assign rfl) (by decide) fun a hF => ?_
  refine s_end (hK2 _ _ ?_)
  refine wp_seq_k fun K3 hK3 => ?_
  refine wp_rs fun K4 hK4 => ?_
  refine s_val hF (x_move rfl) (by decide) fun a hF => ?_
  refine s_val hF (x_len Try.underlying25 rfl) (by decide) fun a hF => ?_
  refine s_val hF (x_move rfl) (by decide) fun a hF => ?_
  refine s_end (hK4 _ _ ?_)
  refine wp_block ?_
  refine wp_up cs.length (fun i a w => ∃ v' o' zs, w.ownsRow W.heap.size 27 8 v' zs.length (zs.flatMap tc) ∧ (∀ j, v'.ownBlock = some j → j = o') ∧ v'.ownBlock ≠ some b6 ∧ ((o' = b6 ∨ b6 < o') ∧ o' < w.heap.size) ∧ QT w (fun k => ((k < W.heap.size ∧ k ≠ br ∧ A k) ∨ b6 < k) ∧ k ≠ o' ∧ k < w.heap.size) zs ((cs.map CT.ess).take i) ∧ Room w br ∧ Blk w b6 27 z8 ∧ Ktw br br W w ∧ Fs 26 a [(0, .pointer (some ⟨br, 0, none⟩)), (1, .int .i64 kd), (6, .pointer (some ⟨b6, 0, none⟩)), (7, v'), (10, .slice av cs.length cv), (11, .int .i64 (cs.length : Int)), (12, .int .i64 (i : Int))]) ⟨_, b6, [], World.ownsRow_nil _ _ _ _, (fun j h => by cases h), (fun h => by cases h), by have := m6.lt; omega, by rw [List.take_zero]; exact QT.nil, hR, m6, hK, hF.sub _ rfl⟩ ?_
  have hb6 : W.heap.size ≤ b6 := by omega
  repeat clear hF
  clear hK hR m6
  rintro i a w hi ⟨vv, o2, zs, hO, hat, hne, hlo, hP, hR, m6, hK, hF⟩ K' hK'
  have sK := hK.size
  have hb6l := m6.lt
  obtain ⟨top, htop⟩ : ∃ h, h = w.heap.size := ⟨_, rfl⟩
  rw [← htop] at hP
  have hPl := hP.1
  rw [List.length_take, List.length_map] at hPl
  have h1vv := (Rd.own hO).one
  refine wp_rs fun K5 hK5 => ?_
  refine s_val hF (x_lss (b := decide (i < cs.length)) (decide_eq_decide.2 (by omega)) rfl rfl) (by decide) fun a hF => ?_
  refine s_end (hK5 _ _ ?_)
  refine wp_seq_k fun K6 hK6 => ?_
  refine wp_iff hF rfl (fun hc13 => ?_) (fun hc13 => ?_)
  · obtain ⟨b9, off9, c9, y, p, hve, hp, hry, hAb, hbl, hrow⟩ := hV.row (i := i) (by omega)
    cases hve
    have hAb2 := hA _ hAb
    refine wp_skip (hK6 _ _ ?_)
    refine wp_seq_k fun K7 hK7 => ?_
    refine wp_block ?_
    refine wp_rs fun K8 hK8 => ?_
    refine s_val hF (x_ixa rfl rfl (m_ixsK i Try.underlying25 el25.size rfl (by omega))) (by decide) fun a hF => ?_
    refine s_val hF (x_ldA wide27 (hrow _ (hK.block _ hbl ⟨hAb2.1, hAb2.1⟩)) rfl rfl) (by decide) fun a hF => ?_
    refine s_alloc hF (by decide) zero27 fun w4 b9 a eb9 m9 B5 zb9 hF => ?_
    have sB5 := B5.size
    have hK := hK.below B5
    have m6 := m6.old B5
    have hO := own_below hO B5
    have hP := hP.below B5
    have hR := hR.below B5
    refine s_putW hF rfl rfl (size_wide wide27) m9 rfl hry.one fun w8 m9 o9 => ?_
    have so9 := o9.size
    have hK := hK.only o9 (by omega)
    have m6 := m6.only o9 (by omega)
    have hO := own_only hO o9 (fun e => by have := hat _ e; omega)
    have hP := hP.only o9 (fun k (hk : ((k < W.heap.size ∧ k ≠ br ∧ A k) ∨ b6 < k) ∧ k ≠ o2 ∧ k < top) => by omega)
    have hR := hR.only o9 (by omega)
    refine s_end (hK8 _ _ ?_)
    refine wp_region_lit ?_
    refine s_val hF (x_move rfl) (by decide) fun a hF => ?_
    refine s_val hF (x_move rfl) (by decide) fun a hF => ?_
    refine s_val hF (x_ldW wide27 m9 rfl rfl) (by decide) fun a hF => ?_
    refine s_call (R := fun u w' => ((∃ z, u = tv z ∧ REx w' (AS A w8.heap.size) p.ess z) ∧ Room w' br) ∧ Ktw br br w8 w') hF [_, _] (enters_of Try.func46 (by kernel_rfl) rfl) rfl (by decide) (owned57 w8 br (by omega) A (fun k hk => ⟨(hA k hk).1, by have := (hA k hk).2; omega⟩) p y (hry.keep hK.size (fun k hk hb => hK.block k hb (hA2 k hk))) hR) ?_
    rintro _ w10 a ⟨⟨⟨z, rfl, hz0⟩, hR⟩, k11⟩ hF
    have sk11 := k11.size
    have hK := hK.trans k11 (by omega)
    have m6 := m6.k2 k11 (by omega)
    have hO := own_k2 hO k11 (fun c hc => by have := hat c hc; omega)
    have hP := hP.k2 k11 (fun k (hk : ((k < W.heap.size ∧ k ≠ br ∧ A k) ∨ b6 < k) ∧ k ≠ o2 ∧ k < top) => by omega)
    have m9 := m9.k2 k11 (by omega)
    have hz := RE.valid hz0
    clear hz0
    have hz : REx w10 (fun k => ((k < W.heap.size ∧ k ≠ br ∧ A k) ∨ w8.heap.size ≤ k) ∧ k < w10.heap.size) p.ess z := hz.mono (fun k hk => ⟨hk.1.elim (fun h => .inl ⟨(hA k h).2, (hA k h).1, h⟩) .inr, hk.2⟩)
    have h1z := RE.one hz
    refine s_litG [tv z] el25 hF (by decide) rfl (by simp [Value.cells, tc]) rfl (by decide) (by decide) fun w12 bl a ebl ml B13 zbl hF => ?_
    have sB13 := B13.size
    have hK := hK.below B13
    have m6 := m6.old B13
    have hO := own_below hO B13
    have hP := hP.below B13
    have m9 := m9.old B13
    have hz := hz.below B13
    have hR := hR.below B13
    have ml : Blk w12 bl 27 (tc z) := by simpa [Value.cells] using ml
    refine s_appL (o := o2) el25 hF (by decide) rfl rfl hO ml rfl h1z hat (by omega) (by omega) (by decide) (by omega) fun v3 w14 a o3 hOn hOatn how hsrc k15 hkeep hF => ?_
    have sk15 := k15.size
    have hK := hK.trans k15 (by omega)
    have m6 : Blk w14 b6 _ _ := (hkeep _ m6.lt hne).trans m6
    have hP := hP.k2 k15 (fun k (hk : ((k < W.heap.size ∧ k ≠ br ∧ A k) ∨ b6 < k) ∧ k ≠ o2 ∧ k < top) => by omega)
    have m9 := m9.k2 k15 (by omega)
    have hz := hz.k2 k15 (fun k (hk : ((k < W.heap.size ∧ k ≠ br ∧ A k) ∨ w8.heap.size ≤ k) ∧ k < w10.heap.size) => by omega)
    have ml := ml.k2 k15 (by omega)
    have hO := hOn
    have hO_at := hOatn
    have hneg : v3.ownBlock ≠ some b6 := fun h => by rcases hsrc b6 h with h | h; exact hne h; omega
    have hR := hR.k2 k15 (by omega)
    refine s_val hF (x_assign rfl) (by decide) fun a hF => ?_
    refine s_end (hK7 _ _ ?_)
    refine wp_region_lit ?_
    refine s_val hF (x_addn (i + 1) (by omega) (by omega) rfl rfl) (by decide) fun a hF => ?_
    refine s_val hF (x_move rfl) (by decide) fun a hF => ?_
    have hL2 : (cs.map CT.ess).take (i + 1) = (cs.map CT.ess).take i ++ [p.ess] := take_snoc (by rw [List.getElem?_map, hp]; rfl)
    refine s_end (hK' _ _ (by omega) ⟨v3, o3, zs ++ [z], by rw [fm8_app]; simpa using hO, hO_at, hneg, by omega, by rw [hL2]; exact (hP.mono (fun k (hk : ((k < W.heap.size ∧ k ≠ br ∧ A k) ∨ b6 < k) ∧ k ≠ o2 ∧ k < top) => ⟨hk.1, by omega, by omega⟩)).snoc (RE.mono (fun k (hk : ((k < W.heap.size ∧ k ≠ br ∧ A k) ∨ w8.heap.size ≤ k) ∧ k < w10.heap.size) => ⟨hk.1.elim .inl (fun h => .inr (by omega)), by omega, by omega⟩) hz), hR, m6, hK, hF.sub _ rfl⟩)
  · obtain rfl : i = cs.length := by omega
    rw [List.take_of_length_le (by rw [List.length_map]; exact Nat.le_refl _)] at hP
    obtain ⟨avv, nvv, cvv, hvv⟩ : ∃ a n c, vv = .slice a n c := by obtain ⟨a, c, h, _⟩ := (Rd.own hO).form; exact ⟨a, _, c, h⟩
    subst hvv
    refine wp_exit (hK3 _ _ ?_)
    refine wp_rs fun K9 hK9 => ?_
    refine s_val hF (x_move rfl) (by decide) fun a hF => ?_
    refine s_val hF (x_move rfl) (by decide) fun a hF => ?_
    refine s_val hF (x_build (vs := [(0, _), (5, _)]) rfl (b27_05 _ _ _ _ _)) (by decide) fun a hF => ?_
    refine s_putW hF rfl rfl (size_wide wide27) m6 rfl (one_tc0 _ _ _ _ h1vv) fun w18 m6 o19 => ?_
    have so19 := o19.size
    have hK := hK.only o19 (by omega)
    have hO := own_only hO o19 (hne)
    have hP := hP.only o19 (fun k (hk : ((k < W.heap.size ∧ k ≠ br ∧ A k) ∨ b6 < k) ∧ k ≠ o2 ∧ k < top) => by omega)
    have hR := hR.only o19 (by omega)
    refine s_end (hK9 _ _ ?_)
    refine wp_ret (res_cell hF rfl rfl m6 wide27 ⟨_, rfl, ⟨⟨_, rfl, (hP.mono (B := AS A W.heap.size) (fun k hk => hk.1.elim (fun h => .inl h.2.2) (fun h => .inr (by omega)))).rke (Rd.own hO) (fun j h => .inr (hO.lt j h).1)⟩, hR⟩, hK⟩)

def plc (o p : Int × Int) : Int × Int := (o.1 + p.1, if 0 < p.1 then max o.2 (p.2 + 1) else o.2)
def Gpl (c : CT) (d : Int) (ps : List (Int × Int)) : Int × Int := if c.isV d then (1, 1) else ps.foldl plc (0, 0)
theorem foldl_plc : ∀ (ps : List (Int × Int)) (o : Int × Int) (M D : Int), 0 ≤ o.1 → 0 ≤ o.2 → o.2 ≤ D + 1 → (∀ p ∈ ps, 0 ≤ p.1 ∧ 0 ≤ p.2 ∧ p.2 ≤ D) → 0 ≤ (ps.foldl plc o).1 ∧ (ps.foldl plc o).1 = o.1 + (ps.map (·.1)).sum ∧ 0 ≤ (ps.foldl plc o).2 ∧ (ps.foldl plc o).2 ≤ D + 1
  | [], o, M, D, h1, h2, h3, _ => by simp; omega
  | p :: ps, o, M, D, h1, h2, h3, h => by
    have hp := h p (by simp)
    have := foldl_plc ps (plc o p) M D (by simp only [plc]; omega) (by simp only [plc]; split <;> omega) (by simp only [plc]; split <;> omega) (fun q hq => h q (by simp [hq]))
    simp only [List.foldl_cons, List.map_cons, List.sum_cons]
    simp only [plc] at this ⊢
    omega
theorem Gpl_rng : ∀ (c : CT) (d : Int), 0 ≤ (c.fold Gpl d).1 ∧ (c.fold Gpl d).1 ≤ c.size ∧ 0 ≤ (c.fold Gpl d).2 ∧ (c.fold Gpl d).2 ≤ c.dep
  | .two k a b m, d => by
    have ha := Gpl_rng a (d + (CT.two k a b m).bnd 0)
    have hb := Gpl_rng b (d + (CT.two k a b m).bnd 1)
    simp only [CT.fold, Gpl, CT.isV, CT.size, CT.dep, List.foldl_cons, List.foldl_nil, plc]
    refine ⟨by simp; omega, by simp; omega, ?_, ?_⟩
    · simp only [Bool.false_eq_true, if_false]; split <;> split <;> omega
    · simp only [Bool.false_eq_true, if_false]; split <;> split <;> omega
  | .lt a b c m, d => by
    have ha := Gpl_rng a (d + (CT.lt a b c m).bnd 0)
    have hb := Gpl_rng b (d + (CT.lt a b c m).bnd 1)
    have hc := Gpl_rng c (d + (CT.lt a b c m).bnd 2)
    simp only [CT.fold, Gpl, CT.isV, CT.size, CT.dep, List.foldl_cons, List.foldl_nil, plc]
    refine ⟨by simp; omega, by simp; omega, ?_, ?_⟩
    · simp only [Bool.false_eq_true, if_false]; split <;> split <;> split <;> omega
    · simp only [Bool.false_eq_true, if_false]; split <;> split <;> split <;> omega
  | .var n m, d => by simp only [CT.fold, Gpl, CT.size, CT.dep]; split <;> simp
  | .sort n m, d => by simp [CT.fold, Gpl, CT.isV, CT.size, CT.dep]
  | .cst s n m, d => by simp [CT.fold, Gpl, CT.isV, CT.size, CT.dep]
  | .odd n m, d => by simp [CT.fold, Gpl, CT.isV, CT.size, CT.dep]
theorem Gpl_kids {c : CT} {d : Int} {p : Int × Int} (h : p ∈ c.folds Gpl d) : 0 ≤ p.1 ∧ p.1 ≤ c.size ∧ 0 ≤ p.2 ∧ p.2 ≤ c.dep := by
  obtain ⟨i, hi, he⟩ := List.getElem_of_mem h
  have hi' : i < c.kids.length := by rw [CT.folds_len] at hi; exact hi
  have h1 := CT.folds_get Gpl (c := c) (d := d) (List.getElem?_eq_getElem hi')
  rw [List.getElem?_eq_getElem hi, he] at h1
  cases h1
  have h2 := Gpl_rng c.kids[i] (d + c.bnd i)
  have h3 := CT.kid_size (List.getElem?_eq_getElem hi')
  omega
theorem plc_take {c : CT} {d : Int} (i : Nat) : 0 ≤ (((c.folds Gpl d).take i).foldl plc (0, 0)).1 ∧ (((c.folds Gpl d).take i).foldl plc (0, 0)).1 ≤ c.kids.length * c.size ∧ 0 ≤ (((c.folds Gpl d).take i).foldl plc (0, 0)).2 ∧ (((c.folds Gpl d).take i).foldl plc (0, 0)).2 ≤ c.dep + 1 := by
  have hm : ∀ p ∈ (c.folds Gpl d).take i, 0 ≤ p.1 ∧ 0 ≤ p.2 ∧ p.2 ≤ (c.dep : Int) := fun p hp => by have := Gpl_kids (List.mem_of_mem_take hp); omega
  obtain ⟨h1, h2, h3, h4⟩ := foldl_plc _ (0, 0) 0 c.dep (by simp) (by simp) (by simp; omega) hm
  refine ⟨h1, ?_, h3, h4⟩
  rw [h2]
  have hs : ∀ (l : List (Int × Int)), (∀ p ∈ l, p.1 ≤ (c.size : Int)) → (l.map (·.1)).sum ≤ l.length * c.size := by
    intro l
    induction l with
    | nil => intro _; simp
    | cons p l ih =>
      intro h
      have h1 := ih (fun q hq => h q (by simp [hq]))
      have h2 := h p (by simp)
      simp only [List.map_cons, List.sum_cons, List.length_cons]
      rw [show ((l.length + 1 : Nat) : Int) * c.size = l.length * c.size + c.size by rw [Int.natCast_add, Int.add_mul]; simp]
      omega
  have h5 := hs ((c.folds Gpl d).take i) (fun p hp => (Gpl_kids (List.mem_of_mem_take hp)).2.1)
  have h6 : ((c.folds Gpl d).take i).length ≤ c.kids.length := by rw [List.length_take, CT.folds_len]; omega
  have h7 : (((c.folds Gpl d).take i).length : Int) * c.size ≤ c.kids.length * c.size := Int.mul_le_mul_of_nonneg_right (by omega) (by omega)
  simp only [Int.zero_add]
  omega
theorem rd_rowP {W : World} {v : Value} {xs : List (Int × Int)} (h : Rd W v 2 xs.length (xs.flatMap enc2)) {i : Nat} (hi : i < xs.length) :
    ∃ b off c x, v = .slice (some ⟨b, off, none⟩) xs.length c ∧ xs[i]? = some x ∧ ∀ W', Below W.heap.size W W' → ∀ j u, (enc2 x)[j]? = some u → W'.cell? ((⟨b, off + i * 2, none⟩ : Addr).add j) = some u := by
  obtain ⟨b, off, c, rfl, hb⟩ := h.some (by omega)
  refine ⟨b, off, c, xs[i], rfl, List.getElem?_eq_getElem hi, fun W' hB j u hj => ?_⟩
  rw [addr_addn, Nat.add_assoc]
  have h2 : ∀ (xs : List (Int × Int)) (i : Nat) (hi : i < xs.length), (enc2 xs[i])[j]? = some u → (xs.flatMap enc2)[i * 2 + j]? = some u := by
    intro xs
    induction xs with
    | nil => intro i hi; simp at hi
    | cons y xs ih =>
      intro i hi hj
      have hj2 : j < 2 := (List.getElem?_eq_some_iff.1 hj).1
      cases i with
      | zero => rw [List.flatMap_cons, List.getElem?_append_left (by simp [enc2]; omega)]; simpa using hj
      | succ i => rw [List.flatMap_cons, List.getElem?_append_right (by simp [enc2]; omega), show (i + 1) * 2 + j - (enc2 y).length = i * 2 + j by simp [enc2]; omega]; exact ih i (by simpa using hi) (by simpa using hj)
  exact (hB.cell (p := ⟨b, off + (i * 2 + j), none⟩) hb).trans (h.cell (h2 xs i hi hj))

set_option maxRecDepth 100000 in
set_option maxHeartbeats 400000 in
theorem clo120 (wl : World) (Sz : Nat) (hSz : Sz ≤ 20000) (D : Int) (hD : D ≤ 2000) (W : World) (c : CT) (x : C8) (d : Int) (kv : Value) (hK : Below wl.heap.size wl W) (hx : RC wl (fun k => k < wl.heap.size) c x) (hs : c.size ≤ Sz) (hd0 : 0 ≤ d) (hdD : d + c.dep ≤ D) (hkv : Rd W kv 2 c.kids.length ((c.folds Gpl d).flatMap enc2)) :
    Calls Try.prog 101 ([tv x, .int .i64 d, kv] ++ []).toArray W fun e w' => e = .returned (.agg (enc2 (Gpl c d (c.folds Gpl d))).toArray) ∧ Below W.heap.size W w' := by
  have hV := CT.isV_eq hx d
  have h3 := c.kids_le
  have hfl := CT.folds_len Gpl c d
  rw [← hfl] at hkv
  obtain ⟨av, cv, hve, _⟩ := hkv.form
  subst hve
  have hT := fun i => plc_take (c := c) (d := d) i
  have hm9 : (c.kids.length : Int) * c.size ≤ 100000 := by
    have : (c.kids.length : Int) * c.size ≤ 3 * 20000 := Int.mul_le_mul (by omega) (by omega) (by omega) (by omega)
    omega
  have hB := Below.refl W.heap.size W
  have sB := hB.size
  refine calls_fs 38 [(0, tv x), (1, .int .i64 d), (2, .slice av (c.folds Gpl d).length cv)] Try.func101 rfl rfl rfl rfl rfl fun a hF => ?_
  refine wp_rs fun K1 hK1 => ?_
  refine s_box (tc x) hF (by decide) rfl rfl fun w2 b3 a eb3 m3 B3 zb3 hF => ?_
  have sB3 := B3.size
  have hB := hB.trans (B3.mono hB.size)
  refine s_alloc hF (by decide) zero93 fun w4 b6 a eb6 m6 B5 zb6 hF => ?_
  have sB5 := B5.size
  have hB := hB.trans (B5.mono hB.size)
  have m3 := m3.old B5
  refine s_end (hK1 _ _ ?_)
  refine wp_seq_k fun K2 hK2 => ?_
  rcases (show (x.k = 1 ∧ x.n = d) ∨ (x.k = 1 ∧ x.n ≠ d) ∨ x.k ≠ 1 by omega) with hk9 | hk9 | hk9
  · skip
    refine wp_rs fun K4 hK4 => ?_
    refine s_val hF (x_ldW wide27 m3 rfl rfl) (by decide) fun a hF => ?_
    refine s_val hF (x_move rfl) (by decide) fun a hF => ?_
    have hiv : c.isV d = true := by rw [hV]; simp [hk9.1, hk9.2]
    refine s_callB [_, _] hF (enters_of Try.func102 (by kernel_rfl) rfl) rfl (by decide) ((isPlace121 c x _ d wl w4 hx).mono fun e w' h => ⟨by rw [h.1, hiv], h.2⟩) fun w6 a B7 hF => ?_
    have sB7 := B7.size
    have hB := hB.trans (B7.mono hB.size)
    have m3 := m3.old B7
    have m6 := m6.old B7
    refine s_end (hK4 _ _ ?_)
    refine wp_if hF rfl ?_
    refine wp_rs fun K5 hK5 => ?_
    refine s_val hF (x_build (vs := [(0, _), (1, _)]) rfl (b93_01 _ _ _)) (by decide) fun a hF => ?_
    refine s_putW hF rfl rfl (size_wide wide93) m6 rfl (oneII _ _) fun w10 m6 o11 => ?_
    have so11 := o11.size
    have hB := hB.trans (o11.below (by omega))
    have m3 := m3.only o11 (by omega)
    refine s_end (hK5 _ _ ?_)
    refine wp_ret (then_ret (res_cell (cs := [_, _]) hF rfl rfl m6 wide93 ⟨by simp only [Gpl]; rw [if_pos hiv]; rfl, hB⟩))
  · skip
    refine wp_rs fun K6 hK6 => ?_
    refine s_val hF (x_ldW wide27 m3 rfl rfl) (by decide) fun a hF => ?_
    refine s_val hF (x_move rfl) (by decide) fun a hF => ?_
    have hiv : c.isV d = false := by rw [hV]; first | (rw [decide_eq_false (show ¬ x.n = d by omega), Bool.and_false]; done) | (rw [decide_eq_false (show ¬ x.k = 1 by omega), Bool.false_and]; done)
    refine s_callB [_, _] hF (enters_of Try.func102 (by kernel_rfl) rfl) rfl (by decide) ((isPlace121 c x _ d wl w4 hx).mono fun e w' h => ⟨by rw [h.1, hiv], h.2⟩) fun w12 a B13 hF => ?_
    have sB13 := B13.size
    have hB := hB.trans (B13.mono hB.size)
    have m3 := m3.old B13
    have m6 := m6.old B13
    refine s_end (hK6 _ _ ?_)
    refine wp_if hF rfl ?_
    refine wp_skip (hK2 _ _ ?_)
    refine wp_rs fun K7 hK7 => ?_
    refine s_alloc hF (by decide) zero93 fun w14 b7 a eb7 m7 B15 zb7 hF => ?_
    have sB15 := B15.size
    have hB := hB.trans (B15.mono hB.size)
    have m3 := m3.old B15
    have m6 := m6.old B15
    refine s_end (hK7 _ _ ?_)
    refine wp_seq_k fun K8 hK8 => ?_
    refine wp_rs fun K9 hK9 => ?_
    refine s_val hF (x_move rfl) (by decide) fun a hF => ?_
    refine s_val hF (x_len Try.underlying118 rfl) (by decide) fun a hF => ?_
    refine s_val hF (x_move rfl) (by decide) fun a hF => ?_
    refine s_end (hK9 _ _ ?_)
    refine wp_block ?_
    refine wp_up (c.folds Gpl d).length (fun i a w => Blk w b7 81 [.int .i64 (((c.folds Gpl d).take i).foldl plc (0, 0)).1, .int .i64 (((c.folds Gpl d).take i).foldl plc (0, 0)).2] ∧ Blk w b6 81 [.int .i64 0, .int .i64 0] ∧ Below W.heap.size W w ∧ Fs 38 a [(6, .pointer (some ⟨b6, 0, none⟩)), (7, .pointer (some ⟨b7, 0, none⟩)), (14, .slice av (c.folds Gpl d).length cv), (15, .int .i64 ((c.folds Gpl d).length : Int)), (16, .int .i64 (i : Int))]) ⟨by simpa using m7, m6, hB, hF.sub _ rfl⟩ ?_
    repeat clear hF
    have hne67 : b6 ≠ b7 ∧ W.heap.size ≤ b6 ∧ W.heap.size ≤ b7 := by omega
    clear hB m6 m7
    rintro i a w hi ⟨m7, m6, hB, hF⟩ K' hK'
    have sB := hB.size
    have hTi := hT i
    have h6l := m6.lt
    have h7l := m7.lt
    refine wp_rs fun K10 hK10 => ?_
    refine s_val hF (x_lss (b := decide (i < (c.folds Gpl d).length)) (decide_eq_decide.2 (by omega)) rfl rfl) (by decide) fun a hF => ?_
    refine s_end (hK10 _ _ ?_)
    refine wp_seq_k fun K11 hK11 => ?_
    refine wp_iff hF rfl (fun hc17 => ?_) (fun hc17 => ?_)
    · obtain ⟨b, off, c9, q, hve, hq, hrow⟩ := rd_rowP hkv (i := i) (by omega)
      cases hve
      have hTi1 := hT (i + 1)
      have hqk := Gpl_kids (List.mem_of_getElem? hq)
      have htk := take_snoc hq
      rw [htk, List.foldl_append, List.foldl_cons, List.foldl_nil] at hTi1
      refine wp_skip (hK11 _ _ ?_)
      refine wp_seq_k fun K12 hK12 => ?_
      refine wp_block ?_
      refine wp_rs fun K13 hK13 => ?_
      refine s_val hF (x_ixa rfl rfl (m_ixsK i Try.underlying118 el122.size rfl (by omega))) (by decide) fun a hF => ?_
      refine s_val hF (x_ldA wide93 (hrow _ hB) rfl rfl) (by decide) fun a hF => ?_
      refine s_alloc hF (by decide) zero93 fun w16 b9 a eb9 m9 B17 zb9 hF => ?_
      have sB17 := B17.size
      have hB := hB.trans (B17.mono hB.size)
      have m6 := m6.old B17
      have m7 := m7.old B17
      refine s_putW hF rfl rfl (size_wide wide93) m9 rfl (oneII _ _) fun w20 m9 o21 => ?_
      have so21 := o21.size
      have hB := hB.trans (o21.below (by omega))
      have m6 := m6.only o21 (by omega)
      have m7 := m7.only o21 (by omega)
      refine s_end (hK13 _ _ ?_)
      refine wp_rs fun K14 hK14 => ?_
      refine s_val hF (x_fa0 fa93_0 rfl) (by decide) fun a hF => ?_
      refine s_val hF (x_load rfl (m_load flat3 (m7.cell (j := 0) rfl))) (by decide) fun a hF => ?_
      refine s_val hF (x_fa0 fa93_0 rfl) (by decide) fun a hF => ?_
      refine s_val hF (x_load rfl (m_load flat3 (m9.cell (j := 0) rfl))) (by decide) fun a hF => ?_
      refine s_val hF (x_add (by omega) (by omega) rfl rfl) (by decide) fun a hF => ?_
      refine s_val hF (x_fa0 fa93_0 rfl) (by decide) fun a hF => ?_
      refine s_put hF rfl rfl flat3 m7 (by first | (simp; done) | (simp [tc, lc]; done) | decide) rfl fun w22 m7 o23 => ?_
      have so23 := o23.size
      have hB := hB.trans (o23.below (by omega))
      have m6 := m6.only o23 (by omega)
      have m9 := m9.only o23 (by omega)
      refine s_end (hK14 _ _ ?_)
      rcases (show 0 < q.1 ∨ ¬ 0 < q.1 by omega) with hk8 | hk8
      · have hpl : plc (((c.folds Gpl d).take i).foldl plc (0, 0)) q = ((((c.folds Gpl d).take i).foldl plc (0, 0)).1 + q.1, max (((c.folds Gpl d).take i).foldl plc (0, 0)).2 (q.2 + 1)) := by simp only [plc]; rw [if_pos hk8]
        refine wp_rs fun K16 hK16 => ?_
        refine s_val hF (x_fa0 fa93_0 rfl) (by decide) fun a hF => ?_
        refine s_val hF (x_load rfl (m_load flat3 (m9.cell (j := 0) rfl))) (by decide) fun a hF => ?_
        refine s_val hF (x_gtr (b := true) (decide_eq_true (by omega)) rfl rfl) (by decide) fun a hF => ?_
        refine s_end (hK16 _ _ ?_)
        refine wp_if hF rfl ?_
        refine wp_region_lit ?_
        refine s_val hF (x_fa0 fa93_1 rfl) (by decide) fun a hF => ?_
        refine s_val hF (x_load rfl (m_load flat3 (m7.cell (j := 1) rfl))) (by decide) fun a hF => ?_
        refine s_val hF (x_fa0 fa93_1 rfl) (by decide) fun a hF => ?_
        refine s_val hF (x_load rfl (m_load flat3 (m9.cell (j := 1) rfl))) (by decide) fun a hF => ?_
        refine s_val hF (x_add (by omega) (by omega) rfl rfl) (by decide) fun a hF => ?_
        refine s_val hF (x_imax rfl rfl) (by decide) fun a hF => ?_
        refine s_val hF (x_fa0 fa93_1 rfl) (by decide) fun a hF => ?_
        refine s_put hF rfl rfl flat3 m7 (by first | (simp; done) | (simp [tc, lc]; done) | decide) rfl fun w24 m7 o25 => ?_
        have so25 := o25.size
        have hB := hB.trans (o25.below (by omega))
        have m6 := m6.only o25 (by omega)
        have m9 := m9.only o25 (by omega)
        refine s_end (hK12 _ _ ?_)
        refine wp_region_lit ?_
        refine s_val hF (x_addn (i + 1) (by omega) (by omega) rfl rfl) (by decide) fun a hF => ?_
        refine s_val hF (x_move rfl) (by decide) fun a hF => ?_
        refine s_end (hK' _ _ (by omega) ⟨by rw [htk, List.foldl_append, List.foldl_cons, List.foldl_nil, hpl]; exact m7, m6, hB, hF.sub _ rfl⟩)
      · have hpl : plc (((c.folds Gpl d).take i).foldl plc (0, 0)) q = ((((c.folds Gpl d).take i).foldl plc (0, 0)).1 + q.1, (((c.folds Gpl d).take i).foldl plc (0, 0)).2) := by simp only [plc]; rw [if_neg hk8]
        refine wp_rs fun K17 hK17 => ?_
        refine s_val hF (x_fa0 fa93_0 rfl) (by decide) fun a hF => ?_
        refine s_val hF (x_load rfl (m_load flat3 (m9.cell (j := 0) rfl))) (by decide) fun a hF => ?_
        refine s_val hF (x_gtr (b := false) (decide_eq_false (by omega)) rfl rfl) (by decide) fun a hF => ?_
        refine s_end (hK17 _ _ ?_)
        refine wp_if hF rfl ?_
        refine wp_skip (hK12 _ _ ?_)
        refine wp_region_lit ?_
        refine s_val hF (x_addn (i + 1) (by omega) (by omega) rfl rfl) (by decide) fun a hF => ?_
        refine s_val hF (x_move rfl) (by decide) fun a hF => ?_
        refine s_end (hK' _ _ (by omega) ⟨by rw [htk, List.foldl_append, List.foldl_cons, List.foldl_nil, hpl]; exact m7, m6, hB, hF.sub _ rfl⟩)
    · obtain rfl : i = (c.folds Gpl d).length := by omega
      rw [List.take_length] at m7
      refine wp_exit (hK8 _ _ ?_)
      refine wp_rs fun K18 hK18 => ?_
      refine s_val hF (x_ldW wide93 m7 rfl rfl) (by decide) fun a hF => ?_
      refine s_putW hF rfl rfl (size_wide wide93) m6 rfl (oneII _ _) fun w28 m6 o29 => ?_
      have so29 := o29.size
      have hB := hB.trans (o29.below (by omega))
      have m7 := m7.only o29 (by omega)
      refine s_end (hK18 _ _ ?_)
      refine wp_ret (res_cell (cs := [_, _]) hF rfl rfl m6 wide93 ⟨by simp only [Gpl]; rw [if_neg (by rw [hiv]; decide)]; rfl, hB⟩)
  · skip
    refine wp_rs fun K19 hK19 => ?_
    refine s_val hF (x_ldW wide27 m3 rfl rfl) (by decide) fun a hF => ?_
    refine s_val hF (x_move rfl) (by decide) fun a hF => ?_
    have hiv : c.isV d = false := by rw [hV]; first | (rw [decide_eq_false (show ¬ x.n = d by omega), Bool.and_false]; done) | (rw [decide_eq_false (show ¬ x.k = 1 by omega), Bool.false_and]; done)
    refine s_callB [_, _] hF (enters_of Try.func102 (by kernel_rfl) rfl) rfl (by decide) ((isPlace121 c x _ d wl w4 hx).mono fun e w' h => ⟨by rw [h.1, hiv], h.2⟩) fun w30 a B31 hF => ?_
    have sB31 := B31.size
    have hB := hB.trans (B31.mono hB.size)
    have m3 := m3.old B31
    have m6 := m6.old B31
    refine s_end (hK19 _ _ ?_)
    refine wp_if hF rfl ?_
    refine wp_skip (hK2 _ _ ?_)
    refine wp_rs fun K20 hK20 => ?_
    refine s_alloc hF (by decide) zero93 fun w32 b7 a eb7 m7 B33 zb7 hF => ?_
    have sB33 := B33.size
    have hB := hB.trans (B33.mono hB.size)
    have m3 := m3.old B33
    have m6 := m6.old B33
    refine s_end (hK20 _ _ ?_)
    refine wp_seq_k fun K21 hK21 => ?_
    refine wp_rs fun K22 hK22 => ?_
    refine s_val hF (x_move rfl) (by decide) fun a hF => ?_
    refine s_val hF (x_len Try.underlying118 rfl) (by decide) fun a hF => ?_
    refine s_val hF (x_move rfl) (by decide) fun a hF => ?_
    refine s_end (hK22 _ _ ?_)
    refine wp_block ?_
    refine wp_up (c.folds Gpl d).length (fun i a w => Blk w b7 81 [.int .i64 (((c.folds Gpl d).take i).foldl plc (0, 0)).1, .int .i64 (((c.folds Gpl d).take i).foldl plc (0, 0)).2] ∧ Blk w b6 81 [.int .i64 0, .int .i64 0] ∧ Below W.heap.size W w ∧ Fs 38 a [(6, .pointer (some ⟨b6, 0, none⟩)), (7, .pointer (some ⟨b7, 0, none⟩)), (14, .slice av (c.folds Gpl d).length cv), (15, .int .i64 ((c.folds Gpl d).length : Int)), (16, .int .i64 (i : Int))]) ⟨by simpa using m7, m6, hB, hF.sub _ rfl⟩ ?_
    repeat clear hF
    have hne67 : b6 ≠ b7 ∧ W.heap.size ≤ b6 ∧ W.heap.size ≤ b7 := by omega
    clear hB m6 m7
    rintro i a w hi ⟨m7, m6, hB, hF⟩ K' hK'
    have sB := hB.size
    have hTi := hT i
    have h6l := m6.lt
    have h7l := m7.lt
    refine wp_rs fun K23 hK23 => ?_
    refine s_val hF (x_lss (b := decide (i < (c.folds Gpl d).length)) (decide_eq_decide.2 (by omega)) rfl rfl) (by decide) fun a hF => ?_
    refine s_end (hK23 _ _ ?_)
    refine wp_seq_k fun K24 hK24 => ?_
    refine wp_iff hF rfl (fun hc17 => ?_) (fun hc17 => ?_)
    · obtain ⟨b, off, c9, q, hve, hq, hrow⟩ := rd_rowP hkv (i := i) (by omega)
      cases hve
      have hTi1 := hT (i + 1)
      have hqk := Gpl_kids (List.mem_of_getElem? hq)
      have htk := take_snoc hq
      rw [htk, List.foldl_append, List.foldl_cons, List.foldl_nil] at hTi1
      refine wp_skip (hK24 _ _ ?_)
      refine wp_seq_k fun K25 hK25 => ?_
      refine wp_block ?_
      refine wp_rs fun K26 hK26 => ?_
      refine s_val hF (x_ixa rfl rfl (m_ixsK i Try.underlying118 el122.size rfl (by omega))) (by decide) fun a hF => ?_
      refine s_val hF (x_ldA wide93 (hrow _ hB) rfl rfl) (by decide) fun a hF => ?_
      refine s_alloc hF (by decide) zero93 fun w34 b9 a eb9 m9 B35 zb9 hF => ?_
      have sB35 := B35.size
      have hB := hB.trans (B35.mono hB.size)
      have m6 := m6.old B35
      have m7 := m7.old B35
      refine s_putW hF rfl rfl (size_wide wide93) m9 rfl (oneII _ _) fun w38 m9 o39 => ?_
      have so39 := o39.size
      have hB := hB.trans (o39.below (by omega))
      have m6 := m6.only o39 (by omega)
      have m7 := m7.only o39 (by omega)
      refine s_end (hK26 _ _ ?_)
      refine wp_rs fun K27 hK27 => ?_
      refine s_val hF (x_fa0 fa93_0 rfl) (by decide) fun a hF => ?_
      refine s_val hF (x_load rfl (m_load flat3 (m7.cell (j := 0) rfl))) (by decide) fun a hF => ?_
      refine s_val hF (x_fa0 fa93_0 rfl) (by decide) fun a hF => ?_
      refine s_val hF (x_load rfl (m_load flat3 (m9.cell (j := 0) rfl))) (by decide) fun a hF => ?_
      refine s_val hF (x_add (by omega) (by omega) rfl rfl) (by decide) fun a hF => ?_
      refine s_val hF (x_fa0 fa93_0 rfl) (by decide) fun a hF => ?_
      refine s_put hF rfl rfl flat3 m7 (by first | (simp; done) | (simp [tc, lc]; done) | decide) rfl fun w40 m7 o41 => ?_
      have so41 := o41.size
      have hB := hB.trans (o41.below (by omega))
      have m6 := m6.only o41 (by omega)
      have m9 := m9.only o41 (by omega)
      refine s_end (hK27 _ _ ?_)
      rcases (show 0 < q.1 ∨ ¬ 0 < q.1 by omega) with hk8 | hk8
      · have hpl : plc (((c.folds Gpl d).take i).foldl plc (0, 0)) q = ((((c.folds Gpl d).take i).foldl plc (0, 0)).1 + q.1, max (((c.folds Gpl d).take i).foldl plc (0, 0)).2 (q.2 + 1)) := by simp only [plc]; rw [if_pos hk8]
        refine wp_rs fun K29 hK29 => ?_
        refine s_val hF (x_fa0 fa93_0 rfl) (by decide) fun a hF => ?_
        refine s_val hF (x_load rfl (m_load flat3 (m9.cell (j := 0) rfl))) (by decide) fun a hF => ?_
        refine s_val hF (x_gtr (b := true) (decide_eq_true (by omega)) rfl rfl) (by decide) fun a hF => ?_
        refine s_end (hK29 _ _ ?_)
        refine wp_if hF rfl ?_
        refine wp_region_lit ?_
        refine s_val hF (x_fa0 fa93_1 rfl) (by decide) fun a hF => ?_
        refine s_val hF (x_load rfl (m_load flat3 (m7.cell (j := 1) rfl))) (by decide) fun a hF => ?_
        refine s_val hF (x_fa0 fa93_1 rfl) (by decide) fun a hF => ?_
        refine s_val hF (x_load rfl (m_load flat3 (m9.cell (j := 1) rfl))) (by decide) fun a hF => ?_
        refine s_val hF (x_add (by omega) (by omega) rfl rfl) (by decide) fun a hF => ?_
        refine s_val hF (x_imax rfl rfl) (by decide) fun a hF => ?_
        refine s_val hF (x_fa0 fa93_1 rfl) (by decide) fun a hF => ?_
        refine s_put hF rfl rfl flat3 m7 (by first | (simp; done) | (simp [tc, lc]; done) | decide) rfl fun w42 m7 o43 => ?_
        have so43 := o43.size
        have hB := hB.trans (o43.below (by omega))
        have m6 := m6.only o43 (by omega)
        have m9 := m9.only o43 (by omega)
        refine s_end (hK25 _ _ ?_)
        refine wp_region_lit ?_
        refine s_val hF (x_addn (i + 1) (by omega) (by omega) rfl rfl) (by decide) fun a hF => ?_
        refine s_val hF (x_move rfl) (by decide) fun a hF => ?_
        refine s_end (hK' _ _ (by omega) ⟨by rw [htk, List.foldl_append, List.foldl_cons, List.foldl_nil, hpl]; exact m7, m6, hB, hF.sub _ rfl⟩)
      · have hpl : plc (((c.folds Gpl d).take i).foldl plc (0, 0)) q = ((((c.folds Gpl d).take i).foldl plc (0, 0)).1 + q.1, (((c.folds Gpl d).take i).foldl plc (0, 0)).2) := by simp only [plc]; rw [if_neg hk8]
        refine wp_rs fun K30 hK30 => ?_
        refine s_val hF (x_fa0 fa93_0 rfl) (by decide) fun a hF => ?_
        refine s_val hF (x_load rfl (m_load flat3 (m9.cell (j := 0) rfl))) (by decide) fun a hF => ?_
        refine s_val hF (x_gtr (b := false) (decide_eq_false (by omega)) rfl rfl) (by decide) fun a hF => ?_
        refine s_end (hK30 _ _ ?_)
        refine wp_if hF rfl ?_
        refine wp_skip (hK25 _ _ ?_)
        refine wp_region_lit ?_
        refine s_val hF (x_addn (i + 1) (by omega) (by omega) rfl rfl) (by decide) fun a hF => ?_
        refine s_val hF (x_move rfl) (by decide) fun a hF => ?_
        refine s_end (hK' _ _ (by omega) ⟨by rw [htk, List.foldl_append, List.foldl_cons, List.foldl_nil, hpl]; exact m7, m6, hB, hF.sub _ rfl⟩)
    · obtain rfl : i = (c.folds Gpl d).length := by omega
      rw [List.take_length] at m7
      refine wp_exit (hK21 _ _ ?_)
      refine wp_rs fun K31 hK31 => ?_
      refine s_val hF (x_ldW wide93 m7 rfl rfl) (by decide) fun a hF => ?_
      refine s_putW hF rfl rfl (size_wide wide93) m6 rfl (oneII _ _) fun w46 m6 o47 => ?_
      have so47 := o47.size
      have hB := hB.trans (o47.below (by omega))
      have m7 := m7.only o47 (by omega)
      refine s_end (hK31 _ _ ?_)
      refine wp_ret (res_cell (cs := [_, _]) hF rfl rfl m6 wide93 ⟨by simp only [Gpl]; rw [if_neg (by rw [hiv]; decide)]; rfl, hB⟩)
end Go.Proofs.Ytaclncmkdpjnlaa
