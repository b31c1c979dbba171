/- Copies of levels of whatever form. -/
import Derived.Test.YtaclncmkdpjnlaaTerm5
namespace Go.Proofs.Ytaclncmkdpjnlaa
open Go.RowKit Go.Shelf
set_option linter.unusedVariables false
set_option linter.unusedSimpArgs false
section
variable {P : Program} {ops : Array Oper} {n d : Nat} {l : List (Nat × Value)} {w : World} {a : Act} {Q : Exit → Act → World → Prop} {rest : List Oper} {ty : TypeId} {pos : String} {af : Array Edge} {x y : Operand} {t e k kb base m o : Nat} {v : Value} {xs ys : List Value}
theorem s_appL {ds : List Deferred} {bu : Nat} (hE : Elem P t e k kb) (hF : Fs n a l (ds := ds)) (hd : d < n) (hx : ov l x = some v) (hy : ov l y = some (.slice (some ⟨bu, 0, none⟩) 1 1)) (hO : w.ownsRow base e k v m xs) (hU : Blk w bu e ys) (hl : ys.length = k) (h1 : ∀ u ∈ ys, u.oneCell' = true) (hat : ∀ j, v.ownBlock = some j → j = o) (ho : o < w.heap.size) (hm : m ≤ 100000000) (hkb : kb ≤ 1000) (hb : base ≤ w.heap.size)
    (h : ∀ v' w' a' o', w'.ownsRow base e k v' (m + 1) (xs ++ ys) → (∀ j, v'.ownBlock = some j → j = o') → ((o' = o ∨ w.heap.size ≤ o') ∧ o' < w'.heap.size) → (∀ j, v'.ownBlock = some j → v.ownBlock = some j ∨ w.heap.size ≤ j) → Ktw o o w w' → (∀ j, j < w.heap.size → v.ownBlock ≠ some j → w'.heap[j]? = w.heap[j]?) → Fs n a' ((d, v') :: l) (ds := ds) → wpList P ops Q rest a' w') :
    wpList P ops Q (⟨some d, .call { callee := .builtin .append, args := #[x, y], argTypes := #[t, t] }, ty, pos, af, none⟩ :: rest) a w := by
  have hR : Rd w (.slice (some ⟨bu, 0, none⟩) 1 1) k 1 ys := Rd.blk hU (by omega)
  refine s_appG hE hF hd hx hy hO hR h1 ?_ (by simp only [maxLen]; omega) hb fun v' w' a' hO' hg hw hF' => ?_
  · have : (m + 1) * kb ≤ 100000001 * 1000 := Nat.mul_le_mul (by omega) hkb
    omega
  · have hK : Ktw o o w w' := ⟨hg.os, hg.tape, hg.output, hg.size, fun j hj hne => hg.block j hj (fun e => by have := hat j e.symm; omega)⟩
    have hkeep : ∀ j, j < w.heap.size → v.ownBlock ≠ some j → w'.heap[j]? = w.heap[j]? := fun j hj hne => hg.block j hj (fun e => hne e.symm)
    cases hv : v'.ownBlock with
    | none => exact h v' w' a' o hO' (fun j hj => by rw [hv] at hj; cases hj) ⟨.inl rfl, Nat.lt_of_lt_of_le ho hg.size⟩ hw hK hkeep hF'
    | some q =>
      refine h v' w' a' q hO' (fun j hj => by rw [hv] at hj; exact (Option.some.inj hj).symm) ⟨?_, (hO'.lt q hv).2⟩ hw hK hkeep hF'
      rcases hw q hv with h1 | h1
      · exact .inl (hat q h1)
      · exact .inr h1
end

mutual
def Lv.sz : Lv → Nat
  | .mk _ _ ls => Lv.szs ls + 1
def Lv.szs : List Lv → Nat
  | [] => 0
  | l :: ls => l.sz + Lv.szs ls
end
theorem szs_app : ∀ (xs ys : List Lv), Lv.szs (xs ++ ys) = Lv.szs xs + Lv.szs ys
  | [], ys => by simp [Lv.szs]
  | x :: xs, ys => by simp [Lv.szs, szs_app xs ys]; omega
theorem szs_take {ls : List Lv} {i : Nat} {p : Lv} (h : ls[i]? = some p) : Lv.szs (ls.take (i + 1)) = Lv.szs (ls.take i) + p.sz := by
  rw [take_snoc h, szs_app]; simp [Lv.szs]
theorem szs_le (ls : List Lv) (i : Nat) : Lv.szs (ls.take i) ≤ Lv.szs ls := by
  have := szs_app (ls.take i) (ls.drop i)
  rw [List.take_append_drop] at this
  omega
theorem Lv.sz_pos : ∀ l : Lv, 1 ≤ l.sz
  | .mk _ _ _ => by simp [Lv.sz]
theorem szs_len : ∀ ls : List Lv, ls.length ≤ Lv.szs ls
  | [] => Nat.le_refl _
  | l :: ls => by have := szs_len ls; have := l.sz_pos; simp [Lv.szs]; omega
theorem cpys_map : ∀ ls : List Lv, cpys ls = ls.map cpy
  | [] => rfl
  | l :: ls => by simp [cpys, cpys_map ls]
/-- Levels of whatever form, one behind the other. -/
def QL (W : World) (A : Nat → Prop) (zs : List C3) (ps : List Lv) : Prop := zs.length = ps.length ∧ ∀ (j : Nat) z p, zs[j]? = some z → ps[j]? = some p → RLn W A z p
section
variable {W W' : World} {A B : Nat → Prop} {zs : List C3} {ps : List Lv}
theorem QL.nil : QL W A [] [] := ⟨rfl, fun j z p h => by simp at h⟩
theorem QL.mono (h : QL W A zs ps) (hm : ∀ k, A k → B k) : QL W B zs ps := ⟨h.1, fun j z p h1 h2 => (h.2 j z p h1 h2).mono hm⟩
theorem QL.valid (h : QL W A zs ps) : QL W (fun k => A k ∧ k < W.heap.size) zs ps := ⟨h.1, fun j z p h1 h2 => (h.2 j z p h1 h2).valid⟩
theorem QL.keep (h : QL W A zs ps) (hs : W.heap.size ≤ W'.heap.size) (hk : ∀ k, A k → k < W.heap.size → W'.heap[k]? = W.heap[k]?) : QL W' A zs ps := ⟨h.1, fun j z p h1 h2 => RLn.keep hs hk (h.2 j z p h1 h2)⟩
theorem QL.below (h : QL W A zs ps) (hB : Below W.heap.size W W') : QL W' A zs ps := h.keep hB.size fun k _ hk => hB.block k hk
theorem QL.only {c : Nat} (h : QL W A zs ps) (o : Only c W W') (hc : ∀ k, A k → k ≠ c) : QL W' A zs ps := h.keep (Nat.le_of_eq o.size.symm) fun k ha _ => o.block k (hc k ha)
theorem QL.k2 {a b : Nat} (h : QL W A zs ps) (hK : Ktw a b W W') (hc : ∀ k, A k → k ≠ a ∧ k ≠ b) : QL W' A zs ps := h.keep hK.size fun k ha hk => hK.block k hk (hc k ha)
theorem QL.snoc {z : C3} {p : Lv} (h : QL W A zs ps) (hz : RLn W A z p) : QL W A (zs ++ [z]) (ps ++ [p]) := by
  refine ⟨by simp [h.1], fun j y q e1 e2 => ?_⟩
  rcases Nat.lt_trichotomy j zs.length with hj | hj | hj
  · rw [List.getElem?_append_left hj] at e1
    rw [List.getElem?_append_left (by have := h.1; omega)] at e2
    exact h.2 j y q e1 e2
  · subst hj
    rw [List.getElem?_append_right (Nat.le_refl _)] at e1
    rw [h.1, List.getElem?_append_right (Nat.le_refl _)] at e2
    simp at e1 e2
    subst e1 e2
    exact hz
  · rw [List.getElem?_eq_none (by simp; omega)] at e1
    cases e1
end
/-- RLn, by another name. -/
def RLx (W : World) (A : Nat → Prop) (x : C3) (l : Lv) : Prop := RLn W A x l
section
variable {W W' : World} {A B : Nat → Prop} {x : C3} {l : Lv}
theorem RLx.below (h : RLx W A x l) (hB : Below W.heap.size W W') : RLx W' A x l := RLn.keep hB.size (fun k _ hk => hB.block k hk) h
theorem RLx.only {c : Nat} (h : RLx W A x l) (o : Only c W W') (hc : ∀ k, A k → k ≠ c) : RLx W' A x l := RLn.keep (Nat.le_of_eq o.size.symm) (fun k ha _ => o.block k (hc k ha)) h
theorem RLx.k2 {a b : Nat} (h : RLx W A x l) (hK : Ktw a b W W') (hc : ∀ k, A k → k ≠ a ∧ k ≠ b) : RLx W' A x l := RLn.keep hK.size (fun k ha hk => hK.block k hk (hc k ha)) h
theorem RLx.mono (h : RLx W A x l) (hm : ∀ k, A k → B k) : RLx W B x l := RLn.mono hm h
theorem RLx.valid (h : RLx W A x l) : RLx W (fun k => A k ∧ k < W.heap.size) x l := RLn.valid h
theorem RLx.rl (h : RLx W A x l) : RL W x l := RLn.rl h
theorem RL_b {W W' : World} {x : C3} {l : Lv} (hB : Below W.heap.size W W') (h : RL W x l) : RL W' x l := h.old hB
end

set_option maxRecDepth 100000 in
set_option maxHeartbeats 400000 in
theorem fitsL154 (w0 : World) (g : Nat) (hg : w0.heap.size ≤ g) : ∀ (N : Nat) (l : Lv) (x : C3), l.sz < N → RL w0 x l → ∀ (d r : Nat) (w1 : World), d ≤ 100000 → r ≤ 100000000 → Below w0.heap.size w0 w1 → Blk w1 g 3 [.int .i64 (r : Int)] →
    Calls Try.prog 140 #[lv x, .int .i64 (d : Int), .pointer (some ⟨g, 0, none⟩)] w1 fun e w' => ∃ u, e = .returned u ∧ (∃ b r', u = .bool b ∧ Blk w' g 3 [.int .i64 ((r' : Nat) : Int)] ∧ (b = true → r' + l.sz = r) ∧ r' ≤ r) ∧ Ktw g g w1 w' := by
  intro N
  induction N with
  | zero => intro s x h; omega
  | succ N ih =>
  rintro l ⟨k, n, v⟩ hN hL d r w1 hd1 hr1 hB mg
  cases hL with
  | @mk _ _ _ xs ls hR hl hk =>
  obtain ⟨av, cv, rfl, _⟩ := hR.form
  have hK := Ktw.refl g g w1
  have sB := hB.size
  have hgl := mg.lt
  have hsz : (Lv.mk k n ls).sz = Lv.szs ls + 1 := rfl
  refine calls_fs 36 [(0, .agg [.int .i64 k, .int .i64 n, .slice av xs.length cv].toArray), (1, .int .i64 (d : Int)), (2, .pointer (some ⟨g, 0, none⟩))] Try.func140 rfl rfl rfl rfl rfl fun a hF => ?_
  refine wp_rs fun K1 hK1 => ?_
  refine s_box ([.int .i64 k, .int .i64 n, .slice av xs.length cv]) hF (by decide) rfl rfl fun w2 b3 a eb3 m3 B3 zb3 hF => ?_
  have sB3 := B3.size
  have hB := hB.trans (B3.mono hB.size)
  have hK := hK.below B3
  have mg := mg.old B3
  refine s_val hF (x_assign rfl) (by decide) fun a hF => ?_
  refine s_end (hK1 _ _ ?_)
  refine wp_seq_k fun K2 hK2 => ?_
  rcases (show d = 0 ∨ (d ≠ 0 ∧ r = 0) ∨ (d ≠ 0 ∧ r ≠ 0) by omega) with hk9 | hk9 | hk9
  · skip
    refine wp_rs fun K4 hK4 => ?_
    refine s_val hF (x_move rfl) (by decide) fun a hF => ?_
    refine s_val hF (x_eql (b := true) (decide_eq_true (by omega)) rfl rfl) (by decide) fun a hF => ?_
    refine s_val hF (x_move rfl) (by decide) fun a hF => ?_
    refine s_grdn 11 hF rfl rfl (by decide) fun a hF => ?_
    refine s_grdn 11 hF rfl rfl (by decide) fun a hF => ?_
    refine s_grdn 11 hF rfl rfl (by decide) fun a hF => ?_
    refine s_grdn 11 hF rfl rfl (by decide) fun a hF => ?_
    refine s_val hF (x_pick (b := true) rfl rfl) (by decide) fun a hF => ?_
    refine s_end (hK4 _ _ ?_)
    refine wp_if hF rfl ?_
    refine wp_rs fun K5 hK5 => ?_
    refine s_val hF (x_assign rfl) (by decide) fun a hF => ?_
    refine s_end (hK5 _ _ ?_)
    refine wp_ret (then_ret (res_slot hF rfl rfl ⟨_, rfl, ⟨false, r, rfl, mg, (fun h => by cases h), Nat.le_refl _⟩, hK⟩))
  · skip
    refine wp_rs fun K6 hK6 => ?_
    refine s_val hF (x_move rfl) (by decide) fun a hF => ?_
    refine s_val hF (x_eql (b := false) (decide_eq_false (by omega)) rfl rfl) (by decide) fun a hF => ?_
    refine s_val hF (x_move rfl) (by decide) fun a hF => ?_
    refine s_grd 11 hF rfl rfl rfl ?_
    refine s_val hF (x_move rfl) (by decide) fun a hF => ?_
    refine s_grd 11 hF rfl rfl rfl ?_
    refine s_val hF (x_nil rfl) (by decide) fun a hF => ?_
    refine s_grd 11 hF rfl rfl rfl ?_
    refine s_val hF (x_load rfl (m_load flat3 (mg.cell (j := 0) rfl))) (by decide) fun a hF => ?_
    refine s_grd 11 hF rfl rfl rfl ?_
    refine s_val hF (x_eql (b := true) (decide_eq_true (by omega)) rfl rfl) (by decide) fun a hF => ?_
    refine s_val hF (x_pick (b := false) rfl rfl) (by decide) fun a hF => ?_
    refine s_end (hK6 _ _ ?_)
    refine wp_if hF rfl ?_
    refine wp_rs fun K7 hK7 => ?_
    refine s_val hF (x_assign rfl) (by decide) fun a hF => ?_
    refine s_end (hK7 _ _ ?_)
    refine wp_ret (then_ret (res_slot hF rfl rfl ⟨_, rfl, ⟨false, r, rfl, mg, (fun h => by cases h), Nat.le_refl _⟩, hK⟩))
  · skip
    refine wp_rs fun K8 hK8 => ?_
    refine s_val hF (x_move rfl) (by decide) fun a hF => ?_
    refine s_val hF (x_eql (b := false) (decide_eq_false (by omega)) rfl rfl) (by decide) fun a hF => ?_
    refine s_val hF (x_move rfl) (by decide) fun a hF => ?_
    refine s_grd 11 hF rfl rfl rfl ?_
    refine s_val hF (x_move rfl) (by decide) fun a hF => ?_
    refine s_grd 11 hF rfl rfl rfl ?_
    refine s_val hF (x_nil rfl) (by decide) fun a hF => ?_
    refine s_grd 11 hF rfl rfl rfl ?_
    refine s_val hF (x_load rfl (m_load flat3 (mg.cell (j := 0) rfl))) (by decide) fun a hF => ?_
    refine s_grd 11 hF rfl rfl rfl ?_
    refine s_val hF (x_eql (b := false) (decide_eq_false (by omega)) rfl rfl) (by decide) fun a hF => ?_
    refine s_val hF (x_pick (b := false) rfl rfl) (by decide) fun a hF => ?_
    refine s_end (hK8 _ _ ?_)
    refine wp_if hF rfl ?_
    refine wp_skip (hK2 _ _ ?_)
    refine wp_rs fun K9 hK9 => ?_
    refine s_val hF (x_move rfl) (by decide) fun a hF => ?_
    refine s_val hF (x_nil rfl) (by decide) fun a hF => ?_
    refine s_val hF (x_load rfl (m_load flat3 (mg.cell (j := 0) rfl))) (by decide) fun a hF => ?_
    refine s_val hF (x_subn (r - 1) (by omega) (by omega) rfl rfl) (by decide) fun a hF => ?_
    refine s_val hF (x_nil rfl) (by decide) fun a hF => ?_
    refine s_put hF rfl rfl flat3 mg (by first | (simp; done) | (simp [tc, lc]; done) | decide) rfl fun w4 mg o5 => ?_
    have so5 := o5.size
    have hB := hB.trans (o5.below (by omega))
    have hK := hK.only o5 (by omega)
    have m3 := m3.only o5 (by omega)
    refine s_end (hK9 _ _ ?_)
    refine wp_seq_k fun K10 hK10 => ?_
    refine wp_rs fun K11 hK11 => ?_
    refine s_val hF (x_fa0 fa24_2 rfl) (by decide) fun a hF => ?_
    refine s_val hF (x_load rfl (m_load flat22 (m3.cell (j := 2) rfl))) (by decide) fun a hF => ?_
    refine s_val hF (x_len Try.underlying22 rfl) (by decide) fun a hF => ?_
    refine s_val hF (x_move rfl) (by decide) fun a hF => ?_
    refine s_end (hK11 _ _ ?_)
    refine wp_block ?_
    refine wp_up xs.length (fun i a w => ∃ r2 : Nat, Blk w g 3 [.int .i64 (r2 : Int)] ∧ r2 + Lv.szs (ls.take i) + 1 = r ∧ Below w0.heap.size w0 w ∧ Ktw g g w1 w ∧ Fs 36 a [(25, .int .i64 (i : Int)), (24, .int .i64 (xs.length : Int)), (23, .slice av xs.length cv), (1, .int .i64 (d : Int)), (2, .pointer (some ⟨g, 0, none⟩))]) ⟨r - 1, mg, by simp [Lv.szs]; omega, hB, hK, hF.sub _ rfl⟩ ?_
    repeat clear hF
    clear hB hK mg
    rintro i a w hi ⟨r2, mg, hr2, hB, hK, hF⟩ K' hK'
    have sB := hB.size
    have sK := hK.size
    have hgl := mg.lt
    have hsl := szs_le ls i
    have hli := szs_len (ls.take i)
    rw [List.length_take] at hli
    refine wp_rs fun K12 hK12 => ?_
    refine s_val hF (x_lss rfl rfl rfl) (by decide) fun a hF => ?_
    refine s_end (hK12 _ _ ?_)
    refine wp_seq_k fun K13 hK13 => ?_
    refine wp_iff hF rfl (fun hc26 => ?_) (fun hc26 => ?_)
    · obtain ⟨b, off, c, y, hve, hy, hrow⟩ := rd_row3 hR (i := i) (by omega)
      cases hve
      obtain ⟨p, hp⟩ : ∃ p, ls[i]? = some p := ⟨_, List.getElem?_eq_getElem (by omega)⟩
      have hst := szs_take hp
      have hsl1 := szs_le ls (i + 1)
      have h1y := (hk i y p hy hp).one1
      refine wp_skip (hK13 _ _ ?_)
      refine wp_seq_k fun K14 hK14 => ?_
      refine wp_block ?_
      refine wp_rs fun K15 hK15 => ?_
      refine s_val hF (x_ixa rfl rfl (m_ixsK i Try.underlying22 el22.size rfl (by omega))) (by decide) fun a hF => ?_
      refine s_val hF (x_ldA wide24 (hrow _ hB) rfl rfl) (by decide) fun a hF => ?_
      refine s_alloc hF (by decide) zero24 fun w6 b8 a eb8 m8 B7 zb8 hF => ?_
      have sB7 := B7.size
      have hB := hB.trans (B7.mono hB.size)
      have hK := hK.below B7
      have mg := mg.old B7
      refine s_putW hF rfl rfl (size_wide wide24) m8 rfl (one_lc h1y) fun w10 m8 o11 => ?_
      have so11 := o11.size
      have hB := hB.trans (o11.below (by omega))
      have hK := hK.only o11 (by omega)
      have mg := mg.only o11 (by omega)
      refine s_end (hK15 _ _ ?_)
      refine wp_rs fun K16 hK16 => ?_
      refine s_val hF (x_ldW wide24 m8 rfl rfl) (by decide) fun a hF => ?_
      refine s_val hF (x_move rfl) (by decide) fun a hF => ?_
      refine s_val hF (x_subn (d - 1) (by omega) (by omega) rfl rfl) (by decide) fun a hF => ?_
      refine s_val hF (x_move rfl) (by decide) fun a hF => ?_
      refine s_call (R := fun u w' => (∃ b r', u = .bool b ∧ Blk w' g 3 [.int .i64 ((r' : Nat) : Int)] ∧ (b = true → r' + p.sz = r2) ∧ r' ≤ r2) ∧ Ktw g g w10 w') hF [_, _, _] (enters_of Try.func140 (by kernel_rfl) rfl) rfl (by decide) (ih p y (by omega) (hk i y p hy hp) (d - 1) r2 w10 (by omega) (by omega) hB mg) ?_
      rintro _ w12 a ⟨⟨b33, r3, rfl, mg, h33, h33r⟩, k13⟩ hF
      have sk13 := k13.size
      have hB := k13.under hB (by omega)
      have hK := hK.trans k13 (by omega)
      have m8 := m8.k2 k13 (by omega)
      refine s_val hF (x_not rfl) (by decide) fun a hF => ?_
      refine s_end (hK16 _ _ ?_)
      refine wp_ifb hF rfl (fun hc34 => ?_) (fun hc34 => ?_)
      · refine wp_rs fun K17 hK17 => ?_
        refine s_val hF (x_assign rfl) (by decide) fun a hF => ?_
        refine s_end (hK17 _ _ ?_)
        refine wp_ret (inb_ret (then_ret (then_ret (inb_ret (then_ret (res_slot hF rfl rfl ⟨_, rfl, ⟨false, r3, rfl, mg, (fun h => by cases h), by omega⟩, hK⟩))))))
      · obtain rfl : b33 = true := by simpa using hc34
        have h34 := h33 rfl
        refine wp_skip (hK14 _ _ ?_)
        refine wp_region_lit ?_
        refine s_val hF (x_addn (i + 1) (by omega) (by omega) rfl rfl) (by decide) fun a hF => ?_
        refine s_val hF (x_move rfl) (by decide) fun a hF => ?_
        refine s_end (hK' _ _ (by omega) ⟨r3, mg, by omega, hB, hK, hF.sub _ rfl⟩)
    · have hall : ls.take i = ls := List.take_of_length_le (by omega)
      rw [hall] at hr2
      refine wp_exit (hK10 _ _ ?_)
      refine wp_rs fun K18 hK18 => ?_
      refine s_val hF (x_assign rfl) (by decide) fun a hF => ?_
      refine s_end (hK18 _ _ ?_)
      refine wp_ret (res_slot hF rfl rfl ⟨_, rfl, ⟨true, r2, rfl, mg, (fun _ => by omega), by omega⟩, hK⟩)

set_option maxRecDepth 100000 in
set_option maxHeartbeats 400000 in
theorem copiedL155 : ∀ (N : Nat) (l : Lv) (x : C3) (w0 : World), l.sz < N → l.sz ≤ 100000000 → RL w0 x l → Calls Try.prog 141 #[lv x] w0 fun e w' => ∃ u, e = .returned u ∧ (∃ z, u = lv z ∧ RLn w' (fun k => w0.heap.size ≤ k) z (cpy l)) ∧ Below w0.heap.size w0 w' := by
  intro N
  induction N with
  | zero => intro s x w0 h; omega
  | succ N ih =>
  rintro l ⟨k, n, v⟩ w0 hN hsz0 hS
  cases hS with
  | @mk _ _ _ xs ls hR hl hk =>
  obtain ⟨av, cv, rfl, _⟩ := hR.form
  have hsz : (Lv.mk k n ls).sz = Lv.szs ls + 1 := rfl
  have hle := szs_len ls
  have hB := Below.refl w0.heap.size w0
  have sB := hB.size
  refine calls_fs 37 [(0, .agg [.int .i64 k, .int .i64 n, .slice av xs.length cv].toArray)] Try.func141 rfl rfl rfl rfl rfl fun a hF => ?_
  refine wp_rs fun K1 hK1 => ?_
  refine s_box ([.int .i64 k, .int .i64 n, .slice av xs.length cv]) hF (by decide) rfl rfl fun w2 b1 a eb1 m1 B3 zb1 hF => ?_
  have sB3 := B3.size
  have hB := hB.trans (B3.mono hB.size)
  refine s_alloc hF (by decide) zero24 fun w4 b2 a eb2 m2 B5 zb2 hF => ?_
  have sB5 := B5.size
  have hB := hB.trans (B5.mono hB.size)
  have m1 := m1.old B5
  refine s_end (hK1 _ _ ?_)
  refine wp_rs fun K2 hK2 => ?_
  refine s_val hF (x_fa0 fa24_0 rfl) (by decide) fun a hF => ?_
  refine s_val hF (x_load rfl (m_load flat3 (m1.cell (j := 0) rfl))) (by decide) fun a hF => ?_
  refine s_val hF (x_build (vs := [(0, _)]) rfl (b24_0 _ _)) (by decide) fun a hF => ?_
  refine s_alloc hF (by decide) zero24 fun w6 b3 a eb3 m3 B7 zb3 hF => ?_
  have sB7 := B7.size
  have hB := hB.trans (B7.mono hB.size)
  have m1 := m1.old B7
  have m2 := m2.old B7
  refine s_putW hF rfl rfl (size_wide wide24) m3 rfl (one3 rfl) fun w10 m3 o11 => ?_
  have so11 := o11.size
  have hB := hB.trans (o11.below (by omega))
  have m1 := m1.only o11 (by omega)
  have m2 := m2.only o11 (by omega)
  refine s_end (hK2 _ _ ?_)
  refine wp_seq_k fun K3 hK3 => ?_
  refine wp_rs fun K4 hK4 => ?_
  refine s_val hF (x_fa0 fa24_0 rfl) (by decide) fun a hF => ?_
  refine s_val hF (x_load rfl (m_load flat3 (m1.cell (j := 0) rfl))) (by decide) fun a hF => ?_
  refine s_end (hK4 _ _ ?_)
  refine wp_block ?_
  refine wp_seq_k fun K5 hK5 => ?_
  rcases (show k = 1 ∨ k = 2 ∨ k = 3 ∨ k = 4 ∨ (k ≠ 1 ∧ k ≠ 2 ∧ k ≠ 3 ∧ k ≠ 4) by omega) with hk1 | hk1 | hk1 | hk1 | hk1
  · have hcp : cpy (.mk k n ls) = .mk k n (ls.map cpy) := by simp [cpy, hk1, cpys_map]
    refine wp_rs fun K7 hK7 => ?_
    refine s_val hF (x_eql (b := true) (decide_eq_true (by omega)) rfl rfl) (by decide) fun a hF => ?_
    refine s_val hF (x_assign rfl) (by decide) fun a hF => ?_
    refine s_end (hK7 _ _ ?_)
    refine wp_if hF rfl ?_
    refine wp_skip (hK5 _ _ ?_)
    refine wp_if hF rfl ?_
    refine wp_region_lit ?_
    refine s_val hF (x_fa0 fa24_1 rfl) (by decide) fun a hF => ?_
    refine s_val hF (x_load rfl (m_load flat3 (m1.cell (j := 1) rfl))) (by decide) fun a hF => ?_
    refine s_val hF (x_fa0 fa24_1 rfl) (by decide) fun a hF => ?_
    refine s_put hF rfl rfl flat3 m3 (by first | (simp; done) | (simp [tc, lc]; done) | decide) rfl fun w12 m3 o13 => ?_
    have so13 := o13.size
    have hB := hB.trans (o13.below (by omega))
    have m1 := m1.only o13 (by omega)
    have m2 := m2.only o13 (by omega)
    refine s_end (hK3 _ _ ?_)
    refine wp_seq_k fun K8 hK8 => ?_
    refine wp_rs fun K9 hK9 => ?_
    refine s_val hF (x_fa0 fa24_2 rfl) (by decide) fun a hF => ?_
    refine s_val hF (x_load rfl (m_load flat22 (m1.cell (j := 2) rfl))) (by decide) fun a hF => ?_
    refine s_val hF (x_len Try.underlying22 rfl) (by decide) fun a hF => ?_
    refine s_val hF (x_move rfl) (by decide) fun a hF => ?_
    refine s_end (hK9 _ _ ?_)
    refine wp_block ?_
    refine wp_up xs.length (fun i a w => ∃ v' o' zs, w.ownsRow w0.heap.size 24 3 v' zs.length (zs.flatMap lc) ∧ (∀ j, v'.ownBlock = some j → j = o') ∧ v'.ownBlock ≠ some b3 ∧ v'.ownBlock ≠ some b2 ∧ (w0.heap.size ≤ o' ∧ o' < w.heap.size ∧ (o' = b3 ∨ b3 < o')) ∧ QL w (fun k => w0.heap.size ≤ k ∧ k ≠ b2 ∧ k ≠ b3 ∧ k ≠ o' ∧ k < w.heap.size) zs ((ls.map cpy).take i) ∧ Blk w b3 24 [.int .i64 k, .int .i64 n, v'] ∧ Blk w b2 24 [.int .i64 0, .int .i64 0, .slice none 0 0] ∧ Below w0.heap.size w0 w ∧ Fs 37 a [(24, .int .i64 (i : Int)), (23, .int .i64 (xs.length : Int)), (22, .slice av xs.length cv), (2, .pointer (some ⟨b2, 0, none⟩)), (3, .pointer (some ⟨b3, 0, none⟩))]) ⟨_, b3, [], World.ownsRow_nil _ _ _ _, (fun j h => by cases h), (fun h => by cases h), (fun h => by cases h), by have := m3.lt; omega, by rw [List.take_zero]; exact QL.nil, m3, m2, hB, hF.sub _ rfl⟩ ?_
    have hbb : w0.heap.size ≤ b2 ∧ b2 < b3 := ⟨by omega, by omega⟩
    repeat clear hF
    clear hB m2 m3
    rintro i a w hi ⟨vv, o2, zs, hO, hat, hne, hne2, hlo, hP, mg, m2, hB, hF⟩ K' hK'
    have sB := hB.size
    have hgl := mg.lt
    obtain ⟨top, htop⟩ : ∃ h, h = w.heap.size := ⟨_, rfl⟩
    rw [← htop] at hP
    have hPl := hP.1
    rw [List.length_take, List.length_map] at hPl
    have h1vv := (Rd.own hO).one
    refine wp_rs fun K10 hK10 => ?_
    refine s_val hF (x_lss rfl rfl rfl) (by decide) fun a hF => ?_
    refine s_end (hK10 _ _ ?_)
    refine wp_seq_k fun K11 hK11 => ?_
    refine wp_iff hF rfl (fun hc25 => ?_) (fun hc25 => ?_)
    · obtain ⟨b, off, c, y, hve, hy, hrow⟩ := rd_row3 hR (i := i) (by omega)
      cases hve
      obtain ⟨p, hp⟩ : ∃ p, ls[i]? = some p := ⟨_, List.getElem?_eq_getElem (by omega)⟩
      have hps := szs_take hp
      have hsl1 := szs_le ls (i + 1)
      have hty := hk i y p hy hp
      have h1y := hty.one1
      refine wp_skip (hK11 _ _ ?_)
      refine wp_seq_k fun K12 hK12 => ?_
      refine wp_block ?_
      refine wp_rs fun K13 hK13 => ?_
      refine s_val hF (x_ixa rfl rfl (m_ixsK i Try.underlying22 el22.size rfl (by omega))) (by decide) fun a hF => ?_
      refine s_val hF (x_ldA wide24 (hrow _ hB) rfl rfl) (by decide) fun a hF => ?_
      refine s_alloc hF (by decide) zero24 fun w14 b5 a eb5 m5 B15 zb5 hF => ?_
      have sB15 := B15.size
      have hB := hB.trans (B15.mono hB.size)
      have m2 := m2.old B15
      have mg := mg.old B15
      have hO := own_below hO B15
      have hP := hP.below B15
      refine s_putW hF rfl rfl (size_wide wide24) m5 rfl (one_lc h1y) fun w18 m5 o19 => ?_
      have so19 := o19.size
      have hB := hB.trans (o19.below (by omega))
      have m2 := m2.only o19 (by omega)
      have mg := mg.only o19 (by omega)
      have hO := own_only hO o19 (fun e => by have := hat _ e; omega)
      have hP := hP.only o19 (fun k (hk : w0.heap.size ≤ k ∧ k ≠ b2 ∧ k ≠ b3 ∧ k ≠ o2 ∧ k < top) => by omega)
      refine s_end (hK13 _ _ ?_)
      refine dk2_one (b3) (o2) (ops := regOps Try.f141 12) (N := 8) (by kernel_rfl) wide_orders (by kernel_rfl) fun w20 hw20 B21 hS K14 hK14 => ?_
      have zw20 : w20.heap.size = w18.heap.size := by rw [hw20]
      have sB21 := B21.size
      have hB := hB.trans (B21.mono hB.size)
      have m2 := m2.old B21
      have mg := mg.old B21
      have hO := own_below hO B21
      have hP := hP.below B21
      have m5 := m5.old B21
      have m2_d := m2
      have mg_d := mg
      have hO_d := hO
      have hP_d := hP
      have m5_d := m5
      have hB_d := hB
      refine d_val 0 28 (op := (Go.Op.fieldAddr 24 (Go.Operand.tmp 3) 2)) hF hS (by kernel_rfl) (fun W hW => x_fa0 fa24_2 rfl) (by kernel_rfl) (by decide) fun a hF => ?_
      refine d_val 2 30 (op := (Go.Op.load 24 (Go.Operand.tmp 5))) hF hS (by kernel_rfl) (fun W hW => x_ldW wide24 (m5_d.k2 hW (by omega)) rfl rfl) (by kernel_rfl) (by decide) fun a hF => ?_
      refine d_two 1 3 (by kernel_rfl) ?_ ?_
      · refine d_op 1 (some 29) (Go.Op.load 22 (Go.Operand.tmp 28)) (by kernel_rfl) fun ty pos af => ?_
        refine s_val hF (x_load rfl (m_load flat22 (mg.cell (j := 2) rfl))) (by decide) fun a hF => ?_
        refine s_end ⟨hS, ?_⟩
        refine d_one 3 (some 31) (Go.Op.call (Go.Call.mk (Go.Callee.value (Go.Operand.func 141)) #[(Go.Operand.tmp 30)] #[24])) (by kernel_rfl) (by kernel_rfl) fun ty pos af => ?_
        refine s_callR (R := fun u w' => ∃ z, u = lv z ∧ RLx w' (fun k => w20.heap.size ≤ k) z (cpy p)) [_] hF (enters_of Try.func141 (by kernel_rfl) rfl) rfl (by decide) (ih p y w20 (by omega) (by omega) (RL_b hB hty)) ?_
        rintro _ w22 a ⟨z, rfl, hz0⟩ B23 hF
        have sB23 := B23.size
        have hB := hB.trans (B23.mono hB.size)
        have m2 := m2.old B23
        have mg := mg.old B23
        have hO := own_below hO B23
        have hP := hP.below B23
        have m5 := m5.old B23
        have hS := hS.below B23
        have hz := hz0.valid
        clear hz0
        have h1z := hz.rl.one1
        refine s_end ⟨hS, ?_⟩
        refine d_one 4 (some 32) (Go.Op.buildSlice 22 1 #[(0, (Go.Operand.tmp 31))]) (by kernel_rfl) (by kernel_rfl) fun ty pos af => ?_
        refine s_litG [lv z] el22 hF (by decide) rfl (by simp [Value.cells, lc]) rfl (by decide) (by decide) fun w24 bl a ebl ml B25 zbl hF => ?_
        have sB25 := B25.size
        have hB := hB.trans (B25.mono hB.size)
        have m2 := m2.old B25
        have mg := mg.old B25
        have hO := own_below hO B25
        have hP := hP.below B25
        have m5 := m5.old B25
        have hz := hz.below B25
        have hS := hS.below B25
        have ml : Blk w24 bl 24 (lc z) := by simpa [Value.cells] using ml
        refine s_end ⟨hS, ?_⟩
        refine d_one 5 (some 33) (Go.Op.call (Go.Call.mk (Go.Callee.builtin Go.Builtin.append) #[(Go.Operand.tmp 29), (Go.Operand.tmp 32)] #[22, 22])) (by kernel_rfl) (by kernel_rfl) fun ty pos af => ?_
        refine s_appL (o := o2) el22 hF (by decide) rfl rfl hO ml rfl (one_lc h1z) hat (by omega) (by omega) (by decide) (by omega) fun v3 w26 a o3 hOn hOatn how hsrc k27 hkeep hF => ?_
        have sk27 := k27.size
        have hB := k27.under hB (by omega)
        have m2 : Blk w26 b2 _ _ := (hkeep _ m2.lt hne2).trans m2
        have mg : Blk w26 b3 _ _ := (hkeep _ mg.lt hne).trans mg
        have hP := hP.k2 k27 (fun k (hk : w0.heap.size ≤ k ∧ k ≠ b2 ∧ k ≠ b3 ∧ k ≠ o2 ∧ k < top) => by omega)
        have m5 := m5.k2 k27 (by omega)
        have hz := hz.k2 k27 (fun k (hk : w20.heap.size ≤ k ∧ k < w22.heap.size) => by omega)
        have ml := ml.k2 k27 (by omega)
        have hS := hS.trans k27 (by omega)
        have hO := hOn
        have hO_at := hOatn
        have hneg : v3.ownBlock ≠ some b3 := fun h => by rcases hsrc b3 h with h | h; exact hne h; omega
        have hneg2 : v3.ownBlock ≠ some b2 := fun h => by rcases hsrc b2 h with h | h; exact hne2 h; omega
        refine s_end ⟨hS, ?_⟩
        refine d_val 6 34 (op := (Go.Op.fieldAddr 24 (Go.Operand.tmp 3) 2)) hF hS (by kernel_rfl) (fun W hW => x_fa0 fa24_2 rfl) (by kernel_rfl) (by decide) fun a hF => ?_
        refine d_one 7 none (Go.Op.store 22 (Go.Operand.tmp 34) (Go.Operand.tmp 33)) (by kernel_rfl) (by kernel_rfl) fun ty pos af => ?_
        refine s_put hF rfl rfl flat22 mg (by first | (simp; done) | (simp [tc, lc]; done) | decide) (Rd.own hO).one fun w28 mg o29 => ?_
        have so29 := o29.size
        have hB := hB.trans (o29.below (by omega))
        have m2 := m2.only o29 (by omega)
        have hO := own_only hO o29 (hneg)
        have hP := hP.only o29 (fun k (hk : w0.heap.size ≤ k ∧ k ≠ b2 ∧ k ≠ b3 ∧ k ≠ o2 ∧ k < top) => by omega)
        have m5 := m5.only o29 (by omega)
        have hz := hz.only o29 (fun k (hk : w20.heap.size ≤ k ∧ k < w22.heap.size) => by omega)
        have ml := ml.only o29 (by omega)
        have hS := hS.only o29 (by omega)
        refine s_end ⟨hS, ?_⟩
        refine d_end (by kernel_rfl) (hK14 _ _ ?_)
        refine hK12 _ _ ?_
        refine wp_region_lit ?_
        refine s_val hF (x_addn (i + 1) (by omega) (by omega) rfl rfl) (by decide) fun a hF => ?_
        refine s_val hF (x_move rfl) (by decide) fun a hF => ?_
        have hL2 : (ls.map cpy).take (i + 1) = (ls.map cpy).take i ++ [cpy p] := take_snoc (by rw [List.getElem?_map, hp]; rfl)
        refine s_end (hK' _ _ (by omega) ⟨v3, o3, zs ++ [z], by rw [fm3_app]; simpa using hO, hO_at, hneg, hneg2, by omega, by rw [hL2]; exact (hP.mono (fun k (hk : w0.heap.size ≤ k ∧ k ≠ b2 ∧ k ≠ b3 ∧ k ≠ o2 ∧ k < top) => (by omega : _ ∧ _ ∧ _ ∧ _ ∧ _))).snoc (hz.mono (fun k (hk : w20.heap.size ≤ k ∧ k < w22.heap.size) => (by omega : _ ∧ _ ∧ _ ∧ _ ∧ _))), mg, m2, hB, hF.sub _ rfl⟩)
      · refine d_op 3 (some 31) (Go.Op.call (Go.Call.mk (Go.Callee.value (Go.Operand.func 141)) #[(Go.Operand.tmp 30)] #[24])) (by kernel_rfl) fun ty pos af => ?_
        refine s_callR (R := fun u w' => ∃ z, u = lv z ∧ RLx w' (fun k => w20.heap.size ≤ k) z (cpy p)) [_] hF (enters_of Try.func141 (by kernel_rfl) rfl) rfl (by decide) (ih p y w20 (by omega) (by omega) (RL_b hB hty)) ?_
        rintro _ w30 a ⟨z, rfl, hz0⟩ B31 hF
        have sB31 := B31.size
        have hB := hB.trans (B31.mono hB.size)
        have m2 := m2.old B31
        have mg := mg.old B31
        have hO := own_below hO B31
        have hP := hP.below B31
        have m5 := m5.old B31
        have hS := hS.below B31
        have hz := hz0.valid
        clear hz0
        have h1z := hz.rl.one1
        refine s_end ⟨hS, ?_⟩
        refine d_two 1 4 (by kernel_rfl) ?_ ?_
        · refine d_op 1 (some 29) (Go.Op.load 22 (Go.Operand.tmp 28)) (by kernel_rfl) fun ty pos af => ?_
          refine s_val hF (x_load rfl (m_load flat22 (mg.cell (j := 2) rfl))) (by decide) fun a hF => ?_
          refine s_end ⟨hS, ?_⟩
          refine d_one 4 (some 32) (Go.Op.buildSlice 22 1 #[(0, (Go.Operand.tmp 31))]) (by kernel_rfl) (by kernel_rfl) fun ty pos af => ?_
          refine s_litG [lv z] el22 hF (by decide) rfl (by simp [Value.cells, lc]) rfl (by decide) (by decide) fun w32 bl a ebl ml B33 zbl hF => ?_
          have sB33 := B33.size
          have hB := hB.trans (B33.mono hB.size)
          have m2 := m2.old B33
          have mg := mg.old B33
          have hO := own_below hO B33
          have hP := hP.below B33
          have m5 := m5.old B33
          have hz := hz.below B33
          have hS := hS.below B33
          have ml : Blk w32 bl 24 (lc z) := by simpa [Value.cells] using ml
          refine s_end ⟨hS, ?_⟩
          refine d_one 5 (some 33) (Go.Op.call (Go.Call.mk (Go.Callee.builtin Go.Builtin.append) #[(Go.Operand.tmp 29), (Go.Operand.tmp 32)] #[22, 22])) (by kernel_rfl) (by kernel_rfl) fun ty pos af => ?_
          refine s_appL (o := o2) el22 hF (by decide) rfl rfl hO ml rfl (one_lc h1z) hat (by omega) (by omega) (by decide) (by omega) fun v3 w34 a o3 hOn hOatn how hsrc k35 hkeep hF => ?_
          have sk35 := k35.size
          have hB := k35.under hB (by omega)
          have m2 : Blk w34 b2 _ _ := (hkeep _ m2.lt hne2).trans m2
          have mg : Blk w34 b3 _ _ := (hkeep _ mg.lt hne).trans mg
          have hP := hP.k2 k35 (fun k (hk : w0.heap.size ≤ k ∧ k ≠ b2 ∧ k ≠ b3 ∧ k ≠ o2 ∧ k < top) => by omega)
          have m5 := m5.k2 k35 (by omega)
          have hz := hz.k2 k35 (fun k (hk : w20.heap.size ≤ k ∧ k < w30.heap.size) => by omega)
          have ml := ml.k2 k35 (by omega)
          have hS := hS.trans k35 (by omega)
          have hO := hOn
          have hO_at := hOatn
          have hneg : v3.ownBlock ≠ some b3 := fun h => by rcases hsrc b3 h with h | h; exact hne h; omega
          have hneg2 : v3.ownBlock ≠ some b2 := fun h => by rcases hsrc b2 h with h | h; exact hne2 h; omega
          refine s_end ⟨hS, ?_⟩
          refine d_val 6 34 (op := (Go.Op.fieldAddr 24 (Go.Operand.tmp 3) 2)) hF hS (by kernel_rfl) (fun W hW => x_fa0 fa24_2 rfl) (by kernel_rfl) (by decide) fun a hF => ?_
          refine d_one 7 none (Go.Op.store 22 (Go.Operand.tmp 34) (Go.Operand.tmp 33)) (by kernel_rfl) (by kernel_rfl) fun ty pos af => ?_
          refine s_put hF rfl rfl flat22 mg (by first | (simp; done) | (simp [tc, lc]; done) | decide) (Rd.own hO).one fun w36 mg o37 => ?_
          have so37 := o37.size
          have hB := hB.trans (o37.below (by omega))
          have m2 := m2.only o37 (by omega)
          have hO := own_only hO o37 (hneg)
          have hP := hP.only o37 (fun k (hk : w0.heap.size ≤ k ∧ k ≠ b2 ∧ k ≠ b3 ∧ k ≠ o2 ∧ k < top) => by omega)
          have m5 := m5.only o37 (by omega)
          have hz := hz.only o37 (fun k (hk : w20.heap.size ≤ k ∧ k < w30.heap.size) => by omega)
          have ml := ml.only o37 (by omega)
          have hS := hS.only o37 (by omega)
          refine s_end ⟨hS, ?_⟩
          refine d_end (by kernel_rfl) (hK14 _ _ ?_)
          refine hK12 _ _ ?_
          refine wp_region_lit ?_
          refine s_val hF (x_addn (i + 1) (by omega) (by omega) rfl rfl) (by decide) fun a hF => ?_
          refine s_val hF (x_move rfl) (by decide) fun a hF => ?_
          have hL2 : (ls.map cpy).take (i + 1) = (ls.map cpy).take i ++ [cpy p] := take_snoc (by rw [List.getElem?_map, hp]; rfl)
          refine s_end (hK' _ _ (by omega) ⟨v3, o3, zs ++ [z], by rw [fm3_app]; simpa using hO, hO_at, hneg, hneg2, by omega, by rw [hL2]; exact (hP.mono (fun k (hk : w0.heap.size ≤ k ∧ k ≠ b2 ∧ k ≠ b3 ∧ k ≠ o2 ∧ k < top) => (by omega : _ ∧ _ ∧ _ ∧ _ ∧ _))).snoc (hz.mono (fun k (hk : w20.heap.size ≤ k ∧ k < w30.heap.size) => (by omega : _ ∧ _ ∧ _ ∧ _ ∧ _))), mg, m2, hB, hF.sub _ rfl⟩)
        · refine d_op 4 (some 32) (Go.Op.buildSlice 22 1 #[(0, (Go.Operand.tmp 31))]) (by kernel_rfl) fun ty pos af => ?_
          refine s_litG [lv z] el22 hF (by decide) rfl (by simp [Value.cells, lc]) rfl (by decide) (by decide) fun w38 bl a ebl ml B39 zbl hF => ?_
          have sB39 := B39.size
          have hB := hB.trans (B39.mono hB.size)
          have m2 := m2.old B39
          have mg := mg.old B39
          have hO := own_below hO B39
          have hP := hP.below B39
          have m5 := m5.old B39
          have hz := hz.below B39
          have hS := hS.below B39
          have ml : Blk w38 bl 24 (lc z) := by simpa [Value.cells] using ml
          refine s_end ⟨hS, ?_⟩
          refine d_one 1 (some 29) (Go.Op.load 22 (Go.Operand.tmp 28)) (by kernel_rfl) (by kernel_rfl) fun ty pos af => ?_
          refine s_val hF (x_load rfl (m_load flat22 (mg.cell (j := 2) rfl))) (by decide) fun a hF => ?_
          refine s_end ⟨hS, ?_⟩
          refine d_one 5 (some 33) (Go.Op.call (Go.Call.mk (Go.Callee.builtin Go.Builtin.append) #[(Go.Operand.tmp 29), (Go.Operand.tmp 32)] #[22, 22])) (by kernel_rfl) (by kernel_rfl) fun ty pos af => ?_
          refine s_appL (o := o2) el22 hF (by decide) rfl rfl hO ml rfl (one_lc h1z) hat (by omega) (by omega) (by decide) (by omega) fun v3 w40 a o3 hOn hOatn how hsrc k41 hkeep hF => ?_
          have sk41 := k41.size
          have hB := k41.under hB (by omega)
          have m2 : Blk w40 b2 _ _ := (hkeep _ m2.lt hne2).trans m2
          have mg : Blk w40 b3 _ _ := (hkeep _ mg.lt hne).trans mg
          have hP := hP.k2 k41 (fun k (hk : w0.heap.size ≤ k ∧ k ≠ b2 ∧ k ≠ b3 ∧ k ≠ o2 ∧ k < top) => by omega)
          have m5 := m5.k2 k41 (by omega)
          have hz := hz.k2 k41 (fun k (hk : w20.heap.size ≤ k ∧ k < w30.heap.size) => by omega)
          have ml := ml.k2 k41 (by omega)
          have hS := hS.trans k41 (by omega)
          have hO := hOn
          have hO_at := hOatn
          have hneg : v3.ownBlock ≠ some b3 := fun h => by rcases hsrc b3 h with h | h; exact hne h; omega
          have hneg2 : v3.ownBlock ≠ some b2 := fun h => by rcases hsrc b2 h with h | h; exact hne2 h; omega
          refine s_end ⟨hS, ?_⟩
          refine d_val 6 34 (op := (Go.Op.fieldAddr 24 (Go.Operand.tmp 3) 2)) hF hS (by kernel_rfl) (fun W hW => x_fa0 fa24_2 rfl) (by kernel_rfl) (by decide) fun a hF => ?_
          refine d_one 7 none (Go.Op.store 22 (Go.Operand.tmp 34) (Go.Operand.tmp 33)) (by kernel_rfl) (by kernel_rfl) fun ty pos af => ?_
          refine s_put hF rfl rfl flat22 mg (by first | (simp; done) | (simp [tc, lc]; done) | decide) (Rd.own hO).one fun w42 mg o43 => ?_
          have so43 := o43.size
          have hB := hB.trans (o43.below (by omega))
          have m2 := m2.only o43 (by omega)
          have hO := own_only hO o43 (hneg)
          have hP := hP.only o43 (fun k (hk : w0.heap.size ≤ k ∧ k ≠ b2 ∧ k ≠ b3 ∧ k ≠ o2 ∧ k < top) => by omega)
          have m5 := m5.only o43 (by omega)
          have hz := hz.only o43 (fun k (hk : w20.heap.size ≤ k ∧ k < w30.heap.size) => by omega)
          have ml := ml.only o43 (by omega)
          have hS := hS.only o43 (by omega)
          refine s_end ⟨hS, ?_⟩
          refine d_end (by kernel_rfl) (hK14 _ _ ?_)
          refine hK12 _ _ ?_
          refine wp_region_lit ?_
          refine s_val hF (x_addn (i + 1) (by omega) (by omega) rfl rfl) (by decide) fun a hF => ?_
          refine s_val hF (x_move rfl) (by decide) fun a hF => ?_
          have hL2 : (ls.map cpy).take (i + 1) = (ls.map cpy).take i ++ [cpy p] := take_snoc (by rw [List.getElem?_map, hp]; rfl)
          refine s_end (hK' _ _ (by omega) ⟨v3, o3, zs ++ [z], by rw [fm3_app]; simpa using hO, hO_at, hneg, hneg2, by omega, by rw [hL2]; exact (hP.mono (fun k (hk : w0.heap.size ≤ k ∧ k ≠ b2 ∧ k ≠ b3 ∧ k ≠ o2 ∧ k < top) => (by omega : _ ∧ _ ∧ _ ∧ _ ∧ _))).snoc (hz.mono (fun k (hk : w20.heap.size ≤ k ∧ k < w30.heap.size) => (by omega : _ ∧ _ ∧ _ ∧ _ ∧ _))), mg, m2, hB, hF.sub _ rfl⟩)
    · refine wp_exit (hK8 _ _ ?_)
      refine wp_rs fun K15 hK15 => ?_
      refine s_val hF (x_ldW wide24 mg rfl rfl) (by decide) fun a hF => ?_
      refine s_putW hF rfl rfl (size_wide wide24) m2 rfl (one3 h1vv) fun w46 m2 o47 => ?_
      have so47 := o47.size
      have hB := hB.trans (o47.below (by omega))
      have mg := mg.only o47 (by omega)
      have hO := own_only hO o47 (hne2)
      have hP := hP.only o47 (fun k (hk : w0.heap.size ≤ k ∧ k ≠ b2 ∧ k ≠ b3 ∧ k ≠ o2 ∧ k < top) => by omega)
      refine s_end (hK15 _ _ ?_)
      have hall : (ls.map cpy).take i = ls.map cpy := List.take_of_length_le (by rw [List.length_map]; omega)
      rw [hall] at hP
      refine wp_ret (res_cell hF rfl rfl m2 wide24 ⟨_, rfl, ⟨(k, n, vv), rfl, by rw [hcp]; exact .mk ⟨Rd.own hO, fun _ j h => (hO.lt j h).1⟩ hP.1 ((hP.mono (B := fun k => w0.heap.size ≤ k) (fun k (hk : w0.heap.size ≤ k ∧ k ≠ b2 ∧ k ≠ b3 ∧ k ≠ o2 ∧ k < top) => (by omega : _ ≤ _))).2)⟩, hB⟩)
  · have hcp : cpy (.mk k n ls) = .mk k n (ls.map cpy) := by simp [cpy, hk1, cpys_map]
    refine wp_rs fun K16 hK16 => ?_
    refine s_val hF (x_eql (b := false) (decide_eq_false (by omega)) rfl rfl) (by decide) fun a hF => ?_
    refine s_val hF (x_assign rfl) (by decide) fun a hF => ?_
    refine s_end (hK16 _ _ ?_)
    refine wp_if hF rfl ?_
    refine wp_rs fun K17 hK17 => ?_
    refine s_val hF (x_eql (b := true) (decide_eq_true (by omega)) rfl rfl) (by decide) fun a hF => ?_
    refine s_val hF (x_assign rfl) (by decide) fun a hF => ?_
    refine s_end (hK17 _ _ ?_)
    refine wp_if hF rfl ?_
    refine wp_skip (hK5 _ _ ?_)
    refine wp_if hF rfl ?_
    refine wp_region_lit ?_
    refine s_val hF (x_fa0 fa24_1 rfl) (by decide) fun a hF => ?_
    refine s_val hF (x_load rfl (m_load flat3 (m1.cell (j := 1) rfl))) (by decide) fun a hF => ?_
    refine s_val hF (x_fa0 fa24_1 rfl) (by decide) fun a hF => ?_
    refine s_put hF rfl rfl flat3 m3 (by first | (simp; done) | (simp [tc, lc]; done) | decide) rfl fun w48 m3 o49 => ?_
    have so49 := o49.size
    have hB := hB.trans (o49.below (by omega))
    have m1 := m1.only o49 (by omega)
    have m2 := m2.only o49 (by omega)
    refine s_end (hK3 _ _ ?_)
    refine wp_seq_k fun K18 hK18 => ?_
    refine wp_rs fun K19 hK19 => ?_
    refine s_val hF (x_fa0 fa24_2 rfl) (by decide) fun a hF => ?_
    refine s_val hF (x_load rfl (m_load flat22 (m1.cell (j := 2) rfl))) (by decide) fun a hF => ?_
    refine s_val hF (x_len Try.underlying22 rfl) (by decide) fun a hF => ?_
    refine s_val hF (x_move rfl) (by decide) fun a hF => ?_
    refine s_end (hK19 _ _ ?_)
    refine wp_block ?_
    refine wp_up xs.length (fun i a w => ∃ v' o' zs, w.ownsRow w0.heap.size 24 3 v' zs.length (zs.flatMap lc) ∧ (∀ j, v'.ownBlock = some j → j = o') ∧ v'.ownBlock ≠ some b3 ∧ v'.ownBlock ≠ some b2 ∧ (w0.heap.size ≤ o' ∧ o' < w.heap.size ∧ (o' = b3 ∨ b3 < o')) ∧ QL w (fun k => w0.heap.size ≤ k ∧ k ≠ b2 ∧ k ≠ b3 ∧ k ≠ o' ∧ k < w.heap.size) zs ((ls.map cpy).take i) ∧ Blk w b3 24 [.int .i64 k, .int .i64 n, v'] ∧ Blk w b2 24 [.int .i64 0, .int .i64 0, .slice none 0 0] ∧ Below w0.heap.size w0 w ∧ Fs 37 a [(24, .int .i64 (i : Int)), (23, .int .i64 (xs.length : Int)), (22, .slice av xs.length cv), (2, .pointer (some ⟨b2, 0, none⟩)), (3, .pointer (some ⟨b3, 0, none⟩))]) ⟨_, b3, [], World.ownsRow_nil _ _ _ _, (fun j h => by cases h), (fun h => by cases h), (fun h => by cases h), by have := m3.lt; omega, by rw [List.take_zero]; exact QL.nil, m3, m2, hB, hF.sub _ rfl⟩ ?_
    have hbb : w0.heap.size ≤ b2 ∧ b2 < b3 := ⟨by omega, by omega⟩
    repeat clear hF
    clear hB m2 m3
    rintro i a w hi ⟨vv, o2, zs, hO, hat, hne, hne2, hlo, hP, mg, m2, hB, hF⟩ K' hK'
    have sB := hB.size
    have hgl := mg.lt
    obtain ⟨top, htop⟩ : ∃ h, h = w.heap.size := ⟨_, rfl⟩
    rw [← htop] at hP
    have hPl := hP.1
    rw [List.length_take, List.length_map] at hPl
    have h1vv := (Rd.own hO).one
    refine wp_rs fun K20 hK20 => ?_
    refine s_val hF (x_lss rfl rfl rfl) (by decide) fun a hF => ?_
    refine s_end (hK20 _ _ ?_)
    refine wp_seq_k fun K21 hK21 => ?_
    refine wp_iff hF rfl (fun hc25 => ?_) (fun hc25 => ?_)
    · obtain ⟨b, off, c, y, hve, hy, hrow⟩ := rd_row3 hR (i := i) (by omega)
      cases hve
      obtain ⟨p, hp⟩ : ∃ p, ls[i]? = some p := ⟨_, List.getElem?_eq_getElem (by omega)⟩
      have hps := szs_take hp
      have hsl1 := szs_le ls (i + 1)
      have hty := hk i y p hy hp
      have h1y := hty.one1
      refine wp_skip (hK21 _ _ ?_)
      refine wp_seq_k fun K22 hK22 => ?_
      refine wp_block ?_
      refine wp_rs fun K23 hK23 => ?_
      refine s_val hF (x_ixa rfl rfl (m_ixsK i Try.underlying22 el22.size rfl (by omega))) (by decide) fun a hF => ?_
      refine s_val hF (x_ldA wide24 (hrow _ hB) rfl rfl) (by decide) fun a hF => ?_
      refine s_alloc hF (by decide) zero24 fun w50 b5 a eb5 m5 B51 zb5 hF => ?_
      have sB51 := B51.size
      have hB := hB.trans (B51.mono hB.size)
      have m2 := m2.old B51
      have mg := mg.old B51
      have hO := own_below hO B51
      have hP := hP.below B51
      refine s_putW hF rfl rfl (size_wide wide24) m5 rfl (one_lc h1y) fun w54 m5 o55 => ?_
      have so55 := o55.size
      have hB := hB.trans (o55.below (by omega))
      have m2 := m2.only o55 (by omega)
      have mg := mg.only o55 (by omega)
      have hO := own_only hO o55 (fun e => by have := hat _ e; omega)
      have hP := hP.only o55 (fun k (hk : w0.heap.size ≤ k ∧ k ≠ b2 ∧ k ≠ b3 ∧ k ≠ o2 ∧ k < top) => by omega)
      refine s_end (hK23 _ _ ?_)
      refine dk2_one (b3) (o2) (ops := regOps Try.f141 12) (N := 8) (by kernel_rfl) wide_orders (by kernel_rfl) fun w56 hw56 B57 hS K24 hK24 => ?_
      have zw56 : w56.heap.size = w54.heap.size := by rw [hw56]
      have sB57 := B57.size
      have hB := hB.trans (B57.mono hB.size)
      have m2 := m2.old B57
      have mg := mg.old B57
      have hO := own_below hO B57
      have hP := hP.below B57
      have m5 := m5.old B57
      have m2_d := m2
      have mg_d := mg
      have hO_d := hO
      have hP_d := hP
      have m5_d := m5
      have hB_d := hB
      refine d_val 0 28 (op := (Go.Op.fieldAddr 24 (Go.Operand.tmp 3) 2)) hF hS (by kernel_rfl) (fun W hW => x_fa0 fa24_2 rfl) (by kernel_rfl) (by decide) fun a hF => ?_
      refine d_val 2 30 (op := (Go.Op.load 24 (Go.Operand.tmp 5))) hF hS (by kernel_rfl) (fun W hW => x_ldW wide24 (m5_d.k2 hW (by omega)) rfl rfl) (by kernel_rfl) (by decide) fun a hF => ?_
      refine d_two 1 3 (by kernel_rfl) ?_ ?_
      · refine d_op 1 (some 29) (Go.Op.load 22 (Go.Operand.tmp 28)) (by kernel_rfl) fun ty pos af => ?_
        refine s_val hF (x_load rfl (m_load flat22 (mg.cell (j := 2) rfl))) (by decide) fun a hF => ?_
        refine s_end ⟨hS, ?_⟩
        refine d_one 3 (some 31) (Go.Op.call (Go.Call.mk (Go.Callee.value (Go.Operand.func 141)) #[(Go.Operand.tmp 30)] #[24])) (by kernel_rfl) (by kernel_rfl) fun ty pos af => ?_
        refine s_callR (R := fun u w' => ∃ z, u = lv z ∧ RLx w' (fun k => w56.heap.size ≤ k) z (cpy p)) [_] hF (enters_of Try.func141 (by kernel_rfl) rfl) rfl (by decide) (ih p y w56 (by omega) (by omega) (RL_b hB hty)) ?_
        rintro _ w58 a ⟨z, rfl, hz0⟩ B59 hF
        have sB59 := B59.size
        have hB := hB.trans (B59.mono hB.size)
        have m2 := m2.old B59
        have mg := mg.old B59
        have hO := own_below hO B59
        have hP := hP.below B59
        have m5 := m5.old B59
        have hS := hS.below B59
        have hz := hz0.valid
        clear hz0
        have h1z := hz.rl.one1
        refine s_end ⟨hS, ?_⟩
        refine d_one 4 (some 32) (Go.Op.buildSlice 22 1 #[(0, (Go.Operand.tmp 31))]) (by kernel_rfl) (by kernel_rfl) fun ty pos af => ?_
        refine s_litG [lv z] el22 hF (by decide) rfl (by simp [Value.cells, lc]) rfl (by decide) (by decide) fun w60 bl a ebl ml B61 zbl hF => ?_
        have sB61 := B61.size
        have hB := hB.trans (B61.mono hB.size)
        have m2 := m2.old B61
        have mg := mg.old B61
        have hO := own_below hO B61
        have hP := hP.below B61
        have m5 := m5.old B61
        have hz := hz.below B61
        have hS := hS.below B61
        have ml : Blk w60 bl 24 (lc z) := by simpa [Value.cells] using ml
        refine s_end ⟨hS, ?_⟩
        refine d_one 5 (some 33) (Go.Op.call (Go.Call.mk (Go.Callee.builtin Go.Builtin.append) #[(Go.Operand.tmp 29), (Go.Operand.tmp 32)] #[22, 22])) (by kernel_rfl) (by kernel_rfl) fun ty pos af => ?_
        refine s_appL (o := o2) el22 hF (by decide) rfl rfl hO ml rfl (one_lc h1z) hat (by omega) (by omega) (by decide) (by omega) fun v3 w62 a o3 hOn hOatn how hsrc k63 hkeep hF => ?_
        have sk63 := k63.size
        have hB := k63.under hB (by omega)
        have m2 : Blk w62 b2 _ _ := (hkeep _ m2.lt hne2).trans m2
        have mg : Blk w62 b3 _ _ := (hkeep _ mg.lt hne).trans mg
        have hP := hP.k2 k63 (fun k (hk : w0.heap.size ≤ k ∧ k ≠ b2 ∧ k ≠ b3 ∧ k ≠ o2 ∧ k < top) => by omega)
        have m5 := m5.k2 k63 (by omega)
        have hz := hz.k2 k63 (fun k (hk : w56.heap.size ≤ k ∧ k < w58.heap.size) => by omega)
        have ml := ml.k2 k63 (by omega)
        have hS := hS.trans k63 (by omega)
        have hO := hOn
        have hO_at := hOatn
        have hneg : v3.ownBlock ≠ some b3 := fun h => by rcases hsrc b3 h with h | h; exact hne h; omega
        have hneg2 : v3.ownBlock ≠ some b2 := fun h => by rcases hsrc b2 h with h | h; exact hne2 h; omega
        refine s_end ⟨hS, ?_⟩
        refine d_val 6 34 (op := (Go.Op.fieldAddr 24 (Go.Operand.tmp 3) 2)) hF hS (by kernel_rfl) (fun W hW => x_fa0 fa24_2 rfl) (by kernel_rfl) (by decide) fun a hF => ?_
        refine d_one 7 none (Go.Op.store 22 (Go.Operand.tmp 34) (Go.Operand.tmp 33)) (by kernel_rfl) (by kernel_rfl) fun ty pos af => ?_
        refine s_put hF rfl rfl flat22 mg (by first | (simp; done) | (simp [tc, lc]; done) | decide) (Rd.own hO).one fun w64 mg o65 => ?_
        have so65 := o65.size
        have hB := hB.trans (o65.below (by omega))
        have m2 := m2.only o65 (by omega)
        have hO := own_only hO o65 (hneg)
        have hP := hP.only o65 (fun k (hk : w0.heap.size ≤ k ∧ k ≠ b2 ∧ k ≠ b3 ∧ k ≠ o2 ∧ k < top) => by omega)
        have m5 := m5.only o65 (by omega)
        have hz := hz.only o65 (fun k (hk : w56.heap.size ≤ k ∧ k < w58.heap.size) => by omega)
        have ml := ml.only o65 (by omega)
        have hS := hS.only o65 (by omega)
        refine s_end ⟨hS, ?_⟩
        refine d_end (by kernel_rfl) (hK24 _ _ ?_)
        refine hK22 _ _ ?_
        refine wp_region_lit ?_
        refine s_val hF (x_addn (i + 1) (by omega) (by omega) rfl rfl) (by decide) fun a hF => ?_
        refine s_val hF (x_move rfl) (by decide) fun a hF => ?_
        have hL2 : (ls.map cpy).take (i + 1) = (ls.map cpy).take i ++ [cpy p] := take_snoc (by rw [List.getElem?_map, hp]; rfl)
        refine s_end (hK' _ _ (by omega) ⟨v3, o3, zs ++ [z], by rw [fm3_app]; simpa using hO, hO_at, hneg, hneg2, by omega, by rw [hL2]; exact (hP.mono (fun k (hk : w0.heap.size ≤ k ∧ k ≠ b2 ∧ k ≠ b3 ∧ k ≠ o2 ∧ k < top) => (by omega : _ ∧ _ ∧ _ ∧ _ ∧ _))).snoc (hz.mono (fun k (hk : w56.heap.size ≤ k ∧ k < w58.heap.size) => (by omega : _ ∧ _ ∧ _ ∧ _ ∧ _))), mg, m2, hB, hF.sub _ rfl⟩)
      · refine d_op 3 (some 31) (Go.Op.call (Go.Call.mk (Go.Callee.value (Go.Operand.func 141)) #[(Go.Operand.tmp 30)] #[24])) (by kernel_rfl) fun ty pos af => ?_
        refine s_callR (R := fun u w' => ∃ z, u = lv z ∧ RLx w' (fun k => w56.heap.size ≤ k) z (cpy p)) [_] hF (enters_of Try.func141 (by kernel_rfl) rfl) rfl (by decide) (ih p y w56 (by omega) (by omega) (RL_b hB hty)) ?_
        rintro _ w66 a ⟨z, rfl, hz0⟩ B67 hF
        have sB67 := B67.size
        have hB := hB.trans (B67.mono hB.size)
        have m2 := m2.old B67
        have mg := mg.old B67
        have hO := own_below hO B67
        have hP := hP.below B67
        have m5 := m5.old B67
        have hS := hS.below B67
        have hz := hz0.valid
        clear hz0
        have h1z := hz.rl.one1
        refine s_end ⟨hS, ?_⟩
        refine d_two 1 4 (by kernel_rfl) ?_ ?_
        · refine d_op 1 (some 29) (Go.Op.load 22 (Go.Operand.tmp 28)) (by kernel_rfl) fun ty pos af => ?_
          refine s_val hF (x_load rfl (m_load flat22 (mg.cell (j := 2) rfl))) (by decide) fun a hF => ?_
          refine s_end ⟨hS, ?_⟩
          refine d_one 4 (some 32) (Go.Op.buildSlice 22 1 #[(0, (Go.Operand.tmp 31))]) (by kernel_rfl) (by kernel_rfl) fun ty pos af => ?_
          refine s_litG [lv z] el22 hF (by decide) rfl (by simp [Value.cells, lc]) rfl (by decide) (by decide) fun w68 bl a ebl ml B69 zbl hF => ?_
          have sB69 := B69.size
          have hB := hB.trans (B69.mono hB.size)
          have m2 := m2.old B69
          have mg := mg.old B69
          have hO := own_below hO B69
          have hP := hP.below B69
          have m5 := m5.old B69
          have hz := hz.below B69
          have hS := hS.below B69
          have ml : Blk w68 bl 24 (lc z) := by simpa [Value.cells] using ml
          refine s_end ⟨hS, ?_⟩
          refine d_one 5 (some 33) (Go.Op.call (Go.Call.mk (Go.Callee.builtin Go.Builtin.append) #[(Go.Operand.tmp 29), (Go.Operand.tmp 32)] #[22, 22])) (by kernel_rfl) (by kernel_rfl) fun ty pos af => ?_
          refine s_appL (o := o2) el22 hF (by decide) rfl rfl hO ml rfl (one_lc h1z) hat (by omega) (by omega) (by decide) (by omega) fun v3 w70 a o3 hOn hOatn how hsrc k71 hkeep hF => ?_
          have sk71 := k71.size
          have hB := k71.under hB (by omega)
          have m2 : Blk w70 b2 _ _ := (hkeep _ m2.lt hne2).trans m2
          have mg : Blk w70 b3 _ _ := (hkeep _ mg.lt hne).trans mg
          have hP := hP.k2 k71 (fun k (hk : w0.heap.size ≤ k ∧ k ≠ b2 ∧ k ≠ b3 ∧ k ≠ o2 ∧ k < top) => by omega)
          have m5 := m5.k2 k71 (by omega)
          have hz := hz.k2 k71 (fun k (hk : w56.heap.size ≤ k ∧ k < w66.heap.size) => by omega)
          have ml := ml.k2 k71 (by omega)
          have hS := hS.trans k71 (by omega)
          have hO := hOn
          have hO_at := hOatn
          have hneg : v3.ownBlock ≠ some b3 := fun h => by rcases hsrc b3 h with h | h; exact hne h; omega
          have hneg2 : v3.ownBlock ≠ some b2 := fun h => by rcases hsrc b2 h with h | h; exact hne2 h; omega
          refine s_end ⟨hS, ?_⟩
          refine d_val 6 34 (op := (Go.Op.fieldAddr 24 (Go.Operand.tmp 3) 2)) hF hS (by kernel_rfl) (fun W hW => x_fa0 fa24_2 rfl) (by kernel_rfl) (by decide) fun a hF => ?_
          refine d_one 7 none (Go.Op.store 22 (Go.Operand.tmp 34) (Go.Operand.tmp 33)) (by kernel_rfl) (by kernel_rfl) fun ty pos af => ?_
          refine s_put hF rfl rfl flat22 mg (by first | (simp; done) | (simp [tc, lc]; done) | decide) (Rd.own hO).one fun w72 mg o73 => ?_
          have so73 := o73.size
          have hB := hB.trans (o73.below (by omega))
          have m2 := m2.only o73 (by omega)
          have hO := own_only hO o73 (hneg)
          have hP := hP.only o73 (fun k (hk : w0.heap.size ≤ k ∧ k ≠ b2 ∧ k ≠ b3 ∧ k ≠ o2 ∧ k < top) => by omega)
          have m5 := m5.only o73 (by omega)
          have hz := hz.only o73 (fun k (hk : w56.heap.size ≤ k ∧ k < w66.heap.size) => by omega)
          have ml := ml.only o73 (by omega)
          have hS := hS.only o73 (by omega)
          refine s_end ⟨hS, ?_⟩
          refine d_end (by kernel_rfl) (hK24 _ _ ?_)
          refine hK22 _ _ ?_
          refine wp_region_lit ?_
          refine s_val hF (x_addn (i + 1) (by omega) (by omega) rfl rfl) (by decide) fun a hF => ?_
          refine s_val hF (x_move rfl) (by decide) fun a hF => ?_
          have hL2 : (ls.map cpy).take (i + 1) = (ls.map cpy).take i ++ [cpy p] := take_snoc (by rw [List.getElem?_map, hp]; rfl)
          refine s_end (hK' _ _ (by omega) ⟨v3, o3, zs ++ [z], by rw [fm3_app]; simpa using hO, hO_at, hneg, hneg2, by omega, by rw [hL2]; exact (hP.mono (fun k (hk : w0.heap.size ≤ k ∧ k ≠ b2 ∧ k ≠ b3 ∧ k ≠ o2 ∧ k < top) => (by omega : _ ∧ _ ∧ _ ∧ _ ∧ _))).snoc (hz.mono (fun k (hk : w56.heap.size ≤ k ∧ k < w66.heap.size) => (by omega : _ ∧ _ ∧ _ ∧ _ ∧ _))), mg, m2, hB, hF.sub _ rfl⟩)
        · refine d_op 4 (some 32) (Go.Op.buildSlice 22 1 #[(0, (Go.Operand.tmp 31))]) (by kernel_rfl) fun ty pos af => ?_
          refine s_litG [lv z] el22 hF (by decide) rfl (by simp [Value.cells, lc]) rfl (by decide) (by decide) fun w74 bl a ebl ml B75 zbl hF => ?_
          have sB75 := B75.size
          have hB := hB.trans (B75.mono hB.size)
          have m2 := m2.old B75
          have mg := mg.old B75
          have hO := own_below hO B75
          have hP := hP.below B75
          have m5 := m5.old B75
          have hz := hz.below B75
          have hS := hS.below B75
          have ml : Blk w74 bl 24 (lc z) := by simpa [Value.cells] using ml
          refine s_end ⟨hS, ?_⟩
          refine d_one 1 (some 29) (Go.Op.load 22 (Go.Operand.tmp 28)) (by kernel_rfl) (by kernel_rfl) fun ty pos af => ?_
          refine s_val hF (x_load rfl (m_load flat22 (mg.cell (j := 2) rfl))) (by decide) fun a hF => ?_
          refine s_end ⟨hS, ?_⟩
          refine d_one 5 (some 33) (Go.Op.call (Go.Call.mk (Go.Callee.builtin Go.Builtin.append) #[(Go.Operand.tmp 29), (Go.Operand.tmp 32)] #[22, 22])) (by kernel_rfl) (by kernel_rfl) fun ty pos af => ?_
          refine s_appL (o := o2) el22 hF (by decide) rfl rfl hO ml rfl (one_lc h1z) hat (by omega) (by omega) (by decide) (by omega) fun v3 w76 a o3 hOn hOatn how hsrc k77 hkeep hF => ?_
          have sk77 := k77.size
          have hB := k77.under hB (by omega)
          have m2 : Blk w76 b2 _ _ := (hkeep _ m2.lt hne2).trans m2
          have mg : Blk w76 b3 _ _ := (hkeep _ mg.lt hne).trans mg
          have hP := hP.k2 k77 (fun k (hk : w0.heap.size ≤ k ∧ k ≠ b2 ∧ k ≠ b3 ∧ k ≠ o2 ∧ k < top) => by omega)
          have m5 := m5.k2 k77 (by omega)
          have hz := hz.k2 k77 (fun k (hk : w56.heap.size ≤ k ∧ k < w66.heap.size) => by omega)
          have ml := ml.k2 k77 (by omega)
          have hS := hS.trans k77 (by omega)
          have hO := hOn
          have hO_at := hOatn
          have hneg : v3.ownBlock ≠ some b3 := fun h => by rcases hsrc b3 h with h | h; exact hne h; omega
          have hneg2 : v3.ownBlock ≠ some b2 := fun h => by rcases hsrc b2 h with h | h; exact hne2 h; omega
          refine s_end ⟨hS, ?_⟩
          refine d_val 6 34 (op := (Go.Op.fieldAddr 24 (Go.Operand.tmp 3) 2)) hF hS (by kernel_rfl) (fun W hW => x_fa0 fa24_2 rfl) (by kernel_rfl) (by decide) fun a hF => ?_
          refine d_one 7 none (Go.Op.store 22 (Go.Operand.tmp 34) (Go.Operand.tmp 33)) (by kernel_rfl) (by kernel_rfl) fun ty pos af => ?_
          refine s_put hF rfl rfl flat22 mg (by first | (simp; done) | (simp [tc, lc]; done) | decide) (Rd.own hO).one fun w78 mg o79 => ?_
          have so79 := o79.size
          have hB := hB.trans (o79.below (by omega))
          have m2 := m2.only o79 (by omega)
          have hO := own_only hO o79 (hneg)
          have hP := hP.only o79 (fun k (hk : w0.heap.size ≤ k ∧ k ≠ b2 ∧ k ≠ b3 ∧ k ≠ o2 ∧ k < top) => by omega)
          have m5 := m5.only o79 (by omega)
          have hz := hz.only o79 (fun k (hk : w56.heap.size ≤ k ∧ k < w66.heap.size) => by omega)
          have ml := ml.only o79 (by omega)
          have hS := hS.only o79 (by omega)
          refine s_end ⟨hS, ?_⟩
          refine d_end (by kernel_rfl) (hK24 _ _ ?_)
          refine hK22 _ _ ?_
          refine wp_region_lit ?_
          refine s_val hF (x_addn (i + 1) (by omega) (by omega) rfl rfl) (by decide) fun a hF => ?_
          refine s_val hF (x_move rfl) (by decide) fun a hF => ?_
          have hL2 : (ls.map cpy).take (i + 1) = (ls.map cpy).take i ++ [cpy p] := take_snoc (by rw [List.getElem?_map, hp]; rfl)
          refine s_end (hK' _ _ (by omega) ⟨v3, o3, zs ++ [z], by rw [fm3_app]; simpa using hO, hO_at, hneg, hneg2, by omega, by rw [hL2]; exact (hP.mono (fun k (hk : w0.heap.size ≤ k ∧ k ≠ b2 ∧ k ≠ b3 ∧ k ≠ o2 ∧ k < top) => (by omega : _ ∧ _ ∧ _ ∧ _ ∧ _))).snoc (hz.mono (fun k (hk : w56.heap.size ≤ k ∧ k < w66.heap.size) => (by omega : _ ∧ _ ∧ _ ∧ _ ∧ _))), mg, m2, hB, hF.sub _ rfl⟩)
    · refine wp_exit (hK18 _ _ ?_)
      refine wp_rs fun K25 hK25 => ?_
      refine s_val hF (x_ldW wide24 mg rfl rfl) (by decide) fun a hF => ?_
      refine s_putW hF rfl rfl (size_wide wide24) m2 rfl (one3 h1vv) fun w82 m2 o83 => ?_
      have so83 := o83.size
      have hB := hB.trans (o83.below (by omega))
      have mg := mg.only o83 (by omega)
      have hO := own_only hO o83 (hne2)
      have hP := hP.only o83 (fun k (hk : w0.heap.size ≤ k ∧ k ≠ b2 ∧ k ≠ b3 ∧ k ≠ o2 ∧ k < top) => by omega)
      refine s_end (hK25 _ _ ?_)
      have hall : (ls.map cpy).take i = ls.map cpy := List.take_of_length_le (by rw [List.length_map]; omega)
      rw [hall] at hP
      refine wp_ret (res_cell hF rfl rfl m2 wide24 ⟨_, rfl, ⟨(k, n, vv), rfl, by rw [hcp]; exact .mk ⟨Rd.own hO, fun _ j h => (hO.lt j h).1⟩ hP.1 ((hP.mono (B := fun k => w0.heap.size ≤ k) (fun k (hk : w0.heap.size ≤ k ∧ k ≠ b2 ∧ k ≠ b3 ∧ k ≠ o2 ∧ k < top) => (by omega : _ ≤ _))).2)⟩, hB⟩)
  · have hcp : cpy (.mk k n ls) = .mk k n (ls.map cpy) := by simp [cpy, hk1, cpys_map]
    refine wp_rs fun K26 hK26 => ?_
    refine s_val hF (x_eql (b := false) (decide_eq_false (by omega)) rfl rfl) (by decide) fun a hF => ?_
    refine s_val hF (x_assign rfl) (by decide) fun a hF => ?_
    refine s_end (hK26 _ _ ?_)
    refine wp_if hF rfl ?_
    refine wp_rs fun K27 hK27 => ?_
    refine s_val hF (x_eql (b := false) (decide_eq_false (by omega)) rfl rfl) (by decide) fun a hF => ?_
    refine s_val hF (x_assign rfl) (by decide) fun a hF => ?_
    refine s_end (hK27 _ _ ?_)
    refine wp_if hF rfl ?_
    refine wp_region_lit ?_
    refine s_val hF (x_eql (b := true) (decide_eq_true (by omega)) rfl rfl) (by decide) fun a hF => ?_
    refine s_val hF (x_assign rfl) (by decide) fun a hF => ?_
    refine s_end (hK5 _ _ ?_)
    refine wp_if hF rfl ?_
    refine wp_region_lit ?_
    refine s_val hF (x_fa0 fa24_1 rfl) (by decide) fun a hF => ?_
    refine s_val hF (x_load rfl (m_load flat3 (m1.cell (j := 1) rfl))) (by decide) fun a hF => ?_
    refine s_val hF (x_fa0 fa24_1 rfl) (by decide) fun a hF => ?_
    refine s_put hF rfl rfl flat3 m3 (by first | (simp; done) | (simp [tc, lc]; done) | decide) rfl fun w84 m3 o85 => ?_
    have so85 := o85.size
    have hB := hB.trans (o85.below (by omega))
    have m1 := m1.only o85 (by omega)
    have m2 := m2.only o85 (by omega)
    refine s_end (hK3 _ _ ?_)
    refine wp_seq_k fun K28 hK28 => ?_
    refine wp_rs fun K29 hK29 => ?_
    refine s_val hF (x_fa0 fa24_2 rfl) (by decide) fun a hF => ?_
    refine s_val hF (x_load rfl (m_load flat22 (m1.cell (j := 2) rfl))) (by decide) fun a hF => ?_
    refine s_val hF (x_len Try.underlying22 rfl) (by decide) fun a hF => ?_
    refine s_val hF (x_move rfl) (by decide) fun a hF => ?_
    refine s_end (hK29 _ _ ?_)
    refine wp_block ?_
    refine wp_up xs.length (fun i a w => ∃ v' o' zs, w.ownsRow w0.heap.size 24 3 v' zs.length (zs.flatMap lc) ∧ (∀ j, v'.ownBlock = some j → j = o') ∧ v'.ownBlock ≠ some b3 ∧ v'.ownBlock ≠ some b2 ∧ (w0.heap.size ≤ o' ∧ o' < w.heap.size ∧ (o' = b3 ∨ b3 < o')) ∧ QL w (fun k => w0.heap.size ≤ k ∧ k ≠ b2 ∧ k ≠ b3 ∧ k ≠ o' ∧ k < w.heap.size) zs ((ls.map cpy).take i) ∧ Blk w b3 24 [.int .i64 k, .int .i64 n, v'] ∧ Blk w b2 24 [.int .i64 0, .int .i64 0, .slice none 0 0] ∧ Below w0.heap.size w0 w ∧ Fs 37 a [(24, .int .i64 (i : Int)), (23, .int .i64 (xs.length : Int)), (22, .slice av xs.length cv), (2, .pointer (some ⟨b2, 0, none⟩)), (3, .pointer (some ⟨b3, 0, none⟩))]) ⟨_, b3, [], World.ownsRow_nil _ _ _ _, (fun j h => by cases h), (fun h => by cases h), (fun h => by cases h), by have := m3.lt; omega, by rw [List.take_zero]; exact QL.nil, m3, m2, hB, hF.sub _ rfl⟩ ?_
    have hbb : w0.heap.size ≤ b2 ∧ b2 < b3 := ⟨by omega, by omega⟩
    repeat clear hF
    clear hB m2 m3
    rintro i a w hi ⟨vv, o2, zs, hO, hat, hne, hne2, hlo, hP, mg, m2, hB, hF⟩ K' hK'
    have sB := hB.size
    have hgl := mg.lt
    obtain ⟨top, htop⟩ : ∃ h, h = w.heap.size := ⟨_, rfl⟩
    rw [← htop] at hP
    have hPl := hP.1
    rw [List.length_take, List.length_map] at hPl
    have h1vv := (Rd.own hO).one
    refine wp_rs fun K30 hK30 => ?_
    refine s_val hF (x_lss rfl rfl rfl) (by decide) fun a hF => ?_
    refine s_end (hK30 _ _ ?_)
    refine wp_seq_k fun K31 hK31 => ?_
    refine wp_iff hF rfl (fun hc25 => ?_) (fun hc25 => ?_)
    · obtain ⟨b, off, c, y, hve, hy, hrow⟩ := rd_row3 hR (i := i) (by omega)
      cases hve
      obtain ⟨p, hp⟩ : ∃ p, ls[i]? = some p := ⟨_, List.getElem?_eq_getElem (by omega)⟩
      have hps := szs_take hp
      have hsl1 := szs_le ls (i + 1)
      have hty := hk i y p hy hp
      have h1y := hty.one1
      refine wp_skip (hK31 _ _ ?_)
      refine wp_seq_k fun K32 hK32 => ?_
      refine wp_block ?_
      refine wp_rs fun K33 hK33 => ?_
      refine s_val hF (x_ixa rfl rfl (m_ixsK i Try.underlying22 el22.size rfl (by omega))) (by decide) fun a hF => ?_
      refine s_val hF (x_ldA wide24 (hrow _ hB) rfl rfl) (by decide) fun a hF => ?_
      refine s_alloc hF (by decide) zero24 fun w86 b5 a eb5 m5 B87 zb5 hF => ?_
      have sB87 := B87.size
      have hB := hB.trans (B87.mono hB.size)
      have m2 := m2.old B87
      have mg := mg.old B87
      have hO := own_below hO B87
      have hP := hP.below B87
      refine s_putW hF rfl rfl (size_wide wide24) m5 rfl (one_lc h1y) fun w90 m5 o91 => ?_
      have so91 := o91.size
      have hB := hB.trans (o91.below (by omega))
      have m2 := m2.only o91 (by omega)
      have mg := mg.only o91 (by omega)
      have hO := own_only hO o91 (fun e => by have := hat _ e; omega)
      have hP := hP.only o91 (fun k (hk : w0.heap.size ≤ k ∧ k ≠ b2 ∧ k ≠ b3 ∧ k ≠ o2 ∧ k < top) => by omega)
      refine s_end (hK33 _ _ ?_)
      refine dk2_one (b3) (o2) (ops := regOps Try.f141 12) (N := 8) (by kernel_rfl) wide_orders (by kernel_rfl) fun w92 hw92 B93 hS K34 hK34 => ?_
      have zw92 : w92.heap.size = w90.heap.size := by rw [hw92]
      have sB93 := B93.size
      have hB := hB.trans (B93.mono hB.size)
      have m2 := m2.old B93
      have mg := mg.old B93
      have hO := own_below hO B93
      have hP := hP.below B93
      have m5 := m5.old B93
      have m2_d := m2
      have mg_d := mg
      have hO_d := hO
      have hP_d := hP
      have m5_d := m5
      have hB_d := hB
      refine d_val 0 28 (op := (Go.Op.fieldAddr 24 (Go.Operand.tmp 3) 2)) hF hS (by kernel_rfl) (fun W hW => x_fa0 fa24_2 rfl) (by kernel_rfl) (by decide) fun a hF => ?_
      refine d_val 2 30 (op := (Go.Op.load 24 (Go.Operand.tmp 5))) hF hS (by kernel_rfl) (fun W hW => x_ldW wide24 (m5_d.k2 hW (by omega)) rfl rfl) (by kernel_rfl) (by decide) fun a hF => ?_
      refine d_two 1 3 (by kernel_rfl) ?_ ?_
      · refine d_op 1 (some 29) (Go.Op.load 22 (Go.Operand.tmp 28)) (by kernel_rfl) fun ty pos af => ?_
        refine s_val hF (x_load rfl (m_load flat22 (mg.cell (j := 2) rfl))) (by decide) fun a hF => ?_
        refine s_end ⟨hS, ?_⟩
        refine d_one 3 (some 31) (Go.Op.call (Go.Call.mk (Go.Callee.value (Go.Operand.func 141)) #[(Go.Operand.tmp 30)] #[24])) (by kernel_rfl) (by kernel_rfl) fun ty pos af => ?_
        refine s_callR (R := fun u w' => ∃ z, u = lv z ∧ RLx w' (fun k => w92.heap.size ≤ k) z (cpy p)) [_] hF (enters_of Try.func141 (by kernel_rfl) rfl) rfl (by decide) (ih p y w92 (by omega) (by omega) (RL_b hB hty)) ?_
        rintro _ w94 a ⟨z, rfl, hz0⟩ B95 hF
        have sB95 := B95.size
        have hB := hB.trans (B95.mono hB.size)
        have m2 := m2.old B95
        have mg := mg.old B95
        have hO := own_below hO B95
        have hP := hP.below B95
        have m5 := m5.old B95
        have hS := hS.below B95
        have hz := hz0.valid
        clear hz0
        have h1z := hz.rl.one1
        refine s_end ⟨hS, ?_⟩
        refine d_one 4 (some 32) (Go.Op.buildSlice 22 1 #[(0, (Go.Operand.tmp 31))]) (by kernel_rfl) (by kernel_rfl) fun ty pos af => ?_
        refine s_litG [lv z] el22 hF (by decide) rfl (by simp [Value.cells, lc]) rfl (by decide) (by decide) fun w96 bl a ebl ml B97 zbl hF => ?_
        have sB97 := B97.size
        have hB := hB.trans (B97.mono hB.size)
        have m2 := m2.old B97
        have mg := mg.old B97
        have hO := own_below hO B97
        have hP := hP.below B97
        have m5 := m5.old B97
        have hz := hz.below B97
        have hS := hS.below B97
        have ml : Blk w96 bl 24 (lc z) := by simpa [Value.cells] using ml
        refine s_end ⟨hS, ?_⟩
        refine d_one 5 (some 33) (Go.Op.call (Go.Call.mk (Go.Callee.builtin Go.Builtin.append) #[(Go.Operand.tmp 29), (Go.Operand.tmp 32)] #[22, 22])) (by kernel_rfl) (by kernel_rfl) fun ty pos af => ?_
        refine s_appL (o := o2) el22 hF (by decide) rfl rfl hO ml rfl (one_lc h1z) hat (by omega) (by omega) (by decide) (by omega) fun v3 w98 a o3 hOn hOatn how hsrc k99 hkeep hF => ?_
        have sk99 := k99.size
        have hB := k99.under hB (by omega)
        have m2 : Blk w98 b2 _ _ := (hkeep _ m2.lt hne2).trans m2
        have mg : Blk w98 b3 _ _ := (hkeep _ mg.lt hne).trans mg
        have hP := hP.k2 k99 (fun k (hk : w0.heap.size ≤ k ∧ k ≠ b2 ∧ k ≠ b3 ∧ k ≠ o2 ∧ k < top) => by omega)
        have m5 := m5.k2 k99 (by omega)
        have hz := hz.k2 k99 (fun k (hk : w92.heap.size ≤ k ∧ k < w94.heap.size) => by omega)
        have ml := ml.k2 k99 (by omega)
        have hS := hS.trans k99 (by omega)
        have hO := hOn
        have hO_at := hOatn
        have hneg : v3.ownBlock ≠ some b3 := fun h => by rcases hsrc b3 h with h | h; exact hne h; omega
        have hneg2 : v3.ownBlock ≠ some b2 := fun h => by rcases hsrc b2 h with h | h; exact hne2 h; omega
        refine s_end ⟨hS, ?_⟩
        refine d_val 6 34 (op := (Go.Op.fieldAddr 24 (Go.Operand.tmp 3) 2)) hF hS (by kernel_rfl) (fun W hW => x_fa0 fa24_2 rfl) (by kernel_rfl) (by decide) fun a hF => ?_
        refine d_one 7 none (Go.Op.store 22 (Go.Operand.tmp 34) (Go.Operand.tmp 33)) (by kernel_rfl) (by kernel_rfl) fun ty pos af => ?_
        refine s_put hF rfl rfl flat22 mg (by first | (simp; done) | (simp [tc, lc]; done) | decide) (Rd.own hO).one fun w100 mg o101 => ?_
        have so101 := o101.size
        have hB := hB.trans (o101.below (by omega))
        have m2 := m2.only o101 (by omega)
        have hO := own_only hO o101 (hneg)
        have hP := hP.only o101 (fun k (hk : w0.heap.size ≤ k ∧ k ≠ b2 ∧ k ≠ b3 ∧ k ≠ o2 ∧ k < top) => by omega)
        have m5 := m5.only o101 (by omega)
        have hz := hz.only o101 (fun k (hk : w92.heap.size ≤ k ∧ k < w94.heap.size) => by omega)
        have ml := ml.only o101 (by omega)
        have hS := hS.only o101 (by omega)
        refine s_end ⟨hS, ?_⟩
        refine d_end (by kernel_rfl) (hK34 _ _ ?_)
        refine hK32 _ _ ?_
        refine wp_region_lit ?_
        refine s_val hF (x_addn (i + 1) (by omega) (by omega) rfl rfl) (by decide) fun a hF => ?_
        refine s_val hF (x_move rfl) (by decide) fun a hF => ?_
        have hL2 : (ls.map cpy).take (i + 1) = (ls.map cpy).take i ++ [cpy p] := take_snoc (by rw [List.getElem?_map, hp]; rfl)
        refine s_end (hK' _ _ (by omega) ⟨v3, o3, zs ++ [z], by rw [fm3_app]; simpa using hO, hO_at, hneg, hneg2, by omega, by rw [hL2]; exact (hP.mono (fun k (hk : w0.heap.size ≤ k ∧ k ≠ b2 ∧ k ≠ b3 ∧ k ≠ o2 ∧ k < top) => (by omega : _ ∧ _ ∧ _ ∧ _ ∧ _))).snoc (hz.mono (fun k (hk : w92.heap.size ≤ k ∧ k < w94.heap.size) => (by omega : _ ∧ _ ∧ _ ∧ _ ∧ _))), mg, m2, hB, hF.sub _ rfl⟩)
      · refine d_op 3 (some 31) (Go.Op.call (Go.Call.mk (Go.Callee.value (Go.Operand.func 141)) #[(Go.Operand.tmp 30)] #[24])) (by kernel_rfl) fun ty pos af => ?_
        refine s_callR (R := fun u w' => ∃ z, u = lv z ∧ RLx w' (fun k => w92.heap.size ≤ k) z (cpy p)) [_] hF (enters_of Try.func141 (by kernel_rfl) rfl) rfl (by decide) (ih p y w92 (by omega) (by omega) (RL_b hB hty)) ?_
        rintro _ w102 a ⟨z, rfl, hz0⟩ B103 hF
        have sB103 := B103.size
        have hB := hB.trans (B103.mono hB.size)
        have m2 := m2.old B103
        have mg := mg.old B103
        have hO := own_below hO B103
        have hP := hP.below B103
        have m5 := m5.old B103
        have hS := hS.below B103
        have hz := hz0.valid
        clear hz0
        have h1z := hz.rl.one1
        refine s_end ⟨hS, ?_⟩
        refine d_two 1 4 (by kernel_rfl) ?_ ?_
        · refine d_op 1 (some 29) (Go.Op.load 22 (Go.Operand.tmp 28)) (by kernel_rfl) fun ty pos af => ?_
          refine s_val hF (x_load rfl (m_load flat22 (mg.cell (j := 2) rfl))) (by decide) fun a hF => ?_
          refine s_end ⟨hS, ?_⟩
          refine d_one 4 (some 32) (Go.Op.buildSlice 22 1 #[(0, (Go.Operand.tmp 31))]) (by kernel_rfl) (by kernel_rfl) fun ty pos af => ?_
          refine s_litG [lv z] el22 hF (by decide) rfl (by simp [Value.cells, lc]) rfl (by decide) (by decide) fun w104 bl a ebl ml B105 zbl hF => ?_
          have sB105 := B105.size
          have hB := hB.trans (B105.mono hB.size)
          have m2 := m2.old B105
          have mg := mg.old B105
          have hO := own_below hO B105
          have hP := hP.below B105
          have m5 := m5.old B105
          have hz := hz.below B105
          have hS := hS.below B105
          have ml : Blk w104 bl 24 (lc z) := by simpa [Value.cells] using ml
          refine s_end ⟨hS, ?_⟩
          refine d_one 5 (some 33) (Go.Op.call (Go.Call.mk (Go.Callee.builtin Go.Builtin.append) #[(Go.Operand.tmp 29), (Go.Operand.tmp 32)] #[22, 22])) (by kernel_rfl) (by kernel_rfl) fun ty pos af => ?_
          refine s_appL (o := o2) el22 hF (by decide) rfl rfl hO ml rfl (one_lc h1z) hat (by omega) (by omega) (by decide) (by omega) fun v3 w106 a o3 hOn hOatn how hsrc k107 hkeep hF => ?_
          have sk107 := k107.size
          have hB := k107.under hB (by omega)
          have m2 : Blk w106 b2 _ _ := (hkeep _ m2.lt hne2).trans m2
          have mg : Blk w106 b3 _ _ := (hkeep _ mg.lt hne).trans mg
          have hP := hP.k2 k107 (fun k (hk : w0.heap.size ≤ k ∧ k ≠ b2 ∧ k ≠ b3 ∧ k ≠ o2 ∧ k < top) => by omega)
          have m5 := m5.k2 k107 (by omega)
          have hz := hz.k2 k107 (fun k (hk : w92.heap.size ≤ k ∧ k < w102.heap.size) => by omega)
          have ml := ml.k2 k107 (by omega)
          have hS := hS.trans k107 (by omega)
          have hO := hOn
          have hO_at := hOatn
          have hneg : v3.ownBlock ≠ some b3 := fun h => by rcases hsrc b3 h with h | h; exact hne h; omega
          have hneg2 : v3.ownBlock ≠ some b2 := fun h => by rcases hsrc b2 h with h | h; exact hne2 h; omega
          refine s_end ⟨hS, ?_⟩
          refine d_val 6 34 (op := (Go.Op.fieldAddr 24 (Go.Operand.tmp 3) 2)) hF hS (by kernel_rfl) (fun W hW => x_fa0 fa24_2 rfl) (by kernel_rfl) (by decide) fun a hF => ?_
          refine d_one 7 none (Go.Op.store 22 (Go.Operand.tmp 34) (Go.Operand.tmp 33)) (by kernel_rfl) (by kernel_rfl) fun ty pos af => ?_
          refine s_put hF rfl rfl flat22 mg (by first | (simp; done) | (simp [tc, lc]; done) | decide) (Rd.own hO).one fun w108 mg o109 => ?_
          have so109 := o109.size
          have hB := hB.trans (o109.below (by omega))
          have m2 := m2.only o109 (by omega)
          have hO := own_only hO o109 (hneg)
          have hP := hP.only o109 (fun k (hk : w0.heap.size ≤ k ∧ k ≠ b2 ∧ k ≠ b3 ∧ k ≠ o2 ∧ k < top) => by omega)
          have m5 := m5.only o109 (by omega)
          have hz := hz.only o109 (fun k (hk : w92.heap.size ≤ k ∧ k < w102.heap.size) => by omega)
          have ml := ml.only o109 (by omega)
          have hS := hS.only o109 (by omega)
          refine s_end ⟨hS, ?_⟩
          refine d_end (by kernel_rfl) (hK34 _ _ ?_)
          refine hK32 _ _ ?_
          refine wp_region_lit ?_
          refine s_val hF (x_addn (i + 1) (by omega) (by omega) rfl rfl) (by decide) fun a hF => ?_
          refine s_val hF (x_move rfl) (by decide) fun a hF => ?_
          have hL2 : (ls.map cpy).take (i + 1) = (ls.map cpy).take i ++ [cpy p] := take_snoc (by rw [List.getElem?_map, hp]; rfl)
          refine s_end (hK' _ _ (by omega) ⟨v3, o3, zs ++ [z], by rw [fm3_app]; simpa using hO, hO_at, hneg, hneg2, by omega, by rw [hL2]; exact (hP.mono (fun k (hk : w0.heap.size ≤ k ∧ k ≠ b2 ∧ k ≠ b3 ∧ k ≠ o2 ∧ k < top) => (by omega : _ ∧ _ ∧ _ ∧ _ ∧ _))).snoc (hz.mono (fun k (hk : w92.heap.size ≤ k ∧ k < w102.heap.size) => (by omega : _ ∧ _ ∧ _ ∧ _ ∧ _))), mg, m2, hB, hF.sub _ rfl⟩)
        · refine d_op 4 (some 32) (Go.Op.buildSlice 22 1 #[(0, (Go.Operand.tmp 31))]) (by kernel_rfl) fun ty pos af => ?_
          refine s_litG [lv z] el22 hF (by decide) rfl (by simp [Value.cells, lc]) rfl (by decide) (by decide) fun w110 bl a ebl ml B111 zbl hF => ?_
          have sB111 := B111.size
          have hB := hB.trans (B111.mono hB.size)
          have m2 := m2.old B111
          have mg := mg.old B111
          have hO := own_below hO B111
          have hP := hP.below B111
          have m5 := m5.old B111
          have hz := hz.below B111
          have hS := hS.below B111
          have ml : Blk w110 bl 24 (lc z) := by simpa [Value.cells] using ml
          refine s_end ⟨hS, ?_⟩
          refine d_one 1 (some 29) (Go.Op.load 22 (Go.Operand.tmp 28)) (by kernel_rfl) (by kernel_rfl) fun ty pos af => ?_
          refine s_val hF (x_load rfl (m_load flat22 (mg.cell (j := 2) rfl))) (by decide) fun a hF => ?_
          refine s_end ⟨hS, ?_⟩
          refine d_one 5 (some 33) (Go.Op.call (Go.Call.mk (Go.Callee.builtin Go.Builtin.append) #[(Go.Operand.tmp 29), (Go.Operand.tmp 32)] #[22, 22])) (by kernel_rfl) (by kernel_rfl) fun ty pos af => ?_
          refine s_appL (o := o2) el22 hF (by decide) rfl rfl hO ml rfl (one_lc h1z) hat (by omega) (by omega) (by decide) (by omega) fun v3 w112 a o3 hOn hOatn how hsrc k113 hkeep hF => ?_
          have sk113 := k113.size
          have hB := k113.under hB (by omega)
          have m2 : Blk w112 b2 _ _ := (hkeep _ m2.lt hne2).trans m2
          have mg : Blk w112 b3 _ _ := (hkeep _ mg.lt hne).trans mg
          have hP := hP.k2 k113 (fun k (hk : w0.heap.size ≤ k ∧ k ≠ b2 ∧ k ≠ b3 ∧ k ≠ o2 ∧ k < top) => by omega)
          have m5 := m5.k2 k113 (by omega)
          have hz := hz.k2 k113 (fun k (hk : w92.heap.size ≤ k ∧ k < w102.heap.size) => by omega)
          have ml := ml.k2 k113 (by omega)
          have hS := hS.trans k113 (by omega)
          have hO := hOn
          have hO_at := hOatn
          have hneg : v3.ownBlock ≠ some b3 := fun h => by rcases hsrc b3 h with h | h; exact hne h; omega
          have hneg2 : v3.ownBlock ≠ some b2 := fun h => by rcases hsrc b2 h with h | h; exact hne2 h; omega
          refine s_end ⟨hS, ?_⟩
          refine d_val 6 34 (op := (Go.Op.fieldAddr 24 (Go.Operand.tmp 3) 2)) hF hS (by kernel_rfl) (fun W hW => x_fa0 fa24_2 rfl) (by kernel_rfl) (by decide) fun a hF => ?_
          refine d_one 7 none (Go.Op.store 22 (Go.Operand.tmp 34) (Go.Operand.tmp 33)) (by kernel_rfl) (by kernel_rfl) fun ty pos af => ?_
          refine s_put hF rfl rfl flat22 mg (by first | (simp; done) | (simp [tc, lc]; done) | decide) (Rd.own hO).one fun w114 mg o115 => ?_
          have so115 := o115.size
          have hB := hB.trans (o115.below (by omega))
          have m2 := m2.only o115 (by omega)
          have hO := own_only hO o115 (hneg)
          have hP := hP.only o115 (fun k (hk : w0.heap.size ≤ k ∧ k ≠ b2 ∧ k ≠ b3 ∧ k ≠ o2 ∧ k < top) => by omega)
          have m5 := m5.only o115 (by omega)
          have hz := hz.only o115 (fun k (hk : w92.heap.size ≤ k ∧ k < w102.heap.size) => by omega)
          have ml := ml.only o115 (by omega)
          have hS := hS.only o115 (by omega)
          refine s_end ⟨hS, ?_⟩
          refine d_end (by kernel_rfl) (hK34 _ _ ?_)
          refine hK32 _ _ ?_
          refine wp_region_lit ?_
          refine s_val hF (x_addn (i + 1) (by omega) (by omega) rfl rfl) (by decide) fun a hF => ?_
          refine s_val hF (x_move rfl) (by decide) fun a hF => ?_
          have hL2 : (ls.map cpy).take (i + 1) = (ls.map cpy).take i ++ [cpy p] := take_snoc (by rw [List.getElem?_map, hp]; rfl)
          refine s_end (hK' _ _ (by omega) ⟨v3, o3, zs ++ [z], by rw [fm3_app]; simpa using hO, hO_at, hneg, hneg2, by omega, by rw [hL2]; exact (hP.mono (fun k (hk : w0.heap.size ≤ k ∧ k ≠ b2 ∧ k ≠ b3 ∧ k ≠ o2 ∧ k < top) => (by omega : _ ∧ _ ∧ _ ∧ _ ∧ _))).snoc (hz.mono (fun k (hk : w92.heap.size ≤ k ∧ k < w102.heap.size) => (by omega : _ ∧ _ ∧ _ ∧ _ ∧ _))), mg, m2, hB, hF.sub _ rfl⟩)
    · refine wp_exit (hK28 _ _ ?_)
      refine wp_rs fun K35 hK35 => ?_
      refine s_val hF (x_ldW wide24 mg rfl rfl) (by decide) fun a hF => ?_
      refine s_putW hF rfl rfl (size_wide wide24) m2 rfl (one3 h1vv) fun w118 m2 o119 => ?_
      have so119 := o119.size
      have hB := hB.trans (o119.below (by omega))
      have mg := mg.only o119 (by omega)
      have hO := own_only hO o119 (hne2)
      have hP := hP.only o119 (fun k (hk : w0.heap.size ≤ k ∧ k ≠ b2 ∧ k ≠ b3 ∧ k ≠ o2 ∧ k < top) => by omega)
      refine s_end (hK35 _ _ ?_)
      have hall : (ls.map cpy).take i = ls.map cpy := List.take_of_length_le (by rw [List.length_map]; omega)
      rw [hall] at hP
      refine wp_ret (res_cell hF rfl rfl m2 wide24 ⟨_, rfl, ⟨(k, n, vv), rfl, by rw [hcp]; exact .mk ⟨Rd.own hO, fun _ j h => (hO.lt j h).1⟩ hP.1 ((hP.mono (B := fun k => w0.heap.size ≤ k) (fun k (hk : w0.heap.size ≤ k ∧ k ≠ b2 ∧ k ≠ b3 ∧ k ≠ o2 ∧ k < top) => (by omega : _ ≤ _))).2)⟩, hB⟩)
  · have hcp : cpy (.mk k n ls) = .mk k 0 (ls.map cpy) := by simp [cpy, hk1, cpys_map]
    refine wp_rs fun K36 hK36 => ?_
    refine s_val hF (x_eql (b := false) (decide_eq_false (by omega)) rfl rfl) (by decide) fun a hF => ?_
    refine s_val hF (x_assign rfl) (by decide) fun a hF => ?_
    refine s_end (hK36 _ _ ?_)
    refine wp_if hF rfl ?_
    refine wp_rs fun K37 hK37 => ?_
    refine s_val hF (x_eql (b := false) (decide_eq_false (by omega)) rfl rfl) (by decide) fun a hF => ?_
    refine s_val hF (x_assign rfl) (by decide) fun a hF => ?_
    refine s_end (hK37 _ _ ?_)
    refine wp_if hF rfl ?_
    refine wp_region_lit ?_
    refine s_val hF (x_eql (b := false) (decide_eq_false (by omega)) rfl rfl) (by decide) fun a hF => ?_
    refine s_val hF (x_assign rfl) (by decide) fun a hF => ?_
    refine s_end (hK5 _ _ ?_)
    refine wp_if hF rfl ?_
    refine wp_rs fun K38 hK38 => ?_
    refine s_val hF (x_eql (b := true) (decide_eq_true (by omega)) rfl rfl) (by decide) fun a hF => ?_
    refine s_val hF (x_assign rfl) (by decide) fun a hF => ?_
    refine s_end (hK38 _ _ ?_)
    refine wp_if hF rfl ?_
    refine wp_skip (hK3 _ _ ?_)
    refine wp_seq_k fun K39 hK39 => ?_
    refine wp_rs fun K40 hK40 => ?_
    refine s_val hF (x_fa0 fa24_2 rfl) (by decide) fun a hF => ?_
    refine s_val hF (x_load rfl (m_load flat22 (m1.cell (j := 2) rfl))) (by decide) fun a hF => ?_
    refine s_val hF (x_len Try.underlying22 rfl) (by decide) fun a hF => ?_
    refine s_val hF (x_move rfl) (by decide) fun a hF => ?_
    refine s_end (hK40 _ _ ?_)
    refine wp_block ?_
    refine wp_up xs.length (fun i a w => ∃ v' o' zs, w.ownsRow w0.heap.size 24 3 v' zs.length (zs.flatMap lc) ∧ (∀ j, v'.ownBlock = some j → j = o') ∧ v'.ownBlock ≠ some b3 ∧ v'.ownBlock ≠ some b2 ∧ (w0.heap.size ≤ o' ∧ o' < w.heap.size ∧ (o' = b3 ∨ b3 < o')) ∧ QL w (fun k => w0.heap.size ≤ k ∧ k ≠ b2 ∧ k ≠ b3 ∧ k ≠ o' ∧ k < w.heap.size) zs ((ls.map cpy).take i) ∧ Blk w b3 24 [.int .i64 k, .int .i64 0, v'] ∧ Blk w b2 24 [.int .i64 0, .int .i64 0, .slice none 0 0] ∧ Below w0.heap.size w0 w ∧ Fs 37 a [(24, .int .i64 (i : Int)), (23, .int .i64 (xs.length : Int)), (22, .slice av xs.length cv), (2, .pointer (some ⟨b2, 0, none⟩)), (3, .pointer (some ⟨b3, 0, none⟩))]) ⟨_, b3, [], World.ownsRow_nil _ _ _ _, (fun j h => by cases h), (fun h => by cases h), (fun h => by cases h), by have := m3.lt; omega, by rw [List.take_zero]; exact QL.nil, m3, m2, hB, hF.sub _ rfl⟩ ?_
    have hbb : w0.heap.size ≤ b2 ∧ b2 < b3 := ⟨by omega, by omega⟩
    repeat clear hF
    clear hB m2 m3
    rintro i a w hi ⟨vv, o2, zs, hO, hat, hne, hne2, hlo, hP, mg, m2, hB, hF⟩ K' hK'
    have sB := hB.size
    have hgl := mg.lt
    obtain ⟨top, htop⟩ : ∃ h, h = w.heap.size := ⟨_, rfl⟩
    rw [← htop] at hP
    have hPl := hP.1
    rw [List.length_take, List.length_map] at hPl
    have h1vv := (Rd.own hO).one
    refine wp_rs fun K41 hK41 => ?_
    refine s_val hF (x_lss rfl rfl rfl) (by decide) fun a hF => ?_
    refine s_end (hK41 _ _ ?_)
    refine wp_seq_k fun K42 hK42 => ?_
    refine wp_iff hF rfl (fun hc25 => ?_) (fun hc25 => ?_)
    · obtain ⟨b, off, c, y, hve, hy, hrow⟩ := rd_row3 hR (i := i) (by omega)
      cases hve
      obtain ⟨p, hp⟩ : ∃ p, ls[i]? = some p := ⟨_, List.getElem?_eq_getElem (by omega)⟩
      have hps := szs_take hp
      have hsl1 := szs_le ls (i + 1)
      have hty := hk i y p hy hp
      have h1y := hty.one1
      refine wp_skip (hK42 _ _ ?_)
      refine wp_seq_k fun K43 hK43 => ?_
      refine wp_block ?_
      refine wp_rs fun K44 hK44 => ?_
      refine s_val hF (x_ixa rfl rfl (m_ixsK i Try.underlying22 el22.size rfl (by omega))) (by decide) fun a hF => ?_
      refine s_val hF (x_ldA wide24 (hrow _ hB) rfl rfl) (by decide) fun a hF => ?_
      refine s_alloc hF (by decide) zero24 fun w120 b5 a eb5 m5 B121 zb5 hF => ?_
      have sB121 := B121.size
      have hB := hB.trans (B121.mono hB.size)
      have m2 := m2.old B121
      have mg := mg.old B121
      have hO := own_below hO B121
      have hP := hP.below B121
      refine s_putW hF rfl rfl (size_wide wide24) m5 rfl (one_lc h1y) fun w124 m5 o125 => ?_
      have so125 := o125.size
      have hB := hB.trans (o125.below (by omega))
      have m2 := m2.only o125 (by omega)
      have mg := mg.only o125 (by omega)
      have hO := own_only hO o125 (fun e => by have := hat _ e; omega)
      have hP := hP.only o125 (fun k (hk : w0.heap.size ≤ k ∧ k ≠ b2 ∧ k ≠ b3 ∧ k ≠ o2 ∧ k < top) => by omega)
      refine s_end (hK44 _ _ ?_)
      refine dk2_one (b3) (o2) (ops := regOps Try.f141 12) (N := 8) (by kernel_rfl) wide_orders (by kernel_rfl) fun w126 hw126 B127 hS K45 hK45 => ?_
      have zw126 : w126.heap.size = w124.heap.size := by rw [hw126]
      have sB127 := B127.size
      have hB := hB.trans (B127.mono hB.size)
      have m2 := m2.old B127
      have mg := mg.old B127
      have hO := own_below hO B127
      have hP := hP.below B127
      have m5 := m5.old B127
      have m2_d := m2
      have mg_d := mg
      have hO_d := hO
      have hP_d := hP
      have m5_d := m5
      have hB_d := hB
      refine d_val 0 28 (op := (Go.Op.fieldAddr 24 (Go.Operand.tmp 3) 2)) hF hS (by kernel_rfl) (fun W hW => x_fa0 fa24_2 rfl) (by kernel_rfl) (by decide) fun a hF => ?_
      refine d_val 2 30 (op := (Go.Op.load 24 (Go.Operand.tmp 5))) hF hS (by kernel_rfl) (fun W hW => x_ldW wide24 (m5_d.k2 hW (by omega)) rfl rfl) (by kernel_rfl) (by decide) fun a hF => ?_
      refine d_two 1 3 (by kernel_rfl) ?_ ?_
      · refine d_op 1 (some 29) (Go.Op.load 22 (Go.Operand.tmp 28)) (by kernel_rfl) fun ty pos af => ?_
        refine s_val hF (x_load rfl (m_load flat22 (mg.cell (j := 2) rfl))) (by decide) fun a hF => ?_
        refine s_end ⟨hS, ?_⟩
        refine d_one 3 (some 31) (Go.Op.call (Go.Call.mk (Go.Callee.value (Go.Operand.func 141)) #[(Go.Operand.tmp 30)] #[24])) (by kernel_rfl) (by kernel_rfl) fun ty pos af => ?_
        refine s_callR (R := fun u w' => ∃ z, u = lv z ∧ RLx w' (fun k => w126.heap.size ≤ k) z (cpy p)) [_] hF (enters_of Try.func141 (by kernel_rfl) rfl) rfl (by decide) (ih p y w126 (by omega) (by omega) (RL_b hB hty)) ?_
        rintro _ w128 a ⟨z, rfl, hz0⟩ B129 hF
        have sB129 := B129.size
        have hB := hB.trans (B129.mono hB.size)
        have m2 := m2.old B129
        have mg := mg.old B129
        have hO := own_below hO B129
        have hP := hP.below B129
        have m5 := m5.old B129
        have hS := hS.below B129
        have hz := hz0.valid
        clear hz0
        have h1z := hz.rl.one1
        refine s_end ⟨hS, ?_⟩
        refine d_one 4 (some 32) (Go.Op.buildSlice 22 1 #[(0, (Go.Operand.tmp 31))]) (by kernel_rfl) (by kernel_rfl) fun ty pos af => ?_
        refine s_litG [lv z] el22 hF (by decide) rfl (by simp [Value.cells, lc]) rfl (by decide) (by decide) fun w130 bl a ebl ml B131 zbl hF => ?_
        have sB131 := B131.size
        have hB := hB.trans (B131.mono hB.size)
        have m2 := m2.old B131
        have mg := mg.old B131
        have hO := own_below hO B131
        have hP := hP.below B131
        have m5 := m5.old B131
        have hz := hz.below B131
        have hS := hS.below B131
        have ml : Blk w130 bl 24 (lc z) := by simpa [Value.cells] using ml
        refine s_end ⟨hS, ?_⟩
        refine d_one 5 (some 33) (Go.Op.call (Go.Call.mk (Go.Callee.builtin Go.Builtin.append) #[(Go.Operand.tmp 29), (Go.Operand.tmp 32)] #[22, 22])) (by kernel_rfl) (by kernel_rfl) fun ty pos af => ?_
        refine s_appL (o := o2) el22 hF (by decide) rfl rfl hO ml rfl (one_lc h1z) hat (by omega) (by omega) (by decide) (by omega) fun v3 w132 a o3 hOn hOatn how hsrc k133 hkeep hF => ?_
        have sk133 := k133.size
        have hB := k133.under hB (by omega)
        have m2 : Blk w132 b2 _ _ := (hkeep _ m2.lt hne2).trans m2
        have mg : Blk w132 b3 _ _ := (hkeep _ mg.lt hne).trans mg
        have hP := hP.k2 k133 (fun k (hk : w0.heap.size ≤ k ∧ k ≠ b2 ∧ k ≠ b3 ∧ k ≠ o2 ∧ k < top) => by omega)
        have m5 := m5.k2 k133 (by omega)
        have hz := hz.k2 k133 (fun k (hk : w126.heap.size ≤ k ∧ k < w128.heap.size) => by omega)
        have ml := ml.k2 k133 (by omega)
        have hS := hS.trans k133 (by omega)
        have hO := hOn
        have hO_at := hOatn
        have hneg : v3.ownBlock ≠ some b3 := fun h => by rcases hsrc b3 h with h | h; exact hne h; omega
        have hneg2 : v3.ownBlock ≠ some b2 := fun h => by rcases hsrc b2 h with h | h; exact hne2 h; omega
        refine s_end ⟨hS, ?_⟩
        refine d_val 6 34 (op := (Go.Op.fieldAddr 24 (Go.Operand.tmp 3) 2)) hF hS (by kernel_rfl) (fun W hW => x_fa0 fa24_2 rfl) (by kernel_rfl) (by decide) fun a hF => ?_
        refine d_one 7 none (Go.Op.store 22 (Go.Operand.tmp 34) (Go.Operand.tmp 33)) (by kernel_rfl) (by kernel_rfl) fun ty pos af => ?_
        refine s_put hF rfl rfl flat22 mg (by first | (simp; done) | (simp [tc, lc]; done) | decide) (Rd.own hO).one fun w134 mg o135 => ?_
        have so135 := o135.size
        have hB := hB.trans (o135.below (by omega))
        have m2 := m2.only o135 (by omega)
        have hO := own_only hO o135 (hneg)
        have hP := hP.only o135 (fun k (hk : w0.heap.size ≤ k ∧ k ≠ b2 ∧ k ≠ b3 ∧ k ≠ o2 ∧ k < top) => by omega)
        have m5 := m5.only o135 (by omega)
        have hz := hz.only o135 (fun k (hk : w126.heap.size ≤ k ∧ k < w128.heap.size) => by omega)
        have ml := ml.only o135 (by omega)
        have hS := hS.only o135 (by omega)
        refine s_end ⟨hS, ?_⟩
        refine d_end (by kernel_rfl) (hK45 _ _ ?_)
        refine hK43 _ _ ?_
        refine wp_region_lit ?_
        refine s_val hF (x_addn (i + 1) (by omega) (by omega) rfl rfl) (by decide) fun a hF => ?_
        refine s_val hF (x_move rfl) (by decide) fun a hF => ?_
        have hL2 : (ls.map cpy).take (i + 1) = (ls.map cpy).take i ++ [cpy p] := take_snoc (by rw [List.getElem?_map, hp]; rfl)
        refine s_end (hK' _ _ (by omega) ⟨v3, o3, zs ++ [z], by rw [fm3_app]; simpa using hO, hO_at, hneg, hneg2, by omega, by rw [hL2]; exact (hP.mono (fun k (hk : w0.heap.size ≤ k ∧ k ≠ b2 ∧ k ≠ b3 ∧ k ≠ o2 ∧ k < top) => (by omega : _ ∧ _ ∧ _ ∧ _ ∧ _))).snoc (hz.mono (fun k (hk : w126.heap.size ≤ k ∧ k < w128.heap.size) => (by omega : _ ∧ _ ∧ _ ∧ _ ∧ _))), mg, m2, hB, hF.sub _ rfl⟩)
      · refine d_op 3 (some 31) (Go.Op.call (Go.Call.mk (Go.Callee.value (Go.Operand.func 141)) #[(Go.Operand.tmp 30)] #[24])) (by kernel_rfl) fun ty pos af => ?_
        refine s_callR (R := fun u w' => ∃ z, u = lv z ∧ RLx w' (fun k => w126.heap.size ≤ k) z (cpy p)) [_] hF (enters_of Try.func141 (by kernel_rfl) rfl) rfl (by decide) (ih p y w126 (by omega) (by omega) (RL_b hB hty)) ?_
        rintro _ w136 a ⟨z, rfl, hz0⟩ B137 hF
        have sB137 := B137.size
        have hB := hB.trans (B137.mono hB.size)
        have m2 := m2.old B137
        have mg := mg.old B137
        have hO := own_below hO B137
        have hP := hP.below B137
        have m5 := m5.old B137
        have hS := hS.below B137
        have hz := hz0.valid
        clear hz0
        have h1z := hz.rl.one1
        refine s_end ⟨hS, ?_⟩
        refine d_two 1 4 (by kernel_rfl) ?_ ?_
        · refine d_op 1 (some 29) (Go.Op.load 22 (Go.Operand.tmp 28)) (by kernel_rfl) fun ty pos af => ?_
          refine s_val hF (x_load rfl (m_load flat22 (mg.cell (j := 2) rfl))) (by decide) fun a hF => ?_
          refine s_end ⟨hS, ?_⟩
          refine d_one 4 (some 32) (Go.Op.buildSlice 22 1 #[(0, (Go.Operand.tmp 31))]) (by kernel_rfl) (by kernel_rfl) fun ty pos af => ?_
          refine s_litG [lv z] el22 hF (by decide) rfl (by simp [Value.cells, lc]) rfl (by decide) (by decide) fun w138 bl a ebl ml B139 zbl hF => ?_
          have sB139 := B139.size
          have hB := hB.trans (B139.mono hB.size)
          have m2 := m2.old B139
          have mg := mg.old B139
          have hO := own_below hO B139
          have hP := hP.below B139
          have m5 := m5.old B139
          have hz := hz.below B139
          have hS := hS.below B139
          have ml : Blk w138 bl 24 (lc z) := by simpa [Value.cells] using ml
          refine s_end ⟨hS, ?_⟩
          refine d_one 5 (some 33) (Go.Op.call (Go.Call.mk (Go.Callee.builtin Go.Builtin.append) #[(Go.Operand.tmp 29), (Go.Operand.tmp 32)] #[22, 22])) (by kernel_rfl) (by kernel_rfl) fun ty pos af => ?_
          refine s_appL (o := o2) el22 hF (by decide) rfl rfl hO ml rfl (one_lc h1z) hat (by omega) (by omega) (by decide) (by omega) fun v3 w140 a o3 hOn hOatn how hsrc k141 hkeep hF => ?_
          have sk141 := k141.size
          have hB := k141.under hB (by omega)
          have m2 : Blk w140 b2 _ _ := (hkeep _ m2.lt hne2).trans m2
          have mg : Blk w140 b3 _ _ := (hkeep _ mg.lt hne).trans mg
          have hP := hP.k2 k141 (fun k (hk : w0.heap.size ≤ k ∧ k ≠ b2 ∧ k ≠ b3 ∧ k ≠ o2 ∧ k < top) => by omega)
          have m5 := m5.k2 k141 (by omega)
          have hz := hz.k2 k141 (fun k (hk : w126.heap.size ≤ k ∧ k < w136.heap.size) => by omega)
          have ml := ml.k2 k141 (by omega)
          have hS := hS.trans k141 (by omega)
          have hO := hOn
          have hO_at := hOatn
          have hneg : v3.ownBlock ≠ some b3 := fun h => by rcases hsrc b3 h with h | h; exact hne h; omega
          have hneg2 : v3.ownBlock ≠ some b2 := fun h => by rcases hsrc b2 h with h | h; exact hne2 h; omega
          refine s_end ⟨hS, ?_⟩
          refine d_val 6 34 (op := (Go.Op.fieldAddr 24 (Go.Operand.tmp 3) 2)) hF hS (by kernel_rfl) (fun W hW => x_fa0 fa24_2 rfl) (by kernel_rfl) (by decide) fun a hF => ?_
          refine d_one 7 none (Go.Op.store 22 (Go.Operand.tmp 34) (Go.Operand.tmp 33)) (by kernel_rfl) (by kernel_rfl) fun ty pos af => ?_
          refine s_put hF rfl rfl flat22 mg (by first | (simp; done) | (simp [tc, lc]; done) | decide) (Rd.own hO).one fun w142 mg o143 => ?_
          have so143 := o143.size
          have hB := hB.trans (o143.below (by omega))
          have m2 := m2.only o143 (by omega)
          have hO := own_only hO o143 (hneg)
          have hP := hP.only o143 (fun k (hk : w0.heap.size ≤ k ∧ k ≠ b2 ∧ k ≠ b3 ∧ k ≠ o2 ∧ k < top) => by omega)
          have m5 := m5.only o143 (by omega)
          have hz := hz.only o143 (fun k (hk : w126.heap.size ≤ k ∧ k < w136.heap.size) => by omega)
          have ml := ml.only o143 (by omega)
          have hS := hS.only o143 (by omega)
          refine s_end ⟨hS, ?_⟩
          refine d_end (by kernel_rfl) (hK45 _ _ ?_)
          refine hK43 _ _ ?_
          refine wp_region_lit ?_
          refine s_val hF (x_addn (i + 1) (by omega) (by omega) rfl rfl) (by decide) fun a hF => ?_
          refine s_val hF (x_move rfl) (by decide) fun a hF => ?_
          have hL2 : (ls.map cpy).take (i + 1) = (ls.map cpy).take i ++ [cpy p] := take_snoc (by rw [List.getElem?_map, hp]; rfl)
          refine s_end (hK' _ _ (by omega) ⟨v3, o3, zs ++ [z], by rw [fm3_app]; simpa using hO, hO_at, hneg, hneg2, by omega, by rw [hL2]; exact (hP.mono (fun k (hk : w0.heap.size ≤ k ∧ k ≠ b2 ∧ k ≠ b3 ∧ k ≠ o2 ∧ k < top) => (by omega : _ ∧ _ ∧ _ ∧ _ ∧ _))).snoc (hz.mono (fun k (hk : w126.heap.size ≤ k ∧ k < w136.heap.size) => (by omega : _ ∧ _ ∧ _ ∧ _ ∧ _))), mg, m2, hB, hF.sub _ rfl⟩)
        · refine d_op 4 (some 32) (Go.Op.buildSlice 22 1 #[(0, (Go.Operand.tmp 31))]) (by kernel_rfl) fun ty pos af => ?_
          refine s_litG [lv z] el22 hF (by decide) rfl (by simp [Value.cells, lc]) rfl (by decide) (by decide) fun w144 bl a ebl ml B145 zbl hF => ?_
          have sB145 := B145.size
          have hB := hB.trans (B145.mono hB.size)
          have m2 := m2.old B145
          have mg := mg.old B145
          have hO := own_below hO B145
          have hP := hP.below B145
          have m5 := m5.old B145
          have hz := hz.below B145
          have hS := hS.below B145
          have ml : Blk w144 bl 24 (lc z) := by simpa [Value.cells] using ml
          refine s_end ⟨hS, ?_⟩
          refine d_one 1 (some 29) (Go.Op.load 22 (Go.Operand.tmp 28)) (by kernel_rfl) (by kernel_rfl) fun ty pos af => ?_
          refine s_val hF (x_load rfl (m_load flat22 (mg.cell (j := 2) rfl))) (by decide) fun a hF => ?_
          refine s_end ⟨hS, ?_⟩
          refine d_one 5 (some 33) (Go.Op.call (Go.Call.mk (Go.Callee.builtin Go.Builtin.append) #[(Go.Operand.tmp 29), (Go.Operand.tmp 32)] #[22, 22])) (by kernel_rfl) (by kernel_rfl) fun ty pos af => ?_
          refine s_appL (o := o2) el22 hF (by decide) rfl rfl hO ml rfl (one_lc h1z) hat (by omega) (by omega) (by decide) (by omega) fun v3 w146 a o3 hOn hOatn how hsrc k147 hkeep hF => ?_
          have sk147 := k147.size
          have hB := k147.under hB (by omega)
          have m2 : Blk w146 b2 _ _ := (hkeep _ m2.lt hne2).trans m2
          have mg : Blk w146 b3 _ _ := (hkeep _ mg.lt hne).trans mg
          have hP := hP.k2 k147 (fun k (hk : w0.heap.size ≤ k ∧ k ≠ b2 ∧ k ≠ b3 ∧ k ≠ o2 ∧ k < top) => by omega)
          have m5 := m5.k2 k147 (by omega)
          have hz := hz.k2 k147 (fun k (hk : w126.heap.size ≤ k ∧ k < w136.heap.size) => by omega)
          have ml := ml.k2 k147 (by omega)
          have hS := hS.trans k147 (by omega)
          have hO := hOn
          have hO_at := hOatn
          have hneg : v3.ownBlock ≠ some b3 := fun h => by rcases hsrc b3 h with h | h; exact hne h; omega
          have hneg2 : v3.ownBlock ≠ some b2 := fun h => by rcases hsrc b2 h with h | h; exact hne2 h; omega
          refine s_end ⟨hS, ?_⟩
          refine d_val 6 34 (op := (Go.Op.fieldAddr 24 (Go.Operand.tmp 3) 2)) hF hS (by kernel_rfl) (fun W hW => x_fa0 fa24_2 rfl) (by kernel_rfl) (by decide) fun a hF => ?_
          refine d_one 7 none (Go.Op.store 22 (Go.Operand.tmp 34) (Go.Operand.tmp 33)) (by kernel_rfl) (by kernel_rfl) fun ty pos af => ?_
          refine s_put hF rfl rfl flat22 mg (by first | (simp; done) | (simp [tc, lc]; done) | decide) (Rd.own hO).one fun w148 mg o149 => ?_
          have so149 := o149.size
          have hB := hB.trans (o149.below (by omega))
          have m2 := m2.only o149 (by omega)
          have hO := own_only hO o149 (hneg)
          have hP := hP.only o149 (fun k (hk : w0.heap.size ≤ k ∧ k ≠ b2 ∧ k ≠ b3 ∧ k ≠ o2 ∧ k < top) => by omega)
          have m5 := m5.only o149 (by omega)
          have hz := hz.only o149 (fun k (hk : w126.heap.size ≤ k ∧ k < w136.heap.size) => by omega)
          have ml := ml.only o149 (by omega)
          have hS := hS.only o149 (by omega)
          refine s_end ⟨hS, ?_⟩
          refine d_end (by kernel_rfl) (hK45 _ _ ?_)
          refine hK43 _ _ ?_
          refine wp_region_lit ?_
          refine s_val hF (x_addn (i + 1) (by omega) (by omega) rfl rfl) (by decide) fun a hF => ?_
          refine s_val hF (x_move rfl) (by decide) fun a hF => ?_
          have hL2 : (ls.map cpy).take (i + 1) = (ls.map cpy).take i ++ [cpy p] := take_snoc (by rw [List.getElem?_map, hp]; rfl)
          refine s_end (hK' _ _ (by omega) ⟨v3, o3, zs ++ [z], by rw [fm3_app]; simpa using hO, hO_at, hneg, hneg2, by omega, by rw [hL2]; exact (hP.mono (fun k (hk : w0.heap.size ≤ k ∧ k ≠ b2 ∧ k ≠ b3 ∧ k ≠ o2 ∧ k < top) => (by omega : _ ∧ _ ∧ _ ∧ _ ∧ _))).snoc (hz.mono (fun k (hk : w126.heap.size ≤ k ∧ k < w136.heap.size) => (by omega : _ ∧ _ ∧ _ ∧ _ ∧ _))), mg, m2, hB, hF.sub _ rfl⟩)
    · refine wp_exit (hK39 _ _ ?_)
      refine wp_rs fun K46 hK46 => ?_
      refine s_val hF (x_ldW wide24 mg rfl rfl) (by decide) fun a hF => ?_
      refine s_putW hF rfl rfl (size_wide wide24) m2 rfl (one3 h1vv) fun w152 m2 o153 => ?_
      have so153 := o153.size
      have hB := hB.trans (o153.below (by omega))
      have mg := mg.only o153 (by omega)
      have hO := own_only hO o153 (hne2)
      have hP := hP.only o153 (fun k (hk : w0.heap.size ≤ k ∧ k ≠ b2 ∧ k ≠ b3 ∧ k ≠ o2 ∧ k < top) => by omega)
      refine s_end (hK46 _ _ ?_)
      have hall : (ls.map cpy).take i = ls.map cpy := List.take_of_length_le (by rw [List.length_map]; omega)
      rw [hall] at hP
      refine wp_ret (res_cell hF rfl rfl m2 wide24 ⟨_, rfl, ⟨(k, 0, vv), rfl, by rw [hcp]; exact .mk ⟨Rd.own hO, fun _ j h => (hO.lt j h).1⟩ hP.1 ((hP.mono (B := fun k => w0.heap.size ≤ k) (fun k (hk : w0.heap.size ≤ k ∧ k ≠ b2 ∧ k ≠ b3 ∧ k ≠ o2 ∧ k < top) => (by omega : _ ≤ _))).2)⟩, hB⟩)
  · have hcp : cpy (.mk k n ls) = .mk k 0 [] := by simp [cpy, hk1, cpys_map]
    refine wp_rs fun K47 hK47 => ?_
    refine s_val hF (x_eql (b := false) (decide_eq_false (by omega)) rfl rfl) (by decide) fun a hF => ?_
    refine s_val hF (x_assign rfl) (by decide) fun a hF => ?_
    refine s_end (hK47 _ _ ?_)
    refine wp_if hF rfl ?_
    refine wp_rs fun K48 hK48 => ?_
    refine s_val hF (x_eql (b := false) (decide_eq_false (by omega)) rfl rfl) (by decide) fun a hF => ?_
    refine s_val hF (x_assign rfl) (by decide) fun a hF => ?_
    refine s_end (hK48 _ _ ?_)
    refine wp_if hF rfl ?_
    refine wp_region_lit ?_
    refine s_val hF (x_eql (b := false) (decide_eq_false (by omega)) rfl rfl) (by decide) fun a hF => ?_
    refine s_val hF (x_assign rfl) (by decide) fun a hF => ?_
    refine s_end (hK5 _ _ ?_)
    refine wp_if hF rfl ?_
    refine wp_rs fun K49 hK49 => ?_
    refine s_val hF (x_eql (b := false) (decide_eq_false (by omega)) rfl rfl) (by decide) fun a hF => ?_
    refine s_val hF (x_assign rfl) (by decide) fun a hF => ?_
    refine s_end (hK49 _ _ ?_)
    refine wp_if hF rfl ?_
    refine wp_rs fun K50 hK50 => ?_
    refine s_val hF (x_ldW wide24 m3 rfl rfl) (by decide) fun a hF => ?_
    refine s_putW hF rfl rfl (size_wide wide24) m2 rfl (one3 rfl) fun w156 m2 o157 => ?_
    have so157 := o157.size
    have hB := hB.trans (o157.below (by omega))
    have m1 := m1.only o157 (by omega)
    have m3 := m3.only o157 (by omega)
    refine s_end (hK50 _ _ ?_)
    refine wp_ret (inb_ret (then_ret (res_cell hF rfl rfl m2 wide24 ⟨_, rfl, ⟨(k, 0, .slice none 0 0), rfl, by rw [hcp]; exact .mk (xs := []) (Rn.nil _ _ 3) rfl (fun i x l h => by simp at h)⟩, hB⟩)))

/-- A level as it was, or a copy of it. -/
def isCp (l l' : Lv) : Prop := l' = l ∨ l' = cpy l
theorem isCp.slO {W : World} {x : C3} {l l' : Lv} (h : isCp l l') (hL : RL W x l) : slO l' = slO l := by
  rcases h with rfl | rfl
  · rfl
  · exact slO_cpy hL

set_option maxRecDepth 100000 in
set_option maxHeartbeats 400000 in
theorem ownL153 (w0 : World) (A : Nat → Prop) (hA : ∀ k, A k → k < w0.heap.size) (l : Lv) (x : C3) (hL : RLn w0 A x l) : Calls Try.prog 138 #[lv x] w0 fun e w' => ∃ u, e = .returned u ∧ (∃ z l', u = lv z ∧ RLn w' (fun k => A k ∨ w0.heap.size ≤ k) z l' ∧ isCp l l') ∧ Below w0.heap.size w0 w' := by
  have hB := Below.refl w0.heap.size w0
  have sB := hB.size
  refine calls_fs 10 [(0, lv x)] Try.func138 rfl rfl rfl rfl rfl fun a hF => ?_
  refine wp_rs fun K1 hK1 => ?_
  refine s_box (lc x) hF (by decide) rfl rfl fun w2 b1 a eb1 m1 B3 zb1 hF => ?_
  have sB3 := B3.size
  have hB := hB.trans (B3.mono hB.size)
  refine s_alloc hF (by decide) zero24 fun w4 b2 a eb2 m2 B5 zb2 hF => ?_
  have sB5 := B5.size
  have hB := hB.trans (B5.mono hB.size)
  have m1 := m1.old B5
  refine s_end (hK1 _ _ ?_)
  refine wp_rs fun K2 hK2 => ?_
  refine s_alloc1 hF (by decide) zero3 rfl fun w6 b3 a eb3 m3 B7 zb3 hF => ?_
  have sB7 := B7.size
  have hB := hB.trans (B7.mono hB.size)
  have m1 := m1.old B7
  have m2 := m2.old B7
  refine s_put hF rfl rfl flat3 m3 (by first | (simp; done) | (simp [tc, lc]; done) | decide) rfl fun w8 m3 o9 => ?_
  have so9 := o9.size
  have hB := hB.trans (o9.below (by omega))
  have m1 := m1.only o9 (by omega)
  have m2 := m2.only o9 (by omega)
  refine s_end (hK2 _ _ ?_)
  refine wp_seq_k fun K3 hK3 => ?_
  refine wp_rs fun K4 hK4 => ?_
  refine s_val hF (x_ldW wide24 m1 rfl rfl) (by decide) fun a hF => ?_
  refine s_call (R := fun u w' => (∃ b r', u = .bool b ∧ Blk w' b3 3 [.int .i64 ((r' : Nat) : Int)] ∧ (b = true → r' + l.sz = 53687091) ∧ r' ≤ 53687091) ∧ Ktw b3 b3 w8 w') hF [_, _, _] (enters_of Try.func140 (by kernel_rfl) rfl) rfl (by decide) (fitsL154 w0 b3 (by omega) (l.sz + 1) l x (by omega) hL.rl 65536 53687091 w8 (by omega) (by omega) hB m3) ?_
  rintro _ w10 a ⟨⟨b5, r5, rfl, m3, h5, h5r⟩, k11⟩ hF
  have sk11 := k11.size
  have hB := k11.under hB (by omega)
  have m1 := m1.k2 k11 (by omega)
  have m2 := m2.k2 k11 (by omega)
  refine s_val hF (x_not rfl) (by decide) fun a hF => ?_
  refine s_end (hK4 _ _ ?_)
  refine wp_ifb hF rfl (fun hc6 => ?_) (fun hc6 => ?_)
  · refine wp_rs fun K5 hK5 => ?_
    refine s_val hF (x_ldW wide24 m1 rfl rfl) (by decide) fun a hF => ?_
    refine s_putW hF rfl rfl (size_wide wide24) m2 rfl (one_lc hL.rl.one1) fun w14 m2 o15 => ?_
    have so15 := o15.size
    have hB := hB.trans (o15.below (by omega))
    have m1 := m1.only o15 (by omega)
    have m3 := m3.only o15 (by omega)
    refine s_end (hK5 _ _ ?_)
    refine wp_ret (then_ret (res_cell hF rfl rfl m2 wide24 ⟨_, rfl, ⟨x, l, rfl, (hL.keep hB.size (fun k hk _ => hB.block k (hA k hk))).mono (fun k hk => .inl hk), .inl rfl⟩, hB⟩))
  · obtain rfl : b5 = true := by simpa using hc6
    have h6 := h5 rfl
    refine wp_skip (hK3 _ _ ?_)
    refine wp_rs fun K6 hK6 => ?_
    refine s_val hF (x_ldW wide24 m1 rfl rfl) (by decide) fun a hF => ?_
    refine s_callR (R := fun u w' => ∃ z, u = lv z ∧ RLx w' (fun k => w10.heap.size ≤ k) z (cpy l)) [_] hF (enters_of Try.func141 (by kernel_rfl) rfl) rfl (by decide) (copiedL155 (l.sz + 1) l x w10 (by omega) (by omega) (RL_b hB hL.rl)) ?_
    rintro _ w16 a ⟨z, rfl, hz⟩ B17 hF
    have sB17 := B17.size
    have hB := hB.trans (B17.mono hB.size)
    have m1 := m1.old B17
    have m2 := m2.old B17
    have m3 := m3.old B17
    have h1z := hz.rl.one1
    refine s_putW hF rfl rfl (size_wide wide24) m2 rfl (one_lc h1z) fun w20 m2 o21 => ?_
    have so21 := o21.size
    have hB := hB.trans (o21.below (by omega))
    have m1 := m1.only o21 (by omega)
    have m3 := m3.only o21 (by omega)
    have hz := hz.only o21 (fun k (hk : w10.heap.size ≤ k) => by omega)
    refine s_end (hK6 _ _ ?_)
    refine wp_ret (res_cell hF rfl rfl m2 wide24 ⟨_, rfl, ⟨z, _, rfl, hz.mono (fun k (hk : w10.heap.size ≤ k) => .inr (by omega : _ ≤ _)), .inr rfl⟩, hB⟩)

set_option maxRecDepth 100000 in
set_option maxHeartbeats 400000 in
theorem plusL145 (w0 : World) (A : Nat → Prop) (hA : ∀ k, A k → k < w0.heap.size) (l : Lv) (x : C3) (hL : RLn w0 A x l) : Calls Try.prog 130 #[.int .i64 0, lv x] w0 fun e w' => ∃ u, e = .returned u ∧ (∃ z l', u = lv z ∧ RLn w' (fun k => A k ∨ w0.heap.size ≤ k) z l' ∧ isCp l l') ∧ Below w0.heap.size w0 w' := by
  have hB := Below.refl w0.heap.size w0
  have sB := hB.size
  refine calls_fs 22 [(0, .int .i64 0), (1, lv x)] Try.func130 rfl rfl rfl rfl rfl fun a hF => ?_
  refine wp_rs fun K1 hK1 => ?_
  refine s_box (lc x) hF (by decide) rfl rfl fun w2 b3 a eb3 m3 B3 zb3 hF => ?_
  have sB3 := B3.size
  have hB := hB.trans (B3.mono hB.size)
  refine s_alloc hF (by decide) zero24 fun w4 b4 a eb4 m4 B5 zb4 hF => ?_
  have sB5 := B5.size
  have hB := hB.trans (B5.mono hB.size)
  have m3 := m3.old B5
  refine s_end (hK1 _ _ ?_)
  refine wp_rs fun K2 hK2 => ?_
  refine s_val hF (x_ldW wide24 m3 rfl rfl) (by decide) fun a hF => ?_
  refine s_callR (R := fun u w' => ∃ z l', u = lv z ∧ RLx w' (fun k => A k ∨ w4.heap.size ≤ k) z l' ∧ isCp l l') [_] hF (enters_of Try.func138 (by kernel_rfl) rfl) rfl (by decide) (ownL153 w4 A (fun k hk => by have := hA k hk; omega) l x (hL.keep hB.size (fun k hk _ => hB.block k (hA k hk)))) ?_
  rintro _ w6 a ⟨z, l2, rfl, hz, hcp⟩ B7 hF
  have sB7 := B7.size
  have hB := hB.trans (B7.mono hB.size)
  have m3 := m3.old B7
  have m4 := m4.old B7
  have hz : RLx w6 (fun k => k < w0.heap.size ∧ A k ∨ w4.heap.size ≤ k) z l2 := hz.mono (fun k hk => hk.elim (fun h => .inl ⟨hA k h, h⟩) .inr)
  have h1z := hz.rl.one1
  refine s_putW hF rfl rfl (size_wide wide24) m3 rfl (one_lc h1z) fun w10 m3 o11 => ?_
  have so11 := o11.size
  have hB := hB.trans (o11.below (by omega))
  have m4 := m4.only o11 (by omega)
  have hz := hz.only o11 (fun k (hk : k < w0.heap.size ∧ A k ∨ w4.heap.size ≤ k) => by omega)
  refine s_end (hK2 _ _ ?_)
  refine wp_seq_k fun K3 hK3 => ?_
  refine wp_rs fun K4 hK4 => ?_
  refine s_val hF (x_move rfl) (by decide) fun a hF => ?_
  refine s_val hF (x_lss (b := true) (decide_eq_true (by omega)) rfl rfl) (by decide) fun a hF => ?_
  refine s_end (hK4 _ _ ?_)
  refine wp_if hF rfl ?_
  refine wp_rs fun K5 hK5 => ?_
  refine s_val hF (x_ldW wide24 m3 rfl rfl) (by decide) fun a hF => ?_
  refine s_putW hF rfl rfl (size_wide wide24) m4 rfl (one_lc h1z) fun w14 m4 o15 => ?_
  have so15 := o15.size
  have hB := hB.trans (o15.below (by omega))
  have m3 := m3.only o15 (by omega)
  have hz := hz.only o15 (fun k (hk : k < w0.heap.size ∧ A k ∨ w4.heap.size ≤ k) => by omega)
  refine s_end (hK5 _ _ ?_)
  refine wp_ret (then_ret (res_cell hF rfl rfl m4 wide24 ⟨_, rfl, ⟨z, l2, rfl, hz.mono (fun k hk => hk.elim (fun h => .inl h.2) (fun h => .inr (by omega))), hcp⟩, hB⟩))
end Go.Proofs.Ytaclncmkdpjnlaa

namespace Go.Proofs.Ytaclncmkdpjnlaa
open Go.RowKit Go.Shelf
set_option linter.unusedVariables false
set_option linter.unusedSimpArgs false

section
variable {P : Program} {n : Nat} {l : List (Nat × Value)} {w : World}
theorem x_quon {t t' : TypeId} {x y : Operand} {p q : Int} (r : Int) (h0 : 0 < q) (hp : 0 ≤ p) (hp2 : p < 9223372036854775808) (h1 : p / q = r) (hx : ov l x = some (.int .i64 p)) (hy : ov l y = some (.int .i64 q)) : Runs P n l w (.binOp .quo t x y t') (.int .i64 r) :=
  x_bin hx hy (b_int fun W => by
    have h2 : p.tdiv q = r := by rw [Int.tdiv_eq_ediv_of_nonneg hp]; exact h1
    have h3 : 0 ≤ r := by rw [← h1]; exact Int.ediv_nonneg hp (by omega)
    have h4 : r ≤ p := by rw [← h1]; exact Int.ediv_le_self _ hp
    simp [binOp, Op.intDiv, show q ≠ 0 by omega, h2, wrap_i64 (by omega : -9223372036854775808 ≤ r) (by omega)])
end
def Lv.kids : Lv → List Lv
  | .mk _ _ ls => ls
theorem Lv.kids_sz : ∀ l : Lv, l.sz = Lv.szs l.kids + 1
  | .mk _ _ _ => rfl
theorem RLn.kids {W : World} {A : Nat → Prop} {x : C3} {l : Lv} (h : RLn W A x l) : RVn W A x.2.2 l.kids := by
  cases h with
  | mk hR hl hk => exact ⟨_, hR, hl, hk⟩
theorem RVn.row {W : World} {A : Nat → Prop} {v : Value} {ls : List Lv} (h : RVn W A v ls) {i : Nat} (hi : i < ls.length) :
    ∃ b off c x y, v = .slice (some ⟨b, off, none⟩) ls.length c ∧ ls[i]? = some y ∧ RLn W A x y ∧ A b ∧ b < W.heap.size ∧ ∀ W' : World, W'.heap[b]? = W.heap[b]? → ∀ j u, (lc x)[j]? = some u → W'.cell? ((⟨b, off + i * 3, none⟩ : Addr).add j) = some u := by
  obtain ⟨xs, h1, h2, h3⟩ := h
  obtain ⟨b, off, c, rfl, hb⟩ := h1.1.some (by omega)
  refine ⟨b, off, c, xs[i]'(by omega), ls[i], by rw [h2], List.getElem?_eq_getElem hi, h3 i _ _ (List.getElem?_eq_getElem (by omega)) (List.getElem?_eq_getElem hi), h1.2 (by omega) b rfl, hb, fun W' hB j u hj => ?_⟩
  rw [addr_addn, Nat.add_assoc]
  exact (World.cell?_of_block (w := W) (a := ⟨b, off + (i * 3 + j), none⟩) hB).trans (h1.1.cell (fm3_get xs i j _ u (List.getElem?_eq_getElem (by omega)) hj))
def sumT (cs : List CT) : Nat := (cs.map CT.size).sum
theorem CT.kids_sum (c : CT) : c.size = sumT c.kids + 1 := by cases c <;> simp [CT.size, sumT, CT.kids]; omega
theorem sumT_get {cs : List CT} {i : Nat} {p : CT} (h : cs[i]? = some p) : p.size ≤ sumT cs := by
  have hm : p ∈ cs := List.mem_of_getElem? h
  clear h
  induction cs with
  | nil => cases hm
  | cons c cs ih =>
    simp only [sumT, List.map_cons, List.sum_cons]
    rcases List.mem_cons.1 hm with rfl | hm'
    · omega
    · have := ih hm'
      simp only [sumT] at this
      omega
theorem szs_get {ls : List Lv} {i : Nat} {p : Lv} (h : ls[i]? = some p) : p.sz ≤ Lv.szs ls := by
  have := szs_take h
  have := szs_le ls (i + 1)
  omega
theorem CT.dep_kids {c : CT} {n : Nat} (h : ∀ k ∈ c.kids, k.dep ≤ n) : c.dep ≤ n + 1 := by
  cases c <;> simp only [CT.kids, List.mem_cons, List.not_mem_nil, or_false, forall_eq_or_imp, forall_eq, CT.dep] at h ⊢ <;> omega

set_option maxRecDepth 100000 in
set_option maxHeartbeats 1600000 in
theorem kidsL144 (x : C3) (w0 : World) (h1 : x.2.2.oneCell' = true) : Calls Try.prog 129 #[lv x] w0 fun e w' => e = .returned x.2.2 ∧ Below w0.heap.size w0 w' := by
  have hB := Below.refl w0.heap.size w0
  have sB := hB.size
  refine calls_fs 5 [(0, lv x)] Try.func129 rfl rfl rfl rfl rfl fun a hF => ?_
  refine wp_rs fun K1 hK1 => ?_
  refine s_box (lc x) hF (by decide) rfl rfl fun w2 b1 a eb1 m1 B3 zb1 hF => ?_
  have sB3 := B3.size
  have hB := hB.trans (B3.mono hB.size)
  refine s_val hF (x_assign rfl) (by decide) fun a hF => ?_
  refine s_end (hK1 _ _ ?_)
  refine wp_rs fun K2 hK2 => ?_
  refine s_val hF (x_fa0 fa24_2 rfl) (by decide) fun a hF => ?_
  refine s_val hF (x_load rfl (m_load flat22 (m1.cell (j := 2) rfl))) (by decide) fun a hF => ?_
  refine s_val hF (x_assign rfl) (by decide) fun a hF => ?_
  refine s_end (hK2 _ _ ?_)
  refine wp_ret (res_slot hF rfl rfl ⟨rfl, hB⟩)

set_option maxRecDepth 100000 in
set_option maxHeartbeats 1600000 in
theorem count152 (w0 : World) (br : Nat) (hbr : br < w0.heap.size) : ∀ (N : Nat) (cs : List Lv) (v : Value), Lv.szs cs < N → RVn w0 (Ai w0.heap.size br) v cs → ∀ (d : Nat) (w1 : World), d ≤ 65536 → Ktw br br w0 w1 → Room w1 br →
    Calls Try.prog 137 #[.pointer (some ⟨br, 0, none⟩), v, .int .i64 40, .int .i64 (d : Int), .func (.func 129) #[] #[]] w1 fun e w' => ∃ u, e = .returned u ∧ ((∃ b, u = .bool b ∧ (b = true → cs.length * 40 ≤ 2147483647)) ∧ Room w' br) ∧ Ktw br br w1 w' := by
  intro N
  induction N with
  | zero => intro cs v h; omega
  | succ N ih =>
  intro cs v hN hV d w1 hd1 hK hR
  obtain ⟨av, cv, rfl, _⟩ := hV.form
  have hQ := Ktw.refl br br w1
  have sK := hK.size
  have sQ := hQ.size
  obtain ⟨r, mr, hr0, hr1⟩ := hR
  refine calls_fs 57 [(0, .pointer (some ⟨br, 0, none⟩)), (1, .slice av cs.length cv), (2, .int .i64 40), (3, .int .i64 (d : Int)), (4, .func (.func 129) #[] #[])] Try.func137 rfl rfl rfl rfl rfl fun a hF => ?_
  refine wp_rs fun K1 hK1 => ?_
  refine s_val hF (x_assign rfl) (by decide) fun a hF => ?_
  refine s_end (hK1 _ _ ?_)
  refine wp_seq_k fun K2 hK2 => ?_
  rcases (show cs.length = 0 ∨ 0 < cs.length by omega) with hk9 | hk9
  · skip
    refine wp_rs fun K4 hK4 => ?_
    refine s_val hF (x_move rfl) (by decide) fun a hF => ?_
    refine s_val hF (x_len Try.underlying22 rfl) (by decide) fun a hF => ?_
    refine s_val hF (x_eql (b := true) (decide_eq_true (by omega)) rfl rfl) (by decide) fun a hF => ?_
    refine s_end (hK4 _ _ ?_)
    refine wp_if hF rfl ?_
    refine wp_rs fun K5 hK5 => ?_
    refine s_val hF (x_assign rfl) (by decide) fun a hF => ?_
    refine s_end (hK5 _ _ ?_)
    refine wp_ret (then_ret (res_slot hF rfl rfl ⟨_, rfl, ⟨⟨true, rfl, fun _ => by omega⟩, ⟨r, mr, hr0, hr1⟩⟩, hQ⟩))
  · skip
    refine wp_rs fun K6 hK6 => ?_
    refine s_val hF (x_move rfl) (by decide) fun a hF => ?_
    refine s_val hF (x_len Try.underlying22 rfl) (by decide) fun a hF => ?_
    refine s_val hF (x_eql (b := false) (decide_eq_false (by omega)) rfl rfl) (by decide) fun a hF => ?_
    refine s_end (hK6 _ _ ?_)
    refine wp_if hF rfl ?_
    refine wp_skip (hK2 _ _ ?_)
    refine wp_seq_k fun K7 hK7 => ?_
    rcases (show d = 0 ∨ (d ≠ 0 ∧ r / 40 < (cs.length : Int)) ∨ (d ≠ 0 ∧ (cs.length : Int) ≤ r / 40) by omega) with hk8 | hk8 | hk8
    · skip
      refine wp_rs fun K9 hK9 => ?_
      refine s_val hF (x_move rfl) (by decide) fun a hF => ?_
      refine s_val hF (x_eql (b := true) (decide_eq_true (by omega)) rfl rfl) (by decide) fun a hF => ?_
      refine s_val hF (x_move rfl) (by decide) fun a hF => ?_
      refine s_grdn 18 hF rfl rfl (by decide) fun a hF => ?_
      refine s_grdn 18 hF rfl rfl (by decide) fun a hF => ?_
      refine s_grdn 18 hF rfl rfl (by decide) fun a hF => ?_
      refine s_grdn 18 hF rfl rfl (by decide) fun a hF => ?_
      refine s_grdn 18 hF rfl rfl (by decide) fun a hF => ?_
      refine s_grdn 18 hF rfl rfl (by decide) fun a hF => ?_
      refine s_grdn 18 hF rfl rfl (by decide) fun a hF => ?_
      refine s_grdn 18 hF rfl rfl (by decide) fun a hF => ?_
      refine s_grdn 18 hF rfl rfl (by decide) fun a hF => ?_
      refine s_val hF (x_pick (b := true) rfl rfl) (by decide) fun a hF => ?_
      refine s_end (hK9 _ _ ?_)
      refine wp_if hF rfl ?_
      refine wp_rs fun K10 hK10 => ?_
      refine s_val hF (x_assign rfl) (by decide) fun a hF => ?_
      refine s_end (hK10 _ _ ?_)
      refine wp_ret (then_ret (res_slot hF rfl rfl ⟨_, rfl, ⟨⟨false, rfl, fun h => by cases h⟩, ⟨r, mr, hr0, hr1⟩⟩, hQ⟩))
    · skip
      refine wp_rs fun K11 hK11 => ?_
      refine s_val hF (x_move rfl) (by decide) fun a hF => ?_
      refine s_val hF (x_eql (b := false) (decide_eq_false (by omega)) rfl rfl) (by decide) fun a hF => ?_
      refine s_val hF (x_move rfl) (by decide) fun a hF => ?_
      refine s_grd 18 hF rfl rfl rfl ?_
      refine s_val hF (x_move rfl) (by decide) fun a hF => ?_
      refine s_grd 18 hF rfl rfl rfl ?_
      refine s_val hF (x_len Try.underlying22 rfl) (by decide) fun a hF => ?_
      refine s_grd 18 hF rfl rfl rfl ?_
      refine s_val hF (x_move rfl) (by decide) fun a hF => ?_
      refine s_grd 18 hF rfl rfl rfl ?_
      refine s_val hF (x_nil rfl) (by decide) fun a hF => ?_
      refine s_grd 18 hF rfl rfl rfl ?_
      refine s_val hF (x_fa0 fa110_0 rfl) (by decide) fun a hF => ?_
      refine s_grd 18 hF rfl rfl rfl ?_
      refine s_val hF (x_load rfl (m_load flat3 (mr.cell (j := 0) rfl))) (by decide) fun a hF => ?_
      refine s_grd 18 hF rfl rfl rfl ?_
      refine s_val hF (x_move rfl) (by decide) fun a hF => ?_
      refine s_grd 18 hF rfl rfl rfl ?_
      refine s_val hF (x_quon (r / 40) (by decide) hr0 (by omega) rfl rfl rfl) (by decide) fun a hF => ?_
      refine s_grd 18 hF rfl rfl rfl ?_
      refine s_val hF (x_gtr (b := true) (decide_eq_true (by omega)) rfl rfl) (by decide) fun a hF => ?_
      refine s_val hF (x_pick (b := false) rfl rfl) (by decide) fun a hF => ?_
      refine s_end (hK11 _ _ ?_)
      refine wp_if hF rfl ?_
      refine wp_rs fun K12 hK12 => ?_
      refine s_val hF (x_assign rfl) (by decide) fun a hF => ?_
      refine s_end (hK12 _ _ ?_)
      refine wp_ret (then_ret (res_slot hF rfl rfl ⟨_, rfl, ⟨⟨false, rfl, fun h => by cases h⟩, ⟨r, mr, hr0, hr1⟩⟩, hQ⟩))
    · skip
      refine wp_rs fun K13 hK13 => ?_
      refine s_val hF (x_move rfl) (by decide) fun a hF => ?_
      refine s_val hF (x_eql (b := false) (decide_eq_false (by omega)) rfl rfl) (by decide) fun a hF => ?_
      refine s_val hF (x_move rfl) (by decide) fun a hF => ?_
      refine s_grd 18 hF rfl rfl rfl ?_
      refine s_val hF (x_move rfl) (by decide) fun a hF => ?_
      refine s_grd 18 hF rfl rfl rfl ?_
      refine s_val hF (x_len Try.underlying22 rfl) (by decide) fun a hF => ?_
      refine s_grd 18 hF rfl rfl rfl ?_
      refine s_val hF (x_move rfl) (by decide) fun a hF => ?_
      refine s_grd 18 hF rfl rfl rfl ?_
      refine s_val hF (x_nil rfl) (by decide) fun a hF => ?_
      refine s_grd 18 hF rfl rfl rfl ?_
      refine s_val hF (x_fa0 fa110_0 rfl) (by decide) fun a hF => ?_
      refine s_grd 18 hF rfl rfl rfl ?_
      refine s_val hF (x_load rfl (m_load flat3 (mr.cell (j := 0) rfl))) (by decide) fun a hF => ?_
      refine s_grd 18 hF rfl rfl rfl ?_
      refine s_val hF (x_move rfl) (by decide) fun a hF => ?_
      refine s_grd 18 hF rfl rfl rfl ?_
      refine s_val hF (x_quon (r / 40) (by decide) hr0 (by omega) rfl rfl rfl) (by decide) fun a hF => ?_
      refine s_grd 18 hF rfl rfl rfl ?_
      refine s_val hF (x_gtr (b := false) (decide_eq_false (by omega)) rfl rfl) (by decide) fun a hF => ?_
      refine s_val hF (x_pick (b := false) rfl rfl) (by decide) fun a hF => ?_
      refine s_end (hK13 _ _ ?_)
      refine wp_if hF rfl ?_
      refine wp_skip (hK7 _ _ ?_)
      refine wp_rs fun K14 hK14 => ?_
      refine s_val hF (x_move rfl) (by decide) fun a hF => ?_
      refine s_val hF (x_nil rfl) (by decide) fun a hF => ?_
      refine s_val hF (x_fa0 fa110_0 rfl) (by decide) fun a hF => ?_
      refine s_val hF (x_load rfl (m_load flat3 (mr.cell (j := 0) rfl))) (by decide) fun a hF => ?_
      refine s_val hF (x_move rfl) (by decide) fun a hF => ?_
      refine s_val hF (x_len Try.underlying22 rfl) (by decide) fun a hF => ?_
      refine s_val hF (x_move rfl) (by decide) fun a hF => ?_
      refine s_val hF (x_mul (by omega) (by omega) rfl rfl) (by decide) fun a hF => ?_
      refine s_val hF (x_sub (by omega) (by omega) rfl rfl) (by decide) fun a hF => ?_
      refine s_val hF (x_nil rfl) (by decide) fun a hF => ?_
      refine s_val hF (x_fa0 fa110_0 rfl) (by decide) fun a hF => ?_
      refine s_put hF rfl rfl flat3 mr (by first | (simp; done) | decide) rfl fun w2 mr o3 => ?_
      have so3 := o3.size
      have hK := hK.only o3 (by omega)
      have hQ := hQ.only o3 (by omega)
      refine s_end (hK14 _ _ ?_)
      refine wp_seq_k fun K15 hK15 => ?_
      refine wp_rs fun K16 hK16 => ?_
      refine s_val hF (x_move rfl) (by decide) fun a hF => ?_
      refine s_val hF (x_len Try.underlying22 rfl) (by decide) fun a hF => ?_
      refine s_val hF (x_move rfl) (by decide) fun a hF => ?_
      refine s_end (hK16 _ _ ?_)
      refine wp_block ?_
      refine wp_up cs.length (fun i a w => (∃ r : Int, Blk w br 108 [.int .i64 r] ∧ 0 ≤ r ∧ r ≤ 2147483647) ∧ Ktw br br w0 w ∧ Ktw br br w1 w ∧ Fs 57 a [(0, .pointer (some ⟨br, 0, none⟩)), (2, .int .i64 40), (3, .int .i64 (d : Int)), (4, .func (.func 129) #[] #[]), (40, .slice av cs.length cv), (41, .int .i64 (cs.length : Int)), (42, .int .i64 (i : Int))]) ⟨⟨_, mr, by omega, by omega⟩, hK, hQ, hF.sub _ rfl⟩ ?_
      clear hF hK hQ mr
      rintro i a w hi ⟨⟨r2, mr, hr2, hr3⟩, hK, hQ, hF⟩ K' hK'
      have sK := hK.size
      have sQ := hQ.size
      refine wp_rs fun K17 hK17 => ?_
      refine s_val hF (x_lss (b := decide (i < cs.length)) (decide_eq_decide.2 (by omega)) rfl rfl) (by decide) fun a hF => ?_
      refine s_end (hK17 _ _ ?_)
      refine wp_seq_k fun K18 hK18 => ?_
      refine wp_iff hF rfl (fun hc43 => ?_) (fun hc43 => ?_)
      · obtain ⟨b9, off9, c9, y, kd, hve, hyk, hry, hAb, hbl, hrow⟩ := hV.row (i := i) (by omega)
        cases hve
        have hps := szs_get hyk
        have hks := kd.kids_sz
        have hkl := szs_len kd.kids
        refine wp_skip (hK18 _ _ ?_)
        refine wp_seq_k fun K19 hK19 => ?_
        refine wp_block ?_
        refine wp_rs fun K20 hK20 => ?_
        refine s_val hF (x_ixa rfl rfl (m_ixsK i Try.underlying22 el22.size rfl (by omega))) (by decide) fun a hF => ?_
        refine s_val hF (x_ldA wide24 (hrow _ (hK.block _ hbl ⟨hAb.1, hAb.1⟩)) rfl rfl) (by decide) fun a hF => ?_
        refine s_alloc hF (by decide) zero24 fun w4 b12 a eb12 m12 B5 zb12 hF => ?_
        have sB5 := B5.size
        have hK := hK.below B5
        have hQ := hQ.below B5
        have mr := mr.old B5
        refine s_putW hF rfl rfl (size_wide wide24) m12 rfl (one_lc hry.rl.one1) fun w8 m12 o9 => ?_
        have so9 := o9.size
        have hK := hK.only o9 (by omega)
        have hQ := hQ.only o9 (by omega)
        have mr := mr.only o9 (by omega)
        refine s_end (hK20 _ _ ?_)
        refine wp_rs fun K21 hK21 => ?_
        refine s_val hF (x_move rfl) (by decide) fun a hF => ?_
        refine s_val hF (x_move rfl) (by decide) fun a hF => ?_
        refine s_val hF (x_ldW wide24 m12 rfl rfl) (by decide) fun a hF => ?_
        refine s_callC (R := fun v w' => v = y.2.2 ∧ Below w8.heap.size w8 w') (lb := []) hF [_] rfl (enters_of Try.func129 (by kernel_rfl) rfl) rfl (by decide) ((kidsL144 y w8 hry.rl.one1).mono fun e w' h => ⟨_, h.1, rfl, h.2⟩) ?_
        rintro _ w10 a ⟨rfl, B11⟩ hF
        have sB11 := B11.size
        have hK := hK.below B11
        have hQ := hQ.below B11
        have mr := mr.old B11
        have m12 := m12.old B11
        have hkv := hry.kids
        refine s_val hF (x_move rfl) (by decide) fun a hF => ?_
        refine s_val hF (x_move rfl) (by decide) fun a hF => ?_
        refine s_val hF (x_subn (d - 1) (by omega) (by omega) rfl rfl) (by decide) fun a hF => ?_
        refine s_val hF (x_move rfl) (by decide) fun a hF => ?_
        refine s_call (R := fun u w' => ((∃ b, u = .bool b ∧ (b = true → kd.kids.length * 40 ≤ 2147483647)) ∧ Room w' br) ∧ Ktw br br w10 w') hF [_, _, _, _, _] (enters_of Try.func137 (by kernel_rfl) rfl) rfl (by decide) (ih kd.kids _ (by omega) hkv (d - 1) w10 (by omega) hK ⟨_, mr, hr2, hr3⟩) ?_
        rintro _ w12 a ⟨⟨⟨b54, rfl, h54⟩, ⟨r4, mr, hr4, hr5⟩⟩, k13⟩ hF
        have sk13 := k13.size
        have hK := hK.trans k13 (by omega)
        have hQ := hQ.trans k13 (by omega)
        have m12 := m12.k2 k13 (by omega)
        refine s_val hF (x_not rfl) (by decide) fun a hF => ?_
        refine s_end (hK21 _ _ ?_)
        refine wp_ifb hF rfl (fun hc55 => ?_) (fun hc55 => ?_)
        · refine wp_rs fun K22 hK22 => ?_
          refine s_val hF (x_assign rfl) (by decide) fun a hF => ?_
          refine s_end (hK22 _ _ ?_)
          refine wp_ret (inb_ret (then_ret (then_ret (inb_ret (then_ret (res_slot hF rfl rfl ⟨_, rfl, ⟨⟨false, rfl, fun h => by cases h⟩, ⟨r4, mr, hr4, hr5⟩⟩, hQ⟩))))))
        · obtain rfl : b54 = true := by simpa using hc55
          have h55 := h54 rfl
          refine wp_skip (hK19 _ _ ?_)
          refine wp_region_lit ?_
          refine s_val hF (x_addn (i + 1) (by omega) (by omega) rfl rfl) (by decide) fun a hF => ?_
          refine s_val hF (x_move rfl) (by decide) fun a hF => ?_
          refine s_end (hK' _ _ (by omega) ⟨⟨r4, mr, hr4, hr5⟩, hK, hQ, hF.sub _ rfl⟩)
      · obtain rfl : i = cs.length := by omega
        refine wp_exit (hK15 _ _ ?_)
        refine wp_rs fun K23 hK23 => ?_
        refine s_val hF (x_assign rfl) (by decide) fun a hF => ?_
        refine s_end (hK23 _ _ ?_)
        refine wp_ret (res_slot hF rfl rfl ⟨_, rfl, ⟨⟨true, rfl, fun _ => by omega⟩, ⟨r2, mr, hr2, hr3⟩⟩, hQ⟩)

set_option maxRecDepth 100000 in
set_option maxHeartbeats 1600000 in
theorem takes143 (w0 : World) (br : Nat) (hbr : br < w0.heap.size) (cs : List Lv) (v : Value) (hV : RVn w0 (Ai w0.heap.size br) v cs) (w1 : World) (hK : Ktw br br w0 w1) (hR : Room w1 br) :
    Calls Try.prog 128 #[.pointer (some ⟨br, 0, none⟩), v, .int .i64 40, .func (.func 129) #[] #[]] w1 fun e w' => ∃ u, e = .returned u ∧ ((∃ b, u = .bool b ∧ (b = true → cs.length * 40 ≤ 2147483647)) ∧ Room w' br) ∧ Ktw br br w1 w' := by
  have hQ := Ktw.refl br br w1
  have sK := hK.size
  have sQ := hQ.size
  refine calls_fs 18 [(0, .pointer (some ⟨br, 0, none⟩)), (1, v), (2, .int .i64 40), (3, .func (.func 129) #[] #[])] Try.func128 rfl rfl rfl rfl rfl fun a hF => ?_
  refine wp_rs fun K1 hK1 => ?_
  refine s_val hF (x_assign rfl) (by decide) fun a hF => ?_
  refine s_end (hK1 _ _ ?_)
  refine wp_seq_k fun K2 hK2 => ?_
  refine wp_rs fun K3 hK3 => ?_
  refine s_val hF (x_move rfl) (by decide) fun a hF => ?_
  refine s_val hF (x_move rfl) (by decide) fun a hF => ?_
  refine s_val hF (x_move rfl) (by decide) fun a hF => ?_
  refine s_val hF (x_move rfl) (by decide) fun a hF => ?_
  refine s_call (R := fun u w' => ((∃ b, u = .bool b ∧ (b = true → cs.length * 40 ≤ 2147483647)) ∧ Room w' br) ∧ Ktw br br w1 w') hF [_, _, _, _, _] (enters_of Try.func137 (by kernel_rfl) rfl) rfl (by decide) (count152 w0 br hbr (Lv.szs cs + 1) cs v (by omega) hV 65536 w1 (by omega) hK hR) ?_
  rintro _ w2 a ⟨⟨⟨b13, rfl, h13⟩, ⟨r4, mr, hr4, hr5⟩⟩, k3⟩ hF
  have sk3 := k3.size
  have hK := hK.trans k3 (by omega)
  have hQ := hQ.trans k3 (by omega)
  refine s_val hF (x_not rfl) (by decide) fun a hF => ?_
  refine s_end (hK3 _ _ ?_)
  refine wp_ifb hF rfl (fun hc14 => ?_) (fun hc14 => ?_)
  · refine wp_rs fun K4 hK4 => ?_
    refine s_val hF (x_move rfl) (by decide) fun a hF => ?_
    refine s_val hF (x_nil rfl) (by decide) fun a hF => ?_
    refine s_val hF (x_fa0 fa110_0 rfl) (by decide) fun a hF => ?_
    refine s_put hF rfl rfl flat3 mr (by first | (simp; done) | decide) rfl fun w4 mr o5 => ?_
    have so5 := o5.size
    have hK := hK.only o5 (by omega)
    have hQ := hQ.only o5 (by omega)
    refine s_end (hK4 _ _ ?_)
    refine wp_rs fun K5 hK5 => ?_
    refine s_val hF (x_assign rfl) (by decide) fun a hF => ?_
    refine s_end (hK5 _ _ ?_)
    refine wp_ret (then_ret (res_slot hF rfl rfl ⟨_, rfl, ⟨⟨false, rfl, fun h => by cases h⟩, ⟨0, mr, by decide, by decide⟩⟩, hQ⟩))
  · obtain rfl : b13 = true := by simpa using hc14
    have h14 := h13 rfl
    refine wp_skip (hK2 _ _ ?_)
    refine wp_rs fun K6 hK6 => ?_
    refine s_val hF (x_assign rfl) (by decide) fun a hF => ?_
    refine s_end (hK6 _ _ ?_)
    refine wp_ret (res_slot hF rfl rfl ⟨_, rfl, ⟨⟨true, rfl, fun _ => h14⟩, ⟨r4, mr, hr4, hr5⟩⟩, hQ⟩)

set_option maxRecDepth 100000 in
set_option maxHeartbeats 1600000 in
theorem count134 (w0 : World) (br : Nat) (hbr : br < w0.heap.size) : ∀ (N : Nat) (cs : List CT) (v : Value), sumT cs < N → RK w0 (Ai w0.heap.size br) v cs → ∀ (d : Nat) (w1 : World), d ≤ 65536 → Ktw br br w0 w1 → Room w1 br →
    Calls Try.prog 121 #[.pointer (some ⟨br, 0, none⟩), v, .int .i64 120, .int .i64 (d : Int), .func (.func 89) #[] #[]] w1 fun e w' => ∃ u, e = .returned u ∧ ((∃ b, u = .bool b ∧ (b = true → cs.length * 120 ≤ 2147483647 ∧ ∀ c ∈ cs, c.dep ≤ d)) ∧ Room w' br) ∧ Ktw br br w1 w' := by
  intro N
  induction N with
  | zero => intro cs v h; omega
  | succ N ih =>
  intro cs v hN hV d w1 hd1 hK hR
  obtain ⟨av, cv, rfl, _⟩ := hV.form
  have hQ := Ktw.refl br br w1
  have sK := hK.size
  have sQ := hQ.size
  obtain ⟨r, mr, hr0, hr1⟩ := hR
  refine calls_fs 57 [(0, .pointer (some ⟨br, 0, none⟩)), (1, .slice av cs.length cv), (2, .int .i64 120), (3, .int .i64 (d : Int)), (4, .func (.func 89) #[] #[])] Try.func121 rfl rfl rfl rfl rfl fun a hF => ?_
  refine wp_rs fun K1 hK1 => ?_
  refine s_val hF (x_assign rfl) (by decide) fun a hF => ?_
  refine s_end (hK1 _ _ ?_)
  refine wp_seq_k fun K2 hK2 => ?_
  rcases (show cs.length = 0 ∨ 0 < cs.length by omega) with hk9 | hk9
  · skip
    refine wp_rs fun K4 hK4 => ?_
    refine s_val hF (x_move rfl) (by decide) fun a hF => ?_
    refine s_val hF (x_len Try.underlying25 rfl) (by decide) fun a hF => ?_
    refine s_val hF (x_eql (b := true) (decide_eq_true (by omega)) rfl rfl) (by decide) fun a hF => ?_
    refine s_end (hK4 _ _ ?_)
    refine wp_if hF rfl ?_
    refine wp_rs fun K5 hK5 => ?_
    refine s_val hF (x_assign rfl) (by decide) fun a hF => ?_
    refine s_end (hK5 _ _ ?_)
    refine wp_ret (then_ret (res_slot hF rfl rfl ⟨_, rfl, ⟨⟨true, rfl, fun _ => ⟨by omega, fun c hc => by rw [List.eq_nil_of_length_eq_zero (show cs.length = 0 by omega)] at hc; cases hc⟩⟩, ⟨r, mr, hr0, hr1⟩⟩, hQ⟩))
  · skip
    refine wp_rs fun K6 hK6 => ?_
    refine s_val hF (x_move rfl) (by decide) fun a hF => ?_
    refine s_val hF (x_len Try.underlying25 rfl) (by decide) fun a hF => ?_
    refine s_val hF (x_eql (b := false) (decide_eq_false (by omega)) rfl rfl) (by decide) fun a hF => ?_
    refine s_end (hK6 _ _ ?_)
    refine wp_if hF rfl ?_
    refine wp_skip (hK2 _ _ ?_)
    refine wp_seq_k fun K7 hK7 => ?_
    rcases (show d = 0 ∨ (d ≠ 0 ∧ r / 120 < (cs.length : Int)) ∨ (d ≠ 0 ∧ (cs.length : Int) ≤ r / 120) by omega) with hk8 | hk8 | hk8
    · skip
      refine wp_rs fun K9 hK9 => ?_
      refine s_val hF (x_move rfl) (by decide) fun a hF => ?_
      refine s_val hF (x_eql (b := true) (decide_eq_true (by omega)) rfl rfl) (by decide) fun a hF => ?_
      refine s_val hF (x_move rfl) (by decide) fun a hF => ?_
      refine s_grdn 18 hF rfl rfl (by decide) fun a hF => ?_
      refine s_grdn 18 hF rfl rfl (by decide) fun a hF => ?_
      refine s_grdn 18 hF rfl rfl (by decide) fun a hF => ?_
      refine s_grdn 18 hF rfl rfl (by decide) fun a hF => ?_
      refine s_grdn 18 hF rfl rfl (by decide) fun a hF => ?_
      refine s_grdn 18 hF rfl rfl (by decide) fun a hF => ?_
      refine s_grdn 18 hF rfl rfl (by decide) fun a hF => ?_
      refine s_grdn 18 hF rfl rfl (by decide) fun a hF => ?_
      refine s_grdn 18 hF rfl rfl (by decide) fun a hF => ?_
      refine s_val hF (x_pick (b := true) rfl rfl) (by decide) fun a hF => ?_
      refine s_end (hK9 _ _ ?_)
      refine wp_if hF rfl ?_
      refine wp_rs fun K10 hK10 => ?_
      refine s_val hF (x_assign rfl) (by decide) fun a hF => ?_
      refine s_end (hK10 _ _ ?_)
      refine wp_ret (then_ret (res_slot hF rfl rfl ⟨_, rfl, ⟨⟨false, rfl, fun h => by cases h⟩, ⟨r, mr, hr0, hr1⟩⟩, hQ⟩))
    · skip
      refine wp_rs fun K11 hK11 => ?_
      refine s_val hF (x_move rfl) (by decide) fun a hF => ?_
      refine s_val hF (x_eql (b := false) (decide_eq_false (by omega)) rfl rfl) (by decide) fun a hF => ?_
      refine s_val hF (x_move rfl) (by decide) fun a hF => ?_
      refine s_grd 18 hF rfl rfl rfl ?_
      refine s_val hF (x_move rfl) (by decide) fun a hF => ?_
      refine s_grd 18 hF rfl rfl rfl ?_
      refine s_val hF (x_len Try.underlying25 rfl) (by decide) fun a hF => ?_
      refine s_grd 18 hF rfl rfl rfl ?_
      refine s_val hF (x_move rfl) (by decide) fun a hF => ?_
      refine s_grd 18 hF rfl rfl rfl ?_
      refine s_val hF (x_nil rfl) (by decide) fun a hF => ?_
      refine s_grd 18 hF rfl rfl rfl ?_
      refine s_val hF (x_fa0 fa110_0 rfl) (by decide) fun a hF => ?_
      refine s_grd 18 hF rfl rfl rfl ?_
      refine s_val hF (x_load rfl (m_load flat3 (mr.cell (j := 0) rfl))) (by decide) fun a hF => ?_
      refine s_grd 18 hF rfl rfl rfl ?_
      refine s_val hF (x_move rfl) (by decide) fun a hF => ?_
      refine s_grd 18 hF rfl rfl rfl ?_
      refine s_val hF (x_quon (r / 120) (by decide) hr0 (by omega) rfl rfl rfl) (by decide) fun a hF => ?_
      refine s_grd 18 hF rfl rfl rfl ?_
      refine s_val hF (x_gtr (b := true) (decide_eq_true (by omega)) rfl rfl) (by decide) fun a hF => ?_
      refine s_val hF (x_pick (b := false) rfl rfl) (by decide) fun a hF => ?_
      refine s_end (hK11 _ _ ?_)
      refine wp_if hF rfl ?_
      refine wp_rs fun K12 hK12 => ?_
      refine s_val hF (x_assign rfl) (by decide) fun a hF => ?_
      refine s_end (hK12 _ _ ?_)
      refine wp_ret (then_ret (res_slot hF rfl rfl ⟨_, rfl, ⟨⟨false, rfl, fun h => by cases h⟩, ⟨r, mr, hr0, hr1⟩⟩, hQ⟩))
    · skip
      refine wp_rs fun K13 hK13 => ?_
      refine s_val hF (x_move rfl) (by decide) fun a hF => ?_
      refine s_val hF (x_eql (b := false) (decide_eq_false (by omega)) rfl rfl) (by decide) fun a hF => ?_
      refine s_val hF (x_move rfl) (by decide) fun a hF => ?_
      refine s_grd 18 hF rfl rfl rfl ?_
      refine s_val hF (x_move rfl) (by decide) fun a hF => ?_
      refine s_grd 18 hF rfl rfl rfl ?_
      refine s_val hF (x_len Try.underlying25 rfl) (by decide) fun a hF => ?_
      refine s_grd 18 hF rfl rfl rfl ?_
      refine s_val hF (x_move rfl) (by decide) fun a hF => ?_
      refine s_grd 18 hF rfl rfl rfl ?_
      refine s_val hF (x_nil rfl) (by decide) fun a hF => ?_
      refine s_grd 18 hF rfl rfl rfl ?_
      refine s_val hF (x_fa0 fa110_0 rfl) (by decide) fun a hF => ?_
      refine s_grd 18 hF rfl rfl rfl ?_
      refine s_val hF (x_load rfl (m_load flat3 (mr.cell (j := 0) rfl))) (by decide) fun a hF => ?_
      refine s_grd 18 hF rfl rfl rfl ?_
      refine s_val hF (x_move rfl) (by decide) fun a hF => ?_
      refine s_grd 18 hF rfl rfl rfl ?_
      refine s_val hF (x_quon (r / 120) (by decide) hr0 (by omega) rfl rfl rfl) (by decide) fun a hF => ?_
      refine s_grd 18 hF rfl rfl rfl ?_
      refine s_val hF (x_gtr (b := false) (decide_eq_false (by omega)) rfl rfl) (by decide) fun a hF => ?_
      refine s_val hF (x_pick (b := false) rfl rfl) (by decide) fun a hF => ?_
      refine s_end (hK13 _ _ ?_)
      refine wp_if hF rfl ?_
      refine wp_skip (hK7 _ _ ?_)
      refine wp_rs fun K14 hK14 => ?_
      refine s_val hF (x_move rfl) (by decide) fun a hF => ?_
      refine s_val hF (x_nil rfl) (by decide) fun a hF => ?_
      refine s_val hF (x_fa0 fa110_0 rfl) (by decide) fun a hF => ?_
      refine s_val hF (x_load rfl (m_load flat3 (mr.cell (j := 0) rfl))) (by decide) fun a hF => ?_
      refine s_val hF (x_move rfl) (by decide) fun a hF => ?_
      refine s_val hF (x_len Try.underlying25 rfl) (by decide) fun a hF => ?_
      refine s_val hF (x_move rfl) (by decide) fun a hF => ?_
      refine s_val hF (x_mul (by omega) (by omega) rfl rfl) (by decide) fun a hF => ?_
      refine s_val hF (x_sub (by omega) (by omega) rfl rfl) (by decide) fun a hF => ?_
      refine s_val hF (x_nil rfl) (by decide) fun a hF => ?_
      refine s_val hF (x_fa0 fa110_0 rfl) (by decide) fun a hF => ?_
      refine s_put hF rfl rfl flat3 mr (by first | (simp; done) | decide) rfl fun w2 mr o3 => ?_
      have so3 := o3.size
      have hK := hK.only o3 (by omega)
      have hQ := hQ.only o3 (by omega)
      refine s_end (hK14 _ _ ?_)
      refine wp_seq_k fun K15 hK15 => ?_
      refine wp_rs fun K16 hK16 => ?_
      refine s_val hF (x_move rfl) (by decide) fun a hF => ?_
      refine s_val hF (x_len Try.underlying25 rfl) (by decide) fun a hF => ?_
      refine s_val hF (x_move rfl) (by decide) fun a hF => ?_
      refine s_end (hK16 _ _ ?_)
      refine wp_block ?_
      refine wp_up cs.length (fun i a w => (∃ r : Int, Blk w br 108 [.int .i64 r] ∧ 0 ≤ r ∧ r ≤ 2147483647) ∧ Ktw br br w0 w ∧ Ktw br br w1 w ∧ (∀ c ∈ cs.take i, c.dep ≤ d) ∧ Fs 57 a [(0, .pointer (some ⟨br, 0, none⟩)), (2, .int .i64 120), (3, .int .i64 (d : Int)), (4, .func (.func 89) #[] #[]), (40, .slice av cs.length cv), (41, .int .i64 (cs.length : Int)), (42, .int .i64 (i : Int))]) ⟨⟨_, mr, by omega, by omega⟩, hK, hQ, (fun c hc => by simp at hc), hF.sub _ rfl⟩ ?_
      clear hF hK hQ mr
      rintro i a w hi ⟨⟨r2, mr, hr2, hr3⟩, hK, hQ, hdp, hF⟩ K' hK'
      have sK := hK.size
      have sQ := hQ.size
      refine wp_rs fun K17 hK17 => ?_
      refine s_val hF (x_lss (b := decide (i < cs.length)) (decide_eq_decide.2 (by omega)) rfl rfl) (by decide) fun a hF => ?_
      refine s_end (hK17 _ _ ?_)
      refine wp_seq_k fun K18 hK18 => ?_
      refine wp_iff hF rfl (fun hc43 => ?_) (fun hc43 => ?_)
      · obtain ⟨b9, off9, c9, y, kd, hve, hyk, hry, hAb, hbl, hrow⟩ := hV.row (i := i) (by omega)
        cases hve
        have hps := sumT_get hyk
        have hks := kd.kids_sum
        have hk3 := kd.kids_le
        have htk := take_snoc hyk
        refine wp_skip (hK18 _ _ ?_)
        refine wp_seq_k fun K19 hK19 => ?_
        refine wp_block ?_
        refine wp_rs fun K20 hK20 => ?_
        refine s_val hF (x_ixa rfl rfl (m_ixsK i Try.underlying25 el25.size rfl (by omega))) (by decide) fun a hF => ?_
        refine s_val hF (x_ldA wide27 (hrow _ (hK.block _ hbl ⟨hAb.1, hAb.1⟩)) rfl rfl) (by decide) fun a hF => ?_
        refine s_alloc hF (by decide) zero27 fun w4 b12 a eb12 m12 B5 zb12 hF => ?_
        have sB5 := B5.size
        have hK := hK.below B5
        have hQ := hQ.below B5
        have mr := mr.old B5
        refine s_putW hF rfl rfl (size_wide wide27) m12 rfl hry.one fun w8 m12 o9 => ?_
        have so9 := o9.size
        have hK := hK.only o9 (by omega)
        have hQ := hQ.only o9 (by omega)
        have mr := mr.only o9 (by omega)
        refine s_end (hK20 _ _ ?_)
        refine wp_rs fun K21 hK21 => ?_
        refine s_val hF (x_move rfl) (by decide) fun a hF => ?_
        refine s_val hF (x_move rfl) (by decide) fun a hF => ?_
        refine s_val hF (x_ldW wide27 m12 rfl rfl) (by decide) fun a hF => ?_
        refine s_callC (R := fun v w' => RK w0 (Ai w0.heap.size br) v kd.kids ∧ Below w8.heap.size w8 w') (lb := []) hF [_] rfl (enters_of Try.func89 (by kernel_rfl) rfl) rfl (by decide) (kidsOf101 kd y (Ai w0.heap.size br) w0 w8 hry) ?_
        rintro v49 w10 a ⟨hkv, B11⟩ hF
        have sB11 := B11.size
        have hK := hK.below B11
        have hQ := hQ.below B11
        have mr := mr.old B11
        have m12 := m12.old B11
        refine s_val hF (x_move rfl) (by decide) fun a hF => ?_
        refine s_val hF (x_move rfl) (by decide) fun a hF => ?_
        refine s_val hF (x_subn (d - 1) (by omega) (by omega) rfl rfl) (by decide) fun a hF => ?_
        refine s_val hF (x_move rfl) (by decide) fun a hF => ?_
        refine s_call (R := fun u w' => ((∃ b, u = .bool b ∧ (b = true → kd.kids.length * 120 ≤ 2147483647 ∧ ∀ c ∈ kd.kids, c.dep ≤ d - 1)) ∧ Room w' br) ∧ Ktw br br w10 w') hF [_, _, _, _, _] (enters_of Try.func121 (by kernel_rfl) rfl) rfl (by decide) (ih kd.kids _ (by omega) hkv (d - 1) w10 (by omega) hK ⟨_, mr, hr2, hr3⟩) ?_
        rintro _ w12 a ⟨⟨⟨b54, rfl, h54⟩, ⟨r4, mr, hr4, hr5⟩⟩, k13⟩ hF
        have sk13 := k13.size
        have hK := hK.trans k13 (by omega)
        have hQ := hQ.trans k13 (by omega)
        have m12 := m12.k2 k13 (by omega)
        refine s_val hF (x_not rfl) (by decide) fun a hF => ?_
        refine s_end (hK21 _ _ ?_)
        refine wp_ifb hF rfl (fun hc55 => ?_) (fun hc55 => ?_)
        · refine wp_rs fun K22 hK22 => ?_
          refine s_val hF (x_assign rfl) (by decide) fun a hF => ?_
          refine s_end (hK22 _ _ ?_)
          refine wp_ret (inb_ret (then_ret (then_ret (inb_ret (then_ret (res_slot hF rfl rfl ⟨_, rfl, ⟨⟨false, rfl, fun h => by cases h⟩, ⟨r4, mr, hr4, hr5⟩⟩, hQ⟩))))))
        · obtain rfl : b54 = true := by simpa using hc55
          have h55 := h54 rfl
          have hkd : kd.dep ≤ d := by have := CT.dep_kids h55.2; omega
          refine wp_skip (hK19 _ _ ?_)
          refine wp_region_lit ?_
          refine s_val hF (x_addn (i + 1) (by omega) (by omega) rfl rfl) (by decide) fun a hF => ?_
          refine s_val hF (x_move rfl) (by decide) fun a hF => ?_
          refine s_end (hK' _ _ (by omega) ⟨⟨r4, mr, hr4, hr5⟩, hK, hQ, (fun c hc => by rw [htk] at hc; rcases List.mem_append.1 hc with hc | hc; (· exact hdp c hc); (· rw [List.mem_singleton.1 hc]; exact hkd)), hF.sub _ rfl⟩)
      · obtain rfl : i = cs.length := by omega
        rw [List.take_length] at hdp
        refine wp_exit (hK15 _ _ ?_)
        refine wp_rs fun K23 hK23 => ?_
        refine s_val hF (x_assign rfl) (by decide) fun a hF => ?_
        refine s_end (hK23 _ _ ?_)
        refine wp_ret (res_slot hF rfl rfl ⟨_, rfl, ⟨⟨true, rfl, fun _ => ⟨by omega, hdp⟩⟩, ⟨r2, mr, hr2, hr3⟩⟩, hQ⟩)

set_option maxRecDepth 100000 in
set_option maxHeartbeats 1600000 in
theorem takes100 (w0 : World) (br : Nat) (hbr : br < w0.heap.size) (cs : List CT) (v : Value) (hV : RK w0 (Ai w0.heap.size br) v cs) (w1 : World) (hK : Ktw br br w0 w1) (hR : Room w1 br) :
    Calls Try.prog 88 #[.pointer (some ⟨br, 0, none⟩), v, .int .i64 120, .func (.func 89) #[] #[]] w1 fun e w' => ∃ u, e = .returned u ∧ ((∃ b, u = .bool b ∧ (b = true → cs.length * 120 ≤ 2147483647 ∧ ∀ c ∈ cs, c.dep ≤ 65536)) ∧ Room w' br) ∧ Ktw br br w1 w' := by
  have hQ := Ktw.refl br br w1
  have sK := hK.size
  have sQ := hQ.size
  refine calls_fs 18 [(0, .pointer (some ⟨br, 0, none⟩)), (1, v), (2, .int .i64 120), (3, .func (.func 89) #[] #[])] Try.func88 rfl rfl rfl rfl rfl fun a hF => ?_
  refine wp_rs fun K1 hK1 => ?_
  refine s_val hF (x_assign rfl) (by decide) fun a hF => ?_
  refine s_end (hK1 _ _ ?_)
  refine wp_seq_k fun K2 hK2 => ?_
  refine wp_rs fun K3 hK3 => ?_
  refine s_val hF (x_move rfl) (by decide) fun a hF => ?_
  refine s_val hF (x_move rfl) (by decide) fun a hF => ?_
  refine s_val hF (x_move rfl) (by decide) fun a hF => ?_
  refine s_val hF (x_move rfl) (by decide) fun a hF => ?_
  refine s_call (R := fun u w' => ((∃ b, u = .bool b ∧ (b = true → cs.length * 120 ≤ 2147483647 ∧ ∀ c ∈ cs, c.dep ≤ 65536)) ∧ Room w' br) ∧ Ktw br br w1 w') hF [_, _, _, _, _] (enters_of Try.func121 (by kernel_rfl) rfl) rfl (by decide) (count134 w0 br hbr (sumT cs + 1) cs v (by omega) hV 65536 w1 (by omega) hK hR) ?_
  rintro _ w2 a ⟨⟨⟨b13, rfl, h13⟩, ⟨r4, mr, hr4, hr5⟩⟩, k3⟩ hF
  have sk3 := k3.size
  have hK := hK.trans k3 (by omega)
  have hQ := hQ.trans k3 (by omega)
  refine s_val hF (x_not rfl) (by decide) fun a hF => ?_
  refine s_end (hK3 _ _ ?_)
  refine wp_ifb hF rfl (fun hc14 => ?_) (fun hc14 => ?_)
  · refine wp_rs fun K4 hK4 => ?_
    refine s_val hF (x_move rfl) (by decide) fun a hF => ?_
    refine s_val hF (x_nil rfl) (by decide) fun a hF => ?_
    refine s_val hF (x_fa0 fa110_0 rfl) (by decide) fun a hF => ?_
    refine s_put hF rfl rfl flat3 mr (by first | (simp; done) | decide) rfl fun w4 mr o5 => ?_
    have so5 := o5.size
    have hK := hK.only o5 (by omega)
    have hQ := hQ.only o5 (by omega)
    refine s_end (hK4 _ _ ?_)
    refine wp_rs fun K5 hK5 => ?_
    refine s_val hF (x_assign rfl) (by decide) fun a hF => ?_
    refine s_end (hK5 _ _ ?_)
    refine wp_ret (then_ret (res_slot hF rfl rfl ⟨_, rfl, ⟨⟨false, rfl, fun h => by cases h⟩, ⟨0, mr, by decide, by decide⟩⟩, hQ⟩))
  · obtain rfl : b13 = true := by simpa using hc14
    have h14 := h13 rfl
    refine wp_skip (hK2 _ _ ?_)
    refine wp_rs fun K6 hK6 => ?_
    refine s_val hF (x_assign rfl) (by decide) fun a hF => ?_
    refine s_end (hK6 _ _ ?_)
    refine wp_ret (res_slot hF rfl rfl ⟨_, rfl, ⟨⟨true, rfl, fun _ => h14⟩, ⟨r4, mr, hr4, hr5⟩⟩, hQ⟩)
end Go.Proofs.Ytaclncmkdpjnlaa

namespace Go.Proofs.Ytaclncmkdpjnlaa
open Go.RowKit Go.Shelf
set_option linter.unusedVariables false
set_option linter.unusedSimpArgs false

theorem RVn.k2 {W W' : World} {A : Nat → Prop} {v : Value} {ls : List Lv} {a b : Nat} (h : RVn W A v ls) (hK : Ktw a b W W') (hA : ∀ k, A k → k ≠ a ∧ k ≠ b) : RVn W' A v ls := h.keep hK.size (fun k ha hk => hK.block k hk (hA k ha))
theorem Ok.k2 {W W' : World} {A : Nat → Prop} {x : C8} {a b : Nat} (h : Ok W A x) (hK : Ktw a b W W') (hA : ∀ k, A k → k ≠ a ∧ k ≠ b) : Ok W' A x := h.keep hK.size (fun k ha hk => hK.block k hk (hA k ha))
theorem QL.rvn {W : World} {A : Nat → Prop} {v : Value} {zs : List C3} {ls : List Lv} (h : QL W A zs ls) (hR : Rd W v 3 zs.length (zs.flatMap lc)) (hA : ∀ j, v.ownBlock = some j → A j) : RVn W A v ls := ⟨zs, ⟨hR, fun _ j hj => hA j hj⟩, h.1, h.2⟩
/-- Each is as it was, or a copy. -/
def cpAll (ls ls' : List Lv) : Prop := ∀ (j : Nat) l l', ls[j]? = some l → ls'[j]? = some l' → isCp l l'
theorem cpAll.snoc {ls ls' : List Lv} {p p' : Lv} {i : Nat} (h : cpAll ls ls') (hl : ls'.length = i) (hp : ls[i]? = some p) (hc : isCp p p') : cpAll ls (ls' ++ [p']) := by
  intro j l l' e1 e2
  rcases Nat.lt_trichotomy j ls'.length with hj | hj | hj
  · rw [List.getElem?_append_left hj] at e2
    exact h j l l' e1 e2
  · subst hj
    rw [List.getElem?_append_right (Nat.le_refl _)] at e2
    simp at e2
    subst e2
    rw [hl, hp] at e1
    cases e1
    exact hc
  · rw [List.getElem?_eq_none (by simp; omega)] at e2
    cases e2
theorem cpAll.slO {W : World} {A : Nat → Prop} {v : Value} {ls ls' : List Lv} (h : cpAll ls ls') (hl : ls'.length = ls.length) (hV : RVn W A v ls) : ls'.map slO = ls.map slO := by
  obtain ⟨xs, h1, h2, h3⟩ := hV
  apply List.ext_getElem?
  intro i
  by_cases hi : i < ls.length
  · rw [List.getElem?_map, List.getElem?_map, List.getElem?_eq_getElem hi, List.getElem?_eq_getElem (by omega : i < ls'.length)]
    exact congrArg some ((h i _ _ (List.getElem?_eq_getElem hi) (List.getElem?_eq_getElem (by omega))).slO (h3 i (xs[i]'(by omega)) _ (List.getElem?_eq_getElem (by omega)) (List.getElem?_eq_getElem hi)).rl)
  · rw [List.getElem?_eq_none (by simp; omega), List.getElem?_eq_none (by simp; omega)]

set_option maxRecDepth 100000 in
set_option maxHeartbeats 400000 in
theorem levels130 (W : World) (br : Nat) (hbr : br < W.heap.size) (A : Nat → Prop) (hA : ∀ k, A k → k ≠ br ∧ k < W.heap.size) (ls : List Lv) (v : Value) (hV : RVn W A v ls) (hR : Room W br) :
    Calls Try.prog 113 #[.pointer (some ⟨br, 0, none⟩), v] W fun e w' => ∃ u, e = .returned u ∧ ((∃ ls', RVn w' (fun k => A k ∨ W.heap.size ≤ k) u ls' ∧ ls'.map slO = ls.map slO) ∧ Room w' br) ∧ Ktw br br W w' := by
  have hK := Ktw.refl br br W
  have sK := hK.size
  obtain ⟨av, cv, hve, _⟩ := hV.form
  subst hve
  refine calls_fs 26 [(0, .pointer (some ⟨br, 0, none⟩)), (1, .slice av ls.length cv)] Try.func113 rfl rfl rfl rfl rfl fun a hF => ?_
  refine wp_rs fun K1 hK1 => ?_
  refine s_val hF (x_assign rfl) (by decide) fun a hF => ?_
  refine s_end (hK1 _ _ ?_)
  refine wp_seq_k fun K2 hK2 => ?_
  refine wp_rs fun K3 hK3 => ?_
  refine s_val hF (x_move rfl) (by decide) fun a hF => ?_
  refine s_val hF (x_move rfl) (by decide) fun a hF => ?_
  refine s_call (R := fun u w' => ((∃ b, u = .bool b ∧ (b = true → ls.length * 40 ≤ 2147483647)) ∧ Room w' br) ∧ Ktw br br W w') hF [_, _, _, _] (enters_of Try.func128 (by kernel_rfl) rfl) rfl (by decide) (takes143 W br hbr ls _ (hV.mono hA) W hK hR) ?_
  rintro _ w2 a ⟨⟨⟨b10, rfl, h10⟩, ⟨r4, mr, hr4, hr5⟩⟩, k3⟩ hF
  have sk3 := k3.size
  have hK := hK.trans k3 (by omega)
  refine s_val hF (x_not rfl) (by decide) fun a hF => ?_
  refine s_end (hK3 _ _ ?_)
  refine wp_ifb hF rfl (fun hc11 => ?_) (fun hc11 => ?_)
  · refine wp_rs fun K4 hK4 => ?_
    refine s_val hF (x_move rfl) (by decide) fun a hF => ?_
    refine s_val hF (x_assign rfl) (by decide) fun a hF => ?_
    refine s_end (hK4 _ _ ?_)
    refine wp_ret (then_ret (res_slot hF rfl rfl ⟨_, rfl, ⟨⟨ls, (hV.k2 hK (fun k hk => ⟨(hA k hk).1, (hA k hk).1⟩)).mono (fun k hk => .inl hk), rfl⟩, ⟨r4, mr, hr4, hr5⟩⟩, hK⟩))
  · obtain rfl : b10 = true := by simpa using hc11
    have h11 := h10 rfl
    refine wp_skip (hK2 _ _ ?_)
    refine wp_rs fun K5 hK5 => ?_
    refine s_val hF (x_assign rfl) (by decide) fun a hF => ?_
    refine s_end (hK5 _ _ ?_)
    refine wp_seq_k fun K6 hK6 => ?_
    refine wp_rs fun K7 hK7 => ?_
    refine s_val hF (x_move rfl) (by decide) fun a hF => ?_
    refine s_val hF (x_len Try.underlying22 rfl) (by decide) fun a hF => ?_
    refine s_val hF (x_move rfl) (by decide) fun a hF => ?_
    refine s_end (hK7 _ _ ?_)
    refine wp_block ?_
    refine wp_up ls.length (fun i a w => ∃ v' o' zs ls', w.ownsRow W.heap.size 24 3 v' zs.length (zs.flatMap lc) ∧ (∀ j, v'.ownBlock = some j → j = o') ∧ v'.ownBlock ≠ some br ∧ ((o' = br ∨ W.heap.size ≤ o') ∧ o' < w.heap.size) ∧ QL w (fun k => (k < W.heap.size ∧ k ≠ br ∧ A k ∨ W.heap.size ≤ k) ∧ k ≠ o' ∧ k < w.heap.size) zs ls' ∧ ls'.length = i ∧ cpAll ls ls' ∧ Blk w br 108 [.int .i64 r4] ∧ Ktw br br W w ∧ Fs 26 a [(5, v'), (13, .slice av ls.length cv), (14, .int .i64 (ls.length : Int)), (15, .int .i64 (i : Int))]) ⟨_, br, [], [], World.ownsRow_nil _ _ _ _, (fun j h => by cases h), (fun h => by cases h), by omega, QL.nil, rfl, (fun j l l' _ h => by simp at h), mr, hK, hF.sub _ rfl⟩ ?_
    repeat clear hF
    clear hK mr
    rintro i a w hi ⟨vv, o2, zs, ls2, hO, hat, hne, hlo, hP, hl2, hcp, mr, hK, hF⟩ K' hK'
    have sK := hK.size
    obtain ⟨top, htop⟩ : ∃ h, h = w.heap.size := ⟨_, rfl⟩
    rw [← htop] at hP
    have hPl := hP.1
    have h1vv := (Rd.own hO).one
    refine wp_rs fun K8 hK8 => ?_
    refine s_val hF (x_lss (b := decide (i < ls.length)) (decide_eq_decide.2 (by omega)) rfl rfl) (by decide) fun a hF => ?_
    refine s_end (hK8 _ _ ?_)
    refine wp_seq_k fun K9 hK9 => ?_
    refine wp_iff hF rfl (fun hc16 => ?_) (fun hc16 => ?_)
    · obtain ⟨b9, off9, c9, y, p, hve, hp, hry, hAb, hbl, hrow⟩ := hV.row (i := i) (by omega)
      cases hve
      have h1y := hry.rl.one1
      have hAb2 := hA _ hAb
      refine wp_skip (hK9 _ _ ?_)
      refine wp_seq_k fun K10 hK10 => ?_
      refine wp_block ?_
      refine wp_rs fun K11 hK11 => ?_
      refine s_val hF (x_ixa rfl rfl (m_ixsK i Try.underlying22 el22.size rfl (by omega))) (by decide) fun a hF => ?_
      refine s_val hF (x_ldA wide24 (hrow _ (hK.block _ hbl ⟨hAb2.1, hAb2.1⟩)) rfl rfl) (by decide) fun a hF => ?_
      refine s_alloc hF (by decide) zero24 fun w4 b7 a eb7 m7 B5 zb7 hF => ?_
      have sB5 := B5.size
      have hK := hK.below B5
      have mr := mr.old B5
      have hO := own_below hO B5
      have hP := hP.below B5
      refine s_putW hF rfl rfl (size_wide wide24) m7 rfl (one_lc h1y) fun w8 m7 o9 => ?_
      have so9 := o9.size
      have hK := hK.only o9 (by omega)
      have mr := mr.only o9 (by omega)
      have hO := own_only hO o9 (fun e => by have := hat _ e; omega)
      have hP := hP.only o9 (fun k (hk : (k < W.heap.size ∧ k ≠ br ∧ A k ∨ W.heap.size ≤ k) ∧ k ≠ o2 ∧ k < top) => by omega)
      refine s_end (hK11 _ _ ?_)
      refine wp_region_lit ?_
      refine s_val hF (x_move rfl) (by decide) fun a hF => ?_
      refine s_val hF (x_ldW wide24 m7 rfl rfl) (by decide) fun a hF => ?_
      refine s_callR (R := fun u w' => ∃ z l', u = lv z ∧ RLx w' (fun k => A k ∨ w8.heap.size ≤ k) z l' ∧ isCp p l') [_, _] hF (enters_of Try.func130 (by kernel_rfl) rfl) rfl (by decide) (plusL145 w8 A (fun k hk => by have := (hA k hk).2; omega) p y (hry.keep hK.size (fun k hk hb => hK.block k hb ⟨(hA k hk).1, (hA k hk).1⟩))) ?_
      rintro _ w10 a ⟨z, l2, rfl, hz0, hcz⟩ B11 hF
      have sB11 := B11.size
      have hK := hK.below B11
      have mr := mr.old B11
      have hO := own_below hO B11
      have hP := hP.below B11
      have m7 := m7.old B11
      have hz := hz0.valid
      clear hz0
      have hz : RLx w10 (fun k => (k < W.heap.size ∧ k ≠ br ∧ A k ∨ w8.heap.size ≤ k) ∧ k < w10.heap.size) z l2 := hz.mono (fun k hk => ⟨hk.1.elim (fun h => .inl ⟨(hA k h).2, (hA k h).1, h⟩) .inr, hk.2⟩)
      have h1z := hz.rl.one1
      refine s_litG [lv z] el22 hF (by decide) rfl (by simp [Value.cells, lc]) rfl (by decide) (by decide) fun w12 bl a ebl ml B13 zbl hF => ?_
      have sB13 := B13.size
      have hK := hK.below B13
      have mr := mr.old B13
      have hO := own_below hO B13
      have hP := hP.below B13
      have m7 := m7.old B13
      have hz := hz.below B13
      have ml : Blk w12 bl 24 (lc z) := by simpa [Value.cells] using ml
      refine s_appL (o := o2) el22 hF (by decide) rfl rfl hO ml rfl (one_lc h1z) hat (by omega) (by omega) (by decide) (by omega) fun v3 w14 a o3 hOn hOatn how hsrc k15 hkeep hF => ?_
      have sk15 := k15.size
      have hK := hK.trans k15 (by omega)
      have mr : Blk w14 br _ _ := (hkeep _ mr.lt hne).trans mr
      have hP := hP.k2 k15 (fun k (hk : (k < W.heap.size ∧ k ≠ br ∧ A k ∨ W.heap.size ≤ k) ∧ k ≠ o2 ∧ k < top) => by omega)
      have m7 := m7.k2 k15 (by omega)
      have hz := hz.k2 k15 (fun k (hk : (k < W.heap.size ∧ k ≠ br ∧ A k ∨ w8.heap.size ≤ k) ∧ k < w10.heap.size) => by omega)
      have ml := ml.k2 k15 (by omega)
      have hO := hOn
      have hO_at := hOatn
      have hneg : v3.ownBlock ≠ some br := fun h => by rcases hsrc br h with h | h; exact hne h; omega
      refine s_val hF (x_assign rfl) (by decide) fun a hF => ?_
      refine s_end (hK10 _ _ ?_)
      refine wp_region_lit ?_
      refine s_val hF (x_addn (i + 1) (by omega) (by omega) rfl rfl) (by decide) fun a hF => ?_
      refine s_val hF (x_move rfl) (by decide) fun a hF => ?_
      refine s_end (hK' _ _ (by omega) ⟨v3, o3, zs ++ [z], ls2 ++ [l2], by rw [fm3_app]; simpa using hO, hO_at, hneg, by omega, (hP.mono (fun k (hk : (k < W.heap.size ∧ k ≠ br ∧ A k ∨ W.heap.size ≤ k) ∧ k ≠ o2 ∧ k < top) => ⟨hk.1, by omega, by omega⟩)).snoc (hz.mono (fun k (hk : (k < W.heap.size ∧ k ≠ br ∧ A k ∨ w8.heap.size ≤ k) ∧ k < w10.heap.size) => ⟨hk.1.elim .inl (fun h => .inr (by omega)), by omega, by omega⟩)), by simp [hl2], hcp.snoc hl2 hp hcz, mr, hK, hF.sub _ rfl⟩)
    · obtain rfl : i = ls.length := by omega
      refine wp_exit (hK6 _ _ ?_)
      refine wp_rs fun K12 hK12 => ?_
      refine s_val hF (x_move rfl) (by decide) fun a hF => ?_
      refine s_val hF (x_assign rfl) (by decide) fun a hF => ?_
      refine s_end (hK12 _ _ ?_)
      refine wp_ret (res_slot hF rfl rfl ⟨_, rfl, ⟨⟨ls2, (hP.mono (B := fun k => A k ∨ W.heap.size ≤ k) (fun k hk => hk.1.elim (fun h => .inl h.2.2) .inr)).rvn (Rd.own hO) (fun j h => .inr (hO.lt j h).1), hcp.slO hl2 hV⟩, ⟨r4, mr, hr4, hr5⟩⟩, hK⟩)

/-- A node, with these kids. -/
def nodeP : CT → List PT → PT
  | .var n _, _ => .var n
  | .sort l _, _ => .sort (slO l)
  | .cst s ls _, _ => .cst s (ls.map slO)
  | .odd k _, _ => .odd k
  | .two k _ _ _, ps => .two k (ps.getD 0 (.odd 0)) (ps.getD 1 (.odd 0))
  | .lt .., ps => .lt (ps.getD 0 (.odd 0)) (ps.getD 1 (.odd 0)) (ps.getD 2 (.odd 0))
theorem RE_two {W : World} {A : Nat → Prop} {v : Value} {k : Int} {p q : PT} (hk : k = 3 ∨ k = 4 ∨ k = 6) (h : RKE W A v [p, q]) : RE W A (.two k p q) ⟨k, 0, emptyB, (0, 0, nilS), nilS, v⟩ := by
  obtain ⟨cs, ⟨xs, h1, h2, h3⟩, h4⟩ := h.ck
  obtain ⟨a, b, rfl⟩ := len2 (show cs.length = 2 by simpa using congrArg List.length h4)
  obtain ⟨y, z, rfl⟩ := len2 (show xs.length = 2 by simpa using h2)
  simp at h4
  obtain ⟨rfl, rfl⟩ := h4
  exact ⟨.two k a b 0, ⟨rfl, hk, ⟨y, z, [], by simpa using h1, h3 0 y a rfl rfl, h3 1 z b rfl rfl⟩, ok0 _ _ _ _ _ _⟩, rfl⟩
theorem len3 {α : Type} {xs : List α} (h : xs.length = 3) : ∃ a b c, xs = [a, b, c] := by
  match xs, h with
  | [a, b, c], _ => exact ⟨a, b, c, rfl⟩
theorem RE_lt {W : World} {A : Nat → Prop} {v : Value} {p q r : PT} (h : RKE W A v [p, q, r]) : RE W A (.lt p q r) ⟨5, 0, emptyB, (0, 0, nilS), nilS, v⟩ := by
  obtain ⟨cs, ⟨xs, h1, h2, h3⟩, h4⟩ := h.ck
  obtain ⟨a, b, c, rfl⟩ := len3 (show cs.length = 3 by simpa using congrArg List.length h4)
  obtain ⟨y, z, u, rfl⟩ := len3 (show xs.length = 3 by simpa using h2)
  simp at h4
  obtain ⟨rfl, rfl, rfl⟩ := h4
  exact ⟨.lt a b c 0, ⟨rfl, ⟨y, z, u, [], by simpa using h1, h3 0 y a rfl rfl, h3 1 z b rfl rfl, h3 2 u c rfl rfl⟩, ok0 _ _ _ _ _ _⟩, rfl⟩
theorem RKE.rn0 {W : World} {A : Nat → Prop} {v : Value} (h : RKE W A v []) : ∃ cs, Rn W A v 8 0 cs := by
  obtain ⟨xs, h1, h2, h3⟩ := h
  rw [h2] at h1
  exact ⟨_, h1⟩
theorem RE_odd {W : World} {A : Nat → Prop} {v : Value} {k : Int} (hk : arT k < 0 ∨ (0 : Int) < arT k) (h : RKE W A v []) : RE W A (.odd k) ⟨k, 0, emptyB, (0, 0, nilS), nilS, v⟩ := ⟨.odd k 0, ⟨rfl, hk, h.rn0, ok0 _ _ _ _ _ _⟩, rfl⟩
theorem RE_var {W : World} {A : Nat → Prop} {v : Value} {n : Int} (hn : in64 n) (h : RKE W A v []) : RE W A (.var n) ⟨1, n, emptyB, (0, 0, nilS), nilS, v⟩ := ⟨.var n 0, ⟨rfl, rfl, hn, h.rn0, ok0 _ _ _ _ _ _⟩, rfl⟩
theorem RE_sort {W : World} {A : Nat → Prop} {v : Value} {l : Lv} {o : Option SL} {z : C3} (hz : RLn W A z l) (ho : slO l = o) (h : RKE W A v []) : RE W A (.sort o) ⟨2, 0, emptyB, z, nilS, v⟩ := ⟨.sort l 0, ⟨rfl, hz, h.rn0, ⟨_, hz⟩, [], RVn.nil W A⟩, by rw [CT.ess, ho]⟩
theorem RE_cst {W : World} {A : Nat → Prop} {v u : Value} {s : ByteArray} {ls : List Lv} {os : List (Option SL)} (hz : RVn W A u ls) (ho : ls.map slO = os) (h : RKE W A v []) : RE W A (.cst s os) ⟨7, 0, s, (0, 0, nilS), u, v⟩ := ⟨.cst s ls 0, ⟨rfl, rfl, hz, h.rn0, ⟨.mk 0 0 [], .mk (xs := []) (Rn.nil W A 3) rfl (fun i x l h => by simp at h)⟩, ls, hz⟩, by rw [CT.ess, ho]⟩

section
variable {W W' : World} {A B : Nat → Prop}
theorem RC.var_of : ∀ {c : CT} {x : C8}, RC W A c x → x.k = 1 → ∃ n m, c = .var n m
  | .var n m, _, _, _ => ⟨n, m, rfl⟩
  | .sort .., x, h, hk => by have := h.1; omega
  | .cst .., x, h, hk => by have := h.1; omega
  | .odd k m, x, h, hk => by
    have h1 := h.1
    have h2 := h.2.1
    rw [← h1, hk] at h2
    simp [arT] at h2
    omega
  | .two .., x, h, hk => by have := h.1; have := h.2.1; omega
  | .lt .., x, h, hk => by have := h.1; omega
theorem RC.sort_of : ∀ {c : CT} {x : C8}, RC W A c x → x.k = 2 → ∃ n m, c = .sort n m
  | .sort n m, _, _, _ => ⟨n, m, rfl⟩
  | .var .., x, h, hk => by have := h.1; omega
  | .cst .., x, h, hk => by have := h.1; omega
  | .odd k m, x, h, hk => by
    have h1 := h.1
    have h2 := h.2.1
    rw [← h1, hk] at h2
    simp [arT] at h2
    omega
  | .two .., x, h, hk => by have := h.1; have := h.2.1; omega
  | .lt .., x, h, hk => by have := h.1; omega
theorem RC.cst_of : ∀ {c : CT} {x : C8}, RC W A c x → x.k = 7 → ∃ s ls m, c = .cst s ls m
  | .cst s n m, _, _, _ => ⟨s, n, m, rfl⟩
  | .var .., x, h, hk => by have := h.1; omega
  | .sort .., x, h, hk => by have := h.1; omega
  | .odd k m, x, h, hk => by
    have h1 := h.1
    have h2 := h.2.1
    rw [← h1, hk] at h2
    simp [arT] at h2
    omega
  | .two .., x, h, hk => by have := h.1; have := h.2.1; omega
  | .lt .., x, h, hk => by have := h.1; omega
theorem RE_rest {v : Value} {ps : List PT} : ∀ {c : CT} {x : C8}, RC W A c x → (x.k ≠ 1 ∧ x.k ≠ 2 ∧ x.k ≠ 7) → RKE W' B v ps → ps.length = c.kids.length → RE W' B (nodeP c ps) ⟨x.k, 0, emptyB, (0, 0, nilS), nilS, v⟩
  | .var .., x, h, hk, _, _ => by have := h.1; omega
  | .sort .., x, h, hk, _, _ => by have := h.1; omega
  | .cst .., x, h, hk, _, _ => by have := h.1; omega
  | .odd k m, x, h, hk, hV, hl => by
    obtain rfl : ps = [] := List.eq_nil_of_length_eq_zero hl
    rw [h.1]
    exact RE_odd (by have := h.2.1; omega) hV
  | .two k a b m, x, h, hk, hV, hl => by
    obtain ⟨p, q, rfl⟩ := len2 hl
    rw [h.1]
    exact RE_two h.2.1 hV
  | .lt a b c m, x, h, hk, hV, hl => by
    obtain ⟨p, q, r, rfl⟩ := len3 hl
    rw [h.1]
    exact RE_lt hV
theorem RVn.below {v : Value} {ls : List Lv} (h : RVn W A v ls) (hB : Below W.heap.size W W') : RVn W' A v ls := h.keep hB.size fun k _ hk => hB.block k hk
theorem RVn.only {v : Value} {ls : List Lv} {c : Nat} (h : RVn W A v ls) (o : Only c W W') (hc : ∀ k, A k → k ≠ c) : RVn W' A v ls := h.keep (Nat.le_of_eq o.size.symm) fun k ha _ => o.block k (hc k ha)
end

set_option maxRecDepth 100000 in
set_option maxHeartbeats 400000 in
theorem node92 (W : World) (br : Nat) (hbr : br < W.heap.size) (A : Nat → Prop) (hA : ∀ k, A k → k ≠ br ∧ k < W.heap.size) (c : CT) (x : C8) (hx : RC W A c x) (v : Value) (ps : List PT) (hV : RKE W A v ps) (hl : ps.length = c.kids.length) (hR : Room W br) :
    Calls Try.prog 73 #[.pointer (some ⟨br, 0, none⟩), tv x, v] W fun e w' => ∃ u, e = .returned u ∧ ((∃ y, u = tv y ∧ RE w' (fun k => A k ∨ W.heap.size ≤ k) (nodeP c ps) y ∧ y.ts = v) ∧ Room w' br) ∧ Ktw br br W w' := by
  have hK := Ktw.refl br br W
  have sK := hK.size
  have hA2 : ∀ k, A k → k ≠ br ∧ k ≠ br := fun k hk => ⟨(hA k hk).1, (hA k hk).1⟩
  obtain ⟨av, cv, hve, _⟩ := hV.form
  subst hve
  have hone := hx.one
  obtain ⟨xk, xn, xs, xl, xls, xts⟩ := x
  refine calls_fs 40 [(0, .pointer (some ⟨br, 0, none⟩)), (1, tv ⟨xk, xn, xs, xl, xls, xts⟩), (2, .slice av ps.length cv)] Try.func73 rfl rfl rfl rfl rfl fun a hF => ?_
  refine wp_rs fun K1 hK1 => ?_
  refine s_box ([.int .i64 xk, .int .i64 xn, .string xs, .int .i64 xl.1, .int .i64 xl.2.1, xl.2.2, xls, xts]) hF (by decide) rfl rfl fun w2 b4 a eb4 m4 B3 zb4 hF => ?_
  have sB3 := B3.size
  have hK := hK.below B3
  have hR := hR.below B3
  refine s_alloc hF (by decide) zero27 fun w4 b6 a eb6 m6 B5 zb6 hF => ?_
  have sB5 := B5.size
  have hK := hK.below B5
  have m4 := m4.old B5
  have hR := hR.below B5
  refine s_end (hK1 _ _ ?_)
  refine wp_rs fun K2 hK2 => ?_
  refine s_val hF (x_fa0 fa27_0 rfl) (by decide) fun a hF => ?_
  refine s_val hF (x_load rfl (m_load flat3 (m4.cell (j := 0) rfl))) (by decide) fun a hF => ?_
  refine s_val hF (x_move rfl) (by decide) fun a hF => ?_
  refine s_val hF (x_build (vs := [(0, _), (5, _)]) rfl (b27_05 _ _ _ _ _)) (by decide) fun a hF => ?_
  refine s_alloc hF (by decide) zero27 fun w6 b7 a eb7 m7 B7 zb7 hF => ?_
  have sB7 := B7.size
  have hK := hK.below B7
  have m4 := m4.old B7
  have m6 := m6.old B7
  have hR := hR.below B7
  refine s_putW hF rfl rfl (size_wide wide27) m7 rfl (one_tc0 _ _ _ _ rfl) fun w10 m7 o11 => ?_
  have so11 := o11.size
  have hK := hK.only o11 (by omega)
  have m4 := m4.only o11 (by omega)
  have m6 := m6.only o11 (by omega)
  have hR := hR.only o11 (by omega)
  refine s_end (hK2 _ _ ?_)
  refine wp_seq_k fun K3 hK3 => ?_
  refine wp_rs fun K4 hK4 => ?_
  refine s_val hF (x_fa0 fa27_0 rfl) (by decide) fun a hF => ?_
  refine s_val hF (x_load rfl (m_load flat3 (m4.cell (j := 0) rfl))) (by decide) fun a hF => ?_
  refine s_end (hK4 _ _ ?_)
  refine wp_block ?_
  rcases (show xk = 1 ∨ xk = 2 ∨ xk = 7 ∨ (xk ≠ 1 ∧ xk ≠ 2 ∧ xk ≠ 7) by omega) with hk9 | hk9 | hk9 | hk9
  · obtain ⟨n9, m9, rfl⟩ := hx.var_of hk9
    obtain rfl : ps = [] := List.eq_nil_of_length_eq_zero hl
    have hn9 : xn = n9 := hx.2.1
    have hi9 : in64 n9 := hx.2.2.1
    subst hk9 hn9
    refine wp_rs fun K6 hK6 => ?_
    refine s_val hF (x_eql (b := true) (decide_eq_true (by omega)) rfl rfl) (by decide) fun a hF => ?_
    refine s_val hF (x_assign rfl) (by decide) fun a hF => ?_
    refine s_end (hK6 _ _ ?_)
    refine wp_if hF rfl ?_
    refine wp_region_lit ?_
    refine s_val hF (x_fa0 fa27_1 rfl) (by decide) fun a hF => ?_
    refine s_val hF (x_load rfl (m_load flat3 (m4.cell (j := 1) rfl))) (by decide) fun a hF => ?_
    refine s_val hF (x_fa0 fa27_1 rfl) (by decide) fun a hF => ?_
    refine s_put hF rfl rfl flat3 m7 (by first | (simp; done) | (simp [tc, lc]; done) | decide) rfl fun w12 m7 o13 => ?_
    have so13 := o13.size
    have hK := hK.only o13 (by omega)
    have m4 := m4.only o13 (by omega)
    have m6 := m6.only o13 (by omega)
    have hR := hR.only o13 (by omega)
    refine s_end (hK3 _ _ ?_)
    have h1Y := ((show RE w12 (fun k => A k ∨ W.heap.size ≤ k) _ _ from RE_var hi9 ((hV.keep hK.size (fun k hk hb => hK.block k hb (hA2 k hk))).mono (fun k hk => .inl hk)))).one
    refine wp_rs fun K7 hK7 => ?_
    refine s_val hF (x_ldW wide27 m7 rfl rfl) (by decide) fun a hF => ?_
    refine s_putW hF rfl rfl (size_wide wide27) m6 rfl h1Y fun w16 m6 o17 => ?_
    have so17 := o17.size
    have hK := hK.only o17 (by omega)
    have m4 := m4.only o17 (by omega)
    have m7 := m7.only o17 (by omega)
    have hR := hR.only o17 (by omega)
    refine s_end (hK7 _ _ ?_)
    refine wp_ret (res_cell hF rfl rfl m6 wide27 ⟨_, rfl, ⟨⟨_, rfl, RE_var hi9 ((hV.keep hK.size (fun k hk hb => hK.block k hb (hA2 k hk))).mono (fun k hk => .inl hk)), rfl⟩, hR⟩, hK⟩)
  · obtain ⟨l, m9, rfl⟩ := hx.sort_of hk9
    obtain rfl : ps = [] := List.eq_nil_of_length_eq_zero hl
    have hxl : RLn W A xl l := hx.2.1
    subst hk9
    refine wp_rs fun K8 hK8 => ?_
    refine s_val hF (x_eql (b := false) (decide_eq_false (by omega)) rfl rfl) (by decide) fun a hF => ?_
    refine s_val hF (x_assign rfl) (by decide) fun a hF => ?_
    refine s_end (hK8 _ _ ?_)
    refine wp_if hF rfl ?_
    refine wp_rs fun K9 hK9 => ?_
    refine s_val hF (x_eql (b := true) (decide_eq_true (by omega)) rfl rfl) (by decide) fun a hF => ?_
    refine s_val hF (x_assign rfl) (by decide) fun a hF => ?_
    refine s_end (hK9 _ _ ?_)
    refine wp_if hF rfl ?_
    refine wp_region_lit ?_
    refine s_val hF (x_move rfl) (by decide) fun a hF => ?_
    refine s_val hF (x_fa0 fa27_3 rfl) (by decide) fun a hF => ?_
    refine s_val hF (x_load rfl (m_loadP (vs := [_, _, _]) wide24 m4 rfl)) (by decide) fun a hF => ?_
    refine s_litG [lv xl] el22 hF (by decide) rfl (by simp [Value.cells, lc]) rfl (by decide) (by decide) fun w18 bl a ebl ml B19 zbl hF => ?_
    have sB19 := B19.size
    have hK := hK.below B19
    have m4 := m4.old B19
    have m6 := m6.old B19
    have m7 := m7.old B19
    have hR := hR.below B19
    have ml : Blk w18 bl 24 (lc xl) := by simpa [Value.cells] using ml
    have hbl1 := ml.lt
    have hrl : RVn w18 (fun k => A k ∨ k = bl) (.slice (some ⟨bl, 0, none⟩) 1 1) [l] := ⟨[xl], ⟨by simpa using Rd.blk ml (n := 1) rfl, fun _ b hb => by simp [Value.ownBlock] at hb; exact .inr hb.symm⟩, rfl, fun i x l2 e1 e2 => by rcases i with _ | i; (· simp at e1 e2; subst e1 e2; exact RLn.mono (fun k hk => .inl hk) (hxl.keep hK.size (fun k hk hb => hK.block k hb (hA2 k hk)))); simp at e1⟩
    refine s_call (R := fun u w' => ((∃ ls', RVn w' (fun k => (A k ∨ k = bl) ∨ w18.heap.size ≤ k) u ls' ∧ ls'.map slO = [l].map slO) ∧ Room w' br) ∧ Ktw br br w18 w') hF [_, _] (enters_of Try.func113 (by kernel_rfl) rfl) rfl (by decide) (levels130 w18 br (by omega) (fun k => A k ∨ k = bl) (fun k hk => by rcases hk with hk | rfl; (· have := hA k hk; omega); omega) [l] _ hrl hR) ?_
    rintro v25 w20 a ⟨⟨⟨ls2, hv25, he25⟩, hR⟩, k21⟩ hF
    have sk21 := k21.size
    have hK := hK.trans k21 (by omega)
    have m4 := m4.k2 k21 (by omega)
    have m6 := m6.k2 k21 (by omega)
    have m7 := m7.k2 k21 (by omega)
    have ml := ml.k2 k21 (by omega)
    obtain ⟨l2, rfl⟩ : ∃ l2, ls2 = [l2] := List.length_eq_one_iff.1 (by simpa using congrArg List.length he25)
    obtain ⟨b9, off9, c9, z, l3, hve, hyk, hz, hAb, hbl, hrow⟩ := hv25.row (i := 0) (by simp)
    subst hve
    simp only [List.length_singleton] at hF
    simp at hyk
    subst hyk
    simp at he25
    have hz : RLx w20 (fun k => (A k ∧ k < W.heap.size ∧ k ≠ br) ∨ k = bl ∨ w18.heap.size ≤ k) z l2 := RLx.mono hz (fun k hk => by rcases hk with (hk | hk) | hk; (· exact .inl ⟨hk, (hA k hk).2, (hA k hk).1⟩); (· exact .inr (.inl hk)); exact .inr (.inr hk))
    refine s_val hF (x_ixa rfl rfl (m_ixsK 0 Try.underlying22 el22.size rfl (by omega))) (by decide) fun a hF => ?_
    refine s_val hF (x_ldA wide24 (hrow _ rfl) rfl rfl) (by decide) fun a hF => ?_
    refine s_val hF (x_fa0 fa27_3 rfl) (by decide) fun a hF => ?_
    refine s_putP hF rfl rfl (size_wide wide24) m7 (by first | (simp [tc, lc]; done) | decide) (one_lc hz.rl.one1) fun w22 m7 o23 => ?_
    have so23 := o23.size
    have hK := hK.only o23 (by omega)
    have m4 := m4.only o23 (by omega)
    have m6 := m6.only o23 (by omega)
    have ml := ml.only o23 (by omega)
    have hz := hz.only o23 (fun k (hk : (A k ∧ k < W.heap.size ∧ k ≠ br) ∨ k = bl ∨ w18.heap.size ≤ k) => by omega)
    have hR := hR.only o23 (by omega)
    refine s_end (hK3 _ _ ?_)
    have h1Y := ((show RE w22 (fun k => A k ∨ W.heap.size ≤ k) _ _ from RE_sort (RLn.mono (fun k hk => by rcases hk with hk | hk | hk; (· exact .inl hk.1); (· exact .inr (by omega)); exact .inr (by omega)) hz) he25 ((hV.keep hK.size (fun k hk hb => hK.block k hb (hA2 k hk))).mono (fun k hk => .inl hk)))).one
    refine wp_rs fun K10 hK10 => ?_
    refine s_val hF (x_ldW wide27 m7 rfl rfl) (by decide) fun a hF => ?_
    refine s_putW hF rfl rfl (size_wide wide27) m6 rfl h1Y fun w26 m6 o27 => ?_
    have so27 := o27.size
    have hK := hK.only o27 (by omega)
    have m4 := m4.only o27 (by omega)
    have m7 := m7.only o27 (by omega)
    have ml := ml.only o27 (by omega)
    have hz := hz.only o27 (fun k (hk : (A k ∧ k < W.heap.size ∧ k ≠ br) ∨ k = bl ∨ w18.heap.size ≤ k) => by omega)
    have hR := hR.only o27 (by omega)
    refine s_end (hK10 _ _ ?_)
    refine wp_ret (res_cell hF rfl rfl m6 wide27 ⟨_, rfl, ⟨⟨_, rfl, RE_sort (RLn.mono (fun k hk => by rcases hk with hk | hk | hk; (· exact .inl hk.1); (· exact .inr (by omega)); exact .inr (by omega)) hz) he25 ((hV.keep hK.size (fun k hk hb => hK.block k hb (hA2 k hk))).mono (fun k hk => .inl hk)), rfl⟩, hR⟩, hK⟩)
  · obtain ⟨s9, ls, m9, rfl⟩ := hx.cst_of hk9
    obtain rfl : ps = [] := List.eq_nil_of_length_eq_zero hl
    have hs9 : xs = s9 := hx.2.1
    have hxls : RVn W A xls ls := hx.2.2.1
    subst hk9 hs9
    refine wp_rs fun K11 hK11 => ?_
    refine s_val hF (x_eql (b := false) (decide_eq_false (by omega)) rfl rfl) (by decide) fun a hF => ?_
    refine s_val hF (x_assign rfl) (by decide) fun a hF => ?_
    refine s_end (hK11 _ _ ?_)
    refine wp_if hF rfl ?_
    refine wp_rs fun K12 hK12 => ?_
    refine s_val hF (x_eql (b := false) (decide_eq_false (by omega)) rfl rfl) (by decide) fun a hF => ?_
    refine s_val hF (x_assign rfl) (by decide) fun a hF => ?_
    refine s_end (hK12 _ _ ?_)
    refine wp_if hF rfl ?_
    refine wp_rs fun K13 hK13 => ?_
    refine s_val hF (x_eql (b := true) (decide_eq_true (by omega)) rfl rfl) (by decide) fun a hF => ?_
    refine s_val hF (x_assign rfl) (by decide) fun a hF => ?_
    refine s_end (hK13 _ _ ?_)
    refine wp_if hF rfl ?_
    refine dk2_one (br) (b7) (ops := regOps Try.f73 8) (N := 10) (by kernel_rfl) wide_orders (by kernel_rfl) fun w28 hw28 B29 hS K14 hK14 => ?_
    have zw28 : w28.heap.size = w10.heap.size := by rw [hw28]
    have sB29 := B29.size
    have hK := hK.below B29
    have m4 := m4.old B29
    have m6 := m6.old B29
    have m7 := m7.old B29
    have hR := hR.below B29
    have hR_d := hR
    have m4_d := m4
    have m6_d := m6
    have m7_d := m7
    have hK_d := hK
    refine d_val 0 31 (op := (Go.Op.fieldAddr 27 (Go.Operand.tmp 4) 2)) hF hS (by kernel_rfl) (fun W hW => x_fa0 fa27_2 rfl) (by kernel_rfl) (by decide) fun a hF => ?_
    refine d_val 1 32 (op := (Go.Op.load 9 (Go.Operand.tmp 31))) hF hS (by kernel_rfl) (fun W hW => x_load rfl (m_load flat9 ((m4_d.k2 hW (by omega)).cell (j := 2) rfl))) (by kernel_rfl) (by decide) fun a hF => ?_
    refine d_val 2 33 (op := (Go.Op.move (Go.Operand.tmp 0))) hF hS (by kernel_rfl) (fun W hW => x_move rfl) (by kernel_rfl) (by decide) fun a hF => ?_
    refine d_val 3 34 (op := (Go.Op.fieldAddr 27 (Go.Operand.tmp 4) 4)) hF hS (by kernel_rfl) (fun W hW => x_fa0 fa27_4 rfl) (by kernel_rfl) (by decide) fun a hF => ?_
    refine d_val 4 35 (op := (Go.Op.load 22 (Go.Operand.tmp 34))) hF hS (by kernel_rfl) (fun W hW => x_load rfl (m_load flat22 ((m4_d.k2 hW (by omega)).cell (j := 6) rfl))) (by kernel_rfl) (by decide) fun a hF => ?_
    refine d_val 6 37 (op := (Go.Op.fieldAddr 27 (Go.Operand.tmp 7) 2)) hF hS (by kernel_rfl) (fun W hW => x_fa0 fa27_2 rfl) (by kernel_rfl) (by decide) fun a hF => ?_
    refine d_one 5 (some 36) (Go.Op.call (Go.Call.mk (Go.Callee.value (Go.Operand.func 113)) #[(Go.Operand.tmp 33), (Go.Operand.tmp 35)] #[61, 22])) (by kernel_rfl) (by kernel_rfl) fun ty pos af => ?_
    refine s_call (R := fun u w' => ((∃ ls', RVn w' (fun k => A k ∨ w28.heap.size ≤ k) u ls' ∧ ls'.map slO = ls.map slO) ∧ Room w' br) ∧ Ktw br br w28 w') hF [_, _] (enters_of Try.func113 (by kernel_rfl) rfl) rfl (by decide) (levels130 w28 br (by omega) A (fun k hk => ⟨(hA k hk).1, by have := (hA k hk).2; omega⟩) ls _ (hxls.k2 hK hA2) hR) ?_
    rintro v36 w30 a ⟨⟨⟨ls2, hv36, he36⟩, hR⟩, k31⟩ hF
    have sk31 := k31.size
    have hK := hK.trans k31 (by omega)
    have m4 := m4.k2 k31 (by omega)
    have m6 := m6.k2 k31 (by omega)
    have m7 := m7.k2 k31 (by omega)
    have hS := hS.trans k31 (by omega)
    have hv36 : RVn w30 (fun k => (A k ∧ k < W.heap.size ∧ k ≠ br) ∨ w28.heap.size ≤ k) v36 ls2 := hv36.mono (fun k hk => by rcases hk with hk | hk; (· exact .inl ⟨hk, (hA k hk).2, (hA k hk).1⟩); exact .inr hk)
    have h1v := hv36.one
    refine s_end ⟨hS, ?_⟩
    refine d_one 7 none (Go.Op.store 9 (Go.Operand.tmp 37) (Go.Operand.tmp 32)) (by kernel_rfl) (by kernel_rfl) fun ty pos af => ?_
    refine s_put hF rfl rfl flat9 m7 (by first | (simp; done) | (simp [tc, lc]; done) | decide) rfl fun w32 m7 o33 => ?_
    have so33 := o33.size
    have hK := hK.only o33 (by omega)
    have m4 := m4.only o33 (by omega)
    have m6 := m6.only o33 (by omega)
    have hv36 := hv36.only o33 (fun k (hk : (A k ∧ k < W.heap.size ∧ k ≠ br) ∨ w28.heap.size ≤ k) => by omega)
    have hS := hS.only o33 (by omega)
    have hR := hR.only o33 (by omega)
    refine s_end ⟨hS, ?_⟩
    refine d_val 8 38 (op := (Go.Op.fieldAddr 27 (Go.Operand.tmp 7) 4)) hF hS (by kernel_rfl) (fun W hW => x_fa0 fa27_4 rfl) (by kernel_rfl) (by decide) fun a hF => ?_
    refine d_one 9 none (Go.Op.store 22 (Go.Operand.tmp 38) (Go.Operand.tmp 36)) (by kernel_rfl) (by kernel_rfl) fun ty pos af => ?_
    refine s_put hF rfl rfl flat22 m7 (by first | (simp; done) | (simp [tc, lc]; done) | decide) h1v fun w34 m7 o35 => ?_
    have so35 := o35.size
    have hK := hK.only o35 (by omega)
    have m4 := m4.only o35 (by omega)
    have m6 := m6.only o35 (by omega)
    have hv36 := hv36.only o35 (fun k (hk : (A k ∧ k < W.heap.size ∧ k ≠ br) ∨ w28.heap.size ≤ k) => by omega)
    have hS := hS.only o35 (by omega)
    have hR := hR.only o35 (by omega)
    refine s_end ⟨hS, ?_⟩
    refine d_end (by kernel_rfl) (hK14 _ _ ?_)
    refine hK3 _ _ ?_
    have h1Y := ((show RE w34 (fun k => A k ∨ W.heap.size ≤ k) _ _ from RE_cst (s := xs) (hv36.mono (fun k hk => by rcases hk with hk | hk; (· exact .inl hk.1); exact .inr (by omega))) he36 ((hV.keep hK.size (fun k hk hb => hK.block k hb (hA2 k hk))).mono (fun k hk => .inl hk)))).one
    refine wp_rs fun K15 hK15 => ?_
    refine s_val hF (x_ldW wide27 m7 rfl rfl) (by decide) fun a hF => ?_
    refine s_putW hF rfl rfl (size_wide wide27) m6 rfl h1Y fun w38 m6 o39 => ?_
    have so39 := o39.size
    have hK := hK.only o39 (by omega)
    have m4 := m4.only o39 (by omega)
    have m7 := m7.only o39 (by omega)
    have hv36 := hv36.only o39 (fun k (hk : (A k ∧ k < W.heap.size ∧ k ≠ br) ∨ w28.heap.size ≤ k) => by omega)
    have hR := hR.only o39 (by omega)
    refine s_end (hK15 _ _ ?_)
    refine wp_ret (res_cell hF rfl rfl m6 wide27 ⟨_, rfl, ⟨⟨_, rfl, RE_cst (s := xs) (hv36.mono (fun k hk => by rcases hk with hk | hk; (· exact .inl hk.1); exact .inr (by omega))) he36 ((hV.keep hK.size (fun k hk hb => hK.block k hb (hA2 k hk))).mono (fun k hk => .inl hk)), rfl⟩, hR⟩, hK⟩)
  · skip
    refine wp_rs fun K16 hK16 => ?_
    refine s_val hF (x_eql (b := false) (decide_eq_false (by omega)) rfl rfl) (by decide) fun a hF => ?_
    refine s_val hF (x_assign rfl) (by decide) fun a hF => ?_
    refine s_end (hK16 _ _ ?_)
    refine wp_if hF rfl ?_
    refine wp_rs fun K17 hK17 => ?_
    refine s_val hF (x_eql (b := false) (decide_eq_false (by omega)) rfl rfl) (by decide) fun a hF => ?_
    refine s_val hF (x_assign rfl) (by decide) fun a hF => ?_
    refine s_end (hK17 _ _ ?_)
    refine wp_if hF rfl ?_
    refine wp_rs fun K18 hK18 => ?_
    refine s_val hF (x_eql (b := false) (decide_eq_false (by omega)) rfl rfl) (by decide) fun a hF => ?_
    refine s_val hF (x_assign rfl) (by decide) fun a hF => ?_
    refine s_end (hK18 _ _ ?_)
    refine wp_if hF rfl ?_
    refine wp_skip (hK3 _ _ ?_)
    have h1Y := ((show RE w10 (fun k => A k ∨ W.heap.size ≤ k) _ _ from RE_rest hx hk9 ((hV.keep hK.size (fun k hk hb => hK.block k hb (hA2 k hk))).mono (fun k hk => .inl hk)) hl)).one
    refine wp_rs fun K19 hK19 => ?_
    refine s_val hF (x_ldW wide27 m7 rfl rfl) (by decide) fun a hF => ?_
    refine s_putW hF rfl rfl (size_wide wide27) m6 rfl h1Y fun w42 m6 o43 => ?_
    have so43 := o43.size
    have hK := hK.only o43 (by omega)
    have m4 := m4.only o43 (by omega)
    have m7 := m7.only o43 (by omega)
    have hR := hR.only o43 (by omega)
    refine s_end (hK19 _ _ ?_)
    refine wp_ret (res_cell hF rfl rfl m6 wide27 ⟨_, rfl, ⟨⟨_, rfl, RE_rest hx hk9 ((hV.keep hK.size (fun k hk hb => hK.block k hb (hA2 k hk))).mono (fun k hk => .inl hk)) hl, rfl⟩, hR⟩, hK⟩)
end Go.Proofs.Ytaclncmkdpjnlaa
