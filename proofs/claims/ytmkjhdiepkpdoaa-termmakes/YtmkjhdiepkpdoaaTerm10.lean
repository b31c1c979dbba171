/- Copies of levels of whatever form. -/
import Derived.Test.YtmkjhdiepkpdoaaTerm5
namespace Go.Proofs.Ytmkjhdiepkpdoaa
set_option maxRecDepth 100000
set_option maxHeartbeats 1600000
open Go.RowKit Go.Shelf
set_option linter.unusedVariables false
set_option linter.unusedSimpArgs false
section
variable {P : Program} {ops : Array Oper} {n d : Nat} {l : List (Nat × Value)} {w : World} {a : Act} {Q : Exit → Act → World → Prop} {rest : List Oper} {ty : TypeId} {pos : String} {af : Array Edge} {x y : Operand} {t e k kb base m o : Nat} {v : Value} {xs ys : List Value}
theorem s_appL {ds : List Deferred} {bu : Nat} (hE : Elem P t e k kb) (F : Fs n a l (ds := ds)) (hd : d < n) (hx : ov l x = some v) (hy : ov l y = some (.slice (some ⟨bu, 0, none⟩) 1 1)) (hO : w.ownsRow base e k v m xs) (hU : Blk w bu e ys) (hl : ys.length = k) (h1 : ∀ u ∈ ys, u.oneCell' = true) (hat : ∀ j, v.ownBlock = some j → j = o) (ho : o < w.heap.size) (hm : m ≤ 100000000) (hkb : kb ≤ 1000) (hb : base ≤ w.heap.size)
    (h : ∀ v' w' a' o', w'.ownsRow base e k v' (m + 1) (xs ++ ys) → (∀ j, v'.ownBlock = some j → j = o') → ((o' = o ∨ w.heap.size ≤ o') ∧ o' < w'.heap.size) → (∀ j, v'.ownBlock = some j → v.ownBlock = some j ∨ w.heap.size ≤ j) → Ktw o o w w' → (∀ j, j < w.heap.size → v.ownBlock ≠ some j → w'.heap[j]? = w.heap[j]?) → Fs n a' ((d, v') :: l) (ds := ds) → wpList P ops Q rest a' w') :
    wpList P ops Q (⟨some d, .call { callee := .builtin .append, args := #[x, y], argTypes := #[t, t] }, ty, pos, af, none⟩ :: rest) a w := by
  have hR : Rd w (.slice (some ⟨bu, 0, none⟩) 1 1) k 1 ys := Rd.blk hU (by omega)
  refine s_appG hE F hd hx hy hO hR h1 ?_ (by simp only [maxLen]; omega) hb fun v' w' a' hO' hg hw F' => ?_
  · have : (m + 1) * kb ≤ 100000001 * 1000 := Nat.mul_le_mul (by omega) hkb
    omega
  · have hK : Ktw o o w w' := ⟨hg.os, hg.tape, hg.output, hg.size, fun j hj hne => hg.block j hj (fun e => by have := hat j e.symm; omega)⟩
    have hkeep : ∀ j, j < w.heap.size → v.ownBlock ≠ some j → w'.heap[j]? = w.heap[j]? := fun j hj hne => hg.block j hj (fun e => hne e.symm)
    cases hv : v'.ownBlock with
    | none => exact h v' w' a' o hO' (fun j hj => by rw [hv] at hj; cases hj) ⟨.inl rfl, Nat.lt_of_lt_of_le ho hg.size⟩ hw hK hkeep F'
    | some q =>
      refine h v' w' a' q hO' (fun j hj => by rw [hv] at hj; exact (Option.some.inj hj).symm) ⟨?_, (hO'.lt q hv).2⟩ hw hK hkeep F'
      rcases hw q hv with h1 | h1
      · exact .inl (hat q h1)
      · exact .inr h1
end
mutual
def Lv.sz : Lv → Nat
 | .mk _ _ ls => Lv.szs ls + 1
def Lv.szs : List Lv → Nat
 | [] => 0
 | l :: ls => l.sz + Lv.szs ls
end
theorem szs_app : ∀ (xs ys : List Lv), Lv.szs (xs ++ ys) = Lv.szs xs + Lv.szs ys
 | [], ys => by simp [Lv.szs]
 | x :: xs, ys => by simp [Lv.szs, szs_app xs ys]; omega
theorem szs_take {ls : List Lv} {i : Nat} {p : Lv} (h : ls[i]? = some p) : Lv.szs (ls.take (i + 1)) = Lv.szs (ls.take i) + p.sz := by
 rw [take_snoc h, szs_app]; simp [Lv.szs]
theorem szs_le (ls : List Lv) (i : Nat) : Lv.szs (ls.take i) ≤ Lv.szs ls := by
 have := szs_app (ls.take i) (ls.drop i)
 rw [List.take_append_drop] at this
 omega
theorem Lv.sz_pos : ∀ l : Lv, 1 ≤ l.sz
 | .mk _ _ _ => by simp [Lv.sz]
theorem szs_len : ∀ ls : List Lv, ls.length ≤ Lv.szs ls
 | [] => Nat.le_refl _
 | l :: ls => by have := szs_len ls; have := l.sz_pos; simp [Lv.szs]; omega
theorem cpys_map : ∀ ls : List Lv, cpys ls = ls.map cpy
 | [] => rfl
 | l :: ls => by simp [cpys, cpys_map ls]
/-- Levels of whatever form, one behind the other. -/
def QL (W : World) (A : Nat → Prop) (zs : List C3) (ps : List Lv) : Prop := zs.length = ps.length ∧ ∀ (j : Nat) z p, zs[j]? = some z → ps[j]? = some p → RLn W A z p
section
variable {W W' : World} {A B : Nat → Prop} {zs : List C3} {ps : List Lv}
theorem QL.nil : QL W A [] [] := ⟨rfl, fun j z p h => by simp at h⟩
theorem QL.mono (h : QL W A zs ps) (hm : ∀ k, A k → B k) : QL W B zs ps := ⟨h.1, fun j z p h1 h2 => (h.2 j z p h1 h2).mono hm⟩
theorem QL.valid (h : QL W A zs ps) : QL W (fun k => A k ∧ k < W.heap.size) zs ps := ⟨h.1, fun j z p h1 h2 => (h.2 j z p h1 h2).valid⟩
theorem QL.keep (h : QL W A zs ps) (hs : W.heap.size ≤ W'.heap.size) (hk : ∀ k, A k → k < W.heap.size → W'.heap[k]? = W.heap[k]?) : QL W' A zs ps := ⟨h.1, fun j z p h1 h2 => RLn.keep hs hk (h.2 j z p h1 h2)⟩
theorem QL.below (h : QL W A zs ps) (hB : Below W.heap.size W W') : QL W' A zs ps := h.keep hB.size fun k _ hk => hB.block k hk
theorem QL.only {c : Nat} (h : QL W A zs ps) (o : Only c W W') (hc : ∀ k, A k → k ≠ c) : QL W' A zs ps := h.keep (Nat.le_of_eq o.size.symm) fun k ha _ => o.block k (hc k ha)
theorem QL.k2 {a b : Nat} (h : QL W A zs ps) (hK : Ktw a b W W') (hc : ∀ k, A k → k ≠ a ∧ k ≠ b) : QL W' A zs ps := h.keep hK.size fun k ha hk => hK.block k hk (hc k ha)
theorem QL.snoc {z : C3} {p : Lv} (h : QL W A zs ps) (hz : RLn W A z p) : QL W A (zs ++ [z]) (ps ++ [p]) := by
 refine ⟨by simp [h.1], fun j y q e1 e2 => ?_⟩
 rcases Nat.lt_trichotomy j zs.length with hj | hj | hj
 ·
  rw [List.getElem?_append_left hj] at e1
  rw [List.getElem?_append_left (by have := h.1; omega)] at e2
  exact h.2 j y q e1 e2
 ·
  subst hj
  rw [List.getElem?_append_right (Nat.le_refl _)] at e1
  rw [h.1, List.getElem?_append_right (Nat.le_refl _)] at e2
  simp at e1 e2
  subst e1 e2
  exact hz
 ·
  rw [List.getElem?_eq_none (by simp; omega)] at e1
  cases e1
end
/-- RLn, by another name. -/
def RLx (W : World) (A : Nat → Prop) (x : C3) (l : Lv) : Prop := RLn W A x l
section
variable {W W' : World} {A B : Nat → Prop} {x : C3} {l : Lv}
theorem RLx.below (h : RLx W A x l) (hB : Below W.heap.size W W') : RLx W' A x l := RLn.keep hB.size (fun k _ hk => hB.block k hk) h
theorem RLx.only {c : Nat} (h : RLx W A x l) (o : Only c W W') (hc : ∀ k, A k → k ≠ c) : RLx W' A x l := RLn.keep (Nat.le_of_eq o.size.symm) (fun k ha _ => o.block k (hc k ha)) h
theorem RLx.k2 {a b : Nat} (h : RLx W A x l) (hK : Ktw a b W W') (hc : ∀ k, A k → k ≠ a ∧ k ≠ b) : RLx W' A x l := RLn.keep hK.size (fun k ha hk => hK.block k hk (hc k ha)) h
theorem RLx.mono (h : RLx W A x l) (hm : ∀ k, A k → B k) : RLx W B x l := RLn.mono hm h
theorem RLx.valid (h : RLx W A x l) : RLx W (fun k => A k ∧ k < W.heap.size) x l := RLn.valid h
theorem RLx.rl (h : RLx W A x l) : RL W x l := RLn.rl h
theorem RL_b {W W' : World} {x : C3} {l : Lv} (hB : Below W.heap.size W W') (h : RL W x l) : RL W' x l := h.old hB
end
theorem fitsL154 (w0 : World) (g : Nat) (hg : w0.heap.size ≤ g) : ∀ (N : Nat) (l : Lv) (x : C3), l.sz < N → RL w0 x l → ∀ (d r : Nat) (w1 : World), d ≤ 100000 → r ≤ 100000000 → Below w0.heap.size w0 w1 → Blk w1 g 3 [.int .i64 (r : Int)] →
    Calls Try.prog 170 #[lv x, .int .i64 (d : Int), .pointer (some ⟨g, 0, none⟩)] w1 fun e w' => ∃ u, e = .returned u ∧ (∃ b r', u = .bool b ∧ Blk w' g 3 [.int .i64 ((r' : Nat) : Int)] ∧ (b = true → r' + l.sz = r) ∧ r' ≤ r) ∧ Ktw g g w1 w' := by
  intro N
  induction N with
  | zero => intro s x h; omega
  | succ N ih =>
  rintro l ⟨k, n, v⟩ hN hL d r w1 hd1 hr1 hB mg
  cases hL with
  | @mk _ _ _ xs ls hR hl hk =>
  obtain ⟨av, cv, rfl, _⟩ := hR.form
  have hK := Ktw.refl g g w1
  have sB := hB.size
  have hgl := mg.lt
  have hsz : (Lv.mk k n ls).sz = Lv.szs ls + 1 := rfl
  refine calls_fs 36 [(0, .agg [.int .i64 k, .int .i64 n, .slice av xs.length cv].toArray), (1, .int .i64 (d : Int)), (2, .pointer (some ⟨g, 0, none⟩))] Try.func170 rfl rfl rfl rfl rfl fun a F => ?_
  refine wp_rs fun _ K1 => ?_
  refine s_box ([.int .i64 k, .int .i64 n, .slice av xs.length cv]) F (by decide) rfl rfl fun w2 b3 a eb3 m3 B3 zb3 F => ?_
  have sB3 := B3.size
  have hB := bt hB B3
  have hK := hK.below B3
  have mg := mg.old B3
  refine F.sg rfl fun a F => ?_
  refine s_end (K1 _ _ ?_)
  refine wp_seq_k fun _ K2 => ?_
  rcases (show d = 0 ∨ (d ≠ 0 ∧ r = 0) ∨ (d ≠ 0 ∧ r ≠ 0) by omega) with hk9 | hk9 | hk9
  · skip
    refine wp_rs fun _ K4 => F.mv rfl fun a F => F.vl (eqlT (by omega) rfl rfl) fun a F => F.mv rfl fun a F => s_grdn 11 F rfl rfl (by decide) fun a F => s_grdn 11 F rfl rfl (by decide) fun a F => s_grdn 11 F rfl rfl (by decide) fun a F => s_grdn 11 F rfl rfl (by decide) fun a F => F.vl (x_pick (b := true) rfl rfl) fun a F => ?_
    refine s_end (K4 _ _ ?_)
    refine wp_if F rfl ?_
    refine wp_rs fun _ K5 => F.sg rfl fun a F => ?_
    refine s_end (K5 _ _ ?_)
    refine wp_ret (then_ret (res_slot F rfl rfl ⟨_, rfl, ⟨false, r, rfl, mg, (fun h => by cases h), Nat.le_refl _⟩, hK⟩))
  · skip
    refine wp_rs fun _ K6 => F.mv rfl fun a F => F.vl (eqlF (by omega) rfl rfl) fun a F => F.mv rfl fun a F => s_grd 11 F rfl rfl rfl <| F.mv rfl fun a F => s_grd 11 F rfl rfl rfl <| F.vl (x_nil rfl) fun a F => s_grd 11 F rfl rfl rfl <| F.ld mg flat3 rfl rfl fun a F => s_grd 11 F rfl rfl rfl <| F.vl (eqlT (by omega) rfl rfl) fun a F => F.vl (x_pick (b := false) rfl rfl) fun a F => ?_
    refine s_end (K6 _ _ ?_)
    refine wp_if F rfl ?_
    refine wp_rs fun _ K7 => F.sg rfl fun a F => ?_
    refine s_end (K7 _ _ ?_)
    refine wp_ret (then_ret (res_slot F rfl rfl ⟨_, rfl, ⟨false, r, rfl, mg, (fun h => by cases h), Nat.le_refl _⟩, hK⟩))
  · skip
    refine wp_rs fun _ K8 => F.mv rfl fun a F => F.vl (eqlF (by omega) rfl rfl) fun a F => F.mv rfl fun a F => s_grd 11 F rfl rfl rfl <| F.mv rfl fun a F => s_grd 11 F rfl rfl rfl <| F.vl (x_nil rfl) fun a F => s_grd 11 F rfl rfl rfl <| F.ld mg flat3 rfl rfl fun a F => s_grd 11 F rfl rfl rfl <| F.vl (eqlF (by omega) rfl rfl) fun a F => F.vl (x_pick (b := false) rfl rfl) fun a F => ?_
    refine s_end (K8 _ _ ?_)
    refine wp_if F rfl ?_
    refine wp_skip (K2 _ _ ?_)
    refine wp_rs fun _ K9 => F.mv rfl fun a F => F.vl (x_nil rfl) fun a F => F.ld mg flat3 rfl rfl fun a F => F.vl (x_subn (r - 1) (by omega) (by omega) rfl rfl) fun a F => F.vl (x_nil rfl) fun a F => ?_
    refine s_put F rfl rfl flat3 mg (by first | (simp; done) | (simp [tc, lc]; done) | decide) rfl fun w4 mg o5 => ?_
    have so5 := o5.size
    have hB := hB.trans (o5.below (by omega))
    have hK := hK.only o5 (by omega)
    have m3 := m3.only o5 (by omega)
    refine s_end (K9 _ _ ?_)
    refine wp_seq_k fun _ K10 => ?_
    refine wp_rs fun _ K11 => F.vl (x_fa0 fa24_2 rfl) fun a F => F.ld m3 flat22 rfl rfl fun a F => F.vl (x_len Try.underlying22 rfl) fun a F => F.mv rfl fun a F => ?_
    refine s_end (K11 _ _ ?_)
    refine wp_block ?_
    refine wp_up xs.length (fun i a w => ∃ r2 : Nat, Blk w g 3 [.int .i64 (r2 : Int)] ∧ r2 + Lv.szs (ls.take i) + 1 = r ∧ Below w0.heap.size w0 w ∧ Ktw g g w1 w ∧ Fs 36 a [(25, .int .i64 (i : Int)), (24, .int .i64 (xs.length : Int)), (23, .slice av xs.length cv), (1, .int .i64 (d : Int)), (2, .pointer (some ⟨g, 0, none⟩))]) ⟨r - 1, mg, by simp [Lv.szs]; omega, hB, hK, F.sub _ rfl⟩ ?_
    repeat clear F
    clear hB hK mg
    rintro i a w hi ⟨r2, mg, hr2, hB, hK, F⟩ K' hK'
    have sB := hB.size
    have sK := hK.size
    have hgl := mg.lt
    have hsl := szs_le ls i
    have hli := szs_len (ls.take i)
    rw [List.length_take] at hli
    refine wp_rs fun _ K12 => F.vl (x_lss rfl rfl rfl) fun a F => ?_
    refine s_end (K12 _ _ ?_)
    refine wp_seq_k fun _ K13 => ?_
    refine wp_iff F rfl (fun hc26 => ?_) (fun hc26 => ?_)
    · obtain ⟨b, off, c, y, hve, hy, hrow⟩ := rd_row3 hR (i := i) (by omega)
      cases hve
      obtain ⟨p, hp⟩ : ∃ p, ls[i]? = some p := ⟨_, List.getElem?_eq_getElem (by omega)⟩
      have hst := szs_take hp
      have hsl1 := szs_le ls (i + 1)
      have h1y := (hk i y p hy hp).one1
      refine wp_skip (K13 _ _ ?_)
      refine wp_seq_k fun _ K14 => ?_
      refine wp_block ?_
      refine wp_rs fun _ K15 => F.vl (x_ixa rfl rfl (m_ixsK i Try.underlying22 el22.size rfl (by omega))) fun a F => F.vl (x_ldA wide24 (hrow _ hB) rfl rfl) fun a F => ?_
      refine s_alloc F (by decide) zero24 fun w6 b8 a eb8 m8 B7 zb8 F => ?_
      have sB7 := B7.size
      have hB := bt hB B7
      have hK := hK.below B7
      have mg := mg.old B7
      refine s_putW F rfl rfl (size_wide wide24) m8 rfl (one_lc h1y) fun w10 m8 o11 => ?_
      have so11 := o11.size
      have hB := hB.trans (o11.below (by omega))
      have hK := hK.only o11 (by omega)
      have mg := mg.only o11 (by omega)
      refine s_end (K15 _ _ ?_)
      refine wp_rs fun _ K16 => F.vl (x_ldW wide24 m8 rfl rfl) fun a F => F.mv rfl fun a F => F.vl (x_subn (d - 1) (by omega) (by omega) rfl rfl) fun a F => F.mv rfl fun a F => ?_
      refine s_call (R := fun u w' => (∃ b r', u = .bool b ∧ Blk w' g 3 [.int .i64 ((r' : Nat) : Int)] ∧ (b = true → r' + p.sz = r2) ∧ r' ≤ r2) ∧ Ktw g g w10 w') F [_, _, _] E170 rfl (by decide) (ih p y (by omega) (hk i y p hy hp) (d - 1) r2 w10 (by omega) (by omega) hB mg) ?_
      rintro _ w12 a ⟨⟨b33, r3, rfl, mg, h33, h33r⟩, k13⟩ F
      have sk13 := k13.size
      have hB := k13.under hB (by omega)
      have hK := hK.trans k13 (by omega)
      refine F.vl (x_not rfl) fun a F => ?_
      refine s_end (K16 _ _ ?_)
      refine wp_ifb F rfl (fun hc34 => ?_) (fun hc34 => ?_)
      · refine wp_rs fun _ K17 => ?_
        refine F.sg rfl fun a F => ?_
        refine s_end (K17 _ _ ?_)
        refine wp_ret (inb_ret (then_ret (then_ret (inb_ret (then_ret (res_slot F rfl rfl ⟨_, rfl, ⟨false, r3, rfl, mg, (fun h => by cases h), by omega⟩, hK⟩))))))
      · obtain rfl : b33 = true := by simpa using hc34
        have h34 := h33 rfl
        refine wp_skip (K14 _ _ ?_)
        refine wp_region_lit ?_
        refine F.vl (x_addn (i + 1) (by omega) (by omega) rfl rfl) fun a F => F.mv rfl fun a F => ?_
        refine s_end (hK' _ _ (by omega) ⟨r3, mg, by omega, hB, hK, F.sub _ rfl⟩)
    · have hall : ls.take i = ls := List.take_of_length_le (by omega)
      rw [hall] at hr2
      refine wp_exit (K10 _ _ ?_)
      refine wp_rs fun _ K18 => F.sg rfl fun a F => ?_
      refine s_end (K18 _ _ ?_)
      refine wp_ret (res_slot F rfl rfl ⟨_, rfl, ⟨true, r2, rfl, mg, (fun _ => by omega), by omega⟩, hK⟩)
theorem copiedL155 : ∀ (N : Nat) (l : Lv) (x : C3) (w0 : World), l.sz < N → l.sz ≤ 100000000 → RL w0 x l → Calls Try.prog 171 #[lv x] w0 fun e w' => ∃ u, e = .returned u ∧ (∃ z, u = lv z ∧ RLn w' (fun k => w0.heap.size ≤ k) z (cpy l)) ∧ Below w0.heap.size w0 w' := by
 intro N
 induction N with
 | zero => intro s x w0 h; omega
 | succ N ih =>
 rintro l ⟨k, n, v⟩ w0 hN hsz0 hS
 cases hS with
 | @mk _ _ _ xs ls hR hl hk =>
 obtain ⟨av, cv, rfl, _⟩ := hR.form
 have hsz : (Lv.mk k n ls).sz = Lv.szs ls + 1 := rfl
 have hle := szs_len ls
 have hB := Below.refl w0.heap.size w0
 have sB := hB.size
 refine calls_fs 37 [(0, .agg [.int .i64 k, .int .i64 n, .slice av xs.length cv].toArray)] Try.func171 rfl rfl rfl rfl rfl fun a F => ?_
 refine wp_rs fun _ K1 => ?_
 refine s_box ([.int .i64 k, .int .i64 n, .slice av xs.length cv]) F (by decide) rfl rfl fun w2 b1 a eb1 m1 B3 zb1 F => ?_
 have sB3 := B3.size
 have hB := bt hB B3
 refine s_alloc F (by decide) zero24 fun w4 b2 a eb2 m2 B5 zb2 F => ?_
 have sB5 := B5.size
 have hB := bt hB B5
 have m1 := m1.old B5
 refine s_end (K1 _ _ ?_)
 refine wp_rs fun _ K2 => F.vl (x_fa0 fa24_0 rfl) fun a F => F.ld m1 flat3 rfl rfl fun a F => F.vl (x_build (vs := [(0, _)]) rfl (b24_0 _ _)) fun a F => ?_
 refine s_alloc F (by decide) zero24 fun w6 b3 a eb3 m3 B7 zb3 F => ?_
 have sB7 := B7.size
 have hB := bt hB B7
 have m1 := m1.old B7
 have m2 := m2.old B7
 refine s_putW F rfl rfl (size_wide wide24) m3 rfl (one3 rfl) fun w10 m3 o11 => ?_
 have so11 := o11.size
 have hB := hB.trans (o11.below (by omega))
 have m1 := m1.only o11 (by omega)
 have m2 := m2.only o11 (by omega)
 refine s_end (K2 _ _ ?_)
 refine wp_seq_k fun K3 hK3 => ?_
 have key3 : ∀ (a : Act) (w9 : World) (n9 : Int), cpy (.mk k n ls) = .mk k n9 (ls.map cpy) → Blk w9 b1 24 [.int .i64 k, .int .i64 n, .slice av xs.length cv] → Blk w9 b2 24 [.int .i64 0, .int .i64 0, .slice none 0 0] → Blk w9 b3 24 [.int .i64 k, .int .i64 n9, .slice none 0 0] → Below w0.heap.size w0 w9 → Fs 37 a [(1, .pointer (some ⟨b1, 0, none⟩)), (2, .pointer (some ⟨b2, 0, none⟩)), (3, .pointer (some ⟨b3, 0, none⟩))] → K3 a w9 := by
  have hb123 : b1 < b2 ∧ b2 < b3 ∧ w0.heap.size ≤ b1 := ⟨by omega, by omega, by omega⟩
  repeat clear F
  clear hB m1 m2 m3
  rintro a w9 n9 hcp m1 m2 m3 hB F
  have sB := hB.size
  have hm1l := m1.lt
  have hm2l := m2.lt
  have hm3l := m3.lt
  refine hK3 _ _ ?_
  refine wp_seq_k fun _ K4 => ?_
  refine wp_rs fun _ K5 => F.vl (x_fa0 fa24_2 rfl) fun a F => F.ld m1 flat22 rfl rfl fun a F => F.vl (x_len Try.underlying22 rfl) fun a F => F.mv rfl fun a F => ?_
  refine s_end (K5 _ _ ?_)
  refine wp_block ?_
  refine wp_up xs.length (fun i a w => ∃ v' o' zs, w.ownsRow w0.heap.size 24 3 v' zs.length (zs.flatMap lc) ∧ (∀ j, v'.ownBlock = some j → j = o') ∧ v'.ownBlock ≠ some b3 ∧ v'.ownBlock ≠ some b2 ∧ (w0.heap.size ≤ o' ∧ o' < w.heap.size ∧ (o' = b3 ∨ b3 < o')) ∧ QL w (fun k => w0.heap.size ≤ k ∧ k ≠ b2 ∧ k ≠ b3 ∧ k ≠ o' ∧ k < w.heap.size) zs ((ls.map cpy).take i) ∧ Blk w b3 24 [.int .i64 k, .int .i64 n9, v'] ∧ Blk w b2 24 [.int .i64 0, .int .i64 0, .slice none 0 0] ∧ Below w0.heap.size w0 w ∧ Fs 37 a [(24, .int .i64 (i : Int)), (23, .int .i64 (xs.length : Int)), (22, .slice av xs.length cv), (2, .pointer (some ⟨b2, 0, none⟩)), (3, .pointer (some ⟨b3, 0, none⟩))]) ⟨_, b3, [], World.ownsRow_nil _ _ _ _, (fun j h => by cases h), (fun h => by cases h), (fun h => by cases h), by have := m3.lt; omega, by rw [List.take_zero]; exact QL.nil, m3, m2, hB, F.sub _ rfl⟩ ?_
  have hbb : w0.heap.size ≤ b2 ∧ b2 < b3 := ⟨by omega, by omega⟩
  repeat clear F
  clear hB m2 m3
  rintro i a w hi ⟨vv, o2, zs, hO, hat, hne, hne2, hlo, hP, mg, m2, hB, F⟩ K' hK'
  have sB := hB.size
  have hgl := mg.lt
  obtain ⟨top, htop⟩ : ∃ h, h = w.heap.size := ⟨_, rfl⟩
  rw [← htop] at hP
  have hPl := hP.1
  rw [List.length_take, List.length_map] at hPl
  have h1vv := (Rd.own hO).one
  refine wp_rs fun _ K6 => F.vl (x_lss rfl rfl rfl) fun a F => ?_
  refine s_end (K6 _ _ ?_)
  refine wp_seq_k fun _ K7 => ?_
  refine wp_iff F rfl (fun hc25 => ?_) (fun hc25 => ?_)
  ·
   obtain ⟨b, off, c, y, hve, hy, hrow⟩ := rd_row3 hR (i := i) (by omega)
   cases hve
   obtain ⟨p, hp⟩ : ∃ p, ls[i]? = some p := ⟨_, List.getElem?_eq_getElem (by omega)⟩
   have hps := szs_take hp
   have hsl1 := szs_le ls (i + 1)
   have hty := hk i y p hy hp
   have h1y := hty.one1
   refine wp_skip (K7 _ _ ?_)
   refine wp_seq_k fun _ K8 => ?_
   refine wp_block ?_
   refine wp_rs fun _ K9 => F.vl (x_ixa rfl rfl (m_ixsK i Try.underlying22 el22.size rfl (by omega))) fun a F => F.vl (x_ldA wide24 (hrow _ hB) rfl rfl) fun a F => ?_
   refine s_alloc F (by decide) zero24 fun w12 b5 a eb5 m5 B13 zb5 F => ?_
   have sB13 := B13.size
   have hB := bt hB B13
   have m2 := m2.old B13
   have mg := mg.old B13
   have hO := own_below hO B13
   have hP := hP.below B13
   refine s_putW F rfl rfl (size_wide wide24) m5 rfl (one_lc h1y) fun w16 m5 o17 => ?_
   have so17 := o17.size
   have hB := hB.trans (o17.below (by omega))
   have m2 := m2.only o17 (by omega)
   have mg := mg.only o17 (by omega)
   have hO := own_only hO o17 (fun e => by have := hat _ e; omega)
   have hP := hP.only o17 (fun k (hk : w0.heap.size ≤ k ∧ k ≠ b2 ∧ k ≠ b3 ∧ k ≠ o2 ∧ k < top) => by omega)
   refine s_end (K9 _ _ ?_)
   refine dk2_one (b3) (o2) (ops := regOps Try.f171 12) (N := 8) (by kernel_rfl) wide_orders (by kernel_rfl) fun w18 hw18 B19 hS K10 K10 => ?_
   have zw18 : w18.heap.size = w16.heap.size := by rw [hw18]
   have sB19 := B19.size
   have hB := bt hB B19
   have m2 := m2.old B19
   have mg := mg.old B19
   have hO := own_below hO B19
   have hP := hP.below B19
   have m5 := m5.old B19
   have m2_d := m2
   have mg_d := mg
   have hO_d := hO
   have hP_d := hP
   have m5_d := m5
   have hB_d := hB
   refine F.dv 0 28 (.fieldAddr 24 (.tmp 3) 2) hS (fun W hW => x_fa0 fa24_2 rfl) fun a F => F.dv 2 30 (.load 24 (.tmp 5)) hS (fun W hW => x_ldW wide24 (m5_d.k2 hW (by omega)) rfl rfl) fun a F => ?_
   refine d_two 1 3 (by kernel_rfl) ?_ ?_
   ·
    refine d_op 1 (some 29) (.load 22 (.tmp 28)) (by kernel_rfl) fun ty pos af => ?_
    refine F.ld mg flat22 rfl rfl fun a F => ?_
    refine s_end ⟨hS, ?_⟩
    refine d1 3 (some 31) (.call (.mk (.value (.func 171)) #[(.tmp 30)] #[24])) fun ty pos af => ?_
    refine s_callR (R := fun u w' => ∃ z, u = lv z ∧ RLx w' (fun k => w18.heap.size ≤ k) z (cpy p)) [_] F E171 rfl (by decide) (ih p y w18 (by omega) (by omega) (RL_b hB hty)) ?_
    rintro _ w20 a ⟨z, rfl, hz0⟩ B21 F
    have sB21 := B21.size
    have hB := bt hB B21
    have m2 := m2.old B21
    have mg := mg.old B21
    have hO := own_below hO B21
    have hP := hP.below B21
    have hS := hS.below B21
    have hz := hz0.valid
    clear hz0
    have h1z := hz.rl.one1
    refine s_end ⟨hS, ?_⟩
    refine d1 4 (some 32) (.buildSlice 22 1 #[(0, (.tmp 31))]) fun ty pos af => ?_
    refine s_litG [lv z] el22 F (by decide) rfl (by simp [Value.cells, lc]) rfl (by decide) (by decide) fun w22 bl a ebl ml B23 zbl F => ?_
    have sB23 := B23.size
    have hB := bt hB B23
    have m2 := m2.old B23
    have mg := mg.old B23
    have hO := own_below hO B23
    have hP := hP.below B23
    have hz := hz.below B23
    have hS := hS.below B23
    have ml : Blk w22 bl 24 (lc z) := by simpa [Value.cells] using ml
    refine s_end ⟨hS, ?_⟩
    refine d1 5 (some 33) (.call (.mk (.builtin .append) #[(.tmp 29), (.tmp 32)] #[22, 22])) fun ty pos af => ?_
    refine s_appL (o := o2) el22 F (by decide) rfl rfl hO ml rfl (one_lc h1z) hat (by omega) (by omega) (by decide) (by omega) fun v3 w24 a o3 hOn hOatn how hsrc k25 hkeep F => ?_
    have sk25 := k25.size
    have hB := k25.under hB (by omega)
    have m2 : Blk w24 b2 _ _ := (hkeep _ m2.lt hne2).trans m2
    have mg : Blk w24 b3 _ _ := (hkeep _ mg.lt hne).trans mg
    have hP := hP.k2 k25 (fun k (hk : w0.heap.size ≤ k ∧ k ≠ b2 ∧ k ≠ b3 ∧ k ≠ o2 ∧ k < top) => by omega)
    have hz := hz.k2 k25 (fun k (hk : w18.heap.size ≤ k ∧ k < w20.heap.size) => by omega)
    have hS := hS.trans k25 (by omega)
    have hO := hOn
    have hO_at := hOatn
    have hneg : v3.ownBlock ≠ some b3 := fun h => by rcases hsrc b3 h with h | h; exact hne h; omega
    have hneg2 : v3.ownBlock ≠ some b2 := fun h => by rcases hsrc b2 h with h | h; exact hne2 h; omega
    refine s_end ⟨hS, ?_⟩
    refine F.dv 6 34 (.fieldAddr 24 (.tmp 3) 2) hS (fun W hW => x_fa0 fa24_2 rfl) fun a F => ?_
    refine d1 7 none (.store 22 (.tmp 34) (.tmp 33)) fun ty pos af => ?_
    refine s_put F rfl rfl flat22 mg (by first | (simp; done) | (simp [tc, lc]; done) | decide) (Rd.own hO).one fun w26 mg o27 => ?_
    have so27 := o27.size
    have hB := hB.trans (o27.below (by omega))
    have m2 := m2.only o27 (by omega)
    have hO := own_only hO o27 (hneg)
    have hP := hP.only o27 (fun k (hk : w0.heap.size ≤ k ∧ k ≠ b2 ∧ k ≠ b3 ∧ k ≠ o2 ∧ k < top) => by omega)
    have hz := hz.only o27 (fun k (hk : w18.heap.size ≤ k ∧ k < w20.heap.size) => by omega)
    have hS := hS.only o27 (by omega)
    refine s_end ⟨hS, ?_⟩
    refine d_end (by kernel_rfl) (K10 _ _ ?_)
    refine K8 _ _ ?_
    refine wp_region_lit ?_
    refine F.vl (x_addn (i + 1) (by omega) (by omega) rfl rfl) fun a F => F.mv rfl fun a F => ?_
    have hL2 : (ls.map cpy).take (i + 1) = (ls.map cpy).take i ++ [cpy p] := take_snoc (by rw [List.getElem?_map, hp]; rfl)
    refine s_end (hK' _ _ (by omega) ⟨v3, o3, zs ++ [z], by rw [fm3_app]; simpa using hO, hO_at, hneg, hneg2, by omega, by rw [hL2]; exact (hP.mono (fun k (hk : w0.heap.size ≤ k ∧ k ≠ b2 ∧ k ≠ b3 ∧ k ≠ o2 ∧ k < top) => (by omega : _ ∧ _ ∧ _ ∧ _ ∧ _))).snoc (hz.mono (fun k (hk : w18.heap.size ≤ k ∧ k < w20.heap.size) => (by omega : _ ∧ _ ∧ _ ∧ _ ∧ _))), mg, m2, hB, F.sub _ rfl⟩)
   ·
    refine d_op 3 (some 31) (.call (.mk (.value (.func 171)) #[(.tmp 30)] #[24])) (by kernel_rfl) fun ty pos af => ?_
    refine s_callR (R := fun u w' => ∃ z, u = lv z ∧ RLx w' (fun k => w18.heap.size ≤ k) z (cpy p)) [_] F E171 rfl (by decide) (ih p y w18 (by omega) (by omega) (RL_b hB hty)) ?_
    rintro _ w28 a ⟨z, rfl, hz0⟩ B29 F
    have sB29 := B29.size
    have hB := bt hB B29
    have m2 := m2.old B29
    have mg := mg.old B29
    have hO := own_below hO B29
    have hP := hP.below B29
    have hS := hS.below B29
    have hz := hz0.valid
    clear hz0
    have h1z := hz.rl.one1
    refine s_end ⟨hS, ?_⟩
    refine d_two 1 4 (by kernel_rfl) ?_ ?_
    ·
     refine d_op 1 (some 29) (.load 22 (.tmp 28)) (by kernel_rfl) fun ty pos af => ?_
     refine F.ld mg flat22 rfl rfl fun a F => ?_
     refine s_end ⟨hS, ?_⟩
     refine d1 4 (some 32) (.buildSlice 22 1 #[(0, (.tmp 31))]) fun ty pos af => ?_
     refine s_litG [lv z] el22 F (by decide) rfl (by simp [Value.cells, lc]) rfl (by decide) (by decide) fun w30 bl a ebl ml B31 zbl F => ?_
     have sB31 := B31.size
     have hB := bt hB B31
     have m2 := m2.old B31
     have mg := mg.old B31
     have hO := own_below hO B31
     have hP := hP.below B31
     have hz := hz.below B31
     have hS := hS.below B31
     have ml : Blk w30 bl 24 (lc z) := by simpa [Value.cells] using ml
     refine s_end ⟨hS, ?_⟩
     refine d1 5 (some 33) (.call (.mk (.builtin .append) #[(.tmp 29), (.tmp 32)] #[22, 22])) fun ty pos af => ?_
     refine s_appL (o := o2) el22 F (by decide) rfl rfl hO ml rfl (one_lc h1z) hat (by omega) (by omega) (by decide) (by omega) fun v3 w32 a o3 hOn hOatn how hsrc k33 hkeep F => ?_
     have sk33 := k33.size
     have hB := k33.under hB (by omega)
     have m2 : Blk w32 b2 _ _ := (hkeep _ m2.lt hne2).trans m2
     have mg : Blk w32 b3 _ _ := (hkeep _ mg.lt hne).trans mg
     have hP := hP.k2 k33 (fun k (hk : w0.heap.size ≤ k ∧ k ≠ b2 ∧ k ≠ b3 ∧ k ≠ o2 ∧ k < top) => by omega)
     have hz := hz.k2 k33 (fun k (hk : w18.heap.size ≤ k ∧ k < w28.heap.size) => by omega)
     have hS := hS.trans k33 (by omega)
     have hO := hOn
     have hO_at := hOatn
     have hneg : v3.ownBlock ≠ some b3 := fun h => by rcases hsrc b3 h with h | h; exact hne h; omega
     have hneg2 : v3.ownBlock ≠ some b2 := fun h => by rcases hsrc b2 h with h | h; exact hne2 h; omega
     refine s_end ⟨hS, ?_⟩
     refine F.dv 6 34 (.fieldAddr 24 (.tmp 3) 2) hS (fun W hW => x_fa0 fa24_2 rfl) fun a F => ?_
     refine d1 7 none (.store 22 (.tmp 34) (.tmp 33)) fun ty pos af => ?_
     refine s_put F rfl rfl flat22 mg (by first | (simp; done) | (simp [tc, lc]; done) | decide) (Rd.own hO).one fun w34 mg o35 => ?_
     have so35 := o35.size
     have hB := hB.trans (o35.below (by omega))
     have m2 := m2.only o35 (by omega)
     have hO := own_only hO o35 (hneg)
     have hP := hP.only o35 (fun k (hk : w0.heap.size ≤ k ∧ k ≠ b2 ∧ k ≠ b3 ∧ k ≠ o2 ∧ k < top) => by omega)
     have hz := hz.only o35 (fun k (hk : w18.heap.size ≤ k ∧ k < w28.heap.size) => by omega)
     have hS := hS.only o35 (by omega)
     refine s_end ⟨hS, ?_⟩
     refine d_end (by kernel_rfl) (K10 _ _ ?_)
     refine K8 _ _ ?_
     refine wp_region_lit ?_
     refine F.vl (x_addn (i + 1) (by omega) (by omega) rfl rfl) fun a F => F.mv rfl fun a F => ?_
     have hL2 : (ls.map cpy).take (i + 1) = (ls.map cpy).take i ++ [cpy p] := take_snoc (by rw [List.getElem?_map, hp]; rfl)
     refine s_end (hK' _ _ (by omega) ⟨v3, o3, zs ++ [z], by rw [fm3_app]; simpa using hO, hO_at, hneg, hneg2, by omega, by rw [hL2]; exact (hP.mono (fun k (hk : w0.heap.size ≤ k ∧ k ≠ b2 ∧ k ≠ b3 ∧ k ≠ o2 ∧ k < top) => (by omega : _ ∧ _ ∧ _ ∧ _ ∧ _))).snoc (hz.mono (fun k (hk : w18.heap.size ≤ k ∧ k < w28.heap.size) => (by omega : _ ∧ _ ∧ _ ∧ _ ∧ _))), mg, m2, hB, F.sub _ rfl⟩)
    ·
     refine d_op 4 (some 32) (.buildSlice 22 1 #[(0, (.tmp 31))]) (by kernel_rfl) fun ty pos af => ?_
     refine s_litG [lv z] el22 F (by decide) rfl (by simp [Value.cells, lc]) rfl (by decide) (by decide) fun w36 bl a ebl ml B37 zbl F => ?_
     have sB37 := B37.size
     have hB := bt hB B37
     have m2 := m2.old B37
     have mg := mg.old B37
     have hO := own_below hO B37
     have hP := hP.below B37
     have hz := hz.below B37
     have hS := hS.below B37
     have ml : Blk w36 bl 24 (lc z) := by simpa [Value.cells] using ml
     refine s_end ⟨hS, ?_⟩
     refine d1 1 (some 29) (.load 22 (.tmp 28)) fun ty pos af => ?_
     refine F.ld mg flat22 rfl rfl fun a F => ?_
     refine s_end ⟨hS, ?_⟩
     refine d1 5 (some 33) (.call (.mk (.builtin .append) #[(.tmp 29), (.tmp 32)] #[22, 22])) fun ty pos af => ?_
     refine s_appL (o := o2) el22 F (by decide) rfl rfl hO ml rfl (one_lc h1z) hat (by omega) (by omega) (by decide) (by omega) fun v3 w38 a o3 hOn hOatn how hsrc k39 hkeep F => ?_
     have sk39 := k39.size
     have hB := k39.under hB (by omega)
     have m2 : Blk w38 b2 _ _ := (hkeep _ m2.lt hne2).trans m2
     have mg : Blk w38 b3 _ _ := (hkeep _ mg.lt hne).trans mg
     have hP := hP.k2 k39 (fun k (hk : w0.heap.size ≤ k ∧ k ≠ b2 ∧ k ≠ b3 ∧ k ≠ o2 ∧ k < top) => by omega)
     have hz := hz.k2 k39 (fun k (hk : w18.heap.size ≤ k ∧ k < w28.heap.size) => by omega)
     have hS := hS.trans k39 (by omega)
     have hO := hOn
     have hO_at := hOatn
     have hneg : v3.ownBlock ≠ some b3 := fun h => by rcases hsrc b3 h with h | h; exact hne h; omega
     have hneg2 : v3.ownBlock ≠ some b2 := fun h => by rcases hsrc b2 h with h | h; exact hne2 h; omega
     refine s_end ⟨hS, ?_⟩
     refine F.dv 6 34 (.fieldAddr 24 (.tmp 3) 2) hS (fun W hW => x_fa0 fa24_2 rfl) fun a F => ?_
     refine d1 7 none (.store 22 (.tmp 34) (.tmp 33)) fun ty pos af => ?_
     refine s_put F rfl rfl flat22 mg (by first | (simp; done) | (simp [tc, lc]; done) | decide) (Rd.own hO).one fun w40 mg o41 => ?_
     have so41 := o41.size
     have hB := hB.trans (o41.below (by omega))
     have m2 := m2.only o41 (by omega)
     have hO := own_only hO o41 (hneg)
     have hP := hP.only o41 (fun k (hk : w0.heap.size ≤ k ∧ k ≠ b2 ∧ k ≠ b3 ∧ k ≠ o2 ∧ k < top) => by omega)
     have hz := hz.only o41 (fun k (hk : w18.heap.size ≤ k ∧ k < w28.heap.size) => by omega)
     have hS := hS.only o41 (by omega)
     refine s_end ⟨hS, ?_⟩
     refine d_end (by kernel_rfl) (K10 _ _ ?_)
     refine K8 _ _ ?_
     refine wp_region_lit ?_
     refine F.vl (x_addn (i + 1) (by omega) (by omega) rfl rfl) fun a F => F.mv rfl fun a F => ?_
     have hL2 : (ls.map cpy).take (i + 1) = (ls.map cpy).take i ++ [cpy p] := take_snoc (by rw [List.getElem?_map, hp]; rfl)
     refine s_end (hK' _ _ (by omega) ⟨v3, o3, zs ++ [z], by rw [fm3_app]; simpa using hO, hO_at, hneg, hneg2, by omega, by rw [hL2]; exact (hP.mono (fun k (hk : w0.heap.size ≤ k ∧ k ≠ b2 ∧ k ≠ b3 ∧ k ≠ o2 ∧ k < top) => (by omega : _ ∧ _ ∧ _ ∧ _ ∧ _))).snoc (hz.mono (fun k (hk : w18.heap.size ≤ k ∧ k < w28.heap.size) => (by omega : _ ∧ _ ∧ _ ∧ _ ∧ _))), mg, m2, hB, F.sub _ rfl⟩)
  ·
   refine wp_exit (K4 _ _ ?_)
   refine wp_rs fun _ K11 => F.vl (x_ldW wide24 mg rfl rfl) fun a F => ?_
   refine s_putW F rfl rfl (size_wide wide24) m2 rfl (one3 h1vv) fun w44 m2 o45 => ?_
   have so45 := o45.size
   have hB := hB.trans (o45.below (by omega))
   have hO := own_only hO o45 (hne2)
   have hP := hP.only o45 (fun k (hk : w0.heap.size ≤ k ∧ k ≠ b2 ∧ k ≠ b3 ∧ k ≠ o2 ∧ k < top) => by omega)
   refine s_end (K11 _ _ ?_)
   have hall : (ls.map cpy).take i = ls.map cpy := List.take_of_length_le (by rw [List.length_map]; omega)
   rw [hall] at hP
   refine wp_ret (res_cell F rfl rfl m2 wide24 ⟨_, rfl, ⟨(k, n9, vv), rfl, by rw [hcp]; exact .mk ⟨Rd.own hO, fun _ j h => (hO.lt j h).1⟩ hP.1 ((hP.mono (B := fun k => w0.heap.size ≤ k) (fun k (hk : w0.heap.size ≤ k ∧ k ≠ b2 ∧ k ≠ b3 ∧ k ≠ o2 ∧ k < top) => (by omega : _ ≤ _))).2) (by rw [List.length_map]; omega)⟩, hB⟩)
 refine wp_rs fun _ K12 => F.vl (x_fa0 fa24_0 rfl) fun a F => F.ld m1 flat3 rfl rfl fun a F => ?_
 refine s_end (K12 _ _ ?_)
 refine wp_block ?_
 refine wp_seq_k fun _ K13 => ?_
 rcases (show k = 1 ∨ k = 2 ∨ k = 3 ∨ k = 4 ∨ (k ≠ 1 ∧ k ≠ 2 ∧ k ≠ 3 ∧ k ≠ 4) by omega) with hk1 | hk1 | hk1 | hk1 | hk1
 ·
  have hcp : cpy (.mk k n ls) = .mk k n (ls.map cpy) := by simp [cpy, hk1, cpys_map]
  refine wp_rs fun _ K15 => F.vl (eqlT (by omega) rfl rfl) fun a F => F.sg rfl fun a F => ?_
  refine s_end (K15 _ _ ?_)
  refine wp_if F rfl ?_
  refine wp_skip (K13 _ _ ?_)
  refine wp_if F rfl ?_
  refine wp_region_lit ?_
  refine F.vl (x_fa0 fa24_1 rfl) fun a F => F.ld m1 flat3 rfl rfl fun a F => F.vl (x_fa0 fa24_1 rfl) fun a F => ?_
  refine s_put F rfl rfl flat3 m3 (by first | (simp; done) | (simp [tc, lc]; done) | decide) rfl fun w46 m3 o47 => ?_
  have so47 := o47.size
  have hB := hB.trans (o47.below (by omega))
  have m1 := m1.only o47 (by omega)
  have m2 := m2.only o47 (by omega)
  refine s_end ?_
  exact key3 _ _ _ hcp m1 m2 m3 hB (F.sub _ rfl)
 ·
  have hcp : cpy (.mk k n ls) = .mk k n (ls.map cpy) := by simp [cpy, hk1, cpys_map]
  refine wp_rs fun _ K16 => F.vl (eqlF (by omega) rfl rfl) fun a F => F.sg rfl fun a F => ?_
  refine s_end (K16 _ _ ?_)
  refine wp_if F rfl ?_
  refine wp_rs fun _ K17 => F.vl (eqlT (by omega) rfl rfl) fun a F => F.sg rfl fun a F => ?_
  refine s_end (K17 _ _ ?_)
  refine wp_if F rfl ?_
  refine wp_skip (K13 _ _ ?_)
  refine wp_if F rfl ?_
  refine wp_region_lit ?_
  refine F.vl (x_fa0 fa24_1 rfl) fun a F => F.ld m1 flat3 rfl rfl fun a F => F.vl (x_fa0 fa24_1 rfl) fun a F => ?_
  refine s_put F rfl rfl flat3 m3 (by first | (simp; done) | (simp [tc, lc]; done) | decide) rfl fun w48 m3 o49 => ?_
  have so49 := o49.size
  have hB := hB.trans (o49.below (by omega))
  have m1 := m1.only o49 (by omega)
  have m2 := m2.only o49 (by omega)
  refine s_end ?_
  exact key3 _ _ _ hcp m1 m2 m3 hB (F.sub _ rfl)
 ·
  have hcp : cpy (.mk k n ls) = .mk k n (ls.map cpy) := by simp [cpy, hk1, cpys_map]
  refine wp_rs fun _ K18 => F.vl (eqlF (by omega) rfl rfl) fun a F => F.sg rfl fun a F => ?_
  refine s_end (K18 _ _ ?_)
  refine wp_if F rfl ?_
  refine wp_rs fun _ K19 => F.vl (eqlF (by omega) rfl rfl) fun a F => F.sg rfl fun a F => ?_
  refine s_end (K19 _ _ ?_)
  refine wp_if F rfl ?_
  refine wp_region_lit ?_
  refine F.vl (eqlT (by omega) rfl rfl) fun a F => F.sg rfl fun a F => ?_
  refine s_end (K13 _ _ ?_)
  refine wp_if F rfl ?_
  refine wp_region_lit ?_
  refine F.vl (x_fa0 fa24_1 rfl) fun a F => F.ld m1 flat3 rfl rfl fun a F => F.vl (x_fa0 fa24_1 rfl) fun a F => ?_
  refine s_put F rfl rfl flat3 m3 (by first | (simp; done) | (simp [tc, lc]; done) | decide) rfl fun w50 m3 o51 => ?_
  have so51 := o51.size
  have hB := hB.trans (o51.below (by omega))
  have m1 := m1.only o51 (by omega)
  have m2 := m2.only o51 (by omega)
  refine s_end ?_
  exact key3 _ _ _ hcp m1 m2 m3 hB (F.sub _ rfl)
 ·
  have hcp : cpy (.mk k n ls) = .mk k 0 (ls.map cpy) := by simp [cpy, hk1, cpys_map]
  refine wp_rs fun _ K20 => F.vl (eqlF (by omega) rfl rfl) fun a F => F.sg rfl fun a F => ?_
  refine s_end (K20 _ _ ?_)
  refine wp_if F rfl ?_
  refine wp_rs fun _ K21 => F.vl (eqlF (by omega) rfl rfl) fun a F => F.sg rfl fun a F => ?_
  refine s_end (K21 _ _ ?_)
  refine wp_if F rfl ?_
  refine wp_region_lit ?_
  refine F.vl (eqlF (by omega) rfl rfl) fun a F => F.sg rfl fun a F => ?_
  refine s_end (K13 _ _ ?_)
  refine wp_if F rfl ?_
  refine wp_rs fun _ K22 => F.vl (eqlT (by omega) rfl rfl) fun a F => F.sg rfl fun a F => ?_
  refine s_end (K22 _ _ ?_)
  refine wp_if F rfl ?_
  refine wp_skip ?_
  exact key3 _ _ _ hcp m1 m2 m3 hB (F.sub _ rfl)
 ·
  have hcp : cpy (.mk k n ls) = .mk k 0 [] := by simp [cpy, hk1, cpys_map]
  refine wp_rs fun _ K23 => F.vl (eqlF (by omega) rfl rfl) fun a F => F.sg rfl fun a F => ?_
  refine s_end (K23 _ _ ?_)
  refine wp_if F rfl ?_
  refine wp_rs fun _ K24 => F.vl (eqlF (by omega) rfl rfl) fun a F => F.sg rfl fun a F => ?_
  refine s_end (K24 _ _ ?_)
  refine wp_if F rfl ?_
  refine wp_region_lit ?_
  refine F.vl (eqlF (by omega) rfl rfl) fun a F => F.sg rfl fun a F => ?_
  refine s_end (K13 _ _ ?_)
  refine wp_if F rfl ?_
  refine wp_rs fun _ K25 => F.vl (eqlF (by omega) rfl rfl) fun a F => F.sg rfl fun a F => ?_
  refine s_end (K25 _ _ ?_)
  refine wp_if F rfl ?_
  refine wp_rs fun _ K26 => F.vl (x_ldW wide24 m3 rfl rfl) fun a F => ?_
  refine s_putW F rfl rfl (size_wide wide24) m2 rfl (one3 rfl) fun w54 m2 o55 => ?_
  have so55 := o55.size
  have hB := hB.trans (o55.below (by omega))
  refine s_end (K26 _ _ ?_)
  refine wp_ret (inb_ret (then_ret (res_cell F rfl rfl m2 wide24 ⟨_, rfl, ⟨(k, 0, .slice none 0 0), rfl, by rw [hcp]; exact .mk (xs := []) (Rn.nil _ _ 3) rfl (fun i x l h => by simp at h)⟩, hB⟩)))
/-- A level as it was, or a copy of it. -/
def isCp (l l' : Lv) : Prop := l' = l ∨ l' = cpy l
theorem isCp.slO {W : World} {x : C3} {l l' : Lv} (h : isCp l l') (hL : RL W x l) : slO l' = slO l := by
 rcases h with rfl | rfl
 ·
  rfl
 ·
  exact slO_cpy hL
theorem ownL153 (w0 : World) (A : Nat → Prop) (hA : ∀ k, A k → k < w0.heap.size) (l : Lv) (x : C3) (hL : RLn w0 A x l) : Calls Try.prog 161 #[lv x] w0 fun e w' => ∃ u, e = .returned u ∧ (∃ z l', u = lv z ∧ RLn w' (fun k => A k ∨ w0.heap.size ≤ k) z l' ∧ isCp l l') ∧ Below w0.heap.size w0 w' := by
 have hB := Below.refl w0.heap.size w0
 have sB := hB.size
 refine calls_fs 10 [(0, lv x)] Try.func161 rfl rfl rfl rfl rfl fun a F => ?_
 refine wp_rs fun _ K1 => ?_
 refine s_box (lc x) F (by decide) rfl rfl fun w2 b1 a eb1 m1 B3 zb1 F => ?_
 have sB3 := B3.size
 have hB := bt hB B3
 refine s_alloc F (by decide) zero24 fun w4 b2 a eb2 m2 B5 zb2 F => ?_
 have sB5 := B5.size
 have hB := bt hB B5
 have m1 := m1.old B5
 refine s_end (K1 _ _ ?_)
 refine wp_rs fun _ K2 => ?_
 refine s_alloc1 F (by decide) zero3 rfl fun w6 b3 a eb3 m3 B7 zb3 F => ?_
 have sB7 := B7.size
 have hB := bt hB B7
 have m1 := m1.old B7
 have m2 := m2.old B7
 refine s_put F rfl rfl flat3 m3 (by first | (simp; done) | (simp [tc, lc]; done) | decide) rfl fun w8 m3 o9 => ?_
 have so9 := o9.size
 have hB := hB.trans (o9.below (by omega))
 have m1 := m1.only o9 (by omega)
 have m2 := m2.only o9 (by omega)
 refine s_end (K2 _ _ ?_)
 refine wp_seq_k fun K3 hK3 => ?_
 refine wp_rs fun _ K4 => F.vl (x_ldW wide24 m1 rfl rfl) fun a F => ?_
 refine s_call (R := fun u w' => (∃ b r', u = .bool b ∧ Blk w' b3 3 [.int .i64 ((r' : Nat) : Int)] ∧ (b = true → r' + l.sz = 53687091) ∧ r' ≤ 53687091) ∧ Ktw b3 b3 w8 w') F [_, _, _] E170 rfl (by decide) (fitsL154 w0 b3 (by omega) (l.sz + 1) l x (by omega) hL.rl 65536 53687091 w8 (by omega) (by omega) hB m3) ?_
 rintro _ w10 a ⟨⟨b5, r5, rfl, m3, h5, h5r⟩, k11⟩ F
 have sk11 := k11.size
 have hB := k11.under hB (by omega)
 have m1 := m1.k2 k11 (by omega)
 have m2 := m2.k2 k11 (by omega)
 refine F.vl (x_not rfl) fun a F => ?_
 refine s_end (K4 _ _ ?_)
 refine wp_ifb F rfl (fun hc6 => ?_) (fun hc6 => ?_)
 ·
  refine wp_rs fun _ K5 => F.vl (x_ldW wide24 m1 rfl rfl) fun a F => ?_
  refine s_putW F rfl rfl (size_wide wide24) m2 rfl (one_lc hL.rl.one1) fun w14 m2 o15 => ?_
  have so15 := o15.size
  have hB := hB.trans (o15.below (by omega))
  refine s_end (K5 _ _ ?_)
  refine wp_ret (then_ret (res_cell F rfl rfl m2 wide24 ⟨_, rfl, ⟨x, l, rfl, (hL.keep hB.size (fun k hk _ => hB.block k (hA k hk))).mono (fun k hk => .inl hk), .inl rfl⟩, hB⟩))
 ·
  obtain rfl : b5 = true := by simpa using hc6
  have h6 := h5 rfl
  refine wp_skip (hK3 _ _ ?_)
  refine wp_rs fun _ K6 => F.vl (x_ldW wide24 m1 rfl rfl) fun a F => ?_
  refine s_callR (R := fun u w' => ∃ z, u = lv z ∧ RLx w' (fun k => w10.heap.size ≤ k) z (cpy l)) [_] F E171 rfl (by decide) (copiedL155 (l.sz + 1) l x w10 (by omega) (by omega) (RL_b hB hL.rl)) ?_
  rintro _ w16 a ⟨z, rfl, hz⟩ B17 F
  have sB17 := B17.size
  have hB := bt hB B17
  have m2 := m2.old B17
  have h1z := hz.rl.one1
  refine s_putW F rfl rfl (size_wide wide24) m2 rfl (one_lc h1z) fun w20 m2 o21 => ?_
  have so21 := o21.size
  have hB := hB.trans (o21.below (by omega))
  have hz := hz.only o21 (fun k (hk : w10.heap.size ≤ k) => by omega)
  refine s_end (K6 _ _ ?_)
  refine wp_ret (res_cell F rfl rfl m2 wide24 ⟨_, rfl, ⟨z, _, rfl, hz.mono (fun k (hk : w10.heap.size ≤ k) => .inr (by omega : _ ≤ _)), .inr rfl⟩, hB⟩)
theorem plusL145 (w0 : World) (A : Nat → Prop) (hA : ∀ k, A k → k < w0.heap.size) (l : Lv) (x : C3) (hL : RLn w0 A x l) : Calls Try.prog 139 #[.int .i64 0, lv x] w0 fun e w' => ∃ u, e = .returned u ∧ (∃ z l', u = lv z ∧ RLn w' (fun k => A k ∨ w0.heap.size ≤ k) z l' ∧ isCp l l') ∧ Below w0.heap.size w0 w' := by
 have hB := Below.refl w0.heap.size w0
 have sB := hB.size
 refine calls_fs 22 [(0, .int .i64 0), (1, lv x)] Try.func139 rfl rfl rfl rfl rfl fun a F => ?_
 refine wp_rs fun _ K1 => ?_
 refine s_box (lc x) F (by decide) rfl rfl fun w2 b3 a eb3 m3 B3 zb3 F => ?_
 have sB3 := B3.size
 have hB := bt hB B3
 refine s_alloc F (by decide) zero24 fun w4 b4 a eb4 m4 B5 zb4 F => ?_
 have sB5 := B5.size
 have hB := bt hB B5
 have m3 := m3.old B5
 refine s_end (K1 _ _ ?_)
 refine wp_rs fun _ K2 => F.vl (x_ldW wide24 m3 rfl rfl) fun a F => ?_
 refine s_callR (R := fun u w' => ∃ z l', u = lv z ∧ RLx w' (fun k => A k ∨ w4.heap.size ≤ k) z l' ∧ isCp l l') [_] F E161 rfl (by decide) (ownL153 w4 A (fun k hk => by have := hA k hk; omega) l x (hL.keep hB.size (fun k hk _ => hB.block k (hA k hk)))) ?_
 rintro _ w6 a ⟨z, l2, rfl, hz, hcp⟩ B7 F
 have sB7 := B7.size
 have hB := bt hB B7
 have m3 := m3.old B7
 have m4 := m4.old B7
 have hz : RLx w6 (fun k => k < w0.heap.size ∧ A k ∨ w4.heap.size ≤ k) z l2 := hz.mono (fun k hk => hk.elim (fun h => .inl ⟨hA k h, h⟩) .inr)
 have h1z := hz.rl.one1
 refine s_putW F rfl rfl (size_wide wide24) m3 rfl (one_lc h1z) fun w10 m3 o11 => ?_
 have so11 := o11.size
 have hB := hB.trans (o11.below (by omega))
 have m4 := m4.only o11 (by omega)
 have hz := hz.only o11 (fun k (hk : k < w0.heap.size ∧ A k ∨ w4.heap.size ≤ k) => by omega)
 refine s_end (K2 _ _ ?_)
 refine wp_seq_k fun K3 hK3 => ?_
 refine wp_rs fun _ K4 => F.mv rfl fun a F => F.vl (lssT (by omega) rfl rfl) fun a F => ?_
 refine s_end (K4 _ _ ?_)
 refine wp_if F rfl ?_
 refine wp_rs fun _ K5 => F.vl (x_ldW wide24 m3 rfl rfl) fun a F => ?_
 refine s_putW F rfl rfl (size_wide wide24) m4 rfl (one_lc h1z) fun w14 m4 o15 => ?_
 have so15 := o15.size
 have hB := hB.trans (o15.below (by omega))
 have hz := hz.only o15 (fun k (hk : k < w0.heap.size ∧ A k ∨ w4.heap.size ≤ k) => by omega)
 refine s_end (K5 _ _ ?_)
 refine wp_ret (then_ret (res_cell F rfl rfl m4 wide24 ⟨_, rfl, ⟨z, l2, rfl, hz.mono (fun k hk => hk.elim (fun h => .inl h.2) (fun h => .inr (by omega))), hcp⟩, hB⟩))
end Go.Proofs.Ytmkjhdiepkpdoaa

namespace Go.Proofs.Ytmkjhdiepkpdoaa
set_option maxRecDepth 100000
set_option maxHeartbeats 1600000
open Go.RowKit Go.Shelf
set_option linter.unusedVariables false
set_option linter.unusedSimpArgs false
section
variable {P : Program} {n : Nat} {l : List (Nat × Value)} {w : World}
theorem x_quon {t t' : TypeId} {x y : Operand} {p q : Int} (r : Int) (h0 : 0 < q) (hp : 0 ≤ p) (hp2 : p < 9223372036854775808) (h1 : p / q = r) (hx : ov l x = some (.int .i64 p)) (hy : ov l y = some (.int .i64 q)) : Runs P n l w (.binOp .quo t x y t') (.int .i64 r) :=
 x_bin hx hy (b_int fun W => by
  have h2 : p.tdiv q = r := by rw [Int.tdiv_eq_ediv_of_nonneg hp]; exact h1
  have h3 : 0 ≤ r := by rw [← h1]; exact Int.ediv_nonneg hp (by omega)
  have h4 : r ≤ p := by rw [← h1]; exact Int.ediv_le_self _ hp
  simp [binOp, Op.intDiv, show q ≠ 0 by omega, h2, wrap_i64 (by omega : -9223372036854775808 ≤ r) (by omega)])
end
def Lv.kids : Lv → List Lv
 | .mk _ _ ls => ls
theorem Lv.kids_sz : ∀ l : Lv, l.sz = Lv.szs l.kids + 1
 | .mk _ _ _ => rfl
theorem RLn.kids {W : World} {A : Nat → Prop} {x : C3} {l : Lv} (h : RLn W A x l) : RVn W A x.2.2 l.kids := by
 cases h with
 | mk hR hl hk => exact ⟨_, hR, hl, hk⟩
theorem RVn.row {W : World} {A : Nat → Prop} {v : Value} {ls : List Lv} (h : RVn W A v ls) {i : Nat} (hi : i < ls.length) :
    ∃ b off c x y, v = .slice (some ⟨b, off, none⟩) ls.length c ∧ ls[i]? = some y ∧ RLn W A x y ∧ A b ∧ b < W.heap.size ∧ ∀ W' : World, W'.heap[b]? = W.heap[b]? → ∀ j u, (lc x)[j]? = some u → W'.cell? ((⟨b, off + i * 3, none⟩ : Addr).add j) = some u := by
  obtain ⟨xs, h1, h2, h3⟩ := h
  obtain ⟨b, off, c, rfl, hb⟩ := h1.1.some (by omega)
  refine ⟨b, off, c, xs[i]'(by omega), ls[i], by rw [h2], List.getElem?_eq_getElem hi, h3 i _ _ (List.getElem?_eq_getElem (by omega)) (List.getElem?_eq_getElem hi), h1.2 (by omega) b rfl, hb, fun W' hB j u hj => ?_⟩
  rw [addr_addn, Nat.add_assoc]
  exact (World.cell?_of_block (w := W) (a := ⟨b, off + (i * 3 + j), none⟩) hB).trans (h1.1.cell (fm3_get xs i j _ u (List.getElem?_eq_getElem (by omega)) hj))
def sumT (cs : List CT) : Nat := (cs.map CT.size).sum
theorem CT.kids_sum (c : CT) : c.size = sumT c.kids + 1 := by cases c <;> simp [CT.size, sumT, CT.kids]; omega
theorem sumT_get {cs : List CT} {i : Nat} {p : CT} (h : cs[i]? = some p) : p.size ≤ sumT cs := by
 have hm : p ∈ cs := List.mem_of_getElem? h
 clear h
 induction cs with
 | nil => cases hm
 | cons c cs ih =>
  simp only [sumT, List.map_cons, List.sum_cons]
  rcases List.mem_cons.1 hm with rfl | hm'
  ·
   omega
  ·
   have := ih hm'
   simp only [sumT] at this
   omega
theorem szs_get {ls : List Lv} {i : Nat} {p : Lv} (h : ls[i]? = some p) : p.sz ≤ Lv.szs ls := by
 have := szs_take h
 have := szs_le ls (i + 1)
 omega
theorem CT.dep_kids {c : CT} {n : Nat} (h : ∀ k ∈ c.kids, k.dep ≤ n) : c.dep ≤ n + 1 := by
 cases c <;> simp only [CT.kids, List.mem_cons, List.not_mem_nil, or_false, forall_eq_or_imp, forall_eq, CT.dep] at h ⊢ <;> omega
theorem kidsL144 (x : C3) (w0 : World) (h1 : x.2.2.oneCell' = true) : Calls Try.prog 138 #[lv x] w0 fun e w' => e = .returned x.2.2 ∧ Below w0.heap.size w0 w' := by
 have hB := Below.refl w0.heap.size w0
 have sB := hB.size
 refine calls_fs 5 [(0, lv x)] Try.func138 rfl rfl rfl rfl rfl fun a F => ?_
 refine wp_rs fun _ K1 => ?_
 refine s_box (lc x) F (by decide) rfl rfl fun w2 b1 a eb1 m1 B3 zb1 F => ?_
 have sB3 := B3.size
 have hB := bt hB B3
 refine F.sg rfl fun a F => ?_
 refine s_end (K1 _ _ ?_)
 refine wp_rs fun _ K2 => F.vl (x_fa0 fa24_2 rfl) fun a F => F.ld m1 flat22 rfl rfl fun a F => F.sg rfl fun a F => ?_
 refine s_end (K2 _ _ ?_)
 refine wp_ret (res_slot F rfl rfl ⟨rfl, hB⟩)
theorem count152 (w0 : World) (br : Nat) (hbr : br < w0.heap.size) : ∀ (N : Nat) (cs : List Lv) (v : Value), Lv.szs cs < N → RVn w0 (Ai w0.heap.size br) v cs → ∀ (d : Nat) (w1 : World), d ≤ 65536 → Ktw br br w0 w1 → Room w1 br →
    Calls Try.prog 160 #[.pointer (some ⟨br, 0, none⟩), v, .int .i64 40, .int .i64 (d : Int), .func (.func 138) #[] #[]] w1 fun e w' => ∃ u, e = .returned u ∧ ((∃ b, u = .bool b ∧ (b = true → cs.length * 40 ≤ 2147483647)) ∧ Room w' br) ∧ Ktw br br w1 w' := by
  intro N
  induction N with
  | zero => intro cs v h; omega
  | succ N ih =>
  intro cs v hN hV d w1 hd1 hK hR
  obtain ⟨av, cv, rfl, _⟩ := hV.form
  have hQ := Ktw.refl br br w1
  have sK := hK.size
  have sQ := hQ.size
  obtain ⟨r, mr, hr0, hr1⟩ := hR
  refine calls_fs 57 [(0, .pointer (some ⟨br, 0, none⟩)), (1, .slice av cs.length cv), (2, .int .i64 40), (3, .int .i64 (d : Int)), (4, .func (.func 138) #[] #[])] Try.func160 rfl rfl rfl rfl rfl fun a F => ?_
  refine wp_rs fun _ K1 => F.sg rfl fun a F => ?_
  refine s_end (K1 _ _ ?_)
  refine wp_seq_k fun _ K2 => ?_
  rcases (show cs.length = 0 ∨ 0 < cs.length by omega) with hk9 | hk9
  · skip
    refine wp_rs fun _ K4 => F.mv rfl fun a F => F.vl (x_len Try.underlying22 rfl) fun a F => F.vl (eqlT (by omega) rfl rfl) fun a F => ?_
    refine s_end (K4 _ _ ?_)
    refine wp_if F rfl ?_
    refine wp_rs fun _ K5 => F.sg rfl fun a F => ?_
    refine s_end (K5 _ _ ?_)
    refine wp_ret (then_ret (res_slot F rfl rfl ⟨_, rfl, ⟨⟨true, rfl, fun _ => by omega⟩, ⟨r, mr, hr0, hr1⟩⟩, hQ⟩))
  · skip
    refine wp_rs fun _ K6 => F.mv rfl fun a F => F.vl (x_len Try.underlying22 rfl) fun a F => F.vl (eqlF (by omega) rfl rfl) fun a F => ?_
    refine s_end (K6 _ _ ?_)
    refine wp_if F rfl ?_
    refine wp_skip (K2 _ _ ?_)
    refine wp_seq_k fun _ K7 => ?_
    rcases (show d = 0 ∨ (d ≠ 0 ∧ r / 40 < (cs.length : Int)) ∨ (d ≠ 0 ∧ (cs.length : Int) ≤ r / 40) by omega) with hk8 | hk8 | hk8
    · skip
      refine wp_rs fun _ K9 => F.mv rfl fun a F => F.vl (eqlT (by omega) rfl rfl) fun a F => F.mv rfl fun a F => s_grdn 18 F rfl rfl (by decide) fun a F => s_grdn 18 F rfl rfl (by decide) fun a F => s_grdn 18 F rfl rfl (by decide) fun a F => s_grdn 18 F rfl rfl (by decide) fun a F => s_grdn 18 F rfl rfl (by decide) fun a F => s_grdn 18 F rfl rfl (by decide) fun a F => s_grdn 18 F rfl rfl (by decide) fun a F => s_grdn 18 F rfl rfl (by decide) fun a F => s_grdn 18 F rfl rfl (by decide) fun a F => F.vl (x_pick (b := true) rfl rfl) fun a F => ?_
      refine s_end (K9 _ _ ?_)
      refine wp_if F rfl ?_
      refine wp_rs fun _ K10 => F.sg rfl fun a F => ?_
      refine s_end (K10 _ _ ?_)
      refine wp_ret (then_ret (res_slot F rfl rfl ⟨_, rfl, ⟨⟨false, rfl, fun h => by cases h⟩, ⟨r, mr, hr0, hr1⟩⟩, hQ⟩))
    · skip
      refine wp_rs fun _ K11 => F.mv rfl fun a F => F.vl (eqlF (by omega) rfl rfl) fun a F => F.mv rfl fun a F => s_grd 18 F rfl rfl rfl <| F.mv rfl fun a F => s_grd 18 F rfl rfl rfl <| F.vl (x_len Try.underlying22 rfl) fun a F => s_grd 18 F rfl rfl rfl <| F.mv rfl fun a F => s_grd 18 F rfl rfl rfl <| F.vl (x_nil rfl) fun a F => s_grd 18 F rfl rfl rfl <| F.vl (x_fa0 fa110_0 rfl) fun a F => s_grd 18 F rfl rfl rfl <| F.ld mr flat3 rfl rfl fun a F => s_grd 18 F rfl rfl rfl <| F.mv rfl fun a F => s_grd 18 F rfl rfl rfl <| F.vl (x_quon (r / 40) (by decide) hr0 (by omega) rfl rfl rfl) fun a F => s_grd 18 F rfl rfl rfl <| F.vl (gtrT (by omega) rfl rfl) fun a F => F.vl (x_pick (b := false) rfl rfl) fun a F => ?_
      refine s_end (K11 _ _ ?_)
      refine wp_if F rfl ?_
      refine wp_rs fun _ K12 => F.sg rfl fun a F => ?_
      refine s_end (K12 _ _ ?_)
      refine wp_ret (then_ret (res_slot F rfl rfl ⟨_, rfl, ⟨⟨false, rfl, fun h => by cases h⟩, ⟨r, mr, hr0, hr1⟩⟩, hQ⟩))
    · skip
      refine wp_rs fun _ K13 => F.mv rfl fun a F => F.vl (eqlF (by omega) rfl rfl) fun a F => F.mv rfl fun a F => s_grd 18 F rfl rfl rfl <| F.mv rfl fun a F => s_grd 18 F rfl rfl rfl <| F.vl (x_len Try.underlying22 rfl) fun a F => s_grd 18 F rfl rfl rfl <| F.mv rfl fun a F => s_grd 18 F rfl rfl rfl <| F.vl (x_nil rfl) fun a F => s_grd 18 F rfl rfl rfl <| F.vl (x_fa0 fa110_0 rfl) fun a F => s_grd 18 F rfl rfl rfl <| F.ld mr flat3 rfl rfl fun a F => s_grd 18 F rfl rfl rfl <| F.mv rfl fun a F => s_grd 18 F rfl rfl rfl <| F.vl (x_quon (r / 40) (by decide) hr0 (by omega) rfl rfl rfl) fun a F => s_grd 18 F rfl rfl rfl <| F.vl (gtrF (by omega) rfl rfl) fun a F => F.vl (x_pick (b := false) rfl rfl) fun a F => ?_
      refine s_end (K13 _ _ ?_)
      refine wp_if F rfl ?_
      refine wp_skip (K7 _ _ ?_)
      refine wp_rs fun _ K14 => F.mv rfl fun a F => F.vl (x_nil rfl) fun a F => F.vl (x_fa0 fa110_0 rfl) fun a F => F.ld mr flat3 rfl rfl fun a F => F.mv rfl fun a F => F.vl (x_len Try.underlying22 rfl) fun a F => F.mv rfl fun a F => F.vl (x_mul (by omega) (by omega) rfl rfl) fun a F => F.vl (x_sub (by omega) (by omega) rfl rfl) fun a F => F.vl (x_nil rfl) fun a F => F.vl (x_fa0 fa110_0 rfl) fun a F => ?_
      refine s_put F rfl rfl flat3 mr (by first | (simp; done) | decide) rfl fun w2 mr o3 => ?_
      have so3 := o3.size
      have hK := hK.only o3 (by omega)
      have hQ := hQ.only o3 (by omega)
      refine s_end (K14 _ _ ?_)
      refine wp_seq_k fun _ K15 => ?_
      refine wp_rs fun _ K16 => F.mv rfl fun a F => F.vl (x_len Try.underlying22 rfl) fun a F => F.mv rfl fun a F => ?_
      refine s_end (K16 _ _ ?_)
      refine wp_block ?_
      refine wp_up cs.length (fun i a w => (∃ r : Int, Blk w br 102 [.int .i64 r] ∧ 0 ≤ r ∧ r ≤ 2147483647) ∧ Ktw br br w0 w ∧ Ktw br br w1 w ∧ Fs 57 a [(0, .pointer (some ⟨br, 0, none⟩)), (2, .int .i64 40), (3, .int .i64 (d : Int)), (4, .func (.func 138) #[] #[]), (40, .slice av cs.length cv), (41, .int .i64 (cs.length : Int)), (42, .int .i64 (i : Int))]) ⟨⟨_, mr, by omega, by omega⟩, hK, hQ, F.sub _ rfl⟩ ?_
      clear F hK hQ mr
      rintro i a w hi ⟨⟨r2, mr, hr2, hr3⟩, hK, hQ, F⟩ K' hK'
      have sK := hK.size
      have sQ := hQ.size
      refine wp_rs fun _ K17 => F.vl (x_lss (b := decide (i < cs.length)) (decide_eq_decide.2 (by omega)) rfl rfl) fun a F => ?_
      refine s_end (K17 _ _ ?_)
      refine wp_seq_k fun _ K18 => ?_
      refine wp_iff F rfl (fun hc43 => ?_) (fun hc43 => ?_)
      · obtain ⟨b9, off9, c9, y, kd, hve, hyk, hry, hAb, hbl, hrow⟩ := hV.row (i := i) (by omega)
        cases hve
        have hps := szs_get hyk
        have hks := kd.kids_sz
        have hkl := szs_len kd.kids
        refine wp_skip (K18 _ _ ?_)
        refine wp_seq_k fun _ K19 => ?_
        refine wp_block ?_
        refine wp_rs fun _ K20 => F.vl (x_ixa rfl rfl (m_ixsK i Try.underlying22 el22.size rfl (by omega))) fun a F => F.vl (x_ldA wide24 (hrow _ (hK.block _ hbl ⟨hAb.1, hAb.1⟩)) rfl rfl) fun a F => ?_
        refine s_alloc F (by decide) zero24 fun w4 b12 a eb12 m12 B5 zb12 F => ?_
        have sB5 := B5.size
        have hK := hK.below B5
        have hQ := hQ.below B5
        have mr := mr.old B5
        refine s_putW F rfl rfl (size_wide wide24) m12 rfl (one_lc hry.rl.one1) fun w8 m12 o9 => ?_
        have so9 := o9.size
        have hK := hK.only o9 (by omega)
        have hQ := hQ.only o9 (by omega)
        have mr := mr.only o9 (by omega)
        refine s_end (K20 _ _ ?_)
        refine wp_rs fun _ K21 => F.mv rfl fun a F => F.mv rfl fun a F => F.vl (x_ldW wide24 m12 rfl rfl) fun a F => ?_
        refine s_callC (R := fun v w' => v = y.2.2 ∧ Below w8.heap.size w8 w') (lb := []) F [_] rfl E138 rfl (by decide) ((kidsL144 y w8 hry.rl.one1).mono fun e w' h => ⟨_, h.1, rfl, h.2⟩) ?_
        rintro _ w10 a ⟨rfl, B11⟩ F
        have sB11 := B11.size
        have hK := hK.below B11
        have hQ := hQ.below B11
        have mr := mr.old B11
        have hkv := hry.kids
        refine F.mv rfl fun a F => F.mv rfl fun a F => F.vl (x_subn (d - 1) (by omega) (by omega) rfl rfl) fun a F => F.mv rfl fun a F => ?_
        refine s_call (R := fun u w' => ((∃ b, u = .bool b ∧ (b = true → kd.kids.length * 40 ≤ 2147483647)) ∧ Room w' br) ∧ Ktw br br w10 w') F [_, _, _, _, _] E160 rfl (by decide) (ih kd.kids _ (by omega) hkv (d - 1) w10 (by omega) hK ⟨_, mr, hr2, hr3⟩) ?_
        rintro _ w12 a ⟨⟨⟨b54, rfl, h54⟩, ⟨r4, mr, hr4, hr5⟩⟩, k13⟩ F
        have sk13 := k13.size
        have hK := hK.trans k13 (by omega)
        have hQ := hQ.trans k13 (by omega)
        refine F.vl (x_not rfl) fun a F => ?_
        refine s_end (K21 _ _ ?_)
        refine wp_ifb F rfl (fun hc55 => ?_) (fun hc55 => ?_)
        · refine wp_rs fun _ K22 => ?_
          refine F.sg rfl fun a F => ?_
          refine s_end (K22 _ _ ?_)
          refine wp_ret (inb_ret (then_ret (then_ret (inb_ret (then_ret (res_slot F rfl rfl ⟨_, rfl, ⟨⟨false, rfl, fun h => by cases h⟩, ⟨r4, mr, hr4, hr5⟩⟩, hQ⟩))))))
        · obtain rfl : b54 = true := by simpa using hc55
          have h55 := h54 rfl
          refine wp_skip (K19 _ _ ?_)
          refine wp_region_lit ?_
          refine F.vl (x_addn (i + 1) (by omega) (by omega) rfl rfl) fun a F => F.mv rfl fun a F => ?_
          refine s_end (hK' _ _ (by omega) ⟨⟨r4, mr, hr4, hr5⟩, hK, hQ, F.sub _ rfl⟩)
      · obtain rfl : i = cs.length := by omega
        refine wp_exit (K15 _ _ ?_)
        refine wp_rs fun _ K23 => F.sg rfl fun a F => ?_
        refine s_end (K23 _ _ ?_)
        refine wp_ret (res_slot F rfl rfl ⟨_, rfl, ⟨⟨true, rfl, fun _ => by omega⟩, ⟨r2, mr, hr2, hr3⟩⟩, hQ⟩)
theorem takes143 (w0 : World) (br : Nat) (hbr : br < w0.heap.size) (cs : List Lv) (v : Value) (hV : RVn w0 (Ai w0.heap.size br) v cs) (w1 : World) (hK : Ktw br br w0 w1) (hR : Room w1 br) :
    Calls Try.prog 137 #[.pointer (some ⟨br, 0, none⟩), v, .int .i64 40, .func (.func 138) #[] #[]] w1 fun e w' => ∃ u, e = .returned u ∧ ((∃ b, u = .bool b ∧ (b = true → cs.length * 40 ≤ 2147483647)) ∧ Room w' br) ∧ Ktw br br w1 w' := by
  have hQ := Ktw.refl br br w1
  have sK := hK.size
  have sQ := hQ.size
  refine calls_fs 18 [(0, .pointer (some ⟨br, 0, none⟩)), (1, v), (2, .int .i64 40), (3, .func (.func 138) #[] #[])] Try.func137 rfl rfl rfl rfl rfl fun a F => ?_
  refine wp_rs fun _ K1 => F.sg rfl fun a F => ?_
  refine s_end (K1 _ _ ?_)
  refine wp_seq_k fun _ K2 => ?_
  refine wp_rs fun _ K3 => F.mv rfl fun a F => F.mv rfl fun a F => F.mv rfl fun a F => F.mv rfl fun a F => ?_
  refine s_call (R := fun u w' => ((∃ b, u = .bool b ∧ (b = true → cs.length * 40 ≤ 2147483647)) ∧ Room w' br) ∧ Ktw br br w1 w') F [_, _, _, _, _] E160 rfl (by decide) (count152 w0 br hbr (Lv.szs cs + 1) cs v (by omega) hV 65536 w1 (by omega) hK hR) ?_
  rintro _ w2 a ⟨⟨⟨b13, rfl, h13⟩, ⟨r4, mr, hr4, hr5⟩⟩, k3⟩ F
  have sk3 := k3.size
  have hQ := hQ.trans k3 (by omega)
  refine F.vl (x_not rfl) fun a F => ?_
  refine s_end (K3 _ _ ?_)
  refine wp_ifb F rfl (fun hc14 => ?_) (fun hc14 => ?_)
  · refine wp_rs fun _ K4 => ?_
    refine F.mv rfl fun a F => F.vl (x_nil rfl) fun a F => F.vl (x_fa0 fa110_0 rfl) fun a F => ?_
    refine s_put F rfl rfl flat3 mr (by first | (simp; done) | decide) rfl fun w4 mr o5 => ?_
    have so5 := o5.size
    have hQ := hQ.only o5 (by omega)
    refine s_end (K4 _ _ ?_)
    refine wp_rs fun _ K5 => F.sg rfl fun a F => ?_
    refine s_end (K5 _ _ ?_)
    refine wp_ret (then_ret (res_slot F rfl rfl ⟨_, rfl, ⟨⟨false, rfl, fun h => by cases h⟩, ⟨0, mr, by decide, by decide⟩⟩, hQ⟩))
  · obtain rfl : b13 = true := by simpa using hc14
    have h14 := h13 rfl
    refine wp_skip (K2 _ _ ?_)
    refine wp_rs fun _ K6 => F.sg rfl fun a F => ?_
    refine s_end (K6 _ _ ?_)
    refine wp_ret (res_slot F rfl rfl ⟨_, rfl, ⟨⟨true, rfl, fun _ => h14⟩, ⟨r4, mr, hr4, hr5⟩⟩, hQ⟩)
theorem count134 (w0 : World) (br : Nat) (hbr : br < w0.heap.size) : ∀ (N : Nat) (cs : List CT) (v : Value), sumT cs < N → RK w0 (Ai w0.heap.size br) v cs → ∀ (d : Nat) (w1 : World), d ≤ 65536 → Ktw br br w0 w1 → Room w1 br →
    Calls Try.prog 121 #[.pointer (some ⟨br, 0, none⟩), v, .int .i64 120, .int .i64 (d : Int), .func (.func 84) #[] #[]] w1 fun e w' => ∃ u, e = .returned u ∧ ((∃ b, u = .bool b ∧ (b = true → cs.length * 120 ≤ 2147483647 ∧ ∀ c ∈ cs, c.dep ≤ d)) ∧ Room w' br) ∧ Ktw br br w1 w' := by
  intro N
  induction N with
  | zero => intro cs v h; omega
  | succ N ih =>
  intro cs v hN hV d w1 hd1 hK hR
  obtain ⟨av, cv, rfl, _⟩ := hV.form
  have hQ := Ktw.refl br br w1
  have sK := hK.size
  have sQ := hQ.size
  obtain ⟨r, mr, hr0, hr1⟩ := hR
  refine calls_fs 57 [(0, .pointer (some ⟨br, 0, none⟩)), (1, .slice av cs.length cv), (2, .int .i64 120), (3, .int .i64 (d : Int)), (4, .func (.func 84) #[] #[])] Try.func121 rfl rfl rfl rfl rfl fun a F => ?_
  refine wp_rs fun _ K1 => F.sg rfl fun a F => ?_
  refine s_end (K1 _ _ ?_)
  refine wp_seq_k fun _ K2 => ?_
  rcases (show cs.length = 0 ∨ 0 < cs.length by omega) with hk9 | hk9
  · skip
    refine wp_rs fun _ K4 => F.mv rfl fun a F => F.vl (x_len Try.underlying25 rfl) fun a F => F.vl (eqlT (by omega) rfl rfl) fun a F => ?_
    refine s_end (K4 _ _ ?_)
    refine wp_if F rfl ?_
    refine wp_rs fun _ K5 => F.sg rfl fun a F => ?_
    refine s_end (K5 _ _ ?_)
    refine wp_ret (then_ret (res_slot F rfl rfl ⟨_, rfl, ⟨⟨true, rfl, fun _ => ⟨by omega, fun c hc => by rw [List.eq_nil_of_length_eq_zero (show cs.length = 0 by omega)] at hc; cases hc⟩⟩, ⟨r, mr, hr0, hr1⟩⟩, hQ⟩))
  · skip
    refine wp_rs fun _ K6 => F.mv rfl fun a F => F.vl (x_len Try.underlying25 rfl) fun a F => F.vl (eqlF (by omega) rfl rfl) fun a F => ?_
    refine s_end (K6 _ _ ?_)
    refine wp_if F rfl ?_
    refine wp_skip (K2 _ _ ?_)
    refine wp_seq_k fun _ K7 => ?_
    rcases (show d = 0 ∨ (d ≠ 0 ∧ r / 120 < (cs.length : Int)) ∨ (d ≠ 0 ∧ (cs.length : Int) ≤ r / 120) by omega) with hk8 | hk8 | hk8
    · skip
      refine wp_rs fun _ K9 => F.mv rfl fun a F => F.vl (eqlT (by omega) rfl rfl) fun a F => F.mv rfl fun a F => s_grdn 18 F rfl rfl (by decide) fun a F => s_grdn 18 F rfl rfl (by decide) fun a F => s_grdn 18 F rfl rfl (by decide) fun a F => s_grdn 18 F rfl rfl (by decide) fun a F => s_grdn 18 F rfl rfl (by decide) fun a F => s_grdn 18 F rfl rfl (by decide) fun a F => s_grdn 18 F rfl rfl (by decide) fun a F => s_grdn 18 F rfl rfl (by decide) fun a F => s_grdn 18 F rfl rfl (by decide) fun a F => F.vl (x_pick (b := true) rfl rfl) fun a F => ?_
      refine s_end (K9 _ _ ?_)
      refine wp_if F rfl ?_
      refine wp_rs fun _ K10 => F.sg rfl fun a F => ?_
      refine s_end (K10 _ _ ?_)
      refine wp_ret (then_ret (res_slot F rfl rfl ⟨_, rfl, ⟨⟨false, rfl, fun h => by cases h⟩, ⟨r, mr, hr0, hr1⟩⟩, hQ⟩))
    · skip
      refine wp_rs fun _ K11 => F.mv rfl fun a F => F.vl (eqlF (by omega) rfl rfl) fun a F => F.mv rfl fun a F => s_grd 18 F rfl rfl rfl <| F.mv rfl fun a F => s_grd 18 F rfl rfl rfl <| F.vl (x_len Try.underlying25 rfl) fun a F => s_grd 18 F rfl rfl rfl <| F.mv rfl fun a F => s_grd 18 F rfl rfl rfl <| F.vl (x_nil rfl) fun a F => s_grd 18 F rfl rfl rfl <| F.vl (x_fa0 fa110_0 rfl) fun a F => s_grd 18 F rfl rfl rfl <| F.ld mr flat3 rfl rfl fun a F => s_grd 18 F rfl rfl rfl <| F.mv rfl fun a F => s_grd 18 F rfl rfl rfl <| F.vl (x_quon (r / 120) (by decide) hr0 (by omega) rfl rfl rfl) fun a F => s_grd 18 F rfl rfl rfl <| F.vl (gtrT (by omega) rfl rfl) fun a F => F.vl (x_pick (b := false) rfl rfl) fun a F => ?_
      refine s_end (K11 _ _ ?_)
      refine wp_if F rfl ?_
      refine wp_rs fun _ K12 => F.sg rfl fun a F => ?_
      refine s_end (K12 _ _ ?_)
      refine wp_ret (then_ret (res_slot F rfl rfl ⟨_, rfl, ⟨⟨false, rfl, fun h => by cases h⟩, ⟨r, mr, hr0, hr1⟩⟩, hQ⟩))
    · skip
      refine wp_rs fun _ K13 => F.mv rfl fun a F => F.vl (eqlF (by omega) rfl rfl) fun a F => F.mv rfl fun a F => s_grd 18 F rfl rfl rfl <| F.mv rfl fun a F => s_grd 18 F rfl rfl rfl <| F.vl (x_len Try.underlying25 rfl) fun a F => s_grd 18 F rfl rfl rfl <| F.mv rfl fun a F => s_grd 18 F rfl rfl rfl <| F.vl (x_nil rfl) fun a F => s_grd 18 F rfl rfl rfl <| F.vl (x_fa0 fa110_0 rfl) fun a F => s_grd 18 F rfl rfl rfl <| F.ld mr flat3 rfl rfl fun a F => s_grd 18 F rfl rfl rfl <| F.mv rfl fun a F => s_grd 18 F rfl rfl rfl <| F.vl (x_quon (r / 120) (by decide) hr0 (by omega) rfl rfl rfl) fun a F => s_grd 18 F rfl rfl rfl <| F.vl (gtrF (by omega) rfl rfl) fun a F => F.vl (x_pick (b := false) rfl rfl) fun a F => ?_
      refine s_end (K13 _ _ ?_)
      refine wp_if F rfl ?_
      refine wp_skip (K7 _ _ ?_)
      refine wp_rs fun _ K14 => F.mv rfl fun a F => F.vl (x_nil rfl) fun a F => F.vl (x_fa0 fa110_0 rfl) fun a F => F.ld mr flat3 rfl rfl fun a F => F.mv rfl fun a F => F.vl (x_len Try.underlying25 rfl) fun a F => F.mv rfl fun a F => F.vl (x_mul (by omega) (by omega) rfl rfl) fun a F => F.vl (x_sub (by omega) (by omega) rfl rfl) fun a F => F.vl (x_nil rfl) fun a F => F.vl (x_fa0 fa110_0 rfl) fun a F => ?_
      refine s_put F rfl rfl flat3 mr (by first | (simp; done) | decide) rfl fun w2 mr o3 => ?_
      have so3 := o3.size
      have hK := hK.only o3 (by omega)
      have hQ := hQ.only o3 (by omega)
      refine s_end (K14 _ _ ?_)
      refine wp_seq_k fun _ K15 => ?_
      refine wp_rs fun _ K16 => F.mv rfl fun a F => F.vl (x_len Try.underlying25 rfl) fun a F => F.mv rfl fun a F => ?_
      refine s_end (K16 _ _ ?_)
      refine wp_block ?_
      refine wp_up cs.length (fun i a w => (∃ r : Int, Blk w br 102 [.int .i64 r] ∧ 0 ≤ r ∧ r ≤ 2147483647) ∧ Ktw br br w0 w ∧ Ktw br br w1 w ∧ (∀ c ∈ cs.take i, c.dep ≤ d) ∧ Fs 57 a [(0, .pointer (some ⟨br, 0, none⟩)), (2, .int .i64 120), (3, .int .i64 (d : Int)), (4, .func (.func 84) #[] #[]), (40, .slice av cs.length cv), (41, .int .i64 (cs.length : Int)), (42, .int .i64 (i : Int))]) ⟨⟨_, mr, by omega, by omega⟩, hK, hQ, (fun c hc => by simp at hc), F.sub _ rfl⟩ ?_
      clear F hK hQ mr
      rintro i a w hi ⟨⟨r2, mr, hr2, hr3⟩, hK, hQ, hdp, F⟩ K' hK'
      have sK := hK.size
      have sQ := hQ.size
      refine wp_rs fun _ K17 => F.vl (x_lss (b := decide (i < cs.length)) (decide_eq_decide.2 (by omega)) rfl rfl) fun a F => ?_
      refine s_end (K17 _ _ ?_)
      refine wp_seq_k fun _ K18 => ?_
      refine wp_iff F rfl (fun hc43 => ?_) (fun hc43 => ?_)
      · obtain ⟨b9, off9, c9, y, kd, hve, hyk, hry, hAb, hbl, hrow⟩ := hV.row (i := i) (by omega)
        cases hve
        have hps := sumT_get hyk
        have hks := kd.kids_sum
        have hk3 := kd.kids_le
        have htk := take_snoc hyk
        refine wp_skip (K18 _ _ ?_)
        refine wp_seq_k fun _ K19 => ?_
        refine wp_block ?_
        refine wp_rs fun _ K20 => F.vl (x_ixa rfl rfl (m_ixsK i Try.underlying25 el25.size rfl (by omega))) fun a F => F.vl (x_ldA wide27 (hrow _ (hK.block _ hbl ⟨hAb.1, hAb.1⟩)) rfl rfl) fun a F => ?_
        refine s_alloc F (by decide) zero27 fun w4 b12 a eb12 m12 B5 zb12 F => ?_
        have sB5 := B5.size
        have hK := hK.below B5
        have hQ := hQ.below B5
        have mr := mr.old B5
        refine s_putW F rfl rfl (size_wide wide27) m12 rfl hry.one fun w8 m12 o9 => ?_
        have so9 := o9.size
        have hK := hK.only o9 (by omega)
        have hQ := hQ.only o9 (by omega)
        have mr := mr.only o9 (by omega)
        refine s_end (K20 _ _ ?_)
        refine wp_rs fun _ K21 => F.mv rfl fun a F => F.mv rfl fun a F => F.vl (x_ldW wide27 m12 rfl rfl) fun a F => ?_
        refine s_callC (R := fun v w' => RK w0 (Ai w0.heap.size br) v kd.kids ∧ Below w8.heap.size w8 w') (lb := []) F [_] rfl E84 rfl (by decide) (kidsOf101 kd y (Ai w0.heap.size br) w0 w8 hry) ?_
        rintro v49 w10 a ⟨hkv, B11⟩ F
        have sB11 := B11.size
        have hK := hK.below B11
        have hQ := hQ.below B11
        have mr := mr.old B11
        refine F.mv rfl fun a F => F.mv rfl fun a F => F.vl (x_subn (d - 1) (by omega) (by omega) rfl rfl) fun a F => F.mv rfl fun a F => ?_
        refine s_call (R := fun u w' => ((∃ b, u = .bool b ∧ (b = true → kd.kids.length * 120 ≤ 2147483647 ∧ ∀ c ∈ kd.kids, c.dep ≤ d - 1)) ∧ Room w' br) ∧ Ktw br br w10 w') F [_, _, _, _, _] E121 rfl (by decide) (ih kd.kids _ (by omega) hkv (d - 1) w10 (by omega) hK ⟨_, mr, hr2, hr3⟩) ?_
        rintro _ w12 a ⟨⟨⟨b54, rfl, h54⟩, ⟨r4, mr, hr4, hr5⟩⟩, k13⟩ F
        have sk13 := k13.size
        have hK := hK.trans k13 (by omega)
        have hQ := hQ.trans k13 (by omega)
        refine F.vl (x_not rfl) fun a F => ?_
        refine s_end (K21 _ _ ?_)
        refine wp_ifb F rfl (fun hc55 => ?_) (fun hc55 => ?_)
        · refine wp_rs fun _ K22 => ?_
          refine F.sg rfl fun a F => ?_
          refine s_end (K22 _ _ ?_)
          refine wp_ret (inb_ret (then_ret (then_ret (inb_ret (then_ret (res_slot F rfl rfl ⟨_, rfl, ⟨⟨false, rfl, fun h => by cases h⟩, ⟨r4, mr, hr4, hr5⟩⟩, hQ⟩))))))
        · obtain rfl : b54 = true := by simpa using hc55
          have h55 := h54 rfl
          have hkd : kd.dep ≤ d := by have := CT.dep_kids h55.2; omega
          refine wp_skip (K19 _ _ ?_)
          refine wp_region_lit ?_
          refine F.vl (x_addn (i + 1) (by omega) (by omega) rfl rfl) fun a F => F.mv rfl fun a F => ?_
          refine s_end (hK' _ _ (by omega) ⟨⟨r4, mr, hr4, hr5⟩, hK, hQ, (fun c hc => by rw [htk] at hc; rcases List.mem_append.1 hc with hc | hc; (· exact hdp c hc); (· rw [List.mem_singleton.1 hc]; exact hkd)), F.sub _ rfl⟩)
      · obtain rfl : i = cs.length := by omega
        rw [List.take_length] at hdp
        refine wp_exit (K15 _ _ ?_)
        refine wp_rs fun _ K23 => F.sg rfl fun a F => ?_
        refine s_end (K23 _ _ ?_)
        refine wp_ret (res_slot F rfl rfl ⟨_, rfl, ⟨⟨true, rfl, fun _ => ⟨by omega, hdp⟩⟩, ⟨r2, mr, hr2, hr3⟩⟩, hQ⟩)
theorem takes100 (w0 : World) (br : Nat) (hbr : br < w0.heap.size) (cs : List CT) (v : Value) (hV : RK w0 (Ai w0.heap.size br) v cs) (w1 : World) (hK : Ktw br br w0 w1) (hR : Room w1 br) :
    Calls Try.prog 83 #[.pointer (some ⟨br, 0, none⟩), v, .int .i64 120, .func (.func 84) #[] #[]] w1 fun e w' => ∃ u, e = .returned u ∧ ((∃ b, u = .bool b ∧ (b = true → cs.length * 120 ≤ 2147483647 ∧ ∀ c ∈ cs, c.dep ≤ 65536)) ∧ Room w' br) ∧ Ktw br br w1 w' := by
  have hQ := Ktw.refl br br w1
  have sK := hK.size
  have sQ := hQ.size
  refine calls_fs 18 [(0, .pointer (some ⟨br, 0, none⟩)), (1, v), (2, .int .i64 120), (3, .func (.func 84) #[] #[])] Try.func83 rfl rfl rfl rfl rfl fun a F => ?_
  refine wp_rs fun _ K1 => F.sg rfl fun a F => ?_
  refine s_end (K1 _ _ ?_)
  refine wp_seq_k fun _ K2 => ?_
  refine wp_rs fun _ K3 => F.mv rfl fun a F => F.mv rfl fun a F => F.mv rfl fun a F => F.mv rfl fun a F => ?_
  refine s_call (R := fun u w' => ((∃ b, u = .bool b ∧ (b = true → cs.length * 120 ≤ 2147483647 ∧ ∀ c ∈ cs, c.dep ≤ 65536)) ∧ Room w' br) ∧ Ktw br br w1 w') F [_, _, _, _, _] E121 rfl (by decide) (count134 w0 br hbr (sumT cs + 1) cs v (by omega) hV 65536 w1 (by omega) hK hR) ?_
  rintro _ w2 a ⟨⟨⟨b13, rfl, h13⟩, ⟨r4, mr, hr4, hr5⟩⟩, k3⟩ F
  have sk3 := k3.size
  have hQ := hQ.trans k3 (by omega)
  refine F.vl (x_not rfl) fun a F => ?_
  refine s_end (K3 _ _ ?_)
  refine wp_ifb F rfl (fun hc14 => ?_) (fun hc14 => ?_)
  · refine wp_rs fun _ K4 => ?_
    refine F.mv rfl fun a F => F.vl (x_nil rfl) fun a F => F.vl (x_fa0 fa110_0 rfl) fun a F => ?_
    refine s_put F rfl rfl flat3 mr (by first | (simp; done) | decide) rfl fun w4 mr o5 => ?_
    have so5 := o5.size
    have hQ := hQ.only o5 (by omega)
    refine s_end (K4 _ _ ?_)
    refine wp_rs fun _ K5 => F.sg rfl fun a F => ?_
    refine s_end (K5 _ _ ?_)
    refine wp_ret (then_ret (res_slot F rfl rfl ⟨_, rfl, ⟨⟨false, rfl, fun h => by cases h⟩, ⟨0, mr, by decide, by decide⟩⟩, hQ⟩))
  · obtain rfl : b13 = true := by simpa using hc14
    have h14 := h13 rfl
    refine wp_skip (K2 _ _ ?_)
    refine wp_rs fun _ K6 => F.sg rfl fun a F => ?_
    refine s_end (K6 _ _ ?_)
    refine wp_ret (res_slot F rfl rfl ⟨_, rfl, ⟨⟨true, rfl, fun _ => h14⟩, ⟨r4, mr, hr4, hr5⟩⟩, hQ⟩)
end Go.Proofs.Ytmkjhdiepkpdoaa

namespace Go.Proofs.Ytmkjhdiepkpdoaa
set_option maxRecDepth 100000
set_option maxHeartbeats 1600000
open Go.RowKit Go.Shelf
set_option linter.unusedVariables false
set_option linter.unusedSimpArgs false
theorem RVn.k2 {W W' : World} {A : Nat → Prop} {v : Value} {ls : List Lv} {a b : Nat} (h : RVn W A v ls) (hK : Ktw a b W W') (hA : ∀ k, A k → k ≠ a ∧ k ≠ b) : RVn W' A v ls := h.keep hK.size (fun k ha hk => hK.block k hk (hA k ha))
theorem Ok.k2 {W W' : World} {A : Nat → Prop} {x : C8} {a b : Nat} (h : Ok W A x) (hK : Ktw a b W W') (hA : ∀ k, A k → k ≠ a ∧ k ≠ b) : Ok W' A x := h.keep hK.size (fun k ha hk => hK.block k hk (hA k ha))
theorem QL.rvn {W : World} {A : Nat → Prop} {v : Value} {zs : List C3} {ls : List Lv} (h : QL W A zs ls) (hR : Rd W v 3 zs.length (zs.flatMap lc)) (hA : ∀ j, v.ownBlock = some j → A j) : RVn W A v ls := ⟨zs, ⟨hR, fun _ j hj => hA j hj⟩, h.1, h.2⟩
/-- Each is as it was, or a copy. -/
def cpAll (ls ls' : List Lv) : Prop := ∀ (j : Nat) l l', ls[j]? = some l → ls'[j]? = some l' → isCp l l'
theorem cpAll.snoc {ls ls' : List Lv} {p p' : Lv} {i : Nat} (h : cpAll ls ls') (hl : ls'.length = i) (hp : ls[i]? = some p) (hc : isCp p p') : cpAll ls (ls' ++ [p']) := by
 intro j l l' e1 e2
 rcases Nat.lt_trichotomy j ls'.length with hj | hj | hj
 ·
  rw [List.getElem?_append_left hj] at e2
  exact h j l l' e1 e2
 ·
  subst hj
  rw [List.getElem?_append_right (Nat.le_refl _)] at e2
  simp at e2
  subst e2
  rw [hl, hp] at e1
  cases e1
  exact hc
 ·
  rw [List.getElem?_eq_none (by simp; omega)] at e2
  cases e2
theorem cpAll.slO {W : World} {A : Nat → Prop} {v : Value} {ls ls' : List Lv} (h : cpAll ls ls') (hl : ls'.length = ls.length) (hV : RVn W A v ls) : ls'.map slO = ls.map slO := by
 obtain ⟨xs, h1, h2, h3⟩ := hV
 apply List.ext_getElem?
 intro i
 by_cases hi : i < ls.length
 ·
  rw [List.getElem?_map, List.getElem?_map, List.getElem?_eq_getElem hi, List.getElem?_eq_getElem (by omega : i < ls'.length)]
  exact congrArg some ((h i _ _ (List.getElem?_eq_getElem hi) (List.getElem?_eq_getElem (by omega))).slO (h3 i (xs[i]'(by omega)) _ (List.getElem?_eq_getElem (by omega)) (List.getElem?_eq_getElem hi)).rl)
 ·
  rw [List.getElem?_eq_none (by simp; omega), List.getElem?_eq_none (by simp; omega)]
theorem levels130 (W : World) (br : Nat) (hbr : br < W.heap.size) (A : Nat → Prop) (hA : ∀ k, A k → k ≠ br ∧ k < W.heap.size) (ls : List Lv) (v : Value) (hV : RVn W A v ls) (hR : Room W br) :
    Calls Try.prog 107 #[.pointer (some ⟨br, 0, none⟩), v] W fun e w' => ∃ u, e = .returned u ∧ ((∃ ls', RVn w' (fun k => A k ∨ W.heap.size ≤ k) u ls' ∧ ls'.map slO = ls.map slO) ∧ Room w' br) ∧ Ktw br br W w' := by
  have hK := Ktw.refl br br W
  have sK := hK.size
  obtain ⟨av, cv, hve, _⟩ := hV.form
  subst hve
  refine calls_fs 26 [(0, .pointer (some ⟨br, 0, none⟩)), (1, .slice av ls.length cv)] Try.func107 rfl rfl rfl rfl rfl fun a F => ?_
  refine wp_rs fun _ K1 => F.sg rfl fun a F => ?_
  refine s_end (K1 _ _ ?_)
  refine wp_seq_k fun _ K2 => ?_
  refine wp_rs fun _ K3 => F.mv rfl fun a F => F.mv rfl fun a F => ?_
  refine s_call (R := fun u w' => ((∃ b, u = .bool b ∧ (b = true → ls.length * 40 ≤ 2147483647)) ∧ Room w' br) ∧ Ktw br br W w') F [_, _, _, _] E137 rfl (by decide) (takes143 W br hbr ls _ (hV.mono hA) W hK hR) ?_
  rintro _ w2 a ⟨⟨⟨b10, rfl, h10⟩, ⟨r4, mr, hr4, hr5⟩⟩, k3⟩ F
  have sk3 := k3.size
  have hK := hK.trans k3 (by omega)
  refine F.vl (x_not rfl) fun a F => ?_
  refine s_end (K3 _ _ ?_)
  refine wp_ifb F rfl (fun hc11 => ?_) (fun hc11 => ?_)
  · refine wp_rs fun _ K4 => ?_
    refine F.mv rfl fun a F => F.sg rfl fun a F => ?_
    refine s_end (K4 _ _ ?_)
    refine wp_ret (then_ret (res_slot F rfl rfl ⟨_, rfl, ⟨⟨ls, (hV.k2 hK (fun k hk => ⟨(hA k hk).1, (hA k hk).1⟩)).mono (fun k hk => .inl hk), rfl⟩, ⟨r4, mr, hr4, hr5⟩⟩, hK⟩))
  · obtain rfl : b10 = true := by simpa using hc11
    have h11 := h10 rfl
    refine wp_skip (K2 _ _ ?_)
    refine wp_rs fun _ K5 => F.sg rfl fun a F => ?_
    refine s_end (K5 _ _ ?_)
    refine wp_seq_k fun _ K6 => ?_
    refine wp_rs fun _ K7 => F.mv rfl fun a F => F.vl (x_len Try.underlying22 rfl) fun a F => F.mv rfl fun a F => ?_
    refine s_end (K7 _ _ ?_)
    refine wp_block ?_
    refine wp_up ls.length (fun i a w => ∃ v' o' zs ls', w.ownsRow W.heap.size 24 3 v' zs.length (zs.flatMap lc) ∧ (∀ j, v'.ownBlock = some j → j = o') ∧ v'.ownBlock ≠ some br ∧ ((o' = br ∨ W.heap.size ≤ o') ∧ o' < w.heap.size) ∧ QL w (fun k => (k < W.heap.size ∧ k ≠ br ∧ A k ∨ W.heap.size ≤ k) ∧ k ≠ o' ∧ k < w.heap.size) zs ls' ∧ ls'.length = i ∧ cpAll ls ls' ∧ Blk w br 102 [.int .i64 r4] ∧ Ktw br br W w ∧ Fs 26 a [(5, v'), (13, .slice av ls.length cv), (14, .int .i64 (ls.length : Int)), (15, .int .i64 (i : Int))]) ⟨_, br, [], [], World.ownsRow_nil _ _ _ _, (fun j h => by cases h), (fun h => by cases h), by omega, QL.nil, rfl, (fun j l l' _ h => by simp at h), mr, hK, F.sub _ rfl⟩ ?_
    repeat clear F
    clear hK mr
    rintro i a w hi ⟨vv, o2, zs, ls2, hO, hat, hne, hlo, hP, hl2, hcp, mr, hK, F⟩ K' hK'
    have sK := hK.size
    obtain ⟨top, htop⟩ : ∃ h, h = w.heap.size := ⟨_, rfl⟩
    rw [← htop] at hP
    have hPl := hP.1
    have h1vv := (Rd.own hO).one
    refine wp_rs fun _ K8 => F.vl (x_lss (b := decide (i < ls.length)) (decide_eq_decide.2 (by omega)) rfl rfl) fun a F => ?_
    refine s_end (K8 _ _ ?_)
    refine wp_seq_k fun _ K9 => ?_
    refine wp_iff F rfl (fun hc16 => ?_) (fun hc16 => ?_)
    · obtain ⟨b9, off9, c9, y, p, hve, hp, hry, hAb, hbl, hrow⟩ := hV.row (i := i) (by omega)
      cases hve
      have h1y := hry.rl.one1
      have hAb2 := hA _ hAb
      refine wp_skip (K9 _ _ ?_)
      refine wp_seq_k fun _ K10 => ?_
      refine wp_block ?_
      refine wp_rs fun _ K11 => F.vl (x_ixa rfl rfl (m_ixsK i Try.underlying22 el22.size rfl (by omega))) fun a F => F.vl (x_ldA wide24 (hrow _ (hK.block _ hbl ⟨hAb2.1, hAb2.1⟩)) rfl rfl) fun a F => ?_
      refine s_alloc F (by decide) zero24 fun w4 b7 a eb7 m7 B5 zb7 F => ?_
      have sB5 := B5.size
      have hK := hK.below B5
      have mr := mr.old B5
      have hO := own_below hO B5
      have hP := hP.below B5
      refine s_putW F rfl rfl (size_wide wide24) m7 rfl (one_lc h1y) fun w8 m7 o9 => ?_
      have so9 := o9.size
      have hK := hK.only o9 (by omega)
      have mr := mr.only o9 (by omega)
      have hO := own_only hO o9 (fun e => by have := hat _ e; omega)
      have hP := hP.only o9 (fun k (hk : (k < W.heap.size ∧ k ≠ br ∧ A k ∨ W.heap.size ≤ k) ∧ k ≠ o2 ∧ k < top) => by omega)
      refine s_end (K11 _ _ ?_)
      refine wp_region_lit ?_
      refine F.mv rfl fun a F => F.vl (x_ldW wide24 m7 rfl rfl) fun a F => ?_
      refine s_callR (R := fun u w' => ∃ z l', u = lv z ∧ RLx w' (fun k => A k ∨ w8.heap.size ≤ k) z l' ∧ isCp p l') [_, _] F E139 rfl (by decide) (plusL145 w8 A (fun k hk => by have := (hA k hk).2; omega) p y (hry.keep hK.size (fun k hk hb => hK.block k hb ⟨(hA k hk).1, (hA k hk).1⟩))) ?_
      rintro _ w10 a ⟨z, l2, rfl, hz0, hcz⟩ B11 F
      have sB11 := B11.size
      have hK := hK.below B11
      have mr := mr.old B11
      have hO := own_below hO B11
      have hP := hP.below B11
      have hz := hz0.valid
      clear hz0
      have hz : RLx w10 (fun k => (k < W.heap.size ∧ k ≠ br ∧ A k ∨ w8.heap.size ≤ k) ∧ k < w10.heap.size) z l2 := hz.mono (fun k hk => ⟨hk.1.elim (fun h => .inl ⟨(hA k h).2, (hA k h).1, h⟩) .inr, hk.2⟩)
      have h1z := hz.rl.one1
      refine s_litG [lv z] el22 F (by decide) rfl (by simp [Value.cells, lc]) rfl (by decide) (by decide) fun w12 bl a ebl ml B13 zbl F => ?_
      have sB13 := B13.size
      have hK := hK.below B13
      have mr := mr.old B13
      have hO := own_below hO B13
      have hP := hP.below B13
      have hz := hz.below B13
      have ml : Blk w12 bl 24 (lc z) := by simpa [Value.cells] using ml
      refine s_appL (o := o2) el22 F (by decide) rfl rfl hO ml rfl (one_lc h1z) hat (by omega) (by omega) (by decide) (by omega) fun v3 w14 a o3 hOn hOatn how hsrc k15 hkeep F => ?_
      have sk15 := k15.size
      have hK := hK.trans k15 (by omega)
      have mr : Blk w14 br _ _ := (hkeep _ mr.lt hne).trans mr
      have hP := hP.k2 k15 (fun k (hk : (k < W.heap.size ∧ k ≠ br ∧ A k ∨ W.heap.size ≤ k) ∧ k ≠ o2 ∧ k < top) => by omega)
      have hz := hz.k2 k15 (fun k (hk : (k < W.heap.size ∧ k ≠ br ∧ A k ∨ w8.heap.size ≤ k) ∧ k < w10.heap.size) => by omega)
      have hO := hOn
      have hO_at := hOatn
      have hneg : v3.ownBlock ≠ some br := fun h => by rcases hsrc br h with h | h; exact hne h; omega
      refine F.sg rfl fun a F => ?_
      refine s_end (K10 _ _ ?_)
      refine wp_region_lit ?_
      refine F.vl (x_addn (i + 1) (by omega) (by omega) rfl rfl) fun a F => F.mv rfl fun a F => ?_
      refine s_end (hK' _ _ (by omega) ⟨v3, o3, zs ++ [z], ls2 ++ [l2], by rw [fm3_app]; simpa using hO, hO_at, hneg, by omega, (hP.mono (fun k (hk : (k < W.heap.size ∧ k ≠ br ∧ A k ∨ W.heap.size ≤ k) ∧ k ≠ o2 ∧ k < top) => ⟨hk.1, by omega, by omega⟩)).snoc (hz.mono (fun k (hk : (k < W.heap.size ∧ k ≠ br ∧ A k ∨ w8.heap.size ≤ k) ∧ k < w10.heap.size) => ⟨hk.1.elim .inl (fun h => .inr (by omega)), by omega, by omega⟩)), by simp [hl2], hcp.snoc hl2 hp hcz, mr, hK, F.sub _ rfl⟩)
    · obtain rfl : i = ls.length := by omega
      refine wp_exit (K6 _ _ ?_)
      refine wp_rs fun _ K12 => F.mv rfl fun a F => F.sg rfl fun a F => ?_
      refine s_end (K12 _ _ ?_)
      refine wp_ret (res_slot F rfl rfl ⟨_, rfl, ⟨⟨ls2, (hP.mono (B := fun k => A k ∨ W.heap.size ≤ k) (fun k hk => hk.1.elim (fun h => .inl h.2.2) .inr)).rvn (Rd.own hO) (fun j h => .inr (hO.lt j h).1), hcp.slO hl2 hV⟩, ⟨r4, mr, hr4, hr5⟩⟩, hK⟩)
/-- A node, with these kids. -/
def nodeP : CT → List PT → PT
 | .var n _, _ => .var n
 | .sort l _, _ => .sort (slO l)
 | .cst s ls _, _ => .cst s (ls.map slO)
 | .odd k _, _ => .odd k
 | .two k _ _ _, ps => .two k (ps.getD 0 (.odd 0)) (ps.getD 1 (.odd 0))
 | .lt .., ps => .lt (ps.getD 0 (.odd 0)) (ps.getD 1 (.odd 0)) (ps.getD 2 (.odd 0))
theorem RE_two {W : World} {A : Nat → Prop} {v : Value} {k : Int} {p q : PT} (hk : k = 3 ∨ k = 4 ∨ k = 6) (h : RKE W A v [p, q]) : RE W A (.two k p q) ⟨k, 0, emptyB, (0, 0, nilS), nilS, v⟩ := by
 obtain ⟨cs, ⟨xs, h1, h2, h3⟩, h4⟩ := h.ck
 obtain ⟨a, b, rfl⟩ := len2 (show cs.length = 2 by simpa using congrArg List.length h4)
 obtain ⟨y, z, rfl⟩ := len2 (show xs.length = 2 by simpa using h2)
 simp at h4
 obtain ⟨rfl, rfl⟩ := h4
 exact ⟨.two k a b 0, ⟨rfl, hk, ⟨y, z, [], by simpa using h1, h3 0 y a rfl rfl, h3 1 z b rfl rfl⟩, ok0 _ _ _ _ _ _⟩, rfl⟩
theorem len3 {α : Type} {xs : List α} (h : xs.length = 3) : ∃ a b c, xs = [a, b, c] := by
 match xs, h with
 | [a, b, c], _ => exact ⟨a, b, c, rfl⟩
theorem RE_lt {W : World} {A : Nat → Prop} {v : Value} {p q r : PT} (h : RKE W A v [p, q, r]) : RE W A (.lt p q r) ⟨5, 0, emptyB, (0, 0, nilS), nilS, v⟩ := by
 obtain ⟨cs, ⟨xs, h1, h2, h3⟩, h4⟩ := h.ck
 obtain ⟨a, b, c, rfl⟩ := len3 (show cs.length = 3 by simpa using congrArg List.length h4)
 obtain ⟨y, z, u, rfl⟩ := len3 (show xs.length = 3 by simpa using h2)
 simp at h4
 obtain ⟨rfl, rfl, rfl⟩ := h4
 exact ⟨.lt a b c 0, ⟨rfl, ⟨y, z, u, [], by simpa using h1, h3 0 y a rfl rfl, h3 1 z b rfl rfl, h3 2 u c rfl rfl⟩, ok0 _ _ _ _ _ _⟩, rfl⟩
theorem RKE.rn0 {W : World} {A : Nat → Prop} {v : Value} (h : RKE W A v []) : ∃ cs, Rn W A v 8 0 cs := by
 obtain ⟨xs, h1, h2, h3⟩ := h
 rw [h2] at h1
 exact ⟨_, h1⟩
theorem RE_odd {W : World} {A : Nat → Prop} {v : Value} {k : Int} (hk : arT k < 0 ∨ (0 : Int) < arT k) (h : RKE W A v []) : RE W A (.odd k) ⟨k, 0, emptyB, (0, 0, nilS), nilS, v⟩ := ⟨.odd k 0, ⟨rfl, hk, h.rn0, ok0 _ _ _ _ _ _⟩, rfl⟩
theorem RE_var {W : World} {A : Nat → Prop} {v : Value} {n : Int} (hn : in64 n) (h : RKE W A v []) : RE W A (.var n) ⟨1, n, emptyB, (0, 0, nilS), nilS, v⟩ := ⟨.var n 0, ⟨rfl, rfl, hn, h.rn0, ok0 _ _ _ _ _ _⟩, rfl⟩
theorem RE_sort {W : World} {A : Nat → Prop} {v : Value} {l : Lv} {o : Option SL} {z : C3} (hz : RLn W A z l) (ho : slO l = o) (h : RKE W A v []) : RE W A (.sort o) ⟨2, 0, emptyB, z, nilS, v⟩ := ⟨.sort l 0, ⟨rfl, hz, h.rn0, ⟨_, hz⟩, [], RVn.nil W A⟩, by rw [CT.ess, ho]⟩
theorem RE_cst {W : World} {A : Nat → Prop} {v u : Value} {s : ByteArray} {ls : List Lv} {os : List (Option SL)} (hz : RVn W A u ls) (ho : ls.map slO = os) (h : RKE W A v []) : RE W A (.cst s os) ⟨7, 0, s, (0, 0, nilS), u, v⟩ := ⟨.cst s ls 0, ⟨rfl, rfl, hz, h.rn0, ⟨.mk 0 0 [], .mk (xs := []) (Rn.nil W A 3) rfl (fun i x l h => by simp at h)⟩, ls, hz⟩, by rw [CT.ess, ho]⟩
section
variable {W W' : World} {A B : Nat → Prop}
theorem RC.var_of : ∀ {c : CT} {x : C8}, RC W A c x → x.k = 1 → ∃ n m, c = .var n m
 | .var n m, _, _, _ => ⟨n, m, rfl⟩
 | .sort .., x, h, hk => by have := h.1; omega
 | .cst .., x, h, hk => by have := h.1; omega
 | .odd k m, x, h, hk => by
  have h1 := h.1
  have h2 := h.2.1
  rw [← h1, hk] at h2
  simp [arT] at h2
  omega
 | .two .., x, h, hk => by have := h.1; have := h.2.1; omega
 | .lt .., x, h, hk => by have := h.1; omega
theorem RC.sort_of : ∀ {c : CT} {x : C8}, RC W A c x → x.k = 2 → ∃ n m, c = .sort n m
 | .sort n m, _, _, _ => ⟨n, m, rfl⟩
 | .var .., x, h, hk => by have := h.1; omega
 | .cst .., x, h, hk => by have := h.1; omega
 | .odd k m, x, h, hk => by
  have h1 := h.1
  have h2 := h.2.1
  rw [← h1, hk] at h2
  simp [arT] at h2
  omega
 | .two .., x, h, hk => by have := h.1; have := h.2.1; omega
 | .lt .., x, h, hk => by have := h.1; omega
theorem RC.cst_of : ∀ {c : CT} {x : C8}, RC W A c x → x.k = 7 → ∃ s ls m, c = .cst s ls m
 | .cst s n m, _, _, _ => ⟨s, n, m, rfl⟩
 | .var .., x, h, hk => by have := h.1; omega
 | .sort .., x, h, hk => by have := h.1; omega
 | .odd k m, x, h, hk => by
  have h1 := h.1
  have h2 := h.2.1
  rw [← h1, hk] at h2
  simp [arT] at h2
  omega
 | .two .., x, h, hk => by have := h.1; have := h.2.1; omega
 | .lt .., x, h, hk => by have := h.1; omega
theorem RE_rest {v : Value} {ps : List PT} : ∀ {c : CT} {x : C8}, RC W A c x → (x.k ≠ 1 ∧ x.k ≠ 2 ∧ x.k ≠ 7) → RKE W' B v ps → ps.length = c.kids.length → RE W' B (nodeP c ps) ⟨x.k, 0, emptyB, (0, 0, nilS), nilS, v⟩
 | .var .., x, h, hk, _, _ => by have := h.1; omega
 | .sort .., x, h, hk, _, _ => by have := h.1; omega
 | .cst .., x, h, hk, _, _ => by have := h.1; omega
 | .odd k m, x, h, hk, hV, hl => by
  obtain rfl : ps = [] := List.eq_nil_of_length_eq_zero hl
  rw [h.1]
  exact RE_odd (by have := h.2.1; omega) hV
 | .two k a b m, x, h, hk, hV, hl => by
  obtain ⟨p, q, rfl⟩ := len2 hl
  rw [h.1]
  exact RE_two h.2.1 hV
 | .lt a b c m, x, h, hk, hV, hl => by
  obtain ⟨p, q, r, rfl⟩ := len3 hl
  rw [h.1]
  exact RE_lt hV
theorem RVn.below {v : Value} {ls : List Lv} (h : RVn W A v ls) (hB : Below W.heap.size W W') : RVn W' A v ls := h.keep hB.size fun k _ hk => hB.block k hk
theorem RVn.only {v : Value} {ls : List Lv} {c : Nat} (h : RVn W A v ls) (o : Only c W W') (hc : ∀ k, A k → k ≠ c) : RVn W' A v ls := h.keep (Nat.le_of_eq o.size.symm) fun k ha _ => o.block k (hc k ha)
end
theorem node92 (W : World) (br : Nat) (hbr : br < W.heap.size) (A : Nat → Prop) (hA : ∀ k, A k → k ≠ br ∧ k < W.heap.size) (c : CT) (x : C8) (hx : RC W A c x) (v : Value) (ps : List PT) (hV : RKE W A v ps) (hl : ps.length = c.kids.length) (hR : Room W br) :
    Calls Try.prog 64 #[.pointer (some ⟨br, 0, none⟩), tv x, v] W fun e w' => ∃ u, e = .returned u ∧ ((∃ y, u = tv y ∧ RE w' (fun k => A k ∨ W.heap.size ≤ k) (nodeP c ps) y ∧ y.ts = v) ∧ Room w' br) ∧ Ktw br br W w' := by
  have hK := Ktw.refl br br W
  have sK := hK.size
  have hA2 : ∀ k, A k → k ≠ br ∧ k ≠ br := fun k hk => ⟨(hA k hk).1, (hA k hk).1⟩
  obtain ⟨av, cv, hve, _⟩ := hV.form
  subst hve
  have hone := hx.one
  obtain ⟨xk, xn, xs, xl, xls, xts⟩ := x
  refine calls_fs 40 [(0, .pointer (some ⟨br, 0, none⟩)), (1, tv ⟨xk, xn, xs, xl, xls, xts⟩), (2, .slice av ps.length cv)] Try.func64 rfl rfl rfl rfl rfl fun a F => ?_
  refine wp_rs fun _ K1 => ?_
  refine s_box ([.int .i64 xk, .int .i64 xn, .string xs, .int .i64 xl.1, .int .i64 xl.2.1, xl.2.2, xls, xts]) F (by decide) rfl rfl fun w2 b4 a eb4 m4 B3 zb4 F => ?_
  have sB3 := B3.size
  have hK := hK.below B3
  have hR := hR.below B3
  refine s_alloc F (by decide) zero27 fun w4 b6 a eb6 m6 B5 zb6 F => ?_
  have sB5 := B5.size
  have hK := hK.below B5
  have m4 := m4.old B5
  have hR := hR.below B5
  refine s_end (K1 _ _ ?_)
  refine wp_rs fun _ K2 => F.vl (x_fa0 fa27_0 rfl) fun a F => F.ld m4 flat3 rfl rfl fun a F => F.mv rfl fun a F => F.vl (x_build (vs := [(0, _), (5, _)]) rfl (b27_05 _ _ _ _ _)) fun a F => ?_
  refine s_alloc F (by decide) zero27 fun w6 b7 a eb7 m7 B7 zb7 F => ?_
  have sB7 := B7.size
  have hK := hK.below B7
  have m4 := m4.old B7
  have m6 := m6.old B7
  have hR := hR.below B7
  refine s_putW F rfl rfl (size_wide wide27) m7 rfl (one_tc0 _ _ _ _ rfl) fun w10 m7 o11 => ?_
  have so11 := o11.size
  have hK := hK.only o11 (by omega)
  have m4 := m4.only o11 (by omega)
  have m6 := m6.only o11 (by omega)
  have hR := hR.only o11 (by omega)
  refine s_end (K2 _ _ ?_)
  refine wp_seq_k fun _ K3 => ?_
  refine wp_rs fun _ K4 => F.vl (x_fa0 fa27_0 rfl) fun a F => F.ld m4 flat3 rfl rfl fun a F => ?_
  refine s_end (K4 _ _ ?_)
  refine wp_block ?_
  rcases (show xk = 1 ∨ xk = 2 ∨ xk = 7 ∨ (xk ≠ 1 ∧ xk ≠ 2 ∧ xk ≠ 7) by omega) with hk9 | hk9 | hk9 | hk9
  · obtain ⟨n9, m9, rfl⟩ := hx.var_of hk9
    obtain rfl : ps = [] := List.eq_nil_of_length_eq_zero hl
    have hn9 : xn = n9 := hx.2.1
    have hi9 : in64 n9 := hx.2.2.1
    subst hk9 hn9
    refine wp_rs fun _ K6 => F.vl (eqlT (by omega) rfl rfl) fun a F => F.sg rfl fun a F => ?_
    refine s_end (K6 _ _ ?_)
    refine wp_if F rfl ?_
    refine wp_region_lit ?_
    refine F.vl (x_fa0 fa27_1 rfl) fun a F => F.ld m4 flat3 rfl rfl fun a F => F.vl (x_fa0 fa27_1 rfl) fun a F => ?_
    refine s_put F rfl rfl flat3 m7 (by first | (simp; done) | (simp [tc, lc]; done) | decide) rfl fun w12 m7 o13 => ?_
    have so13 := o13.size
    have hK := hK.only o13 (by omega)
    have m6 := m6.only o13 (by omega)
    have hR := hR.only o13 (by omega)
    refine s_end (K3 _ _ ?_)
    have h1Y := ((show RE w12 (fun k => A k ∨ W.heap.size ≤ k) _ _ from RE_var hi9 ((hV.keep hK.size (fun k hk hb => hK.block k hb (hA2 k hk))).mono (fun k hk => .inl hk)))).one
    refine wp_rs fun _ K7 => F.vl (x_ldW wide27 m7 rfl rfl) fun a F => ?_
    refine s_putW F rfl rfl (size_wide wide27) m6 rfl h1Y fun w16 m6 o17 => ?_
    have so17 := o17.size
    have hK := hK.only o17 (by omega)
    have hR := hR.only o17 (by omega)
    refine s_end (K7 _ _ ?_)
    refine wp_ret (res_cell F rfl rfl m6 wide27 ⟨_, rfl, ⟨⟨_, rfl, RE_var hi9 ((hV.keep hK.size (fun k hk hb => hK.block k hb (hA2 k hk))).mono (fun k hk => .inl hk)), rfl⟩, hR⟩, hK⟩)
  · obtain ⟨l, m9, rfl⟩ := hx.sort_of hk9
    obtain rfl : ps = [] := List.eq_nil_of_length_eq_zero hl
    have hxl : RLn W A xl l := hx.2.1
    subst hk9
    refine wp_rs fun _ K8 => F.vl (eqlF (by omega) rfl rfl) fun a F => F.sg rfl fun a F => ?_
    refine s_end (K8 _ _ ?_)
    refine wp_if F rfl ?_
    refine wp_rs fun _ K9 => F.vl (eqlT (by omega) rfl rfl) fun a F => F.sg rfl fun a F => ?_
    refine s_end (K9 _ _ ?_)
    refine wp_if F rfl ?_
    refine wp_region_lit ?_
    refine F.mv rfl fun a F => F.vl (x_fa0 fa27_3 rfl) fun a F => F.vl (x_load rfl (m_loadP (vs := [_, _, _]) wide24 m4 rfl)) fun a F => ?_
    refine s_litG [lv xl] el22 F (by decide) rfl (by simp [Value.cells, lc]) rfl (by decide) (by decide) fun w18 bl a ebl ml B19 zbl F => ?_
    have sB19 := B19.size
    have hK := hK.below B19
    have m6 := m6.old B19
    have m7 := m7.old B19
    have hR := hR.below B19
    have ml : Blk w18 bl 24 (lc xl) := by simpa [Value.cells] using ml
    have hbl1 := ml.lt
    have hrl : RVn w18 (fun k => A k ∨ k = bl) (.slice (some ⟨bl, 0, none⟩) 1 1) [l] := ⟨[xl], ⟨by simpa using Rd.blk ml (n := 1) rfl, fun _ b hb => by simp [Value.ownBlock] at hb; exact .inr hb.symm⟩, rfl, fun i x l2 e1 e2 => by rcases i with _ | i; (· simp at e1 e2; subst e1 e2; exact RLn.mono (fun k hk => .inl hk) (hxl.keep hK.size (fun k hk hb => hK.block k hb (hA2 k hk)))); simp at e1⟩
    refine s_call (R := fun u w' => ((∃ ls', RVn w' (fun k => (A k ∨ k = bl) ∨ w18.heap.size ≤ k) u ls' ∧ ls'.map slO = [l].map slO) ∧ Room w' br) ∧ Ktw br br w18 w') F [_, _] E107 rfl (by decide) (levels130 w18 br (by omega) (fun k => A k ∨ k = bl) (fun k hk => by rcases hk with hk | rfl; (· have := hA k hk; omega); omega) [l] _ hrl hR) ?_
    rintro v25 w20 a ⟨⟨⟨ls2, hv25, he25⟩, hR⟩, k21⟩ F
    have sk21 := k21.size
    have hK := hK.trans k21 (by omega)
    have m6 := m6.k2 k21 (by omega)
    have m7 := m7.k2 k21 (by omega)
    obtain ⟨l2, rfl⟩ : ∃ l2, ls2 = [l2] := List.length_eq_one_iff.1 (by simpa using congrArg List.length he25)
    obtain ⟨b9, off9, c9, z, l3, hve, hyk, hz, hAb, hbl, hrow⟩ := hv25.row (i := 0) (by simp)
    subst hve
    simp only [List.length_singleton] at F
    simp at hyk
    subst hyk
    simp at he25
    have hz : RLx w20 (fun k => (A k ∧ k < W.heap.size ∧ k ≠ br) ∨ k = bl ∨ w18.heap.size ≤ k) z l2 := RLx.mono hz (fun k hk => by rcases hk with (hk | hk) | hk; (· exact .inl ⟨hk, (hA k hk).2, (hA k hk).1⟩); (· exact .inr (.inl hk)); exact .inr (.inr hk))
    refine F.vl (x_ixa rfl rfl (m_ixsK 0 Try.underlying22 el22.size rfl (by omega))) fun a F => F.vl (x_ldA wide24 (hrow _ rfl) rfl rfl) fun a F => F.vl (x_fa0 fa27_3 rfl) fun a F => ?_
    refine s_putP F rfl rfl (size_wide wide24) m7 (by first | (simp [tc, lc]; done) | decide) (one_lc hz.rl.one1) fun w22 m7 o23 => ?_
    have so23 := o23.size
    have hK := hK.only o23 (by omega)
    have m6 := m6.only o23 (by omega)
    have hz := hz.only o23 (fun k (hk : (A k ∧ k < W.heap.size ∧ k ≠ br) ∨ k = bl ∨ w18.heap.size ≤ k) => by omega)
    have hR := hR.only o23 (by omega)
    refine s_end (K3 _ _ ?_)
    have h1Y := ((show RE w22 (fun k => A k ∨ W.heap.size ≤ k) _ _ from RE_sort (RLn.mono (fun k hk => by rcases hk with hk | hk | hk; (· exact .inl hk.1); (· exact .inr (by omega)); exact .inr (by omega)) hz) he25 ((hV.keep hK.size (fun k hk hb => hK.block k hb (hA2 k hk))).mono (fun k hk => .inl hk)))).one
    refine wp_rs fun _ K10 => F.vl (x_ldW wide27 m7 rfl rfl) fun a F => ?_
    refine s_putW F rfl rfl (size_wide wide27) m6 rfl h1Y fun w26 m6 o27 => ?_
    have so27 := o27.size
    have hK := hK.only o27 (by omega)
    have hz := hz.only o27 (fun k (hk : (A k ∧ k < W.heap.size ∧ k ≠ br) ∨ k = bl ∨ w18.heap.size ≤ k) => by omega)
    have hR := hR.only o27 (by omega)
    refine s_end (K10 _ _ ?_)
    refine wp_ret (res_cell F rfl rfl m6 wide27 ⟨_, rfl, ⟨⟨_, rfl, RE_sort (RLn.mono (fun k hk => by rcases hk with hk | hk | hk; (· exact .inl hk.1); (· exact .inr (by omega)); exact .inr (by omega)) hz) he25 ((hV.keep hK.size (fun k hk hb => hK.block k hb (hA2 k hk))).mono (fun k hk => .inl hk)), rfl⟩, hR⟩, hK⟩)
  · obtain ⟨s9, ls, m9, rfl⟩ := hx.cst_of hk9
    obtain rfl : ps = [] := List.eq_nil_of_length_eq_zero hl
    have hs9 : xs = s9 := hx.2.1
    have hxls : RVn W A xls ls := hx.2.2.1
    subst hk9 hs9
    refine wp_rs fun _ K11 => F.vl (eqlF (by omega) rfl rfl) fun a F => F.sg rfl fun a F => ?_
    refine s_end (K11 _ _ ?_)
    refine wp_if F rfl ?_
    refine wp_rs fun _ K12 => F.vl (eqlF (by omega) rfl rfl) fun a F => F.sg rfl fun a F => ?_
    refine s_end (K12 _ _ ?_)
    refine wp_if F rfl ?_
    refine wp_rs fun _ K13 => F.vl (eqlT (by omega) rfl rfl) fun a F => F.sg rfl fun a F => ?_
    refine s_end (K13 _ _ ?_)
    refine wp_if F rfl ?_
    refine dk2_one (br) (b7) (ops := regOps Try.f64 8) (N := 10) (by kernel_rfl) wide_orders (by kernel_rfl) fun w28 hw28 B29 hS K14 hK14 => ?_
    have zw28 : w28.heap.size = w10.heap.size := by rw [hw28]
    have sB29 := B29.size
    have hK := hK.below B29
    have m4 := m4.old B29
    have m6 := m6.old B29
    have m7 := m7.old B29
    have hR := hR.below B29
    have hR_d := hR
    have m4_d := m4
    have m6_d := m6
    have m7_d := m7
    have hK_d := hK
    refine F.dv 0 31 (.fieldAddr 27 (.tmp 4) 2) hS (fun W hW => x_fa0 fa27_2 rfl) fun a F => F.dv 1 32 (.load 9 (.tmp 31)) hS (fun W hW => x_load rfl (m_load flat9 ((m4_d.k2 hW (by omega)).cell (j := 2) rfl))) fun a F => F.dv 2 33 (.move (.tmp 0)) hS (fun W hW => x_move rfl) fun a F => F.dv 3 34 (.fieldAddr 27 (.tmp 4) 4) hS (fun W hW => x_fa0 fa27_4 rfl) fun a F => F.dv 4 35 (.load 22 (.tmp 34)) hS (fun W hW => x_load rfl (m_load flat22 ((m4_d.k2 hW (by omega)).cell (j := 6) rfl))) fun a F => F.dv 6 37 (.fieldAddr 27 (.tmp 7) 2) hS (fun W hW => x_fa0 fa27_2 rfl) fun a F => ?_
    refine d1 5 (some 36) (.call (.mk (.value (.func 107)) #[(.tmp 33), (.tmp 35)] #[63, 22])) fun ty pos af => ?_
    refine s_call (R := fun u w' => ((∃ ls', RVn w' (fun k => A k ∨ w28.heap.size ≤ k) u ls' ∧ ls'.map slO = ls.map slO) ∧ Room w' br) ∧ Ktw br br w28 w') F [_, _] E107 rfl (by decide) (levels130 w28 br (by omega) A (fun k hk => ⟨(hA k hk).1, by have := (hA k hk).2; omega⟩) ls _ (hxls.k2 hK hA2) hR) ?_
    rintro v36 w30 a ⟨⟨⟨ls2, hv36, he36⟩, hR⟩, k31⟩ F
    have sk31 := k31.size
    have hK := hK.trans k31 (by omega)
    have m6 := m6.k2 k31 (by omega)
    have m7 := m7.k2 k31 (by omega)
    have hS := hS.trans k31 (by omega)
    have hv36 : RVn w30 (fun k => (A k ∧ k < W.heap.size ∧ k ≠ br) ∨ w28.heap.size ≤ k) v36 ls2 := hv36.mono (fun k hk => by rcases hk with hk | hk; (· exact .inl ⟨hk, (hA k hk).2, (hA k hk).1⟩); exact .inr hk)
    have h1v := hv36.one
    refine s_end ⟨hS, ?_⟩
    refine d1 7 none (.store 9 (.tmp 37) (.tmp 32)) fun ty pos af => ?_
    refine s_put F rfl rfl flat9 m7 (by first | (simp; done) | (simp [tc, lc]; done) | decide) rfl fun w32 m7 o33 => ?_
    have so33 := o33.size
    have hK := hK.only o33 (by omega)
    have m6 := m6.only o33 (by omega)
    have hv36 := hv36.only o33 (fun k (hk : (A k ∧ k < W.heap.size ∧ k ≠ br) ∨ w28.heap.size ≤ k) => by omega)
    have hS := hS.only o33 (by omega)
    have hR := hR.only o33 (by omega)
    refine s_end ⟨hS, ?_⟩
    refine F.dv 8 38 (.fieldAddr 27 (.tmp 7) 4) hS (fun W hW => x_fa0 fa27_4 rfl) fun a F => ?_
    refine d1 9 none (.store 22 (.tmp 38) (.tmp 36)) fun ty pos af => ?_
    refine s_put F rfl rfl flat22 m7 (by first | (simp; done) | (simp [tc, lc]; done) | decide) h1v fun w34 m7 o35 => ?_
    have so35 := o35.size
    have hK := hK.only o35 (by omega)
    have m6 := m6.only o35 (by omega)
    have hv36 := hv36.only o35 (fun k (hk : (A k ∧ k < W.heap.size ∧ k ≠ br) ∨ w28.heap.size ≤ k) => by omega)
    have hS := hS.only o35 (by omega)
    have hR := hR.only o35 (by omega)
    refine s_end ⟨hS, ?_⟩
    refine d_end (by kernel_rfl) (hK14 _ _ ?_)
    refine K3 _ _ ?_
    have h1Y := ((show RE w34 (fun k => A k ∨ W.heap.size ≤ k) _ _ from RE_cst (s := xs) (hv36.mono (fun k hk => by rcases hk with hk | hk; (· exact .inl hk.1); exact .inr (by omega))) he36 ((hV.keep hK.size (fun k hk hb => hK.block k hb (hA2 k hk))).mono (fun k hk => .inl hk)))).one
    refine wp_rs fun _ K15 => F.vl (x_ldW wide27 m7 rfl rfl) fun a F => ?_
    refine s_putW F rfl rfl (size_wide wide27) m6 rfl h1Y fun w38 m6 o39 => ?_
    have so39 := o39.size
    have hK := hK.only o39 (by omega)
    have hv36 := hv36.only o39 (fun k (hk : (A k ∧ k < W.heap.size ∧ k ≠ br) ∨ w28.heap.size ≤ k) => by omega)
    have hR := hR.only o39 (by omega)
    refine s_end (K15 _ _ ?_)
    refine wp_ret (res_cell F rfl rfl m6 wide27 ⟨_, rfl, ⟨⟨_, rfl, RE_cst (s := xs) (hv36.mono (fun k hk => by rcases hk with hk | hk; (· exact .inl hk.1); exact .inr (by omega))) he36 ((hV.keep hK.size (fun k hk hb => hK.block k hb (hA2 k hk))).mono (fun k hk => .inl hk)), rfl⟩, hR⟩, hK⟩)
  · skip
    refine wp_rs fun _ K16 => F.vl (eqlF (by omega) rfl rfl) fun a F => F.sg rfl fun a F => ?_
    refine s_end (K16 _ _ ?_)
    refine wp_if F rfl ?_
    refine wp_rs fun _ K17 => F.vl (eqlF (by omega) rfl rfl) fun a F => F.sg rfl fun a F => ?_
    refine s_end (K17 _ _ ?_)
    refine wp_if F rfl ?_
    refine wp_rs fun _ K18 => F.vl (eqlF (by omega) rfl rfl) fun a F => F.sg rfl fun a F => ?_
    refine s_end (K18 _ _ ?_)
    refine wp_if F rfl ?_
    refine wp_skip (K3 _ _ ?_)
    have h1Y := ((show RE w10 (fun k => A k ∨ W.heap.size ≤ k) _ _ from RE_rest hx hk9 ((hV.keep hK.size (fun k hk hb => hK.block k hb (hA2 k hk))).mono (fun k hk => .inl hk)) hl)).one
    refine wp_rs fun _ K19 => F.vl (x_ldW wide27 m7 rfl rfl) fun a F => ?_
    refine s_putW F rfl rfl (size_wide wide27) m6 rfl h1Y fun w42 m6 o43 => ?_
    have so43 := o43.size
    have hK := hK.only o43 (by omega)
    have hR := hR.only o43 (by omega)
    refine s_end (K19 _ _ ?_)
    refine wp_ret (res_cell F rfl rfl m6 wide27 ⟨_, rfl, ⟨⟨_, rfl, RE_rest hx hk9 ((hV.keep hK.size (fun k hk hb => hK.block k hb (hA2 k hk))).mono (fun k hk => .inl hk)) hl, rfl⟩, hR⟩, hK⟩)
end Go.Proofs.Ytmkjhdiepkpdoaa

namespace Go.Proofs.Ytmkjhdiepkpdoaa
set_option maxRecDepth 100000
set_option maxHeartbeats 1600000
open Go.RowKit Go.Shelf
set_option linter.unusedVariables false
set_option linter.unusedSimpArgs false
def Go_ (c : CT) (_ : Int) (ps : List PT) : PT := nodeP c ps
theorem fold_own : ∀ (c : CT) (d : Int), c.fold Go_ d = c.ess
 | .two k a b m, d => by simp [CT.fold, Go_, nodeP, CT.ess, fold_own a, fold_own b]
 | .lt a b c m, d => by simp [CT.fold, Go_, nodeP, CT.ess, fold_own a, fold_own b, fold_own c]
 | .var .., d => rfl
 | .sort .., d => rfl
 | .cst .., d => rfl
 | .odd .., d => rfl
def mx63 : Int := 9223372036854775807
def liftN (f b d n : Int) : Int := if d ≤ n ∧ f ≤ n - d then max (min (n + b) 9223372036854775807) d else n
def PT.lift (f b : Int) : PT → Int → PT
 | .var n, d => .var (liftN f b d n)
 | .two k p q, d => .two k (p.lift f b d) (q.lift f b (d + if k = 3 ∨ k = 4 then 1 else 0))
 | .lt p q r, d => .lt (p.lift f b d) (q.lift f b d) (r.lift f b (d + 1))
 | .sort o, _ => .sort o
 | .cst s os, _ => .cst s os
 | .odd k, _ => .odd k
def Gl (f b : Int) (c : CT) (d : Int) (ps : List PT) : PT := match c with
 | .var n _ => .var (liftN f b d n)
 | c => nodeP c ps
theorem fold_lift (f b : Int) : ∀ (c : CT) (d : Int), c.fold (Gl f b) d = c.ess.lift f b d
 | .two k p q m, d => by simp [CT.fold, Gl, nodeP, CT.ess, PT.lift, fold_lift f b p, fold_lift f b q, CT.bnd]
 | .lt p q r m, d => by simp [CT.fold, Gl, nodeP, CT.ess, PT.lift, fold_lift f b p, fold_lift f b q, fold_lift f b r, CT.bnd]
 | .var .., d => rfl
 | .sort .., d => rfl
 | .cst .., d => rfl
 | .odd .., d => rfl
def PT.put (v : PT) : PT → Int → PT
 | .var n, d => if n = d then v.lift 0 d 0 else .var (if d < n then n - 1 else n)
 | .two k p q, d => .two k (PT.put v p d) (PT.put v q (d + if k = 3 ∨ k = 4 then 1 else 0))
 | .lt p q r, d => .lt (PT.put v p d) (PT.put v q d) (PT.put v r (d + 1))
 | .sort o, _ => .sort o
 | .cst s os, _ => .cst s os
 | .odd k, _ => .odd k
def Gp (v : PT) (c : CT) (d : Int) (ps : List PT) : PT := match c with
 | .var n _ => if n = d then v.lift 0 d 0 else .var (if d < n then n - 1 else n)
 | c => nodeP c ps
theorem fold_put' (v : PT) : ∀ (c : CT) (d : Int), c.fold (Gp v) d = PT.put v c.ess d
 | .two k p q m, d => by simp [CT.fold, Gp, nodeP, CT.ess, PT.put, fold_put' v p, fold_put' v q, CT.bnd]
 | .lt p q r m, d => by simp [CT.fold, Gp, nodeP, CT.ess, PT.put, fold_put' v p, fold_put' v q, fold_put' v r, CT.bnd]
 | .var .., d => rfl
 | .sort .., d => rfl
 | .cst .., d => rfl
 | .odd .., d => rfl
theorem RKE.valid {W : World} {A : Nat → Prop} {v : Value} {ps : List PT} : RKE W A v ps → RKE W (fun k => A k ∧ k < W.heap.size) v ps := fun ⟨xs, h1, h2, h3⟩ => ⟨xs, h1.lt, h2, fun i x c e1 e2 => (h3 i x c e1 e2).valid⟩
theorem clo102 (wl : World) (br : Nat) (hbr : br < wl.heap.size) (A : Nat → Prop) (hA : ∀ k, A k → k ≠ br ∧ k < wl.heap.size) (b2 : Nat) (m2 : Blk wl b2 63 [.pointer (some ⟨br, 0, none⟩)]) (hb2 : b2 ≠ br) (D : Int) (W : World) (c : CT) (x : C8) (d : Int) (kv : Value) (ps : List PT) (s : Nat) (hK : Ktw br br wl W) (hR : Room W br) (hx : RC wl A c x) (hd0 : 0 ≤ d) (hdD : d ≤ D) (hs0 : wl.heap.size ≤ s) (hs1 : s ≤ W.heap.size) (hkv : RKE W (AS A s) kv ps) (hlen : ps.length = c.kids.length) :
    Calls Try.prog 85 ([tv x, .int .i64 d, kv] ++ [Value.pointer (some ⟨b2, 0, none⟩)]).toArray W fun e w' => ∃ v, e = .returned v ∧ ((∃ y, v = tv y ∧ RE w' (AS A s) (Go_ c d ps) y ∧ Tt c y) ∧ Room w' br) ∧ Ktw br br W w' := by
  have hQ := Ktw.refl br br W
  have sQ := hQ.size
  have sK := hK.size
  have hA2 : ∀ k, A k → k ≠ br ∧ k ≠ br := fun k hk => ⟨(hA k hk).1, (hA k hk).1⟩
  have hAS : ∀ k, AS A s k → k ≠ br := fun k hk => by rcases hk with hk | hk; (· exact (hA k hk).1); omega
  have hkv0 := hkv.valid
  have m2 := m2.k2 hK (by omega)
  have hb2l := m2.lt
  refine calls_fs 12 [(0, tv x), (1, .int .i64 d), (2, kv), (3, .pointer (some ⟨b2, 0, none⟩))] Try.func85 rfl rfl rfl rfl rfl fun a F => ?_
  refine wp_rs fun _ K1 => ?_
  refine s_box (tc x) F (by decide) rfl rfl fun w2 b4 a eb4 m4 B3 zb4 F => ?_
  have sB3 := B3.size
  have hK := hK.below B3
  have hQ := hQ.below B3
  have m2 := m2.old B3
  have hR := hR.below B3
  refine s_alloc F (by decide) zero27 fun w4 b7 a eb7 m7 B5 zb7 F => ?_
  have sB5 := B5.size
  have hK := hK.below B5
  have hQ := hQ.below B5
  have m2 := m2.old B5
  have m4 := m4.old B5
  have hR := hR.below B5
  refine s_end (K1 _ _ ?_)
  refine wp_rs fun _ K2 => F.ld m2 flat64 rfl rfl fun a F => F.vl (x_ldW wide27 m4 rfl rfl) fun a F => F.mv rfl fun a F => ?_
  refine s_call (R := fun u w' => ((∃ y, u = tv y ∧ RE w' (fun k => (AS A s k ∧ k < W.heap.size) ∨ w4.heap.size ≤ k) (nodeP c ps) y ∧ y.ts = kv) ∧ Room w' br) ∧ Ktw br br w4 w') F [_, _, _] E64 rfl (by decide) (node92 w4 br (by omega) (fun k => AS A s k ∧ k < W.heap.size) (fun k hk => ⟨hAS k hk.1, by have := hk.2; omega⟩) c x ((hx.keep hK.size (fun k hk hb => hK.block k hb (hA2 k hk))).mono (fun k hk => ⟨.inl hk, by have := hA k hk; omega⟩)) kv ps (hkv0.keep hQ.size (fun k hk hb => hQ.block k hb ⟨hAS k hk.1, hAS k hk.1⟩)) hlen hR) ?_
  rintro _ w6 a ⟨⟨⟨y9, rfl, hy9, ht9⟩, hR⟩, k7⟩ F
  have sk7 := k7.size
  have hQ := hQ.trans k7 (by omega)
  have m7 := m7.k2 k7 (by omega)
  have hy9 := hy9.valid
  have hT9 : Tt c y9 := tt_of hlen hkv0 ht9
  clear ht9
  refine s_putW F rfl rfl (size_wide wide27) m7 rfl hy9.one fun w10 m7 o11 => ?_
  have so11 := o11.size
  have hQ := hQ.only o11 (by omega)
  have hR := hR.only o11 (by omega)
  have hy9 := hy9.only o11 (by first | (intro h; have h2 := h.2; omega) | (intro h; rcases h.1 with h1 | h1; (have := hA _ h1; omega); (have := h.2; omega)) | (intro h; rcases h.1 with h1 | h1; (have := h1.2; omega); (have := h.2; omega)) | (intro h; rcases h.1 with h1 | h1; (exact hAS _ h1.1 rfl); (have := h.2; omega)) | (intro h; rcases h with h | h; (have := hA _ h; omega); omega) | (intro h; have := hA _ h; omega) | (intro h; rcases h with h | h; (have := h.2; omega); omega) | exact Ar.nbr | exact Ai.nbr | exact Ar.no (by omega) | exact Ai.no (by omega))
  refine s_end (K2 _ _ ?_)
  refine wp_ret (res_cell F rfl rfl m7 wide27 ⟨_, rfl, ⟨⟨y9, rfl, hy9.mono (fun k hk => by rcases hk.1 with hk | hk; (· exact hk.1); exact .inr (by omega)), hT9⟩, hR⟩, hQ⟩)
theorem owned57 (W : World) (br : Nat) (hbr : br < W.heap.size) (A : Nat → Prop) (hA : ∀ k, A k → k ≠ br ∧ k < W.heap.size) (c : CT) (x : C8) (hx : RC W A c x) (hR : Room W br) : Calls Try.prog 41 #[.pointer (some ⟨br, 0, none⟩), tv x] W fun e w' => ∃ u, e = .returned u ∧ ((∃ y, u = tv y ∧ RE w' (AS A W.heap.size) c.ess y) ∧ Room w' br) ∧ Ktw br br W w' := by
 have hQ := Ktw.refl br br W
 have sQ := hQ.size
 have hA2 : ∀ k, A k → k ≠ br ∧ k ≠ br := fun k hk => ⟨(hA k hk).1, (hA k hk).1⟩
 refine calls_fs 14 [(0, .pointer (some ⟨br, 0, none⟩)), (1, tv x)] Try.func41 rfl rfl rfl rfl rfl fun a F => ?_
 refine wp_rs fun _ K1 => ?_
 refine s_box ([.pointer (some ⟨br, 0, none⟩)]) F (by decide) rfl rfl fun w2 b2 a eb2 m2 B3 zb2 F => ?_
 have sB3 := B3.size
 have hQ := hQ.below B3
 have hR := hR.below B3
 refine s_box (tc x) F (by decide) rfl rfl fun w4 b3 a eb3 m3 B5 zb3 F => ?_
 have sB5 := B5.size
 have hQ := hQ.below B5
 have m2 := m2.old B5
 have hR := hR.below B5
 refine s_alloc F (by decide) zero27 fun w6 b4 a eb4 m4 B7 zb4 F => ?_
 have sB7 := B7.size
 have hQ := hQ.below B7
 have m2 := m2.old B7
 have m3 := m3.old B7
 have hR := hR.below B7
 refine s_end (K1 _ _ ?_)
 refine wp_seq_k fun _ K2 => ?_
 refine wp_rs fun _ K3 => F.ld m2 flat64 rfl rfl fun a F => F.vl (x_ldW wide27 m3 rfl rfl) fun a F => ?_
 refine s_litG [tv x] el25 F (by decide) rfl (by simp [Value.cells, tc]) rfl (by decide) (by decide) fun w8 bl a ebl ml B9 zbl F => ?_
 have sB9 := B9.size
 have hQ := hQ.below B9
 have m2 := m2.old B9
 have m3 := m3.old B9
 have m4 := m4.old B9
 have hR := hR.below B9
 have ml : Blk w8 bl 27 (tc x) := by simpa [Value.cells] using ml
 have hbl1 := ml.lt
 have hrl : RK w8 (Ai w8.heap.size br) (.slice (some ⟨bl, 0, none⟩) 1 1) [c] := ⟨[x], ⟨by simpa using Rd.blk ml (n := 1) rfl, fun _ b hb => by simp [Value.ownBlock] at hb; subst hb; exact ⟨by omega, by omega⟩⟩, rfl, fun i x2 l2 e1 e2 => by rcases i with _ | i; (· simp at e1 e2; subst e1 e2; exact RC.mono (fun k hk => ⟨(hA k hk).1, by have := (hA k hk).2; omega⟩) (hx.keep hQ.size (fun k hk hb => hQ.block k hb (hA2 k hk)))); simp at e1⟩
 refine s_call (R := fun u w' => ((∃ b, u = .bool b ∧ (b = true → [c].length * 120 ≤ 2147483647 ∧ ∀ c' ∈ [c], c'.dep ≤ 65536)) ∧ Room w' br) ∧ Ktw br br w8 w') F [_, _, _, _] E83 rfl (by decide) (takes100 w8 br (by omega) [c] _ hrl w8 (Ktw.refl br br _) hR) ?_
 rintro _ w10 a ⟨⟨⟨b8, rfl, h8⟩, hR⟩, k11⟩ F
 have sk11 := k11.size
 have hQ := hQ.trans k11 (by omega)
 have m2 := m2.k2 k11 (by omega)
 have m3 := m3.k2 k11 (by omega)
 have m4 := m4.k2 k11 (by omega)
 refine F.vl (x_not rfl) fun a F => ?_
 refine s_end (K3 _ _ ?_)
 refine wp_ifb F rfl (fun hc9 => ?_) (fun hc9 => ?_)
 ·
  refine wp_rs fun _ K4 => F.vl (x_ldW wide27 m3 rfl rfl) fun a F => ?_
  refine s_putW F rfl rfl (size_wide wide27) m4 rfl hx.one fun w14 m4 o15 => ?_
  have so15 := o15.size
  have hQ := hQ.only o15 (by omega)
  have hR := hR.only o15 (by omega)
  refine s_end (K4 _ _ ?_)
  refine wp_ret (then_ret (res_cell F rfl rfl m4 wide27 ⟨_, rfl, ⟨⟨x, rfl, ((hx.keep hQ.size (fun k hk hb => hQ.block k hb (hA2 k hk))).mono (fun k hk => .inl hk)).re⟩, hR⟩, hQ⟩))
 ·
  obtain rfl : b8 = true := by simpa using hc9
  have hdp9 : c.dep ≤ 65536 := (h8 rfl).2 c (by simp)
  refine wp_skip (K2 _ _ ?_)
  refine wp_rs fun _ K5 => F.vl (x_ldW wide27 m3 rfl rfl) fun a F => F.vl (x_mkf [_] rfl) fun a F => ?_
  have hx9 := hx.keep hQ.size (fun k hk hb => hQ.block k hb (hA2 k hk))
  have hA9 : ∀ k, A k → k ≠ br ∧ k < w10.heap.size := fun k hk => ⟨(hA k hk).1, by have := (hA k hk).2; omega⟩
  refine s_call (R := fun u w' => ((∃ y, u = tv y ∧ RE w' (AS A w10.heap.size) (c.fold (Go_) 0) y ∧ Tt c y) ∧ Room w' br) ∧ Ktw br br w10 w') F [_, _, _] E60 rfl (by decide) (fold88 w10 br (by omega) A hA9 85 [.pointer (some ⟨b2, 0, none⟩)] E85 65536 (by decide) (Go_) (fun _ => True) (fun _ _ _ _ _ => trivial) (fun W c x d kv ps s h1 h2 h3 h4 h5 h6 h7 h8 h9 _ => clo102 w10 br (by omega) A hA9 b2 m2 (by omega) 65536 W c x d kv ps s h1 h2 h3 h4 h5 h6 h7 h8 h9) (c.size + 1) c x 0 w10 (by omega) hx9 trivial (by decide) (by omega) (Ktw.refl br br _) hR) ?_
  rintro _ w16 a ⟨⟨⟨y9, rfl, hy9, hT9⟩, hR⟩, k17⟩ F
  have sk17 := k17.size
  have hQ := hQ.trans k17 (by omega)
  have m4 := m4.k2 k17 (by omega)
  refine s_putW F rfl rfl (size_wide wide27) m4 rfl hy9.one fun w20 m4 o21 => ?_
  have so21 := o21.size
  have hQ := hQ.only o21 (by omega)
  have hR := hR.only o21 (by omega)
  have hy9 := hy9.only o21 (by first | (intro h; have h2 := h.2; omega) | (intro h; rcases h.1 with h1 | h1; (have := hA _ h1; omega); (have := h.2; omega)) | (intro h; rcases h.1 with h1 | h1; (have := h1.2; omega); (have := h.2; omega)) | (intro h; rcases h.1 with h1 | h1; (exact hAS _ h1.1 rfl); (have := h.2; omega)) | (intro h; rcases h with h | h; (have := hA _ h; omega); omega) | (intro h; have := hA _ h; omega) | (intro h; rcases h with h | h; (have := h.2; omega); omega) | exact Ar.nbr | exact Ai.nbr | exact Ar.no (by omega) | exact Ai.no (by omega))
  refine s_end (K5 _ _ ?_)
  rw [fold_own] at hy9
  refine wp_ret (res_cell F rfl rfl m4 wide27 ⟨_, rfl, ⟨⟨y9, rfl, hy9.mono (AS.mono (by omega))⟩, hR⟩, hQ⟩)
theorem clo131 (wl : World) (br : Nat) (hbr : br < wl.heap.size) (A : Nat → Prop) (hA : ∀ k, A k → k ≠ br ∧ k < wl.heap.size) (f b : Int) (hf : 0 ≤ f) (hb0 : -4611686018427387904 ≤ b) (bp bf bb : Nat) (mp : Blk wl bp 63 [.pointer (some ⟨br, 0, none⟩)]) (mf : Blk wl bf 3 [.int .i64 f]) (mb : Blk wl bb 3 [.int .i64 b]) (hne : bp ≠ br ∧ bf ≠ br ∧ bb ≠ br) (D : Int) (hD : D ≤ 4611686018427387904) (W : World) (c : CT) (x : C8) (d : Int) (kv : Value) (ps : List PT) (s : Nat) (hK : Ktw br br wl W) (hR : Room W br) (hx : RC wl A c x) (hd0 : 0 ≤ d) (hdD : d ≤ D) (hs0 : wl.heap.size ≤ s) (hs1 : s ≤ W.heap.size) (hkv : RKE W (AS A s) kv ps) (hlen : ps.length = c.kids.length) :
    Calls Try.prog 126 ([tv x, .int .i64 d, kv] ++ [Value.pointer (some ⟨bp, 0, none⟩), Value.pointer (some ⟨bf, 0, none⟩), Value.pointer (some ⟨bb, 0, none⟩)]).toArray W fun e w' => ∃ v, e = .returned v ∧ ((∃ y, v = tv y ∧ RE w' (AS A s) (Gl f b c d ps) y ∧ Tt c y) ∧ Room w' br) ∧ Ktw br br W w' := by
  have hQ := Ktw.refl br br W
  have sQ := hQ.size
  have sK := hK.size
  have hA2 : ∀ k, A k → k ≠ br ∧ k ≠ br := fun k hk => ⟨(hA k hk).1, (hA k hk).1⟩
  have hAS : ∀ k, AS A s k → k ≠ br := fun k hk => by rcases hk with hk | hk; (· exact (hA k hk).1); omega
  have hkv0 := hkv.valid
  have mp := mp.k2 hK (by omega)
  have mf := mf.k2 hK (by omega)
  have mb := mb.k2 hK (by omega)
  have hpl := mp.lt
  have hfl := mf.lt
  have hbl := mb.lt
  have hrng : x.k = 1 → in64 x.n := fun h => by
    obtain ⟨n, m, rfl⟩ := hx.var_of h
    have h1 := hx.2.1
    have h2 := hx.2.2.1
    rw [h1]; exact h2
  have hres : ¬ (x.k = 1 ∧ d ≤ x.n ∧ f ≤ x.n - d) → Gl f b c d ps = nodeP c ps := by
    intro h
    cases c with
    | var n m =>
      have h1 := hx.1
      have h2 := hx.2.1
      simp only [Gl, nodeP, liftN]
      rw [if_neg (by rw [← h2]; exact fun h' => h ⟨h1, h'.1, h'.2⟩)]
    | _ => rfl
  refine calls_fs 40 [(0, tv x), (1, .int .i64 d), (2, kv), (3, Value.pointer (some ⟨bp, 0, none⟩)), (4, Value.pointer (some ⟨bf, 0, none⟩)), (5, Value.pointer (some ⟨bb, 0, none⟩))] Try.func126 rfl rfl rfl rfl rfl fun a F => ?_
  refine wp_rs fun _ K1 => ?_
  refine s_box (tc x) F (by decide) rfl rfl fun w2 b6 a eb6 m6 B3 zb6 F => ?_
  have sB3 := B3.size
  have hK := hK.below B3
  have hQ := hQ.below B3
  have mp := mp.old B3
  have mf := mf.old B3
  have mb := mb.old B3
  have hR := hR.below B3
  refine s_alloc F (by decide) zero27 fun w4 b9 a eb9 m9 B5 zb9 F => ?_
  have sB5 := B5.size
  have hK := hK.below B5
  have hQ := hQ.below B5
  have mp := mp.old B5
  have mf := mf.old B5
  have mb := mb.old B5
  have m6 := m6.old B5
  have hR := hR.below B5
  refine s_end (K1 _ _ ?_)
  refine wp_rs fun _ K2 => F.ld mp flat64 rfl rfl fun a F => F.vl (x_ldW wide27 m6 rfl rfl) fun a F => F.mv rfl fun a F => ?_
  refine s_call (R := fun u w' => ((∃ y, u = tv y ∧ RE w' (fun k => (AS A s k ∧ k < W.heap.size) ∨ w4.heap.size ≤ k) (nodeP c ps) y ∧ y.ts = kv) ∧ Room w' br) ∧ Ktw br br w4 w') F [_, _, _] E64 rfl (by decide) (node92 w4 br (by omega) (fun k => AS A s k ∧ k < W.heap.size) (fun k hk => ⟨hAS k hk.1, by have := hk.2; omega⟩) c x ((hx.keep hK.size (fun k hk hb => hK.block k hb (hA2 k hk))).mono (fun k hk => ⟨.inl hk, by have := hA k hk; omega⟩)) kv ps (hkv0.keep hQ.size (fun k hk hb => hQ.block k hb ⟨hAS k hk.1, hAS k hk.1⟩)) hlen hR) ?_
  rintro _ w6 a ⟨⟨⟨y9, rfl, hy9, ht9⟩, hR⟩, k7⟩ F
  have sk7 := k7.size
  have hQ := hQ.trans k7 (by omega)
  have mf := mf.k2 k7 (by omega)
  have mb := mb.k2 k7 (by omega)
  have m6 := m6.k2 k7 (by omega)
  have m9 := m9.k2 k7 (by omega)
  have hy9 := hy9.valid
  have hT9 : Tt c y9 := tt_of hlen hkv0 ht9
  clear ht9
  refine s_alloc F (by decide) zero27 fun w8 b10 a eb10 m10 B9 zb10 F => ?_
  have sB9 := B9.size
  have hQ := hQ.below B9
  have mf := mf.old B9
  have mb := mb.old B9
  have m6 := m6.old B9
  have m9 := m9.old B9
  have hR := hR.below B9
  have hy9 := hy9.below B9
  refine s_putW F rfl rfl (size_wide wide27) m10 rfl hy9.one fun w12 m10 o13 => ?_
  have so13 := o13.size
  have hQ := hQ.only o13 (by omega)
  have mf := mf.only o13 (by omega)
  have mb := mb.only o13 (by omega)
  have m6 := m6.only o13 (by omega)
  have m9 := m9.only o13 (by omega)
  have hR := hR.only o13 (by omega)
  have hy9 := hy9.only o13 (by first | (intro h; have h2 := h.2; omega) | (intro h; rcases h.1 with h1 | h1; (have := hA _ h1; omega); (have := h.2; omega)) | (intro h; rcases h.1 with h1 | h1; (have := h1.2; omega); (have := h.2; omega)) | (intro h; rcases h.1 with h1 | h1; (exact hAS _ h1.1 rfl); (have := h.2; omega)) | (intro h; rcases h with h | h; (have := hA _ h; omega); omega) | (intro h; have := hA _ h; omega) | (intro h; rcases h with h | h; (have := h.2; omega); omega) | exact Ar.nbr | exact Ai.nbr | exact Ar.no (by omega) | exact Ai.no (by omega))
  refine s_end (K2 _ _ ?_)
  refine wp_seq_k fun _ K3 => ?_
  rcases (show (x.k = 1 ∧ d ≤ x.n ∧ f ≤ x.n - d) ∨ (x.k = 1 ∧ d ≤ x.n ∧ ¬ f ≤ x.n - d) ∨ (x.k = 1 ∧ ¬ d ≤ x.n) ∨ x.k ≠ 1 by omega) with hk9 | hk9 | hk9 | hk9
  · have hri0 := hrng hk9.1
    unfold in64 at hri0
    refine wp_rs fun _ K5 => F.vl (x_fa0 fa27_0 rfl) fun a F => F.ld m6 flat3 rfl rfl fun a F => F.vl (eqlT (by omega) rfl rfl) fun a F => F.mv rfl fun a F => s_grd 18 F rfl rfl rfl <| F.vl (x_fa0 fa27_1 rfl) fun a F => s_grd 18 F rfl rfl rfl <| F.ld m6 flat3 rfl rfl fun a F => s_grd 18 F rfl rfl rfl <| F.mv rfl fun a F => s_grd 18 F rfl rfl rfl <| F.vl (geqT (by omega) rfl rfl) fun a F => F.vl (x_pick (b := true) rfl rfl) fun a F => F.mv rfl fun a F => s_grd 24 F rfl rfl rfl <| F.vl (x_fa0 fa27_1 rfl) fun a F => s_grd 24 F rfl rfl rfl <| F.ld m6 flat3 rfl rfl fun a F => s_grd 24 F rfl rfl rfl <| F.mv rfl fun a F => s_grd 24 F rfl rfl rfl <| F.vl (x_sub (by omega) (by omega) rfl rfl) fun a F => s_grd 24 F rfl rfl rfl <| F.ld mf flat3 rfl rfl fun a F => s_grd 24 F rfl rfl rfl <| F.vl (geqT (by omega) rfl rfl) fun a F => F.vl (x_pick (b := true) rfl rfl) fun a F => ?_
    refine s_end (K5 _ _ ?_)
    refine wp_if F rfl ?_
    refine wp_region_lit ?_
    refine F.vl (x_fa0 fa27_1 rfl) fun a F => F.ld m6 flat3 rfl rfl fun a F => F.ld mb flat3 rfl rfl fun a F => ?_
    refine s_callS [_, _] F E127 rfl (by decide) (plus78 x.n b w12 (by omega) (by have := hrng hk9.1; unfold in64 at this; omega) (by omega)) fun a F => ?_
    refine F.mv rfl fun a F => F.vl (x_imax rfl rfl) fun a F => F.vl (x_fa0 fa27_1 rfl) fun a F => ?_
    refine s_put F rfl rfl flat3 m10 (by first | (simp; done) | (simp [tc, lc]; done) | decide) rfl fun w14 m10 o15 => ?_
    have so15 := o15.size
    have hQ := hQ.only o15 (by omega)
    have m9 := m9.only o15 (by omega)
    have hR := hR.only o15 (by omega)
    have hy9 := hy9.only o15 (by first | (intro h; have h2 := h.2; omega) | (intro h; rcases h.1 with h1 | h1; (have := hA _ h1; omega); (have := h.2; omega)) | (intro h; rcases h.1 with h1 | h1; (have := h1.2; omega); (have := h.2; omega)) | (intro h; rcases h.1 with h1 | h1; (exact hAS _ h1.1 rfl); (have := h.2; omega)) | (intro h; rcases h with h | h; (have := hA _ h; omega); omega) | (intro h; have := hA _ h; omega) | (intro h; rcases h with h | h; (have := h.2; omega); omega) | exact Ar.nbr | exact Ai.nbr | exact Ar.no (by omega) | exact Ai.no (by omega))
    refine s_end (K3 _ _ ?_)
    obtain ⟨n9, mm9, rfl⟩ := hx.var_of hk9.1
    have hn9 : x.n = n9 := hx.2.1
    have hri := hrng hk9.1
    unfold in64 at hri
    obtain ⟨c9, hc9, he9⟩ := hy9
    have hc9v : ∃ m, c9 = .var n9 m := by cases c9 <;> simp [nodeP, CT.ess] at he9; exact ⟨_, by rw [he9]⟩
    obtain ⟨mm8, rfl⟩ := hc9v
    have hyn9 : y9.n = n9 := hc9.2.1
    have hG9 : Gl f b (.var n9 mm9) d ps = .var (max (min (x.n + b) 9223372036854775807) d) := by simp only [Gl]; rw [liftN, ← hn9, if_pos ⟨hk9.2.1, hk9.2.2⟩]
    have hz9 : RE w14 (fun k => ((AS A s k ∧ k < W.heap.size) ∨ w4.heap.size ≤ k) ∧ k < w6.heap.size) (Gl f b (.var n9 mm9) d ps) ⟨y9.k, max (min (x.n + b) 9223372036854775807) d, y9.s, y9.l, y9.ls, y9.ts⟩ := by rw [hG9]; exact ⟨.var (max (min (x.n + b) 9223372036854775807) d) mm8, ⟨hc9.1, rfl, by unfold in64; omega, hc9.2.2.2.1, hc9.2.2.2.2⟩, rfl⟩
    have h1Y := hz9.one
    refine wp_rs fun _ K6 => F.vl (x_ldW wide27 m10 rfl rfl) fun a F => ?_
    refine s_putW F rfl rfl (size_wide wide27) m9 rfl h1Y fun w18 m9 o19 => ?_
    have so19 := o19.size
    have hQ := hQ.only o19 (by omega)
    have hR := hR.only o19 (by omega)
    have hz9 := hz9.only o19 (by first | (intro h; have h2 := h.2; omega) | (intro h; rcases h.1 with h1 | h1; (have := hA _ h1; omega); (have := h.2; omega)) | (intro h; rcases h.1 with h1 | h1; (have := h1.2; omega); (have := h.2; omega)) | (intro h; rcases h.1 with h1 | h1; (exact hAS _ h1.1 rfl); (have := h.2; omega)) | (intro h; rcases h with h | h; (have := hA _ h; omega); omega) | (intro h; have := hA _ h; omega) | (intro h; rcases h with h | h; (have := h.2; omega); omega) | exact Ar.nbr | exact Ai.nbr | exact Ar.no (by omega) | exact Ai.no (by omega))
    refine s_end (K6 _ _ ?_)
    refine wp_ret (res_cell F rfl rfl m9 wide27 ⟨_, rfl, ⟨⟨_, rfl, hz9.mono (fun k hk => by rcases hk.1 with hk | hk; (· exact hk.1); exact .inr (by omega)), tt_var⟩, hR⟩, hQ⟩)
  · have hri0 := hrng hk9.1
    unfold in64 at hri0
    refine wp_rs fun _ K7 => F.vl (x_fa0 fa27_0 rfl) fun a F => F.ld m6 flat3 rfl rfl fun a F => F.vl (eqlT (by omega) rfl rfl) fun a F => F.mv rfl fun a F => s_grd 18 F rfl rfl rfl <| F.vl (x_fa0 fa27_1 rfl) fun a F => s_grd 18 F rfl rfl rfl <| F.ld m6 flat3 rfl rfl fun a F => s_grd 18 F rfl rfl rfl <| F.mv rfl fun a F => s_grd 18 F rfl rfl rfl <| F.vl (geqT (by omega) rfl rfl) fun a F => F.vl (x_pick (b := true) rfl rfl) fun a F => F.mv rfl fun a F => s_grd 24 F rfl rfl rfl <| F.vl (x_fa0 fa27_1 rfl) fun a F => s_grd 24 F rfl rfl rfl <| F.ld m6 flat3 rfl rfl fun a F => s_grd 24 F rfl rfl rfl <| F.mv rfl fun a F => s_grd 24 F rfl rfl rfl <| F.vl (x_sub (by omega) (by omega) rfl rfl) fun a F => s_grd 24 F rfl rfl rfl <| F.ld mf flat3 rfl rfl fun a F => s_grd 24 F rfl rfl rfl <| F.vl (geqF (by omega) rfl rfl) fun a F => F.vl (x_pick (b := true) rfl rfl) fun a F => ?_
    refine s_end (K7 _ _ ?_)
    refine wp_if F rfl ?_
    refine wp_skip (K3 _ _ ?_)
    have h1Y := hy9.one
    refine wp_rs fun _ K8 => F.vl (x_ldW wide27 m10 rfl rfl) fun a F => ?_
    refine s_putW F rfl rfl (size_wide wide27) m9 rfl h1Y fun w22 m9 o23 => ?_
    have so23 := o23.size
    have hQ := hQ.only o23 (by omega)
    have hR := hR.only o23 (by omega)
    have hy9 := hy9.only o23 (by first | (intro h; have h2 := h.2; omega) | (intro h; rcases h.1 with h1 | h1; (have := hA _ h1; omega); (have := h.2; omega)) | (intro h; rcases h.1 with h1 | h1; (have := h1.2; omega); (have := h.2; omega)) | (intro h; rcases h.1 with h1 | h1; (exact hAS _ h1.1 rfl); (have := h.2; omega)) | (intro h; rcases h with h | h; (have := hA _ h; omega); omega) | (intro h; have := hA _ h; omega) | (intro h; rcases h with h | h; (have := h.2; omega); omega) | exact Ar.nbr | exact Ai.nbr | exact Ar.no (by omega) | exact Ai.no (by omega))
    refine s_end (K8 _ _ ?_)
    refine wp_ret (res_cell F rfl rfl m9 wide27 ⟨_, rfl, ⟨⟨y9, rfl, by rw [hres (by omega)]; exact hy9.mono (fun k hk => by rcases hk.1 with hk | hk; (· exact hk.1); exact .inr (by omega)), hT9⟩, hR⟩, hQ⟩)
  · skip
    refine wp_rs fun _ K9 => F.vl (x_fa0 fa27_0 rfl) fun a F => F.ld m6 flat3 rfl rfl fun a F => F.vl (eqlT (by omega) rfl rfl) fun a F => F.mv rfl fun a F => s_grd 18 F rfl rfl rfl <| F.vl (x_fa0 fa27_1 rfl) fun a F => s_grd 18 F rfl rfl rfl <| F.ld m6 flat3 rfl rfl fun a F => s_grd 18 F rfl rfl rfl <| F.mv rfl fun a F => s_grd 18 F rfl rfl rfl <| F.vl (geqF (by omega) rfl rfl) fun a F => F.vl (x_pick (b := true) rfl rfl) fun a F => F.mv rfl fun a F => s_grdn 24 F rfl rfl (by decide) fun a F => s_grdn 24 F rfl rfl (by decide) fun a F => s_grdn 24 F rfl rfl (by decide) fun a F => s_grdn 24 F rfl rfl (by decide) fun a F => s_grdn 24 F rfl rfl (by decide) fun a F => s_grdn 24 F rfl rfl (by decide) fun a F => F.vl (x_pick (b := false) rfl rfl) fun a F => ?_
    refine s_end (K9 _ _ ?_)
    refine wp_if F rfl ?_
    refine wp_skip (K3 _ _ ?_)
    have h1Y := hy9.one
    refine wp_rs fun _ K10 => F.vl (x_ldW wide27 m10 rfl rfl) fun a F => ?_
    refine s_putW F rfl rfl (size_wide wide27) m9 rfl h1Y fun w26 m9 o27 => ?_
    have so27 := o27.size
    have hQ := hQ.only o27 (by omega)
    have hR := hR.only o27 (by omega)
    have hy9 := hy9.only o27 (by first | (intro h; have h2 := h.2; omega) | (intro h; rcases h.1 with h1 | h1; (have := hA _ h1; omega); (have := h.2; omega)) | (intro h; rcases h.1 with h1 | h1; (have := h1.2; omega); (have := h.2; omega)) | (intro h; rcases h.1 with h1 | h1; (exact hAS _ h1.1 rfl); (have := h.2; omega)) | (intro h; rcases h with h | h; (have := hA _ h; omega); omega) | (intro h; have := hA _ h; omega) | (intro h; rcases h with h | h; (have := h.2; omega); omega) | exact Ar.nbr | exact Ai.nbr | exact Ar.no (by omega) | exact Ai.no (by omega))
    refine s_end (K10 _ _ ?_)
    refine wp_ret (res_cell F rfl rfl m9 wide27 ⟨_, rfl, ⟨⟨y9, rfl, by rw [hres (by omega)]; exact hy9.mono (fun k hk => by rcases hk.1 with hk | hk; (· exact hk.1); exact .inr (by omega)), hT9⟩, hR⟩, hQ⟩)
  · skip
    refine wp_rs fun _ K11 => F.vl (x_fa0 fa27_0 rfl) fun a F => F.ld m6 flat3 rfl rfl fun a F => F.vl (eqlF (by omega) rfl rfl) fun a F => F.mv rfl fun a F => s_grdn 18 F rfl rfl (by decide) fun a F => s_grdn 18 F rfl rfl (by decide) fun a F => s_grdn 18 F rfl rfl (by decide) fun a F => s_grdn 18 F rfl rfl (by decide) fun a F => F.vl (x_pick (b := false) rfl rfl) fun a F => F.mv rfl fun a F => s_grdn 24 F rfl rfl (by decide) fun a F => s_grdn 24 F rfl rfl (by decide) fun a F => s_grdn 24 F rfl rfl (by decide) fun a F => s_grdn 24 F rfl rfl (by decide) fun a F => s_grdn 24 F rfl rfl (by decide) fun a F => s_grdn 24 F rfl rfl (by decide) fun a F => F.vl (x_pick (b := false) rfl rfl) fun a F => ?_
    refine s_end (K11 _ _ ?_)
    refine wp_if F rfl ?_
    refine wp_skip (K3 _ _ ?_)
    have h1Y := hy9.one
    refine wp_rs fun _ K12 => F.vl (x_ldW wide27 m10 rfl rfl) fun a F => ?_
    refine s_putW F rfl rfl (size_wide wide27) m9 rfl h1Y fun w30 m9 o31 => ?_
    have so31 := o31.size
    have hQ := hQ.only o31 (by omega)
    have hR := hR.only o31 (by omega)
    have hy9 := hy9.only o31 (by first | (intro h; have h2 := h.2; omega) | (intro h; rcases h.1 with h1 | h1; (have := hA _ h1; omega); (have := h.2; omega)) | (intro h; rcases h.1 with h1 | h1; (have := h1.2; omega); (have := h.2; omega)) | (intro h; rcases h.1 with h1 | h1; (exact hAS _ h1.1 rfl); (have := h.2; omega)) | (intro h; rcases h with h | h; (have := hA _ h; omega); omega) | (intro h; have := hA _ h; omega) | (intro h; rcases h with h | h; (have := h.2; omega); omega) | exact Ar.nbr | exact Ai.nbr | exact Ar.no (by omega) | exact Ai.no (by omega))
    refine s_end (K12 _ _ ?_)
    refine wp_ret (res_cell F rfl rfl m9 wide27 ⟨_, rfl, ⟨⟨y9, rfl, by rw [hres (by omega)]; exact hy9.mono (fun k hk => by rcases hk.1 with hk | hk; (· exact hk.1); exact .inr (by omega)), hT9⟩, hR⟩, hQ⟩)
theorem lifted93 (W : World) (br : Nat) (hbr : br < W.heap.size) (A : Nat → Prop) (hA : ∀ k, A k → k ≠ br ∧ k < W.heap.size) (c : CT) (x : C8) (hx : RC W A c x) (f b : Int) (hf : 0 ≤ f) (hb0 : -4611686018427387904 ≤ b) (hdp : (c.dep : Int) ≤ 4611686018427387904) (hR : Room W br) : Calls Try.prog 96 #[.pointer (some ⟨br, 0, none⟩), tv x, .int .i64 f, .int .i64 b] W fun e w' => ∃ u, e = .returned u ∧ ((∃ y, u = tv y ∧ RE w' (AS A W.heap.size) (c.ess.lift f b 0) y) ∧ Room w' br) ∧ Ktw br br W w' := by
 have hQ := Ktw.refl br br W
 have sQ := hQ.size
 have hA2 : ∀ k, A k → k ≠ br ∧ k ≠ br := fun k hk => ⟨(hA k hk).1, (hA k hk).1⟩
 refine calls_fs 12 [(0, .pointer (some ⟨br, 0, none⟩)), (1, tv x), (2, .int .i64 f), (3, .int .i64 b)] Try.func96 rfl rfl rfl rfl rfl fun a F => ?_
 refine wp_rs fun _ K1 => ?_
 refine s_box ([.pointer (some ⟨br, 0, none⟩)]) F (by decide) rfl rfl fun w2 b4 a eb4 m4 B3 zb4 F => ?_
 have sB3 := B3.size
 have hQ := hQ.below B3
 have hR := hR.below B3
 refine s_box (tc x) F (by decide) rfl rfl fun w4 b5 a eb5 m5 B5 zb5 F => ?_
 have sB5 := B5.size
 have hQ := hQ.below B5
 have m4 := m4.old B5
 have hR := hR.below B5
 refine s_box ([.int .i64 f]) F (by decide) rfl rfl fun w6 b6 a eb6 m6 B7 zb6 F => ?_
 have sB7 := B7.size
 have hQ := hQ.below B7
 have m4 := m4.old B7
 have m5 := m5.old B7
 have hR := hR.below B7
 refine s_box ([.int .i64 b]) F (by decide) rfl rfl fun w8 b7 a eb7 m7 B9 zb7 F => ?_
 have sB9 := B9.size
 have hQ := hQ.below B9
 have m4 := m4.old B9
 have m5 := m5.old B9
 have m6 := m6.old B9
 have hR := hR.below B9
 refine s_alloc F (by decide) zero27 fun w10 b8 a eb8 m8 B11 zb8 F => ?_
 have sB11 := B11.size
 have hQ := hQ.below B11
 have m4 := m4.old B11
 have m5 := m5.old B11
 have m6 := m6.old B11
 have m7 := m7.old B11
 have hR := hR.below B11
 refine s_end (K1 _ _ ?_)
 refine wp_rs fun _ K2 => F.vl (x_ldW wide27 m5 rfl rfl) fun a F => F.vl (x_mkf [_, _, _] rfl) fun a F => ?_
 have hx9 := hx.keep hQ.size (fun k hk hb => hQ.block k hb (hA2 k hk))
 have hA9 : ∀ k, A k → k ≠ br ∧ k < w10.heap.size := fun k hk => ⟨(hA k hk).1, by have := (hA k hk).2; omega⟩
 refine s_call (R := fun u w' => ((∃ y, u = tv y ∧ RE w' (AS A w10.heap.size) (c.fold (Gl f b) 0) y ∧ Tt c y) ∧ Room w' br) ∧ Ktw br br w10 w') F [_, _, _] E60 rfl (by decide) (fold88 w10 br (by omega) A hA9 126 [.pointer (some ⟨b4, 0, none⟩), .pointer (some ⟨b6, 0, none⟩), .pointer (some ⟨b7, 0, none⟩)] E126 4611686018427387904 (by decide) (Gl f b) (fun _ => True) (fun _ _ _ _ _ => trivial) (fun W c x d kv ps s h1 h2 h3 h4 h5 h6 h7 h8 h9 _ => clo131 w10 br (by omega) A hA9 f b hf hb0 b4 b6 b7 m4 m6 m7 (by omega) 4611686018427387904 (by decide) W c x d kv ps s h1 h2 h3 h4 h5 h6 h7 h8 h9) (c.size + 1) c x 0 w10 (by omega) hx9 trivial (by decide) (by omega) (Ktw.refl br br _) hR) ?_
 rintro _ w12 a ⟨⟨⟨y9, rfl, hy9, hT9⟩, hR⟩, k13⟩ F
 have sk13 := k13.size
 have hQ := hQ.trans k13 (by omega)
 have m8 := m8.k2 k13 (by omega)
 refine s_putW F rfl rfl (size_wide wide27) m8 rfl hy9.one fun w16 m8 o17 => ?_
 have so17 := o17.size
 have hQ := hQ.only o17 (by omega)
 have hR := hR.only o17 (by omega)
 have hy9 := hy9.only o17 (by first | (intro h; have h2 := h.2; omega) | (intro h; rcases h.1 with h1 | h1; (have := hA _ h1; omega); (have := h.2; omega)) | (intro h; rcases h.1 with h1 | h1; (have := h1.2; omega); (have := h.2; omega)) | (intro h; rcases h.1 with h1 | h1; (exact hAS _ h1.1 rfl); (have := h.2; omega)) | (intro h; rcases h with h | h; (have := hA _ h; omega); omega) | (intro h; have := hA _ h; omega) | (intro h; rcases h with h | h; (have := h.2; omega); omega) | exact Ar.nbr | exact Ai.nbr | exact Ar.no (by omega) | exact Ai.no (by omega))
 refine s_end (K2 _ _ ?_)
 rw [fold_lift] at hy9
 refine wp_ret (res_cell F rfl rfl m8 wide27 ⟨_, rfl, ⟨⟨y9, rfl, hy9.mono (AS.mono (by omega))⟩, hR⟩, hQ⟩)
theorem clo122 (wl : World) (br : Nat) (hbr : br < wl.heap.size) (A : Nat → Prop) (hA : ∀ k, A k → k ≠ br ∧ k < wl.heap.size) (cv : CT) (xv : C8) (hv : RC wl A cv xv) (hvd : (cv.dep : Int) ≤ 4611686018427387904) (bp bv : Nat) (mp : Blk wl bp 63 [.pointer (some ⟨br, 0, none⟩)]) (mv : Blk wl bv 27 (tc xv)) (hne : bp ≠ br ∧ bv ≠ br) (D : Int) (hD : D ≤ 4611686018427387904) (W : World) (c : CT) (x : C8) (d : Int) (kv : Value) (ps : List PT) (s : Nat) (hK : Ktw br br wl W) (hR : Room W br) (hx : RC wl A c x) (hd0 : 0 ≤ d) (hdD : d ≤ D) (hs0 : wl.heap.size ≤ s) (hs1 : s ≤ W.heap.size) (hkv : RKE W (AS A s) kv ps) (hlen : ps.length = c.kids.length) :
    Calls Try.prog 95 ([tv x, .int .i64 d, kv] ++ [Value.pointer (some ⟨bp, 0, none⟩), Value.pointer (some ⟨bv, 0, none⟩)]).toArray W fun e w' => ∃ v, e = .returned v ∧ ((∃ y, v = tv y ∧ RE w' (AS A s) (Gp cv.ess c d ps) y ∧ Tt c y) ∧ Room w' br) ∧ Ktw br br W w' := by
  have hQ := Ktw.refl br br W
  have sQ := hQ.size
  have sK := hK.size
  have hA2 : ∀ k, A k → k ≠ br ∧ k ≠ br := fun k hk => ⟨(hA k hk).1, (hA k hk).1⟩
  have hAS : ∀ k, AS A s k → k ≠ br := fun k hk => by rcases hk with hk | hk; (· exact (hA k hk).1); omega
  have hkv0 := hkv.valid
  have mp := mp.k2 hK (by omega)
  have mv := mv.k2 hK (by omega)
  have hpl := mp.lt
  have hvl := mv.lt
  have hrng : x.k = 1 → in64 x.n := fun h => by
    obtain ⟨n, m, rfl⟩ := hx.var_of h
    have h1 := hx.2.1
    have h2 := hx.2.2.1
    rw [h1]; exact h2
  have hV := CT.isV_eq hx d
  have hres : ¬ (x.k = 1 ∧ d ≤ x.n) → Gp cv.ess c d ps = nodeP c ps := by
    intro h
    cases c with
    | var n m =>
      have h1 := hx.1
      have h2 := hx.2.1
      simp only [Gp, nodeP]
      rw [if_neg (by omega), if_neg (by omega)]
    | _ => rfl
  refine calls_fs 35 [(0, tv x), (1, .int .i64 d), (2, kv), (3, Value.pointer (some ⟨bp, 0, none⟩)), (4, Value.pointer (some ⟨bv, 0, none⟩))] Try.func95 rfl rfl rfl rfl rfl fun a F => ?_
  refine wp_rs fun _ K1 => ?_
  refine s_box (tc x) F (by decide) rfl rfl fun w2 b5 a eb5 m5 B3 zb5 F => ?_
  have sB3 := B3.size
  have hK := hK.below B3
  have hQ := hQ.below B3
  have mp := mp.old B3
  have mv := mv.old B3
  have hR := hR.below B3
  refine s_alloc F (by decide) zero27 fun w4 b8 a eb8 m8 B5 zb8 F => ?_
  have sB5 := B5.size
  have hK := hK.below B5
  have hQ := hQ.below B5
  have mp := mp.old B5
  have mv := mv.old B5
  have m5 := m5.old B5
  have hR := hR.below B5
  refine s_end (K1 _ _ ?_)
  refine wp_seq_k fun _ K2 => ?_
  rcases (show (x.k = 1 ∧ x.n = d) ∨ (x.k = 1 ∧ d < x.n) ∨ (x.k = 1 ∧ x.n < d) ∨ x.k ≠ 1 by omega) with hk9 | hk9 | hk9 | hk9
  · skip
    refine wp_rs fun _ K4 => F.vl (x_ldW wide27 m5 rfl rfl) fun a F => F.mv rfl fun a F => ?_
    have hiv : c.isV d = true := by rw [hV]; simp [hk9.1, hk9.2]
    refine s_callB [_, _] F E94 rfl (by decide) ((isPlace121 c x _ d wl w4 hx).mono fun e w' h => ⟨by rw [h.1, hiv], h.2⟩) fun w6 a B7 F => ?_
    have sB7 := B7.size
    have hK := hK.below B7
    have hQ := hQ.below B7
    have mp := mp.old B7
    have mv := mv.old B7
    have m8 := m8.old B7
    have hR := hR.below B7
    refine s_end (K4 _ _ ?_)
    refine wp_if F rfl ?_
    refine wp_rs fun _ K5 => F.ld mp flat64 rfl rfl fun a F => F.vl (x_ldW wide27 mv rfl rfl) fun a F => F.mv rfl fun a F => ?_
    obtain ⟨n9, mm9, rfl⟩ := hx.var_of hk9.1
    have hn9 : x.n = n9 := hx.2.1
    have hG9 : Gp cv.ess (.var n9 mm9) d ps = cv.ess.lift 0 d 0 := by simp only [Gp]; rw [if_pos (by omega)]
    refine s_call (R := fun u w' => ((∃ y, u = tv y ∧ RE w' (AS A w6.heap.size) (cv.ess.lift 0 d 0) y) ∧ Room w' br) ∧ Ktw br br w6 w') F [_, _, _, _] E96 rfl (by decide) (lifted93 w6 br (by omega) A (fun k hk => ⟨(hA k hk).1, by have := (hA k hk).2; omega⟩) cv xv (hv.keep hK.size (fun k hk hb => hK.block k hb (hA2 k hk))) 0 d (by decide) (by omega) hvd hR) ?_
    rintro _ w8 a ⟨⟨⟨y9, rfl, hy9⟩, hR⟩, k9⟩ F
    have sk9 := k9.size
    have hQ := hQ.trans k9 (by omega)
    have m8 := m8.k2 k9 (by omega)
    refine s_putW F rfl rfl (size_wide wide27) m8 rfl hy9.one fun w12 m8 o13 => ?_
    have so13 := o13.size
    have hQ := hQ.only o13 (by omega)
    have hR := hR.only o13 (by omega)
    have hy9 := hy9.only o13 (by first | (intro h; have h2 := h.2; omega) | (intro h; rcases h.1 with h1 | h1; (have := hA _ h1; omega); (have := h.2; omega)) | (intro h; rcases h.1 with h1 | h1; (have := h1.2; omega); (have := h.2; omega)) | (intro h; rcases h.1 with h1 | h1; (exact hAS _ h1.1 rfl); (have := h.2; omega)) | (intro h; rcases h with h | h; (have := hA _ h; omega); omega) | (intro h; have := hA _ h; omega) | (intro h; rcases h with h | h; (have := h.2; omega); omega) | exact Ar.nbr | exact Ai.nbr | exact Ar.no (by omega) | exact Ai.no (by omega))
    refine s_end (K5 _ _ ?_)
    refine wp_ret (then_ret (res_cell F rfl rfl m8 wide27 ⟨_, rfl, ⟨⟨y9, rfl, by rw [hG9]; exact hy9.mono (AS.mono (by omega)), tt_var⟩, hR⟩, hQ⟩))
  · have hri0 := hrng hk9.1
    unfold in64 at hri0
    refine wp_rs fun _ K6 => F.vl (x_ldW wide27 m5 rfl rfl) fun a F => F.mv rfl fun a F => ?_
    have hiv : c.isV d = false := by rw [hV, decide_eq_false (show ¬ x.n = d by omega), Bool.and_false]
    refine s_callB [_, _] F E94 rfl (by decide) ((isPlace121 c x _ d wl w4 hx).mono fun e w' h => ⟨by rw [h.1, hiv], h.2⟩) fun w14 a B15 F => ?_
    have sB15 := B15.size
    have hK := hK.below B15
    have hQ := hQ.below B15
    have mp := mp.old B15
    have m5 := m5.old B15
    have m8 := m8.old B15
    have hR := hR.below B15
    refine s_end (K6 _ _ ?_)
    refine wp_if F rfl ?_
    refine wp_skip (K2 _ _ ?_)
    refine wp_rs fun _ K7 => F.ld mp flat64 rfl rfl fun a F => F.vl (x_ldW wide27 m5 rfl rfl) fun a F => F.mv rfl fun a F => ?_
    refine s_call (R := fun u w' => ((∃ y, u = tv y ∧ RE w' (fun k => (AS A s k ∧ k < W.heap.size) ∨ w14.heap.size ≤ k) (nodeP c ps) y ∧ y.ts = kv) ∧ Room w' br) ∧ Ktw br br w14 w') F [_, _, _] E64 rfl (by decide) (node92 w14 br (by omega) (fun k => AS A s k ∧ k < W.heap.size) (fun k hk => ⟨hAS k hk.1, by have := hk.2; omega⟩) c x ((hx.keep hK.size (fun k hk hb => hK.block k hb (hA2 k hk))).mono (fun k hk => ⟨.inl hk, by have := hA k hk; omega⟩)) kv ps (hkv0.keep hQ.size (fun k hk hb => hQ.block k hb ⟨hAS k hk.1, hAS k hk.1⟩)) hlen hR) ?_
    rintro _ w16 a ⟨⟨⟨y9, rfl, hy9, ht9⟩, hR⟩, k17⟩ F
    have sk17 := k17.size
    have hQ := hQ.trans k17 (by omega)
    have m5 := m5.k2 k17 (by omega)
    have m8 := m8.k2 k17 (by omega)
    have hy9 := hy9.valid
    have hT9 : Tt c y9 := tt_of hlen hkv0 ht9
    clear ht9
    refine s_alloc F (by decide) zero27 fun w18 b9 a eb9 m9 B19 zb9 F => ?_
    have sB19 := B19.size
    have hQ := hQ.below B19
    have m5 := m5.old B19
    have m8 := m8.old B19
    have hR := hR.below B19
    have hy9 := hy9.below B19
    refine s_putW F rfl rfl (size_wide wide27) m9 rfl hy9.one fun w22 m9 o23 => ?_
    have so23 := o23.size
    have hQ := hQ.only o23 (by omega)
    have m5 := m5.only o23 (by omega)
    have m8 := m8.only o23 (by omega)
    have hR := hR.only o23 (by omega)
    have hy9 := hy9.only o23 (by first | (intro h; have h2 := h.2; omega) | (intro h; rcases h.1 with h1 | h1; (have := hA _ h1; omega); (have := h.2; omega)) | (intro h; rcases h.1 with h1 | h1; (have := h1.2; omega); (have := h.2; omega)) | (intro h; rcases h.1 with h1 | h1; (exact hAS _ h1.1 rfl); (have := h.2; omega)) | (intro h; rcases h with h | h; (have := hA _ h; omega); omega) | (intro h; have := hA _ h; omega) | (intro h; rcases h with h | h; (have := h.2; omega); omega) | exact Ar.nbr | exact Ai.nbr | exact Ar.no (by omega) | exact Ai.no (by omega))
    refine s_end (K7 _ _ ?_)
    refine wp_seq_k fun _ K8 => ?_
    refine wp_rs fun _ K9 => F.vl (x_fa0 fa27_0 rfl) fun a F => F.ld m5 flat3 rfl rfl fun a F => F.vl (eqlT (by omega) rfl rfl) fun a F => F.mv rfl fun a F => s_grd 24 F rfl rfl rfl <| F.vl (x_fa0 fa27_1 rfl) fun a F => s_grd 24 F rfl rfl rfl <| F.ld m5 flat3 rfl rfl fun a F => s_grd 24 F rfl rfl rfl <| F.mv rfl fun a F => s_grd 24 F rfl rfl rfl <| F.vl (gtrT (by omega) rfl rfl) fun a F => F.vl (x_pick (b := true) rfl rfl) fun a F => ?_
    refine s_end (K9 _ _ ?_)
    refine wp_if F rfl ?_
    obtain ⟨n9, mm9, rfl⟩ := hx.var_of hk9.1
    have hn9 : x.n = n9 := hx.2.1
    have hri := hrng hk9.1
    unfold in64 at hri
    obtain ⟨c9, hc9, he9⟩ := hy9
    have hc9v : ∃ m, c9 = .var n9 m := by cases c9 <;> simp [nodeP, CT.ess] at he9; exact ⟨_, by rw [he9]⟩
    obtain ⟨mm8, rfl⟩ := hc9v
    have hyn9 : y9.n = n9 := hc9.2.1
    refine wp_region_lit ?_
    refine F.vl (x_fa0 fa27_1 rfl) fun a F => F.ld m9 flat3 rfl rfl fun a F => F.vl (x_sub (by omega) (by omega) rfl rfl) fun a F => F.vl (x_fa0 fa27_1 rfl) fun a F => ?_
    refine s_put F rfl rfl flat3 m9 (by first | (simp; done) | (simp [tc, lc]; done) | decide) rfl fun w24 m9 o25 => ?_
    have so25 := o25.size
    have hQ := hQ.only o25 (by omega)
    have m8 := m8.only o25 (by omega)
    have hR := hR.only o25 (by omega)
    have hc9 := hc9.only o25 (by first | (intro h; have h2 := h.2; omega) | (intro h; rcases h.1 with h1 | h1; (have := hA _ h1; omega); (have := h.2; omega)) | (intro h; rcases h.1 with h1 | h1; (have := h1.2; omega); (have := h.2; omega)) | (intro h; rcases h.1 with h1 | h1; (exact hAS _ h1.1 rfl); (have := h.2; omega)) | (intro h; rcases h with h | h; (have := hA _ h; omega); omega) | (intro h; have := hA _ h; omega) | (intro h; rcases h with h | h; (have := h.2; omega); omega) | exact Ar.nbr | exact Ai.nbr | exact Ar.no (by omega) | exact Ai.no (by omega))
    refine s_end (K8 _ _ ?_)
    have hG9 : Gp cv.ess (.var n9 mm9) d ps = .var (y9.n - 1) := by simp only [Gp]; rw [if_neg (by omega), if_pos (by omega), hyn9]
    have hz9 : RE w24 (fun k => ((AS A s k ∧ k < W.heap.size) ∨ w14.heap.size ≤ k) ∧ k < w16.heap.size) (Gp cv.ess (.var n9 mm9) d ps) ⟨y9.k, y9.n - 1, y9.s, y9.l, y9.ls, y9.ts⟩ := by rw [hG9]; exact ⟨.var (y9.n - 1) mm8, ⟨hc9.1, rfl, by unfold in64; omega, hc9.2.2.2.1, hc9.2.2.2.2⟩, rfl⟩
    have h1Y := hz9.one
    refine wp_rs fun _ K10 => F.vl (x_ldW wide27 m9 rfl rfl) fun a F => ?_
    refine s_putW F rfl rfl (size_wide wide27) m8 rfl h1Y fun w28 m8 o29 => ?_
    have so29 := o29.size
    have hQ := hQ.only o29 (by omega)
    have hR := hR.only o29 (by omega)
    have hz9 := hz9.only o29 (by first | (intro h; have h2 := h.2; omega) | (intro h; rcases h.1 with h1 | h1; (have := hA _ h1; omega); (have := h.2; omega)) | (intro h; rcases h.1 with h1 | h1; (have := h1.2; omega); (have := h.2; omega)) | (intro h; rcases h.1 with h1 | h1; (exact hAS _ h1.1 rfl); (have := h.2; omega)) | (intro h; rcases h with h | h; (have := hA _ h; omega); omega) | (intro h; have := hA _ h; omega) | (intro h; rcases h with h | h; (have := h.2; omega); omega) | exact Ar.nbr | exact Ai.nbr | exact Ar.no (by omega) | exact Ai.no (by omega))
    refine s_end (K10 _ _ ?_)
    refine wp_ret (res_cell F rfl rfl m8 wide27 ⟨_, rfl, ⟨⟨_, rfl, hz9.mono (fun k hk => by rcases hk.1 with hk | hk; (· exact hk.1); exact .inr (by omega)), tt_var⟩, hR⟩, hQ⟩)
  · have hri0 := hrng hk9.1
    unfold in64 at hri0
    refine wp_rs fun _ K11 => F.vl (x_ldW wide27 m5 rfl rfl) fun a F => F.mv rfl fun a F => ?_
    have hiv : c.isV d = false := by rw [hV]; first | (rw [decide_eq_false (show ¬ x.n = d by omega), Bool.and_false]; done) | (rw [decide_eq_false (show ¬ x.k = 1 by omega), Bool.false_and]; done)
    refine s_callB [_, _] F E94 rfl (by decide) ((isPlace121 c x _ d wl w4 hx).mono fun e w' h => ⟨by rw [h.1, hiv], h.2⟩) fun w30 a B31 F => ?_
    have sB31 := B31.size
    have hK := hK.below B31
    have hQ := hQ.below B31
    have mp := mp.old B31
    have m5 := m5.old B31
    have m8 := m8.old B31
    have hR := hR.below B31
    refine s_end (K11 _ _ ?_)
    refine wp_if F rfl ?_
    refine wp_skip (K2 _ _ ?_)
    refine wp_rs fun _ K12 => F.ld mp flat64 rfl rfl fun a F => F.vl (x_ldW wide27 m5 rfl rfl) fun a F => F.mv rfl fun a F => ?_
    refine s_call (R := fun u w' => ((∃ y, u = tv y ∧ RE w' (fun k => (AS A s k ∧ k < W.heap.size) ∨ w30.heap.size ≤ k) (nodeP c ps) y ∧ y.ts = kv) ∧ Room w' br) ∧ Ktw br br w30 w') F [_, _, _] E64 rfl (by decide) (node92 w30 br (by omega) (fun k => AS A s k ∧ k < W.heap.size) (fun k hk => ⟨hAS k hk.1, by have := hk.2; omega⟩) c x ((hx.keep hK.size (fun k hk hb => hK.block k hb (hA2 k hk))).mono (fun k hk => ⟨.inl hk, by have := hA k hk; omega⟩)) kv ps (hkv0.keep hQ.size (fun k hk hb => hQ.block k hb ⟨hAS k hk.1, hAS k hk.1⟩)) hlen hR) ?_
    rintro _ w32 a ⟨⟨⟨y9, rfl, hy9, ht9⟩, hR⟩, k33⟩ F
    have sk33 := k33.size
    have hQ := hQ.trans k33 (by omega)
    have m5 := m5.k2 k33 (by omega)
    have m8 := m8.k2 k33 (by omega)
    have hy9 := hy9.valid
    have hT9 : Tt c y9 := tt_of hlen hkv0 ht9
    clear ht9
    refine s_alloc F (by decide) zero27 fun w34 b9 a eb9 m9 B35 zb9 F => ?_
    have sB35 := B35.size
    have hQ := hQ.below B35
    have m5 := m5.old B35
    have m8 := m8.old B35
    have hR := hR.below B35
    have hy9 := hy9.below B35
    refine s_putW F rfl rfl (size_wide wide27) m9 rfl hy9.one fun w38 m9 o39 => ?_
    have so39 := o39.size
    have hQ := hQ.only o39 (by omega)
    have m5 := m5.only o39 (by omega)
    have m8 := m8.only o39 (by omega)
    have hR := hR.only o39 (by omega)
    have hy9 := hy9.only o39 (by first | (intro h; have h2 := h.2; omega) | (intro h; rcases h.1 with h1 | h1; (have := hA _ h1; omega); (have := h.2; omega)) | (intro h; rcases h.1 with h1 | h1; (have := h1.2; omega); (have := h.2; omega)) | (intro h; rcases h.1 with h1 | h1; (exact hAS _ h1.1 rfl); (have := h.2; omega)) | (intro h; rcases h with h | h; (have := hA _ h; omega); omega) | (intro h; have := hA _ h; omega) | (intro h; rcases h with h | h; (have := h.2; omega); omega) | exact Ar.nbr | exact Ai.nbr | exact Ar.no (by omega) | exact Ai.no (by omega))
    refine s_end (K12 _ _ ?_)
    refine wp_seq_k fun _ K13 => ?_
    refine wp_rs fun _ K14 => F.vl (x_fa0 fa27_0 rfl) fun a F => F.ld m5 flat3 rfl rfl fun a F => F.vl (eqlT (by omega) rfl rfl) fun a F => F.mv rfl fun a F => s_grd 24 F rfl rfl rfl <| F.vl (x_fa0 fa27_1 rfl) fun a F => s_grd 24 F rfl rfl rfl <| F.ld m5 flat3 rfl rfl fun a F => s_grd 24 F rfl rfl rfl <| F.mv rfl fun a F => s_grd 24 F rfl rfl rfl <| F.vl (gtrF (by omega) rfl rfl) fun a F => F.vl (x_pick (b := true) rfl rfl) fun a F => ?_
    refine s_end (K14 _ _ ?_)
    refine wp_if F rfl ?_
    refine wp_skip (K13 _ _ ?_)
    have h1Y := hy9.one
    refine wp_rs fun _ K15 => F.vl (x_ldW wide27 m9 rfl rfl) fun a F => ?_
    refine s_putW F rfl rfl (size_wide wide27) m8 rfl h1Y fun w42 m8 o43 => ?_
    have so43 := o43.size
    have hQ := hQ.only o43 (by omega)
    have hR := hR.only o43 (by omega)
    have hy9 := hy9.only o43 (by first | (intro h; have h2 := h.2; omega) | (intro h; rcases h.1 with h1 | h1; (have := hA _ h1; omega); (have := h.2; omega)) | (intro h; rcases h.1 with h1 | h1; (have := h1.2; omega); (have := h.2; omega)) | (intro h; rcases h.1 with h1 | h1; (exact hAS _ h1.1 rfl); (have := h.2; omega)) | (intro h; rcases h with h | h; (have := hA _ h; omega); omega) | (intro h; have := hA _ h; omega) | (intro h; rcases h with h | h; (have := h.2; omega); omega) | exact Ar.nbr | exact Ai.nbr | exact Ar.no (by omega) | exact Ai.no (by omega))
    refine s_end (K15 _ _ ?_)
    refine wp_ret (res_cell F rfl rfl m8 wide27 ⟨_, rfl, ⟨⟨y9, rfl, by rw [hres (by omega)]; exact hy9.mono (fun k hk => by rcases hk.1 with hk | hk; (· exact hk.1); exact .inr (by omega)), hT9⟩, hR⟩, hQ⟩)
  · skip
    refine wp_rs fun _ K16 => F.vl (x_ldW wide27 m5 rfl rfl) fun a F => F.mv rfl fun a F => ?_
    have hiv : c.isV d = false := by rw [hV]; first | (rw [decide_eq_false (show ¬ x.n = d by omega), Bool.and_false]; done) | (rw [decide_eq_false (show ¬ x.k = 1 by omega), Bool.false_and]; done)
    refine s_callB [_, _] F E94 rfl (by decide) ((isPlace121 c x _ d wl w4 hx).mono fun e w' h => ⟨by rw [h.1, hiv], h.2⟩) fun w44 a B45 F => ?_
    have sB45 := B45.size
    have hK := hK.below B45
    have hQ := hQ.below B45
    have mp := mp.old B45
    have m5 := m5.old B45
    have m8 := m8.old B45
    have hR := hR.below B45
    refine s_end (K16 _ _ ?_)
    refine wp_if F rfl ?_
    refine wp_skip (K2 _ _ ?_)
    refine wp_rs fun _ K17 => F.ld mp flat64 rfl rfl fun a F => F.vl (x_ldW wide27 m5 rfl rfl) fun a F => F.mv rfl fun a F => ?_
    refine s_call (R := fun u w' => ((∃ y, u = tv y ∧ RE w' (fun k => (AS A s k ∧ k < W.heap.size) ∨ w44.heap.size ≤ k) (nodeP c ps) y ∧ y.ts = kv) ∧ Room w' br) ∧ Ktw br br w44 w') F [_, _, _] E64 rfl (by decide) (node92 w44 br (by omega) (fun k => AS A s k ∧ k < W.heap.size) (fun k hk => ⟨hAS k hk.1, by have := hk.2; omega⟩) c x ((hx.keep hK.size (fun k hk hb => hK.block k hb (hA2 k hk))).mono (fun k hk => ⟨.inl hk, by have := hA k hk; omega⟩)) kv ps (hkv0.keep hQ.size (fun k hk hb => hQ.block k hb ⟨hAS k hk.1, hAS k hk.1⟩)) hlen hR) ?_
    rintro _ w46 a ⟨⟨⟨y9, rfl, hy9, ht9⟩, hR⟩, k47⟩ F
    have sk47 := k47.size
    have hQ := hQ.trans k47 (by omega)
    have m5 := m5.k2 k47 (by omega)
    have m8 := m8.k2 k47 (by omega)
    have hy9 := hy9.valid
    have hT9 : Tt c y9 := tt_of hlen hkv0 ht9
    clear ht9
    refine s_alloc F (by decide) zero27 fun w48 b9 a eb9 m9 B49 zb9 F => ?_
    have sB49 := B49.size
    have hQ := hQ.below B49
    have m5 := m5.old B49
    have m8 := m8.old B49
    have hR := hR.below B49
    have hy9 := hy9.below B49
    refine s_putW F rfl rfl (size_wide wide27) m9 rfl hy9.one fun w52 m9 o53 => ?_
    have so53 := o53.size
    have hQ := hQ.only o53 (by omega)
    have m5 := m5.only o53 (by omega)
    have m8 := m8.only o53 (by omega)
    have hR := hR.only o53 (by omega)
    have hy9 := hy9.only o53 (by first | (intro h; have h2 := h.2; omega) | (intro h; rcases h.1 with h1 | h1; (have := hA _ h1; omega); (have := h.2; omega)) | (intro h; rcases h.1 with h1 | h1; (have := h1.2; omega); (have := h.2; omega)) | (intro h; rcases h.1 with h1 | h1; (exact hAS _ h1.1 rfl); (have := h.2; omega)) | (intro h; rcases h with h | h; (have := hA _ h; omega); omega) | (intro h; have := hA _ h; omega) | (intro h; rcases h with h | h; (have := h.2; omega); omega) | exact Ar.nbr | exact Ai.nbr | exact Ar.no (by omega) | exact Ai.no (by omega))
    refine s_end (K17 _ _ ?_)
    refine wp_seq_k fun _ K18 => ?_
    refine wp_rs fun _ K19 => F.vl (x_fa0 fa27_0 rfl) fun a F => F.ld m5 flat3 rfl rfl fun a F => F.vl (eqlF (by omega) rfl rfl) fun a F => F.mv rfl fun a F => s_grdn 24 F rfl rfl (by decide) fun a F => s_grdn 24 F rfl rfl (by decide) fun a F => s_grdn 24 F rfl rfl (by decide) fun a F => s_grdn 24 F rfl rfl (by decide) fun a F => F.vl (x_pick (b := false) rfl rfl) fun a F => ?_
    refine s_end (K19 _ _ ?_)
    refine wp_if F rfl ?_
    refine wp_skip (K18 _ _ ?_)
    have h1Y := hy9.one
    refine wp_rs fun _ K20 => F.vl (x_ldW wide27 m9 rfl rfl) fun a F => ?_
    refine s_putW F rfl rfl (size_wide wide27) m8 rfl h1Y fun w56 m8 o57 => ?_
    have so57 := o57.size
    have hQ := hQ.only o57 (by omega)
    have hR := hR.only o57 (by omega)
    have hy9 := hy9.only o57 (by first | (intro h; have h2 := h.2; omega) | (intro h; rcases h.1 with h1 | h1; (have := hA _ h1; omega); (have := h.2; omega)) | (intro h; rcases h.1 with h1 | h1; (have := h1.2; omega); (have := h.2; omega)) | (intro h; rcases h.1 with h1 | h1; (exact hAS _ h1.1 rfl); (have := h.2; omega)) | (intro h; rcases h with h | h; (have := hA _ h; omega); omega) | (intro h; have := hA _ h; omega) | (intro h; rcases h with h | h; (have := h.2; omega); omega) | exact Ar.nbr | exact Ai.nbr | exact Ar.no (by omega) | exact Ai.no (by omega))
    refine s_end (K20 _ _ ?_)
    refine wp_ret (res_cell F rfl rfl m8 wide27 ⟨_, rfl, ⟨⟨y9, rfl, by rw [hres (by omega)]; exact hy9.mono (fun k hk => by rcases hk.1 with hk | hk; (· exact hk.1); exact .inr (by omega)), hT9⟩, hR⟩, hQ⟩)
theorem put85 (W : World) (br : Nat) (hbr : br < W.heap.size) (A : Nat → Prop) (hA : ∀ k, A k → k ≠ br ∧ k < W.heap.size) (c : CT) (x : C8) (hx : RC W A c x) (cv : CT) (xv : C8) (hv : RC W A cv xv) (hvd : (cv.dep : Int) ≤ 4611686018427387904) (hdp : (c.dep : Int) ≤ 4611686018427387904) (hR : Room W br) : Calls Try.prog 57 #[.pointer (some ⟨br, 0, none⟩), tv x, tv xv] W fun e w' => ∃ u, e = .returned u ∧ ((∃ y, u = tv y ∧ RE w' (AS A W.heap.size) (PT.put cv.ess c.ess 0) y ∧ Tt c y) ∧ Room w' br) ∧ Ktw br br W w' := by
 have hQ := Ktw.refl br br W
 have sQ := hQ.size
 have hA2 : ∀ k, A k → k ≠ br ∧ k ≠ br := fun k hk => ⟨(hA k hk).1, (hA k hk).1⟩
 refine calls_fs 10 [(0, .pointer (some ⟨br, 0, none⟩)), (1, tv x), (2, tv xv)] Try.func57 rfl rfl rfl rfl rfl fun a F => ?_
 refine wp_rs fun _ K1 => ?_
 refine s_box ([.pointer (some ⟨br, 0, none⟩)]) F (by decide) rfl rfl fun w2 b3 a eb3 m3 B3 zb3 F => ?_
 have sB3 := B3.size
 have hQ := hQ.below B3
 have hR := hR.below B3
 refine s_box (tc x) F (by decide) rfl rfl fun w4 b4 a eb4 m4 B5 zb4 F => ?_
 have sB5 := B5.size
 have hQ := hQ.below B5
 have m3 := m3.old B5
 have hR := hR.below B5
 refine s_box (tc xv) F (by decide) rfl rfl fun w6 b5 a eb5 m5 B7 zb5 F => ?_
 have sB7 := B7.size
 have hQ := hQ.below B7
 have m3 := m3.old B7
 have m4 := m4.old B7
 have hR := hR.below B7
 refine s_alloc F (by decide) zero27 fun w8 b6 a eb6 m6 B9 zb6 F => ?_
 have sB9 := B9.size
 have hQ := hQ.below B9
 have m3 := m3.old B9
 have m4 := m4.old B9
 have m5 := m5.old B9
 have hR := hR.below B9
 refine s_end (K1 _ _ ?_)
 refine wp_rs fun _ K2 => F.vl (x_ldW wide27 m4 rfl rfl) fun a F => F.vl (x_mkf [_, _] rfl) fun a F => ?_
 have hx9 := hx.keep hQ.size (fun k hk hb => hQ.block k hb (hA2 k hk))
 have hA9 : ∀ k, A k → k ≠ br ∧ k < w8.heap.size := fun k hk => ⟨(hA k hk).1, by have := (hA k hk).2; omega⟩
 refine s_call (R := fun u w' => ((∃ y, u = tv y ∧ RE w' (AS A w8.heap.size) (c.fold (Gp cv.ess) 0) y ∧ Tt c y) ∧ Room w' br) ∧ Ktw br br w8 w') F [_, _, _] E60 rfl (by decide) (fold88 w8 br (by omega) A hA9 95 [.pointer (some ⟨b3, 0, none⟩), .pointer (some ⟨b5, 0, none⟩)] E95 4611686018427387904 (by decide) (Gp cv.ess) (fun _ => True) (fun _ _ _ _ _ => trivial) (fun W c x d kv ps s h1 h2 h3 h4 h5 h6 h7 h8 h9 _ => clo122 w8 br (by omega) A hA9 cv xv (hv.keep hQ.size (fun k hk hb => hQ.block k hb (hA2 k hk))) hvd b3 b5 m3 m5 (by omega) 4611686018427387904 (by decide) W c x d kv ps s h1 h2 h3 h4 h5 h6 h7 h8 h9) (c.size + 1) c x 0 w8 (by omega) hx9 trivial (by decide) (by omega) (Ktw.refl br br _) hR) ?_
 rintro _ w10 a ⟨⟨⟨y9, rfl, hy9, hT9⟩, hR⟩, k11⟩ F
 have sk11 := k11.size
 have hQ := hQ.trans k11 (by omega)
 have m6 := m6.k2 k11 (by omega)
 refine s_putW F rfl rfl (size_wide wide27) m6 rfl hy9.one fun w14 m6 o15 => ?_
 have so15 := o15.size
 have hQ := hQ.only o15 (by omega)
 have hR := hR.only o15 (by omega)
 have hy9 := hy9.only o15 (by first | (intro h; have h2 := h.2; omega) | (intro h; rcases h.1 with h1 | h1; (have := hA _ h1; omega); (have := h.2; omega)) | (intro h; rcases h.1 with h1 | h1; (have := h1.2; omega); (have := h.2; omega)) | (intro h; rcases h.1 with h1 | h1; (exact hAS _ h1.1 rfl); (have := h.2; omega)) | (intro h; rcases h with h | h; (have := hA _ h; omega); omega) | (intro h; have := hA _ h; omega) | (intro h; rcases h with h | h; (have := h.2; omega); omega) | exact Ar.nbr | exact Ai.nbr | exact Ar.no (by omega) | exact Ai.no (by omega))
 refine s_end (K2 _ _ ?_)
 rw [fold_put'] at hy9
 refine wp_ret (res_cell F rfl rfl m6 wide27 ⟨_, rfl, ⟨⟨y9, rfl, hy9.mono (AS.mono (by omega)), hT9⟩, hR⟩, hQ⟩)
end Go.Proofs.Ytmkjhdiepkpdoaa

namespace Go.Proofs.Ytmkjhdiepkpdoaa
set_option maxRecDepth 100000
set_option maxHeartbeats 1600000
open Go.RowKit Go.Shelf
set_option linter.unusedVariables false
set_option linter.unusedSimpArgs false
theorem Room.k2 {W W' : World} {br a b : Nat} (h : Room W br) (hK : Ktw a b W W') (hb : br ≠ a ∧ br ≠ b) : Room W' br := let ⟨r, h1, h2⟩ := h; ⟨r, h1.k2 hK hb, h2⟩
/-- Terms, one behind the other. -/
def QT (W : World) (A : Nat → Prop) (zs : List C8) (ps : List PT) : Prop := zs.length = ps.length ∧ ∀ (j : Nat) z p, zs[j]? = some z → ps[j]? = some p → RE W A p z
section
variable {W W' : World} {A B : Nat → Prop} {zs : List C8} {ps : List PT}
theorem QT.nil : QT W A [] [] := ⟨rfl, fun j z p h => by simp at h⟩
theorem QT.mono (h : QT W A zs ps) (hm : ∀ k, A k → B k) : QT W B zs ps := ⟨h.1, fun j z p h1 h2 => (h.2 j z p h1 h2).mono hm⟩
theorem QT.keep (h : QT W A zs ps) (hs : W.heap.size ≤ W'.heap.size) (hk : ∀ k, A k → k < W.heap.size → W'.heap[k]? = W.heap[k]?) : QT W' A zs ps := ⟨h.1, fun j z p h1 h2 => RE.keep hs hk (h.2 j z p h1 h2)⟩
theorem QT.below (h : QT W A zs ps) (hB : Below W.heap.size W W') : QT W' A zs ps := h.keep hB.size fun k _ hk => hB.block k hk
theorem QT.only {c : Nat} (h : QT W A zs ps) (o : Only c W W') (hc : ∀ k, A k → k ≠ c) : QT W' A zs ps := h.keep (Nat.le_of_eq o.size.symm) fun k ha _ => o.block k (hc k ha)
theorem QT.k2 {a b : Nat} (h : QT W A zs ps) (hK : Ktw a b W W') (hc : ∀ k, A k → k ≠ a ∧ k ≠ b) : QT W' A zs ps := h.keep hK.size fun k ha hk => hK.block k hk (hc k ha)
theorem QT.snoc {z : C8} {p : PT} (h : QT W A zs ps) (hz : RE W A p z) : QT W A (zs ++ [z]) (ps ++ [p]) := by
 refine ⟨by simp [h.1], fun j y q e1 e2 => ?_⟩
 rcases Nat.lt_trichotomy j zs.length with hj | hj | hj
 ·
  rw [List.getElem?_append_left hj] at e1
  rw [List.getElem?_append_left (by have := h.1; omega)] at e2
  exact h.2 j y q e1 e2
 ·
  subst hj
  rw [List.getElem?_append_right (Nat.le_refl _)] at e1
  rw [h.1, List.getElem?_append_right (Nat.le_refl _)] at e2
  simp at e1 e2
  subst e1 e2
  exact hz
 ·
  rw [List.getElem?_eq_none (by simp; omega)] at e1
  cases e1
theorem QT.rke {v : Value} (h : QT W A zs ps) (hR : Rd W v 8 zs.length (zs.flatMap tc)) (hA : ∀ j, v.ownBlock = some j → A j) : RKE W A v ps := ⟨zs, ⟨hR, fun _ j hj => hA j hj⟩, h.1, h.2⟩
end
theorem fm8_app (xs : List C8) (y : C8) : (xs ++ [y]).flatMap tc = xs.flatMap tc ++ tc y := by simp
/-- RE, by another name. -/
def REx (W : World) (A : Nat → Prop) (p : PT) (x : C8) : Prop := RE W A p x
section
variable {W W' : World} {A B : Nat → Prop} {p : PT} {x : C8}
theorem REx.below (h : REx W A p x) (hB : Below W.heap.size W W') : REx W' A p x := RE.below h hB
theorem REx.only {c : Nat} (h : REx W A p x) (o : Only c W W') (hc : ∀ k, A k → k ≠ c) : REx W' A p x := RE.only h o (fun ha => hc c ha rfl)
theorem REx.k2 {a b : Nat} (h : REx W A p x) (hK : Ktw a b W W') (hc : ∀ k, A k → k ≠ a ∧ k ≠ b) : REx W' A p x := RE.k2 h hK (fun ha => (hc a ha).1 rfl) (fun hb => (hc b hb).2 rfl)
end
theorem joined60 (W : World) (br : Nat) (hbr : br < W.heap.size) (A : Nat → Prop) (hA : ∀ k, A k → k ≠ br ∧ k < W.heap.size) (kd : Int) (cs : List CT) (v : Value) (hV : RK W A v cs) (hlen : cs.length ≤ 1000000) (hR : Room W br) :
    Calls Try.prog 44 #[.pointer (some ⟨br, 0, none⟩), .int .i64 kd, v] W fun e w' => ∃ u, e = .returned u ∧ ((∃ v', u = tv ⟨kd, 0, emptyB, (0, 0, nilS), nilS, v'⟩ ∧ RKE w' (AS A W.heap.size) v' (cs.map CT.ess)) ∧ Room w' br) ∧ Ktw br br W w' := by
  have hK := Ktw.refl br br W
  have sK := hK.size
  have hA2 : ∀ k, A k → k ≠ br ∧ k ≠ br := fun k hk => ⟨(hA k hk).1, (hA k hk).1⟩
  obtain ⟨av, cv, hve, _⟩ := hV.form
  subst hve
  refine calls_fs 26 [(0, .pointer (some ⟨br, 0, none⟩)), (1, .int .i64 kd), (2, .slice av cs.length cv)] Try.func44 rfl rfl rfl rfl rfl fun a F => ?_
  refine wp_rs fun _ K1 => ?_
  refine s_alloc F (by decide) zero27 fun w2 b6 a eb6 m6 B3 zb6 F => ?_
  have sB3 := B3.size
  have hK := hK.below B3
  have hR := hR.below B3
  refine s_end (K1 _ _ ?_)
  refine wp_rs fun _ K2 => F.sg rfl fun a F => ?_
  refine s_end (K2 _ _ ?_)
  refine wp_seq_k fun _ K3 => ?_
  refine wp_rs fun _ K4 => F.mv rfl fun a F => F.vl (x_len Try.underlying25 rfl) fun a F => F.mv rfl fun a F => ?_
  refine s_end (K4 _ _ ?_)
  refine wp_block ?_
  refine wp_up cs.length (fun i a w => ∃ v' o' zs, w.ownsRow W.heap.size 27 8 v' zs.length (zs.flatMap tc) ∧ (∀ j, v'.ownBlock = some j → j = o') ∧ v'.ownBlock ≠ some b6 ∧ ((o' = b6 ∨ b6 < o') ∧ o' < w.heap.size) ∧ QT w (fun k => ((k < W.heap.size ∧ k ≠ br ∧ A k) ∨ b6 < k) ∧ k ≠ o' ∧ k < w.heap.size) zs ((cs.map CT.ess).take i) ∧ Room w br ∧ Blk w b6 27 z8 ∧ Ktw br br W w ∧ Fs 26 a [(0, .pointer (some ⟨br, 0, none⟩)), (1, .int .i64 kd), (6, .pointer (some ⟨b6, 0, none⟩)), (7, v'), (10, .slice av cs.length cv), (11, .int .i64 (cs.length : Int)), (12, .int .i64 (i : Int))]) ⟨_, b6, [], World.ownsRow_nil _ _ _ _, (fun j h => by cases h), (fun h => by cases h), by have := m6.lt; omega, by rw [List.take_zero]; exact QT.nil, hR, m6, hK, F.sub _ rfl⟩ ?_
  have hb6 : W.heap.size ≤ b6 := by omega
  repeat clear F
  clear hK hR m6
  rintro i a w hi ⟨vv, o2, zs, hO, hat, hne, hlo, hP, hR, m6, hK, F⟩ K' hK'
  have sK := hK.size
  have hb6l := m6.lt
  obtain ⟨top, htop⟩ : ∃ h, h = w.heap.size := ⟨_, rfl⟩
  rw [← htop] at hP
  have hPl := hP.1
  rw [List.length_take, List.length_map] at hPl
  have h1vv := (Rd.own hO).one
  refine wp_rs fun _ K5 => F.vl (x_lss (b := decide (i < cs.length)) (decide_eq_decide.2 (by omega)) rfl rfl) fun a F => ?_
  refine s_end (K5 _ _ ?_)
  refine wp_seq_k fun _ K6 => ?_
  refine wp_iff F rfl (fun hc13 => ?_) (fun hc13 => ?_)
  · obtain ⟨b9, off9, c9, y, p, hve, hp, hry, hAb, hbl, hrow⟩ := hV.row (i := i) (by omega)
    cases hve
    have hAb2 := hA _ hAb
    refine wp_skip (K6 _ _ ?_)
    refine wp_seq_k fun _ K7 => ?_
    refine wp_block ?_
    refine wp_rs fun _ K8 => F.vl (x_ixa rfl rfl (m_ixsK i Try.underlying25 el25.size rfl (by omega))) fun a F => F.vl (x_ldA wide27 (hrow _ (hK.block _ hbl ⟨hAb2.1, hAb2.1⟩)) rfl rfl) fun a F => ?_
    refine s_alloc F (by decide) zero27 fun w4 b9 a eb9 m9 B5 zb9 F => ?_
    have sB5 := B5.size
    have hK := hK.below B5
    have m6 := m6.old B5
    have hO := own_below hO B5
    have hP := hP.below B5
    have hR := hR.below B5
    refine s_putW F rfl rfl (size_wide wide27) m9 rfl hry.one fun w8 m9 o9 => ?_
    have so9 := o9.size
    have hK := hK.only o9 (by omega)
    have m6 := m6.only o9 (by omega)
    have hO := own_only hO o9 (fun e => by have := hat _ e; omega)
    have hP := hP.only o9 (fun k (hk : ((k < W.heap.size ∧ k ≠ br ∧ A k) ∨ b6 < k) ∧ k ≠ o2 ∧ k < top) => by omega)
    have hR := hR.only o9 (by omega)
    refine s_end (K8 _ _ ?_)
    refine wp_region_lit ?_
    refine F.mv rfl fun a F => F.mv rfl fun a F => F.vl (x_ldW wide27 m9 rfl rfl) fun a F => ?_
    refine s_call (R := fun u w' => ((∃ z, u = tv z ∧ REx w' (AS A w8.heap.size) p.ess z) ∧ Room w' br) ∧ Ktw br br w8 w') F [_, _] E41 rfl (by decide) (owned57 w8 br (by omega) A (fun k hk => ⟨(hA k hk).1, by have := (hA k hk).2; omega⟩) p y (hry.keep hK.size (fun k hk hb => hK.block k hb (hA2 k hk))) hR) ?_
    rintro _ w10 a ⟨⟨⟨z, rfl, hz0⟩, hR⟩, k11⟩ F
    have sk11 := k11.size
    have hK := hK.trans k11 (by omega)
    have m6 := m6.k2 k11 (by omega)
    have hO := own_k2 hO k11 (fun c hc => by have := hat c hc; omega)
    have hP := hP.k2 k11 (fun k (hk : ((k < W.heap.size ∧ k ≠ br ∧ A k) ∨ b6 < k) ∧ k ≠ o2 ∧ k < top) => by omega)
    have hz := RE.valid hz0
    clear hz0
    have hz : REx w10 (fun k => ((k < W.heap.size ∧ k ≠ br ∧ A k) ∨ w8.heap.size ≤ k) ∧ k < w10.heap.size) p.ess z := hz.mono (fun k hk => ⟨hk.1.elim (fun h => .inl ⟨(hA k h).2, (hA k h).1, h⟩) .inr, hk.2⟩)
    have h1z := RE.one hz
    refine s_litG [tv z] el25 F (by decide) rfl (by simp [Value.cells, tc]) rfl (by decide) (by decide) fun w12 bl a ebl ml B13 zbl F => ?_
    have sB13 := B13.size
    have hK := hK.below B13
    have m6 := m6.old B13
    have hO := own_below hO B13
    have hP := hP.below B13
    have hz := hz.below B13
    have hR := hR.below B13
    have ml : Blk w12 bl 27 (tc z) := by simpa [Value.cells] using ml
    refine s_appL (o := o2) el25 F (by decide) rfl rfl hO ml rfl h1z hat (by omega) (by omega) (by decide) (by omega) fun v3 w14 a o3 hOn hOatn how hsrc k15 hkeep F => ?_
    have sk15 := k15.size
    have hK := hK.trans k15 (by omega)
    have m6 : Blk w14 b6 _ _ := (hkeep _ m6.lt hne).trans m6
    have hP := hP.k2 k15 (fun k (hk : ((k < W.heap.size ∧ k ≠ br ∧ A k) ∨ b6 < k) ∧ k ≠ o2 ∧ k < top) => by omega)
    have hz := hz.k2 k15 (fun k (hk : ((k < W.heap.size ∧ k ≠ br ∧ A k) ∨ w8.heap.size ≤ k) ∧ k < w10.heap.size) => by omega)
    have hO := hOn
    have hO_at := hOatn
    have hneg : v3.ownBlock ≠ some b6 := fun h => by rcases hsrc b6 h with h | h; exact hne h; omega
    have hR := hR.k2 k15 (by omega)
    refine F.sg rfl fun a F => ?_
    refine s_end (K7 _ _ ?_)
    refine wp_region_lit ?_
    refine F.vl (x_addn (i + 1) (by omega) (by omega) rfl rfl) fun a F => F.mv rfl fun a F => ?_
    have hL2 : (cs.map CT.ess).take (i + 1) = (cs.map CT.ess).take i ++ [p.ess] := take_snoc (by rw [List.getElem?_map, hp]; rfl)
    refine s_end (hK' _ _ (by omega) ⟨v3, o3, zs ++ [z], by rw [fm8_app]; simpa using hO, hO_at, hneg, by omega, by rw [hL2]; exact (hP.mono (fun k (hk : ((k < W.heap.size ∧ k ≠ br ∧ A k) ∨ b6 < k) ∧ k ≠ o2 ∧ k < top) => ⟨hk.1, by omega, by omega⟩)).snoc (RE.mono (fun k (hk : ((k < W.heap.size ∧ k ≠ br ∧ A k) ∨ w8.heap.size ≤ k) ∧ k < w10.heap.size) => ⟨hk.1.elim .inl (fun h => .inr (by omega)), by omega, by omega⟩) hz), hR, m6, hK, F.sub _ rfl⟩)
  · obtain rfl : i = cs.length := by omega
    rw [List.take_of_length_le (by rw [List.length_map]; exact Nat.le_refl _)] at hP
    obtain ⟨avv, nvv, cvv, hvv⟩ : ∃ a n c, vv = .slice a n c := by obtain ⟨a, c, h, _⟩ := (Rd.own hO).form; exact ⟨a, _, c, h⟩
    subst hvv
    refine wp_exit (K3 _ _ ?_)
    refine wp_rs fun _ K9 => F.mv rfl fun a F => F.mv rfl fun a F => F.vl (x_build (vs := [(0, _), (5, _)]) rfl (b27_05 _ _ _ _ _)) fun a F => ?_
    refine s_putW F rfl rfl (size_wide wide27) m6 rfl (one_tc0 _ _ _ _ h1vv) fun w18 m6 o19 => ?_
    have so19 := o19.size
    have hK := hK.only o19 (by omega)
    have hO := own_only hO o19 (hne)
    have hP := hP.only o19 (fun k (hk : ((k < W.heap.size ∧ k ≠ br ∧ A k) ∨ b6 < k) ∧ k ≠ o2 ∧ k < top) => by omega)
    have hR := hR.only o19 (by omega)
    refine s_end (K9 _ _ ?_)
    refine wp_ret (res_cell F rfl rfl m6 wide27 ⟨_, rfl, ⟨⟨_, rfl, (hP.mono (B := AS A W.heap.size) (fun k hk => hk.1.elim (fun h => .inl h.2.2) (fun h => .inr (by omega)))).rke (Rd.own hO) (fun j h => .inr (hO.lt j h).1)⟩, hR⟩, hK⟩)
def plc (o p : Int × Int) : Int × Int := (o.1 + p.1, if 0 < p.1 then max o.2 (p.2 + 1) else o.2)
def Gpl (c : CT) (d : Int) (ps : List (Int × Int)) : Int × Int := if c.isV d then (1, 1) else ps.foldl plc (0, 0)
theorem foldl_plc : ∀ (ps : List (Int × Int)) (o : Int × Int) (M D : Int), 0 ≤ o.1 → 0 ≤ o.2 → o.2 ≤ D + 1 → (∀ p ∈ ps, 0 ≤ p.1 ∧ 0 ≤ p.2 ∧ p.2 ≤ D) → 0 ≤ (ps.foldl plc o).1 ∧ (ps.foldl plc o).1 = o.1 + (ps.map (·.1)).sum ∧ 0 ≤ (ps.foldl plc o).2 ∧ (ps.foldl plc o).2 ≤ D + 1
 | [], o, M, D, h1, h2, h3, _ => by simp; omega
 | p :: ps, o, M, D, h1, h2, h3, h => by
  have hp := h p (by simp)
  have := foldl_plc ps (plc o p) M D (by simp only [plc]; omega) (by simp only [plc]; split <;> omega) (by simp only [plc]; split <;> omega) (fun q hq => h q (by simp [hq]))
  simp only [List.foldl_cons, List.map_cons, List.sum_cons]
  simp only [plc] at this ⊢
  omega
theorem Gpl_rng : ∀ (c : CT) (d : Int), 0 ≤ (c.fold Gpl d).1 ∧ (c.fold Gpl d).1 ≤ c.size ∧ 0 ≤ (c.fold Gpl d).2 ∧ (c.fold Gpl d).2 ≤ c.dep
 | .two k a b m, d => by
  have ha := Gpl_rng a (d + (CT.two k a b m).bnd 0)
  have hb := Gpl_rng b (d + (CT.two k a b m).bnd 1)
  simp only [CT.fold, Gpl, CT.isV, CT.size, CT.dep, List.foldl_cons, List.foldl_nil, plc]
  refine ⟨by simp; omega, by simp; omega, ?_, ?_⟩
  ·
   simp only [Bool.false_eq_true, if_false]; split <;> split <;> omega
  ·
   simp only [Bool.false_eq_true, if_false]; split <;> split <;> omega
 | .lt a b c m, d => by
  have ha := Gpl_rng a (d + (CT.lt a b c m).bnd 0)
  have hb := Gpl_rng b (d + (CT.lt a b c m).bnd 1)
  have hc := Gpl_rng c (d + (CT.lt a b c m).bnd 2)
  simp only [CT.fold, Gpl, CT.isV, CT.size, CT.dep, List.foldl_cons, List.foldl_nil, plc]
  refine ⟨by simp; omega, by simp; omega, ?_, ?_⟩
  ·
   simp only [Bool.false_eq_true, if_false]; split <;> split <;> split <;> omega
  ·
   simp only [Bool.false_eq_true, if_false]; split <;> split <;> split <;> omega
 | .var n m, d => by simp only [CT.fold, Gpl, CT.size, CT.dep]; split <;> simp
 | .sort n m, d => by simp [CT.fold, Gpl, CT.isV, CT.size, CT.dep]
 | .cst s n m, d => by simp [CT.fold, Gpl, CT.isV, CT.size, CT.dep]
 | .odd n m, d => by simp [CT.fold, Gpl, CT.isV, CT.size, CT.dep]
theorem Gpl_kids {c : CT} {d : Int} {p : Int × Int} (h : p ∈ c.folds Gpl d) : 0 ≤ p.1 ∧ p.1 ≤ c.size ∧ 0 ≤ p.2 ∧ p.2 ≤ c.dep := by
 obtain ⟨i, hi, he⟩ := List.getElem_of_mem h
 have hi' : i < c.kids.length := by rw [CT.folds_len] at hi; exact hi
 have h1 := CT.folds_get Gpl (c := c) (d := d) (List.getElem?_eq_getElem hi')
 rw [List.getElem?_eq_getElem hi, he] at h1
 cases h1
 have h2 := Gpl_rng c.kids[i] (d + c.bnd i)
 have h3 := CT.kid_size (List.getElem?_eq_getElem hi')
 omega
theorem plc_take {c : CT} {d : Int} (i : Nat) : 0 ≤ (((c.folds Gpl d).take i).foldl plc (0, 0)).1 ∧ (((c.folds Gpl d).take i).foldl plc (0, 0)).1 ≤ c.kids.length * c.size ∧ 0 ≤ (((c.folds Gpl d).take i).foldl plc (0, 0)).2 ∧ (((c.folds Gpl d).take i).foldl plc (0, 0)).2 ≤ c.dep + 1 := by
 have hm : ∀ p ∈ (c.folds Gpl d).take i, 0 ≤ p.1 ∧ 0 ≤ p.2 ∧ p.2 ≤ (c.dep : Int) := fun p hp => by have := Gpl_kids (List.mem_of_mem_take hp); omega
 obtain ⟨h1, h2, h3, h4⟩ := foldl_plc _ (0, 0) 0 c.dep (by simp) (by simp) (by simp; omega) hm
 refine ⟨h1, ?_, h3, h4⟩
 rw [h2]
 have hs : ∀ (l : List (Int × Int)), (∀ p ∈ l, p.1 ≤ (c.size : Int)) → (l.map (·.1)).sum ≤ l.length * c.size := by
  intro l
  induction l with
  | nil => intro _; simp
  | cons p l ih =>
   intro h
   have h1 := ih (fun q hq => h q (by simp [hq]))
   have h2 := h p (by simp)
   simp only [List.map_cons, List.sum_cons, List.length_cons]
   rw [show ((l.length + 1 : Nat) : Int) * c.size = l.length * c.size + c.size by rw [Int.natCast_add, Int.add_mul]; simp]
   omega
 have h5 := hs ((c.folds Gpl d).take i) (fun p hp => (Gpl_kids (List.mem_of_mem_take hp)).2.1)
 have h6 : ((c.folds Gpl d).take i).length ≤ c.kids.length := by rw [List.length_take, CT.folds_len]; omega
 have h7 : (((c.folds Gpl d).take i).length : Int) * c.size ≤ c.kids.length * c.size := Int.mul_le_mul_of_nonneg_right (by omega) (by omega)
 simp only [Int.zero_add]
 omega
theorem rd_rowP {W : World} {v : Value} {xs : List (Int × Int)} (h : Rd W v 2 xs.length (xs.flatMap enc2)) {i : Nat} (hi : i < xs.length) :
    ∃ b off c x, v = .slice (some ⟨b, off, none⟩) xs.length c ∧ xs[i]? = some x ∧ ∀ W', Below W.heap.size W W' → ∀ j u, (enc2 x)[j]? = some u → W'.cell? ((⟨b, off + i * 2, none⟩ : Addr).add j) = some u := by
  obtain ⟨b, off, c, rfl, hb⟩ := h.some (by omega)
  refine ⟨b, off, c, xs[i], rfl, List.getElem?_eq_getElem hi, fun W' hB j u hj => ?_⟩
  rw [addr_addn, Nat.add_assoc]
  have h2 : ∀ (xs : List (Int × Int)) (i : Nat) (hi : i < xs.length), (enc2 xs[i])[j]? = some u → (xs.flatMap enc2)[i * 2 + j]? = some u := by
    intro xs
    induction xs with
    | nil => intro i hi; simp at hi
    | cons y xs ih =>
      intro i hi hj
      have hj2 : j < 2 := (List.getElem?_eq_some_iff.1 hj).1
      cases i with
      | zero => rw [List.flatMap_cons, List.getElem?_append_left (by simp [enc2]; omega)]; simpa using hj
      | succ i => rw [List.flatMap_cons, List.getElem?_append_right (by simp [enc2]; omega), show (i + 1) * 2 + j - (enc2 y).length = i * 2 + j by simp [enc2]; omega]; exact ih i (by simpa using hi) (by simpa using hj)
  exact (hB.cell (p := ⟨b, off + (i * 2 + j), none⟩) hb).trans (h.cell (h2 xs i hi hj))
theorem clo120 (wl : World) (Sz : Nat) (hSz : Sz ≤ 20000) (D : Int) (hD : D ≤ 2000) (W : World) (c : CT) (x : C8) (d : Int) (kv : Value) (hK : Below wl.heap.size wl W) (hx : RC wl (fun k => k < wl.heap.size) c x) (hs : c.size ≤ Sz) (hd0 : 0 ≤ d) (hdD : d + c.dep ≤ D) (hkv : Rd W kv 2 c.kids.length ((c.folds Gpl d).flatMap enc2)) :
    Calls Try.prog 93 ([tv x, .int .i64 d, kv] ++ []).toArray W fun e w' => e = .returned (.agg (enc2 (Gpl c d (c.folds Gpl d))).toArray) ∧ Below W.heap.size W w' := by
  have hV := CT.isV_eq hx d
  have h3 := c.kids_le
  have hfl := CT.folds_len Gpl c d
  rw [← hfl] at hkv
  obtain ⟨av, cv, hve, _⟩ := hkv.form
  subst hve
  have hT := fun i => plc_take (c := c) (d := d) i
  have hm9 : (c.kids.length : Int) * c.size ≤ 100000 := by
    have : (c.kids.length : Int) * c.size ≤ 3 * 20000 := Int.mul_le_mul (by omega) (by omega) (by omega) (by omega)
    omega
  have hB := Below.refl W.heap.size W
  have sB := hB.size
  refine calls_fs 38 [(0, tv x), (1, .int .i64 d), (2, .slice av (c.folds Gpl d).length cv)] Try.func93 rfl rfl rfl rfl rfl fun a F => ?_
  refine wp_rs fun _ K1 => ?_
  refine s_box (tc x) F (by decide) rfl rfl fun w2 b3 a eb3 m3 B3 zb3 F => ?_
  have sB3 := B3.size
  have hB := bt hB B3
  refine s_alloc F (by decide) zero93 fun w4 b6 a eb6 m6 B5 zb6 F => ?_
  have sB5 := B5.size
  have hB := bt hB B5
  have m3 := m3.old B5
  refine s_end (K1 _ _ ?_)
  refine wp_seq_k fun _ K2 => ?_
  rcases (show (x.k = 1 ∧ x.n = d) ∨ (x.k = 1 ∧ x.n ≠ d) ∨ x.k ≠ 1 by omega) with hk9 | hk9 | hk9
  · skip
    refine wp_rs fun _ K4 => F.vl (x_ldW wide27 m3 rfl rfl) fun a F => F.mv rfl fun a F => ?_
    have hiv : c.isV d = true := by rw [hV]; simp [hk9.1, hk9.2]
    refine s_callB [_, _] F E94 rfl (by decide) ((isPlace121 c x _ d wl w4 hx).mono fun e w' h => ⟨by rw [h.1, hiv], h.2⟩) fun w6 a B7 F => ?_
    have sB7 := B7.size
    have hB := bt hB B7
    have m6 := m6.old B7
    refine s_end (K4 _ _ ?_)
    refine wp_if F rfl ?_
    refine wp_rs fun _ K5 => F.vl (x_build (vs := [(0, _), (1, _)]) rfl (b93_01 _ _ _)) fun a F => ?_
    refine s_putW F rfl rfl (size_wide wide93) m6 rfl (oneII _ _) fun w10 m6 o11 => ?_
    have so11 := o11.size
    have hB := hB.trans (o11.below (by omega))
    refine s_end (K5 _ _ ?_)
    refine wp_ret (then_ret (res_cell (cs := [_, _]) F rfl rfl m6 wide93 ⟨by simp only [Gpl]; rw [if_pos hiv]; rfl, hB⟩))
  · skip
    refine wp_rs fun _ K6 => F.vl (x_ldW wide27 m3 rfl rfl) fun a F => F.mv rfl fun a F => ?_
    have hiv : c.isV d = false := by rw [hV]; first | (rw [decide_eq_false (show ¬ x.n = d by omega), Bool.and_false]; done) | (rw [decide_eq_false (show ¬ x.k = 1 by omega), Bool.false_and]; done)
    refine s_callB [_, _] F E94 rfl (by decide) ((isPlace121 c x _ d wl w4 hx).mono fun e w' h => ⟨by rw [h.1, hiv], h.2⟩) fun w12 a B13 F => ?_
    have sB13 := B13.size
    have hB := bt hB B13
    have m6 := m6.old B13
    refine s_end (K6 _ _ ?_)
    refine wp_if F rfl ?_
    refine wp_skip (K2 _ _ ?_)
    refine wp_rs fun _ K7 => ?_
    refine s_alloc F (by decide) zero93 fun w14 b7 a eb7 m7 B15 zb7 F => ?_
    have sB15 := B15.size
    have hB := bt hB B15
    have m6 := m6.old B15
    refine s_end (K7 _ _ ?_)
    refine wp_seq_k fun _ K8 => ?_
    refine wp_rs fun _ K9 => F.mv rfl fun a F => F.vl (x_len Try.underlying111 rfl) fun a F => F.mv rfl fun a F => ?_
    refine s_end (K9 _ _ ?_)
    refine wp_block ?_
    refine wp_up (c.folds Gpl d).length (fun i a w => Blk w b7 78 [.int .i64 (((c.folds Gpl d).take i).foldl plc (0, 0)).1, .int .i64 (((c.folds Gpl d).take i).foldl plc (0, 0)).2] ∧ Blk w b6 78 [.int .i64 0, .int .i64 0] ∧ Below W.heap.size W w ∧ Fs 38 a [(6, .pointer (some ⟨b6, 0, none⟩)), (7, .pointer (some ⟨b7, 0, none⟩)), (14, .slice av (c.folds Gpl d).length cv), (15, .int .i64 ((c.folds Gpl d).length : Int)), (16, .int .i64 (i : Int))]) ⟨by simpa using m7, m6, hB, F.sub _ rfl⟩ ?_
    repeat clear F
    have hne67 : b6 ≠ b7 ∧ W.heap.size ≤ b6 ∧ W.heap.size ≤ b7 := by omega
    clear hB m6 m7
    rintro i a w hi ⟨m7, m6, hB, F⟩ K' hK'
    have sB := hB.size
    have hTi := hT i
    have h6l := m6.lt
    have h7l := m7.lt
    refine wp_rs fun _ K10 => F.vl (x_lss (b := decide (i < (c.folds Gpl d).length)) (decide_eq_decide.2 (by omega)) rfl rfl) fun a F => ?_
    refine s_end (K10 _ _ ?_)
    refine wp_seq_k fun _ K11 => ?_
    refine wp_iff F rfl (fun hc17 => ?_) (fun hc17 => ?_)
    · obtain ⟨b, off, c9, q, hve, hq, hrow⟩ := rd_rowP hkv (i := i) (by omega)
      cases hve
      have hTi1 := hT (i + 1)
      have hqk := Gpl_kids (List.mem_of_getElem? hq)
      have htk := take_snoc hq
      rw [htk, List.foldl_append, List.foldl_cons, List.foldl_nil] at hTi1
      refine wp_skip (K11 _ _ ?_)
      refine wp_seq_k fun _ K12 => ?_
      refine wp_block ?_
      refine wp_rs fun _ K13 => F.vl (x_ixa rfl rfl (m_ixsK i Try.underlying111 el122.size rfl (by omega))) fun a F => F.vl (x_ldA wide93 (hrow _ hB) rfl rfl) fun a F => ?_
      refine s_alloc F (by decide) zero93 fun w16 b9 a eb9 m9 B17 zb9 F => ?_
      have sB17 := B17.size
      have hB := bt hB B17
      have m6 := m6.old B17
      have m7 := m7.old B17
      refine s_putW F rfl rfl (size_wide wide93) m9 rfl (oneII _ _) fun w20 m9 o21 => ?_
      have so21 := o21.size
      have hB := hB.trans (o21.below (by omega))
      have m6 := m6.only o21 (by omega)
      have m7 := m7.only o21 (by omega)
      refine s_end (K13 _ _ ?_)
      refine wp_rs fun _ K14 => F.vl (x_fa0 fa93_0 rfl) fun a F => F.ld m7 flat3 rfl rfl fun a F => F.vl (x_fa0 fa93_0 rfl) fun a F => F.ld m9 flat3 rfl rfl fun a F => F.vl (x_add (by omega) (by omega) rfl rfl) fun a F => F.vl (x_fa0 fa93_0 rfl) fun a F => ?_
      refine s_put F rfl rfl flat3 m7 (by first | (simp; done) | (simp [tc, lc]; done) | decide) rfl fun w22 m7 o23 => ?_
      have so23 := o23.size
      have hB := hB.trans (o23.below (by omega))
      have m6 := m6.only o23 (by omega)
      have m9 := m9.only o23 (by omega)
      refine s_end (K14 _ _ ?_)
      rcases (show 0 < q.1 ∨ ¬ 0 < q.1 by omega) with hk8 | hk8
      · have hpl : plc (((c.folds Gpl d).take i).foldl plc (0, 0)) q = ((((c.folds Gpl d).take i).foldl plc (0, 0)).1 + q.1, max (((c.folds Gpl d).take i).foldl plc (0, 0)).2 (q.2 + 1)) := by simp only [plc]; rw [if_pos hk8]
        refine wp_rs fun _ K16 => F.vl (x_fa0 fa93_0 rfl) fun a F => F.ld m9 flat3 rfl rfl fun a F => F.vl (gtrT (by omega) rfl rfl) fun a F => ?_
        refine s_end (K16 _ _ ?_)
        refine wp_if F rfl ?_
        refine wp_region_lit ?_
        refine F.vl (x_fa0 fa93_1 rfl) fun a F => F.ld m7 flat3 rfl rfl fun a F => F.vl (x_fa0 fa93_1 rfl) fun a F => F.ld m9 flat3 rfl rfl fun a F => F.vl (x_add (by omega) (by omega) rfl rfl) fun a F => F.vl (x_imax rfl rfl) fun a F => F.vl (x_fa0 fa93_1 rfl) fun a F => ?_
        refine s_put F rfl rfl flat3 m7 (by first | (simp; done) | (simp [tc, lc]; done) | decide) rfl fun w24 m7 o25 => ?_
        have so25 := o25.size
        have hB := hB.trans (o25.below (by omega))
        have m6 := m6.only o25 (by omega)
        refine s_end (K12 _ _ ?_)
        refine wp_region_lit ?_
        refine F.vl (x_addn (i + 1) (by omega) (by omega) rfl rfl) fun a F => F.mv rfl fun a F => ?_
        refine s_end (hK' _ _ (by omega) ⟨by rw [htk, List.foldl_append, List.foldl_cons, List.foldl_nil, hpl]; exact m7, m6, hB, F.sub _ rfl⟩)
      · have hpl : plc (((c.folds Gpl d).take i).foldl plc (0, 0)) q = ((((c.folds Gpl d).take i).foldl plc (0, 0)).1 + q.1, (((c.folds Gpl d).take i).foldl plc (0, 0)).2) := by simp only [plc]; rw [if_neg hk8]
        refine wp_rs fun _ K17 => F.vl (x_fa0 fa93_0 rfl) fun a F => F.ld m9 flat3 rfl rfl fun a F => F.vl (gtrF (by omega) rfl rfl) fun a F => ?_
        refine s_end (K17 _ _ ?_)
        refine wp_if F rfl ?_
        refine wp_skip (K12 _ _ ?_)
        refine wp_region_lit ?_
        refine F.vl (x_addn (i + 1) (by omega) (by omega) rfl rfl) fun a F => F.mv rfl fun a F => ?_
        refine s_end (hK' _ _ (by omega) ⟨by rw [htk, List.foldl_append, List.foldl_cons, List.foldl_nil, hpl]; exact m7, m6, hB, F.sub _ rfl⟩)
    · obtain rfl : i = (c.folds Gpl d).length := by omega
      rw [List.take_length] at m7
      refine wp_exit (K8 _ _ ?_)
      refine wp_rs fun _ K18 => F.vl (x_ldW wide93 m7 rfl rfl) fun a F => ?_
      refine s_putW F rfl rfl (size_wide wide93) m6 rfl (oneII _ _) fun w28 m6 o29 => ?_
      have so29 := o29.size
      have hB := hB.trans (o29.below (by omega))
      refine s_end (K18 _ _ ?_)
      refine wp_ret (res_cell (cs := [_, _]) F rfl rfl m6 wide93 ⟨by simp only [Gpl]; rw [if_neg (by rw [hiv]; decide)]; rfl, hB⟩)
  · skip
    refine wp_rs fun _ K19 => F.vl (x_ldW wide27 m3 rfl rfl) fun a F => F.mv rfl fun a F => ?_
    have hiv : c.isV d = false := by rw [hV]; first | (rw [decide_eq_false (show ¬ x.n = d by omega), Bool.and_false]; done) | (rw [decide_eq_false (show ¬ x.k = 1 by omega), Bool.false_and]; done)
    refine s_callB [_, _] F E94 rfl (by decide) ((isPlace121 c x _ d wl w4 hx).mono fun e w' h => ⟨by rw [h.1, hiv], h.2⟩) fun w30 a B31 F => ?_
    have sB31 := B31.size
    have hB := bt hB B31
    have m6 := m6.old B31
    refine s_end (K19 _ _ ?_)
    refine wp_if F rfl ?_
    refine wp_skip (K2 _ _ ?_)
    refine wp_rs fun _ K20 => ?_
    refine s_alloc F (by decide) zero93 fun w32 b7 a eb7 m7 B33 zb7 F => ?_
    have sB33 := B33.size
    have hB := bt hB B33
    have m6 := m6.old B33
    refine s_end (K20 _ _ ?_)
    refine wp_seq_k fun _ K21 => ?_
    refine wp_rs fun _ K22 => F.mv rfl fun a F => F.vl (x_len Try.underlying111 rfl) fun a F => F.mv rfl fun a F => ?_
    refine s_end (K22 _ _ ?_)
    refine wp_block ?_
    refine wp_up (c.folds Gpl d).length (fun i a w => Blk w b7 78 [.int .i64 (((c.folds Gpl d).take i).foldl plc (0, 0)).1, .int .i64 (((c.folds Gpl d).take i).foldl plc (0, 0)).2] ∧ Blk w b6 78 [.int .i64 0, .int .i64 0] ∧ Below W.heap.size W w ∧ Fs 38 a [(6, .pointer (some ⟨b6, 0, none⟩)), (7, .pointer (some ⟨b7, 0, none⟩)), (14, .slice av (c.folds Gpl d).length cv), (15, .int .i64 ((c.folds Gpl d).length : Int)), (16, .int .i64 (i : Int))]) ⟨by simpa using m7, m6, hB, F.sub _ rfl⟩ ?_
    repeat clear F
    have hne67 : b6 ≠ b7 ∧ W.heap.size ≤ b6 ∧ W.heap.size ≤ b7 := by omega
    clear hB m6 m7
    rintro i a w hi ⟨m7, m6, hB, F⟩ K' hK'
    have sB := hB.size
    have hTi := hT i
    have h6l := m6.lt
    have h7l := m7.lt
    refine wp_rs fun _ K23 => F.vl (x_lss (b := decide (i < (c.folds Gpl d).length)) (decide_eq_decide.2 (by omega)) rfl rfl) fun a F => ?_
    refine s_end (K23 _ _ ?_)
    refine wp_seq_k fun _ K24 => ?_
    refine wp_iff F rfl (fun hc17 => ?_) (fun hc17 => ?_)
    · obtain ⟨b, off, c9, q, hve, hq, hrow⟩ := rd_rowP hkv (i := i) (by omega)
      cases hve
      have hTi1 := hT (i + 1)
      have hqk := Gpl_kids (List.mem_of_getElem? hq)
      have htk := take_snoc hq
      rw [htk, List.foldl_append, List.foldl_cons, List.foldl_nil] at hTi1
      refine wp_skip (K24 _ _ ?_)
      refine wp_seq_k fun _ K25 => ?_
      refine wp_block ?_
      refine wp_rs fun _ K26 => F.vl (x_ixa rfl rfl (m_ixsK i Try.underlying111 el122.size rfl (by omega))) fun a F => F.vl (x_ldA wide93 (hrow _ hB) rfl rfl) fun a F => ?_
      refine s_alloc F (by decide) zero93 fun w34 b9 a eb9 m9 B35 zb9 F => ?_
      have sB35 := B35.size
      have hB := bt hB B35
      have m6 := m6.old B35
      have m7 := m7.old B35
      refine s_putW F rfl rfl (size_wide wide93) m9 rfl (oneII _ _) fun w38 m9 o39 => ?_
      have so39 := o39.size
      have hB := hB.trans (o39.below (by omega))
      have m6 := m6.only o39 (by omega)
      have m7 := m7.only o39 (by omega)
      refine s_end (K26 _ _ ?_)
      refine wp_rs fun _ K27 => F.vl (x_fa0 fa93_0 rfl) fun a F => F.ld m7 flat3 rfl rfl fun a F => F.vl (x_fa0 fa93_0 rfl) fun a F => F.ld m9 flat3 rfl rfl fun a F => F.vl (x_add (by omega) (by omega) rfl rfl) fun a F => F.vl (x_fa0 fa93_0 rfl) fun a F => ?_
      refine s_put F rfl rfl flat3 m7 (by first | (simp; done) | (simp [tc, lc]; done) | decide) rfl fun w40 m7 o41 => ?_
      have so41 := o41.size
      have hB := hB.trans (o41.below (by omega))
      have m6 := m6.only o41 (by omega)
      have m9 := m9.only o41 (by omega)
      refine s_end (K27 _ _ ?_)
      rcases (show 0 < q.1 ∨ ¬ 0 < q.1 by omega) with hk8 | hk8
      · have hpl : plc (((c.folds Gpl d).take i).foldl plc (0, 0)) q = ((((c.folds Gpl d).take i).foldl plc (0, 0)).1 + q.1, max (((c.folds Gpl d).take i).foldl plc (0, 0)).2 (q.2 + 1)) := by simp only [plc]; rw [if_pos hk8]
        refine wp_rs fun _ K29 => F.vl (x_fa0 fa93_0 rfl) fun a F => F.ld m9 flat3 rfl rfl fun a F => F.vl (gtrT (by omega) rfl rfl) fun a F => ?_
        refine s_end (K29 _ _ ?_)
        refine wp_if F rfl ?_
        refine wp_region_lit ?_
        refine F.vl (x_fa0 fa93_1 rfl) fun a F => F.ld m7 flat3 rfl rfl fun a F => F.vl (x_fa0 fa93_1 rfl) fun a F => F.ld m9 flat3 rfl rfl fun a F => F.vl (x_add (by omega) (by omega) rfl rfl) fun a F => F.vl (x_imax rfl rfl) fun a F => F.vl (x_fa0 fa93_1 rfl) fun a F => ?_
        refine s_put F rfl rfl flat3 m7 (by first | (simp; done) | (simp [tc, lc]; done) | decide) rfl fun w42 m7 o43 => ?_
        have so43 := o43.size
        have hB := hB.trans (o43.below (by omega))
        have m6 := m6.only o43 (by omega)
        refine s_end (K25 _ _ ?_)
        refine wp_region_lit ?_
        refine F.vl (x_addn (i + 1) (by omega) (by omega) rfl rfl) fun a F => F.mv rfl fun a F => ?_
        refine s_end (hK' _ _ (by omega) ⟨by rw [htk, List.foldl_append, List.foldl_cons, List.foldl_nil, hpl]; exact m7, m6, hB, F.sub _ rfl⟩)
      · have hpl : plc (((c.folds Gpl d).take i).foldl plc (0, 0)) q = ((((c.folds Gpl d).take i).foldl plc (0, 0)).1 + q.1, (((c.folds Gpl d).take i).foldl plc (0, 0)).2) := by simp only [plc]; rw [if_neg hk8]
        refine wp_rs fun _ K30 => F.vl (x_fa0 fa93_0 rfl) fun a F => F.ld m9 flat3 rfl rfl fun a F => F.vl (gtrF (by omega) rfl rfl) fun a F => ?_
        refine s_end (K30 _ _ ?_)
        refine wp_if F rfl ?_
        refine wp_skip (K25 _ _ ?_)
        refine wp_region_lit ?_
        refine F.vl (x_addn (i + 1) (by omega) (by omega) rfl rfl) fun a F => F.mv rfl fun a F => ?_
        refine s_end (hK' _ _ (by omega) ⟨by rw [htk, List.foldl_append, List.foldl_cons, List.foldl_nil, hpl]; exact m7, m6, hB, F.sub _ rfl⟩)
    · obtain rfl : i = (c.folds Gpl d).length := by omega
      rw [List.take_length] at m7
      refine wp_exit (K21 _ _ ?_)
      refine wp_rs fun _ K31 => F.vl (x_ldW wide93 m7 rfl rfl) fun a F => ?_
      refine s_putW F rfl rfl (size_wide wide93) m6 rfl (oneII _ _) fun w46 m6 o47 => ?_
      have so47 := o47.size
      have hB := hB.trans (o47.below (by omega))
      refine s_end (K31 _ _ ?_)
      refine wp_ret (res_cell (cs := [_, _]) F rfl rfl m6 wide93 ⟨by simp only [Gpl]; rw [if_neg (by rw [hiv]; decide)]; rfl, hB⟩)
end Go.Proofs.Ytmkjhdiepkpdoaa
