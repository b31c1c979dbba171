/- count and takes. -/
import Derived.Test.YtaclncmkdpjnlaaTerm6
namespace Go.Proofs.Ytaclncmkdpjnlaa
open Go.RowKit Go.Shelf
set_option linter.unusedVariables false
set_option linter.unusedSimpArgs false

section
variable {P : Program} {n : Nat} {l : List (Nat × Value)} {w : World}
theorem x_quon {t t' : TypeId} {x y : Operand} {p q : Int} (r : Int) (h0 : 0 < q) (hp : 0 ≤ p) (hp2 : p < 9223372036854775808) (h1 : p / q = r) (hx : ov l x = some (.int .i64 p)) (hy : ov l y = some (.int .i64 q)) : Runs P n l w (.binOp .quo t x y t') (.int .i64 r) :=
  x_bin hx hy (b_int fun W => by
    have h2 : p.tdiv q = r := by rw [Int.tdiv_eq_ediv_of_nonneg hp]; exact h1
    have h3 : 0 ≤ r := by rw [← h1]; exact Int.ediv_nonneg hp (by omega)
    have h4 : r ≤ p := by rw [← h1]; exact Int.ediv_le_self _ hp
    simp [binOp, Op.intDiv, show q ≠ 0 by omega, h2, wrap_i64 (by omega : -9223372036854775808 ≤ r) (by omega)])
end
def Lv.kids : Lv → List Lv
  | .mk _ _ ls => ls
theorem Lv.kids_sz : ∀ l : Lv, l.sz = Lv.szs l.kids + 1
  | .mk _ _ _ => rfl
theorem RLn.kids {W : World} {A : Nat → Prop} {x : C3} {l : Lv} (h : RLn W A x l) : RVn W A x.2.2 l.kids := by
  cases h with
  | mk hR hl hk => exact ⟨_, hR, hl, hk⟩
theorem RVn.row {W : World} {A : Nat → Prop} {v : Value} {ls : List Lv} (h : RVn W A v ls) {i : Nat} (hi : i < ls.length) :
    ∃ b off c x y, v = .slice (some ⟨b, off, none⟩) ls.length c ∧ ls[i]? = some y ∧ RLn W A x y ∧ A b ∧ b < W.heap.size ∧ ∀ W' : World, W'.heap[b]? = W.heap[b]? → ∀ j u, (lc x)[j]? = some u → W'.cell? ((⟨b, off + i * 3, none⟩ : Addr).add j) = some u := by
  obtain ⟨xs, h1, h2, h3⟩ := h
  obtain ⟨b, off, c, rfl, hb⟩ := h1.1.some (by omega)
  refine ⟨b, off, c, xs[i]'(by omega), ls[i], by rw [h2], List.getElem?_eq_getElem hi, h3 i _ _ (List.getElem?_eq_getElem (by omega)) (List.getElem?_eq_getElem hi), h1.2 (by omega) b rfl, hb, fun W' hB j u hj => ?_⟩
  rw [addr_addn, Nat.add_assoc]
  exact (World.cell?_of_block (w := W) (a := ⟨b, off + (i * 3 + j), none⟩) hB).trans (h1.1.cell (fm3_get xs i j _ u (List.getElem?_eq_getElem (by omega)) hj))
def sumT (cs : List CT) : Nat := (cs.map CT.size).sum
theorem CT.kids_sum (c : CT) : c.size = sumT c.kids + 1 := by cases c <;> simp [CT.size, sumT, CT.kids]; omega
theorem sumT_get {cs : List CT} {i : Nat} {p : CT} (h : cs[i]? = some p) : p.size ≤ sumT cs := by
  have hm : p ∈ cs := List.mem_of_getElem? h
  clear h
  induction cs with
  | nil => cases hm
  | cons c cs ih =>
    simp only [sumT, List.map_cons, List.sum_cons]
    rcases List.mem_cons.1 hm with rfl | hm'
    · omega
    · have := ih hm'
      simp only [sumT] at this
      omega
theorem szs_get {ls : List Lv} {i : Nat} {p : Lv} (h : ls[i]? = some p) : p.sz ≤ Lv.szs ls := by
  have := szs_take h
  have := szs_le ls (i + 1)
  omega
theorem CT.dep_kids {c : CT} {n : Nat} (h : ∀ k ∈ c.kids, k.dep ≤ n) : c.dep ≤ n + 1 := by
  cases c <;> simp only [CT.kids, List.mem_cons, List.not_mem_nil, or_false, forall_eq_or_imp, forall_eq, CT.dep] at h ⊢ <;> omega

set_option maxRecDepth 100000 in
set_option maxHeartbeats 1600000 in
theorem kidsL144 (x : C3) (w0 : World) (h1 : x.2.2.oneCell' = true) : Calls Try.prog 129 #[lv x] w0 fun e w' => e = .returned x.2.2 ∧ Below w0.heap.size w0 w' := by
  have hB := Below.refl w0.heap.size w0
  have sB := hB.size
  refine calls_fs 5 [(0, lv x)] Try.func129 rfl rfl rfl rfl rfl fun a hF => ?_
  refine wp_rs fun K1 hK1 => ?_
  refine s_box (lc x) hF (by decide) rfl rfl fun w2 b1 a eb1 m1 B3 zb1 hF => ?_
  have sB3 := B3.size
  have hB := hB.trans (B3.mono hB.size)
  refine s_val hF (x_assign rfl) (by decide) fun a hF => ?_
  refine s_end (hK1 _ _ ?_)
  refine wp_rs fun K2 hK2 => ?_
  refine s_val hF (x_fa0 fa24_2 rfl) (by decide) fun a hF => ?_
  refine s_val hF (x_load rfl (m_load flat22 (m1.cell (j := 2) rfl))) (by decide) fun a hF => ?_
  refine s_val hF (x_assign rfl) (by decide) fun a hF => ?_
  refine s_end (hK2 _ _ ?_)
  refine wp_ret (res_slot hF rfl rfl ⟨rfl, hB⟩)

set_option maxRecDepth 100000 in
set_option maxHeartbeats 1600000 in
theorem count152 (w0 : World) (br : Nat) (hbr : br < w0.heap.size) : ∀ (N : Nat) (cs : List Lv) (v : Value), Lv.szs cs < N → RVn w0 (Ai w0.heap.size br) v cs → ∀ (d : Nat) (w1 : World), d ≤ 65536 → Ktw br br w0 w1 → Room w1 br →
    Calls Try.prog 137 #[.pointer (some ⟨br, 0, none⟩), v, .int .i64 40, .int .i64 (d : Int), .func (.func 129) #[] #[]] w1 fun e w' => ∃ u, e = .returned u ∧ ((∃ b, u = .bool b ∧ (b = true → cs.length * 40 ≤ 2147483647)) ∧ Room w' br) ∧ Ktw br br w1 w' := by
  intro N
  induction N with
  | zero => intro cs v h; omega
  | succ N ih =>
  intro cs v hN hV d w1 hd1 hK hR
  obtain ⟨av, cv, rfl, _⟩ := hV.form
  have hQ := Ktw.refl br br w1
  have sK := hK.size
  have sQ := hQ.size
  obtain ⟨r, mr, hr0, hr1⟩ := hR
  refine calls_fs 57 [(0, .pointer (some ⟨br, 0, none⟩)), (1, .slice av cs.length cv), (2, .int .i64 40), (3, .int .i64 (d : Int)), (4, .func (.func 129) #[] #[])] Try.func137 rfl rfl rfl rfl rfl fun a hF => ?_
  refine wp_rs fun K1 hK1 => ?_
  refine s_val hF (x_assign rfl) (by decide) fun a hF => ?_
  refine s_end (hK1 _ _ ?_)
  refine wp_seq_k fun K2 hK2 => ?_
  rcases (show cs.length = 0 ∨ 0 < cs.length by omega) with hk9 | hk9
  · skip
    refine wp_rs fun K4 hK4 => ?_
    refine s_val hF (x_move rfl) (by decide) fun a hF => ?_
    refine s_val hF (x_len Try.underlying22 rfl) (by decide) fun a hF => ?_
    refine s_val hF (x_eql (b := true) (decide_eq_true (by omega)) rfl rfl) (by decide) fun a hF => ?_
    refine s_end (hK4 _ _ ?_)
    refine wp_if hF rfl ?_
    refine wp_rs fun K5 hK5 => ?_
    refine s_val hF (x_assign rfl) (by decide) fun a hF => ?_
    refine s_end (hK5 _ _ ?_)
    refine wp_ret (then_ret (res_slot hF rfl rfl ⟨_, rfl, ⟨⟨true, rfl, fun _ => by omega⟩, ⟨r, mr, hr0, hr1⟩⟩, hQ⟩))
  · skip
    refine wp_rs fun K6 hK6 => ?_
    refine s_val hF (x_move rfl) (by decide) fun a hF => ?_
    refine s_val hF (x_len Try.underlying22 rfl) (by decide) fun a hF => ?_
    refine s_val hF (x_eql (b := false) (decide_eq_false (by omega)) rfl rfl) (by decide) fun a hF => ?_
    refine s_end (hK6 _ _ ?_)
    refine wp_if hF rfl ?_
    refine wp_skip (hK2 _ _ ?_)
    refine wp_seq_k fun K7 hK7 => ?_
    rcases (show d = 0 ∨ (d ≠ 0 ∧ r / 40 < (cs.length : Int)) ∨ (d ≠ 0 ∧ (cs.length : Int) ≤ r / 40) by omega) with hk8 | hk8 | hk8
    · skip
      refine wp_rs fun K9 hK9 => ?_
      refine s_val hF (x_move rfl) (by decide) fun a hF => ?_
      refine s_val hF (x_eql (b := true) (decide_eq_true (by omega)) rfl rfl) (by decide) fun a hF => ?_
      refine s_val hF (x_move rfl) (by decide) fun a hF => ?_
      refine s_grdn 18 hF rfl rfl (by decide) fun a hF => ?_
      refine s_grdn 18 hF rfl rfl (by decide) fun a hF => ?_
      refine s_grdn 18 hF rfl rfl (by decide) fun a hF => ?_
      refine s_grdn 18 hF rfl rfl (by decide) fun a hF => ?_
      refine s_grdn 18 hF rfl rfl (by decide) fun a hF => ?_
      refine s_grdn 18 hF rfl rfl (by decide) fun a hF => ?_
      refine s_grdn 18 hF rfl rfl (by decide) fun a hF => ?_
      refine s_grdn 18 hF rfl rfl (by decide) fun a hF => ?_
      refine s_grdn 18 hF rfl rfl (by decide) fun a hF => ?_
      refine s_val hF (x_pick (b := true) rfl rfl) (by decide) fun a hF => ?_
      refine s_end (hK9 _ _ ?_)
      refine wp_if hF rfl ?_
      refine wp_rs fun K10 hK10 => ?_
      refine s_val hF (x_assign rfl) (by decide) fun a hF => ?_
      refine s_end (hK10 _ _ ?_)
      refine wp_ret (then_ret (res_slot hF rfl rfl ⟨_, rfl, ⟨⟨false, rfl, fun h => by cases h⟩, ⟨r, mr, hr0, hr1⟩⟩, hQ⟩))
    · skip
      refine wp_rs fun K11 hK11 => ?_
      refine s_val hF (x_move rfl) (by decide) fun a hF => ?_
      refine s_val hF (x_eql (b := false) (decide_eq_false (by omega)) rfl rfl) (by decide) fun a hF => ?_
      refine s_val hF (x_move rfl) (by decide) fun a hF => ?_
      refine s_grd 18 hF rfl rfl rfl ?_
      refine s_val hF (x_move rfl) (by decide) fun a hF => ?_
      refine s_grd 18 hF rfl rfl rfl ?_
      refine s_val hF (x_len Try.underlying22 rfl) (by decide) fun a hF => ?_
      refine s_grd 18 hF rfl rfl rfl ?_
      refine s_val hF (x_move rfl) (by decide) fun a hF => ?_
      refine s_grd 18 hF rfl rfl rfl ?_
      refine s_val hF (x_nil rfl) (by decide) fun a hF => ?_
      refine s_grd 18 hF rfl rfl rfl ?_
      refine s_val hF (x_fa0 fa110_0 rfl) (by decide) fun a hF => ?_
      refine s_grd 18 hF rfl rfl rfl ?_
      refine s_val hF (x_load rfl (m_load flat3 (mr.cell (j := 0) rfl))) (by decide) fun a hF => ?_
      refine s_grd 18 hF rfl rfl rfl ?_
      refine s_val hF (x_move rfl) (by decide) fun a hF => ?_
      refine s_grd 18 hF rfl rfl rfl ?_
      refine s_val hF (x_quon (r / 40) (by decide) hr0 (by omega) rfl rfl rfl) (by decide) fun a hF => ?_
      refine s_grd 18 hF rfl rfl rfl ?_
      refine s_val hF (x_gtr (b := true) (decide_eq_true (by omega)) rfl rfl) (by decide) fun a hF => ?_
      refine s_val hF (x_pick (b := false) rfl rfl) (by decide) fun a hF => ?_
      refine s_end (hK11 _ _ ?_)
      refine wp_if hF rfl ?_
      refine wp_rs fun K12 hK12 => ?_
      refine s_val hF (x_assign rfl) (by decide) fun a hF => ?_
      refine s_end (hK12 _ _ ?_)
      refine wp_ret (then_ret (res_slot hF rfl rfl ⟨_, rfl, ⟨⟨false, rfl, fun h => by cases h⟩, ⟨r, mr, hr0, hr1⟩⟩, hQ⟩))
    · skip
      refine wp_rs fun K13 hK13 => ?_
      refine s_val hF (x_move rfl) (by decide) fun a hF => ?_
      refine s_val hF (x_eql (b := false) (decide_eq_false (by omega)) rfl rfl) (by decide) fun a hF => ?_
      refine s_val hF (x_move rfl) (by decide) fun a hF => ?_
      refine s_grd 18 hF rfl rfl rfl ?_
      refine s_val hF (x_move rfl) (by decide) fun a hF => ?_
      refine s_grd 18 hF rfl rfl rfl ?_
      refine s_val hF (x_len Try.underlying22 rfl) (by decide) fun a hF => ?_
      refine s_grd 18 hF rfl rfl rfl ?_
      refine s_val hF (x_move rfl) (by decide) fun a hF => ?_
      refine s_grd 18 hF rfl rfl rfl ?_
      refine s_val hF (x_nil rfl) (by decide) fun a hF => ?_
      refine s_grd 18 hF rfl rfl rfl ?_
      refine s_val hF (x_fa0 fa110_0 rfl) (by decide) fun a hF => ?_
      refine s_grd 18 hF rfl rfl rfl ?_
      refine s_val hF (x_load rfl (m_load flat3 (mr.cell (j := 0) rfl))) (by decide) fun a hF => ?_
      refine s_grd 18 hF rfl rfl rfl ?_
      refine s_val hF (x_move rfl) (by decide) fun a hF => ?_
      refine s_grd 18 hF rfl rfl rfl ?_
      refine s_val hF (x_quon (r / 40) (by decide) hr0 (by omega) rfl rfl rfl) (by decide) fun a hF => ?_
      refine s_grd 18 hF rfl rfl rfl ?_
      refine s_val hF (x_gtr (b := false) (decide_eq_false (by omega)) rfl rfl) (by decide) fun a hF => ?_
      refine s_val hF (x_pick (b := false) rfl rfl) (by decide) fun a hF => ?_
      refine s_end (hK13 _ _ ?_)
      refine wp_if hF rfl ?_
      refine wp_skip (hK7 _ _ ?_)
      refine wp_rs fun K14 hK14 => ?_
      refine s_val hF (x_move rfl) (by decide) fun a hF => ?_
      refine s_val hF (x_nil rfl) (by decide) fun a hF => ?_
      refine s_val hF (x_fa0 fa110_0 rfl) (by decide) fun a hF => ?_
      refine s_val hF (x_load rfl (m_load flat3 (mr.cell (j := 0) rfl))) (by decide) fun a hF => ?_
      refine s_val hF (x_move rfl) (by decide) fun a hF => ?_
      refine s_val hF (x_len Try.underlying22 rfl) (by decide) fun a hF => ?_
      refine s_val hF (x_move rfl) (by decide) fun a hF => ?_
      refine s_val hF (x_mul (by omega) (by omega) rfl rfl) (by decide) fun a hF => ?_
      refine s_val hF (x_sub (by omega) (by omega) rfl rfl) (by decide) fun a hF => ?_
      refine s_val hF (x_nil rfl) (by decide) fun a hF => ?_
      refine s_val hF (x_fa0 fa110_0 rfl) (by decide) fun a hF => ?_
      refine s_put hF rfl rfl flat3 mr (by first | (simp; done) | decide) rfl fun w2 mr o3 => ?_
      have so3 := o3.size
      have hK := hK.only o3 (by omega)
      have hQ := hQ.only o3 (by omega)
      refine s_end (hK14 _ _ ?_)
      refine wp_seq_k fun K15 hK15 => ?_
      refine wp_rs fun K16 hK16 => ?_
      refine s_val hF (x_move rfl) (by decide) fun a hF => ?_
      refine s_val hF (x_len Try.underlying22 rfl) (by decide) fun a hF => ?_
      refine s_val hF (x_move rfl) (by decide) fun a hF => ?_
      refine s_end (hK16 _ _ ?_)
      refine wp_block ?_
      refine wp_up cs.length (fun i a w => (∃ r : Int, Blk w br 108 [.int .i64 r] ∧ 0 ≤ r ∧ r ≤ 2147483647) ∧ Ktw br br w0 w ∧ Ktw br br w1 w ∧ Fs 57 a [(0, .pointer (some ⟨br, 0, none⟩)), (2, .int .i64 40), (3, .int .i64 (d : Int)), (4, .func (.func 129) #[] #[]), (40, .slice av cs.length cv), (41, .int .i64 (cs.length : Int)), (42, .int .i64 (i : Int))]) ⟨⟨_, mr, by omega, by omega⟩, hK, hQ, hF.sub _ rfl⟩ ?_
      clear hF hK hQ mr
      rintro i a w hi ⟨⟨r2, mr, hr2, hr3⟩, hK, hQ, hF⟩ K' hK'
      have sK := hK.size
      have sQ := hQ.size
      refine wp_rs fun K17 hK17 => ?_
      refine s_val hF (x_lss (b := decide (i < cs.length)) (decide_eq_decide.2 (by omega)) rfl rfl) (by decide) fun a hF => ?_
      refine s_end (hK17 _ _ ?_)
      refine wp_seq_k fun K18 hK18 => ?_
      refine wp_iff hF rfl (fun hc43 => ?_) (fun hc43 => ?_)
      · obtain ⟨b9, off9, c9, y, kd, hve, hyk, hry, hAb, hbl, hrow⟩ := hV.row (i := i) (by omega)
        cases hve
        have hps := szs_get hyk
        have hks := kd.kids_sz
        have hkl := szs_len kd.kids
        refine wp_skip (hK18 _ _ ?_)
        refine wp_seq_k fun K19 hK19 => ?_
        refine wp_block ?_
        refine wp_rs fun K20 hK20 => ?_
        refine s_val hF (x_ixa rfl rfl (m_ixsK i Try.underlying22 el22.size rfl (by omega))) (by decide) fun a hF => ?_
        refine s_val hF (x_ldA wide24 (hrow _ (hK.block _ hbl ⟨hAb.1, hAb.1⟩)) rfl rfl) (by decide) fun a hF => ?_
        refine s_alloc hF (by decide) zero24 fun w4 b12 a eb12 m12 B5 zb12 hF => ?_
        have sB5 := B5.size
        have hK := hK.below B5
        have hQ := hQ.below B5
        have mr := mr.old B5
        refine s_putW hF rfl rfl (size_wide wide24) m12 rfl (one_lc hry.rl.one1) fun w8 m12 o9 => ?_
        have so9 := o9.size
        have hK := hK.only o9 (by omega)
        have hQ := hQ.only o9 (by omega)
        have mr := mr.only o9 (by omega)
        refine s_end (hK20 _ _ ?_)
        refine wp_rs fun K21 hK21 => ?_
        refine s_val hF (x_move rfl) (by decide) fun a hF => ?_
        refine s_val hF (x_move rfl) (by decide) fun a hF => ?_
        refine s_val hF (x_ldW wide24 m12 rfl rfl) (by decide) fun a hF => ?_
        refine s_callC (R := fun v w' => v = y.2.2 ∧ Below w8.heap.size w8 w') (lb := []) hF [_] rfl (enters_of Try.func129 (by kernel_rfl) rfl) rfl (by decide) ((kidsL144 y w8 hry.rl.one1).mono fun e w' h => ⟨_, h.1, rfl, h.2⟩) ?_
        rintro _ w10 a ⟨rfl, B11⟩ hF
        have sB11 := B11.size
        have hK := hK.below B11
        have hQ := hQ.below B11
        have mr := mr.old B11
        have m12 := m12.old B11
        have hkv := hry.kids
        refine s_val hF (x_move rfl) (by decide) fun a hF => ?_
        refine s_val hF (x_move rfl) (by decide) fun a hF => ?_
        refine s_val hF (x_subn (d - 1) (by omega) (by omega) rfl rfl) (by decide) fun a hF => ?_
        refine s_val hF (x_move rfl) (by decide) fun a hF => ?_
        refine s_call (R := fun u w' => ((∃ b, u = .bool b ∧ (b = true → kd.kids.length * 40 ≤ 2147483647)) ∧ Room w' br) ∧ Ktw br br w10 w') hF [_, _, _, _, _] (enters_of Try.func137 (by kernel_rfl) rfl) rfl (by decide) (ih kd.kids _ (by omega) hkv (d - 1) w10 (by omega) hK ⟨_, mr, hr2, hr3⟩) ?_
        rintro _ w12 a ⟨⟨⟨b54, rfl, h54⟩, ⟨r4, mr, hr4, hr5⟩⟩, k13⟩ hF
        have sk13 := k13.size
        have hK := hK.trans k13 (by omega)
        have hQ := hQ.trans k13 (by omega)
        have m12 := m12.k2 k13 (by omega)
        refine s_val hF (x_not rfl) (by decide) fun a hF => ?_
        refine s_end (hK21 _ _ ?_)
        refine wp_ifb hF rfl (fun hc55 => ?_) (fun hc55 => ?_)
        · refine wp_rs fun K22 hK22 => ?_
          refine s_val hF (x_assign rfl) (by decide) fun a hF => ?_
          refine s_end (hK22 _ _ ?_)
          refine wp_ret (inb_ret (then_ret (then_ret (inb_ret (then_ret (res_slot hF rfl rfl ⟨_, rfl, ⟨⟨false, rfl, fun h => by cases h⟩, ⟨r4, mr, hr4, hr5⟩⟩, hQ⟩))))))
        · obtain rfl : b54 = true := by simpa using hc55
          have h55 := h54 rfl
          refine wp_skip (hK19 _ _ ?_)
          refine wp_region_lit ?_
          refine s_val hF (x_addn (i + 1) (by omega) (by omega) rfl rfl) (by decide) fun a hF => ?_
          refine s_val hF (x_move rfl) (by decide) fun a hF => ?_
          refine s_end (hK' _ _ (by omega) ⟨⟨r4, mr, hr4, hr5⟩, hK, hQ, hF.sub _ rfl⟩)
      · obtain rfl : i = cs.length := by omega
        refine wp_exit (hK15 _ _ ?_)
        refine wp_rs fun K23 hK23 => ?_
        refine s_val hF (x_assign rfl) (by decide) fun a hF => ?_
        refine s_end (hK23 _ _ ?_)
        refine wp_ret (res_slot hF rfl rfl ⟨_, rfl, ⟨⟨true, rfl, fun _ => by omega⟩, ⟨r2, mr, hr2, hr3⟩⟩, hQ⟩)

set_option maxRecDepth 100000 in
set_option maxHeartbeats 1600000 in
theorem takes143 (w0 : World) (br : Nat) (hbr : br < w0.heap.size) (cs : List Lv) (v : Value) (hV : RVn w0 (Ai w0.heap.size br) v cs) (w1 : World) (hK : Ktw br br w0 w1) (hR : Room w1 br) :
    Calls Try.prog 128 #[.pointer (some ⟨br, 0, none⟩), v, .int .i64 40, .func (.func 129) #[] #[]] w1 fun e w' => ∃ u, e = .returned u ∧ ((∃ b, u = .bool b ∧ (b = true → cs.length * 40 ≤ 2147483647)) ∧ Room w' br) ∧ Ktw br br w1 w' := by
  have hQ := Ktw.refl br br w1
  have sK := hK.size
  have sQ := hQ.size
  refine calls_fs 18 [(0, .pointer (some ⟨br, 0, none⟩)), (1, v), (2, .int .i64 40), (3, .func (.func 129) #[] #[])] Try.func128 rfl rfl rfl rfl rfl fun a hF => ?_
  refine wp_rs fun K1 hK1 => ?_
  refine s_val hF (x_assign rfl) (by decide) fun a hF => ?_
  refine s_end (hK1 _ _ ?_)
  refine wp_seq_k fun K2 hK2 => ?_
  refine wp_rs fun K3 hK3 => ?_
  refine s_val hF (x_move rfl) (by decide) fun a hF => ?_
  refine s_val hF (x_move rfl) (by decide) fun a hF => ?_
  refine s_val hF (x_move rfl) (by decide) fun a hF => ?_
  refine s_val hF (x_move rfl) (by decide) fun a hF => ?_
  refine s_call (R := fun u w' => ((∃ b, u = .bool b ∧ (b = true → cs.length * 40 ≤ 2147483647)) ∧ Room w' br) ∧ Ktw br br w1 w') hF [_, _, _, _, _] (enters_of Try.func137 (by kernel_rfl) rfl) rfl (by decide) (count152 w0 br hbr (Lv.szs cs + 1) cs v (by omega) hV 65536 w1 (by omega) hK hR) ?_
  rintro _ w2 a ⟨⟨⟨b13, rfl, h13⟩, ⟨r4, mr, hr4, hr5⟩⟩, k3⟩ hF
  have sk3 := k3.size
  have hK := hK.trans k3 (by omega)
  have hQ := hQ.trans k3 (by omega)
  refine s_val hF (x_not rfl) (by decide) fun a hF => ?_
  refine s_end (hK3 _ _ ?_)
  refine wp_ifb hF rfl (fun hc14 => ?_) (fun hc14 => ?_)
  · refine wp_rs fun K4 hK4 => ?_
    refine s_val hF (x_move rfl) (by decide) fun a hF => ?_
    refine s_val hF (x_nil rfl) (by decide) fun a hF => ?_
    refine s_val hF (x_fa0 fa110_0 rfl) (by decide) fun a hF => ?_
    refine s_put hF rfl rfl flat3 mr (by first | (simp; done) | decide) rfl fun w4 mr o5 => ?_
    have so5 := o5.size
    have hK := hK.only o5 (by omega)
    have hQ := hQ.only o5 (by omega)
    refine s_end (hK4 _ _ ?_)
    refine wp_rs fun K5 hK5 => ?_
    refine s_val hF (x_assign rfl) (by decide) fun a hF => ?_
    refine s_end (hK5 _ _ ?_)
    refine wp_ret (then_ret (res_slot hF rfl rfl ⟨_, rfl, ⟨⟨false, rfl, fun h => by cases h⟩, ⟨0, mr, by decide, by decide⟩⟩, hQ⟩))
  · obtain rfl : b13 = true := by simpa using hc14
    have h14 := h13 rfl
    refine wp_skip (hK2 _ _ ?_)
    refine wp_rs fun K6 hK6 => ?_
    refine s_val hF (x_assign rfl) (by decide) fun a hF => ?_
    refine s_end (hK6 _ _ ?_)
    refine wp_ret (res_slot hF rfl rfl ⟨_, rfl, ⟨⟨true, rfl, fun _ => h14⟩, ⟨r4, mr, hr4, hr5⟩⟩, hQ⟩)

set_option maxRecDepth 100000 in
set_option maxHeartbeats 1600000 in
theorem count134 (w0 : World) (br : Nat) (hbr : br < w0.heap.size) : ∀ (N : Nat) (cs : List CT) (v : Value), sumT cs < N → RK w0 (Ai w0.heap.size br) v cs → ∀ (d : Nat) (w1 : World), d ≤ 65536 → Ktw br br w0 w1 → Room w1 br →
    Calls Try.prog 121 #[.pointer (some ⟨br, 0, none⟩), v, .int .i64 120, .int .i64 (d : Int), .func (.func 89) #[] #[]] w1 fun e w' => ∃ u, e = .returned u ∧ ((∃ b, u = .bool b ∧ (b = true → cs.length * 120 ≤ 2147483647 ∧ ∀ c ∈ cs, c.dep ≤ d)) ∧ Room w' br) ∧ Ktw br br w1 w' := by
  intro N
  induction N with
  | zero => intro cs v h; omega
  | succ N ih =>
  intro cs v hN hV d w1 hd1 hK hR
  obtain ⟨av, cv, rfl, _⟩ := hV.form
  have hQ := Ktw.refl br br w1
  have sK := hK.size
  have sQ := hQ.size
  obtain ⟨r, mr, hr0, hr1⟩ := hR
  refine calls_fs 57 [(0, .pointer (some ⟨br, 0, none⟩)), (1, .slice av cs.length cv), (2, .int .i64 120), (3, .int .i64 (d : Int)), (4, .func (.func 89) #[] #[])] Try.func121 rfl rfl rfl rfl rfl fun a hF => ?_
  refine wp_rs fun K1 hK1 => ?_
  refine s_val hF (x_assign rfl) (by decide) fun a hF => ?_
  refine s_end (hK1 _ _ ?_)
  refine wp_seq_k fun K2 hK2 => ?_
  rcases (show cs.length = 0 ∨ 0 < cs.length by omega) with hk9 | hk9
  · skip
    refine wp_rs fun K4 hK4 => ?_
    refine s_val hF (x_move rfl) (by decide) fun a hF => ?_
    refine s_val hF (x_len Try.underlying25 rfl) (by decide) fun a hF => ?_
    refine s_val hF (x_eql (b := true) (decide_eq_true (by omega)) rfl rfl) (by decide) fun a hF => ?_
    refine s_end (hK4 _ _ ?_)
    refine wp_if hF rfl ?_
    refine wp_rs fun K5 hK5 => ?_
    refine s_val hF (x_assign rfl) (by decide) fun a hF => ?_
    refine s_end (hK5 _ _ ?_)
    refine wp_ret (then_ret (res_slot hF rfl rfl ⟨_, rfl, ⟨⟨true, rfl, fun _ => ⟨by omega, fun c hc => by rw [List.eq_nil_of_length_eq_zero (show cs.length = 0 by omega)] at hc; cases hc⟩⟩, ⟨r, mr, hr0, hr1⟩⟩, hQ⟩))
  · skip
    refine wp_rs fun K6 hK6 => ?_
    refine s_val hF (x_move rfl) (by decide) fun a hF => ?_
    refine s_val hF (x_len Try.underlying25 rfl) (by decide) fun a hF => ?_
    refine s_val hF (x_eql (b := false) (decide_eq_false (by omega)) rfl rfl) (by decide) fun a hF => ?_
    refine s_end (hK6 _ _ ?_)
    refine wp_if hF rfl ?_
    refine wp_skip (hK2 _ _ ?_)
    refine wp_seq_k fun K7 hK7 => ?_
    rcases (show d = 0 ∨ (d ≠ 0 ∧ r / 120 < (cs.length : Int)) ∨ (d ≠ 0 ∧ (cs.length : Int) ≤ r / 120) by omega) with hk8 | hk8 | hk8
    · skip
      refine wp_rs fun K9 hK9 => ?_
      refine s_val hF (x_move rfl) (by decide) fun a hF => ?_
      refine s_val hF (x_eql (b := true) (decide_eq_true (by omega)) rfl rfl) (by decide) fun a hF => ?_
      refine s_val hF (x_move rfl) (by decide) fun a hF => ?_
      refine s_grdn 18 hF rfl rfl (by decide) fun a hF => ?_
      refine s_grdn 18 hF rfl rfl (by decide) fun a hF => ?_
      refine s_grdn 18 hF rfl rfl (by decide) fun a hF => ?_
      refine s_grdn 18 hF rfl rfl (by decide) fun a hF => ?_
      refine s_grdn 18 hF rfl rfl (by decide) fun a hF => ?_
      refine s_grdn 18 hF rfl rfl (by decide) fun a hF => ?_
      refine s_grdn 18 hF rfl rfl (by decide) fun a hF => ?_
      refine s_grdn 18 hF rfl rfl (by decide) fun a hF => ?_
      refine s_grdn 18 hF rfl rfl (by decide) fun a hF => ?_
      refine s_val hF (x_pick (b := true) rfl rfl) (by decide) fun a hF => ?_
      refine s_end (hK9 _ _ ?_)
      refine wp_if hF rfl ?_
      refine wp_rs fun K10 hK10 => ?_
      refine s_val hF (x_assign rfl) (by decide) fun a hF => ?_
      refine s_end (hK10 _ _ ?_)
      refine wp_ret (then_ret (res_slot hF rfl rfl ⟨_, rfl, ⟨⟨false, rfl, fun h => by cases h⟩, ⟨r, mr, hr0, hr1⟩⟩, hQ⟩))
    · skip
      refine wp_rs fun K11 hK11 => ?_
      refine s_val hF (x_move rfl) (by decide) fun a hF => ?_
      refine s_val hF (x_eql (b := false) (decide_eq_false (by omega)) rfl rfl) (by decide) fun a hF => ?_
      refine s_val hF (x_move rfl) (by decide) fun a hF => ?_
      refine s_grd 18 hF rfl rfl rfl ?_
      refine s_val hF (x_move rfl) (by decide) fun a hF => ?_
      refine s_grd 18 hF rfl rfl rfl ?_
      refine s_val hF (x_len Try.underlying25 rfl) (by decide) fun a hF => ?_
      refine s_grd 18 hF rfl rfl rfl ?_
      refine s_val hF (x_move rfl) (by decide) fun a hF => ?_
      refine s_grd 18 hF rfl rfl rfl ?_
      refine s_val hF (x_nil rfl) (by decide) fun a hF => ?_
      refine s_grd 18 hF rfl rfl rfl ?_
      refine s_val hF (x_fa0 fa110_0 rfl) (by decide) fun a hF => ?_
      refine s_grd 18 hF rfl rfl rfl ?_
      refine s_val hF (x_load rfl (m_load flat3 (mr.cell (j := 0) rfl))) (by decide) fun a hF => ?_
      refine s_grd 18 hF rfl rfl rfl ?_
      refine s_val hF (x_move rfl) (by decide) fun a hF => ?_
      refine s_grd 18 hF rfl rfl rfl ?_
      refine s_val hF (x_quon (r / 120) (by decide) hr0 (by omega) rfl rfl rfl) (by decide) fun a hF => ?_
      refine s_grd 18 hF rfl rfl rfl ?_
      refine s_val hF (x_gtr (b := true) (decide_eq_true (by omega)) rfl rfl) (by decide) fun a hF => ?_
      refine s_val hF (x_pick (b := false) rfl rfl) (by decide) fun a hF => ?_
      refine s_end (hK11 _ _ ?_)
      refine wp_if hF rfl ?_
      refine wp_rs fun K12 hK12 => ?_
      refine s_val hF (x_assign rfl) (by decide) fun a hF => ?_
      refine s_end (hK12 _ _ ?_)
      refine wp_ret (then_ret (res_slot hF rfl rfl ⟨_, rfl, ⟨⟨false, rfl, fun h => by cases h⟩, ⟨r, mr, hr0, hr1⟩⟩, hQ⟩))
    · skip
      refine wp_rs fun K13 hK13 => ?_
      refine s_val hF (x_move rfl) (by decide) fun a hF => ?_
      refine s_val hF (x_eql (b := false) (decide_eq_false (by omega)) rfl rfl) (by decide) fun a hF => ?_
      refine s_val hF (x_move rfl) (by decide) fun a hF => ?_
      refine s_grd 18 hF rfl rfl rfl ?_
      refine s_val hF (x_move rfl) (by decide) fun a hF => ?_
      refine s_grd 18 hF rfl rfl rfl ?_
      refine s_val hF (x_len Try.underlying25 rfl) (by decide) fun a hF => ?_
      refine s_grd 18 hF rfl rfl rfl ?_
      refine s_val hF (x_move rfl) (by decide) fun a hF => ?_
      refine s_grd 18 hF rfl rfl rfl ?_
      refine s_val hF (x_nil rfl) (by decide) fun a hF => ?_
      refine s_grd 18 hF rfl rfl rfl ?_
      refine s_val hF (x_fa0 fa110_0 rfl) (by decide) fun a hF => ?_
      refine s_grd 18 hF rfl rfl rfl ?_
      refine s_val hF (x_load rfl (m_load flat3 (mr.cell (j := 0) rfl))) (by decide) fun a hF => ?_
      refine s_grd 18 hF rfl rfl rfl ?_
      refine s_val hF (x_move rfl) (by decide) fun a hF => ?_
      refine s_grd 18 hF rfl rfl rfl ?_
      refine s_val hF (x_quon (r / 120) (by decide) hr0 (by omega) rfl rfl rfl) (by decide) fun a hF => ?_
      refine s_grd 18 hF rfl rfl rfl ?_
      refine s_val hF (x_gtr (b := false) (decide_eq_false (by omega)) rfl rfl) (by decide) fun a hF => ?_
      refine s_val hF (x_pick (b := false) rfl rfl) (by decide) fun a hF => ?_
      refine s_end (hK13 _ _ ?_)
      refine wp_if hF rfl ?_
      refine wp_skip (hK7 _ _ ?_)
      refine wp_rs fun K14 hK14 => ?_
      refine s_val hF (x_move rfl) (by decide) fun a hF => ?_
      refine s_val hF (x_nil rfl) (by decide) fun a hF => ?_
      refine s_val hF (x_fa0 fa110_0 rfl) (by decide) fun a hF => ?_
      refine s_val hF (x_load rfl (m_load flat3 (mr.cell (j := 0) rfl))) (by decide) fun a hF => ?_
      refine s_val hF (x_move rfl) (by decide) fun a hF => ?_
      refine s_val hF (x_len Try.underlying25 rfl) (by decide) fun a hF => ?_
      refine s_val hF (x_move rfl) (by decide) fun a hF => ?_
      refine s_val hF (x_mul (by omega) (by omega) rfl rfl) (by decide) fun a hF => ?_
      refine s_val hF (x_sub (by omega) (by omega) rfl rfl) (by decide) fun a hF => ?_
      refine s_val hF (x_nil rfl) (by decide) fun a hF => ?_
      refine s_val hF (x_fa0 fa110_0 rfl) (by decide) fun a hF => ?_
      refine s_put hF rfl rfl flat3 mr (by first | (simp; done) | decide) rfl fun w2 mr o3 => ?_
      have so3 := o3.size
      have hK := hK.only o3 (by omega)
      have hQ := hQ.only o3 (by omega)
      refine s_end (hK14 _ _ ?_)
      refine wp_seq_k fun K15 hK15 => ?_
      refine wp_rs fun K16 hK16 => ?_
      refine s_val hF (x_move rfl) (by decide) fun a hF => ?_
      refine s_val hF (x_len Try.underlying25 rfl) (by decide) fun a hF => ?_
      refine s_val hF (x_move rfl) (by decide) fun a hF => ?_
      refine s_end (hK16 _ _ ?_)
      refine wp_block ?_
      refine wp_up cs.length (fun i a w => (∃ r : Int, Blk w br 108 [.int .i64 r] ∧ 0 ≤ r ∧ r ≤ 2147483647) ∧ Ktw br br w0 w ∧ Ktw br br w1 w ∧ (∀ c ∈ cs.take i, c.dep ≤ d) ∧ Fs 57 a [(0, .pointer (some ⟨br, 0, none⟩)), (2, .int .i64 120), (3, .int .i64 (d : Int)), (4, .func (.func 89) #[] #[]), (40, .slice av cs.length cv), (41, .int .i64 (cs.length : Int)), (42, .int .i64 (i : Int))]) ⟨⟨_, mr, by omega, by omega⟩, hK, hQ, (fun c hc => by simp at hc), hF.sub _ rfl⟩ ?_
      clear hF hK hQ mr
      rintro i a w hi ⟨⟨r2, mr, hr2, hr3⟩, hK, hQ, hdp, hF⟩ K' hK'
      have sK := hK.size
      have sQ := hQ.size
      refine wp_rs fun K17 hK17 => ?_
      refine s_val hF (x_lss (b := decide (i < cs.length)) (decide_eq_decide.2 (by omega)) rfl rfl) (by decide) fun a hF => ?_
      refine s_end (hK17 _ _ ?_)
      refine wp_seq_k fun K18 hK18 => ?_
      refine wp_iff hF rfl (fun hc43 => ?_) (fun hc43 => ?_)
      · obtain ⟨b9, off9, c9, y, kd, hve, hyk, hry, hAb, hbl, hrow⟩ := hV.row (i := i) (by omega)
        cases hve
        have hps := sumT_get hyk
        have hks := kd.kids_sum
        have hk3 := kd.kids_le
        have htk := take_snoc hyk
        refine wp_skip (hK18 _ _ ?_)
        refine wp_seq_k fun K19 hK19 => ?_
        refine wp_block ?_
        refine wp_rs fun K20 hK20 => ?_
        refine s_val hF (x_ixa rfl rfl (m_ixsK i Try.underlying25 el25.size rfl (by omega))) (by decide) fun a hF => ?_
        refine s_val hF (x_ldA wide27 (hrow _ (hK.block _ hbl ⟨hAb.1, hAb.1⟩)) rfl rfl) (by decide) fun a hF => ?_
        refine s_alloc hF (by decide) zero27 fun w4 b12 a eb12 m12 B5 zb12 hF => ?_
        have sB5 := B5.size
        have hK := hK.below B5
        have hQ := hQ.below B5
        have mr := mr.old B5
        refine s_putW hF rfl rfl (size_wide wide27) m12 rfl hry.one fun w8 m12 o9 => ?_
        have so9 := o9.size
        have hK := hK.only o9 (by omega)
        have hQ := hQ.only o9 (by omega)
        have mr := mr.only o9 (by omega)
        refine s_end (hK20 _ _ ?_)
        refine wp_rs fun K21 hK21 => ?_
        refine s_val hF (x_move rfl) (by decide) fun a hF => ?_
        refine s_val hF (x_move rfl) (by decide) fun a hF => ?_
        refine s_val hF (x_ldW wide27 m12 rfl rfl) (by decide) fun a hF => ?_
        refine s_callC (R := fun v w' => RK w0 (Ai w0.heap.size br) v kd.kids ∧ Below w8.heap.size w8 w') (lb := []) hF [_] rfl (enters_of Try.func89 (by kernel_rfl) rfl) rfl (by decide) (kidsOf101 kd y (Ai w0.heap.size br) w0 w8 hry) ?_
        rintro v49 w10 a ⟨hkv, B11⟩ hF
        have sB11 := B11.size
        have hK := hK.below B11
        have hQ := hQ.below B11
        have mr := mr.old B11
        have m12 := m12.old B11
        refine s_val hF (x_move rfl) (by decide) fun a hF => ?_
        refine s_val hF (x_move rfl) (by decide) fun a hF => ?_
        refine s_val hF (x_subn (d - 1) (by omega) (by omega) rfl rfl) (by decide) fun a hF => ?_
        refine s_val hF (x_move rfl) (by decide) fun a hF => ?_
        refine s_call (R := fun u w' => ((∃ b, u = .bool b ∧ (b = true → kd.kids.length * 120 ≤ 2147483647 ∧ ∀ c ∈ kd.kids, c.dep ≤ d - 1)) ∧ Room w' br) ∧ Ktw br br w10 w') hF [_, _, _, _, _] (enters_of Try.func121 (by kernel_rfl) rfl) rfl (by decide) (ih kd.kids _ (by omega) hkv (d - 1) w10 (by omega) hK ⟨_, mr, hr2, hr3⟩) ?_
        rintro _ w12 a ⟨⟨⟨b54, rfl, h54⟩, ⟨r4, mr, hr4, hr5⟩⟩, k13⟩ hF
        have sk13 := k13.size
        have hK := hK.trans k13 (by omega)
        have hQ := hQ.trans k13 (by omega)
        have m12 := m12.k2 k13 (by omega)
        refine s_val hF (x_not rfl) (by decide) fun a hF => ?_
        refine s_end (hK21 _ _ ?_)
        refine wp_ifb hF rfl (fun hc55 => ?_) (fun hc55 => ?_)
        · refine wp_rs fun K22 hK22 => ?_
          refine s_val hF (x_assign rfl) (by decide) fun a hF => ?_
          refine s_end (hK22 _ _ ?_)
          refine wp_ret (inb_ret (then_ret (then_ret (inb_ret (then_ret (res_slot hF rfl rfl ⟨_, rfl, ⟨⟨false, rfl, fun h => by cases h⟩, ⟨r4, mr, hr4, hr5⟩⟩, hQ⟩))))))
        · obtain rfl : b54 = true := by simpa using hc55
          have h55 := h54 rfl
          have hkd : kd.dep ≤ d := by have := CT.dep_kids h55.2; omega
          refine wp_skip (hK19 _ _ ?_)
          refine wp_region_lit ?_
          refine s_val hF (x_addn (i + 1) (by omega) (by omega) rfl rfl) (by decide) fun a hF => ?_
          refine s_val hF (x_move rfl) (by decide) fun a hF => ?_
          refine s_end (hK' _ _ (by omega) ⟨⟨r4, mr, hr4, hr5⟩, hK, hQ, (fun c hc => by rw [htk] at hc; rcases List.mem_append.1 hc with hc | hc; (· exact hdp c hc); (· rw [List.mem_singleton.1 hc]; exact hkd)), hF.sub _ rfl⟩)
      · obtain rfl : i = cs.length := by omega
        rw [List.take_length] at hdp
        refine wp_exit (hK15 _ _ ?_)
        refine wp_rs fun K23 hK23 => ?_
        refine s_val hF (x_assign rfl) (by decide) fun a hF => ?_
        refine s_end (hK23 _ _ ?_)
        refine wp_ret (res_slot hF rfl rfl ⟨_, rfl, ⟨⟨true, rfl, fun _ => ⟨by omega, hdp⟩⟩, ⟨r2, mr, hr2, hr3⟩⟩, hQ⟩)

set_option maxRecDepth 100000 in
set_option maxHeartbeats 1600000 in
theorem takes100 (w0 : World) (br : Nat) (hbr : br < w0.heap.size) (cs : List CT) (v : Value) (hV : RK w0 (Ai w0.heap.size br) v cs) (w1 : World) (hK : Ktw br br w0 w1) (hR : Room w1 br) :
    Calls Try.prog 88 #[.pointer (some ⟨br, 0, none⟩), v, .int .i64 120, .func (.func 89) #[] #[]] w1 fun e w' => ∃ u, e = .returned u ∧ ((∃ b, u = .bool b ∧ (b = true → cs.length * 120 ≤ 2147483647 ∧ ∀ c ∈ cs, c.dep ≤ 65536)) ∧ Room w' br) ∧ Ktw br br w1 w' := by
  have hQ := Ktw.refl br br w1
  have sK := hK.size
  have sQ := hQ.size
  refine calls_fs 18 [(0, .pointer (some ⟨br, 0, none⟩)), (1, v), (2, .int .i64 120), (3, .func (.func 89) #[] #[])] Try.func88 rfl rfl rfl rfl rfl fun a hF => ?_
  refine wp_rs fun K1 hK1 => ?_
  refine s_val hF (x_assign rfl) (by decide) fun a hF => ?_
  refine s_end (hK1 _ _ ?_)
  refine wp_seq_k fun K2 hK2 => ?_
  refine wp_rs fun K3 hK3 => ?_
  refine s_val hF (x_move rfl) (by decide) fun a hF => ?_
  refine s_val hF (x_move rfl) (by decide) fun a hF => ?_
  refine s_val hF (x_move rfl) (by decide) fun a hF => ?_
  refine s_val hF (x_move rfl) (by decide) fun a hF => ?_
  refine s_call (R := fun u w' => ((∃ b, u = .bool b ∧ (b = true → cs.length * 120 ≤ 2147483647 ∧ ∀ c ∈ cs, c.dep ≤ 65536)) ∧ Room w' br) ∧ Ktw br br w1 w') hF [_, _, _, _, _] (enters_of Try.func121 (by kernel_rfl) rfl) rfl (by decide) (count134 w0 br hbr (sumT cs + 1) cs v (by omega) hV 65536 w1 (by omega) hK hR) ?_
  rintro _ w2 a ⟨⟨⟨b13, rfl, h13⟩, ⟨r4, mr, hr4, hr5⟩⟩, k3⟩ hF
  have sk3 := k3.size
  have hK := hK.trans k3 (by omega)
  have hQ := hQ.trans k3 (by omega)
  refine s_val hF (x_not rfl) (by decide) fun a hF => ?_
  refine s_end (hK3 _ _ ?_)
  refine wp_ifb hF rfl (fun hc14 => ?_) (fun hc14 => ?_)
  · refine wp_rs fun K4 hK4 => ?_
    refine s_val hF (x_move rfl) (by decide) fun a hF => ?_
    refine s_val hF (x_nil rfl) (by decide) fun a hF => ?_
    refine s_val hF (x_fa0 fa110_0 rfl) (by decide) fun a hF => ?_
    refine s_put hF rfl rfl flat3 mr (by first | (simp; done) | decide) rfl fun w4 mr o5 => ?_
    have so5 := o5.size
    have hK := hK.only o5 (by omega)
    have hQ := hQ.only o5 (by omega)
    refine s_end (hK4 _ _ ?_)
    refine wp_rs fun K5 hK5 => ?_
    refine s_val hF (x_assign rfl) (by decide) fun a hF => ?_
    refine s_end (hK5 _ _ ?_)
    refine wp_ret (then_ret (res_slot hF rfl rfl ⟨_, rfl, ⟨⟨false, rfl, fun h => by cases h⟩, ⟨0, mr, by decide, by decide⟩⟩, hQ⟩))
  · obtain rfl : b13 = true := by simpa using hc14
    have h14 := h13 rfl
    refine wp_skip (hK2 _ _ ?_)
    refine wp_rs fun K6 hK6 => ?_
    refine s_val hF (x_assign rfl) (by decide) fun a hF => ?_
    refine s_end (hK6 _ _ ?_)
    refine wp_ret (res_slot hF rfl rfl ⟨_, rfl, ⟨⟨true, rfl, fun _ => h14⟩, ⟨r4, mr, hr4, hr5⟩⟩, hQ⟩)
end Go.Proofs.Ytaclncmkdpjnlaa
