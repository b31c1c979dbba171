/- awake. -/
import Derived.Test.YtaclncmkdpjnlaaTerm13
namespace Go.Proofs.Ytaclncmkdpjnlaa
open Go.RowKit Go.Shelf
set_option linter.unusedVariables false
set_option linter.unusedSimpArgs false

theorem RE_two_inv {W : World} {A : Nat → Prop} {k : Int} {p q : PT} {x : C8} (h : RE W A (.two k p q) x) : ∃ b off n cap y z, x.ts = .slice (some ⟨b, off, none⟩) n cap ∧ 2 ≤ n ∧ x.k = k ∧ RE W A p y ∧ RE W A q z ∧ A b ∧ b < W.heap.size ∧ (∀ j u, (tc y)[j]? = some u → W.cell? ⟨b, off + j, none⟩ = some u) ∧ (∀ j u, (tc z)[j]? = some u → W.cell? ⟨b, off + 8 + j, none⟩ = some u) := by
  obtain ⟨c, hc, he⟩ := h
  cases c with
  | two k' a b' m =>
    simp only [CT.ess] at he
    cases he
    obtain ⟨h1, h2, ⟨y, z, cs, hR, ha, hb⟩, _⟩ := hc
    obtain ⟨b, off, cap, hv, hbl⟩ := hR.1.some (by omega)
    refine ⟨b, off, _, cap, y, z, hv, by omega, h1, ⟨_, ha, rfl⟩, ⟨_, hb, rfl⟩, hR.2 (by omega) b (by rw [hv]; rfl), hbl, fun j u hj => ?_, fun j u hj => ?_⟩
    · have hj8 := (List.getElem?_eq_some_iff.1 hj).1
      have := (hv ▸ hR.1).cell (j := j) (u := u) (by rw [List.getElem?_append_left (by simpa [tc] using hj8)]; exact hj)
      exact this
    · have hj8 := (List.getElem?_eq_some_iff.1 hj).1
      have := (hv ▸ hR.1).cell (j := 8 + j) (u := u) (by rw [List.getElem?_append_right (by simp [tc]), show 8 + j - (tc y).length = j by simp [tc], List.getElem?_append_left (by simpa [tc] using hj8)]; exact hj)
      rwa [Nat.add_assoc]
  | _ => simp [CT.ess] at he
theorem RE_cst_s {W : World} {A : Nat → Prop} {s : ByteArray} {os : List (Option SL)} {x : C8} (h : RE W A (.cst s os) x) : x.k = 7 ∧ x.s = s := by
  obtain ⟨c, hc, he⟩ := h
  cases c with
  | cst s' ls m => simp only [CT.ess] at he; cases he; exact ⟨hc.1, hc.2.1⟩
  | _ => simp [CT.ess] at he
theorem RE_var_n {W : World} {A : Nat → Prop} {n : Int} {x : C8} (h : RE W A (.var n) x) : x.k = 1 ∧ x.n = n := by
  obtain ⟨c, hc, he⟩ := h
  cases c with
  | var n' m => simp only [CT.ess] at he; cases he; exact ⟨hc.1, hc.2.1⟩
  | _ => simp [CT.ess] at he
abbrev sA : ByteArray := ByteArray.mk #[97]
abbrev sC : ByteArray := ByteArray.mk #[99]
theorem aw_apps : PT.appsR (.var 1) [.var 0] = .two 6 (.var 1) (.var 0) := by
  unfold PT.appsR
  rw [if_pos (by unfold PT.ok; simp [PT.apps, PT.size, PT.dep])]
  rfl
theorem aw_inst : PT.inst (.two 4 (.cst sA []) (.two 6 (.var 1) (.var 0))) (.cst sC []) = .two 4 (.cst sA []) (.two 6 (.cst sC []) (.var 0)) := by
  have e : PT.put (.cst sC []) (.two 4 (.cst sA []) (.two 6 (.var 1) (.var 0))) 0 = .two 4 (.cst sA []) (.two 6 (.cst sC []) (.var 0)) := by simp [PT.put, PT.lift]
  unfold PT.inst
  rw [e, if_pos]
  unfold PT.ok
  simp [PT.size, PT.dep]
theorem x_eqSt {P : Program} {n : Nat} {l : List (Nat × Value)} {w : World} {t t' : TypeId} {x y : Operand} {s : ByteArray} (hx : ov l x = some (.string s)) (hy : ov l y = some (.string s)) : Runs P n l w (.binOp .eql t x y t') (.bool true) := by
  have := x_eqS (P := P) (n := n) (w := w) (t := t) (t' := t') rfl hx hy
  simpa using this

set_option maxRecDepth 100000 in
set_option maxHeartbeats 400000 in
theorem awake15 (w0 : World) : Calls Try.prog 11 #[] w0 fun e w' => e = .returned (.bool true) ∧ Below w0.heap.size w0 w' := by
  have hB := Below.refl w0.heap.size w0
  have sB := hB.size
  refine calls_fs (vs := []) 35 [] Try.func11 rfl rfl rfl rfl rfl fun a hF => ?_
  refine wp_rs fun K1 hK1 => ?_
  refine s_val hF (x_assign rfl) (by decide) fun a hF => ?_
  refine s_end (hK1 _ _ ?_)
  refine wp_rs fun K2 hK2 => ?_
  refine s_callR (R := fun u w' => ∃ y, u = tv y ∧ RT w' (.cst sA []) y) [_, _] hF (enters_of Try.func14 (by kernel_rfl) rfl) rfl (by decide) (Const18 sA [] nilS w0 (RVn.nil _ _)) ?_
  rintro _ w2 a ⟨y2, rfl, h2⟩ B3 hF
  have sB3 := B3.size
  have hB := hB.trans (B3.mono hB.size)
  refine s_callR (R := fun u w' => ∃ y, u = tv y ∧ RC w' (fun _ => False) (.var 1 0) y) [_] hF (enters_of Try.func12 (by kernel_rfl) rfl) rfl (by decide) (var16 1 w2 (by unfold in64; omega)) ?_
  rintro _ w4 a ⟨y3, rfl, h30⟩ B5 hF
  have sB5 := B5.size
  have hB := hB.trans (B5.mono hB.size)
  have h2 := h2.below B5
  have h3 : RT w4 (.var 1) y3 := (RC.re h30).rt
  refine s_callR (R := fun u w' => ∃ y, u = tv y ∧ RC w' (fun _ => False) (.var 0 0) y) [_] hF (enters_of Try.func12 (by kernel_rfl) rfl) rfl (by decide) (var16 0 w4 (by unfold in64; omega)) ?_
  rintro _ w6 a ⟨y4, rfl, h40⟩ B7 hF
  have sB7 := B7.size
  have hB := hB.trans (B7.mono hB.size)
  have h2 := h2.below B7
  have h3 := h3.below B7
  have h4 : RT w6 (.var 0) y4 := (RC.re h40).rt
  refine s_litG [tv y4] el25 hF (by decide) rfl (by simp [Value.cells, tc]) rfl (by decide) (by decide) fun w8 bl a ebl ml B9 zbl hF => ?_
  have sB9 := B9.size
  have hB := hB.trans (B9.mono hB.size)
  have h2 := h2.below B9
  have h3 := h3.below B9
  have h4 := h4.below B9
  have ml : Blk w8 bl 27 (tc y4) := by simpa [Value.cells] using ml
  obtain ⟨c3, hc3, he3⟩ := h3
  obtain ⟨c4, hc4, he4⟩ := h4
  have hrk : RK w8 (fun k => k < w8.heap.size) (.slice (some ⟨bl, 0, none⟩) 1 1) [c4] := ⟨[y4], ⟨by simpa using Rd.blk ml (n := 1) rfl, fun _ b hb => by simp [Value.ownBlock] at hb; subst hb; exact ml.lt⟩, rfl, fun i x2 c2 e1 e2 => by rcases i with _ | i; (· simp at e1 e2; subst e1 e2; exact hc4); simp at e1⟩
  refine s_callR (R := fun u w' => ∃ y, u = tv y ∧ RT w' (PT.appsR c3.ess ([c4].map CT.ess)) y) [_, _] hF (enters_of Try.func20 (by kernel_rfl) rfl) rfl (by decide) (Apps24 c3 y3 [c4] _ w8 hc3 hrk (by simp)) ?_
  rintro _ w10 a ⟨y6, rfl, h6⟩ B11 hF
  have sB11 := B11.size
  have hB := hB.trans (B11.mono hB.size)
  have h2 := h2.below B11
  simp only [List.map_cons, List.map_nil] at h6
  rw [he3, he4, aw_apps] at h6
  obtain ⟨c2, hc2, he2⟩ := h2
  obtain ⟨c6, hc6, he6⟩ := h6
  refine s_callR (R := fun u w' => ∃ y, u = tv y ∧ RT w' (.two 4 c2.ess c6.ess) y) [_, _] hF (enters_of Try.func17 (by kernel_rfl) rfl) rfl (by decide) (Lam21 c2 c6 y2 y6 w10 hc2 hc6) ?_
  rintro _ w12 a ⟨y7, rfl, h7⟩ B13 hF
  have sB13 := B13.size
  have hB := hB.trans (B13.mono hB.size)
  rw [he2, he6] at h7
  refine s_callR (R := fun u w' => ∃ y, u = tv y ∧ RT w' (.cst sC []) y) [_, _] hF (enters_of Try.func14 (by kernel_rfl) rfl) rfl (by decide) (Const18 sC [] nilS w12 (RVn.nil _ _)) ?_
  rintro _ w14 a ⟨y8, rfl, h8⟩ B15 hF
  have sB15 := B15.size
  have hB := hB.trans (B15.mono hB.size)
  have h7 := h7.below B15
  obtain ⟨c7, hc7, he7⟩ := h7
  obtain ⟨c8, hc8, he8⟩ := h8
  refine s_callR (R := fun u w' => ∃ y, u = tv y ∧ RT w' (PT.inst c7.ess c8.ess) y) [_, _] hF (enters_of Try.func29 (by kernel_rfl) rfl) rfl (by decide) (Inst42 c7 c8 y7 y8 w14 hc7 hc8) ?_
  rintro _ w16 a ⟨y9, rfl, h9⟩ B17 hF
  have sB17 := B17.size
  have hB := hB.trans (B17.mono hB.size)
  rw [he7, he8, aw_inst] at h9
  have h9 : REx w16 (fun k => k < w16.heap.size) _ y9 := h9
  refine s_alloc hF (by decide) zero27 fun w18 b1 a eb1 m1 B19 zb1 hF => ?_
  have sB19 := B19.size
  have hB := hB.trans (B19.mono hB.size)
  have h9 := h9.below B19
  refine s_putW hF rfl rfl (size_wide wide27) m1 rfl (RE.one h9) fun w22 m1 o23 => ?_
  have so23 := o23.size
  have hB := hB.trans (o23.below (by omega))
  have h9 := h9.only o23 (fun k (hk : k < w16.heap.size) => by omega)
  refine s_end (hK2 _ _ ?_)
  obtain ⟨b9, off9, n9, cap9, ya, yb, hts, hn9, hk9, ha, hb9, _, _, _, hcb⟩ := RE_two_inv h9
  obtain ⟨b8, off8, n8, cap8, yc, yd, hts8, hn8, _, hc, hd, _, _, hcc, hcd⟩ := RE_two_inv hb9
  have hsc := (RE_cst_s hc).2
  have hnd := (RE_var_n hd).2
  have e5 := hcb 7 _ rfl
  rw [hts8] at e5
  have e2 := hcc 2 _ rfl
  rw [hsc] at e2
  have e1 := hcd 1 _ rfl
  rw [hnd] at e1
  have hm0 := m1.cell (j := 0) rfl
  have hm5 := m1.cell (j := 7) rfl
  rw [hts] at hm5
  rw [hk9] at hm0
  refine wp_rs fun K3 hK3 => ?_
  refine s_val hF (x_fa0 fa27_0 rfl) (by decide) fun a hF => ?_
  refine s_val hF (x_load rfl (m_load flat3 (hm0))) (by decide) fun a hF => ?_
  refine s_val hF (x_eql (b := true) rfl rfl rfl) (by decide) fun a hF => ?_
  refine s_val hF (x_move rfl) (by decide) fun a hF => ?_
  refine s_grd 13 hF rfl rfl rfl ?_
  refine s_val hF (x_fa0 fa27_5 rfl) (by decide) fun a hF => ?_
  refine s_grd 13 hF rfl rfl rfl ?_
  refine s_val hF (x_load rfl (m_load flat25 (hm5))) (by decide) fun a hF => ?_
  refine s_grd 13 hF rfl rfl rfl ?_
  refine s_val hF (x_ixa rfl rfl (m_ixsK 1 Try.underlying25 el25.size rfl (by omega))) (by decide) fun a hF => ?_
  refine s_grd 13 hF rfl rfl rfl ?_
  refine s_val hF (x_fa fa27_5 rfl) (by decide) fun a hF => ?_
  refine s_grd 13 hF rfl rfl rfl ?_
  refine s_val hF (x_load rfl (m_load flat25 (by rw [Nat.one_mul]; exact e5))) (by decide) fun a hF => ?_
  refine s_grd 13 hF rfl rfl rfl ?_
  refine s_val hF (x_ixa rfl rfl (m_ixsK 0 Try.underlying25 el25.size rfl (by omega))) (by decide) fun a hF => ?_
  refine s_grd 13 hF rfl rfl rfl ?_
  refine s_val hF (x_fa fa27_2 rfl) (by decide) fun a hF => ?_
  refine s_grd 13 hF rfl rfl rfl ?_
  refine s_val hF (x_load rfl (m_load flat9 (by rw [Nat.zero_mul]; exact e2))) (by decide) fun a hF => ?_
  refine s_grd 13 hF rfl rfl rfl ?_
  refine s_val hF (x_eqSt rfl rfl) (by decide) fun a hF => ?_
  refine s_val hF (x_pick (b := true) rfl rfl) (by decide) fun a hF => ?_
  refine s_val hF (x_move rfl) (by decide) fun a hF => ?_
  refine s_grd 24 hF rfl rfl rfl ?_
  refine s_val hF (x_fa0 fa27_5 rfl) (by decide) fun a hF => ?_
  refine s_grd 24 hF rfl rfl rfl ?_
  refine s_val hF (x_load rfl (m_load flat25 (hm5))) (by decide) fun a hF => ?_
  refine s_grd 24 hF rfl rfl rfl ?_
  refine s_val hF (x_ixa rfl rfl (m_ixsK 1 Try.underlying25 el25.size rfl (by omega))) (by decide) fun a hF => ?_
  refine s_grd 24 hF rfl rfl rfl ?_
  refine s_val hF (x_fa fa27_5 rfl) (by decide) fun a hF => ?_
  refine s_grd 24 hF rfl rfl rfl ?_
  refine s_val hF (x_load rfl (m_load flat25 (by rw [Nat.one_mul]; exact e5))) (by decide) fun a hF => ?_
  refine s_grd 24 hF rfl rfl rfl ?_
  refine s_val hF (x_ixa rfl rfl (m_ixsK 1 Try.underlying25 el25.size rfl (by omega))) (by decide) fun a hF => ?_
  refine s_grd 24 hF rfl rfl rfl ?_
  refine s_val hF (x_fa fa27_1 rfl) (by decide) fun a hF => ?_
  refine s_grd 24 hF rfl rfl rfl ?_
  refine s_val hF (x_load rfl (m_load flat3 (by rw [Nat.one_mul]; exact e1))) (by decide) fun a hF => ?_
  refine s_grd 24 hF rfl rfl rfl ?_
  refine s_val hF (x_eql (b := true) rfl rfl rfl) (by decide) fun a hF => ?_
  refine s_val hF (x_pick (b := true) rfl rfl) (by decide) fun a hF => ?_
  refine s_val hF (x_assign rfl) (by decide) fun a hF => ?_
  refine s_end (hK3 _ _ ?_)
  refine wp_ret (res_slot hF rfl rfl ⟨rfl, hB⟩)
end Go.Proofs.Ytaclncmkdpjnlaa
