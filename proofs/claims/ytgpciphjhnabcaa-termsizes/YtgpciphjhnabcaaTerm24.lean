/- The reference's ends. -/
import Derived.Test.YtgpciphjhnabcaaTerm23
namespace Go.Proofs.Ytgpciphjhnabcaa
open Go.RowKit Go.Shelf
set_option linter.unusedVariables false
set_option linter.unusedSimpArgs false

def CT.leaves : CT → Int → List (CT × Int)
  | .two k a b m, d => a.leaves (d + (CT.two k a b m).bnd 0) ++ b.leaves (d + (CT.two k a b m).bnd 1)
  | .lt a b c m, d => a.leaves (d + (CT.lt a b c m).bnd 0) ++ (b.leaves (d + (CT.lt a b c m).bnd 1) ++ c.leaves (d + (CT.lt a b c m).bnd 2))
  | c, d => [(c, d)]
/-- The leaves of the first i kids. -/
def CT.lvK (c : CT) (d : Int) : Nat → List (CT × Int)
  | 0 => []
  | i + 1 => c.lvK d i ++ (match c.kids[i]? with | some k => k.leaves (d + c.bnd i) | none => [])
theorem CT.leaves_nil {c : CT} {d : Int} (h : c.kids = []) : c.leaves d = [(c, d)] := by cases c <;> simp [CT.kids] at h <;> rfl
theorem CT.leaves_lvK {c : CT} {d : Int} (h : c.kids.length ≠ 0) : c.leaves d = c.lvK d c.kids.length := by
  cases c <;> simp [CT.kids] at h <;> simp [CT.leaves, CT.lvK, CT.kids]
theorem CT.lvK_at {c k : CT} {d : Int} {i : Nat} (h : c.kids[i]? = some k) : c.lvK d (i + 1) = c.lvK d i ++ k.leaves (d + c.bnd i) := by simp [CT.lvK, h]
theorem CT.leaves_len : ∀ (c : CT) (d : Int), (c.leaves d).length ≤ c.size
  | .two k a b m, d => by
    have h1 := a.leaves_len (d + (CT.two k a b m).bnd 0)
    have h2 := b.leaves_len (d + (CT.two k a b m).bnd 1)
    simp only [CT.leaves, List.length_append, CT.size]
    omega
  | .lt a b c m, d => by
    have h1 := a.leaves_len (d + (CT.lt a b c m).bnd 0)
    have h2 := b.leaves_len (d + (CT.lt a b c m).bnd 1)
    have h3 := c.leaves_len (d + (CT.lt a b c m).bnd 2)
    simp only [CT.leaves, List.length_append, CT.size]
    omega
  | .var .., _ => Nat.le_refl _
  | .sort .., _ => Nat.le_refl _
  | .cst .., _ => Nat.le_refl _
  | .odd .., _ => Nat.le_refl _
def enc9 (e : C8 × Int) : List Value := tc e.1 ++ [.int .i64 e.2]
theorem fm9_app (es : List (C8 × Int)) (e : C8 × Int) : (es ++ [e]).flatMap enc9 = es.flatMap enc9 ++ enc9 e := by simp
/-- The elements are these leaves, which lie where w0's own blocks lie. -/
def LTw (w0 : World) (es : List (C8 × Int)) (ls : List (CT × Int)) : Prop := es.length = ls.length ∧ ∀ (j : Nat) e l, es[j]? = some e → ls[j]? = some l → RC w0 (fun k => k < w0.heap.size) l.1 e.1 ∧ e.2 = l.2
theorem LTw.nil (w0 : World) : LTw w0 [] [] := ⟨rfl, fun j e l h => by simp at h⟩
theorem LTw.snoc {w0 : World} {es : List (C8 × Int)} {ls : List (CT × Int)} {c : CT} {x : C8} {d : Int} (h : LTw w0 es ls) (hx : RC w0 (fun k => k < w0.heap.size) c x) : LTw w0 (es ++ [(x, d)]) (ls ++ [(c, d)]) := by
  refine ⟨by simp [h.1], fun j e l e1 e2 => ?_⟩
  rcases Nat.lt_or_ge j es.length with hj | hj
  · rw [List.getElem?_append_left hj] at e1
    rw [List.getElem?_append_left (by have := h.1; omega)] at e2
    exact h.2 j e l e1 e2
  · rw [List.getElem?_append_right hj] at e1
    rw [List.getElem?_append_right (by have := h.1; omega)] at e2
    have h0 : j - es.length = 0 := by have := (List.getElem?_eq_some_iff.1 e1).1; simp at this; omega
    have h1 : j - ls.length = 0 := by have := h.1; omega
    rw [h0] at e1
    rw [h1] at e2
    simp at e1 e2
    subst e1 e2
    exact ⟨hx, rfl⟩
theorem b90_01 (k n : Int) (s : ByteArray) (p q : Int) (a : Option Addr) (m c : Nat) (a2 : Option Addr) (m2 c2 : Nat) (a3 : Option Addr) (m3 c3 : Nat) (d : Int) (w : World) : (Instr.build 90 [(0, tv ⟨k, n, s, (p, q, .slice a m c), .slice a2 m2 c2, .slice a3 m3 c3⟩), (1, Value.int .i64 d)].toArray).run Try.prog w = .ok (.agg (enc9 (⟨k, n, s, (p, q, .slice a m c), .slice a2 m2 c2, .slice a3 m3 c3⟩, d)).toArray) w := run_build w 90 _ _ (by kernel_rfl)

set_option maxRecDepth 100000 in
set_option maxHeartbeats 400000 in
theorem ends80 (w0 : World) (q : Nat) : ∀ (N : Nat) (c : CT) (x : C8), c.size < N → RC w0 (fun k => k < w0.heap.size) c x → ∀ (d : Int) (v : Value) (o : Nat) (es : List (C8 × Int)) (ls : List (CT × Int)) (w1 : World), 0 ≤ d → d + c.dep ≤ 1000000 → es.length + c.size ≤ 1000000 → Below w0.heap.size w0 w1 → q ≤ w1.heap.size → w0.heap.size ≤ o → o < w1.heap.size → w1.ownsRow q 90 9 v es.length (es.flatMap enc9) → (∀ j, v.ownBlock = some j → j = o) → LTw w0 es ls →
    Calls Try.prog 80 #[tv x, .int .i64 d, v] w1 fun e w' => ∃ u, e = .returned u ∧ (∃ o' es', w'.ownsRow q 90 9 u es'.length (es'.flatMap enc9) ∧ (∀ j, u.ownBlock = some j → j = o') ∧ ((o' = o ∨ w1.heap.size ≤ o') ∧ o' < w'.heap.size) ∧ LTw w0 es' (ls ++ c.leaves d)) ∧ Ktw o o w1 w' := by
  intro N
  induction N with
  | zero => intro s x h; omega
  | succ N ih =>
  intro c x hN hx d v o es ls w1 hd0 hd1 hes hB hq1 ho0 ho1 hO hat hLT
  have hK := Ktw.refl o o w1
  have sB := hB.size
  have sK := hK.size
  have hrg := arT_rng c.kd
  have hk9 := CT.kids_arT hx
  have h3 := c.kids_le
  have hx0 := hx
  have hss := c.size_szs
  have h1v := (Rd.own hO).one
  obtain ⟨⟨l9, hl9⟩, ls9, hv9⟩ := hx.ok
  obtain ⟨av, nv, cv, hts, hle9, hlen9, hcap, hkid⟩ := hx.kids
  obtain ⟨xk, xn, xs, ⟨p1, p2, p3⟩, xls, xts⟩ := x
  obtain ⟨n9, cs9, hs9⟩ := hl9.slice
  obtain ⟨a9, d9, h9, _⟩ := hs9.form
  obtain ⟨a8, d8, h8, _⟩ := hv9.form
  simp only at hts h9 h8
  subst hts h9 h8
  have hkd : xk = c.kd := hx.kd
  subst hkd
  have hone := hx.one
  refine calls_fs 46 [(0, tv (⟨c.kd, xn, xs, (p1, p2, .slice a9 n9 d9), .slice a8 ls9.length d8, .slice av nv cv⟩ : C8)), (1, .int .i64 d), (2, v)] Try.func80 rfl rfl rfl rfl rfl fun a hF => ?_
  refine wp_rs fun K1 hK1 => ?_
  refine s_box ([.int .i64 c.kd, .int .i64 xn, .string xs, .int .i64 p1, .int .i64 p2, .slice a9 n9 d9, .slice a8 ls9.length d8, .slice av nv cv]) hF (by decide) rfl rfl fun w2 b3 a eb3 m3 B3 zb3 hF => ?_
  have sB3 := B3.size
  have hB := hB.trans (B3.mono hB.size)
  have hK := hK.below B3
  have hO := own_below hO B3
  refine s_val hF (x_assign rfl) (by decide) fun a hF => ?_
  refine s_end (hK1 _ _ ?_)
  refine wp_seq_k fun K2 hK2 => ?_
  rcases (show ((arT c.kd < 0 ∨ (c.len : Int) < arT c.kd) ∧ c.kids.length = 0) ∨ (¬ (arT c.kd < 0 ∨ (c.len : Int) < arT c.kd) ∧ arT c.kd = 0 ∧ c.kids.length = 0) ∨ (¬ (arT c.kd < 0 ∨ (c.len : Int) < arT c.kd) ∧ arT c.kd ≠ 0 ∧ (c.kids.length : Int) = arT c.kd) by omega) with hy | hy | hy
  · skip
    refine wp_rs fun K4 hK4 => ?_
    refine s_val hF (x_ldW wide27 m3 rfl rfl) (by decide) fun a hF => ?_
    refine s_callB [_] hF (enters_of Try.func70 (by kernel_rfl) rfl) rfl (by decide) ((leaf70 c (⟨c.kd, xn, xs, (p1, p2, .slice a9 n9 d9), .slice a8 ls9.length d8, .slice av nv cv⟩ : C8) _ w0 w2 hx0).mono fun e w' h => ⟨by rw [h.1, decide_eq_true hy.1], h.2⟩) fun w4 a B5 hF => ?_
    have sB5 := B5.size
    have hB := hB.trans (B5.mono hB.size)
    have hK := hK.below B5
    have hO := own_below hO B5
    have m3 := m3.old B5
    refine s_val hF (x_move rfl) (by decide) fun a hF => ?_
    refine s_grdn 11 hF rfl rfl (by decide) fun a hF => ?_
    refine s_grdn 11 hF rfl rfl (by decide) fun a hF => ?_
    refine s_grdn 11 hF rfl rfl (by decide) fun a hF => ?_
    refine s_grdn 11 hF rfl rfl (by decide) fun a hF => ?_
    refine s_val hF (x_pick (b := true) rfl rfl) (by decide) fun a hF => ?_
    refine s_end (hK4 _ _ ?_)
    refine wp_if hF rfl ?_
    refine wp_rs fun K5 hK5 => ?_
    refine s_val hF (x_move rfl) (by decide) fun a hF => ?_
    refine s_val hF (x_ldW wide27 m3 rfl rfl) (by decide) fun a hF => ?_
    refine s_val hF (x_move rfl) (by decide) fun a hF => ?_
    refine s_val hF (x_build (vs := [(0, _), (1, _)]) rfl (b90_01 _ _ _ _ _ _ _ _ _ _ _ _ _ _ _ _)) (by decide) fun a hF => ?_
    refine s_litG [(.agg (enc9 ((⟨c.kd, xn, xs, (p1, p2, .slice a9 n9 d9), .slice a8 ls9.length d8, .slice av nv cv⟩ : C8), d)).toArray)] el87 hF (by decide) rfl (by simp [Value.cells, enc9, tc]) rfl (by decide) (by decide) fun w6 bl a ebl ml B7 zbl hF => ?_
    have sB7 := B7.size
    have hB := hB.trans (B7.mono hB.size)
    have hK := hK.below B7
    have hO := own_below hO B7
    have m3 := m3.old B7
    have ml : Blk w6 bl 90 (enc9 ((⟨c.kd, xn, xs, (p1, p2, .slice a9 n9 d9), .slice a8 ls9.length d8, .slice av nv cv⟩ : C8), d)) := by simpa [Value.cells] using ml
    refine s_appL (o := o) el87 hF (by decide) rfl rfl hO ml rfl (by simp [enc9, tc, Value.oneCell']) hat (by omega) (by omega) (by decide) (by omega) fun v3 w8 a o3 hOn hOatn how hsrc k9 hkeep hF => ?_
    have sk9 := k9.size
    have hB := k9.under hB (by omega)
    have hK := hK.trans k9 (by omega)
    have m3 := m3.k2 k9 (by omega)
    have ml := ml.k2 k9 (by omega)
    have hO := hOn
    have hO_at := hOatn
    refine s_val hF (x_assign rfl) (by decide) fun a hF => ?_
    refine s_end (hK5 _ _ ?_)
    have hO2 : w8.ownsRow q 90 9 v3 (es ++ [((⟨c.kd, xn, xs, (p1, p2, .slice a9 n9 d9), .slice a8 ls9.length d8, .slice av nv cv⟩ : C8), d)]).length ((es ++ [((⟨c.kd, xn, xs, (p1, p2, .slice a9 n9 d9), .slice a8 ls9.length d8, .slice av nv cv⟩ : C8), d)]).flatMap enc9) := by rw [fm9_app]; simpa using hO
    have hk0 : c.kids = [] := List.eq_nil_of_length_eq_zero (by omega)
    refine wp_ret (then_ret (res_slot hF rfl rfl ⟨_, rfl, ⟨o3, _, hO2, hO_at, by omega, by rw [CT.leaves_nil hk0]; exact hLT.snoc hx0⟩, hK⟩))
  · skip
    refine wp_rs fun K6 hK6 => ?_
    refine s_val hF (x_ldW wide27 m3 rfl rfl) (by decide) fun a hF => ?_
    refine s_callB [_] hF (enters_of Try.func70 (by kernel_rfl) rfl) rfl (by decide) ((leaf70 c (⟨c.kd, xn, xs, (p1, p2, .slice a9 n9 d9), .slice a8 ls9.length d8, .slice av nv cv⟩ : C8) _ w0 w2 hx0).mono fun e w' h => ⟨by rw [h.1, decide_eq_false hy.1], h.2⟩) fun w10 a B11 hF => ?_
    have sB11 := B11.size
    have hB := hB.trans (B11.mono hB.size)
    have hK := hK.below B11
    have hO := own_below hO B11
    have m3 := m3.old B11
    refine s_val hF (x_move rfl) (by decide) fun a hF => ?_
    refine s_grd 11 hF rfl rfl rfl ?_
    refine s_val hF (x_fa0 fa27_0 rfl) (by decide) fun a hF => ?_
    refine s_grd 11 hF rfl rfl rfl ?_
    refine s_val hF (x_load rfl (m_load flat3 (m3.cell (j := 0) rfl))) (by decide) fun a hF => ?_
    refine s_grd 11 hF rfl rfl rfl ?_
    refine s_callS [_] hF (enters_of Try.func54 (by kernel_rfl) rfl) rfl (by decide) ((kids54 c.kd w10).mono fun e w' h => ⟨(by rw [h.1] : e = .returned (.int .i64 (arT c.kd))), h.2⟩) fun a hF => ?_
    refine s_grd 11 hF rfl rfl rfl ?_
    refine s_val hF (x_eql (b := true) (decide_eq_true (by omega)) rfl rfl) (by decide) fun a hF => ?_
    refine s_val hF (x_pick (b := false) rfl rfl) (by decide) fun a hF => ?_
    refine s_end (hK6 _ _ ?_)
    refine wp_if hF rfl ?_
    refine wp_rs fun K7 hK7 => ?_
    refine s_val hF (x_move rfl) (by decide) fun a hF => ?_
    refine s_val hF (x_ldW wide27 m3 rfl rfl) (by decide) fun a hF => ?_
    refine s_val hF (x_move rfl) (by decide) fun a hF => ?_
    refine s_val hF (x_build (vs := [(0, _), (1, _)]) rfl (b90_01 _ _ _ _ _ _ _ _ _ _ _ _ _ _ _ _)) (by decide) fun a hF => ?_
    refine s_litG [(.agg (enc9 ((⟨c.kd, xn, xs, (p1, p2, .slice a9 n9 d9), .slice a8 ls9.length d8, .slice av nv cv⟩ : C8), d)).toArray)] el87 hF (by decide) rfl (by simp [Value.cells, enc9, tc]) rfl (by decide) (by decide) fun w12 bl a ebl ml B13 zbl hF => ?_
    have sB13 := B13.size
    have hB := hB.trans (B13.mono hB.size)
    have hK := hK.below B13
    have hO := own_below hO B13
    have m3 := m3.old B13
    have ml : Blk w12 bl 90 (enc9 ((⟨c.kd, xn, xs, (p1, p2, .slice a9 n9 d9), .slice a8 ls9.length d8, .slice av nv cv⟩ : C8), d)) := by simpa [Value.cells] using ml
    refine s_appL (o := o) el87 hF (by decide) rfl rfl hO ml rfl (by simp [enc9, tc, Value.oneCell']) hat (by omega) (by omega) (by decide) (by omega) fun v3 w14 a o3 hOn hOatn how hsrc k15 hkeep hF => ?_
    have sk15 := k15.size
    have hB := k15.under hB (by omega)
    have hK := hK.trans k15 (by omega)
    have m3 := m3.k2 k15 (by omega)
    have ml := ml.k2 k15 (by omega)
    have hO := hOn
    have hO_at := hOatn
    refine s_val hF (x_assign rfl) (by decide) fun a hF => ?_
    refine s_end (hK7 _ _ ?_)
    have hO2 : w14.ownsRow q 90 9 v3 (es ++ [((⟨c.kd, xn, xs, (p1, p2, .slice a9 n9 d9), .slice a8 ls9.length d8, .slice av nv cv⟩ : C8), d)]).length ((es ++ [((⟨c.kd, xn, xs, (p1, p2, .slice a9 n9 d9), .slice a8 ls9.length d8, .slice av nv cv⟩ : C8), d)]).flatMap enc9) := by rw [fm9_app]; simpa using hO
    have hk0 : c.kids = [] := List.eq_nil_of_length_eq_zero (by omega)
    refine wp_ret (then_ret (res_slot hF rfl rfl ⟨_, rfl, ⟨o3, _, hO2, hO_at, by omega, by rw [CT.leaves_nil hk0]; exact hLT.snoc hx0⟩, hK⟩))
  · have hes0 := hLT.1
    refine wp_rs fun K8 hK8 => ?_
    refine s_val hF (x_ldW wide27 m3 rfl rfl) (by decide) fun a hF => ?_
    refine s_callB [_] hF (enters_of Try.func70 (by kernel_rfl) rfl) rfl (by decide) ((leaf70 c (⟨c.kd, xn, xs, (p1, p2, .slice a9 n9 d9), .slice a8 ls9.length d8, .slice av nv cv⟩ : C8) _ w0 w2 hx0).mono fun e w' h => ⟨by rw [h.1, decide_eq_false hy.1], h.2⟩) fun w16 a B17 hF => ?_
    have sB17 := B17.size
    have hB := hB.trans (B17.mono hB.size)
    have hK := hK.below B17
    have hO := own_below hO B17
    have m3 := m3.old B17
    refine s_val hF (x_move rfl) (by decide) fun a hF => ?_
    refine s_grd 11 hF rfl rfl rfl ?_
    refine s_val hF (x_fa0 fa27_0 rfl) (by decide) fun a hF => ?_
    refine s_grd 11 hF rfl rfl rfl ?_
    refine s_val hF (x_load rfl (m_load flat3 (m3.cell (j := 0) rfl))) (by decide) fun a hF => ?_
    refine s_grd 11 hF rfl rfl rfl ?_
    refine s_callS [_] hF (enters_of Try.func54 (by kernel_rfl) rfl) rfl (by decide) ((kids54 c.kd w16).mono fun e w' h => ⟨(by rw [h.1] : e = .returned (.int .i64 (arT c.kd))), h.2⟩) fun a hF => ?_
    refine s_grd 11 hF rfl rfl rfl ?_
    refine s_val hF (x_eql (b := false) (decide_eq_false (by omega)) rfl rfl) (by decide) fun a hF => ?_
    refine s_val hF (x_pick (b := false) rfl rfl) (by decide) fun a hF => ?_
    refine s_end (hK8 _ _ ?_)
    refine wp_if hF rfl ?_
    refine wp_skip (hK2 _ _ ?_)
    refine wp_seq_k fun K9 hK9 => ?_
    refine dk2_seq (w16.heap.size) (w16.heap.size) (ops := regOps Try.f80 3) (N := 8) (by kernel_rfl) wide_orders (by kernel_rfl) fun w18 hw18 B19 hS K10 hK10 => ?_
    have zw18 : w18.heap.size = w16.heap.size := by rw [hw18]
    have sB19 := B19.size
    have hB := hB.trans (B19.mono hB.size)
    have hK := hK.below B19
    have hO := own_below hO B19
    have m3 := m3.old B19
    have hO_d := hO
    have m3_d := m3
    have hB_d := hB
    have hK_d := hK
    refine d_val 0 23 (op := (Go.Op.fieldAddr 27 (Go.Operand.tmp 3) 5)) hF hS (by kernel_rfl) (fun W hW => x_fa0 fa27_5 rfl) (by kernel_rfl) (by decide) fun a hF => ?_
    refine d_val 1 24 (op := (Go.Op.load 25 (Go.Operand.tmp 23))) hF hS (by kernel_rfl) (fun W hW => x_load rfl (m_load flat25 ((m3_d.k2 hW (by omega)).cell (j := 7) rfl))) (by kernel_rfl) (by decide) fun a hF => ?_
    refine d_val 2 25 (op := (Go.Op.fieldAddr 27 (Go.Operand.tmp 3) 0)) hF hS (by kernel_rfl) (fun W hW => x_fa0 fa27_0 rfl) (by kernel_rfl) (by decide) fun a hF => ?_
    refine d_val 3 26 (op := (Go.Op.load 3 (Go.Operand.tmp 25))) hF hS (by kernel_rfl) (fun W hW => x_load rfl (m_load flat3 ((m3_d.k2 hW (by omega)).cell (j := 0) rfl))) (by kernel_rfl) (by decide) fun a hF => ?_
    refine d_val 7 30 (op := (Go.Op.move (Go.Operand.const (Go.Value.int Go.IntKind.i64 0)))) hF hS (by kernel_rfl) (fun W hW => x_move rfl) (by kernel_rfl) (by decide) fun a hF => ?_
    refine d_one 4 (some 27) (Go.Op.call (Go.Call.mk (Go.Callee.value (Go.Operand.func 54)) #[(Go.Operand.tmp 26)] #[3])) (by kernel_rfl) (by kernel_rfl) fun ty pos af => ?_
    refine s_callS [_] hF (enters_of Try.func54 (by kernel_rfl) rfl) rfl (by decide) ((kids54 c.kd w18).mono fun e w' h => ⟨(by rw [h.1, ← hy.2.2] : e = .returned (.int .i64 (c.kids.length : Int))), h.2⟩) fun a hF => ?_
    refine s_end ⟨hS, ?_⟩
    refine d_val 5 28 (op := (Go.Op.slice 25 (Go.Operand.tmp 24) none (some (Go.Operand.tmp 27)) none)) hF hS (by kernel_rfl) (fun W hW => x_slice (vlo := none) (vhi := some _) (vmx := none) rfl rfl rfl rfl (m_sliceUK c.kids.length Try.underlying25 el25.size (by omega) (by omega))) (by kernel_rfl) (by decide) fun a hF => ?_
    refine d_val 6 29 (op := (Go.Op.call (Go.Call.mk (Go.Callee.builtin Go.Builtin.len) #[(Go.Operand.tmp 28)] #[25]))) hF hS (by kernel_rfl) (fun W hW => x_len Try.underlying25 rfl) (by kernel_rfl) (by decide) fun a hF => ?_
    refine d_end (by kernel_rfl) (hK10 _ _ ?_)
    refine wp_block ?_
    refine wp_up c.kids.length (fun i a w => ∃ v' o' es', w.ownsRow q 90 9 v' es'.length (es'.flatMap enc9) ∧ (∀ j, v'.ownBlock = some j → j = o') ∧ ((o' = o ∨ b3 < o') ∧ o' < w.heap.size) ∧ LTw w0 es' (ls ++ c.lvK d i) ∧ (c.lvK d i).length ≤ szs (c.kids.take i) ∧ Blk w b3 27 [.int .i64 c.kd, .int .i64 xn, .string xs, .int .i64 p1, .int .i64 p2, .slice a9 n9 d9, .slice a8 ls9.length d8, .slice av nv cv] ∧ Below w0.heap.size w0 w ∧ Ktw o o w1 w ∧ Fs 46 a [(1, .int .i64 d), (2, v'), (3, .pointer (some ⟨b3, 0, none⟩)), (28, .slice av c.kids.length cv), (29, .int .i64 (c.kids.length : Int)), (30, .int .i64 (i : Int))]) ⟨v, o, es, hO, hat, by omega, by simpa [CT.lvK] using hLT, by simp [CT.lvK], m3, hB, hK, hF.sub _ rfl⟩ ?_
    have hb3 : w1.heap.size ≤ b3 := by omega
    repeat clear hF
    clear hB hK m3 hO hat hLT
    rintro i a w hi ⟨vv, o2, es2, hO, hat, hlo, hLT, hll, m3, hB, hK, hF⟩ K' hK'
    have sB := hB.size
    have sK := hK.size
    have hb3l := m3.lt
    have hL1 := hLT.1
    have hes1 : es.length = ls.length := hes0
    rw [List.length_append] at hL1
    have h1vv := (Rd.own hO).one
    refine wp_rs fun K11 hK11 => ?_
    refine s_val hF (x_lss (b := decide (i < c.kids.length)) (decide_eq_decide.2 (by omega)) rfl rfl) (by decide) fun a hF => ?_
    refine s_end (hK11 _ _ ?_)
    refine wp_seq_k fun K12 hK12 => ?_
    refine wp_iff hF rfl (fun hc31 => ?_) (fun hc31 => ?_)
    · obtain ⟨b9, off9, c9, y, kd, hve, hyk, hry, hAb, hbl, hrow⟩ := hkid.row (i := i) (by omega)
      cases hve
      have hks := CT.kid_size hyk
      have hsz := szs_at hyk
      have hlv := CT.lvK_at (d := d) hyk
      have hll2 := kd.leaves_len (d + c.bnd i)
      have hbi := c.bnd_is i
      refine wp_skip (hK12 _ _ ?_)
      refine wp_seq_k fun K13 hK13 => ?_
      refine wp_block ?_
      refine wp_rs fun K14 hK14 => ?_
      refine s_val hF (x_move rfl) (by decide) fun a hF => ?_
      refine s_val hF (x_ixa rfl rfl (m_ixsK i Try.underlying25 el25.size rfl (by omega))) (by decide) fun a hF => ?_
      refine s_val hF (x_ldA wide27 (hrow _ (hB.block _ hbl)) rfl rfl) (by decide) fun a hF => ?_
      refine s_alloc hF (by decide) zero27 fun w20 b8 a eb8 m8 B21 zb8 hF => ?_
      have sB21 := B21.size
      have hB := hB.trans (B21.mono hB.size)
      have hK := hK.below B21
      have m3 := m3.old B21
      have hO := own_below hO B21
      refine s_val hF (x_assign rfl) (by decide) fun a hF => ?_
      refine s_putW hF rfl rfl (size_wide wide27) m8 rfl hry.one fun w24 m8 o25 => ?_
      have so25 := o25.size
      have hB := hB.trans (o25.below (by omega))
      have hK := hK.only o25 (by omega)
      have m3 := m3.only o25 (by omega)
      have hO := own_only hO o25 (fun e => by have := hat _ e; omega)
      refine s_end (hK14 _ _ ?_)
      refine dk2_one (o2) (o2) (ops := regOps Try.f80 6) (N := 10) (by kernel_rfl) wide_orders (by kernel_rfl) fun w26 hw26 B27 hS K15 hK15 => ?_
      have zw26 : w26.heap.size = w24.heap.size := by rw [hw26]
      have sB27 := B27.size
      have hB := hB.trans (B27.mono hB.size)
      have hK := hK.below B27
      have m3 := m3.old B27
      have hO := own_below hO B27
      have m8 := m8.old B27
      have m3_d := m3
      have hO_d := hO
      have m8_d := m8
      have hB_d := hB
      have hK_d := hK
      refine d_val 0 35 (op := (Go.Op.load 27 (Go.Operand.tmp 8))) hF hS (by kernel_rfl) (fun W hW => x_ldW wide27 (m8_d.k2 hW (by omega)) rfl rfl) (by kernel_rfl) (by decide) fun a hF => ?_
      refine d_val 1 36 (op := (Go.Op.move (Go.Operand.tmp 1))) hF hS (by kernel_rfl) (fun W hW => x_move rfl) (by kernel_rfl) (by decide) fun a hF => ?_
      refine d_val 2 37 (op := (Go.Op.fieldAddr 27 (Go.Operand.tmp 3) 0)) hF hS (by kernel_rfl) (fun W hW => x_fa0 fa27_0 rfl) (by kernel_rfl) (by decide) fun a hF => ?_
      refine d_val 3 38 (op := (Go.Op.load 3 (Go.Operand.tmp 37))) hF hS (by kernel_rfl) (fun W hW => x_load rfl (m_load flat3 ((m3_d.k2 hW (by omega)).cell (j := 0) rfl))) (by kernel_rfl) (by decide) fun a hF => ?_
      refine d_val 4 39 (op := (Go.Op.move (Go.Operand.tmp 7))) hF hS (by kernel_rfl) (fun W hW => x_move rfl) (by kernel_rfl) (by decide) fun a hF => ?_
      refine d_val 7 42 (op := (Go.Op.move (Go.Operand.tmp 2))) hF hS (by kernel_rfl) (fun W hW => x_move rfl) (by kernel_rfl) (by decide) fun a hF => ?_
      refine d_one 5 (some 40) (Go.Op.call (Go.Call.mk (Go.Callee.value (Go.Operand.func 114)) #[(Go.Operand.tmp 38), (Go.Operand.tmp 39)] #[3, 3])) (by kernel_rfl) (by kernel_rfl) fun ty pos af => ?_
      refine s_callB [_, _] hF (enters_of Try.func114 (by kernel_rfl) rfl) rfl (by decide) (rbinds114 c _ _ i w0 w26 hx0 (by omega)) fun w28 a B29 hF => ?_
      have sB29 := B29.size
      have hB := hB.trans (B29.mono hB.size)
      have hK := hK.below B29
      have m3 := m3.old B29
      have hO := own_below hO B29
      have m8 := m8.old B29
      have hS := hS.below B29
      refine s_end ⟨hS, ?_⟩
      refine d_val 6 41 (op := (Go.Op.binOp Go.BinOp.add 3 (Go.Operand.tmp 36) (Go.Operand.tmp 40) 3)) hF hS (by kernel_rfl) (fun W hW => x_add (by omega) (by omega) rfl rfl) (by kernel_rfl) (by decide) fun a hF => ?_
      refine d_one 8 (some 43) (Go.Op.call (Go.Call.mk (Go.Callee.value (Go.Operand.func 80)) #[(Go.Operand.tmp 35), (Go.Operand.tmp 41), (Go.Operand.tmp 42)] #[27, 3, 87])) (by kernel_rfl) (by kernel_rfl) fun ty pos af => ?_
      refine s_call (R := fun u w' => ((∃ o' es', w'.ownsRow q 90 9 u es'.length (es'.flatMap enc9) ∧ (∀ j, u.ownBlock = some j → j = o') ∧ ((o' = o2 ∨ w28.heap.size ≤ o') ∧ o' < w'.heap.size) ∧ LTw w0 es' ((ls ++ c.lvK d i) ++ kd.leaves (d + c.bnd i)))) ∧ Ktw o2 o2 w28 w') hF [_, _, _] (enters_of Try.func80 (by kernel_rfl) rfl) rfl (by decide) (ih kd y (by omega) hry (d + c.bnd i) vv o2 es2 (ls ++ c.lvK d i) w28 (by omega) (by omega) (by omega) hB (by omega) (by omega) (by omega) hO hat hLT) ?_
      rintro v4 w30 a ⟨⟨o4, es4, hO, hat, hlo4, hLT⟩, k31⟩ hF
      have sk31 := k31.size
      have hB := k31.under hB (by omega)
      have hK := hK.trans k31 (by omega)
      have m3 := m3.k2 k31 (by omega)
      have m8 := m8.k2 k31 (by omega)
      have hS := hS.trans k31 (by omega)
      refine s_end ⟨hS, ?_⟩
      refine d_val 9 2 (op := (Go.Op.assign (Go.Operand.tmp 43))) hF hS (by kernel_rfl) (fun W hW => x_assign rfl) (by kernel_rfl) (by decide) fun a hF => ?_
      refine d_end (by kernel_rfl) (hK15 _ _ ?_)
      refine hK13 _ _ ?_
      refine wp_region_lit ?_
      refine s_val hF (x_addn (i + 1) (by omega) (by omega) rfl rfl) (by decide) fun a hF => ?_
      refine s_val hF (x_move rfl) (by decide) fun a hF => ?_
      refine s_end (hK' _ _ (by omega) ⟨v4, o4, es4, hO, hat, by omega, by rw [hlv, ← List.append_assoc]; exact hLT, by rw [hlv, List.length_append]; omega, m3, hB, hK, hF.sub _ rfl⟩)
    · obtain rfl : i = c.kids.length := by omega
      refine wp_exit (hK9 _ _ ?_)
      refine wp_rs fun K16 hK16 => ?_
      refine s_val hF (x_move rfl) (by decide) fun a hF => ?_
      refine s_val hF (x_assign rfl) (by decide) fun a hF => ?_
      refine s_end (hK16 _ _ ?_)
      refine wp_ret (res_slot hF rfl rfl ⟨_, rfl, ⟨o2, es2, hO, hat, by omega, by rw [CT.leaves_lvK (by omega)]; exact hLT⟩, hK⟩)
end Go.Proofs.Ytgpciphjhnabcaa
