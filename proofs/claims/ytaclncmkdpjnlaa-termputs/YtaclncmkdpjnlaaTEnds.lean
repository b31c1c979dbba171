/- TermPuts. -/
import Derived.Test.YtaclncmkdpjnlaaTerm29
import Derived.Test.YtaclncmkdpjnlaaLev1
import Derived.ProofKit
import Derived.Deep.Slices
import Derived.ChangeSame
import Derived.ChangeArms
import Derived.SizedLaws
import Derived.Deep.Strs
import Derived.Test.YtaclncmkdpjnlaaTerm17
namespace Go.Proofs.Ytaclncmkdpjnlaa
open Go.RowKit Go.Shelf
set_option linter.unusedVariables false
set_option linter.unusedSimpArgs false

noncomputable def allW (cs : List CT) : Bool := cs.all fun c => decide ((c.mayT 6 1 0).1 = 0)
theorem allW_at {cs : List CT} {i : Nat} {p : CT} (h : cs[i]? = some p) : allW (cs.drop i) = (decide ((p.mayT 6 1 0).1 = 0) && allW (cs.drop (i + 1))) := by
  have hi : i < cs.length := (List.getElem?_eq_some_iff.1 h).1
  have : cs[i] = p := (List.getElem?_eq_some_iff.1 h).2
  rw [← List.getElem_cons_drop hi, this]; rfl
theorem allW_mem {cs : List CT} (h : allW cs = true) : ∀ c ∈ cs, (c.mayT 6 1 0).1 = 0 := fun c hc => of_decide_eq_true (List.all_eq_true.1 h c hc)
theorem wf_of {W : World} {A : Nat → Prop} {c : CT} {x : C8} (hx : RC W A c x) (h : (c.mayT 6 1 0).1 = 0) : c.wf := by
  have hm := may_zero (vars := 6) c x 1 0 hx h
  exact ⟨hm.1, by have := hm.2.2.1; omega, by have := hm.2.2.2; omega⟩
theorem sameP_pu (v : PT) (hv : sameP v v) : ∀ (p : PT) (d : Int), sameP p p → sameP (PT.pu v p d) (PT.pu v p d)
  | .var n, d, h => by
    simp only [PT.pu]
    split
    · exact sameP_sh _ _ _ hv
    · rfl
  | .two k p q, d, h => ⟨rfl, sameP_pu v hv p d h.2.1, sameP_pu v hv q _ h.2.2⟩
  | .lt p q r, d, h => ⟨sameP_pu v hv p d h.1, sameP_pu v hv q d h.2.1, sameP_pu v hv r _ h.2.2⟩
  | .sort o, d, h => h
  | .cst s os, d, h => h
  | .odd k, d, h => rfl
theorem pu_fit (v : PT) (hv : v.fit) : ∀ (p : PT) (d : Int), p.fit → (PT.pu v p d).fit
  | .var n, d, h => by
    simp only [PT.pu]
    split
    · exact sh_fit _ _ _ hv
    · trivial
  | .two k p q, d, h => ⟨pu_fit v hv p d h.1, pu_fit v hv q _ h.2⟩
  | .lt p q r, d, h => ⟨pu_fit v hv p d h.1, pu_fit v hv q d h.2.1, pu_fit v hv r _ h.2.2⟩
  | .sort o, d, h => trivial
  | .cst s os, d, h => h
  | .odd k, d, h => trivial
theorem inst_gen {M N : Int} {t v : PT} (ht : t.bd M) (hv : v.bd N) (hM : 0 ≤ M ∧ M ≤ 1099511627776) (hN : 0 ≤ N ∧ N ≤ 1099511627776) (ot : t.ok) (ov : v.ok) (hok : (PT.pu v t 0).ok) : PT.inst t v = PT.pu v t 0 ∧ (PT.put v t 0).ok ∧ (PT.pu v t 0).bd (M + N + 2000) := by
  have hd := ot.2
  have h2 := put_pu hv hN.1 t 0 ht (by decide) (by omega)
  have h3 : (PT.put v t 0).ok := by rw [h2.1]; exact hok
  refine ⟨?_, h3, h2.2.mono (by omega)⟩
  unfold PT.inst
  rw [if_pos ⟨ot, ov, h3⟩, h2.1]
theorem pu_ok {t v : PT} (hs : t.size * v.size ≤ 20000) (hd : t.dep + v.dep ≤ 2000) : (PT.pu v t 0).ok := ⟨Nat.le_trans (pu_size v t 0).1 hs, Nat.le_trans (pu_size v t 0).2 hd⟩
theorem ess_two {c : CT} {k : Int} {p q : PT} (h : c.ess = .two k p q) : ∃ a b m, c = .two k a b m := by
  cases c <;> simp [CT.ess] at h
  obtain ⟨rfl, _⟩ := h
  exact ⟨_, _, _, rfl⟩
/-- What is asked of the three. -/
theorem puts_all {t u v : PT} (bt : t.bd 1048576) (bu : u.bd 1048576) (bv : v.bd 1048576) (st : t.size ≤ 400 ∧ t.dep ≤ 64) (su : u.size ≤ 400 ∧ u.dep ≤ 64) (sv : v.size ≤ 400 ∧ v.dep ≤ 64) (h1 : t.size * u.size ≤ 15000) (h2 : t.size * u.size * v.size ≤ 15000) (d : PT) (hd : d = .cst ⟨#[100]⟩ []) :
    PT.inst t u = PT.pu u t 0 ∧ PT.inst (PT.pu u t 0) v = PT.pu v (PT.pu u t 0) 0 ∧ PT.inst (.two 4 d t) v = .two 4 d (PT.pu v t 1) ∧ ((PT.two 4 d t).ok ∧ v.ok ∧ (PT.put v (.two 4 d t) 0).ok) ∧ PT.inst u v = PT.pu v u 0 ∧ PT.inst (PT.pu v t 1) (PT.pu v u 0) = PT.pu v (PT.pu u t 0) 0 ∧ (PT.pu v (PT.pu u t 0) 0).ok := by
  have t1 := t.size_one
  have u1 := u.size_one
  have v1 := v.size_one
  have ot : t.ok := ⟨by omega, by omega⟩
  have ou : u.ok := ⟨by omega, by omega⟩
  have ov : v.ok := ⟨by omega, by omega⟩
  have a1 : (PT.pu u t 0).ok := pu_ok (by omega) (by omega)
  have g1 := inst_gen bt bu (by omega) (by omega) ot ou a1
  have s1 := pu_size u t 0
  have a2 : (PT.pu v (PT.pu u t 0) 0).ok := pu_ok (Nat.le_trans (Nat.mul_le_mul_right _ s1.1) (by omega)) (by omega)
  have g2 := inst_gen g1.2.2 bv (by omega) (by omega) a1 ov a2
  have tv : t.size * v.size ≤ 15000 := by
    refine Nat.le_trans ?_ h2
    exact Nat.mul_le_mul_right _ (Nat.le_mul_of_pos_right _ u1)
  have uv : u.size * v.size ≤ 15000 := by
    refine Nat.le_trans ?_ h2
    exact Nat.mul_le_mul_right _ (Nat.le_mul_of_pos_left _ t1)
  have s3 := pu_size v t 1
  have e3 : PT.pu v (.two 4 d t) 0 = .two 4 d (PT.pu v t 1) := by subst hd; rfl
  have sd : d.size = 1 ∧ d.dep = 1 := by subst hd; exact ⟨rfl, rfl⟩
  have o3 : (PT.two 4 d t).ok := ⟨by simp only [PT.size]; omega, by simp only [PT.dep]; omega⟩
  have a3 : (PT.pu v (.two 4 d t) 0).ok := by rw [e3]; exact ⟨by simp only [PT.size]; omega, by simp only [PT.dep]; omega⟩
  have g3 := inst_gen (t := .two 4 d t) ⟨by subst hd; trivial, bt⟩ bv (by omega) (by omega) o3 ov a3
  have a4 : (PT.pu v u 0).ok := pu_ok (by omega) (by omega)
  have g4 := inst_gen bu bv (by omega) (by omega) ou ov a4
  have b3 := (put_pu bv (by decide) t 1 bt (by decide) (by omega)).2
  have g5 := inst_gen (t := PT.pu v t 1) (v := PT.pu v u 0) b3 g4.2.2 (by omega) (by omega) ⟨by omega, by omega⟩ a4 (by rw [← Int.zero_add 1, ← pu_pu u v t 0 (by decide)]; exact a2)
  refine ⟨g1.1, g2.1, by rw [g3.1, e3], ⟨o3, ov, g3.2.1⟩, g4.1, ?_, a2⟩
  rw [g5.1, ← Int.zero_add 1, ← pu_pu u v t 0 (by decide)]

set_option maxRecDepth 100000 in
set_option maxHeartbeats 1600000 in
theorem whole50e (cs : List CT) (v : Value) (w0 : World) (hV : RK w0 (fun k => k < w0.heap.size) v cs) (hlen : cs.length ≤ 1000000) (hfit : ∀ c ∈ cs, c.fit) : Calls Try.prog 38 #[v] w0 fun e w' => e = .returned (.bool (allW cs)) ∧ Below w0.heap.size w0 w' := by
  obtain ⟨av, cv, hve, _⟩ := hV.form
  subst hve
  have hB := Below.refl w0.heap.size w0
  have sB := hB.size
  refine calls_fs 15 [(0, .slice av cs.length cv)] Try.func38 rfl rfl rfl rfl rfl fun a hF => ?_
  refine wp_rs fun K1 hK1 => ?_
  refine s_val hF (x_assign rfl) (by decide) fun a hF => ?_
  refine s_end (hK1 _ _ ?_)
  refine wp_seq_k fun K2 hK2 => ?_
  refine wp_rs fun K3 hK3 => ?_
  refine s_val hF (x_move rfl) (by decide) fun a hF => ?_
  refine s_val hF (x_len Try.underlying25 rfl) (by decide) fun a hF => ?_
  refine s_val hF (x_move rfl) (by decide) fun a hF => ?_
  refine s_end (hK3 _ _ ?_)
  refine wp_block ?_
  refine wp_up cs.length (fun i a w => allW cs = allW (cs.drop i) ∧ Below w0.heap.size w0 w ∧ Fs 15 a [(5, .slice av cs.length cv), (6, .int .i64 (cs.length : Int)), (7, .int .i64 (i : Int))]) ⟨rfl, hB, hF.sub _ rfl⟩ ?_
  clear hF hB
  rintro i a w hi ⟨hok, hB, hF⟩ K' hK'
  have sB := hB.size
  refine wp_rs fun K4 hK4 => ?_
  refine s_val hF (x_lss (b := decide (i < cs.length)) (decide_eq_decide.2 (by omega)) rfl rfl) (by decide) fun a hF => ?_
  refine s_end (hK4 _ _ ?_)
  refine wp_seq_k fun K5 hK5 => ?_
  refine wp_iff hF rfl (fun hc8 => ?_) (fun hc8 => ?_)
  · obtain ⟨b9, off9, c9, y, p, hve, hp, hry, hAb, hbl, hrow⟩ := hV.row (i := i) (by omega)
    cases hve
    have hdr := allW_at hp
    refine wp_skip (hK5 _ _ ?_)
    refine wp_seq_k fun K6 hK6 => ?_
    refine wp_block ?_
    refine wp_rs fun K7 hK7 => ?_
    refine s_val hF (x_ixa rfl rfl (m_ixsK i Try.underlying25 el25.size rfl (by omega))) (by decide) fun a hF => ?_
    refine s_val hF (x_ldA wide27 (hrow _ (hB.block _ hbl)) rfl rfl) (by decide) fun a hF => ?_
    refine s_alloc hF (by decide) zero27 fun w2 b4 a eb4 m4 B3 zb4 hF => ?_
    have sB3 := B3.size
    have hB := hB.trans (B3.mono hB.size)
    refine s_putW hF rfl rfl (size_wide wide27) m4 rfl hry.one fun w6 m4 o7 => ?_
    have so7 := o7.size
    have hB := hB.trans (o7.below (by omega))
    refine s_end (hK7 _ _ ?_)
    refine wp_rs fun K8 hK8 => ?_
    refine s_val hF (x_ldW wide27 m4 rfl rfl) (by decide) fun a hF => ?_
    refine s_callB [_, _] hF (enters_of Try.func26 (by kernel_rfl) rfl) rfl (by decide) (rMay30 6 p y w6 (hry.bel hB) (hfit p (List.mem_of_getElem? hp))) fun w8 a B9 hF => ?_
    have sB9 := B9.size
    have hB := hB.trans (B9.mono hB.size)
    have m4 := m4.old B9
    refine s_val hF (x_neq rfl rfl rfl) (by decide) fun a hF => ?_
    refine s_end (hK8 _ _ ?_)
    refine wp_iff hF rfl (fun hc13 => ?_) (fun hc13 => ?_)
    · rw [hdr, decide_eq_false hc13, Bool.false_and] at hok
      refine wp_rs fun K9 hK9 => ?_
      refine s_val hF (x_assign rfl) (by decide) fun a hF => ?_
      refine s_end (hK9 _ _ ?_)
      refine wp_ret (inb_ret (then_ret (then_ret (inb_ret (then_ret (res_slot hF rfl rfl ⟨by rw [hok]; try rfl, hB⟩))))))
    · have hz : (p.mayT 6 1 0).1 = 0 := by omega
      rw [hdr, decide_eq_true hz, Bool.true_and] at hok
      refine wp_skip (hK6 _ _ ?_)
      refine wp_region_lit ?_
      refine s_val hF (x_addn (i + 1) (by omega) (by omega) rfl rfl) (by decide) fun a hF => ?_
      refine s_val hF (x_move rfl) (by decide) fun a hF => ?_
      refine s_end (hK' _ _ (by omega) ⟨hok, hB, hF.sub _ rfl⟩)
  · obtain rfl : i = cs.length := by omega
    rw [List.drop_length] at hok
    refine wp_exit (hK2 _ _ ?_)
    refine wp_rs fun K10 hK10 => ?_
    refine s_val hF (x_assign rfl) (by decide) fun a hF => ?_
    refine s_end (hK10 _ _ ?_)
    refine wp_ret (res_slot hF rfl rfl ⟨by rw [hok]; try rfl, hB⟩)

set_option maxRecDepth 100000 in
set_option maxHeartbeats 1600000 in
theorem termPuts_walk (t u v : CT) (x y z : C8) (w0 : World) (hx : RC w0 (fun k => k < w0.heap.size) t x) (hy : RC w0 (fun k => k < w0.heap.size) u y) (hz : RC w0 (fun k => k < w0.heap.size) v z) (ft : t.fit) (fu : u.fit) (fv : v.fit) : Calls Try.prog 8 #[tv x, tv y, tv z] w0 fun e w' => e = .returned (.bool true) ∧ Below w0.heap.size w0 w' := by
  have hB := Below.refl w0.heap.size w0
  have sB := hB.size
  refine calls_fs 69 [(0, tv x), (1, tv y), (2, tv z)] Try.func8 rfl rfl rfl rfl rfl fun a hF => ?_
  refine wp_rs fun K1 hK1 => ?_
  refine s_box (tc x) hF (by decide) rfl rfl fun w2 b3 a eb3 m3 B3 zb3 hF => ?_
  have sB3 := B3.size
  have hB := hB.trans (B3.mono hB.size)
  refine s_box (tc y) hF (by decide) rfl rfl fun w4 b4 a eb4 m4 B5 zb4 hF => ?_
  have sB5 := B5.size
  have hB := hB.trans (B5.mono hB.size)
  have m3 := m3.old B5
  refine s_box (tc z) hF (by decide) rfl rfl fun w6 b5 a eb5 m5 B7 zb5 hF => ?_
  have sB7 := B7.size
  have hB := hB.trans (B7.mono hB.size)
  have m3 := m3.old B7
  have m4 := m4.old B7
  refine s_val hF (x_assign rfl) (by decide) fun a hF => ?_
  refine s_end (hK1 _ _ ?_)
  refine wp_seq_k fun K2 hK2 => ?_
  have hcs : allW [t, u, v] = false ∨ (allW [t, u, v] = true ∧ 15000 < ((t.size * u.size : Nat) : Int)) ∨ (allW [t, u, v] = true ∧ ¬ 15000 < ((t.size * u.size : Nat) : Int) ∧ 15000 < ((t.size * u.size * v.size : Nat) : Int)) ∨ (allW [t, u, v] = true ∧ ¬ 15000 < ((t.size * u.size : Nat) : Int) ∧ ¬ 15000 < ((t.size * u.size * v.size : Nat) : Int)) := by cases allW [t, u, v]; (· exact .inl rfl); (· simp only [true_and, Bool.true_eq_false, false_or]; omega)
  rcases hcs with haw | ⟨haw, hk⟩ | ⟨haw, hk⟩ | ⟨haw, hk⟩
  · skip
    refine dk2_seq (w6.heap.size) (w6.heap.size) (ops := regOps Try.f8 1) (N := 25) (by kernel_rfl) wide_orders (by kernel_rfl) fun w8 hw8 B9 hS K4 hK4 => ?_
    have zw8 : w8.heap.size = w6.heap.size := by rw [hw8]
    have sB9 := B9.size
    have hB := hB.trans (B9.mono hB.size)
    have m3 := m3.old B9
    have m4 := m4.old B9
    have m5 := m5.old B9
    have m3_d := m3
    have m4_d := m4
    have m5_d := m5
    have hB_d := hB
    refine d_val 0 10 (op := (Go.Op.load 27 (Go.Operand.tmp 3))) hF hS (by kernel_rfl) (fun W hW => x_ldW wide27 (m3_d.k2 hW (by omega)) rfl rfl) (by kernel_rfl) (by decide) fun a hF => ?_
    refine d_val 1 11 (op := (Go.Op.load 27 (Go.Operand.tmp 4))) hF hS (by kernel_rfl) (fun W hW => x_ldW wide27 (m4_d.k2 hW (by omega)) rfl rfl) (by kernel_rfl) (by decide) fun a hF => ?_
    refine d_val 2 12 (op := (Go.Op.load 27 (Go.Operand.tmp 5))) hF hS (by kernel_rfl) (fun W hW => x_ldW wide27 (m5_d.k2 hW (by omega)) rfl rfl) (by kernel_rfl) (by decide) fun a hF => ?_
    refine d_one 3 (some 13) (Go.Op.buildSlice 25 3 #[(0, (Go.Operand.tmp 10)), (1, (Go.Operand.tmp 11)), (2, (Go.Operand.tmp 12))]) (by kernel_rfl) (by kernel_rfl) fun ty pos af => ?_
    refine s_litG [tv x, tv y, tv z] el25 hF (by decide) rfl (by simp [Value.cells, tc]) rfl (by decide) (by decide) fun w10 bl a ebl ml B11 zbl hF => ?_
    have sB11 := B11.size
    have hB := hB.trans (B11.mono hB.size)
    have m3 := m3.old B11
    have m4 := m4.old B11
    have m5 := m5.old B11
    have hS := hS.below B11
    have ml : Blk w10 bl 27 (tc x ++ tc y ++ tc z) := by simpa [Value.cells] using ml
    refine s_end ⟨hS, ?_⟩
    refine d_one 4 (some 14) (Go.Op.call (Go.Call.mk (Go.Callee.value (Go.Operand.func 38)) #[(Go.Operand.tmp 13)] #[25])) (by kernel_rfl) (by kernel_rfl) fun ty pos af => ?_
    have hrk : RK w10 (fun k => k < w10.heap.size) (.slice (some ⟨bl, 0, none⟩) 3 3) [t, u, v] := ⟨[x, y, z], ⟨by simpa using Rd.blk ml (n := 3) rfl, fun _ b hb => by simp [Value.ownBlock] at hb; subst hb; exact ml.lt⟩, rfl, fun i x2 c2 e1 e2 => by rcases i with _ | _ | _ | i; (· simp at e1 e2; subst e1 e2; exact hx.bel hB); (· simp at e1 e2; subst e1 e2; exact hy.bel hB); (· simp at e1 e2; subst e1 e2; exact hz.bel hB); simp at e1⟩
    refine s_callB [_] hF (enters_of Try.func38 (by kernel_rfl) rfl) rfl (by decide) ((whole50e [t, u, v] _ w10 hrk (by simp) (by intro c hc; simp at hc; rcases hc with rfl | rfl | rfl <;> assumption)).mono fun e w' h => ⟨by rw [h.1, haw], h.2⟩) fun w12 a B13 hF => ?_
    have sB13 := B13.size
    have hB := hB.trans (B13.mono hB.size)
    have m3 := m3.old B13
    have m4 := m4.old B13
    have m5 := m5.old B13
    have hS := hS.below B13
    refine s_end ⟨hS, ?_⟩
    refine d_val 5 15 (op := (Go.Op.unOp Go.UnOp.not 4 (Go.Operand.tmp 14))) hF hS (by kernel_rfl) (fun W hW => x_not rfl) (by kernel_rfl) (by decide) fun a hF => ?_
    refine d_val 6 16 (op := (Go.Op.move (Go.Operand.tmp 15))) hF hS (by kernel_rfl) (fun W hW => x_move rfl) (by kernel_rfl) (by decide) fun a hF => ?_
    refine d_skip 7 17 16 (j := 6) (want := false) (op := (Go.Op.load 27 (Go.Operand.tmp 3))) hF hS (by kernel_rfl) (by kernel_rfl) rfl (by kernel_rfl) (by decide) fun a hF => ?_
    refine d_skip 8 18 16 (j := 6) (want := false) (op := (Go.Op.call (Go.Call.mk (Go.Callee.value (Go.Operand.func 22)) #[(Go.Operand.tmp 17)] #[27]))) hF hS (by kernel_rfl) (by kernel_rfl) rfl (by kernel_rfl) (by decide) fun a hF => ?_
    refine d_skip 9 19 16 (j := 6) (want := false) (op := (Go.Op.load 27 (Go.Operand.tmp 4))) hF hS (by kernel_rfl) (by kernel_rfl) rfl (by kernel_rfl) (by decide) fun a hF => ?_
    refine d_skip 10 20 16 (j := 6) (want := false) (op := (Go.Op.call (Go.Call.mk (Go.Callee.value (Go.Operand.func 22)) #[(Go.Operand.tmp 19)] #[27]))) hF hS (by kernel_rfl) (by kernel_rfl) rfl (by kernel_rfl) (by decide) fun a hF => ?_
    refine d_skip 11 21 16 (j := 6) (want := false) (op := (Go.Op.binOp Go.BinOp.mul 3 (Go.Operand.tmp 18) (Go.Operand.tmp 20) 3)) hF hS (by kernel_rfl) (by kernel_rfl) rfl (by kernel_rfl) (by decide) fun a hF => ?_
    refine d_skip 12 22 16 (j := 6) (want := false) (op := (Go.Op.binOp Go.BinOp.gtr 3 (Go.Operand.tmp 21) (Go.Operand.const (Go.Value.int Go.IntKind.i64 15000)) 3)) hF hS (by kernel_rfl) (by kernel_rfl) rfl (by kernel_rfl) (by decide) fun a hF => ?_
    refine d_val 13 23 (op := (Go.Op.pick (Go.Operand.tmp 16) (Go.Operand.const (Go.Value.bool true)) (Go.Operand.tmp 22))) hF hS (by kernel_rfl) (fun W hW => x_pick (b := true) rfl rfl) (by kernel_rfl) (by decide) fun a hF => ?_
    refine d_val 14 24 (op := (Go.Op.move (Go.Operand.tmp 23))) hF hS (by kernel_rfl) (fun W hW => x_move rfl) (by kernel_rfl) (by decide) fun a hF => ?_
    refine d_skip 15 25 24 (j := 14) (want := false) (op := (Go.Op.load 27 (Go.Operand.tmp 3))) hF hS (by kernel_rfl) (by kernel_rfl) rfl (by kernel_rfl) (by decide) fun a hF => ?_
    refine d_skip 16 26 24 (j := 14) (want := false) (op := (Go.Op.call (Go.Call.mk (Go.Callee.value (Go.Operand.func 22)) #[(Go.Operand.tmp 25)] #[27]))) hF hS (by kernel_rfl) (by kernel_rfl) rfl (by kernel_rfl) (by decide) fun a hF => ?_
    refine d_skip 17 27 24 (j := 14) (want := false) (op := (Go.Op.load 27 (Go.Operand.tmp 4))) hF hS (by kernel_rfl) (by kernel_rfl) rfl (by kernel_rfl) (by decide) fun a hF => ?_
    refine d_skip 18 28 24 (j := 14) (want := false) (op := (Go.Op.call (Go.Call.mk (Go.Callee.value (Go.Operand.func 22)) #[(Go.Operand.tmp 27)] #[27]))) hF hS (by kernel_rfl) (by kernel_rfl) rfl (by kernel_rfl) (by decide) fun a hF => ?_
    refine d_skip 19 29 24 (j := 14) (want := false) (op := (Go.Op.binOp Go.BinOp.mul 3 (Go.Operand.tmp 26) (Go.Operand.tmp 28) 3)) hF hS (by kernel_rfl) (by kernel_rfl) rfl (by kernel_rfl) (by decide) fun a hF => ?_
    refine d_skip 20 30 24 (j := 14) (want := false) (op := (Go.Op.load 27 (Go.Operand.tmp 5))) hF hS (by kernel_rfl) (by kernel_rfl) rfl (by kernel_rfl) (by decide) fun a hF => ?_
    refine d_skip 21 31 24 (j := 14) (want := false) (op := (Go.Op.call (Go.Call.mk (Go.Callee.value (Go.Operand.func 22)) #[(Go.Operand.tmp 30)] #[27]))) hF hS (by kernel_rfl) (by kernel_rfl) rfl (by kernel_rfl) (by decide) fun a hF => ?_
    refine d_skip 22 32 24 (j := 14) (want := false) (op := (Go.Op.binOp Go.BinOp.mul 3 (Go.Operand.tmp 29) (Go.Operand.tmp 31) 3)) hF hS (by kernel_rfl) (by kernel_rfl) rfl (by kernel_rfl) (by decide) fun a hF => ?_
    refine d_skip 23 33 24 (j := 14) (want := false) (op := (Go.Op.binOp Go.BinOp.gtr 3 (Go.Operand.tmp 32) (Go.Operand.const (Go.Value.int Go.IntKind.i64 15000)) 3)) hF hS (by kernel_rfl) (by kernel_rfl) rfl (by kernel_rfl) (by decide) fun a hF => ?_
    refine d_val 24 34 (op := (Go.Op.pick (Go.Operand.tmp 24) (Go.Operand.const (Go.Value.bool true)) (Go.Operand.tmp 33))) hF hS (by kernel_rfl) (fun W hW => x_pick (b := true) rfl rfl) (by kernel_rfl) (by decide) fun a hF => ?_
    refine d_end (by kernel_rfl) (hK4 _ _ ?_)
    refine wp_if hF rfl ?_
    refine wp_rs fun K5 hK5 => ?_
    refine s_callB [] hF (enters_of Try.func11 (by kernel_rfl) rfl) rfl (by decide) (awake15 w12) fun w14 a B15 hF => ?_
    have sB15 := B15.size
    have hB := hB.trans (B15.mono hB.size)
    have m3 := m3.old B15
    have m4 := m4.old B15
    have m5 := m5.old B15
    refine s_val hF (x_assign rfl) (by decide) fun a hF => ?_
    refine s_end (hK5 _ _ ?_)
    refine wp_ret (then_ret (res_slot hF rfl rfl ⟨rfl, hB⟩))
  · have hw := allW_mem haw
    have wt := wf_of hx (hw t (by simp))
    have wu := wf_of hy (hw u (by simp))
    have wv := wf_of hz (hw v (by simp))
    have ot := wt.ok
    have ou := wu.ok
    have ov_ := wv.ok
    have q1 : (t.size : Int) * (u.size : Int) = ((t.size * u.size : Nat) : Int) := by simp
    have q2 : ((t.size * u.size : Nat) : Int) * (v.size : Int) = ((t.size * u.size * v.size : Nat) : Int) := by simp
    have q3 : t.size * u.size ≤ 400 * 400 := Nat.mul_le_mul wt.2.1 wu.2.1
    have q4 : t.size * u.size * v.size ≤ 400 * 400 * 400 := Nat.mul_le_mul q3 wv.2.1
    refine dk2_seq (w6.heap.size) (w6.heap.size) (ops := regOps Try.f8 1) (N := 25) (by kernel_rfl) wide_orders (by kernel_rfl) fun w16 hw16 B17 hS K6 hK6 => ?_
    have zw16 : w16.heap.size = w6.heap.size := by rw [hw16]
    have sB17 := B17.size
    have hB := hB.trans (B17.mono hB.size)
    have m3 := m3.old B17
    have m4 := m4.old B17
    have m5 := m5.old B17
    have m3_d := m3
    have m4_d := m4
    have m5_d := m5
    have hB_d := hB
    refine d_val 0 10 (op := (Go.Op.load 27 (Go.Operand.tmp 3))) hF hS (by kernel_rfl) (fun W hW => x_ldW wide27 (m3_d.k2 hW (by omega)) rfl rfl) (by kernel_rfl) (by decide) fun a hF => ?_
    refine d_val 1 11 (op := (Go.Op.load 27 (Go.Operand.tmp 4))) hF hS (by kernel_rfl) (fun W hW => x_ldW wide27 (m4_d.k2 hW (by omega)) rfl rfl) (by kernel_rfl) (by decide) fun a hF => ?_
    refine d_val 2 12 (op := (Go.Op.load 27 (Go.Operand.tmp 5))) hF hS (by kernel_rfl) (fun W hW => x_ldW wide27 (m5_d.k2 hW (by omega)) rfl rfl) (by kernel_rfl) (by decide) fun a hF => ?_
    refine d_one 3 (some 13) (Go.Op.buildSlice 25 3 #[(0, (Go.Operand.tmp 10)), (1, (Go.Operand.tmp 11)), (2, (Go.Operand.tmp 12))]) (by kernel_rfl) (by kernel_rfl) fun ty pos af => ?_
    refine s_litG [tv x, tv y, tv z] el25 hF (by decide) rfl (by simp [Value.cells, tc]) rfl (by decide) (by decide) fun w18 bl a ebl ml B19 zbl hF => ?_
    have sB19 := B19.size
    have hB := hB.trans (B19.mono hB.size)
    have m3 := m3.old B19
    have m4 := m4.old B19
    have m5 := m5.old B19
    have hS := hS.below B19
    have ml : Blk w18 bl 27 (tc x ++ tc y ++ tc z) := by simpa [Value.cells] using ml
    refine s_end ⟨hS, ?_⟩
    refine d_one 4 (some 14) (Go.Op.call (Go.Call.mk (Go.Callee.value (Go.Operand.func 38)) #[(Go.Operand.tmp 13)] #[25])) (by kernel_rfl) (by kernel_rfl) fun ty pos af => ?_
    have hrk : RK w18 (fun k => k < w18.heap.size) (.slice (some ⟨bl, 0, none⟩) 3 3) [t, u, v] := ⟨[x, y, z], ⟨by simpa using Rd.blk ml (n := 3) rfl, fun _ b hb => by simp [Value.ownBlock] at hb; subst hb; exact ml.lt⟩, rfl, fun i x2 c2 e1 e2 => by rcases i with _ | _ | _ | i; (· simp at e1 e2; subst e1 e2; exact hx.bel hB); (· simp at e1 e2; subst e1 e2; exact hy.bel hB); (· simp at e1 e2; subst e1 e2; exact hz.bel hB); simp at e1⟩
    refine s_callB [_] hF (enters_of Try.func38 (by kernel_rfl) rfl) rfl (by decide) ((whole50e [t, u, v] _ w18 hrk (by simp) (by intro c hc; simp at hc; rcases hc with rfl | rfl | rfl <;> assumption)).mono fun e w' h => ⟨by rw [h.1, haw], h.2⟩) fun w20 a B21 hF => ?_
    have sB21 := B21.size
    have hB := hB.trans (B21.mono hB.size)
    have m3 := m3.old B21
    have m4 := m4.old B21
    have m5 := m5.old B21
    have hS := hS.below B21
    refine s_end ⟨hS, ?_⟩
    refine d_val 5 15 (op := (Go.Op.unOp Go.UnOp.not 4 (Go.Operand.tmp 14))) hF hS (by kernel_rfl) (fun W hW => x_not rfl) (by kernel_rfl) (by decide) fun a hF => ?_
    refine d_val 6 16 (op := (Go.Op.move (Go.Operand.tmp 15))) hF hS (by kernel_rfl) (fun W hW => x_move rfl) (by kernel_rfl) (by decide) fun a hF => ?_
    refine d_valg 7 17 16 (j := 6) (want := false) (op := (Go.Op.load 27 (Go.Operand.tmp 3))) hF hS (by kernel_rfl) (by kernel_rfl) rfl (fun W hW => x_ldW wide27 (m3_d.k2 hW (by omega)) rfl rfl) (by kernel_rfl) (by decide) fun a hF => ?_
    refine d_valg 9 19 16 (j := 6) (want := false) (op := (Go.Op.load 27 (Go.Operand.tmp 4))) hF hS (by kernel_rfl) (by kernel_rfl) rfl (fun W hW => x_ldW wide27 (m4_d.k2 hW (by omega)) rfl rfl) (by kernel_rfl) (by decide) fun a hF => ?_
    refine d_oneg 8 16 (some 18) (Go.Op.call (Go.Call.mk (Go.Callee.value (Go.Operand.func 22)) #[(Go.Operand.tmp 17)] #[27])) (j := 6) (want := false) hF (by kernel_rfl) (by kernel_rfl) (by kernel_rfl) rfl fun ty pos af => ?_
    refine s_callB [_] hF (enters_of Try.func22 (by kernel_rfl) rfl) rfl (by decide) ((Size26 t x w20 (hx.bel hB)).mono fun e w' h => ⟨by rw [h.1, mN9 ot], h.2⟩) fun w22 a B23 hF => ?_
    have sB23 := B23.size
    have hB := hB.trans (B23.mono hB.size)
    have m3 := m3.old B23
    have m4 := m4.old B23
    have m5 := m5.old B23
    have hS := hS.below B23
    refine s_end ⟨hS, ?_⟩
    refine d_oneg 10 16 (some 20) (Go.Op.call (Go.Call.mk (Go.Callee.value (Go.Operand.func 22)) #[(Go.Operand.tmp 19)] #[27])) (j := 6) (want := false) hF (by kernel_rfl) (by kernel_rfl) (by kernel_rfl) rfl fun ty pos af => ?_
    refine s_callB [_] hF (enters_of Try.func22 (by kernel_rfl) rfl) rfl (by decide) ((Size26 u y w22 (hy.bel hB)).mono fun e w' h => ⟨by rw [h.1, mN9 ou], h.2⟩) fun w24 a B25 hF => ?_
    have sB25 := B25.size
    have hB := hB.trans (B25.mono hB.size)
    have m3 := m3.old B25
    have m4 := m4.old B25
    have m5 := m5.old B25
    have hS := hS.below B25
    refine s_end ⟨hS, ?_⟩
    refine d_valg 11 21 16 (j := 6) (want := false) (op := (Go.Op.binOp Go.BinOp.mul 3 (Go.Operand.tmp 18) (Go.Operand.tmp 20) 3)) hF hS (by kernel_rfl) (by kernel_rfl) rfl (fun W hW => x_muln (t.size * u.size) q1 (by omega) rfl rfl) (by kernel_rfl) (by decide) fun a hF => ?_
    refine d_valg 12 22 16 (j := 6) (want := false) (op := (Go.Op.binOp Go.BinOp.gtr 3 (Go.Operand.tmp 21) (Go.Operand.const (Go.Value.int Go.IntKind.i64 15000)) 3)) hF hS (by kernel_rfl) (by kernel_rfl) rfl (fun W hW => x_gtr (b := true) (decide_eq_true (by omega)) rfl rfl) (by kernel_rfl) (by decide) fun a hF => ?_
    refine d_val 13 23 (op := (Go.Op.pick (Go.Operand.tmp 16) (Go.Operand.const (Go.Value.bool true)) (Go.Operand.tmp 22))) hF hS (by kernel_rfl) (fun W hW => x_pick (b := false) rfl rfl) (by kernel_rfl) (by decide) fun a hF => ?_
    refine d_val 14 24 (op := (Go.Op.move (Go.Operand.tmp 23))) hF hS (by kernel_rfl) (fun W hW => x_move rfl) (by kernel_rfl) (by decide) fun a hF => ?_
    refine d_skip 15 25 24 (j := 14) (want := false) (op := (Go.Op.load 27 (Go.Operand.tmp 3))) hF hS (by kernel_rfl) (by kernel_rfl) rfl (by kernel_rfl) (by decide) fun a hF => ?_
    refine d_skip 16 26 24 (j := 14) (want := false) (op := (Go.Op.call (Go.Call.mk (Go.Callee.value (Go.Operand.func 22)) #[(Go.Operand.tmp 25)] #[27]))) hF hS (by kernel_rfl) (by kernel_rfl) rfl (by kernel_rfl) (by decide) fun a hF => ?_
    refine d_skip 17 27 24 (j := 14) (want := false) (op := (Go.Op.load 27 (Go.Operand.tmp 4))) hF hS (by kernel_rfl) (by kernel_rfl) rfl (by kernel_rfl) (by decide) fun a hF => ?_
    refine d_skip 18 28 24 (j := 14) (want := false) (op := (Go.Op.call (Go.Call.mk (Go.Callee.value (Go.Operand.func 22)) #[(Go.Operand.tmp 27)] #[27]))) hF hS (by kernel_rfl) (by kernel_rfl) rfl (by kernel_rfl) (by decide) fun a hF => ?_
    refine d_skip 19 29 24 (j := 14) (want := false) (op := (Go.Op.binOp Go.BinOp.mul 3 (Go.Operand.tmp 26) (Go.Operand.tmp 28) 3)) hF hS (by kernel_rfl) (by kernel_rfl) rfl (by kernel_rfl) (by decide) fun a hF => ?_
    refine d_skip 20 30 24 (j := 14) (want := false) (op := (Go.Op.load 27 (Go.Operand.tmp 5))) hF hS (by kernel_rfl) (by kernel_rfl) rfl (by kernel_rfl) (by decide) fun a hF => ?_
    refine d_skip 21 31 24 (j := 14) (want := false) (op := (Go.Op.call (Go.Call.mk (Go.Callee.value (Go.Operand.func 22)) #[(Go.Operand.tmp 30)] #[27]))) hF hS (by kernel_rfl) (by kernel_rfl) rfl (by kernel_rfl) (by decide) fun a hF => ?_
    refine d_skip 22 32 24 (j := 14) (want := false) (op := (Go.Op.binOp Go.BinOp.mul 3 (Go.Operand.tmp 29) (Go.Operand.tmp 31) 3)) hF hS (by kernel_rfl) (by kernel_rfl) rfl (by kernel_rfl) (by decide) fun a hF => ?_
    refine d_skip 23 33 24 (j := 14) (want := false) (op := (Go.Op.binOp Go.BinOp.gtr 3 (Go.Operand.tmp 32) (Go.Operand.const (Go.Value.int Go.IntKind.i64 15000)) 3)) hF hS (by kernel_rfl) (by kernel_rfl) rfl (by kernel_rfl) (by decide) fun a hF => ?_
    refine d_val 24 34 (op := (Go.Op.pick (Go.Operand.tmp 24) (Go.Operand.const (Go.Value.bool true)) (Go.Operand.tmp 33))) hF hS (by kernel_rfl) (fun W hW => x_pick (b := true) rfl rfl) (by kernel_rfl) (by decide) fun a hF => ?_
    refine d_end (by kernel_rfl) (hK6 _ _ ?_)
    refine wp_if hF rfl ?_
    refine wp_rs fun K7 hK7 => ?_
    refine s_callB [] hF (enters_of Try.func11 (by kernel_rfl) rfl) rfl (by decide) (awake15 w24) fun w26 a B27 hF => ?_
    have sB27 := B27.size
    have hB := hB.trans (B27.mono hB.size)
    have m3 := m3.old B27
    have m4 := m4.old B27
    have m5 := m5.old B27
    refine s_val hF (x_assign rfl) (by decide) fun a hF => ?_
    refine s_end (hK7 _ _ ?_)
    refine wp_ret (then_ret (res_slot hF rfl rfl ⟨rfl, hB⟩))
  · have hw := allW_mem haw
    have wt := wf_of hx (hw t (by simp))
    have wu := wf_of hy (hw u (by simp))
    have wv := wf_of hz (hw v (by simp))
    have ot := wt.ok
    have ou := wu.ok
    have ov_ := wv.ok
    have q1 : (t.size : Int) * (u.size : Int) = ((t.size * u.size : Nat) : Int) := by simp
    have q2 : ((t.size * u.size : Nat) : Int) * (v.size : Int) = ((t.size * u.size * v.size : Nat) : Int) := by simp
    have q3 : t.size * u.size ≤ 400 * 400 := Nat.mul_le_mul wt.2.1 wu.2.1
    have q4 : t.size * u.size * v.size ≤ 400 * 400 * 400 := Nat.mul_le_mul q3 wv.2.1
    refine dk2_seq (w6.heap.size) (w6.heap.size) (ops := regOps Try.f8 1) (N := 25) (by kernel_rfl) wide_orders (by kernel_rfl) fun w28 hw28 B29 hS K8 hK8 => ?_
    have zw28 : w28.heap.size = w6.heap.size := by rw [hw28]
    have sB29 := B29.size
    have hB := hB.trans (B29.mono hB.size)
    have m3 := m3.old B29
    have m4 := m4.old B29
    have m5 := m5.old B29
    have m3_d := m3
    have m4_d := m4
    have m5_d := m5
    have hB_d := hB
    refine d_val 0 10 (op := (Go.Op.load 27 (Go.Operand.tmp 3))) hF hS (by kernel_rfl) (fun W hW => x_ldW wide27 (m3_d.k2 hW (by omega)) rfl rfl) (by kernel_rfl) (by decide) fun a hF => ?_
    refine d_val 1 11 (op := (Go.Op.load 27 (Go.Operand.tmp 4))) hF hS (by kernel_rfl) (fun W hW => x_ldW wide27 (m4_d.k2 hW (by omega)) rfl rfl) (by kernel_rfl) (by decide) fun a hF => ?_
    refine d_val 2 12 (op := (Go.Op.load 27 (Go.Operand.tmp 5))) hF hS (by kernel_rfl) (fun W hW => x_ldW wide27 (m5_d.k2 hW (by omega)) rfl rfl) (by kernel_rfl) (by decide) fun a hF => ?_
    refine d_one 3 (some 13) (Go.Op.buildSlice 25 3 #[(0, (Go.Operand.tmp 10)), (1, (Go.Operand.tmp 11)), (2, (Go.Operand.tmp 12))]) (by kernel_rfl) (by kernel_rfl) fun ty pos af => ?_
    refine s_litG [tv x, tv y, tv z] el25 hF (by decide) rfl (by simp [Value.cells, tc]) rfl (by decide) (by decide) fun w30 bl a ebl ml B31 zbl hF => ?_
    have sB31 := B31.size
    have hB := hB.trans (B31.mono hB.size)
    have m3 := m3.old B31
    have m4 := m4.old B31
    have m5 := m5.old B31
    have hS := hS.below B31
    have ml : Blk w30 bl 27 (tc x ++ tc y ++ tc z) := by simpa [Value.cells] using ml
    refine s_end ⟨hS, ?_⟩
    refine d_one 4 (some 14) (Go.Op.call (Go.Call.mk (Go.Callee.value (Go.Operand.func 38)) #[(Go.Operand.tmp 13)] #[25])) (by kernel_rfl) (by kernel_rfl) fun ty pos af => ?_
    have hrk : RK w30 (fun k => k < w30.heap.size) (.slice (some ⟨bl, 0, none⟩) 3 3) [t, u, v] := ⟨[x, y, z], ⟨by simpa using Rd.blk ml (n := 3) rfl, fun _ b hb => by simp [Value.ownBlock] at hb; subst hb; exact ml.lt⟩, rfl, fun i x2 c2 e1 e2 => by rcases i with _ | _ | _ | i; (· simp at e1 e2; subst e1 e2; exact hx.bel hB); (· simp at e1 e2; subst e1 e2; exact hy.bel hB); (· simp at e1 e2; subst e1 e2; exact hz.bel hB); simp at e1⟩
    refine s_callB [_] hF (enters_of Try.func38 (by kernel_rfl) rfl) rfl (by decide) ((whole50e [t, u, v] _ w30 hrk (by simp) (by intro c hc; simp at hc; rcases hc with rfl | rfl | rfl <;> assumption)).mono fun e w' h => ⟨by rw [h.1, haw], h.2⟩) fun w32 a B33 hF => ?_
    have sB33 := B33.size
    have hB := hB.trans (B33.mono hB.size)
    have m3 := m3.old B33
    have m4 := m4.old B33
    have m5 := m5.old B33
    have hS := hS.below B33
    refine s_end ⟨hS, ?_⟩
    refine d_val 5 15 (op := (Go.Op.unOp Go.UnOp.not 4 (Go.Operand.tmp 14))) hF hS (by kernel_rfl) (fun W hW => x_not rfl) (by kernel_rfl) (by decide) fun a hF => ?_
    refine d_val 6 16 (op := (Go.Op.move (Go.Operand.tmp 15))) hF hS (by kernel_rfl) (fun W hW => x_move rfl) (by kernel_rfl) (by decide) fun a hF => ?_
    refine d_valg 7 17 16 (j := 6) (want := false) (op := (Go.Op.load 27 (Go.Operand.tmp 3))) hF hS (by kernel_rfl) (by kernel_rfl) rfl (fun W hW => x_ldW wide27 (m3_d.k2 hW (by omega)) rfl rfl) (by kernel_rfl) (by decide) fun a hF => ?_
    refine d_valg 9 19 16 (j := 6) (want := false) (op := (Go.Op.load 27 (Go.Operand.tmp 4))) hF hS (by kernel_rfl) (by kernel_rfl) rfl (fun W hW => x_ldW wide27 (m4_d.k2 hW (by omega)) rfl rfl) (by kernel_rfl) (by decide) fun a hF => ?_
    refine d_oneg 8 16 (some 18) (Go.Op.call (Go.Call.mk (Go.Callee.value (Go.Operand.func 22)) #[(Go.Operand.tmp 17)] #[27])) (j := 6) (want := false) hF (by kernel_rfl) (by kernel_rfl) (by kernel_rfl) rfl fun ty pos af => ?_
    refine s_callB [_] hF (enters_of Try.func22 (by kernel_rfl) rfl) rfl (by decide) ((Size26 t x w32 (hx.bel hB)).mono fun e w' h => ⟨by rw [h.1, mN9 ot], h.2⟩) fun w34 a B35 hF => ?_
    have sB35 := B35.size
    have hB := hB.trans (B35.mono hB.size)
    have m3 := m3.old B35
    have m4 := m4.old B35
    have m5 := m5.old B35
    have hS := hS.below B35
    refine s_end ⟨hS, ?_⟩
    refine d_oneg 10 16 (some 20) (Go.Op.call (Go.Call.mk (Go.Callee.value (Go.Operand.func 22)) #[(Go.Operand.tmp 19)] #[27])) (j := 6) (want := false) hF (by kernel_rfl) (by kernel_rfl) (by kernel_rfl) rfl fun ty pos af => ?_
    refine s_callB [_] hF (enters_of Try.func22 (by kernel_rfl) rfl) rfl (by decide) ((Size26 u y w34 (hy.bel hB)).mono fun e w' h => ⟨by rw [h.1, mN9 ou], h.2⟩) fun w36 a B37 hF => ?_
    have sB37 := B37.size
    have hB := hB.trans (B37.mono hB.size)
    have m3 := m3.old B37
    have m4 := m4.old B37
    have m5 := m5.old B37
    have hS := hS.below B37
    refine s_end ⟨hS, ?_⟩
    refine d_valg 11 21 16 (j := 6) (want := false) (op := (Go.Op.binOp Go.BinOp.mul 3 (Go.Operand.tmp 18) (Go.Operand.tmp 20) 3)) hF hS (by kernel_rfl) (by kernel_rfl) rfl (fun W hW => x_muln (t.size * u.size) q1 (by omega) rfl rfl) (by kernel_rfl) (by decide) fun a hF => ?_
    refine d_valg 12 22 16 (j := 6) (want := false) (op := (Go.Op.binOp Go.BinOp.gtr 3 (Go.Operand.tmp 21) (Go.Operand.const (Go.Value.int Go.IntKind.i64 15000)) 3)) hF hS (by kernel_rfl) (by kernel_rfl) rfl (fun W hW => x_gtr (b := false) (decide_eq_false (by omega)) rfl rfl) (by kernel_rfl) (by decide) fun a hF => ?_
    refine d_val 13 23 (op := (Go.Op.pick (Go.Operand.tmp 16) (Go.Operand.const (Go.Value.bool true)) (Go.Operand.tmp 22))) hF hS (by kernel_rfl) (fun W hW => x_pick (b := false) rfl rfl) (by kernel_rfl) (by decide) fun a hF => ?_
    refine d_val 14 24 (op := (Go.Op.move (Go.Operand.tmp 23))) hF hS (by kernel_rfl) (fun W hW => x_move rfl) (by kernel_rfl) (by decide) fun a hF => ?_
    refine d_valg 15 25 24 (j := 14) (want := false) (op := (Go.Op.load 27 (Go.Operand.tmp 3))) hF hS (by kernel_rfl) (by kernel_rfl) rfl (fun W hW => x_ldW wide27 (m3_d.k2 hW (by omega)) rfl rfl) (by kernel_rfl) (by decide) fun a hF => ?_
    refine d_valg 17 27 24 (j := 14) (want := false) (op := (Go.Op.load 27 (Go.Operand.tmp 4))) hF hS (by kernel_rfl) (by kernel_rfl) rfl (fun W hW => x_ldW wide27 (m4_d.k2 hW (by omega)) rfl rfl) (by kernel_rfl) (by decide) fun a hF => ?_
    refine d_valg 20 30 24 (j := 14) (want := false) (op := (Go.Op.load 27 (Go.Operand.tmp 5))) hF hS (by kernel_rfl) (by kernel_rfl) rfl (fun W hW => x_ldW wide27 (m5_d.k2 hW (by omega)) rfl rfl) (by kernel_rfl) (by decide) fun a hF => ?_
    refine d_oneg 16 24 (some 26) (Go.Op.call (Go.Call.mk (Go.Callee.value (Go.Operand.func 22)) #[(Go.Operand.tmp 25)] #[27])) (j := 14) (want := false) hF (by kernel_rfl) (by kernel_rfl) (by kernel_rfl) rfl fun ty pos af => ?_
    refine s_callB [_] hF (enters_of Try.func22 (by kernel_rfl) rfl) rfl (by decide) ((Size26 t x w36 (hx.bel hB)).mono fun e w' h => ⟨by rw [h.1, mN9 ot], h.2⟩) fun w38 a B39 hF => ?_
    have sB39 := B39.size
    have hB := hB.trans (B39.mono hB.size)
    have m3 := m3.old B39
    have m4 := m4.old B39
    have m5 := m5.old B39
    have hS := hS.below B39
    refine s_end ⟨hS, ?_⟩
    refine d_oneg 18 24 (some 28) (Go.Op.call (Go.Call.mk (Go.Callee.value (Go.Operand.func 22)) #[(Go.Operand.tmp 27)] #[27])) (j := 14) (want := false) hF (by kernel_rfl) (by kernel_rfl) (by kernel_rfl) rfl fun ty pos af => ?_
    refine s_callB [_] hF (enters_of Try.func22 (by kernel_rfl) rfl) rfl (by decide) ((Size26 u y w38 (hy.bel hB)).mono fun e w' h => ⟨by rw [h.1, mN9 ou], h.2⟩) fun w40 a B41 hF => ?_
    have sB41 := B41.size
    have hB := hB.trans (B41.mono hB.size)
    have m3 := m3.old B41
    have m4 := m4.old B41
    have m5 := m5.old B41
    have hS := hS.below B41
    refine s_end ⟨hS, ?_⟩
    refine d_valg 19 29 24 (j := 14) (want := false) (op := (Go.Op.binOp Go.BinOp.mul 3 (Go.Operand.tmp 26) (Go.Operand.tmp 28) 3)) hF hS (by kernel_rfl) (by kernel_rfl) rfl (fun W hW => x_muln (t.size * u.size) q1 (by omega) rfl rfl) (by kernel_rfl) (by decide) fun a hF => ?_
    refine d_oneg 21 24 (some 31) (Go.Op.call (Go.Call.mk (Go.Callee.value (Go.Operand.func 22)) #[(Go.Operand.tmp 30)] #[27])) (j := 14) (want := false) hF (by kernel_rfl) (by kernel_rfl) (by kernel_rfl) rfl fun ty pos af => ?_
    refine s_callB [_] hF (enters_of Try.func22 (by kernel_rfl) rfl) rfl (by decide) ((Size26 v z w40 (hz.bel hB)).mono fun e w' h => ⟨by rw [h.1, mN9 ov_], h.2⟩) fun w42 a B43 hF => ?_
    have sB43 := B43.size
    have hB := hB.trans (B43.mono hB.size)
    have m3 := m3.old B43
    have m4 := m4.old B43
    have m5 := m5.old B43
    have hS := hS.below B43
    refine s_end ⟨hS, ?_⟩
    refine d_valg 22 32 24 (j := 14) (want := false) (op := (Go.Op.binOp Go.BinOp.mul 3 (Go.Operand.tmp 29) (Go.Operand.tmp 31) 3)) hF hS (by kernel_rfl) (by kernel_rfl) rfl (fun W hW => x_muln (t.size * u.size * v.size) q2 (by omega) rfl rfl) (by kernel_rfl) (by decide) fun a hF => ?_
    refine d_valg 23 33 24 (j := 14) (want := false) (op := (Go.Op.binOp Go.BinOp.gtr 3 (Go.Operand.tmp 32) (Go.Operand.const (Go.Value.int Go.IntKind.i64 15000)) 3)) hF hS (by kernel_rfl) (by kernel_rfl) rfl (fun W hW => x_gtr (b := true) (decide_eq_true (by omega)) rfl rfl) (by kernel_rfl) (by decide) fun a hF => ?_
    refine d_val 24 34 (op := (Go.Op.pick (Go.Operand.tmp 24) (Go.Operand.const (Go.Value.bool true)) (Go.Operand.tmp 33))) hF hS (by kernel_rfl) (fun W hW => x_pick (b := false) rfl rfl) (by kernel_rfl) (by decide) fun a hF => ?_
    refine d_end (by kernel_rfl) (hK8 _ _ ?_)
    refine wp_if hF rfl ?_
    refine wp_rs fun K9 hK9 => ?_
    refine s_callB [] hF (enters_of Try.func11 (by kernel_rfl) rfl) rfl (by decide) (awake15 w42) fun w44 a B45 hF => ?_
    have sB45 := B45.size
    have hB := hB.trans (B45.mono hB.size)
    have m3 := m3.old B45
    have m4 := m4.old B45
    have m5 := m5.old B45
    refine s_val hF (x_assign rfl) (by decide) fun a hF => ?_
    refine s_end (hK9 _ _ ?_)
    refine wp_ret (then_ret (res_slot hF rfl rfl ⟨rfl, hB⟩))
  · have hw := allW_mem haw
    have wt := wf_of hx (hw t (by simp))
    have wu := wf_of hy (hw u (by simp))
    have wv := wf_of hz (hw v (by simp))
    have ot := wt.ok
    have ou := wu.ok
    have ov_ := wv.ok
    have q1 : (t.size : Int) * (u.size : Int) = ((t.size * u.size : Nat) : Int) := by simp
    have q2 : ((t.size * u.size : Nat) : Int) * (v.size : Int) = ((t.size * u.size * v.size : Nat) : Int) := by simp
    have q3 : t.size * u.size ≤ 400 * 400 := Nat.mul_le_mul wt.2.1 wu.2.1
    have q4 : t.size * u.size * v.size ≤ 400 * 400 * 400 := Nat.mul_le_mul q3 wv.2.1
    have PA := puts_all (okV_bd t wt.1) (okV_bd u wu.1) (okV_bd v wv.1) (by rw [t.ess_size, t.ess_dep]; exact wt.2) (by rw [u.ess_size, u.ess_dep]; exact wu.2) (by rw [v.ess_size, v.ess_dep]; exact wv.2) (by rw [t.ess_size, u.ess_size]; omega) (by rw [t.ess_size, u.ess_size, v.ess_size]; omega) _ rfl
    have hself := sameP_pu v.ess (same_self hz wv.1) _ 0 (sameP_pu u.ess (same_self hy wu.1) _ 0 (same_self hx wt.1))
    have hfit9 := pu_fit v.ess (CT.fit_ess fv) _ 0 (pu_fit u.ess (CT.fit_ess fu) _ 0 (CT.fit_ess ft))
    refine dk2_seq (w6.heap.size) (w6.heap.size) (ops := regOps Try.f8 1) (N := 25) (by kernel_rfl) wide_orders (by kernel_rfl) fun w46 hw46 B47 hS K10 hK10 => ?_
    have zw46 : w46.heap.size = w6.heap.size := by rw [hw46]
    have sB47 := B47.size
    have hB := hB.trans (B47.mono hB.size)
    have m3 := m3.old B47
    have m4 := m4.old B47
    have m5 := m5.old B47
    have m3_d := m3
    have m4_d := m4
    have m5_d := m5
    have hB_d := hB
    refine d_val 0 10 (op := (Go.Op.load 27 (Go.Operand.tmp 3))) hF hS (by kernel_rfl) (fun W hW => x_ldW wide27 (m3_d.k2 hW (by omega)) rfl rfl) (by kernel_rfl) (by decide) fun a hF => ?_
    refine d_val 1 11 (op := (Go.Op.load 27 (Go.Operand.tmp 4))) hF hS (by kernel_rfl) (fun W hW => x_ldW wide27 (m4_d.k2 hW (by omega)) rfl rfl) (by kernel_rfl) (by decide) fun a hF => ?_
    refine d_val 2 12 (op := (Go.Op.load 27 (Go.Operand.tmp 5))) hF hS (by kernel_rfl) (fun W hW => x_ldW wide27 (m5_d.k2 hW (by omega)) rfl rfl) (by kernel_rfl) (by decide) fun a hF => ?_
    refine d_one 3 (some 13) (Go.Op.buildSlice 25 3 #[(0, (Go.Operand.tmp 10)), (1, (Go.Operand.tmp 11)), (2, (Go.Operand.tmp 12))]) (by kernel_rfl) (by kernel_rfl) fun ty pos af => ?_
    refine s_litG [tv x, tv y, tv z] el25 hF (by decide) rfl (by simp [Value.cells, tc]) rfl (by decide) (by decide) fun w48 bl a ebl ml B49 zbl hF => ?_
    have sB49 := B49.size
    have hB := hB.trans (B49.mono hB.size)
    have m3 := m3.old B49
    have m4 := m4.old B49
    have m5 := m5.old B49
    have hS := hS.below B49
    have ml : Blk w48 bl 27 (tc x ++ tc y ++ tc z) := by simpa [Value.cells] using ml
    refine s_end ⟨hS, ?_⟩
    refine d_one 4 (some 14) (Go.Op.call (Go.Call.mk (Go.Callee.value (Go.Operand.func 38)) #[(Go.Operand.tmp 13)] #[25])) (by kernel_rfl) (by kernel_rfl) fun ty pos af => ?_
    have hrk : RK w48 (fun k => k < w48.heap.size) (.slice (some ⟨bl, 0, none⟩) 3 3) [t, u, v] := ⟨[x, y, z], ⟨by simpa using Rd.blk ml (n := 3) rfl, fun _ b hb => by simp [Value.ownBlock] at hb; subst hb; exact ml.lt⟩, rfl, fun i x2 c2 e1 e2 => by rcases i with _ | _ | _ | i; (· simp at e1 e2; subst e1 e2; exact hx.bel hB); (· simp at e1 e2; subst e1 e2; exact hy.bel hB); (· simp at e1 e2; subst e1 e2; exact hz.bel hB); simp at e1⟩
    refine s_callB [_] hF (enters_of Try.func38 (by kernel_rfl) rfl) rfl (by decide) ((whole50e [t, u, v] _ w48 hrk (by simp) (by intro c hc; simp at hc; rcases hc with rfl | rfl | rfl <;> assumption)).mono fun e w' h => ⟨by rw [h.1, haw], h.2⟩) fun w50 a B51 hF => ?_
    have sB51 := B51.size
    have hB := hB.trans (B51.mono hB.size)
    have m3 := m3.old B51
    have m4 := m4.old B51
    have m5 := m5.old B51
    have hS := hS.below B51
    refine s_end ⟨hS, ?_⟩
    refine d_val 5 15 (op := (Go.Op.unOp Go.UnOp.not 4 (Go.Operand.tmp 14))) hF hS (by kernel_rfl) (fun W hW => x_not rfl) (by kernel_rfl) (by decide) fun a hF => ?_
    refine d_val 6 16 (op := (Go.Op.move (Go.Operand.tmp 15))) hF hS (by kernel_rfl) (fun W hW => x_move rfl) (by kernel_rfl) (by decide) fun a hF => ?_
    refine d_valg 7 17 16 (j := 6) (want := false) (op := (Go.Op.load 27 (Go.Operand.tmp 3))) hF hS (by kernel_rfl) (by kernel_rfl) rfl (fun W hW => x_ldW wide27 (m3_d.k2 hW (by omega)) rfl rfl) (by kernel_rfl) (by decide) fun a hF => ?_
    refine d_valg 9 19 16 (j := 6) (want := false) (op := (Go.Op.load 27 (Go.Operand.tmp 4))) hF hS (by kernel_rfl) (by kernel_rfl) rfl (fun W hW => x_ldW wide27 (m4_d.k2 hW (by omega)) rfl rfl) (by kernel_rfl) (by decide) fun a hF => ?_
    refine d_oneg 8 16 (some 18) (Go.Op.call (Go.Call.mk (Go.Callee.value (Go.Operand.func 22)) #[(Go.Operand.tmp 17)] #[27])) (j := 6) (want := false) hF (by kernel_rfl) (by kernel_rfl) (by kernel_rfl) rfl fun ty pos af => ?_
    refine s_callB [_] hF (enters_of Try.func22 (by kernel_rfl) rfl) rfl (by decide) ((Size26 t x w50 (hx.bel hB)).mono fun e w' h => ⟨by rw [h.1, mN9 ot], h.2⟩) fun w52 a B53 hF => ?_
    have sB53 := B53.size
    have hB := hB.trans (B53.mono hB.size)
    have m3 := m3.old B53
    have m4 := m4.old B53
    have m5 := m5.old B53
    have hS := hS.below B53
    refine s_end ⟨hS, ?_⟩
    refine d_oneg 10 16 (some 20) (Go.Op.call (Go.Call.mk (Go.Callee.value (Go.Operand.func 22)) #[(Go.Operand.tmp 19)] #[27])) (j := 6) (want := false) hF (by kernel_rfl) (by kernel_rfl) (by kernel_rfl) rfl fun ty pos af => ?_
    refine s_callB [_] hF (enters_of Try.func22 (by kernel_rfl) rfl) rfl (by decide) ((Size26 u y w52 (hy.bel hB)).mono fun e w' h => ⟨by rw [h.1, mN9 ou], h.2⟩) fun w54 a B55 hF => ?_
    have sB55 := B55.size
    have hB := hB.trans (B55.mono hB.size)
    have m3 := m3.old B55
    have m4 := m4.old B55
    have m5 := m5.old B55
    have hS := hS.below B55
    refine s_end ⟨hS, ?_⟩
    refine d_valg 11 21 16 (j := 6) (want := false) (op := (Go.Op.binOp Go.BinOp.mul 3 (Go.Operand.tmp 18) (Go.Operand.tmp 20) 3)) hF hS (by kernel_rfl) (by kernel_rfl) rfl (fun W hW => x_muln (t.size * u.size) q1 (by omega) rfl rfl) (by kernel_rfl) (by decide) fun a hF => ?_
    refine d_valg 12 22 16 (j := 6) (want := false) (op := (Go.Op.binOp Go.BinOp.gtr 3 (Go.Operand.tmp 21) (Go.Operand.const (Go.Value.int Go.IntKind.i64 15000)) 3)) hF hS (by kernel_rfl) (by kernel_rfl) rfl (fun W hW => x_gtr (b := false) (decide_eq_false (by omega)) rfl rfl) (by kernel_rfl) (by decide) fun a hF => ?_
    refine d_val 13 23 (op := (Go.Op.pick (Go.Operand.tmp 16) (Go.Operand.const (Go.Value.bool true)) (Go.Operand.tmp 22))) hF hS (by kernel_rfl) (fun W hW => x_pick (b := false) rfl rfl) (by kernel_rfl) (by decide) fun a hF => ?_
    refine d_val 14 24 (op := (Go.Op.move (Go.Operand.tmp 23))) hF hS (by kernel_rfl) (fun W hW => x_move rfl) (by kernel_rfl) (by decide) fun a hF => ?_
    refine d_valg 15 25 24 (j := 14) (want := false) (op := (Go.Op.load 27 (Go.Operand.tmp 3))) hF hS (by kernel_rfl) (by kernel_rfl) rfl (fun W hW => x_ldW wide27 (m3_d.k2 hW (by omega)) rfl rfl) (by kernel_rfl) (by decide) fun a hF => ?_
    refine d_valg 17 27 24 (j := 14) (want := false) (op := (Go.Op.load 27 (Go.Operand.tmp 4))) hF hS (by kernel_rfl) (by kernel_rfl) rfl (fun W hW => x_ldW wide27 (m4_d.k2 hW (by omega)) rfl rfl) (by kernel_rfl) (by decide) fun a hF => ?_
    refine d_valg 20 30 24 (j := 14) (want := false) (op := (Go.Op.load 27 (Go.Operand.tmp 5))) hF hS (by kernel_rfl) (by kernel_rfl) rfl (fun W hW => x_ldW wide27 (m5_d.k2 hW (by omega)) rfl rfl) (by kernel_rfl) (by decide) fun a hF => ?_
    refine d_oneg 16 24 (some 26) (Go.Op.call (Go.Call.mk (Go.Callee.value (Go.Operand.func 22)) #[(Go.Operand.tmp 25)] #[27])) (j := 14) (want := false) hF (by kernel_rfl) (by kernel_rfl) (by kernel_rfl) rfl fun ty pos af => ?_
    refine s_callB [_] hF (enters_of Try.func22 (by kernel_rfl) rfl) rfl (by decide) ((Size26 t x w54 (hx.bel hB)).mono fun e w' h => ⟨by rw [h.1, mN9 ot], h.2⟩) fun w56 a B57 hF => ?_
    have sB57 := B57.size
    have hB := hB.trans (B57.mono hB.size)
    have m3 := m3.old B57
    have m4 := m4.old B57
    have m5 := m5.old B57
    have hS := hS.below B57
    refine s_end ⟨hS, ?_⟩
    refine d_oneg 18 24 (some 28) (Go.Op.call (Go.Call.mk (Go.Callee.value (Go.Operand.func 22)) #[(Go.Operand.tmp 27)] #[27])) (j := 14) (want := false) hF (by kernel_rfl) (by kernel_rfl) (by kernel_rfl) rfl fun ty pos af => ?_
    refine s_callB [_] hF (enters_of Try.func22 (by kernel_rfl) rfl) rfl (by decide) ((Size26 u y w56 (hy.bel hB)).mono fun e w' h => ⟨by rw [h.1, mN9 ou], h.2⟩) fun w58 a B59 hF => ?_
    have sB59 := B59.size
    have hB := hB.trans (B59.mono hB.size)
    have m3 := m3.old B59
    have m4 := m4.old B59
    have m5 := m5.old B59
    have hS := hS.below B59
    refine s_end ⟨hS, ?_⟩
    refine d_valg 19 29 24 (j := 14) (want := false) (op := (Go.Op.binOp Go.BinOp.mul 3 (Go.Operand.tmp 26) (Go.Operand.tmp 28) 3)) hF hS (by kernel_rfl) (by kernel_rfl) rfl (fun W hW => x_muln (t.size * u.size) q1 (by omega) rfl rfl) (by kernel_rfl) (by decide) fun a hF => ?_
    refine d_oneg 21 24 (some 31) (Go.Op.call (Go.Call.mk (Go.Callee.value (Go.Operand.func 22)) #[(Go.Operand.tmp 30)] #[27])) (j := 14) (want := false) hF (by kernel_rfl) (by kernel_rfl) (by kernel_rfl) rfl fun ty pos af => ?_
    refine s_callB [_] hF (enters_of Try.func22 (by kernel_rfl) rfl) rfl (by decide) ((Size26 v z w58 (hz.bel hB)).mono fun e w' h => ⟨by rw [h.1, mN9 ov_], h.2⟩) fun w60 a B61 hF => ?_
    have sB61 := B61.size
    have hB := hB.trans (B61.mono hB.size)
    have m3 := m3.old B61
    have m4 := m4.old B61
    have m5 := m5.old B61
    have hS := hS.below B61
    refine s_end ⟨hS, ?_⟩
    refine d_valg 22 32 24 (j := 14) (want := false) (op := (Go.Op.binOp Go.BinOp.mul 3 (Go.Operand.tmp 29) (Go.Operand.tmp 31) 3)) hF hS (by kernel_rfl) (by kernel_rfl) rfl (fun W hW => x_muln (t.size * u.size * v.size) q2 (by omega) rfl rfl) (by kernel_rfl) (by decide) fun a hF => ?_
    refine d_valg 23 33 24 (j := 14) (want := false) (op := (Go.Op.binOp Go.BinOp.gtr 3 (Go.Operand.tmp 32) (Go.Operand.const (Go.Value.int Go.IntKind.i64 15000)) 3)) hF hS (by kernel_rfl) (by kernel_rfl) rfl (fun W hW => x_gtr (b := false) (decide_eq_false (by omega)) rfl rfl) (by kernel_rfl) (by decide) fun a hF => ?_
    refine d_val 24 34 (op := (Go.Op.pick (Go.Operand.tmp 24) (Go.Operand.const (Go.Value.bool true)) (Go.Operand.tmp 33))) hF hS (by kernel_rfl) (fun W hW => x_pick (b := false) rfl rfl) (by kernel_rfl) (by decide) fun a hF => ?_
    refine d_end (by kernel_rfl) (hK10 _ _ ?_)
    refine wp_if hF rfl ?_
    refine wp_skip (hK2 _ _ ?_)
    refine dk2_seq (w60.heap.size) (w60.heap.size) (ops := regOps Try.f8 3) (N := 7) (by kernel_rfl) wide_orders (by kernel_rfl) fun w62 hw62 B63 hS K11 hK11 => ?_
    have zw62 : w62.heap.size = w60.heap.size := by rw [hw62]
    have sB63 := B63.size
    have hB := hB.trans (B63.mono hB.size)
    have m3 := m3.old B63
    have m4 := m4.old B63
    have m5 := m5.old B63
    have m3_d := m3
    have m4_d := m4
    have m5_d := m5
    have hB_d := hB
    have key11 : ∀ (a : Act) (w : World) (b7 : Nat) (yB : C8) (cB : CT), Below w0.heap.size w0 w → Blk w b3 27 (tc x) → Blk w b4 27 (tc y) → Blk w b5 27 (tc z) → Blk w b7 27 (tc yB) → RC w (fun k => k < w.heap.size) cB yB → cB.ess = PT.pu v.ess (PT.pu u.ess t.ess 0) 0 → Fs 69 a [(3, .pointer (some ⟨b3, 0, none⟩)), (4, .pointer (some ⟨b4, 0, none⟩)), (5, .pointer (some ⟨b5, 0, none⟩)), (7, .pointer (some ⟨b7, 0, none⟩))] → K11 a w := by
      intro a w b7 yB cB hB m3 m4 m5 m7 hcB0 heB hF
      have sB := hB.size
      have hB9 := Below.refl w.heap.size w
      have sB9 := hB9.size
      have hm3 := m3.lt
      have hm4 := m4.lt
      have hm5 := m5.lt
      have hm7 := m7.lt
      refine hK11 _ _ ?_
      refine dk2_seq (w.heap.size) (w.heap.size) (ops := regOps Try.f8 4) (N := 7) (by kernel_rfl) wide_orders (by kernel_rfl) fun w64 hw64 B65 hS K12 hK12 => ?_
      have zw64 : w64.heap.size = w.heap.size := by rw [hw64]
      have sB65 := B65.size
      have hB := hB.trans (B65.mono hB.size)
      have hB9 := hB9.trans (B65.mono hB9.size)
      have m3 := m3.old B65
      have m4 := m4.old B65
      have m5 := m5.old B65
      have m7 := m7.old B65
      have m3_d := m3
      have m4_d := m4
      have m5_d := m5
      have m7_d := m7
      have hB_d := hB
      have hB9_d := hB9
      have key12 : ∀ (a : Act) (w : World) (b8 : Nat) (yU : C8) (cU : CT), Below w0.heap.size w0 w → Blk w b3 27 (tc x) → Blk w b4 27 (tc y) → Blk w b5 27 (tc z) → Blk w b7 27 (tc yB) → RC w (fun k => k < w.heap.size) cB yB → cB.ess = PT.pu v.ess (PT.pu u.ess t.ess 0) 0 → Blk w b8 27 (tc yU) → RC w (fun k => k < w.heap.size) cU yU → cU.ess = .two 4 (.cst ⟨#[100]⟩ []) (PT.pu v.ess t.ess 1) → Tn 2 yU → Fs 69 a [(3, .pointer (some ⟨b3, 0, none⟩)), (4, .pointer (some ⟨b4, 0, none⟩)), (5, .pointer (some ⟨b5, 0, none⟩)), (7, .pointer (some ⟨b7, 0, none⟩)), (8, .pointer (some ⟨b8, 0, none⟩))] → K12 a w := by
        intro a w b8 yU cU hB m3 m4 m5 m7 hcB0 heB m8 hcU0 heU hTU hF
        have sB := hB.size
        have hB9 := Below.refl w.heap.size w
        have sB9 := hB9.size
        have hm3 := m3.lt
        have hm4 := m4.lt
        have hm5 := m5.lt
        have hm7 := m7.lt
        have hm8 := m8.lt
        refine hK12 _ _ ?_
        refine wp_seq_k fun K13 hK13 => ?_
        obtain ⟨ca, cb, mU, rfl⟩ := ess_two heU
        have hecb : cb.ess = PT.pu v.ess t.ess 1 := by simp only [CT.ess] at heU; injection heU
        obtain ⟨av, nv, cv, hts, _, hnv, hcap, hkid⟩ := hcU0.kids
        obtain ⟨a9, cp9, hts2⟩ := hTU
        have hkU : yU.k = 4 := hcU0.1
        rw [hts] at hts2
        cases hts2
        obtain ⟨b9, off9, c9, yb, kd, hve, hyk, hry, hAb, hbl, hrow⟩ := hkid.row (i := 1) (by simp [CT.kids])
        cases hve
        simp [CT.kids] at hyk
        subst hyk
        simp only [CT.kids, List.length_cons, List.length_nil] at hcap hts
        refine wp_rs fun K14 hK14 => ?_
        refine s_val hF (x_fa0 fa27_0 rfl) (by decide) fun a hF => ?_
        refine s_val hF (x_load rfl (m_load flat3 (by have h := m8.cell (j := 0) rfl; rw [hkU] at h; exact h))) (by decide) fun a hF => ?_
        refine s_val hF (x_neq (b := false) (decide_eq_false (by omega)) rfl rfl) (by decide) fun a hF => ?_
        refine s_val hF (x_move rfl) (by decide) fun a hF => ?_
        refine s_grd 49 hF rfl rfl rfl ?_
        refine s_val hF (x_fa0 fa27_5 rfl) (by decide) fun a hF => ?_
        refine s_grd 49 hF rfl rfl rfl ?_
        refine s_val hF (x_load rfl (m_load flat25 (by have h := m8.cell (j := 7) rfl; rw [hts] at h; exact h))) (by decide) fun a hF => ?_
        refine s_grd 49 hF rfl rfl rfl ?_
        refine s_val hF (x_len Try.underlying25 rfl) (by decide) fun a hF => ?_
        refine s_grd 49 hF rfl rfl rfl ?_
        refine s_val hF (x_neq (b := false) (decide_eq_false (by omega)) rfl rfl) (by decide) fun a hF => ?_
        refine s_val hF (x_pick (b := false) rfl rfl) (by decide) fun a hF => ?_
        refine s_end (hK14 _ _ ?_)
        refine wp_if hF rfl ?_
        refine wp_skip (hK13 _ _ ?_)
        refine dk2_seq (w.heap.size) (w.heap.size) (ops := regOps Try.f8 7) (N := 10) (by kernel_rfl) wide_orders (by kernel_rfl) fun w66 hw66 B67 hS K15 hK15 => ?_
        have zw66 : w66.heap.size = w.heap.size := by rw [hw66]
        have sB67 := B67.size
        have hB := hB.trans (B67.mono hB.size)
        have hB9 := hB9.trans (B67.mono hB9.size)
        have m3 := m3.old B67
        have m4 := m4.old B67
        have m5 := m5.old B67
        have m7 := m7.old B67
        have m8 := m8.old B67
        have m3_d := m3
        have m4_d := m4
        have m5_d := m5
        have m7_d := m7
        have m8_d := m8
        have hB_d := hB
        have hB9_d := hB9
        refine d_val 0 55 (op := (Go.Op.fieldAddr 27 (Go.Operand.tmp 8) 5)) hF hS (by kernel_rfl) (fun W hW => x_fa0 fa27_5 rfl) (by kernel_rfl) (by decide) fun a hF => ?_
        refine d_val 1 56 (op := (Go.Op.load 25 (Go.Operand.tmp 55))) hF hS (by kernel_rfl) (fun W hW => x_load rfl (m_load flat25 (by have h := (m8_d.k2 hW (by omega)).cell (j := 7) rfl; rw [hts] at h; exact h))) (by kernel_rfl) (by decide) fun a hF => ?_
        refine d_val 2 57 (op := (Go.Op.indexAddr 25 (Go.Operand.tmp 56) (Go.Operand.const (Go.Value.int Go.IntKind.i64 1)))) hF hS (by kernel_rfl) (fun W hW => x_ixa rfl rfl (m_ixsK 1 Try.underlying25 el25.size rfl (by omega))) (by kernel_rfl) (by decide) fun a hF => ?_
        refine d_val 3 58 (op := (Go.Op.load 27 (Go.Operand.tmp 57))) hF hS (by kernel_rfl) (fun W hW => x_ldA wide27 (hrow _ ((hW.under hB9_d (by omega)).block _ hbl)) rfl rfl) (by kernel_rfl) (by decide) fun a hF => ?_
        refine d_val 4 59 (op := (Go.Op.load 27 (Go.Operand.tmp 4))) hF hS (by kernel_rfl) (fun W hW => x_ldW wide27 (m4_d.k2 hW (by omega)) rfl rfl) (by kernel_rfl) (by decide) fun a hF => ?_
        refine d_val 5 60 (op := (Go.Op.load 27 (Go.Operand.tmp 5))) hF hS (by kernel_rfl) (fun W hW => x_ldW wide27 (m5_d.k2 hW (by omega)) rfl rfl) (by kernel_rfl) (by decide) fun a hF => ?_
        refine d_two 6 8 (by kernel_rfl) ?_ ?_
        · refine d_op 6 (some 61) (Go.Op.call (Go.Call.mk (Go.Callee.value (Go.Operand.func 29)) #[(Go.Operand.tmp 59), (Go.Operand.tmp 60)] #[27, 27])) (by kernel_rfl) fun ty pos af => ?_
          refine s_callR (R := fun r w' => ∃ y, r = tv y ∧ RE w' (AS (fun k => k < w66.heap.size) w66.heap.size) (PT.inst u.ess v.ess) y ∧ (u.ok ∧ v.ok ∧ (PT.put v.ess u.ess 0).ok → Tt u y)) [_, _] hF (enters_of Try.func29 (by kernel_rfl) rfl) rfl (by decide) (Inst42t (fun k => k < w66.heap.size) u v y z w66 (fun _ hk => hk) (hy.bel hB) (hz.bel hB)) ?_
          rintro _ w68 a ⟨yV, rfl, hqV, hTV⟩ B69 hF
          have sB69 := B69.size
          have hB := hB.trans (B69.mono hB.size)
          have hB9 := hB9.trans (B69.mono hB9.size)
          have m3 := m3.old B69
          have m4 := m4.old B69
          have m5 := m5.old B69
          have m7 := m7.old B69
          have m8 := m8.old B69
          have hS := hS.below B69
          obtain ⟨cV, hcV, heV⟩ := hqV
          rw [PA.2.2.2.2.1] at heV
          have hcV : RC w68 (fun k => k < w68.heap.size) cV yV := hcV.valid.mono (fun k hk => hk.2)
          have hBV := Below.refl w68.heap.size w68
          have sBV := hBV.size
          refine s_end ⟨hS, ?_⟩
          refine d_two 7 8 (by kernel_rfl) ?_ ?_
          · refine d_op 7 (some 62) (Go.Op.call (Go.Call.mk (Go.Callee.value (Go.Operand.func 29)) #[(Go.Operand.tmp 58), (Go.Operand.tmp 61)] #[27, 27])) (by kernel_rfl) fun ty pos af => ?_
            refine s_callR (R := fun r w' => ∃ y, r = tv y ∧ RE w' (AS (fun k => k < w68.heap.size) w68.heap.size) (PT.inst cb.ess cV.ess) y ∧ (cb.ok ∧ cV.ok ∧ (PT.put cV.ess cb.ess 0).ok → Tt cb y)) [_, _] hF (enters_of Try.func29 (by kernel_rfl) rfl) rfl (by decide) (Inst42t (fun k => k < w68.heap.size) cb cV yb yV w68 (fun _ hk => hk) (hry.bel hB9) (hcV.bel hBV)) ?_
            rintro _ w70 a ⟨yR, rfl, hqR, hTR⟩ B71 hF
            have sB71 := B71.size
            have hB := hB.trans (B71.mono hB.size)
            have hB9 := hB9.trans (B71.mono hB9.size)
            have hBV := hBV.trans (B71.mono hBV.size)
            have m3 := m3.old B71
            have m4 := m4.old B71
            have m5 := m5.old B71
            have m7 := m7.old B71
            have m8 := m8.old B71
            have hS := hS.below B71
            obtain ⟨cR, hcR, heR⟩ := hqR
            rw [heV, hecb, PA.2.2.2.2.2.1] at heR
            have hcR : RC w70 (fun k => k < w70.heap.size) cR yR := hcR.valid.mono (fun k hk => hk.2)
            have hBR := Below.refl w70.heap.size w70
            have sBR := hBR.size
            refine s_end ⟨hS, ?_⟩
            refine d_one 8 (some 9) (Go.Op.alloc 27) (by kernel_rfl) (by kernel_rfl) fun ty pos af => ?_
            refine s_alloc hF (by decide) zero27 fun w72 b9 a eb9 m9 B73 zb9 hF => ?_
            have sB73 := B73.size
            have hB := hB.trans (B73.mono hB.size)
            have hB9 := hB9.trans (B73.mono hB9.size)
            have hBV := hBV.trans (B73.mono hBV.size)
            have hBR := hBR.trans (B73.mono hBR.size)
            have m3 := m3.old B73
            have m4 := m4.old B73
            have m5 := m5.old B73
            have m7 := m7.old B73
            have m8 := m8.old B73
            have hS := hS.below B73
            refine s_end ⟨hS, ?_⟩
            refine d_one 9 none (Go.Op.store 27 (Go.Operand.tmp 9) (Go.Operand.tmp 62)) (by kernel_rfl) (by kernel_rfl) fun ty pos af => ?_
            refine s_putW hF rfl rfl (size_wide wide27) m9 rfl hcR.one fun w76 m9 o77 => ?_
            have so77 := o77.size
            have hB := hB.trans (o77.below (by omega))
            have hB9 := hB9.trans (o77.below (by omega))
            have hBV := hBV.trans (o77.below (by omega))
            have hBR := hBR.trans (o77.below (by omega))
            have m3 := m3.only o77 (by omega)
            have m4 := m4.only o77 (by omega)
            have m5 := m5.only o77 (by omega)
            have m7 := m7.only o77 (by omega)
            have m8 := m8.only o77 (by omega)
            have hS := hS.only o77 (by omega)
            refine s_end ⟨hS, ?_⟩
            refine d_end (by kernel_rfl) (hK15 _ _ ?_)
            refine wp_rs fun K16 hK16 => ?_
            refine s_val hF (x_ldW wide27 m7 rfl rfl) (by decide) fun a hF => ?_
            refine s_val hF (x_ldW wide27 m9 rfl rfl) (by decide) fun a hF => ?_
            refine s_callB [_, _] hF (enters_of Try.func39 (by kernel_rfl) rfl) rfl (by decide) ((Same40 cB cR yB yR w76 (hcB0.bel hB9) (hcR.bel hBR) (by rw [heB]; exact hfit9)).mono fun e w' ⟨z, h1, ⟨b, h2, h3⟩, h4⟩ => ⟨by rw [h1, h2, h3.2 ⟨cB.ok_ess.1 (by rw [heB]; exact PA.2.2.2.2.2.2), cR.ok_ess.1 (by rw [heR]; exact PA.2.2.2.2.2.2), by rw [heB, heR]; exact hself⟩], h4⟩) fun w78 a B79 hF => ?_
            have sB79 := B79.size
            have hB := hB.trans (B79.mono hB.size)
            have hB9 := hB9.trans (B79.mono hB9.size)
            have hBV := hBV.trans (B79.mono hBV.size)
            have hBR := hBR.trans (B79.mono hBR.size)
            have m3 := m3.old B79
            have m4 := m4.old B79
            have m5 := m5.old B79
            have m7 := m7.old B79
            have m8 := m8.old B79
            have m9 := m9.old B79
            refine s_val hF (x_move rfl) (by decide) fun a hF => ?_
            refine s_grd 66 hF rfl rfl rfl ?_
            refine s_callB [] hF (enters_of Try.func11 (by kernel_rfl) rfl) rfl (by decide) (awake15 w78) fun w80 a B81 hF => ?_
            have sB81 := B81.size
            have hB := hB.trans (B81.mono hB.size)
            have hB9 := hB9.trans (B81.mono hB9.size)
            have hBV := hBV.trans (B81.mono hBV.size)
            have hBR := hBR.trans (B81.mono hBR.size)
            have m3 := m3.old B81
            have m4 := m4.old B81
            have m5 := m5.old B81
            have m7 := m7.old B81
            have m8 := m8.old B81
            have m9 := m9.old B81
            refine s_val hF (x_pick (b := true) rfl rfl) (by decide) fun a hF => ?_
            refine s_val hF (x_assign rfl) (by decide) fun a hF => ?_
            refine s_end (hK16 _ _ ?_)
            refine wp_ret (res_slot hF rfl rfl ⟨rfl, hB⟩)
          · refine d_op 8 (some 9) (Go.Op.alloc 27) (by kernel_rfl) fun ty pos af => ?_
            refine s_alloc hF (by decide) zero27 fun w82 b9 a eb9 m9 B83 zb9 hF => ?_
            have sB83 := B83.size
            have hB := hB.trans (B83.mono hB.size)
            have hB9 := hB9.trans (B83.mono hB9.size)
            have hBV := hBV.trans (B83.mono hBV.size)
            have m3 := m3.old B83
            have m4 := m4.old B83
            have m5 := m5.old B83
            have m7 := m7.old B83
            have m8 := m8.old B83
            have hS := hS.below B83
            refine s_end ⟨hS, ?_⟩
            refine d_one 7 (some 62) (Go.Op.call (Go.Call.mk (Go.Callee.value (Go.Operand.func 29)) #[(Go.Operand.tmp 58), (Go.Operand.tmp 61)] #[27, 27])) (by kernel_rfl) (by kernel_rfl) fun ty pos af => ?_
            refine s_callR (R := fun r w' => ∃ y, r = tv y ∧ RE w' (AS (fun k => k ≠ b9 ∧ k < w82.heap.size) w82.heap.size) (PT.inst cb.ess cV.ess) y ∧ (cb.ok ∧ cV.ok ∧ (PT.put cV.ess cb.ess 0).ok → Tt cb y)) [_, _] hF (enters_of Try.func29 (by kernel_rfl) rfl) rfl (by decide) (Inst42t (fun k => k ≠ b9 ∧ k < w82.heap.size) cb cV yb yV w82 (fun k hk => hk.2) ((hry.keep hB9.size (fun k hk _ => hB9.block k hk)).mono (fun k hk => ⟨by omega, by omega⟩)) ((hcV.keep hBV.size (fun k hk _ => hBV.block k hk)).mono (fun k hk => ⟨by omega, by omega⟩))) ?_
            rintro _ w84 a ⟨yR, rfl, hqR, hTR⟩ B85 hF
            have sB85 := B85.size
            have hB := hB.trans (B85.mono hB.size)
            have hB9 := hB9.trans (B85.mono hB9.size)
            have hBV := hBV.trans (B85.mono hBV.size)
            have m3 := m3.old B85
            have m4 := m4.old B85
            have m5 := m5.old B85
            have m7 := m7.old B85
            have m8 := m8.old B85
            have m9 := m9.old B85
            have hS := hS.below B85
            obtain ⟨cR, hcR, heR⟩ := hqR
            rw [heV, hecb, PA.2.2.2.2.2.1] at heR
            have hcR : RC w84 (fun k => k ≠ b9) cR yR := hcR.mono (fun k hk => by rcases hk with hk | hk; (· exact hk.1); omega)
            refine s_end ⟨hS, ?_⟩
            refine d_one 9 none (Go.Op.store 27 (Go.Operand.tmp 9) (Go.Operand.tmp 62)) (by kernel_rfl) (by kernel_rfl) fun ty pos af => ?_
            refine s_putW hF rfl rfl (size_wide wide27) m9 rfl hcR.one fun w88 m9 o89 => ?_
            have so89 := o89.size
            have hB := hB.trans (o89.below (by omega))
            have hB9 := hB9.trans (o89.below (by omega))
            have hBV := hBV.trans (o89.below (by omega))
            have m3 := m3.only o89 (by omega)
            have m4 := m4.only o89 (by omega)
            have m5 := m5.only o89 (by omega)
            have m7 := m7.only o89 (by omega)
            have m8 := m8.only o89 (by omega)
            have hS := hS.only o89 (by omega)
            have hcR := hcR.only o89 (fun h => h rfl)
            refine s_end ⟨hS, ?_⟩
            refine d_end (by kernel_rfl) (hK15 _ _ ?_)
            refine wp_rs fun K17 hK17 => ?_
            refine s_val hF (x_ldW wide27 m7 rfl rfl) (by decide) fun a hF => ?_
            refine s_val hF (x_ldW wide27 m9 rfl rfl) (by decide) fun a hF => ?_
            refine s_callB [_, _] hF (enters_of Try.func39 (by kernel_rfl) rfl) rfl (by decide) ((Same40 cB cR yB yR w88 (hcB0.bel hB9) (hcR.valid.mono (fun k hk => hk.2)) (by rw [heB]; exact hfit9)).mono fun e w' ⟨z, h1, ⟨b, h2, h3⟩, h4⟩ => ⟨by rw [h1, h2, h3.2 ⟨cB.ok_ess.1 (by rw [heB]; exact PA.2.2.2.2.2.2), cR.ok_ess.1 (by rw [heR]; exact PA.2.2.2.2.2.2), by rw [heB, heR]; exact hself⟩], h4⟩) fun w90 a B91 hF => ?_
            have sB91 := B91.size
            have hB := hB.trans (B91.mono hB.size)
            have hB9 := hB9.trans (B91.mono hB9.size)
            have hBV := hBV.trans (B91.mono hBV.size)
            have m3 := m3.old B91
            have m4 := m4.old B91
            have m5 := m5.old B91
            have m7 := m7.old B91
            have m8 := m8.old B91
            have m9 := m9.old B91
            have hcR := hcR.below B91
            refine s_val hF (x_move rfl) (by decide) fun a hF => ?_
            refine s_grd 66 hF rfl rfl rfl ?_
            refine s_callB [] hF (enters_of Try.func11 (by kernel_rfl) rfl) rfl (by decide) (awake15 w90) fun w92 a B93 hF => ?_
            have sB93 := B93.size
            have hB := hB.trans (B93.mono hB.size)
            have hB9 := hB9.trans (B93.mono hB9.size)
            have hBV := hBV.trans (B93.mono hBV.size)
            have m3 := m3.old B93
            have m4 := m4.old B93
            have m5 := m5.old B93
            have m7 := m7.old B93
            have m8 := m8.old B93
            have m9 := m9.old B93
            have hcR := hcR.below B93
            refine s_val hF (x_pick (b := true) rfl rfl) (by decide) fun a hF => ?_
            refine s_val hF (x_assign rfl) (by decide) fun a hF => ?_
            refine s_end (hK17 _ _ ?_)
            refine wp_ret (res_slot hF rfl rfl ⟨rfl, hB⟩)
        · refine d_op 8 (some 9) (Go.Op.alloc 27) (by kernel_rfl) fun ty pos af => ?_
          refine s_alloc hF (by decide) zero27 fun w94 b9 a eb9 m9 B95 zb9 hF => ?_
          have sB95 := B95.size
          have hB := hB.trans (B95.mono hB.size)
          have hB9 := hB9.trans (B95.mono hB9.size)
          have m3 := m3.old B95
          have m4 := m4.old B95
          have m5 := m5.old B95
          have m7 := m7.old B95
          have m8 := m8.old B95
          have hS := hS.below B95
          refine s_end ⟨hS, ?_⟩
          refine d_one 6 (some 61) (Go.Op.call (Go.Call.mk (Go.Callee.value (Go.Operand.func 29)) #[(Go.Operand.tmp 59), (Go.Operand.tmp 60)] #[27, 27])) (by kernel_rfl) (by kernel_rfl) fun ty pos af => ?_
          refine s_callR (R := fun r w' => ∃ y, r = tv y ∧ RE w' (AS (fun k => k ≠ b9 ∧ k < w94.heap.size) w94.heap.size) (PT.inst u.ess v.ess) y ∧ (u.ok ∧ v.ok ∧ (PT.put v.ess u.ess 0).ok → Tt u y)) [_, _] hF (enters_of Try.func29 (by kernel_rfl) rfl) rfl (by decide) (Inst42t (fun k => k ≠ b9 ∧ k < w94.heap.size) u v y z w94 (fun k hk => hk.2) ((hy.keep hB.size (fun k hk _ => hB.block k hk)).mono (fun k hk => ⟨by omega, by omega⟩)) ((hz.keep hB.size (fun k hk _ => hB.block k hk)).mono (fun k hk => ⟨by omega, by omega⟩))) ?_
          rintro _ w96 a ⟨yV, rfl, hqV, hTV⟩ B97 hF
          have sB97 := B97.size
          have hB := hB.trans (B97.mono hB.size)
          have hB9 := hB9.trans (B97.mono hB9.size)
          have m3 := m3.old B97
          have m4 := m4.old B97
          have m5 := m5.old B97
          have m7 := m7.old B97
          have m8 := m8.old B97
          have m9 := m9.old B97
          have hS := hS.below B97
          obtain ⟨cV, hcV, heV⟩ := hqV
          rw [PA.2.2.2.2.1] at heV
          have hcV : RC w96 (fun k => k ≠ b9) cV yV := hcV.mono (fun k hk => by rcases hk with hk | hk; (· exact hk.1); omega)
          refine s_end ⟨hS, ?_⟩
          refine d_one 7 (some 62) (Go.Op.call (Go.Call.mk (Go.Callee.value (Go.Operand.func 29)) #[(Go.Operand.tmp 58), (Go.Operand.tmp 61)] #[27, 27])) (by kernel_rfl) (by kernel_rfl) fun ty pos af => ?_
          refine s_callR (R := fun r w' => ∃ y, r = tv y ∧ RE w' (AS (fun k => k ≠ b9 ∧ k < w96.heap.size) w96.heap.size) (PT.inst cb.ess cV.ess) y ∧ (cb.ok ∧ cV.ok ∧ (PT.put cV.ess cb.ess 0).ok → Tt cb y)) [_, _] hF (enters_of Try.func29 (by kernel_rfl) rfl) rfl (by decide) (Inst42t (fun k => k ≠ b9 ∧ k < w96.heap.size) cb cV yb yV w96 (fun k hk => hk.2) ((hry.keep hB9.size (fun k hk _ => hB9.block k hk)).mono (fun k hk => ⟨by omega, by omega⟩)) (hcV.valid)) ?_
          rintro _ w98 a ⟨yR, rfl, hqR, hTR⟩ B99 hF
          have sB99 := B99.size
          have hB := hB.trans (B99.mono hB.size)
          have hB9 := hB9.trans (B99.mono hB9.size)
          have m3 := m3.old B99
          have m4 := m4.old B99
          have m5 := m5.old B99
          have m7 := m7.old B99
          have m8 := m8.old B99
          have m9 := m9.old B99
          have hS := hS.below B99
          have hcV := hcV.below B99
          obtain ⟨cR, hcR, heR⟩ := hqR
          rw [heV, hecb, PA.2.2.2.2.2.1] at heR
          have hcR : RC w98 (fun k => k ≠ b9) cR yR := hcR.mono (fun k hk => by rcases hk with hk | hk; (· exact hk.1); omega)
          refine s_end ⟨hS, ?_⟩
          refine d_one 9 none (Go.Op.store 27 (Go.Operand.tmp 9) (Go.Operand.tmp 62)) (by kernel_rfl) (by kernel_rfl) fun ty pos af => ?_
          refine s_putW hF rfl rfl (size_wide wide27) m9 rfl hcR.one fun w102 m9 o103 => ?_
          have so103 := o103.size
          have hB := hB.trans (o103.below (by omega))
          have hB9 := hB9.trans (o103.below (by omega))
          have m3 := m3.only o103 (by omega)
          have m4 := m4.only o103 (by omega)
          have m5 := m5.only o103 (by omega)
          have m7 := m7.only o103 (by omega)
          have m8 := m8.only o103 (by omega)
          have hS := hS.only o103 (by omega)
          have hcV := hcV.only o103 (fun h => h rfl)
          have hcR := hcR.only o103 (fun h => h rfl)
          refine s_end ⟨hS, ?_⟩
          refine d_end (by kernel_rfl) (hK15 _ _ ?_)
          refine wp_rs fun K18 hK18 => ?_
          refine s_val hF (x_ldW wide27 m7 rfl rfl) (by decide) fun a hF => ?_
          refine s_val hF (x_ldW wide27 m9 rfl rfl) (by decide) fun a hF => ?_
          refine s_callB [_, _] hF (enters_of Try.func39 (by kernel_rfl) rfl) rfl (by decide) ((Same40 cB cR yB yR w102 (hcB0.bel hB9) (hcR.valid.mono (fun k hk => hk.2)) (by rw [heB]; exact hfit9)).mono fun e w' ⟨z, h1, ⟨b, h2, h3⟩, h4⟩ => ⟨by rw [h1, h2, h3.2 ⟨cB.ok_ess.1 (by rw [heB]; exact PA.2.2.2.2.2.2), cR.ok_ess.1 (by rw [heR]; exact PA.2.2.2.2.2.2), by rw [heB, heR]; exact hself⟩], h4⟩) fun w104 a B105 hF => ?_
          have sB105 := B105.size
          have hB := hB.trans (B105.mono hB.size)
          have hB9 := hB9.trans (B105.mono hB9.size)
          have m3 := m3.old B105
          have m4 := m4.old B105
          have m5 := m5.old B105
          have m7 := m7.old B105
          have m8 := m8.old B105
          have m9 := m9.old B105
          have hcV := hcV.below B105
          have hcR := hcR.below B105
          refine s_val hF (x_move rfl) (by decide) fun a hF => ?_
          refine s_grd 66 hF rfl rfl rfl ?_
          refine s_callB [] hF (enters_of Try.func11 (by kernel_rfl) rfl) rfl (by decide) (awake15 w104) fun w106 a B107 hF => ?_
          have sB107 := B107.size
          have hB := hB.trans (B107.mono hB.size)
          have hB9 := hB9.trans (B107.mono hB9.size)
          have m3 := m3.old B107
          have m4 := m4.old B107
          have m5 := m5.old B107
          have m7 := m7.old B107
          have m8 := m8.old B107
          have m9 := m9.old B107
          have hcV := hcV.below B107
          have hcR := hcR.below B107
          refine s_val hF (x_pick (b := true) rfl rfl) (by decide) fun a hF => ?_
          refine s_val hF (x_assign rfl) (by decide) fun a hF => ?_
          refine s_end (hK18 _ _ ?_)
          refine wp_ret (res_slot hF rfl rfl ⟨rfl, hB⟩)
      refine d_val 1 42 (op := (Go.Op.load 27 (Go.Operand.tmp 3))) hF hS (by kernel_rfl) (fun W hW => x_ldW wide27 (m3_d.k2 hW (by omega)) rfl rfl) (by kernel_rfl) (by decide) fun a hF => ?_
      refine d_val 3 44 (op := (Go.Op.load 27 (Go.Operand.tmp 5))) hF hS (by kernel_rfl) (fun W hW => x_ldW wide27 (m5_d.k2 hW (by omega)) rfl rfl) (by kernel_rfl) (by decide) fun a hF => ?_
      refine d_two 0 5 (by kernel_rfl) ?_ ?_
      · refine d_op 0 (some 41) (Go.Op.call (Go.Call.mk (Go.Callee.value (Go.Operand.func 14)) #[(Go.Operand.const (Go.Value.string (ByteArray.mk #[100]))), (Go.Operand.const (Go.Value.slice none 0 0))] #[9, 22])) (by kernel_rfl) fun ty pos af => ?_
        refine s_callR (R := fun r w' => ∃ y, r = tv y ∧ RE w' (AS (fun k => k < w64.heap.size) w64.heap.size) (.cst ⟨#[100]⟩ ([].map slO)) y) [_, _] hF (enters_of Try.func14 (by kernel_rfl) rfl) rfl (by decide) (Const18t (fun k => k < w64.heap.size) ⟨#[100]⟩ [] _ w64 (fun _ hk => hk) (RVn.nil _ _)) ?_
        rintro _ w108 a ⟨yD, rfl, hqD⟩ B109 hF
        have sB109 := B109.size
        have hB := hB.trans (B109.mono hB.size)
        have hB9 := hB9.trans (B109.mono hB9.size)
        have m3 := m3.old B109
        have m4 := m4.old B109
        have m5 := m5.old B109
        have m7 := m7.old B109
        have hS := hS.below B109
        obtain ⟨cD, hcD, heD⟩ := hqD
        have heD : cD.ess = .cst ⟨#[100]⟩ [] := heD
        have hcD : RC w108 (fun k => k < w108.heap.size) cD yD := hcD.valid.mono (fun k hk => hk.2)
        have hBD := Below.refl w108.heap.size w108
        have sBD := hBD.size
        refine s_end ⟨hS, ?_⟩
        refine d_two 2 5 (by kernel_rfl) ?_ ?_
        · refine d_op 2 (some 43) (Go.Op.call (Go.Call.mk (Go.Callee.value (Go.Operand.func 17)) #[(Go.Operand.tmp 41), (Go.Operand.tmp 42)] #[27, 27])) (by kernel_rfl) fun ty pos af => ?_
          refine s_callR (R := fun r w' => ∃ y, r = tv y ∧ RE w' (AS (fun k => k < w108.heap.size) w108.heap.size) (.two 4 cD.ess t.ess) y ∧ Tn 2 y) [_, _] hF (enters_of Try.func17 (by kernel_rfl) rfl) rfl (by decide) (Lam21t (fun k => k < w108.heap.size) cD t yD x w108 (fun _ hk => hk) (hcD.bel hBD) (hx.bel hB)) ?_
          rintro _ w110 a ⟨yL, rfl, hqL, hTL⟩ B111 hF
          have sB111 := B111.size
          have hB := hB.trans (B111.mono hB.size)
          have hB9 := hB9.trans (B111.mono hB9.size)
          have hBD := hBD.trans (B111.mono hBD.size)
          have m3 := m3.old B111
          have m4 := m4.old B111
          have m5 := m5.old B111
          have m7 := m7.old B111
          have hS := hS.below B111
          obtain ⟨cL, hcL, heL⟩ := hqL
          rw [heD] at heL
          have hcL : RC w110 (fun k => k < w110.heap.size) cL yL := hcL.valid.mono (fun k hk => hk.2)
          have hBL := Below.refl w110.heap.size w110
          have sBL := hBL.size
          refine s_end ⟨hS, ?_⟩
          refine d_two 4 5 (by kernel_rfl) ?_ ?_
          · refine d_op 4 (some 45) (Go.Op.call (Go.Call.mk (Go.Callee.value (Go.Operand.func 29)) #[(Go.Operand.tmp 43), (Go.Operand.tmp 44)] #[27, 27])) (by kernel_rfl) fun ty pos af => ?_
            refine s_callR (R := fun r w' => ∃ y, r = tv y ∧ RE w' (AS (fun k => k < w110.heap.size) w110.heap.size) (PT.inst cL.ess v.ess) y ∧ (cL.ok ∧ v.ok ∧ (PT.put v.ess cL.ess 0).ok → Tt cL y)) [_, _] hF (enters_of Try.func29 (by kernel_rfl) rfl) rfl (by decide) (Inst42t (fun k => k < w110.heap.size) cL v yL z w110 (fun _ hk => hk) (hcL.bel hBL) (hz.bel hB)) ?_
            rintro _ w112 a ⟨yU, rfl, hqU, hTU⟩ B113 hF
            have sB113 := B113.size
            have hB := hB.trans (B113.mono hB.size)
            have hB9 := hB9.trans (B113.mono hB9.size)
            have hBD := hBD.trans (B113.mono hBD.size)
            have hBL := hBL.trans (B113.mono hBL.size)
            have m3 := m3.old B113
            have m4 := m4.old B113
            have m5 := m5.old B113
            have m7 := m7.old B113
            have hS := hS.below B113
            obtain ⟨cU, hcU, heU⟩ := hqU
            have hTU : Tn 2 yU := by have h9 := hTU ⟨cL.ok_ess.1 (by rw [heL]; exact PA.2.2.2.1.1), ov_, by rw [heL]; exact PA.2.2.2.1.2.2⟩; obtain ⟨ca, cb, m9, rfl⟩ := ess_two heL; exact h9 (by simp [CT.kids])
            rw [heL, PA.2.2.1] at heU
            have hcU : RC w112 (fun k => k < w112.heap.size) cU yU := hcU.valid.mono (fun k hk => hk.2)
            have hBU := Below.refl w112.heap.size w112
            have sBU := hBU.size
            refine s_end ⟨hS, ?_⟩
            refine d_one 5 (some 8) (Go.Op.alloc 27) (by kernel_rfl) (by kernel_rfl) fun ty pos af => ?_
            refine s_alloc hF (by decide) zero27 fun w114 b8 a eb8 m8 B115 zb8 hF => ?_
            have sB115 := B115.size
            have hB := hB.trans (B115.mono hB.size)
            have hB9 := hB9.trans (B115.mono hB9.size)
            have hBD := hBD.trans (B115.mono hBD.size)
            have hBL := hBL.trans (B115.mono hBL.size)
            have hBU := hBU.trans (B115.mono hBU.size)
            have m3 := m3.old B115
            have m4 := m4.old B115
            have m5 := m5.old B115
            have m7 := m7.old B115
            have hS := hS.below B115
            refine s_end ⟨hS, ?_⟩
            refine d_one 6 none (Go.Op.store 27 (Go.Operand.tmp 8) (Go.Operand.tmp 45)) (by kernel_rfl) (by kernel_rfl) fun ty pos af => ?_
            refine s_putW hF rfl rfl (size_wide wide27) m8 rfl hcU.one fun w118 m8 o119 => ?_
            have so119 := o119.size
            have hB := hB.trans (o119.below (by omega))
            have hB9 := hB9.trans (o119.below (by omega))
            have hBD := hBD.trans (o119.below (by omega))
            have hBL := hBL.trans (o119.below (by omega))
            have hBU := hBU.trans (o119.below (by omega))
            have m3 := m3.only o119 (by omega)
            have m4 := m4.only o119 (by omega)
            have m5 := m5.only o119 (by omega)
            have m7 := m7.only o119 (by omega)
            have hS := hS.only o119 (by omega)
            refine s_end ⟨hS, ?_⟩
            refine d_end (by kernel_rfl) ?_
            exact key12 _ _ _ _ _ hB m3 m4 m5 m7 (hcB0.bel hB9) heB m8 (hcU.bel hBU) heU hTU (hF.sub _ rfl)
          · refine d_op 5 (some 8) (Go.Op.alloc 27) (by kernel_rfl) fun ty pos af => ?_
            refine s_alloc hF (by decide) zero27 fun w120 b8 a eb8 m8 B121 zb8 hF => ?_
            have sB121 := B121.size
            have hB := hB.trans (B121.mono hB.size)
            have hB9 := hB9.trans (B121.mono hB9.size)
            have hBD := hBD.trans (B121.mono hBD.size)
            have hBL := hBL.trans (B121.mono hBL.size)
            have m3 := m3.old B121
            have m4 := m4.old B121
            have m5 := m5.old B121
            have m7 := m7.old B121
            have hS := hS.below B121
            refine s_end ⟨hS, ?_⟩
            refine d_one 4 (some 45) (Go.Op.call (Go.Call.mk (Go.Callee.value (Go.Operand.func 29)) #[(Go.Operand.tmp 43), (Go.Operand.tmp 44)] #[27, 27])) (by kernel_rfl) (by kernel_rfl) fun ty pos af => ?_
            refine s_callR (R := fun r w' => ∃ y, r = tv y ∧ RE w' (AS (fun k => k ≠ b8 ∧ k < w120.heap.size) w120.heap.size) (PT.inst cL.ess v.ess) y ∧ (cL.ok ∧ v.ok ∧ (PT.put v.ess cL.ess 0).ok → Tt cL y)) [_, _] hF (enters_of Try.func29 (by kernel_rfl) rfl) rfl (by decide) (Inst42t (fun k => k ≠ b8 ∧ k < w120.heap.size) cL v yL z w120 (fun k hk => hk.2) ((hcL.keep hBL.size (fun k hk _ => hBL.block k hk)).mono (fun k hk => ⟨by omega, by omega⟩)) ((hz.keep hB.size (fun k hk _ => hB.block k hk)).mono (fun k hk => ⟨by omega, by omega⟩))) ?_
            rintro _ w122 a ⟨yU, rfl, hqU, hTU⟩ B123 hF
            have sB123 := B123.size
            have hB := hB.trans (B123.mono hB.size)
            have hB9 := hB9.trans (B123.mono hB9.size)
            have hBD := hBD.trans (B123.mono hBD.size)
            have hBL := hBL.trans (B123.mono hBL.size)
            have m3 := m3.old B123
            have m4 := m4.old B123
            have m5 := m5.old B123
            have m7 := m7.old B123
            have m8 := m8.old B123
            have hS := hS.below B123
            obtain ⟨cU, hcU, heU⟩ := hqU
            have hTU : Tn 2 yU := by have h9 := hTU ⟨cL.ok_ess.1 (by rw [heL]; exact PA.2.2.2.1.1), ov_, by rw [heL]; exact PA.2.2.2.1.2.2⟩; obtain ⟨ca, cb, m9, rfl⟩ := ess_two heL; exact h9 (by simp [CT.kids])
            rw [heL, PA.2.2.1] at heU
            have hcU : RC w122 (fun k => k ≠ b8) cU yU := hcU.mono (fun k hk => by rcases hk with hk | hk; (· exact hk.1); omega)
            refine s_end ⟨hS, ?_⟩
            refine d_one 6 none (Go.Op.store 27 (Go.Operand.tmp 8) (Go.Operand.tmp 45)) (by kernel_rfl) (by kernel_rfl) fun ty pos af => ?_
            refine s_putW hF rfl rfl (size_wide wide27) m8 rfl hcU.one fun w126 m8 o127 => ?_
            have so127 := o127.size
            have hB := hB.trans (o127.below (by omega))
            have hB9 := hB9.trans (o127.below (by omega))
            have hBD := hBD.trans (o127.below (by omega))
            have hBL := hBL.trans (o127.below (by omega))
            have m3 := m3.only o127 (by omega)
            have m4 := m4.only o127 (by omega)
            have m5 := m5.only o127 (by omega)
            have m7 := m7.only o127 (by omega)
            have hS := hS.only o127 (by omega)
            have hcU := hcU.only o127 (fun h => h rfl)
            refine s_end ⟨hS, ?_⟩
            refine d_end (by kernel_rfl) ?_
            exact key12 _ _ _ _ _ hB m3 m4 m5 m7 (hcB0.bel hB9) heB m8 (hcU.valid.mono (fun k hk => hk.2)) heU hTU (hF.sub _ rfl)
        · refine d_op 5 (some 8) (Go.Op.alloc 27) (by kernel_rfl) fun ty pos af => ?_
          refine s_alloc hF (by decide) zero27 fun w128 b8 a eb8 m8 B129 zb8 hF => ?_
          have sB129 := B129.size
          have hB := hB.trans (B129.mono hB.size)
          have hB9 := hB9.trans (B129.mono hB9.size)
          have hBD := hBD.trans (B129.mono hBD.size)
          have m3 := m3.old B129
          have m4 := m4.old B129
          have m5 := m5.old B129
          have m7 := m7.old B129
          have hS := hS.below B129
          refine s_end ⟨hS, ?_⟩
          refine d_one 2 (some 43) (Go.Op.call (Go.Call.mk (Go.Callee.value (Go.Operand.func 17)) #[(Go.Operand.tmp 41), (Go.Operand.tmp 42)] #[27, 27])) (by kernel_rfl) (by kernel_rfl) fun ty pos af => ?_
          refine s_callR (R := fun r w' => ∃ y, r = tv y ∧ RE w' (AS (fun k => k ≠ b8 ∧ k < w128.heap.size) w128.heap.size) (.two 4 cD.ess t.ess) y ∧ Tn 2 y) [_, _] hF (enters_of Try.func17 (by kernel_rfl) rfl) rfl (by decide) (Lam21t (fun k => k ≠ b8 ∧ k < w128.heap.size) cD t yD x w128 (fun k hk => hk.2) ((hcD.keep hBD.size (fun k hk _ => hBD.block k hk)).mono (fun k hk => ⟨by omega, by omega⟩)) ((hx.keep hB.size (fun k hk _ => hB.block k hk)).mono (fun k hk => ⟨by omega, by omega⟩))) ?_
          rintro _ w130 a ⟨yL, rfl, hqL, hTL⟩ B131 hF
          have sB131 := B131.size
          have hB := hB.trans (B131.mono hB.size)
          have hB9 := hB9.trans (B131.mono hB9.size)
          have hBD := hBD.trans (B131.mono hBD.size)
          have m3 := m3.old B131
          have m4 := m4.old B131
          have m5 := m5.old B131
          have m7 := m7.old B131
          have m8 := m8.old B131
          have hS := hS.below B131
          obtain ⟨cL, hcL, heL⟩ := hqL
          rw [heD] at heL
          have hcL : RC w130 (fun k => k ≠ b8) cL yL := hcL.mono (fun k hk => by rcases hk with hk | hk; (· exact hk.1); omega)
          refine s_end ⟨hS, ?_⟩
          refine d_one 4 (some 45) (Go.Op.call (Go.Call.mk (Go.Callee.value (Go.Operand.func 29)) #[(Go.Operand.tmp 43), (Go.Operand.tmp 44)] #[27, 27])) (by kernel_rfl) (by kernel_rfl) fun ty pos af => ?_
          refine s_callR (R := fun r w' => ∃ y, r = tv y ∧ RE w' (AS (fun k => k ≠ b8 ∧ k < w130.heap.size) w130.heap.size) (PT.inst cL.ess v.ess) y ∧ (cL.ok ∧ v.ok ∧ (PT.put v.ess cL.ess 0).ok → Tt cL y)) [_, _] hF (enters_of Try.func29 (by kernel_rfl) rfl) rfl (by decide) (Inst42t (fun k => k ≠ b8 ∧ k < w130.heap.size) cL v yL z w130 (fun k hk => hk.2) (hcL.valid) ((hz.keep hB.size (fun k hk _ => hB.block k hk)).mono (fun k hk => ⟨by omega, by omega⟩))) ?_
          rintro _ w132 a ⟨yU, rfl, hqU, hTU⟩ B133 hF
          have sB133 := B133.size
          have hB := hB.trans (B133.mono hB.size)
          have hB9 := hB9.trans (B133.mono hB9.size)
          have hBD := hBD.trans (B133.mono hBD.size)
          have m3 := m3.old B133
          have m4 := m4.old B133
          have m5 := m5.old B133
          have m7 := m7.old B133
          have m8 := m8.old B133
          have hS := hS.below B133
          have hcL := hcL.below B133
          obtain ⟨cU, hcU, heU⟩ := hqU
          have hTU : Tn 2 yU := by have h9 := hTU ⟨cL.ok_ess.1 (by rw [heL]; exact PA.2.2.2.1.1), ov_, by rw [heL]; exact PA.2.2.2.1.2.2⟩; obtain ⟨ca, cb, m9, rfl⟩ := ess_two heL; exact h9 (by simp [CT.kids])
          rw [heL, PA.2.2.1] at heU
          have hcU : RC w132 (fun k => k ≠ b8) cU yU := hcU.mono (fun k hk => by rcases hk with hk | hk; (· exact hk.1); omega)
          refine s_end ⟨hS, ?_⟩
          refine d_one 6 none (Go.Op.store 27 (Go.Operand.tmp 8) (Go.Operand.tmp 45)) (by kernel_rfl) (by kernel_rfl) fun ty pos af => ?_
          refine s_putW hF rfl rfl (size_wide wide27) m8 rfl hcU.one fun w136 m8 o137 => ?_
          have so137 := o137.size
          have hB := hB.trans (o137.below (by omega))
          have hB9 := hB9.trans (o137.below (by omega))
          have hBD := hBD.trans (o137.below (by omega))
          have m3 := m3.only o137 (by omega)
          have m4 := m4.only o137 (by omega)
          have m5 := m5.only o137 (by omega)
          have m7 := m7.only o137 (by omega)
          have hS := hS.only o137 (by omega)
          have hcL := hcL.only o137 (fun h => h rfl)
          have hcU := hcU.only o137 (fun h => h rfl)
          refine s_end ⟨hS, ?_⟩
          refine d_end (by kernel_rfl) ?_
          exact key12 _ _ _ _ _ hB m3 m4 m5 m7 (hcB0.bel hB9) heB m8 (hcU.valid.mono (fun k hk => hk.2)) heU hTU (hF.sub _ rfl)
      · refine d_op 5 (some 8) (Go.Op.alloc 27) (by kernel_rfl) fun ty pos af => ?_
        refine s_alloc hF (by decide) zero27 fun w138 b8 a eb8 m8 B139 zb8 hF => ?_
        have sB139 := B139.size
        have hB := hB.trans (B139.mono hB.size)
        have hB9 := hB9.trans (B139.mono hB9.size)
        have m3 := m3.old B139
        have m4 := m4.old B139
        have m5 := m5.old B139
        have m7 := m7.old B139
        have hS := hS.below B139
        refine s_end ⟨hS, ?_⟩
        refine d_one 0 (some 41) (Go.Op.call (Go.Call.mk (Go.Callee.value (Go.Operand.func 14)) #[(Go.Operand.const (Go.Value.string (ByteArray.mk #[100]))), (Go.Operand.const (Go.Value.slice none 0 0))] #[9, 22])) (by kernel_rfl) (by kernel_rfl) fun ty pos af => ?_
        refine s_callR (R := fun r w' => ∃ y, r = tv y ∧ RE w' (AS (fun k => k ≠ b8 ∧ k < w138.heap.size) w138.heap.size) (.cst ⟨#[100]⟩ ([].map slO)) y) [_, _] hF (enters_of Try.func14 (by kernel_rfl) rfl) rfl (by decide) (Const18t (fun k => k ≠ b8 ∧ k < w138.heap.size) ⟨#[100]⟩ [] _ w138 (fun k hk => hk.2) (RVn.nil _ _)) ?_
        rintro _ w140 a ⟨yD, rfl, hqD⟩ B141 hF
        have sB141 := B141.size
        have hB := hB.trans (B141.mono hB.size)
        have hB9 := hB9.trans (B141.mono hB9.size)
        have m3 := m3.old B141
        have m4 := m4.old B141
        have m5 := m5.old B141
        have m7 := m7.old B141
        have m8 := m8.old B141
        have hS := hS.below B141
        obtain ⟨cD, hcD, heD⟩ := hqD
        have heD : cD.ess = .cst ⟨#[100]⟩ [] := heD
        have hcD : RC w140 (fun k => k ≠ b8) cD yD := hcD.mono (fun k hk => by rcases hk with hk | hk; (· exact hk.1); omega)
        refine s_end ⟨hS, ?_⟩
        refine d_one 2 (some 43) (Go.Op.call (Go.Call.mk (Go.Callee.value (Go.Operand.func 17)) #[(Go.Operand.tmp 41), (Go.Operand.tmp 42)] #[27, 27])) (by kernel_rfl) (by kernel_rfl) fun ty pos af => ?_
        refine s_callR (R := fun r w' => ∃ y, r = tv y ∧ RE w' (AS (fun k => k ≠ b8 ∧ k < w140.heap.size) w140.heap.size) (.two 4 cD.ess t.ess) y ∧ Tn 2 y) [_, _] hF (enters_of Try.func17 (by kernel_rfl) rfl) rfl (by decide) (Lam21t (fun k => k ≠ b8 ∧ k < w140.heap.size) cD t yD x w140 (fun k hk => hk.2) (hcD.valid) ((hx.keep hB.size (fun k hk _ => hB.block k hk)).mono (fun k hk => ⟨by omega, by omega⟩))) ?_
        rintro _ w142 a ⟨yL, rfl, hqL, hTL⟩ B143 hF
        have sB143 := B143.size
        have hB := hB.trans (B143.mono hB.size)
        have hB9 := hB9.trans (B143.mono hB9.size)
        have m3 := m3.old B143
        have m4 := m4.old B143
        have m5 := m5.old B143
        have m7 := m7.old B143
        have m8 := m8.old B143
        have hS := hS.below B143
        have hcD := hcD.below B143
        obtain ⟨cL, hcL, heL⟩ := hqL
        rw [heD] at heL
        have hcL : RC w142 (fun k => k ≠ b8) cL yL := hcL.mono (fun k hk => by rcases hk with hk | hk; (· exact hk.1); omega)
        refine s_end ⟨hS, ?_⟩
        refine d_one 4 (some 45) (Go.Op.call (Go.Call.mk (Go.Callee.value (Go.Operand.func 29)) #[(Go.Operand.tmp 43), (Go.Operand.tmp 44)] #[27, 27])) (by kernel_rfl) (by kernel_rfl) fun ty pos af => ?_
        refine s_callR (R := fun r w' => ∃ y, r = tv y ∧ RE w' (AS (fun k => k ≠ b8 ∧ k < w142.heap.size) w142.heap.size) (PT.inst cL.ess v.ess) y ∧ (cL.ok ∧ v.ok ∧ (PT.put v.ess cL.ess 0).ok → Tt cL y)) [_, _] hF (enters_of Try.func29 (by kernel_rfl) rfl) rfl (by decide) (Inst42t (fun k => k ≠ b8 ∧ k < w142.heap.size) cL v yL z w142 (fun k hk => hk.2) (hcL.valid) ((hz.keep hB.size (fun k hk _ => hB.block k hk)).mono (fun k hk => ⟨by omega, by omega⟩))) ?_
        rintro _ w144 a ⟨yU, rfl, hqU, hTU⟩ B145 hF
        have sB145 := B145.size
        have hB := hB.trans (B145.mono hB.size)
        have hB9 := hB9.trans (B145.mono hB9.size)
        have m3 := m3.old B145
        have m4 := m4.old B145
        have m5 := m5.old B145
        have m7 := m7.old B145
        have m8 := m8.old B145
        have hS := hS.below B145
        have hcD := hcD.below B145
        have hcL := hcL.below B145
        obtain ⟨cU, hcU, heU⟩ := hqU
        have hTU : Tn 2 yU := by have h9 := hTU ⟨cL.ok_ess.1 (by rw [heL]; exact PA.2.2.2.1.1), ov_, by rw [heL]; exact PA.2.2.2.1.2.2⟩; obtain ⟨ca, cb, m9, rfl⟩ := ess_two heL; exact h9 (by simp [CT.kids])
        rw [heL, PA.2.2.1] at heU
        have hcU : RC w144 (fun k => k ≠ b8) cU yU := hcU.mono (fun k hk => by rcases hk with hk | hk; (· exact hk.1); omega)
        refine s_end ⟨hS, ?_⟩
        refine d_one 6 none (Go.Op.store 27 (Go.Operand.tmp 8) (Go.Operand.tmp 45)) (by kernel_rfl) (by kernel_rfl) fun ty pos af => ?_
        refine s_putW hF rfl rfl (size_wide wide27) m8 rfl hcU.one fun w148 m8 o149 => ?_
        have so149 := o149.size
        have hB := hB.trans (o149.below (by omega))
        have hB9 := hB9.trans (o149.below (by omega))
        have m3 := m3.only o149 (by omega)
        have m4 := m4.only o149 (by omega)
        have m5 := m5.only o149 (by omega)
        have m7 := m7.only o149 (by omega)
        have hS := hS.only o149 (by omega)
        have hcD := hcD.only o149 (fun h => h rfl)
        have hcL := hcL.only o149 (fun h => h rfl)
        have hcU := hcU.only o149 (fun h => h rfl)
        refine s_end ⟨hS, ?_⟩
        refine d_end (by kernel_rfl) ?_
        exact key12 _ _ _ _ _ hB m3 m4 m5 m7 (hcB0.bel hB9) heB m8 (hcU.valid.mono (fun k hk => hk.2)) heU hTU (hF.sub _ rfl)
    refine d_val 0 36 (op := (Go.Op.load 27 (Go.Operand.tmp 3))) hF hS (by kernel_rfl) (fun W hW => x_ldW wide27 (m3_d.k2 hW (by omega)) rfl rfl) (by kernel_rfl) (by decide) fun a hF => ?_
    refine d_val 1 37 (op := (Go.Op.load 27 (Go.Operand.tmp 4))) hF hS (by kernel_rfl) (fun W hW => x_ldW wide27 (m4_d.k2 hW (by omega)) rfl rfl) (by kernel_rfl) (by decide) fun a hF => ?_
    refine d_val 3 39 (op := (Go.Op.load 27 (Go.Operand.tmp 5))) hF hS (by kernel_rfl) (fun W hW => x_ldW wide27 (m5_d.k2 hW (by omega)) rfl rfl) (by kernel_rfl) (by decide) fun a hF => ?_
    refine d_two 2 5 (by kernel_rfl) ?_ ?_
    · refine d_op 2 (some 38) (Go.Op.call (Go.Call.mk (Go.Callee.value (Go.Operand.func 29)) #[(Go.Operand.tmp 36), (Go.Operand.tmp 37)] #[27, 27])) (by kernel_rfl) fun ty pos af => ?_
      refine s_callR (R := fun r w' => ∃ y, r = tv y ∧ RE w' (AS (fun k => k < w62.heap.size) w62.heap.size) (PT.inst t.ess u.ess) y ∧ (t.ok ∧ u.ok ∧ (PT.put u.ess t.ess 0).ok → Tt t y)) [_, _] hF (enters_of Try.func29 (by kernel_rfl) rfl) rfl (by decide) (Inst42t (fun k => k < w62.heap.size) t u x y w62 (fun _ hk => hk) (hx.bel hB) (hy.bel hB)) ?_
      rintro _ w150 a ⟨yA, rfl, hqA, hTA⟩ B151 hF
      have sB151 := B151.size
      have hB := hB.trans (B151.mono hB.size)
      have m3 := m3.old B151
      have m4 := m4.old B151
      have m5 := m5.old B151
      have hS := hS.below B151
      obtain ⟨cA, hcA, heA⟩ := hqA
      rw [PA.1] at heA
      have hcA : RC w150 (fun k => k < w150.heap.size) cA yA := hcA.valid.mono (fun k hk => hk.2)
      have hBA := Below.refl w150.heap.size w150
      have sBA := hBA.size
      refine s_end ⟨hS, ?_⟩
      refine d_two 4 5 (by kernel_rfl) ?_ ?_
      · refine d_op 4 (some 40) (Go.Op.call (Go.Call.mk (Go.Callee.value (Go.Operand.func 29)) #[(Go.Operand.tmp 38), (Go.Operand.tmp 39)] #[27, 27])) (by kernel_rfl) fun ty pos af => ?_
        refine s_callR (R := fun r w' => ∃ y, r = tv y ∧ RE w' (AS (fun k => k < w150.heap.size) w150.heap.size) (PT.inst cA.ess v.ess) y ∧ (cA.ok ∧ v.ok ∧ (PT.put v.ess cA.ess 0).ok → Tt cA y)) [_, _] hF (enters_of Try.func29 (by kernel_rfl) rfl) rfl (by decide) (Inst42t (fun k => k < w150.heap.size) cA v yA z w150 (fun _ hk => hk) (hcA.bel hBA) (hz.bel hB)) ?_
        rintro _ w152 a ⟨yB, rfl, hqB, hTB⟩ B153 hF
        have sB153 := B153.size
        have hB := hB.trans (B153.mono hB.size)
        have hBA := hBA.trans (B153.mono hBA.size)
        have m3 := m3.old B153
        have m4 := m4.old B153
        have m5 := m5.old B153
        have hS := hS.below B153
        obtain ⟨cB, hcB, heB⟩ := hqB
        rw [heA, PA.2.1] at heB
        have hcB : RC w152 (fun k => k < w152.heap.size) cB yB := hcB.valid.mono (fun k hk => hk.2)
        have hBB := Below.refl w152.heap.size w152
        have sBB := hBB.size
        refine s_end ⟨hS, ?_⟩
        refine d_one 5 (some 7) (Go.Op.alloc 27) (by kernel_rfl) (by kernel_rfl) fun ty pos af => ?_
        refine s_alloc hF (by decide) zero27 fun w154 b7 a eb7 m7 B155 zb7 hF => ?_
        have sB155 := B155.size
        have hB := hB.trans (B155.mono hB.size)
        have hBA := hBA.trans (B155.mono hBA.size)
        have hBB := hBB.trans (B155.mono hBB.size)
        have m3 := m3.old B155
        have m4 := m4.old B155
        have m5 := m5.old B155
        have hS := hS.below B155
        refine s_end ⟨hS, ?_⟩
        refine d_one 6 none (Go.Op.store 27 (Go.Operand.tmp 7) (Go.Operand.tmp 40)) (by kernel_rfl) (by kernel_rfl) fun ty pos af => ?_
        refine s_putW hF rfl rfl (size_wide wide27) m7 rfl hcB.one fun w158 m7 o159 => ?_
        have so159 := o159.size
        have hB := hB.trans (o159.below (by omega))
        have hBA := hBA.trans (o159.below (by omega))
        have hBB := hBB.trans (o159.below (by omega))
        have m3 := m3.only o159 (by omega)
        have m4 := m4.only o159 (by omega)
        have m5 := m5.only o159 (by omega)
        have hS := hS.only o159 (by omega)
        refine s_end ⟨hS, ?_⟩
        refine d_end (by kernel_rfl) ?_
        exact key11 _ _ _ _ _ hB m3 m4 m5 m7 (hcB.bel hBB) heB (hF.sub _ rfl)
      · refine d_op 5 (some 7) (Go.Op.alloc 27) (by kernel_rfl) fun ty pos af => ?_
        refine s_alloc hF (by decide) zero27 fun w160 b7 a eb7 m7 B161 zb7 hF => ?_
        have sB161 := B161.size
        have hB := hB.trans (B161.mono hB.size)
        have hBA := hBA.trans (B161.mono hBA.size)
        have m3 := m3.old B161
        have m4 := m4.old B161
        have m5 := m5.old B161
        have hS := hS.below B161
        refine s_end ⟨hS, ?_⟩
        refine d_one 4 (some 40) (Go.Op.call (Go.Call.mk (Go.Callee.value (Go.Operand.func 29)) #[(Go.Operand.tmp 38), (Go.Operand.tmp 39)] #[27, 27])) (by kernel_rfl) (by kernel_rfl) fun ty pos af => ?_
        refine s_callR (R := fun r w' => ∃ y, r = tv y ∧ RE w' (AS (fun k => k ≠ b7 ∧ k < w160.heap.size) w160.heap.size) (PT.inst cA.ess v.ess) y ∧ (cA.ok ∧ v.ok ∧ (PT.put v.ess cA.ess 0).ok → Tt cA y)) [_, _] hF (enters_of Try.func29 (by kernel_rfl) rfl) rfl (by decide) (Inst42t (fun k => k ≠ b7 ∧ k < w160.heap.size) cA v yA z w160 (fun k hk => hk.2) ((hcA.keep hBA.size (fun k hk _ => hBA.block k hk)).mono (fun k hk => ⟨by omega, by omega⟩)) ((hz.keep hB.size (fun k hk _ => hB.block k hk)).mono (fun k hk => ⟨by omega, by omega⟩))) ?_
        rintro _ w162 a ⟨yB, rfl, hqB, hTB⟩ B163 hF
        have sB163 := B163.size
        have hB := hB.trans (B163.mono hB.size)
        have hBA := hBA.trans (B163.mono hBA.size)
        have m3 := m3.old B163
        have m4 := m4.old B163
        have m5 := m5.old B163
        have m7 := m7.old B163
        have hS := hS.below B163
        obtain ⟨cB, hcB, heB⟩ := hqB
        rw [heA, PA.2.1] at heB
        have hcB : RC w162 (fun k => k ≠ b7) cB yB := hcB.mono (fun k hk => by rcases hk with hk | hk; (· exact hk.1); omega)
        refine s_end ⟨hS, ?_⟩
        refine d_one 6 none (Go.Op.store 27 (Go.Operand.tmp 7) (Go.Operand.tmp 40)) (by kernel_rfl) (by kernel_rfl) fun ty pos af => ?_
        refine s_putW hF rfl rfl (size_wide wide27) m7 rfl hcB.one fun w166 m7 o167 => ?_
        have so167 := o167.size
        have hB := hB.trans (o167.below (by omega))
        have hBA := hBA.trans (o167.below (by omega))
        have m3 := m3.only o167 (by omega)
        have m4 := m4.only o167 (by omega)
        have m5 := m5.only o167 (by omega)
        have hS := hS.only o167 (by omega)
        have hcB := hcB.only o167 (fun h => h rfl)
        refine s_end ⟨hS, ?_⟩
        refine d_end (by kernel_rfl) ?_
        exact key11 _ _ _ _ _ hB m3 m4 m5 m7 (hcB.valid.mono (fun k hk => hk.2)) heB (hF.sub _ rfl)
    · refine d_op 5 (some 7) (Go.Op.alloc 27) (by kernel_rfl) fun ty pos af => ?_
      refine s_alloc hF (by decide) zero27 fun w168 b7 a eb7 m7 B169 zb7 hF => ?_
      have sB169 := B169.size
      have hB := hB.trans (B169.mono hB.size)
      have m3 := m3.old B169
      have m4 := m4.old B169
      have m5 := m5.old B169
      have hS := hS.below B169
      refine s_end ⟨hS, ?_⟩
      refine d_one 2 (some 38) (Go.Op.call (Go.Call.mk (Go.Callee.value (Go.Operand.func 29)) #[(Go.Operand.tmp 36), (Go.Operand.tmp 37)] #[27, 27])) (by kernel_rfl) (by kernel_rfl) fun ty pos af => ?_
      refine s_callR (R := fun r w' => ∃ y, r = tv y ∧ RE w' (AS (fun k => k ≠ b7 ∧ k < w168.heap.size) w168.heap.size) (PT.inst t.ess u.ess) y ∧ (t.ok ∧ u.ok ∧ (PT.put u.ess t.ess 0).ok → Tt t y)) [_, _] hF (enters_of Try.func29 (by kernel_rfl) rfl) rfl (by decide) (Inst42t (fun k => k ≠ b7 ∧ k < w168.heap.size) t u x y w168 (fun k hk => hk.2) ((hx.keep hB.size (fun k hk _ => hB.block k hk)).mono (fun k hk => ⟨by omega, by omega⟩)) ((hy.keep hB.size (fun k hk _ => hB.block k hk)).mono (fun k hk => ⟨by omega, by omega⟩))) ?_
      rintro _ w170 a ⟨yA, rfl, hqA, hTA⟩ B171 hF
      have sB171 := B171.size
      have hB := hB.trans (B171.mono hB.size)
      have m3 := m3.old B171
      have m4 := m4.old B171
      have m5 := m5.old B171
      have m7 := m7.old B171
      have hS := hS.below B171
      obtain ⟨cA, hcA, heA⟩ := hqA
      rw [PA.1] at heA
      have hcA : RC w170 (fun k => k ≠ b7) cA yA := hcA.mono (fun k hk => by rcases hk with hk | hk; (· exact hk.1); omega)
      refine s_end ⟨hS, ?_⟩
      refine d_one 4 (some 40) (Go.Op.call (Go.Call.mk (Go.Callee.value (Go.Operand.func 29)) #[(Go.Operand.tmp 38), (Go.Operand.tmp 39)] #[27, 27])) (by kernel_rfl) (by kernel_rfl) fun ty pos af => ?_
      refine s_callR (R := fun r w' => ∃ y, r = tv y ∧ RE w' (AS (fun k => k ≠ b7 ∧ k < w170.heap.size) w170.heap.size) (PT.inst cA.ess v.ess) y ∧ (cA.ok ∧ v.ok ∧ (PT.put v.ess cA.ess 0).ok → Tt cA y)) [_, _] hF (enters_of Try.func29 (by kernel_rfl) rfl) rfl (by decide) (Inst42t (fun k => k ≠ b7 ∧ k < w170.heap.size) cA v yA z w170 (fun k hk => hk.2) (hcA.valid) ((hz.keep hB.size (fun k hk _ => hB.block k hk)).mono (fun k hk => ⟨by omega, by omega⟩))) ?_
      rintro _ w172 a ⟨yB, rfl, hqB, hTB⟩ B173 hF
      have sB173 := B173.size
      have hB := hB.trans (B173.mono hB.size)
      have m3 := m3.old B173
      have m4 := m4.old B173
      have m5 := m5.old B173
      have m7 := m7.old B173
      have hS := hS.below B173
      have hcA := hcA.below B173
      obtain ⟨cB, hcB, heB⟩ := hqB
      rw [heA, PA.2.1] at heB
      have hcB : RC w172 (fun k => k ≠ b7) cB yB := hcB.mono (fun k hk => by rcases hk with hk | hk; (· exact hk.1); omega)
      refine s_end ⟨hS, ?_⟩
      refine d_one 6 none (Go.Op.store 27 (Go.Operand.tmp 7) (Go.Operand.tmp 40)) (by kernel_rfl) (by kernel_rfl) fun ty pos af => ?_
      refine s_putW hF rfl rfl (size_wide wide27) m7 rfl hcB.one fun w176 m7 o177 => ?_
      have so177 := o177.size
      have hB := hB.trans (o177.below (by omega))
      have m3 := m3.only o177 (by omega)
      have m4 := m4.only o177 (by omega)
      have m5 := m5.only o177 (by omega)
      have hS := hS.only o177 (by omega)
      have hcA := hcA.only o177 (fun h => h rfl)
      have hcB := hcB.only o177 (fun h => h rfl)
      refine s_end ⟨hS, ?_⟩
      refine d_end (by kernel_rfl) ?_
      exact key11 _ _ _ _ _ hB m3 m4 m5 m7 (hcB.valid.mono (fun k hk => hk.2)) heB (hF.sub _ rfl)
end Go.Proofs.Ytaclncmkdpjnlaa

namespace Go.Proofs.Ytaclncmkdpjnlaa
open Go.RowKit Go.Shelf Go.ChangeShapes Go.WideShapes
set_option linter.unusedVariables false
set_option linter.unusedSimpArgs false

section
variable {α : Type} {encA : α → List Value} {k : Nat}
theorem gfm_len : ∀ (xs : List α), (∀ x ∈ xs, (encA x).length = k) → (xs.flatMap encA).length = xs.length * k
  | [], _ => by simp
  | x :: xs, h => by
    rw [List.flatMap_cons, List.length_append, h x (by simp), gfm_len xs (fun y hy => h y (by simp [hy])), List.length_cons, Nat.succ_mul, Nat.add_comm]
theorem gfm_inv (hk : 0 < k) : ∀ (xs : List α) (j : Nat) (u : Value), (∀ x ∈ xs, (encA x).length = k) → (xs.flatMap encA)[j]? = some u → ∃ x, xs[j / k]? = some x ∧ (encA x)[j % k]? = some u
  | [], j, u, _, h => by simp at h
  | c :: xs, j, u, h32, h => by
    have h0 : (encA c).length = k := h32 c (by simp)
    rw [List.flatMap_cons] at h
    by_cases hj : j < k
    · rw [List.getElem?_append_left (by omega)] at h
      exact ⟨c, by rw [Nat.div_eq_of_lt hj]; rfl, by rw [Nat.mod_eq_of_lt hj]; exact h⟩
    · rw [List.getElem?_append_right (by omega), h0] at h
      obtain ⟨x, h1, h2⟩ := gfm_inv hk xs (j - k) u (fun y hy => h32 y (by simp [hy])) h
      have hkj : k ≤ j := by omega
      have e1 : j / k = (j - k) / k + 1 := Nat.div_eq_sub_div hk hkj
      have e2 : j % k = (j - k) % k := Nat.mod_eq_sub_mod hkj
      exact ⟨x, by rw [e1]; simpa using h1, by rw [e2]; exact h2⟩
end
end Go.Proofs.Ytaclncmkdpjnlaa

namespace Go.Proofs.Ytaclncmkdpjnlaa
open Go.RowKit Go.Shelf Go.ChangeShapes Go.WideShapes
set_option maxRecDepth 100000
set_option linter.unusedVariables false
set_option linter.unusedSimpArgs false

theorem cells24 : Try.prog.cellsOf 24 = 3 := by kernel_rfl
theorem cells3 : Try.prog.cellsOf 3 = 1 := by kernel_rfl
theorem cells22 : Try.prog.cellsOf 22 = 1 := by kernel_rfl
theorem okWide_str {P : Program} {w : World} {r : Reach} {base : Nat} {t : TypeId} {v : Value} {fs : Array Field} (ht : P.underlying t = some (.struct fs)) (h : Value.okWide P w r base t v) : ∃ cs, v = .agg cs ∧ cs.size = P.cellsOf t := by
  unfold Value.okWide at h
  rw [ht] at h
  obtain ⟨cs, h1, h2, _⟩ := h
  exact ⟨cs, h1, h2⟩
section
variable {H : Type} {enc : TypeId × Value → H} {w : World} {base : Nat} {spare : Nat → Bool} {held : Bool}
/-- A slice of levels, out of what its elements tell. -/
theorem open_lrow {n : Nat} {cs : List Value} {x : DataW H × List MemPlace} (good : C3 → Prop) (tell : ∀ m, m < n → ∀ cs' y, DataW.trod enc Try.prog w base spare held m 24 cs' = some y → ∃ c, good c ∧ cs' = lc c)
    (h : DataW.trod enc Try.prog w base spare held n 22 cs = some x) : ∃ a len cap, cs = [.slice a len cap] ∧ ∃ xs : List C3, Rd w (.slice a len cap) 3 xs.length (xs.flatMap lc) ∧ (∀ x ∈ xs, good x) ∧ xs.length ≤ 9223372036854775807 := by
  rcases DataW.trod_slice Try.underlying22 h with ⟨rfl, _⟩ | ⟨a, len, cap, elems, rest, m, hfu, rfl, _, _, hl, hm, hlen, hel, _, _⟩
  · exact ⟨none, 0, 0, rfl, [], Rd.nil _ _, by simp, by simp⟩
  · refine ⟨some a, len, cap, rfl, ?_⟩
    have one : ∀ i, i < len → ∃ d : C3, good d ∧ ∀ (j : Nat) u, (lc d)[j]? = some u → w.cell? ((a.add (i * 3)).add j) = some u := by
      intro i hil
      have h1 := hel i hil
      rw [List.getElem?_eq_getElem (by omega)] at h1
      obtain ⟨cs', hc', ht'⟩ := Option.bind_eq_some_iff.1 h1
      rw [cells24] at hc'
      obtain ⟨_, hcl, hat⟩ := World.cells?_some hc'
      obtain ⟨d, hd, rfl⟩ := tell m (by omega) _ _ ht'
      refine ⟨d, hd, fun j u hj => ?_⟩
      have hjl : j < 3 := (List.getElem?_eq_some_iff.1 hj).1
      have h2 := hat j (by omega)
      rw [h2, hj]
    have hml : len ≤ 9223372036854775807 := by unfold maxLen at hm; omega
    by_cases h0 : len = 0
    · subst h0
      exact ⟨[], ⟨by simp, .inl ⟨_, _, rfl, rfl, fun h => by cases h⟩⟩, by simp, by simp⟩
    · obtain ⟨b, off, spot⟩ := a
      obtain ⟨d0, hd0, hx0⟩ := one 0 (by omega)
      have hc0 := hx0 0 _ (List.getElem?_eq_getElem (show 0 < (lc d0).length by simp [lc]))
      have hspot : spot = none := by simpa [Addr.add] using World.cell?_spot hc0
      subst hspot
      have hb : b < w.heap.size := by
        have := World.block_lt_of_cell? w _ hc0
        rwa [addr_addn, addr_addn] at this
      have all : ∀ q, q ≤ len → ∃ ds : List C3, ds.length = q ∧ (∀ d ∈ ds, good d) ∧ ∀ i d, ds[i]? = some d → ∀ (j : Nat) u, (lc d)[j]? = some u → w.cell? ⟨b, off + i * 3 + j, none⟩ = some u := by
        intro q
        induction q with
        | zero => exact fun _ => ⟨[], rfl, by simp, by simp⟩
        | succ q ih =>
          intro hq
          obtain ⟨ds, h1, h2, h3⟩ := ih (by omega)
          obtain ⟨d, hd, hx⟩ := one q (by omega)
          refine ⟨ds ++ [d], by simp [h1], fun e he => ?_, fun i e he j u hj => ?_⟩
          · rcases List.mem_append.1 he with he | he
            · exact h2 e he
            · simp at he; subst he; exact hd
          · rw [List.getElem?_append] at he
            split at he
            · exact h3 i e he j u hj
            · next hge =>
              have hik : i = q := by
                have := (List.getElem?_eq_some_iff.1 he).1
                simp at this
                omega
              subst hik
              simp [h1] at he
              subst he
              have := hx j u hj
              rwa [addr_addn, addr_addn] at this
      obtain ⟨ds, h1, h2, h3⟩ := all len (Nat.le_refl _)
      refine ⟨ds, ⟨gfm_len (k := 3) ds (fun d hd => by simp [lc]), .inr ⟨b, off, cap, by rw [h1], by omega, hb, fun j u hj => ?_⟩⟩, h2, by omega⟩
      obtain ⟨d, e1, e2⟩ := gfm_inv (k := 3) (by decide) ds j u (fun d hd => by simp [lc]) hj
      have := h3 _ d e1 _ u e2
      have hdm := Nat.div_add_mod j 3
      rwa [show off + j / 3 * 3 + j % 3 = off + j by omega] at this
theorem rl_list {W : World} : ∀ (xs : List C3), (∀ x ∈ xs, ∃ l, RL W x l) → ∃ ls : List Lv, xs.length = ls.length ∧ ∀ (i : Nat) x l, xs[i]? = some x → ls[i]? = some l → RL W x l
  | [], _ => ⟨[], rfl, fun i x l h => by simp at h⟩
  | x :: xs, h => by
    obtain ⟨l, hl⟩ := h x (by simp)
    obtain ⟨ls, h1, h2⟩ := rl_list xs (fun y hy => h y (by simp [hy]))
    refine ⟨l :: ls, by simp [h1], fun i y m e1 e2 => ?_⟩
    cases i with
    | zero => simp at e1 e2; subst e1 e2; exact hl
    | succ i => exact h2 i y m (by simpa using e1) (by simpa using e2)
theorem open_lvl : ∀ (fuel : Nat) (cs : List Value) (x : DataW H × List MemPlace), DataW.trod enc Try.prog w base spare held fuel 24 cs = some x → ∃ c, (∃ l, RL w c l) ∧ cs = lc c := by
  intro fuel
  induction fuel using Nat.strongRecOn with
  | ind fuel ih =>
    intro cs x h
    obtain ⟨xs, n, hfu, _, hl, hlen, hf⟩ := DataW.trod_struct Try.underlying24 h
    rw [cells24] at hl
    have h0 : DataW.trod enc Try.prog w base spare held n 3 ((cs.drop 0).take (Try.prog.cellsOf 3)) = xs[0]? := hf 0 _ rfl
    have h1 : DataW.trod enc Try.prog w base spare held n 3 ((cs.drop 1).take (Try.prog.cellsOf 3)) = xs[1]? := hf 1 _ rfl
    have h2 : DataW.trod enc Try.prog w base spare held n 22 ((cs.drop 2).take (Try.prog.cellsOf 22)) = xs[2]? := hf 2 _ rfl
    rw [cells3] at h0 h1
    rw [cells22] at h2
    rw [List.getElem?_eq_getElem (by rw [hlen]; decide)] at h0 h1 h2
    match cs, hl with
    | [c0, c1, c2], _ =>
      simp only [List.drop_zero, List.drop_succ_cons, List.take_succ_cons, List.take_zero] at h0 h1 h2
      obtain ⟨z0, e0, _, _⟩ := DataW.trod_int Try.underlying3 h0
      obtain ⟨z1, e1, _, _⟩ := DataW.trod_int Try.underlying3 h1
      obtain ⟨a, len, cap, e2, ys, hR, hg, _⟩ := open_lrow (fun c => ∃ l, RL w c l) (fun m hm cs' y hy => ih m (by omega) cs' y hy) h2
      simp only [List.cons.injEq, and_true] at e0 e1 e2
      subst e0 e1 e2
      obtain ⟨ls, g1, g2⟩ := rl_list ys hg
      exact ⟨(z0, z1, .slice a len cap), ⟨.mk z0 z1 ls, .mk hR g1 g2⟩, rfl⟩
end
end Go.Proofs.Ytaclncmkdpjnlaa

namespace Go.Proofs.Ytaclncmkdpjnlaa
open Go.RowKit Go.Shelf Go.ChangeShapes Go.WideShapes
set_option maxRecDepth 100000
set_option linter.unusedVariables false
set_option linter.unusedSimpArgs false
theorem cells27 : Try.prog.cellsOf 27 = 8 := by kernel_rfl
theorem cells25 : Try.prog.cellsOf 25 = 1 := by kernel_rfl
theorem cells9 : Try.prog.cellsOf 9 = 1 := by kernel_rfl
theorem in64_of {n : Int} (h : (Lit.int .i64 n).wf = true) : in64 n := by
  have h2 : IntKind.i64.min = -9223372036854775808 := by decide
  have h3 : IntKind.i64.max = 9223372036854775807 := by decide
  simp only [Lit.wf, h2, h3, Bool.and_eq_true, decide_eq_true_eq] at h
  unfold in64
  omega
section
variable {H : Type} {enc : TypeId × Value → H} {w : World} {base : Nat} {spare : Nat → Bool} {held : Bool}
/-- A slice of terms, out of what its elements tell. -/
theorem open_trow {n : Nat} {cs : List Value} {x : DataW H × List MemPlace} (good : C8 → Prop) (tell : ∀ m, m < n → ∀ cs' y, DataW.trod enc Try.prog w base spare held m 27 cs' = some y → ∃ c, good c ∧ cs' = tc c)
    (h : DataW.trod enc Try.prog w base spare held n 25 cs = some x) : ∃ a len cap, cs = [.slice a len cap] ∧ ∃ xs : List C8, Rd w (.slice a len cap) 8 xs.length (xs.flatMap tc) ∧ (∀ x ∈ xs, good x) ∧ xs.length ≤ 9223372036854775807 := by
  rcases DataW.trod_slice Try.underlying25 h with ⟨rfl, _⟩ | ⟨a, len, cap, elems, rest, m, hfu, rfl, _, _, hl, hm, hlen, hel, _, _⟩
  · exact ⟨none, 0, 0, rfl, [], Rd.nil _ _, by simp, by simp⟩
  · refine ⟨some a, len, cap, rfl, ?_⟩
    have one : ∀ i, i < len → ∃ d : C8, good d ∧ ∀ (j : Nat) u, (tc d)[j]? = some u → w.cell? ((a.add (i * 8)).add j) = some u := by
      intro i hil
      have h1 := hel i hil
      rw [List.getElem?_eq_getElem (by omega)] at h1
      obtain ⟨cs', hc', ht'⟩ := Option.bind_eq_some_iff.1 h1
      rw [cells27] at hc'
      obtain ⟨_, hcl, hat⟩ := World.cells?_some hc'
      obtain ⟨d, hd, rfl⟩ := tell m (by omega) _ _ ht'
      refine ⟨d, hd, fun j u hj => ?_⟩
      have hjl : j < 8 := (List.getElem?_eq_some_iff.1 hj).1
      have h2 := hat j (by omega)
      rw [h2, hj]
    have hml : len ≤ 9223372036854775807 := by unfold maxLen at hm; omega
    by_cases h0 : len = 0
    · subst h0
      exact ⟨[], ⟨by simp, .inl ⟨_, _, rfl, rfl, fun h => by cases h⟩⟩, by simp, by simp⟩
    · obtain ⟨b, off, spot⟩ := a
      obtain ⟨d0, hd0, hx0⟩ := one 0 (by omega)
      have hc0 := hx0 0 _ (List.getElem?_eq_getElem (show 0 < (tc d0).length by simp [tc]))
      have hspot : spot = none := by simpa [Addr.add] using World.cell?_spot hc0
      subst hspot
      have hb : b < w.heap.size := by
        have := World.block_lt_of_cell? w _ hc0
        rwa [addr_addn, addr_addn] at this
      have all : ∀ q, q ≤ len → ∃ ds : List C8, ds.length = q ∧ (∀ d ∈ ds, good d) ∧ ∀ i d, ds[i]? = some d → ∀ (j : Nat) u, (tc d)[j]? = some u → w.cell? ⟨b, off + i * 8 + j, none⟩ = some u := by
        intro q
        induction q with
        | zero => exact fun _ => ⟨[], rfl, by simp, by simp⟩
        | succ q ih =>
          intro hq
          obtain ⟨ds, h1, h2, h3⟩ := ih (by omega)
          obtain ⟨d, hd, hx⟩ := one q (by omega)
          refine ⟨ds ++ [d], by simp [h1], fun e he => ?_, fun i e he j u hj => ?_⟩
          · rcases List.mem_append.1 he with he | he
            · exact h2 e he
            · simp at he; subst he; exact hd
          · rw [List.getElem?_append] at he
            split at he
            · exact h3 i e he j u hj
            · next hge =>
              have hik : i = q := by
                have := (List.getElem?_eq_some_iff.1 he).1
                simp at this
                omega
              subst hik
              simp [h1] at he
              subst he
              have := hx j u hj
              rwa [addr_addn, addr_addn] at this
      obtain ⟨ds, h1, h2, h3⟩ := all len (Nat.le_refl _)
      refine ⟨ds, ⟨gfm_len (k := 8) ds (fun d hd => by simp [tc]), .inr ⟨b, off, cap, by rw [h1], by omega, hb, fun j u hj => ?_⟩⟩, h2, by omega⟩
      obtain ⟨d, e1, e2⟩ := gfm_inv (k := 8) (by decide) ds j u (fun d hd => by simp [tc]) hj
      have := h3 _ d e1 _ u e2
      have hdm := Nat.div_add_mod j 8
      rwa [show off + j / 8 * 8 + j % 8 = off + j by omega] at this

theorem rc_make {W : World} {A : Nat → Prop} {k n : Int} {s : ByteArray} {l : C3} {lv : Lv} {vl vt : Value} {ls : List Lv} {ys : List C8} (hn : in64 n) (hs : s.size ≤ 9223372036854775807) (hll : ls.length ≤ 9223372036854775807) (hl : RLn W A l lv) (hls : RVn W A vl ls) (ht : Rn W A vt 8 ys.length (ys.flatMap tc)) (hy : ∀ y ∈ ys, ∃ c, RC W A c y ∧ c.fit) : ∃ c, RC W A c ⟨k, n, s, l, vl, vt⟩ ∧ c.fit := by
  have hok : Ok W A ⟨k, n, s, l, vl, vt⟩ := ⟨⟨_, hl⟩, _, hls⟩
  by_cases h1 : k = 1
  · exact ⟨.var n ys.length, ⟨h1, rfl, hn, ⟨_, ht⟩, hok⟩, trivial⟩
  by_cases h2 : k = 2
  · exact ⟨.sort lv ys.length, ⟨h2, hl, ⟨_, ht⟩, hok⟩, trivial⟩
  by_cases h7 : k = 7
  · exact ⟨.cst s ls ys.length, ⟨h7, rfl, hls, ⟨_, ht⟩, hok⟩, ⟨hs, hll⟩⟩
  by_cases ho : arT k < 0 ∨ (ys.length : Int) < arT k
  · exact ⟨.odd k ys.length, ⟨rfl, ho, ⟨_, ht⟩, hok⟩, trivial⟩
  by_cases h5 : k = 5
  · match ys, ht, hy, ho with
    | [], _, _, ho => subst h5; simp [arT] at ho
    | [_], _, _, ho => subst h5; simp [arT] at ho
    | [_, _], _, _, ho => subst h5; simp [arT] at ho
    | y :: z :: u :: rest, ht, hy, _ =>
      obtain ⟨a, ha, fa⟩ := hy y (by simp)
      obtain ⟨b, hb, fb⟩ := hy z (by simp)
      obtain ⟨c, hc, fc⟩ := hy u (by simp)
      exact ⟨.lt a b c rest.length, ⟨h5, ⟨y, z, u, rest.flatMap tc, by simpa using ht, ha, hb, hc⟩, hok⟩, ⟨fa, fb, fc⟩⟩
  · have hk : k = 3 ∨ k = 4 ∨ k = 6 := by unfold arT at ho; omega
    have h2' : arT k = 2 := by unfold arT; omega
    match ys, ht, hy, ho with
    | [], _, _, ho => simp [h2'] at ho
    | [_], _, _, ho => simp [h2'] at ho
    | y :: z :: rest, ht, hy, _ =>
      obtain ⟨a, ha, fa⟩ := hy y (by simp)
      obtain ⟨b, hb, fb⟩ := hy z (by simp)
      exact ⟨.two k a b rest.length, ⟨rfl, hk, ⟨y, z, rest.flatMap tc, by simpa using ht, ha, hb⟩, hok⟩, ⟨fa, fb⟩⟩
theorem open_trm : ∀ (fuel : Nat) (cs : List Value) (x : DataW H × List MemPlace), DataW.trod enc Try.prog w base spare held fuel 27 cs = some x → ∃ c8, (∃ c, RC w (fun k => k < w.heap.size) c c8 ∧ c.fit) ∧ cs = tc c8 := by
  intro fuel
  induction fuel using Nat.strongRecOn with
  | ind fuel ih =>
    intro cs x h
    obtain ⟨xs, n, hfu, _, hl, hlen, hf⟩ := DataW.trod_struct Try.underlying27 h
    rw [cells27] at hl
    have h0 : DataW.trod enc Try.prog w base spare held n 3 ((cs.drop 0).take (Try.prog.cellsOf 3)) = xs[0]? := hf 0 _ rfl
    have h1 : DataW.trod enc Try.prog w base spare held n 3 ((cs.drop 1).take (Try.prog.cellsOf 3)) = xs[1]? := hf 1 _ rfl
    have h2 : DataW.trod enc Try.prog w base spare held n 9 ((cs.drop 2).take (Try.prog.cellsOf 9)) = xs[2]? := hf 2 _ rfl
    have h3 : DataW.trod enc Try.prog w base spare held n 24 ((cs.drop 3).take (Try.prog.cellsOf 24)) = xs[3]? := hf 3 _ rfl
    have h4 : DataW.trod enc Try.prog w base spare held n 22 ((cs.drop 6).take (Try.prog.cellsOf 22)) = xs[4]? := hf 4 _ rfl
    have h5 : DataW.trod enc Try.prog w base spare held n 25 ((cs.drop 7).take (Try.prog.cellsOf 25)) = xs[5]? := hf 5 _ rfl
    rw [cells3] at h0 h1
    rw [cells9] at h2
    rw [cells24] at h3
    rw [cells22] at h4
    rw [cells25] at h5
    rw [List.getElem?_eq_getElem (by rw [hlen]; decide)] at h0 h1 h2 h3 h4 h5
    match cs, hl with
    | [c0, c1, c2, c3, c4, c5, c6, c7], _ =>
      simp only [List.drop_zero, List.drop_succ_cons, List.take_succ_cons, List.take_zero] at h0 h1 h2 h3 h4 h5
      obtain ⟨z0, e0, _, _⟩ := DataW.trod_int Try.underlying3 h0
      obtain ⟨z1, e1, _, hw1⟩ := DataW.trod_int Try.underlying3 h1
      obtain ⟨s, e2, _, hs⟩ := DataW.trod_string Try.underlying9 h2
      obtain ⟨l, ⟨lv, hlv⟩, e3⟩ := open_lvl _ _ _ h3
      obtain ⟨a, len, cap, e4, lrs, hlR, hlg, hll⟩ := open_lrow (fun c => ∃ l, RL w c l) (fun m hm cs' y hy => open_lvl m cs' y hy) h4
      obtain ⟨a', len', cap', e5, ys, hR, hg, _⟩ := open_trow (fun c8 => ∃ c, RC w (fun k => k < w.heap.size) c c8 ∧ c.fit) (fun m hm cs' y hy => ih m (by omega) cs' y hy) h5
      obtain ⟨ls, g1, g2⟩ := rl_list lrs hlg
      simp only [List.cons.injEq, and_true, lc] at e0 e1 e2 e3 e4 e5
      obtain ⟨e3, e3', e3''⟩ := e3
      subst e0 e1 e2 e3 e3' e3'' e4 e5
      refine ⟨⟨z0, z1, s, l, .slice a len cap, .slice a' len' cap'⟩, rc_make (in64_of hw1) (by unfold maxLen at hs; omega) (by omega) hlv.n ⟨lrs, hlR.n, g1, fun i x l e1 e2 => (g2 i x l e1 e2).n⟩ hR.n hg, rfl⟩
end
end Go.Proofs.Ytaclncmkdpjnlaa
