/- The reference's May; whole; Loose. -/
import Derived.Test.YtaclncmkdpjnlaaTerm15
namespace Go.Proofs.Ytaclncmkdpjnlaa
open Go.RowKit Go.Shelf
set_option linter.unusedVariables false
set_option linter.unusedSimpArgs false

theorem mayK_at {vars d : Int} {ks : List CT} {i n : Nat} {k : CT} (h : ks[i]? = some k) : mayK vars (ks.drop i) d n = if (k.mayT vars d n).1 ≠ 0 then k.mayT vars d n else mayK vars (ks.drop (i + 1)) d (k.mayT vars d n).2 := by
  have hi : i < ks.length := (List.getElem?_eq_some_iff.1 h).1
  have : ks[i] = k := (List.getElem?_eq_some_iff.1 h).2
  rw [← List.getElem_cons_drop hi, this, mayK]
theorem fstErr_at {vars : Int} {ls : List Lv} {i : Nat} {l : Lv} (h : ls[i]? = some l) : fstErr vars (ls.drop i) = if (chk 32 1048576 vars 1 100 l).1 ≠ 0 then (chk 32 1048576 vars 1 100 l).1 else fstErr vars (ls.drop (i + 1)) := by
  have hi : i < ls.length := (List.getElem?_eq_some_iff.1 h).1
  have : ls[i] = l := (List.getElem?_eq_some_iff.1 h).2
  rw [← List.getElem_cons_drop hi, this, fstErr]
theorem CT.kids_arT2 {W : World} {A : Nat → Prop} {c : CT} {x : C8} (h : RC W A c x) (h2 : ¬ (arT c.kd < 0 ∨ (c.len : Int) ≠ arT c.kd)) : c.kids.length = c.len := by
  rcases CT.kids_arT h with h3 | h3 <;> omega

set_option maxRecDepth 100000 in
set_option maxHeartbeats 400000 in
theorem rmay73 (vars : Int) (w0 : World) (g : Nat) (hg : w0.heap.size ≤ g) : ∀ (N : Nat) (c : CT) (x : C8), c.size < N → RC w0 (fun k => k < w0.heap.size) c x → c.fit → ∀ (d : Int) (n : Nat) (w1 : World), 0 ≤ d → d ≤ 65 → n ≤ 400 → Below w0.heap.size w0 w1 → Blk w1 g 3 [.int .i64 (n : Int)] →
    Calls Try.prog 62 #[tv x, .int .i64 vars, .int .i64 d, .pointer (some ⟨g, 0, none⟩)] w1 fun e w' => ∃ u, e = .returned u ∧ (u = .int .i64 (c.mayT vars d n).1 ∧ Blk w' g 3 [.int .i64 (((c.mayT vars d n).2 : Nat) : Int)]) ∧ Ktw g g w1 w' := by
  intro N
  induction N with
  | zero => intro s x h; omega
  | succ N ih =>
  intro c x hN hx hfit d n w1 hd0 hd1 hn hB mg
  have hK := Ktw.refl g g w1
  have sB := hB.size
  have sK := hK.size
  have hgl := mg.lt
  have heq := mayT_eq vars c d n
  have hrg := arT_rng c.kd
  obtain ⟨av, nv, cv, hts, hle9, hlen9, hcap, hkid⟩ := hx.kids
  obtain ⟨xk, xn, xs, xl, xls, xts⟩ := x
  simp only at hts
  subst hts
  have hkd : xk = c.kd := hx.kd
  have hone := hx.one
  obtain ⟨KC, hKC⟩ : ∃ KC, KC = c.kids := ⟨_, rfl⟩
  rw [← hKC] at heq hkid hle9 hcap
  refine calls_fs 108 [(0, tv ⟨xk, xn, xs, xl, xls, .slice av nv cv⟩), (1, .int .i64 vars), (2, .int .i64 d), (3, .pointer (some ⟨g, 0, none⟩))] Try.func62 rfl rfl rfl rfl rfl fun a hF => ?_
  refine wp_rs fun K1 hK1 => ?_
  refine s_box ([.int .i64 xk, .int .i64 xn, .string xs, .int .i64 xl.1, .int .i64 xl.2.1, xl.2.2, xls, .slice av nv cv]) hF (by decide) rfl rfl fun w2 b4 a eb4 m4 B3 zb4 hF => ?_
  have sB3 := B3.size
  have hB := hB.trans (B3.mono hB.size)
  have hK := hK.below B3
  have mg := mg.old B3
  refine s_val hF (x_assign rfl) (by decide) fun a hF => ?_
  refine s_end (hK1 _ _ ?_)
  refine wp_rs fun K2 hK2 => ?_
  refine s_val hF (x_move rfl) (by decide) fun a hF => ?_
  refine s_val hF (x_nil rfl) (by decide) fun a hF => ?_
  refine s_val hF (x_load rfl (m_load flat3 (mg.cell (j := 0) rfl))) (by decide) fun a hF => ?_
  refine s_val hF (x_addn (n + 1) (by omega) (by omega) rfl rfl) (by decide) fun a hF => ?_
  refine s_val hF (x_nil rfl) (by decide) fun a hF => ?_
  refine s_put hF rfl rfl flat3 mg (by first | (simp; done) | (simp [tc, lc]; done) | decide) rfl fun w4 mg o5 => ?_
  have so5 := o5.size
  have hB := hB.trans (o5.below (by omega))
  have hK := hK.only o5 (by omega)
  have m4 := m4.only o5 (by omega)
  refine s_end (hK2 _ _ ?_)
  refine wp_seq_k fun K3 hK3 => ?_
  refine wp_block ?_
  rcases (show 64 < d ∨ (¬ 64 < d ∧ 400 < ((n + 1 : Nat) : Int)) ∨ (¬ 64 < d ∧ ¬ 400 < ((n + 1 : Nat) : Int)) by omega) with hz | hz | hz
  · have hpre : nodeErr vars d (n + 1) c = 2 := nodeErr_two (by omega)
    rw [hpre, if_pos (by decide)] at heq
    refine wp_rs fun K5 hK5 => ?_
    refine s_val hF (x_move rfl) (by decide) fun a hF => ?_
    refine s_val hF (x_gtr (b := true) (decide_eq_true (by omega)) rfl rfl) (by decide) fun a hF => ?_
    refine s_val hF (x_move rfl) (by decide) fun a hF => ?_
    refine s_grdn 23 hF rfl rfl (by decide) fun a hF => ?_
    refine s_grdn 23 hF rfl rfl (by decide) fun a hF => ?_
    refine s_grdn 23 hF rfl rfl (by decide) fun a hF => ?_
    refine s_grdn 23 hF rfl rfl (by decide) fun a hF => ?_
    refine s_val hF (x_pick (b := true) rfl rfl) (by decide) fun a hF => ?_
    refine s_val hF (x_assign rfl) (by decide) fun a hF => ?_
    refine s_end (hK5 _ _ ?_)
    refine wp_if hF rfl ?_
    refine wp_rs fun K6 hK6 => ?_
    refine s_val hF (x_assign rfl) (by decide) fun a hF => ?_
    refine s_end (hK6 _ _ ?_)
    refine wp_ret (inb_ret (then_ret (res_slot hF rfl rfl ⟨_, rfl, ⟨by rw [heq], by rw [heq]; exact mg⟩, hK⟩)))
  · have hpre : nodeErr vars d (n + 1) c = 2 := nodeErr_two (by omega)
    rw [hpre, if_pos (by decide)] at heq
    refine wp_rs fun K7 hK7 => ?_
    refine s_val hF (x_move rfl) (by decide) fun a hF => ?_
    refine s_val hF (x_gtr (b := false) (decide_eq_false (by omega)) rfl rfl) (by decide) fun a hF => ?_
    refine s_val hF (x_move rfl) (by decide) fun a hF => ?_
    refine s_grd 23 hF rfl rfl rfl ?_
    refine s_val hF (x_move rfl) (by decide) fun a hF => ?_
    refine s_grd 23 hF rfl rfl rfl ?_
    refine s_val hF (x_nil rfl) (by decide) fun a hF => ?_
    refine s_grd 23 hF rfl rfl rfl ?_
    refine s_val hF (x_load rfl (m_load flat3 (mg.cell (j := 0) rfl))) (by decide) fun a hF => ?_
    refine s_grd 23 hF rfl rfl rfl ?_
    refine s_val hF (x_gtr (b := true) (decide_eq_true (by omega)) rfl rfl) (by decide) fun a hF => ?_
    refine s_val hF (x_pick (b := false) rfl rfl) (by decide) fun a hF => ?_
    refine s_val hF (x_assign rfl) (by decide) fun a hF => ?_
    refine s_end (hK7 _ _ ?_)
    refine wp_if hF rfl ?_
    refine wp_rs fun K8 hK8 => ?_
    refine s_val hF (x_assign rfl) (by decide) fun a hF => ?_
    refine s_end (hK8 _ _ ?_)
    refine wp_ret (inb_ret (then_ret (res_slot hF rfl rfl ⟨_, rfl, ⟨by rw [heq], by rw [heq]; exact mg⟩, hK⟩)))
  · skip
    refine wp_rs fun K9 hK9 => ?_
    refine s_val hF (x_move rfl) (by decide) fun a hF => ?_
    refine s_val hF (x_gtr (b := false) (decide_eq_false (by omega)) rfl rfl) (by decide) fun a hF => ?_
    refine s_val hF (x_move rfl) (by decide) fun a hF => ?_
    refine s_grd 23 hF rfl rfl rfl ?_
    refine s_val hF (x_move rfl) (by decide) fun a hF => ?_
    refine s_grd 23 hF rfl rfl rfl ?_
    refine s_val hF (x_nil rfl) (by decide) fun a hF => ?_
    refine s_grd 23 hF rfl rfl rfl ?_
    refine s_val hF (x_load rfl (m_load flat3 (mg.cell (j := 0) rfl))) (by decide) fun a hF => ?_
    refine s_grd 23 hF rfl rfl rfl ?_
    refine s_val hF (x_gtr (b := false) (decide_eq_false (by omega)) rfl rfl) (by decide) fun a hF => ?_
    refine s_val hF (x_pick (b := false) rfl rfl) (by decide) fun a hF => ?_
    refine s_val hF (x_assign rfl) (by decide) fun a hF => ?_
    refine s_end (hK9 _ _ ?_)
    refine wp_if hF rfl ?_
    rcases (show arT c.kd < 0 ∨ (¬ arT c.kd < 0 ∧ (nv : Int) ≠ arT c.kd) ∨ (¬ arT c.kd < 0 ∧ (nv : Int) = arT c.kd) by omega) with hy | hy | hy
    · have hpre : nodeErr vars d (n + 1) c = 1 := nodeErr_one (by omega) (by omega)
      rw [hpre, if_pos (by decide)] at heq
      refine dk2_seq (w4.heap.size) (w4.heap.size) (ops := regOps Try.f62 4) (N := 14) (by kernel_rfl) wide_orders (by kernel_rfl) fun w6 hw6 B7 hS K11 hK11 => ?_
      have zw6 : w6.heap.size = w4.heap.size := by rw [hw6]
      have sB7 := B7.size
      have hB := hB.trans (B7.mono hB.size)
      have hK := hK.below B7
      have mg := mg.old B7
      have m4 := m4.old B7
      have mg_d := mg
      have m4_d := m4
      have hB_d := hB
      have hK_d := hK
      refine d_val 0 30 (op := (Go.Op.fieldAddr 27 (Go.Operand.tmp 4) 0)) hF hS (by kernel_rfl) (fun W hW => x_fa0 fa27_0 rfl) (by kernel_rfl) (by decide) fun a hF => ?_
      refine d_val 1 31 (op := (Go.Op.load 3 (Go.Operand.tmp 30))) hF hS (by kernel_rfl) (fun W hW => x_load rfl (m_load flat3 ((m4_d.k2 hW (by omega)).cell (j := 0) rfl))) (by kernel_rfl) (by decide) fun a hF => ?_
      refine d_one 2 (some 32) (Go.Op.call (Go.Call.mk (Go.Callee.value (Go.Operand.func 87)) #[(Go.Operand.tmp 31)] #[3])) (by kernel_rfl) (by kernel_rfl) fun ty pos af => ?_
      refine s_callS [_] hF (enters_of Try.func87 (by kernel_rfl) rfl) rfl (by decide) ((kids54 xk w6).mono fun e w' h => ⟨(by rw [h.1, hkd] : e = .returned (.int .i64 (arT c.kd))), h.2⟩) fun a hF => ?_
      refine s_end ⟨hS, ?_⟩
      refine d_val 3 33 (op := (Go.Op.binOp Go.BinOp.lss 3 (Go.Operand.tmp 32) (Go.Operand.const (Go.Value.int Go.IntKind.i64 0)) 3)) hF hS (by kernel_rfl) (fun W hW => x_lss (b := true) (decide_eq_true (by omega)) rfl rfl) (by kernel_rfl) (by decide) fun a hF => ?_
      refine d_val 4 34 (op := (Go.Op.move (Go.Operand.tmp 33))) hF hS (by kernel_rfl) (fun W hW => x_move rfl) (by kernel_rfl) (by decide) fun a hF => ?_
      refine d_skip 5 35 34 (j := 4) (want := false) (op := (Go.Op.fieldAddr 27 (Go.Operand.tmp 4) 5)) hF hS (by kernel_rfl) (by kernel_rfl) rfl (by kernel_rfl) (by decide) fun a hF => ?_
      refine d_skip 6 36 34 (j := 4) (want := false) (op := (Go.Op.load 25 (Go.Operand.tmp 35))) hF hS (by kernel_rfl) (by kernel_rfl) rfl (by kernel_rfl) (by decide) fun a hF => ?_
      refine d_skip 7 37 34 (j := 4) (want := false) (op := (Go.Op.call (Go.Call.mk (Go.Callee.builtin Go.Builtin.len) #[(Go.Operand.tmp 36)] #[25]))) hF hS (by kernel_rfl) (by kernel_rfl) rfl (by kernel_rfl) (by decide) fun a hF => ?_
      refine d_skip 8 38 34 (j := 4) (want := false) (op := (Go.Op.fieldAddr 27 (Go.Operand.tmp 4) 0)) hF hS (by kernel_rfl) (by kernel_rfl) rfl (by kernel_rfl) (by decide) fun a hF => ?_
      refine d_skip 9 39 34 (j := 4) (want := false) (op := (Go.Op.load 3 (Go.Operand.tmp 38))) hF hS (by kernel_rfl) (by kernel_rfl) rfl (by kernel_rfl) (by decide) fun a hF => ?_
      refine d_skip 10 40 34 (j := 4) (want := false) (op := (Go.Op.call (Go.Call.mk (Go.Callee.value (Go.Operand.func 87)) #[(Go.Operand.tmp 39)] #[3]))) hF hS (by kernel_rfl) (by kernel_rfl) rfl (by kernel_rfl) (by decide) fun a hF => ?_
      refine d_skip 11 41 34 (j := 4) (want := false) (op := (Go.Op.binOp Go.BinOp.neq 3 (Go.Operand.tmp 37) (Go.Operand.tmp 40) 3)) hF hS (by kernel_rfl) (by kernel_rfl) rfl (by kernel_rfl) (by decide) fun a hF => ?_
      refine d_val 12 42 (op := (Go.Op.pick (Go.Operand.tmp 34) (Go.Operand.const (Go.Value.bool true)) (Go.Operand.tmp 41))) hF hS (by kernel_rfl) (fun W hW => x_pick (b := true) rfl rfl) (by kernel_rfl) (by decide) fun a hF => ?_
      refine d_val 13 29 (op := (Go.Op.assign (Go.Operand.tmp 42))) hF hS (by kernel_rfl) (fun W hW => x_assign rfl) (by kernel_rfl) (by decide) fun a hF => ?_
      refine d_end (by kernel_rfl) (hK11 _ _ ?_)
      refine wp_if hF rfl ?_
      refine wp_rs fun K12 hK12 => ?_
      refine s_val hF (x_assign rfl) (by decide) fun a hF => ?_
      refine s_end (hK12 _ _ ?_)
      refine wp_ret (inb_ret (then_ret (res_slot hF rfl rfl ⟨_, rfl, ⟨by rw [heq], by rw [heq]; exact mg⟩, hK⟩)))
    · have hpre : nodeErr vars d (n + 1) c = 1 := nodeErr_one (by omega) (by omega)
      rw [hpre, if_pos (by decide)] at heq
      refine dk2_seq (w4.heap.size) (w4.heap.size) (ops := regOps Try.f62 4) (N := 14) (by kernel_rfl) wide_orders (by kernel_rfl) fun w8 hw8 B9 hS K13 hK13 => ?_
      have zw8 : w8.heap.size = w4.heap.size := by rw [hw8]
      have sB9 := B9.size
      have hB := hB.trans (B9.mono hB.size)
      have hK := hK.below B9
      have mg := mg.old B9
      have m4 := m4.old B9
      have mg_d := mg
      have m4_d := m4
      have hB_d := hB
      have hK_d := hK
      refine d_val 0 30 (op := (Go.Op.fieldAddr 27 (Go.Operand.tmp 4) 0)) hF hS (by kernel_rfl) (fun W hW => x_fa0 fa27_0 rfl) (by kernel_rfl) (by decide) fun a hF => ?_
      refine d_val 1 31 (op := (Go.Op.load 3 (Go.Operand.tmp 30))) hF hS (by kernel_rfl) (fun W hW => x_load rfl (m_load flat3 ((m4_d.k2 hW (by omega)).cell (j := 0) rfl))) (by kernel_rfl) (by decide) fun a hF => ?_
      refine d_one 2 (some 32) (Go.Op.call (Go.Call.mk (Go.Callee.value (Go.Operand.func 87)) #[(Go.Operand.tmp 31)] #[3])) (by kernel_rfl) (by kernel_rfl) fun ty pos af => ?_
      refine s_callS [_] hF (enters_of Try.func87 (by kernel_rfl) rfl) rfl (by decide) ((kids54 xk w8).mono fun e w' h => ⟨(by rw [h.1, hkd] : e = .returned (.int .i64 (arT c.kd))), h.2⟩) fun a hF => ?_
      refine s_end ⟨hS, ?_⟩
      refine d_val 3 33 (op := (Go.Op.binOp Go.BinOp.lss 3 (Go.Operand.tmp 32) (Go.Operand.const (Go.Value.int Go.IntKind.i64 0)) 3)) hF hS (by kernel_rfl) (fun W hW => x_lss (b := false) (decide_eq_false (by omega)) rfl rfl) (by kernel_rfl) (by decide) fun a hF => ?_
      refine d_val 4 34 (op := (Go.Op.move (Go.Operand.tmp 33))) hF hS (by kernel_rfl) (fun W hW => x_move rfl) (by kernel_rfl) (by decide) fun a hF => ?_
      refine d_valg 5 35 34 (j := 4) (want := false) (op := (Go.Op.fieldAddr 27 (Go.Operand.tmp 4) 5)) hF hS (by kernel_rfl) (by kernel_rfl) rfl (fun W hW => x_fa0 fa27_5 rfl) (by kernel_rfl) (by decide) fun a hF => ?_
      refine d_valg 6 36 34 (j := 4) (want := false) (op := (Go.Op.load 25 (Go.Operand.tmp 35))) hF hS (by kernel_rfl) (by kernel_rfl) rfl (fun W hW => x_load rfl (m_load flat25 ((m4_d.k2 hW (by omega)).cell (j := 7) rfl))) (by kernel_rfl) (by decide) fun a hF => ?_
      refine d_valg 7 37 34 (j := 4) (want := false) (op := (Go.Op.call (Go.Call.mk (Go.Callee.builtin Go.Builtin.len) #[(Go.Operand.tmp 36)] #[25]))) hF hS (by kernel_rfl) (by kernel_rfl) rfl (fun W hW => x_len Try.underlying25 rfl) (by kernel_rfl) (by decide) fun a hF => ?_
      refine d_valg 8 38 34 (j := 4) (want := false) (op := (Go.Op.fieldAddr 27 (Go.Operand.tmp 4) 0)) hF hS (by kernel_rfl) (by kernel_rfl) rfl (fun W hW => x_fa0 fa27_0 rfl) (by kernel_rfl) (by decide) fun a hF => ?_
      refine d_valg 9 39 34 (j := 4) (want := false) (op := (Go.Op.load 3 (Go.Operand.tmp 38))) hF hS (by kernel_rfl) (by kernel_rfl) rfl (fun W hW => x_load rfl (m_load flat3 ((m4_d.k2 hW (by omega)).cell (j := 0) rfl))) (by kernel_rfl) (by decide) fun a hF => ?_
      refine d_oneg 10 34 (some 40) (Go.Op.call (Go.Call.mk (Go.Callee.value (Go.Operand.func 87)) #[(Go.Operand.tmp 39)] #[3])) (j := 4) (want := false) hF (by kernel_rfl) (by kernel_rfl) (by kernel_rfl) rfl fun ty pos af => ?_
      refine s_callS [_] hF (enters_of Try.func87 (by kernel_rfl) rfl) rfl (by decide) ((kids54 xk w8).mono fun e w' h => ⟨(by rw [h.1, hkd] : e = .returned (.int .i64 (arT c.kd))), h.2⟩) fun a hF => ?_
      refine s_end ⟨hS, ?_⟩
      refine d_valg 11 41 34 (j := 4) (want := false) (op := (Go.Op.binOp Go.BinOp.neq 3 (Go.Operand.tmp 37) (Go.Operand.tmp 40) 3)) hF hS (by kernel_rfl) (by kernel_rfl) rfl (fun W hW => x_neq (b := true) (decide_eq_true (by omega)) rfl rfl) (by kernel_rfl) (by decide) fun a hF => ?_
      refine d_val 12 42 (op := (Go.Op.pick (Go.Operand.tmp 34) (Go.Operand.const (Go.Value.bool true)) (Go.Operand.tmp 41))) hF hS (by kernel_rfl) (fun W hW => x_pick (b := false) rfl rfl) (by kernel_rfl) (by decide) fun a hF => ?_
      refine d_val 13 29 (op := (Go.Op.assign (Go.Operand.tmp 42))) hF hS (by kernel_rfl) (fun W hW => x_assign rfl) (by kernel_rfl) (by decide) fun a hF => ?_
      refine d_end (by kernel_rfl) (hK13 _ _ ?_)
      refine wp_if hF rfl ?_
      refine wp_rs fun K14 hK14 => ?_
      refine s_val hF (x_assign rfl) (by decide) fun a hF => ?_
      refine s_end (hK14 _ _ ?_)
      refine wp_ret (inb_ret (then_ret (res_slot hF rfl rfl ⟨_, rfl, ⟨by rw [heq], by rw [heq]; exact mg⟩, hK⟩)))
    · skip
      refine dk2_seq (w4.heap.size) (w4.heap.size) (ops := regOps Try.f62 4) (N := 14) (by kernel_rfl) wide_orders (by kernel_rfl) fun w10 hw10 B11 hS K15 hK15 => ?_
      have zw10 : w10.heap.size = w4.heap.size := by rw [hw10]
      have sB11 := B11.size
      have hB := hB.trans (B11.mono hB.size)
      have hK := hK.below B11
      have mg := mg.old B11
      have m4 := m4.old B11
      have mg_d := mg
      have m4_d := m4
      have hB_d := hB
      have hK_d := hK
      refine d_val 0 30 (op := (Go.Op.fieldAddr 27 (Go.Operand.tmp 4) 0)) hF hS (by kernel_rfl) (fun W hW => x_fa0 fa27_0 rfl) (by kernel_rfl) (by decide) fun a hF => ?_
      refine d_val 1 31 (op := (Go.Op.load 3 (Go.Operand.tmp 30))) hF hS (by kernel_rfl) (fun W hW => x_load rfl (m_load flat3 ((m4_d.k2 hW (by omega)).cell (j := 0) rfl))) (by kernel_rfl) (by decide) fun a hF => ?_
      refine d_one 2 (some 32) (Go.Op.call (Go.Call.mk (Go.Callee.value (Go.Operand.func 87)) #[(Go.Operand.tmp 31)] #[3])) (by kernel_rfl) (by kernel_rfl) fun ty pos af => ?_
      refine s_callS [_] hF (enters_of Try.func87 (by kernel_rfl) rfl) rfl (by decide) ((kids54 xk w10).mono fun e w' h => ⟨(by rw [h.1, hkd] : e = .returned (.int .i64 (arT c.kd))), h.2⟩) fun a hF => ?_
      refine s_end ⟨hS, ?_⟩
      refine d_val 3 33 (op := (Go.Op.binOp Go.BinOp.lss 3 (Go.Operand.tmp 32) (Go.Operand.const (Go.Value.int Go.IntKind.i64 0)) 3)) hF hS (by kernel_rfl) (fun W hW => x_lss (b := false) (decide_eq_false (by omega)) rfl rfl) (by kernel_rfl) (by decide) fun a hF => ?_
      refine d_val 4 34 (op := (Go.Op.move (Go.Operand.tmp 33))) hF hS (by kernel_rfl) (fun W hW => x_move rfl) (by kernel_rfl) (by decide) fun a hF => ?_
      refine d_valg 5 35 34 (j := 4) (want := false) (op := (Go.Op.fieldAddr 27 (Go.Operand.tmp 4) 5)) hF hS (by kernel_rfl) (by kernel_rfl) rfl (fun W hW => x_fa0 fa27_5 rfl) (by kernel_rfl) (by decide) fun a hF => ?_
      refine d_valg 6 36 34 (j := 4) (want := false) (op := (Go.Op.load 25 (Go.Operand.tmp 35))) hF hS (by kernel_rfl) (by kernel_rfl) rfl (fun W hW => x_load rfl (m_load flat25 ((m4_d.k2 hW (by omega)).cell (j := 7) rfl))) (by kernel_rfl) (by decide) fun a hF => ?_
      refine d_valg 7 37 34 (j := 4) (want := false) (op := (Go.Op.call (Go.Call.mk (Go.Callee.builtin Go.Builtin.len) #[(Go.Operand.tmp 36)] #[25]))) hF hS (by kernel_rfl) (by kernel_rfl) rfl (fun W hW => x_len Try.underlying25 rfl) (by kernel_rfl) (by decide) fun a hF => ?_
      refine d_valg 8 38 34 (j := 4) (want := false) (op := (Go.Op.fieldAddr 27 (Go.Operand.tmp 4) 0)) hF hS (by kernel_rfl) (by kernel_rfl) rfl (fun W hW => x_fa0 fa27_0 rfl) (by kernel_rfl) (by decide) fun a hF => ?_
      refine d_valg 9 39 34 (j := 4) (want := false) (op := (Go.Op.load 3 (Go.Operand.tmp 38))) hF hS (by kernel_rfl) (by kernel_rfl) rfl (fun W hW => x_load rfl (m_load flat3 ((m4_d.k2 hW (by omega)).cell (j := 0) rfl))) (by kernel_rfl) (by decide) fun a hF => ?_
      refine d_oneg 10 34 (some 40) (Go.Op.call (Go.Call.mk (Go.Callee.value (Go.Operand.func 87)) #[(Go.Operand.tmp 39)] #[3])) (j := 4) (want := false) hF (by kernel_rfl) (by kernel_rfl) (by kernel_rfl) rfl fun ty pos af => ?_
      refine s_callS [_] hF (enters_of Try.func87 (by kernel_rfl) rfl) rfl (by decide) ((kids54 xk w10).mono fun e w' h => ⟨(by rw [h.1, hkd] : e = .returned (.int .i64 (arT c.kd))), h.2⟩) fun a hF => ?_
      refine s_end ⟨hS, ?_⟩
      refine d_valg 11 41 34 (j := 4) (want := false) (op := (Go.Op.binOp Go.BinOp.neq 3 (Go.Operand.tmp 37) (Go.Operand.tmp 40) 3)) hF hS (by kernel_rfl) (by kernel_rfl) rfl (fun W hW => x_neq (b := false) (decide_eq_false (by omega)) rfl rfl) (by kernel_rfl) (by decide) fun a hF => ?_
      refine d_val 12 42 (op := (Go.Op.pick (Go.Operand.tmp 34) (Go.Operand.const (Go.Value.bool true)) (Go.Operand.tmp 41))) hF hS (by kernel_rfl) (fun W hW => x_pick (b := false) rfl rfl) (by kernel_rfl) (by decide) fun a hF => ?_
      refine d_val 13 29 (op := (Go.Op.assign (Go.Operand.tmp 42))) hF hS (by kernel_rfl) (fun W hW => x_assign rfl) (by kernel_rfl) (by decide) fun a hF => ?_
      refine d_end (by kernel_rfl) (hK15 _ _ ?_)
      refine wp_if hF rfl ?_
      rcases (show (xk = 1 ∧ xn < 0) ∨ (xk = 1 ∧ ¬ xn < 0 ∧ 1048576 < xn) ∨ (xk = 1 ∧ ¬ xn < 0 ∧ ¬ 1048576 < xn) ∨ xk = 2 ∨ xk = 7 ∨ (xk ≠ 1 ∧ xk ≠ 2 ∧ xk ≠ 7) by omega) with hq | hq | hq | hq | hq | hq
      · have hlf := nodeErr_leaf (vars := vars) (n := n + 1) (d := d) (c := c) (by omega) (by omega)
        obtain ⟨z, m, rfl⟩ := hx.var_of hq.1
        have hzn : xn = z := hx.2.1
        have hle : leafErr vars (.var z m) = 1 := by simp only [leafErr]; rw [if_pos (by omega)]
        rw [hle] at hlf
        rw [hlf, if_pos (by decide)] at heq
        refine wp_rs fun K17 hK17 => ?_
        refine s_val hF (x_fa0 fa27_0 rfl) (by decide) fun a hF => ?_
        refine s_val hF (x_load rfl (m_load flat3 (m4.cell (j := 0) rfl))) (by decide) fun a hF => ?_
        refine s_val hF (x_eql (b := true) (decide_eq_true (by omega)) rfl rfl) (by decide) fun a hF => ?_
        refine s_val hF (x_move rfl) (by decide) fun a hF => ?_
        refine s_grd 47 hF rfl rfl rfl ?_
        refine s_val hF (x_fa0 fa27_1 rfl) (by decide) fun a hF => ?_
        refine s_grd 47 hF rfl rfl rfl ?_
        refine s_val hF (x_load rfl (m_load flat3 (m4.cell (j := 1) rfl))) (by decide) fun a hF => ?_
        refine s_grd 47 hF rfl rfl rfl ?_
        refine s_val hF (x_lss (b := true) (decide_eq_true (by omega)) rfl rfl) (by decide) fun a hF => ?_
        refine s_grd 47 hF rfl rfl rfl ?_
        refine s_val hF (x_move rfl) (by decide) fun a hF => ?_
        refine s_grdn 51 hF rfl rfl (by decide) fun a hF => ?_
        refine s_grdn 51 hF rfl rfl (by decide) fun a hF => ?_
        refine s_grdn 51 hF rfl rfl (by decide) fun a hF => ?_
        refine s_grd 47 hF rfl rfl rfl ?_
        refine s_val hF (x_pick (b := true) rfl rfl) (by decide) fun a hF => ?_
        refine s_val hF (x_pick (b := true) rfl rfl) (by decide) fun a hF => ?_
        refine s_val hF (x_assign rfl) (by decide) fun a hF => ?_
        refine s_end (hK17 _ _ ?_)
        refine wp_if hF rfl ?_
        refine wp_rs fun K18 hK18 => ?_
        refine s_val hF (x_assign rfl) (by decide) fun a hF => ?_
        refine s_end (hK18 _ _ ?_)
        refine wp_ret (inb_ret (then_ret (res_slot hF rfl rfl ⟨_, rfl, ⟨by rw [heq], by rw [heq]; exact mg⟩, hK⟩)))
      · have hlf := nodeErr_leaf (vars := vars) (n := n + 1) (d := d) (c := c) (by omega) (by omega)
        obtain ⟨z, m, rfl⟩ := hx.var_of hq.1
        have hzn : xn = z := hx.2.1
        have hle : leafErr vars (.var z m) = 1 := by simp only [leafErr]; rw [if_pos (by omega)]
        rw [hle] at hlf
        rw [hlf, if_pos (by decide)] at heq
        refine wp_rs fun K19 hK19 => ?_
        refine s_val hF (x_fa0 fa27_0 rfl) (by decide) fun a hF => ?_
        refine s_val hF (x_load rfl (m_load flat3 (m4.cell (j := 0) rfl))) (by decide) fun a hF => ?_
        refine s_val hF (x_eql (b := true) (decide_eq_true (by omega)) rfl rfl) (by decide) fun a hF => ?_
        refine s_val hF (x_move rfl) (by decide) fun a hF => ?_
        refine s_grd 47 hF rfl rfl rfl ?_
        refine s_val hF (x_fa0 fa27_1 rfl) (by decide) fun a hF => ?_
        refine s_grd 47 hF rfl rfl rfl ?_
        refine s_val hF (x_load rfl (m_load flat3 (m4.cell (j := 1) rfl))) (by decide) fun a hF => ?_
        refine s_grd 47 hF rfl rfl rfl ?_
        refine s_val hF (x_lss (b := false) (decide_eq_false (by omega)) rfl rfl) (by decide) fun a hF => ?_
        refine s_grd 47 hF rfl rfl rfl ?_
        refine s_val hF (x_move rfl) (by decide) fun a hF => ?_
        refine s_grd 51 hF rfl rfl rfl ?_
        refine s_val hF (x_fa0 fa27_1 rfl) (by decide) fun a hF => ?_
        refine s_grd 51 hF rfl rfl rfl ?_
        refine s_val hF (x_load rfl (m_load flat3 (m4.cell (j := 1) rfl))) (by decide) fun a hF => ?_
        refine s_grd 51 hF rfl rfl rfl ?_
        refine s_val hF (x_gtr (b := true) (decide_eq_true (by omega)) rfl rfl) (by decide) fun a hF => ?_
        refine s_grd 47 hF rfl rfl rfl ?_
        refine s_val hF (x_pick (b := false) rfl rfl) (by decide) fun a hF => ?_
        refine s_val hF (x_pick (b := true) rfl rfl) (by decide) fun a hF => ?_
        refine s_val hF (x_assign rfl) (by decide) fun a hF => ?_
        refine s_end (hK19 _ _ ?_)
        refine wp_if hF rfl ?_
        refine wp_rs fun K20 hK20 => ?_
        refine s_val hF (x_assign rfl) (by decide) fun a hF => ?_
        refine s_end (hK20 _ _ ?_)
        refine wp_ret (inb_ret (then_ret (res_slot hF rfl rfl ⟨_, rfl, ⟨by rw [heq], by rw [heq]; exact mg⟩, hK⟩)))
      · have hlf := nodeErr_leaf (vars := vars) (n := n + 1) (d := d) (c := c) (by omega) (by omega)
        obtain ⟨z, m, rfl⟩ := hx.var_of hq.1
        have hzn : xn = z := hx.2.1
        have hle : leafErr vars (.var z m) = 0 := by simp only [leafErr]; rw [if_neg (by omega)]
        rw [hle] at hlf
        rw [hlf, if_neg (by decide)] at heq
        have hk9 := CT.kids_arT2 hx (by omega)
        rw [← hKC] at hk9
        refine wp_rs fun K21 hK21 => ?_
        refine s_val hF (x_fa0 fa27_0 rfl) (by decide) fun a hF => ?_
        refine s_val hF (x_load rfl (m_load flat3 (m4.cell (j := 0) rfl))) (by decide) fun a hF => ?_
        refine s_val hF (x_eql (b := true) (decide_eq_true (by omega)) rfl rfl) (by decide) fun a hF => ?_
        refine s_val hF (x_move rfl) (by decide) fun a hF => ?_
        refine s_grd 47 hF rfl rfl rfl ?_
        refine s_val hF (x_fa0 fa27_1 rfl) (by decide) fun a hF => ?_
        refine s_grd 47 hF rfl rfl rfl ?_
        refine s_val hF (x_load rfl (m_load flat3 (m4.cell (j := 1) rfl))) (by decide) fun a hF => ?_
        refine s_grd 47 hF rfl rfl rfl ?_
        refine s_val hF (x_lss (b := false) (decide_eq_false (by omega)) rfl rfl) (by decide) fun a hF => ?_
        refine s_grd 47 hF rfl rfl rfl ?_
        refine s_val hF (x_move rfl) (by decide) fun a hF => ?_
        refine s_grd 51 hF rfl rfl rfl ?_
        refine s_val hF (x_fa0 fa27_1 rfl) (by decide) fun a hF => ?_
        refine s_grd 51 hF rfl rfl rfl ?_
        refine s_val hF (x_load rfl (m_load flat3 (m4.cell (j := 1) rfl))) (by decide) fun a hF => ?_
        refine s_grd 51 hF rfl rfl rfl ?_
        refine s_val hF (x_gtr (b := false) (decide_eq_false (by omega)) rfl rfl) (by decide) fun a hF => ?_
        refine s_grd 47 hF rfl rfl rfl ?_
        refine s_val hF (x_pick (b := false) rfl rfl) (by decide) fun a hF => ?_
        refine s_val hF (x_pick (b := true) rfl rfl) (by decide) fun a hF => ?_
        refine s_val hF (x_assign rfl) (by decide) fun a hF => ?_
        refine s_end (hK21 _ _ ?_)
        refine wp_if hF rfl ?_
        refine wp_rs fun K22 hK22 => ?_
        refine s_val hF (x_fa0 fa27_0 rfl) (by decide) fun a hF => ?_
        refine s_val hF (x_load rfl (m_load flat3 (m4.cell (j := 0) rfl))) (by decide) fun a hF => ?_
        refine s_val hF (x_eql (b := false) (decide_eq_false (by omega)) rfl rfl) (by decide) fun a hF => ?_
        refine s_val hF (x_assign rfl) (by decide) fun a hF => ?_
        refine s_end (hK22 _ _ ?_)
        refine wp_if hF rfl ?_
        refine wp_rs fun K23 hK23 => ?_
        refine s_val hF (x_fa0 fa27_0 rfl) (by decide) fun a hF => ?_
        refine s_val hF (x_load rfl (m_load flat3 (m4.cell (j := 0) rfl))) (by decide) fun a hF => ?_
        refine s_val hF (x_eql (b := false) (decide_eq_false (by omega)) rfl rfl) (by decide) fun a hF => ?_
        refine s_val hF (x_assign rfl) (by decide) fun a hF => ?_
        refine s_end (hK23 _ _ ?_)
        refine wp_if hF rfl ?_
        refine wp_skip (hK3 _ _ ?_)
        refine wp_seq_k fun K24 hK24 => ?_
        refine wp_rs fun K25 hK25 => ?_
        refine s_val hF (x_fa0 fa27_5 rfl) (by decide) fun a hF => ?_
        refine s_val hF (x_load rfl (m_load flat25 (m4.cell (j := 7) rfl))) (by decide) fun a hF => ?_
        refine s_val hF (x_len Try.underlying25 rfl) (by decide) fun a hF => ?_
        refine s_val hF (x_move rfl) (by decide) fun a hF => ?_
        refine s_end (hK25 _ _ ?_)
        refine wp_block ?_
        refine wp_up nv (fun i a w => ∃ n2 : Nat, mayK vars (KC.drop i) (d + 1) n2 = mayK vars KC (d + 1) (n + 1) ∧ n2 ≤ 400 ∧ Blk w g 3 [.int .i64 (n2 : Int)] ∧ Below w0.heap.size w0 w ∧ Ktw g g w1 w ∧ Fs 108 a [(1, .int .i64 vars), (2, .int .i64 d), (3, .pointer (some ⟨g, 0, none⟩)), (92, .slice av nv cv), (93, .int .i64 (nv : Int)), (94, .int .i64 (i : Int))]) ⟨n + 1, rfl, by omega, mg, hB, hK, hF.sub _ rfl⟩ ?_
        repeat clear hF
        clear hB hK mg m4
        rintro i a w hi ⟨n2, hn2, hn3, mg, hB, hK, hF⟩ K' hK'
        have sB := hB.size
        have sK := hK.size
        have hgl := mg.lt
        refine wp_rs fun K26 hK26 => ?_
        refine s_val hF (x_lss (b := decide (i < nv)) (decide_eq_decide.2 (by omega)) rfl rfl) (by decide) fun a hF => ?_
        refine s_end (hK26 _ _ ?_)
        refine wp_seq_k fun K27 hK27 => ?_
        refine wp_iff hF rfl (fun hc95 => ?_) (fun hc95 => ?_)
        · obtain ⟨b9, off9, c9, y, kd, hve, hyk, hry, hAb, hbl, hrow⟩ := hkid.row (i := i) (by omega)
          cases hve
          have hks := CT.kid_size (hKC ▸ hyk)
          have hkf := CT.fit_kid hfit (hKC ▸ hyk)
          have hma := mayK_at (vars := vars) (d := d + 1) (n := n2) hyk
          rw [hn2] at hma
          refine wp_skip (hK27 _ _ ?_)
          refine wp_seq_k fun K28 hK28 => ?_
          refine wp_block ?_
          refine wp_rs fun K29 hK29 => ?_
          refine s_val hF (x_ixa rfl rfl (m_ixsK i Try.underlying25 el25.size rfl (by omega))) (by decide) fun a hF => ?_
          refine s_val hF (x_ldA wide27 (hrow _ (hB.block _ hbl)) rfl rfl) (by decide) fun a hF => ?_
          refine s_alloc hF (by decide) zero27 fun w12 b13 a eb13 m13 B13 zb13 hF => ?_
          have sB13 := B13.size
          have hB := hB.trans (B13.mono hB.size)
          have hK := hK.below B13
          have mg := mg.old B13
          refine s_putW hF rfl rfl (size_wide wide27) m13 rfl hry.one fun w16 m13 o17 => ?_
          have so17 := o17.size
          have hB := hB.trans (o17.below (by omega))
          have hK := hK.only o17 (by omega)
          have mg := mg.only o17 (by omega)
          refine s_end (hK29 _ _ ?_)
          refine wp_rs fun K30 hK30 => ?_
          refine s_val hF (x_ldW wide27 m13 rfl rfl) (by decide) fun a hF => ?_
          refine s_val hF (x_move rfl) (by decide) fun a hF => ?_
          refine s_val hF (x_move rfl) (by decide) fun a hF => ?_
          refine s_val hF (x_add (by omega) (by omega) rfl rfl) (by decide) fun a hF => ?_
          refine s_val hF (x_move rfl) (by decide) fun a hF => ?_
          refine s_call (R := fun u w' => (u = .int .i64 (kd.mayT vars (d + 1) n2).1 ∧ Blk w' g 3 [.int .i64 (((kd.mayT vars (d + 1) n2).2 : Nat) : Int)]) ∧ Ktw g g w16 w') hF [_, _, _, _] (enters_of Try.func62 (by kernel_rfl) rfl) rfl (by decide) (ih kd y (by omega) hry hkf (d + 1) n2 w16 (by omega) (by omega) hn3 hB mg) ?_
          rintro _ w18 a ⟨⟨rfl, mg⟩, k19⟩ hF
          have sk19 := k19.size
          have hB := k19.under hB (by omega)
          have hK := hK.trans k19 (by omega)
          have m13 := m13.k2 k19 (by omega)
          refine s_val hF (x_assign rfl) (by decide) fun a hF => ?_
          refine s_end (hK30 _ _ ?_)
          refine wp_rs fun K31 hK31 => ?_
          refine s_val hF (x_move rfl) (by decide) fun a hF => ?_
          refine s_val hF (x_neq rfl rfl rfl) (by decide) fun a hF => ?_
          refine s_end (hK31 _ _ ?_)
          refine wp_iff hF rfl (fun hc105 => ?_) (fun hc105 => ?_)
          · rw [if_pos hc105] at hma
            rw [hma] at heq
            refine wp_rs fun K32 hK32 => ?_
            refine s_val hF (x_move rfl) (by decide) fun a hF => ?_
            refine s_val hF (x_assign rfl) (by decide) fun a hF => ?_
            refine s_end (hK32 _ _ ?_)
            refine wp_ret (inb_ret (then_ret (then_ret (inb_ret (then_ret (res_slot hF rfl rfl ⟨_, rfl, ⟨by rw [heq], by rw [heq]; exact mg⟩, hK⟩))))))
          · rw [if_neg hc105] at hma
            have hmz := may_zero (vars := vars) kd y (d + 1) n2 hry (by omega)
            refine wp_skip (hK28 _ _ ?_)
            refine wp_region_lit ?_
            refine s_val hF (x_addn (i + 1) (by omega) (by omega) rfl rfl) (by decide) fun a hF => ?_
            refine s_val hF (x_move rfl) (by decide) fun a hF => ?_
            refine s_end (hK' _ _ (by omega) ⟨_, hma.symm, by omega, mg, hB, hK, hF.sub _ rfl⟩)
        · obtain rfl : i = nv := by omega
          rw [List.drop_of_length_le (by omega), mayK] at hn2
          rw [← hn2] at heq
          refine wp_exit (hK24 _ _ ?_)
          refine wp_rs fun K33 hK33 => ?_
          refine s_val hF (x_assign rfl) (by decide) fun a hF => ?_
          refine s_end (hK33 _ _ ?_)
          refine wp_ret (res_slot hF rfl rfl ⟨_, rfl, ⟨by rw [heq], by rw [heq]; exact mg⟩, hK⟩)
      · obtain ⟨l, m, rfl⟩ := hx.sort_of hq
        refine wp_rs fun K34 hK34 => ?_
        refine s_val hF (x_fa0 fa27_0 rfl) (by decide) fun a hF => ?_
        refine s_val hF (x_load rfl (m_load flat3 (m4.cell (j := 0) rfl))) (by decide) fun a hF => ?_
        refine s_val hF (x_eql (b := false) (decide_eq_false (by omega)) rfl rfl) (by decide) fun a hF => ?_
        refine s_val hF (x_move rfl) (by decide) fun a hF => ?_
        refine s_grdn 47 hF rfl rfl (by decide) fun a hF => ?_
        refine s_grdn 47 hF rfl rfl (by decide) fun a hF => ?_
        refine s_grdn 47 hF rfl rfl (by decide) fun a hF => ?_
        refine s_grdn 47 hF rfl rfl (by decide) fun a hF => ?_
        refine s_grdu 51 hF rfl rfl (by decide) fun a hF => ?_
        refine s_grdu 51 hF rfl rfl (by decide) fun a hF => ?_
        refine s_grdu 51 hF rfl rfl (by decide) fun a hF => ?_
        refine s_grdn 47 hF rfl rfl (by decide) fun a hF => ?_
        refine s_val hF (x_pick (b := false) rfl rfl) (by decide) fun a hF => ?_
        refine s_val hF (x_assign rfl) (by decide) fun a hF => ?_
        refine s_end (hK34 _ _ ?_)
        refine wp_if hF rfl ?_
        refine wp_rs fun K35 hK35 => ?_
        refine s_val hF (x_fa0 fa27_0 rfl) (by decide) fun a hF => ?_
        refine s_val hF (x_load rfl (m_load flat3 (m4.cell (j := 0) rfl))) (by decide) fun a hF => ?_
        refine s_val hF (x_eql (b := true) (decide_eq_true (by omega)) rfl rfl) (by decide) fun a hF => ?_
        refine s_val hF (x_assign rfl) (by decide) fun a hF => ?_
        refine s_end (hK35 _ _ ?_)
        refine wp_if hF rfl ?_
        refine wp_rs fun K36 hK36 => ?_
        refine s_val hF (x_fa0 fa27_3 rfl) (by decide) fun a hF => ?_
        refine s_val hF (x_load rfl (m_loadP (vs := [_, _, _]) wide24 m4 rfl)) (by decide) fun a hF => ?_
        refine s_val hF (x_move rfl) (by decide) fun a hF => ?_
        have hl9 : RLn w0 _ xl l := hx.2.1
        refine s_callB [_, _] hF (enters_of Try.func42 (by kernel_rfl) rfl) rfl (by decide) (rmay14 xl l vars w10 ((hl9.keep hB.size (fun k hk _ => hB.block k hk)).rl)) fun w20 a B21 hF => ?_
        have sB21 := B21.size
        have hB := hB.trans (B21.mono hB.size)
        have hK := hK.below B21
        have mg := mg.old B21
        have m4 := m4.old B21
        refine s_val hF (x_assign rfl) (by decide) fun a hF => ?_
        refine s_end (hK36 _ _ ?_)
        have hcs : (CT.sort l m).mayT vars d n = ((chk 32 1048576 vars 1 100 l).1, n + 1) := by simp only [CT.mayT]; rw [nodeErr_leaf (by omega) (by omega)]; rfl
        refine wp_ret (inb_ret (then_ret (res_slot hF rfl rfl ⟨_, rfl, ⟨by rw [hcs], by rw [hcs]; exact mg⟩, hK⟩)))
      · have hlf := nodeErr_leaf (vars := vars) (n := n + 1) (d := d) (c := c) (by omega) (by omega)
        obtain ⟨s, ls, m, rfl⟩ := hx.cst_of hq
        have hs9 : xs = s := hx.2.1
        have hls9 : RVn w0 _ xls ls := hx.2.2.1
        obtain ⟨la, lcp, hlv, _, _⟩ := hls9.form
        subst hs9 hlv
        refine wp_rs fun K37 hK37 => ?_
        refine s_val hF (x_fa0 fa27_0 rfl) (by decide) fun a hF => ?_
        refine s_val hF (x_load rfl (m_load flat3 (m4.cell (j := 0) rfl))) (by decide) fun a hF => ?_
        refine s_val hF (x_eql (b := false) (decide_eq_false (by omega)) rfl rfl) (by decide) fun a hF => ?_
        refine s_val hF (x_move rfl) (by decide) fun a hF => ?_
        refine s_grdn 47 hF rfl rfl (by decide) fun a hF => ?_
        refine s_grdn 47 hF rfl rfl (by decide) fun a hF => ?_
        refine s_grdn 47 hF rfl rfl (by decide) fun a hF => ?_
        refine s_grdn 47 hF rfl rfl (by decide) fun a hF => ?_
        refine s_grdu 51 hF rfl rfl (by decide) fun a hF => ?_
        refine s_grdu 51 hF rfl rfl (by decide) fun a hF => ?_
        refine s_grdu 51 hF rfl rfl (by decide) fun a hF => ?_
        refine s_grdn 47 hF rfl rfl (by decide) fun a hF => ?_
        refine s_val hF (x_pick (b := false) rfl rfl) (by decide) fun a hF => ?_
        refine s_val hF (x_assign rfl) (by decide) fun a hF => ?_
        refine s_end (hK37 _ _ ?_)
        refine wp_if hF rfl ?_
        refine wp_rs fun K38 hK38 => ?_
        refine s_val hF (x_fa0 fa27_0 rfl) (by decide) fun a hF => ?_
        refine s_val hF (x_load rfl (m_load flat3 (m4.cell (j := 0) rfl))) (by decide) fun a hF => ?_
        refine s_val hF (x_eql (b := false) (decide_eq_false (by omega)) rfl rfl) (by decide) fun a hF => ?_
        refine s_val hF (x_assign rfl) (by decide) fun a hF => ?_
        refine s_end (hK38 _ _ ?_)
        refine wp_if hF rfl ?_
        refine wp_rs fun K39 hK39 => ?_
        refine s_val hF (x_fa0 fa27_0 rfl) (by decide) fun a hF => ?_
        refine s_val hF (x_load rfl (m_load flat3 (m4.cell (j := 0) rfl))) (by decide) fun a hF => ?_
        refine s_val hF (x_eql (b := true) (decide_eq_true (by omega)) rfl rfl) (by decide) fun a hF => ?_
        refine s_val hF (x_assign rfl) (by decide) fun a hF => ?_
        refine s_end (hK39 _ _ ?_)
        refine wp_if hF rfl ?_
        refine wp_seq_k fun K40 hK40 => ?_
        rcases (show nameB xs = false ∨ nameB xs = true by cases nameB xs <;> simp) with hw | hw
        · have hle : leafErr vars (.cst xs ls m) = 8 := by simp only [leafErr]; rw [if_pos hw]
          rw [hle] at hlf
          rw [hlf, if_pos (by decide)] at heq
          refine wp_rs fun K42 hK42 => ?_
          refine s_val hF (x_fa0 fa27_2 rfl) (by decide) fun a hF => ?_
          refine s_val hF (x_load rfl (m_load flat9 (m4.cell (j := 2) rfl))) (by decide) fun a hF => ?_
          refine s_callS [_] hF (enters_of Try.func28 (by kernel_rfl) rfl) rfl (by decide) ((rName32 xs w10 hfit.1).mono fun e w' h => ⟨by rw [h.1, hw], h.2⟩) fun a hF => ?_
          refine s_val hF (x_not rfl) (by decide) fun a hF => ?_
          refine s_end (hK42 _ _ ?_)
          refine wp_if hF rfl ?_
          refine wp_rs fun K43 hK43 => ?_
          refine s_val hF (x_assign rfl) (by decide) fun a hF => ?_
          refine s_end (hK43 _ _ ?_)
          refine wp_ret (then_ret (inb_ret (then_ret (res_slot hF rfl rfl ⟨_, rfl, ⟨by rw [heq], by rw [heq]; exact mg⟩, hK⟩))))
        · skip
          refine wp_rs fun K44 hK44 => ?_
          refine s_val hF (x_fa0 fa27_2 rfl) (by decide) fun a hF => ?_
          refine s_val hF (x_load rfl (m_load flat9 (m4.cell (j := 2) rfl))) (by decide) fun a hF => ?_
          refine s_callS [_] hF (enters_of Try.func28 (by kernel_rfl) rfl) rfl (by decide) ((rName32 xs w10 hfit.1).mono fun e w' h => ⟨by rw [h.1, hw], h.2⟩) fun a hF => ?_
          refine s_val hF (x_not rfl) (by decide) fun a hF => ?_
          refine s_end (hK44 _ _ ?_)
          refine wp_if hF rfl ?_
          refine wp_skip (hK40 _ _ ?_)
          refine wp_seq_k fun K45 hK45 => ?_
          rcases (show 6 < (ls.length : Int) ∨ ¬ 6 < (ls.length : Int) by omega) with hv | hv
          · have hle : leafErr vars (.cst xs ls m) = 2 := by simp only [leafErr]; rw [if_neg (by rw [hw]; decide), if_pos (by omega)]
            rw [hle] at hlf
            rw [hlf, if_pos (by decide)] at heq
            refine wp_rs fun K47 hK47 => ?_
            refine s_val hF (x_fa0 fa27_4 rfl) (by decide) fun a hF => ?_
            refine s_val hF (x_load rfl (m_load flat22 (m4.cell (j := 6) rfl))) (by decide) fun a hF => ?_
            refine s_val hF (x_len Try.underlying22 rfl) (by decide) fun a hF => ?_
            refine s_val hF (x_gtr (b := true) (decide_eq_true (by omega)) rfl rfl) (by decide) fun a hF => ?_
            refine s_end (hK47 _ _ ?_)
            refine wp_if hF rfl ?_
            refine wp_rs fun K48 hK48 => ?_
            refine s_val hF (x_assign rfl) (by decide) fun a hF => ?_
            refine s_end (hK48 _ _ ?_)
            refine wp_ret (then_ret (inb_ret (then_ret (res_slot hF rfl rfl ⟨_, rfl, ⟨by rw [heq], by rw [heq]; exact mg⟩, hK⟩))))
          · have hle0 : leafErr vars (.cst xs ls m) = fstErr vars ls := by simp only [leafErr]; rw [if_neg (by rw [hw]; decide), if_neg (by omega)]
            refine wp_rs fun K49 hK49 => ?_
            refine s_val hF (x_fa0 fa27_4 rfl) (by decide) fun a hF => ?_
            refine s_val hF (x_load rfl (m_load flat22 (m4.cell (j := 6) rfl))) (by decide) fun a hF => ?_
            refine s_val hF (x_len Try.underlying22 rfl) (by decide) fun a hF => ?_
            refine s_val hF (x_gtr (b := false) (decide_eq_false (by omega)) rfl rfl) (by decide) fun a hF => ?_
            refine s_end (hK49 _ _ ?_)
            refine wp_if hF rfl ?_
            refine wp_skip (hK45 _ _ ?_)
            refine wp_rs fun K50 hK50 => ?_
            refine s_val hF (x_fa0 fa27_4 rfl) (by decide) fun a hF => ?_
            refine s_val hF (x_load rfl (m_load flat22 (m4.cell (j := 6) rfl))) (by decide) fun a hF => ?_
            refine s_val hF (x_len Try.underlying22 rfl) (by decide) fun a hF => ?_
            refine s_val hF (x_move rfl) (by decide) fun a hF => ?_
            refine s_end (hK50 _ _ ?_)
            refine wp_block ?_
            refine wp_up ls.length (fun i a w => leafErr vars (.cst xs ls m) = fstErr vars (ls.drop i) ∧ Blk w g 3 [.int .i64 ((n + 1 : Nat) : Int)] ∧ Blk w b4 27 [.int .i64 xk, .int .i64 xn, .string xs, .int .i64 xl.1, .int .i64 xl.2.1, xl.2.2, .slice la ls.length lcp, .slice av nv cv] ∧ Below w0.heap.size w0 w ∧ Ktw g g w1 w ∧ Fs 108 a [(1, .int .i64 vars), (2, .int .i64 d), (3, .pointer (some ⟨g, 0, none⟩)), (4, .pointer (some ⟨b4, 0, none⟩)), (78, .slice la ls.length lcp), (79, .int .i64 (ls.length : Int)), (80, .int .i64 (i : Int))]) ⟨by simpa using hle0, mg, m4, hB, hK, hF.sub _ rfl⟩ ?_
            have hb4 : b4 ≠ g ∧ w1.heap.size ≤ b4 := by omega
            repeat clear hF
            clear hB hK mg m4
            rintro i a w hi ⟨hlei, mg, m4, hB, hK, hF⟩ K' hK'
            have sB := hB.size
            have sK := hK.size
            have hgl := mg.lt
            have h4l := m4.lt
            refine wp_rs fun K51 hK51 => ?_
            refine s_val hF (x_lss (b := decide (i < ls.length)) (decide_eq_decide.2 (by omega)) rfl rfl) (by decide) fun a hF => ?_
            refine s_end (hK51 _ _ ?_)
            refine wp_seq_k fun K52 hK52 => ?_
            refine wp_iff hF rfl (fun hc81 => ?_) (fun hc81 => ?_)
            · obtain ⟨b9, off9, c9, y, l, hve, hl, hry, hAb, hbl, hrow⟩ := hls9.row (i := i) (by omega)
              cases hve
              have hfe := fstErr_at (vars := vars) hl
              have h1y := hry.rl.one1
              refine wp_skip (hK52 _ _ ?_)
              refine wp_seq_k fun K53 hK53 => ?_
              refine wp_block ?_
              refine wp_rs fun K54 hK54 => ?_
              refine s_val hF (x_ixa rfl rfl (m_ixsK i Try.underlying22 el22.size rfl (by omega))) (by decide) fun a hF => ?_
              refine s_val hF (x_ldA wide24 (hrow _ (hB.block _ hbl)) rfl rfl) (by decide) fun a hF => ?_
              refine s_alloc hF (by decide) zero24 fun w22 b10 a eb10 m10 B23 zb10 hF => ?_
              have sB23 := B23.size
              have hB := hB.trans (B23.mono hB.size)
              have hK := hK.below B23
              have mg := mg.old B23
              have m4 := m4.old B23
              refine s_putW hF rfl rfl (size_wide wide24) m10 rfl (one_lc h1y) fun w26 m10 o27 => ?_
              have so27 := o27.size
              have hB := hB.trans (o27.below (by omega))
              have hK := hK.only o27 (by omega)
              have mg := mg.only o27 (by omega)
              have m4 := m4.only o27 (by omega)
              refine s_end (hK54 _ _ ?_)
              refine wp_rs fun K55 hK55 => ?_
              refine s_val hF (x_ldW wide24 m10 rfl rfl) (by decide) fun a hF => ?_
              refine s_val hF (x_move rfl) (by decide) fun a hF => ?_
              refine s_callB [_, _] hF (enters_of Try.func42 (by kernel_rfl) rfl) rfl (by decide) (rmay14 y l vars w26 ((hry.keep hB.size (fun k hk _ => hB.block k hk)).rl)) fun w28 a B29 hF => ?_
              have sB29 := B29.size
              have hB := hB.trans (B29.mono hB.size)
              have hK := hK.below B29
              have mg := mg.old B29
              have m4 := m4.old B29
              have m10 := m10.old B29
              refine s_val hF (x_assign rfl) (by decide) fun a hF => ?_
              refine s_end (hK55 _ _ ?_)
              refine wp_rs fun K56 hK56 => ?_
              refine s_val hF (x_move rfl) (by decide) fun a hF => ?_
              refine s_val hF (x_neq rfl rfl rfl) (by decide) fun a hF => ?_
              refine s_end (hK56 _ _ ?_)
              refine wp_iff hF rfl (fun hc88 => ?_) (fun hc88 => ?_)
              · rw [hfe, if_pos hc88] at hlei
                rw [hlei] at hlf
                rw [hlf, if_pos hc88] at heq
                refine wp_rs fun K57 hK57 => ?_
                refine s_val hF (x_move rfl) (by decide) fun a hF => ?_
                refine s_val hF (x_assign rfl) (by decide) fun a hF => ?_
                refine s_end (hK57 _ _ ?_)
                refine wp_ret (inb_ret (then_ret (then_ret (inb_ret (inb_ret (then_ret (res_slot hF rfl rfl ⟨_, rfl, ⟨by rw [heq], by rw [heq]; exact mg⟩, hK⟩)))))))
              · rw [hfe, if_neg hc88] at hlei
                refine wp_skip (hK53 _ _ ?_)
                refine wp_region_lit ?_
                refine s_val hF (x_addn (i + 1) (by omega) (by have := hfit.2; omega) rfl rfl) (by decide) fun a hF => ?_
                refine s_val hF (x_move rfl) (by decide) fun a hF => ?_
                refine s_end (hK' _ _ (by omega) ⟨hlei, mg, m4, hB, hK, hF.sub _ rfl⟩)
            · obtain rfl : i = ls.length := by omega
              rw [List.drop_length] at hlei
              rw [hlei] at hlf
              have hlf : nodeErr vars d (n + 1) (.cst xs ls m) = 0 := hlf
              rw [hlf, if_neg (by decide)] at heq
              have hk9 := CT.kids_arT2 hx (by omega)
              rw [← hKC] at hk9
              refine wp_exit (hK3 _ _ ?_)
              refine wp_seq_k fun K58 hK58 => ?_
              refine wp_rs fun K59 hK59 => ?_
              refine s_val hF (x_fa0 fa27_5 rfl) (by decide) fun a hF => ?_
              refine s_val hF (x_load rfl (m_load flat25 (m4.cell (j := 7) rfl))) (by decide) fun a hF => ?_
              refine s_val hF (x_len Try.underlying25 rfl) (by decide) fun a hF => ?_
              refine s_val hF (x_move rfl) (by decide) fun a hF => ?_
              refine s_end (hK59 _ _ ?_)
              refine wp_block ?_
              refine wp_up nv (fun i a w => ∃ n2 : Nat, mayK vars (KC.drop i) (d + 1) n2 = mayK vars KC (d + 1) (n + 1) ∧ n2 ≤ 400 ∧ Blk w g 3 [.int .i64 (n2 : Int)] ∧ Below w0.heap.size w0 w ∧ Ktw g g w1 w ∧ Fs 108 a [(1, .int .i64 vars), (2, .int .i64 d), (3, .pointer (some ⟨g, 0, none⟩)), (92, .slice av nv cv), (93, .int .i64 (nv : Int)), (94, .int .i64 (i : Int))]) ⟨n + 1, rfl, by omega, mg, hB, hK, hF.sub _ rfl⟩ ?_
              repeat clear hF
              clear hB hK mg m4
              rintro i a w hi ⟨n2, hn2, hn3, mg, hB, hK, hF⟩ K' hK'
              have sB := hB.size
              have sK := hK.size
              have hgl := mg.lt
              refine wp_rs fun K60 hK60 => ?_
              refine s_val hF (x_lss (b := decide (i < nv)) (decide_eq_decide.2 (by omega)) rfl rfl) (by decide) fun a hF => ?_
              refine s_end (hK60 _ _ ?_)
              refine wp_seq_k fun K61 hK61 => ?_
              refine wp_iff hF rfl (fun hc95 => ?_) (fun hc95 => ?_)
              · obtain ⟨b9, off9, c9, y, kd, hve, hyk, hry, hAb, hbl, hrow⟩ := hkid.row (i := i) (by omega)
                cases hve
                have hks := CT.kid_size (hKC ▸ hyk)
                have hkf := CT.fit_kid hfit (hKC ▸ hyk)
                have hma := mayK_at (vars := vars) (d := d + 1) (n := n2) hyk
                rw [hn2] at hma
                refine wp_skip (hK61 _ _ ?_)
                refine wp_seq_k fun K62 hK62 => ?_
                refine wp_block ?_
                refine wp_rs fun K63 hK63 => ?_
                refine s_val hF (x_ixa rfl rfl (m_ixsK i Try.underlying25 el25.size rfl (by omega))) (by decide) fun a hF => ?_
                refine s_val hF (x_ldA wide27 (hrow _ (hB.block _ hbl)) rfl rfl) (by decide) fun a hF => ?_
                refine s_alloc hF (by decide) zero27 fun w30 b13 a eb13 m13 B31 zb13 hF => ?_
                have sB31 := B31.size
                have hB := hB.trans (B31.mono hB.size)
                have hK := hK.below B31
                have mg := mg.old B31
                refine s_putW hF rfl rfl (size_wide wide27) m13 rfl hry.one fun w34 m13 o35 => ?_
                have so35 := o35.size
                have hB := hB.trans (o35.below (by omega))
                have hK := hK.only o35 (by omega)
                have mg := mg.only o35 (by omega)
                refine s_end (hK63 _ _ ?_)
                refine wp_rs fun K64 hK64 => ?_
                refine s_val hF (x_ldW wide27 m13 rfl rfl) (by decide) fun a hF => ?_
                refine s_val hF (x_move rfl) (by decide) fun a hF => ?_
                refine s_val hF (x_move rfl) (by decide) fun a hF => ?_
                refine s_val hF (x_add (by omega) (by omega) rfl rfl) (by decide) fun a hF => ?_
                refine s_val hF (x_move rfl) (by decide) fun a hF => ?_
                refine s_call (R := fun u w' => (u = .int .i64 (kd.mayT vars (d + 1) n2).1 ∧ Blk w' g 3 [.int .i64 (((kd.mayT vars (d + 1) n2).2 : Nat) : Int)]) ∧ Ktw g g w34 w') hF [_, _, _, _] (enters_of Try.func62 (by kernel_rfl) rfl) rfl (by decide) (ih kd y (by omega) hry hkf (d + 1) n2 w34 (by omega) (by omega) hn3 hB mg) ?_
                rintro _ w36 a ⟨⟨rfl, mg⟩, k37⟩ hF
                have sk37 := k37.size
                have hB := k37.under hB (by omega)
                have hK := hK.trans k37 (by omega)
                have m13 := m13.k2 k37 (by omega)
                refine s_val hF (x_assign rfl) (by decide) fun a hF => ?_
                refine s_end (hK64 _ _ ?_)
                refine wp_rs fun K65 hK65 => ?_
                refine s_val hF (x_move rfl) (by decide) fun a hF => ?_
                refine s_val hF (x_neq rfl rfl rfl) (by decide) fun a hF => ?_
                refine s_end (hK65 _ _ ?_)
                refine wp_iff hF rfl (fun hc105 => ?_) (fun hc105 => ?_)
                · rw [if_pos hc105] at hma
                  rw [hma] at heq
                  refine wp_rs fun K66 hK66 => ?_
                  refine s_val hF (x_move rfl) (by decide) fun a hF => ?_
                  refine s_val hF (x_assign rfl) (by decide) fun a hF => ?_
                  refine s_end (hK66 _ _ ?_)
                  refine wp_ret (inb_ret (then_ret (then_ret (inb_ret (then_ret (res_slot hF rfl rfl ⟨_, rfl, ⟨by rw [heq], by rw [heq]; exact mg⟩, hK⟩))))))
                · rw [if_neg hc105] at hma
                  have hmz := may_zero (vars := vars) kd y (d + 1) n2 hry (by omega)
                  refine wp_skip (hK62 _ _ ?_)
                  refine wp_region_lit ?_
                  refine s_val hF (x_addn (i + 1) (by omega) (by omega) rfl rfl) (by decide) fun a hF => ?_
                  refine s_val hF (x_move rfl) (by decide) fun a hF => ?_
                  refine s_end (hK' _ _ (by omega) ⟨_, hma.symm, by omega, mg, hB, hK, hF.sub _ rfl⟩)
              · obtain rfl : i = nv := by omega
                rw [List.drop_of_length_le (by omega), mayK] at hn2
                rw [← hn2] at heq
                refine wp_exit (hK58 _ _ ?_)
                refine wp_rs fun K67 hK67 => ?_
                refine s_val hF (x_assign rfl) (by decide) fun a hF => ?_
                refine s_end (hK67 _ _ ?_)
                refine wp_ret (res_slot hF rfl rfl ⟨_, rfl, ⟨by rw [heq], by rw [heq]; exact mg⟩, hK⟩)
      · have hlf := nodeErr_leaf (vars := vars) (n := n + 1) (d := d) (c := c) (by omega) (by omega)
        rw [leafErr_rest hx hq] at hlf
        rw [hlf, if_neg (by decide)] at heq
        have hk9 := CT.kids_arT2 hx (by omega)
        rw [← hKC] at hk9
        refine wp_rs fun K68 hK68 => ?_
        refine s_val hF (x_fa0 fa27_0 rfl) (by decide) fun a hF => ?_
        refine s_val hF (x_load rfl (m_load flat3 (m4.cell (j := 0) rfl))) (by decide) fun a hF => ?_
        refine s_val hF (x_eql (b := false) (decide_eq_false (by omega)) rfl rfl) (by decide) fun a hF => ?_
        refine s_val hF (x_move rfl) (by decide) fun a hF => ?_
        refine s_grdn 47 hF rfl rfl (by decide) fun a hF => ?_
        refine s_grdn 47 hF rfl rfl (by decide) fun a hF => ?_
        refine s_grdn 47 hF rfl rfl (by decide) fun a hF => ?_
        refine s_grdn 47 hF rfl rfl (by decide) fun a hF => ?_
        refine s_grdu 51 hF rfl rfl (by decide) fun a hF => ?_
        refine s_grdu 51 hF rfl rfl (by decide) fun a hF => ?_
        refine s_grdu 51 hF rfl rfl (by decide) fun a hF => ?_
        refine s_grdn 47 hF rfl rfl (by decide) fun a hF => ?_
        refine s_val hF (x_pick (b := false) rfl rfl) (by decide) fun a hF => ?_
        refine s_val hF (x_assign rfl) (by decide) fun a hF => ?_
        refine s_end (hK68 _ _ ?_)
        refine wp_if hF rfl ?_
        refine wp_rs fun K69 hK69 => ?_
        refine s_val hF (x_fa0 fa27_0 rfl) (by decide) fun a hF => ?_
        refine s_val hF (x_load rfl (m_load flat3 (m4.cell (j := 0) rfl))) (by decide) fun a hF => ?_
        refine s_val hF (x_eql (b := false) (decide_eq_false (by omega)) rfl rfl) (by decide) fun a hF => ?_
        refine s_val hF (x_assign rfl) (by decide) fun a hF => ?_
        refine s_end (hK69 _ _ ?_)
        refine wp_if hF rfl ?_
        refine wp_rs fun K70 hK70 => ?_
        refine s_val hF (x_fa0 fa27_0 rfl) (by decide) fun a hF => ?_
        refine s_val hF (x_load rfl (m_load flat3 (m4.cell (j := 0) rfl))) (by decide) fun a hF => ?_
        refine s_val hF (x_eql (b := false) (decide_eq_false (by omega)) rfl rfl) (by decide) fun a hF => ?_
        refine s_val hF (x_assign rfl) (by decide) fun a hF => ?_
        refine s_end (hK70 _ _ ?_)
        refine wp_if hF rfl ?_
        refine wp_skip (hK3 _ _ ?_)
        refine wp_seq_k fun K71 hK71 => ?_
        refine wp_rs fun K72 hK72 => ?_
        refine s_val hF (x_fa0 fa27_5 rfl) (by decide) fun a hF => ?_
        refine s_val hF (x_load rfl (m_load flat25 (m4.cell (j := 7) rfl))) (by decide) fun a hF => ?_
        refine s_val hF (x_len Try.underlying25 rfl) (by decide) fun a hF => ?_
        refine s_val hF (x_move rfl) (by decide) fun a hF => ?_
        refine s_end (hK72 _ _ ?_)
        refine wp_block ?_
        refine wp_up nv (fun i a w => ∃ n2 : Nat, mayK vars (KC.drop i) (d + 1) n2 = mayK vars KC (d + 1) (n + 1) ∧ n2 ≤ 400 ∧ Blk w g 3 [.int .i64 (n2 : Int)] ∧ Below w0.heap.size w0 w ∧ Ktw g g w1 w ∧ Fs 108 a [(1, .int .i64 vars), (2, .int .i64 d), (3, .pointer (some ⟨g, 0, none⟩)), (92, .slice av nv cv), (93, .int .i64 (nv : Int)), (94, .int .i64 (i : Int))]) ⟨n + 1, rfl, by omega, mg, hB, hK, hF.sub _ rfl⟩ ?_
        repeat clear hF
        clear hB hK mg m4
        rintro i a w hi ⟨n2, hn2, hn3, mg, hB, hK, hF⟩ K' hK'
        have sB := hB.size
        have sK := hK.size
        have hgl := mg.lt
        refine wp_rs fun K73 hK73 => ?_
        refine s_val hF (x_lss (b := decide (i < nv)) (decide_eq_decide.2 (by omega)) rfl rfl) (by decide) fun a hF => ?_
        refine s_end (hK73 _ _ ?_)
        refine wp_seq_k fun K74 hK74 => ?_
        refine wp_iff hF rfl (fun hc95 => ?_) (fun hc95 => ?_)
        · obtain ⟨b9, off9, c9, y, kd, hve, hyk, hry, hAb, hbl, hrow⟩ := hkid.row (i := i) (by omega)
          cases hve
          have hks := CT.kid_size (hKC ▸ hyk)
          have hkf := CT.fit_kid hfit (hKC ▸ hyk)
          have hma := mayK_at (vars := vars) (d := d + 1) (n := n2) hyk
          rw [hn2] at hma
          refine wp_skip (hK74 _ _ ?_)
          refine wp_seq_k fun K75 hK75 => ?_
          refine wp_block ?_
          refine wp_rs fun K76 hK76 => ?_
          refine s_val hF (x_ixa rfl rfl (m_ixsK i Try.underlying25 el25.size rfl (by omega))) (by decide) fun a hF => ?_
          refine s_val hF (x_ldA wide27 (hrow _ (hB.block _ hbl)) rfl rfl) (by decide) fun a hF => ?_
          refine s_alloc hF (by decide) zero27 fun w38 b13 a eb13 m13 B39 zb13 hF => ?_
          have sB39 := B39.size
          have hB := hB.trans (B39.mono hB.size)
          have hK := hK.below B39
          have mg := mg.old B39
          refine s_putW hF rfl rfl (size_wide wide27) m13 rfl hry.one fun w42 m13 o43 => ?_
          have so43 := o43.size
          have hB := hB.trans (o43.below (by omega))
          have hK := hK.only o43 (by omega)
          have mg := mg.only o43 (by omega)
          refine s_end (hK76 _ _ ?_)
          refine wp_rs fun K77 hK77 => ?_
          refine s_val hF (x_ldW wide27 m13 rfl rfl) (by decide) fun a hF => ?_
          refine s_val hF (x_move rfl) (by decide) fun a hF => ?_
          refine s_val hF (x_move rfl) (by decide) fun a hF => ?_
          refine s_val hF (x_add (by omega) (by omega) rfl rfl) (by decide) fun a hF => ?_
          refine s_val hF (x_move rfl) (by decide) fun a hF => ?_
          refine s_call (R := fun u w' => (u = .int .i64 (kd.mayT vars (d + 1) n2).1 ∧ Blk w' g 3 [.int .i64 (((kd.mayT vars (d + 1) n2).2 : Nat) : Int)]) ∧ Ktw g g w42 w') hF [_, _, _, _] (enters_of Try.func62 (by kernel_rfl) rfl) rfl (by decide) (ih kd y (by omega) hry hkf (d + 1) n2 w42 (by omega) (by omega) hn3 hB mg) ?_
          rintro _ w44 a ⟨⟨rfl, mg⟩, k45⟩ hF
          have sk45 := k45.size
          have hB := k45.under hB (by omega)
          have hK := hK.trans k45 (by omega)
          have m13 := m13.k2 k45 (by omega)
          refine s_val hF (x_assign rfl) (by decide) fun a hF => ?_
          refine s_end (hK77 _ _ ?_)
          refine wp_rs fun K78 hK78 => ?_
          refine s_val hF (x_move rfl) (by decide) fun a hF => ?_
          refine s_val hF (x_neq rfl rfl rfl) (by decide) fun a hF => ?_
          refine s_end (hK78 _ _ ?_)
          refine wp_iff hF rfl (fun hc105 => ?_) (fun hc105 => ?_)
          · rw [if_pos hc105] at hma
            rw [hma] at heq
            refine wp_rs fun K79 hK79 => ?_
            refine s_val hF (x_move rfl) (by decide) fun a hF => ?_
            refine s_val hF (x_assign rfl) (by decide) fun a hF => ?_
            refine s_end (hK79 _ _ ?_)
            refine wp_ret (inb_ret (then_ret (then_ret (inb_ret (then_ret (res_slot hF rfl rfl ⟨_, rfl, ⟨by rw [heq], by rw [heq]; exact mg⟩, hK⟩))))))
          · rw [if_neg hc105] at hma
            have hmz := may_zero (vars := vars) kd y (d + 1) n2 hry (by omega)
            refine wp_skip (hK75 _ _ ?_)
            refine wp_region_lit ?_
            refine s_val hF (x_addn (i + 1) (by omega) (by omega) rfl rfl) (by decide) fun a hF => ?_
            refine s_val hF (x_move rfl) (by decide) fun a hF => ?_
            refine s_end (hK' _ _ (by omega) ⟨_, hma.symm, by omega, mg, hB, hK, hF.sub _ rfl⟩)
        · obtain rfl : i = nv := by omega
          rw [List.drop_of_length_le (by omega), mayK] at hn2
          rw [← hn2] at heq
          refine wp_exit (hK71 _ _ ?_)
          refine wp_rs fun K80 hK80 => ?_
          refine s_val hF (x_assign rfl) (by decide) fun a hF => ?_
          refine s_end (hK80 _ _ ?_)
          refine wp_ret (res_slot hF rfl rfl ⟨_, rfl, ⟨by rw [heq], by rw [heq]; exact mg⟩, hK⟩)
end Go.Proofs.Ytaclncmkdpjnlaa
