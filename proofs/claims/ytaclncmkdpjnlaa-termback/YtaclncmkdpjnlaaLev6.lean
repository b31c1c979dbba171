/- The reference's May; whole; Loose. -/
import Derived.Test.YtaclncmkdpjnlaaTerm15
import Derived.Test.YtaclncmkdpjnlaaLev5
namespace Go.Proofs.Ytaclncmkdpjnlaa
open Go.RowKit Go.Shelf
set_option linter.unusedVariables false
set_option linter.unusedSimpArgs false

theorem mayK_at {vars d : Int} {ks : List CT} {i n : Nat} {k : CT} (h : ks[i]? = some k) : mayK vars (ks.drop i) d n = if (k.mayT vars d n).1 ≠ 0 then k.mayT vars d n else mayK vars (ks.drop (i + 1)) d (k.mayT vars d n).2 := by
  have hi : i < ks.length := (List.getElem?_eq_some_iff.1 h).1
  have : ks[i] = k := (List.getElem?_eq_some_iff.1 h).2
  rw [← List.getElem_cons_drop hi, this, mayK]
theorem fstErr_at {vars : Int} {ls : List Lv} {i : Nat} {l : Lv} (h : ls[i]? = some l) : fstErr vars (ls.drop i) = if (chk 32 1048576 vars 1 100 l).1 ≠ 0 then (chk 32 1048576 vars 1 100 l).1 else fstErr vars (ls.drop (i + 1)) := by
  have hi : i < ls.length := (List.getElem?_eq_some_iff.1 h).1
  have : ls[i] = l := (List.getElem?_eq_some_iff.1 h).2
  rw [← List.getElem_cons_drop hi, this, fstErr]
theorem CT.kids_arT2 {W : World} {A : Nat → Prop} {c : CT} {x : C8} (h : RC W A c x) (h2 : ¬ (arT c.kd < 0 ∨ (c.len : Int) ≠ arT c.kd)) : c.kids.length = c.len := by
  rcases CT.kids_arT h with h3 | h3 <;> omega

set_option maxRecDepth 100000 in
set_option maxHeartbeats 400000 in
theorem rmay73 (vars : Int) (w0 : World) (g : Nat) (hg : w0.heap.size ≤ g) : ∀ (N : Nat) (c : CT) (x : C8), c.size < N → RC w0 (fun k => k < w0.heap.size) c x → c.fit → ∀ (d : Int) (n : Nat) (w1 : World), 0 ≤ d → d ≤ 65 → n ≤ 400 → Below w0.heap.size w0 w1 → Blk w1 g 3 [.int .i64 (n : Int)] →
    Calls Try.prog 62 #[tv x, .int .i64 vars, .int .i64 d, .pointer (some ⟨g, 0, none⟩)] w1 fun e w' => ∃ u, e = .returned u ∧ (u = .int .i64 (c.mayT vars d n).1 ∧ Blk w' g 3 [.int .i64 (((c.mayT vars d n).2 : Nat) : Int)]) ∧ Ktw g g w1 w' := by
  intro N
  induction N with
  | zero => intro s x h; omega
  | succ N ih =>
  intro c x hN hx hfit d n w1 hd0 hd1 hn hB mg
  have hK := Ktw.refl g g w1
  have sB := hB.size
  have sK := hK.size
  have hgl := mg.lt
  have heq := mayT_eq vars c d n
  have hrg := arT_rng c.kd
  obtain ⟨av, nv, cv, hts, hle9, hlen9, hcap, hkid⟩ := hx.kids
  obtain ⟨xk, xn, xs, xl, xls, xts⟩ := x
  simp only at hts
  subst hts
  have hkd : xk = c.kd := hx.kd
  have hone := hx.one
  obtain ⟨KC, hKC⟩ : ∃ KC, KC = c.kids := ⟨_, rfl⟩
  rw [← hKC] at heq hkid hle9 hcap
  refine calls_fs 108 [(0, tv ⟨xk, xn, xs, xl, xls, .slice av nv cv⟩), (1, .int .i64 vars), (2, .int .i64 d), (3, .pointer (some ⟨g, 0, none⟩))] Try.func62 rfl rfl rfl rfl rfl fun a hF => ?_
  refine wp_rs fun K1 hK1 => ?_
  refine s_box ([.int .i64 xk, .int .i64 xn, .string xs, .int .i64 xl.1, .int .i64 xl.2.1, xl.2.2, xls, .slice av nv cv]) hF (by decide) rfl rfl fun w2 b4 a eb4 m4 B3 zb4 hF => ?_
  have sB3 := B3.size
  have hB := hB.trans (B3.mono hB.size)
  have hK := hK.below B3
  have mg := mg.old B3
  refine s_val hF (x_assign rfl) (by decide) fun a hF => ?_
  refine s_end (hK1 _ _ ?_)
  refine wp_rs fun K2 hK2 => ?_
  refine s_val hF (x_move rfl) (by decide) fun a hF => ?_
  refine s_val hF (x_nil rfl) (by decide) fun a hF => ?_
  refine s_val hF (x_load rfl (m_load flat3 (mg.cell (j := 0) rfl))) (by decide) fun a hF => ?_
  refine s_val hF (x_addn (n + 1) (by omega) (by omega) rfl rfl) (by decide) fun a hF => ?_
  refine s_val hF (x_nil rfl) (by decide) fun a hF => ?_
  refine s_put hF rfl rfl flat3 mg (by first | (simp; done) | (simp [tc, lc]; done) | decide) rfl fun w4 mg o5 => ?_
  have so5 := o5.size
  have hB := hB.trans (o5.below (by omega))
  have hK := hK.only o5 (by omega)
  have m4 := m4.only o5 (by omega)
  refine s_end (hK2 _ _ ?_)
  refine wp_seq_k fun K3 hK3 => ?_
  refine wp_block ?_
  rcases (show 64 < d ∨ (¬ 64 < d ∧ 400 < ((n + 1 : Nat) : Int)) ∨ (¬ 64 < d ∧ ¬ 400 < ((n + 1 : Nat) : Int)) by omega) with hz | hz | hz
  · have hpre : nodeErr vars d (n + 1) c = 2 := nodeErr_two (by omega)
    rw [hpre, if_pos (by decide)] at heq
    refine wp_rs fun K5 hK5 => ?_
    refine s_val hF (x_move rfl) (by decide) fun a hF => ?_
    refine s_val hF (x_gtr (b := true) (decide_eq_true (by omega)) rfl rfl) (by decide) fun a hF => ?_
    refine s_val hF (x_move rfl) (by decide) fun a hF => ?_
    refine s_grdn 23 hF rfl rfl (by decide) fun a hF => ?_
    refine s_grdn 23 hF rfl rfl (by decide) fun a hF => ?_
    refine s_grdn 23 hF rfl rfl (by decide) fun a hF => ?_
    refine s_grdn 23 hF rfl rfl (by decide) fun a hF => ?_
    refine s_val hF (x_pick (b := true) rfl rfl) (by decide) fun a hF => ?_
    refine s_val hF (x_assign rfl) (by decide) fun a hF => ?_
    refine s_end (hK5 _ _ ?_)
    refine wp_if hF rfl ?_
    refine wp_rs fun K6 hK6 => ?_
    refine s_val hF (x_assign rfl) (by decide) fun a hF => ?_
    refine s_end (hK6 _ _ ?_)
    refine wp_ret (inb_ret (then_ret (res_slot hF rfl rfl ⟨_, rfl, ⟨by rw [heq], by rw [heq]; exact mg⟩, hK⟩)))
  · have hpre : nodeErr vars d (n + 1) c = 2 := nodeErr_two (by omega)
    rw [hpre, if_pos (by decide)] at heq
    refine wp_rs fun K7 hK7 => ?_
    refine s_val hF (x_move rfl) (by decide) fun a hF => ?_
    refine s_val hF (x_gtr (b := false) (decide_eq_false (by omega)) rfl rfl) (by decide) fun a hF => ?_
    refine s_val hF (x_move rfl) (by decide) fun a hF => ?_
    refine s_grd 23 hF rfl rfl rfl ?_
    refine s_val hF (x_move rfl) (by decide) fun a hF => ?_
    refine s_grd 23 hF rfl rfl rfl ?_
    refine s_val hF (x_nil rfl) (by decide) fun a hF => ?_
    refine s_grd 23 hF rfl rfl rfl ?_
    refine s_val hF (x_load rfl (m_load flat3 (mg.cell (j := 0) rfl))) (by decide) fun a hF => ?_
    refine s_grd 23 hF rfl rfl rfl ?_
    refine s_val hF (x_gtr (b := true) (decide_eq_true (by omega)) rfl rfl) (by decide) fun a hF => ?_
    refine s_val hF (x_pick (b := false) rfl rfl) (by decide) fun a hF => ?_
    refine s_val hF (x_assign rfl) (by decide) fun a hF => ?_
    refine s_end (hK7 _ _ ?_)
    refine wp_if hF rfl ?_
    refine wp_rs fun K8 hK8 => ?_
    refine s_val hF (x_assign rfl) (by decide) fun a hF => ?_
    refine s_end (hK8 _ _ ?_)
    refine wp_ret (inb_ret (then_ret (res_slot hF rfl rfl ⟨_, rfl, ⟨by rw [heq], by rw [heq]; exact mg⟩, hK⟩)))
  · skip
    refine wp_rs fun K9 hK9 => ?_
    refine s_val hF (x_move rfl) (by decide) fun a hF => ?_
    refine s_val hF (x_gtr (b := false) (decide_eq_false (by omega)) rfl rfl) (by decide) fun a hF => ?_
    refine s_val hF (x_move rfl) (by decide) fun a hF => ?_
    refine s_grd 23 hF rfl rfl rfl ?_
    refine s_val hF (x_move rfl) (by decide) fun a hF => ?_
    refine s_grd 23 hF rfl rfl rfl ?_
    refine s_val hF (x_nil rfl) (by decide) fun a hF => ?_
    refine s_grd 23 hF rfl rfl rfl ?_
    refine s_val hF (x_load rfl (m_load flat3 (mg.cell (j := 0) rfl))) (by decide) fun a hF => ?_
    refine s_grd 23 hF rfl rfl rfl ?_
    refine s_val hF (x_gtr (b := false) (decide_eq_false (by omega)) rfl rfl) (by decide) fun a hF => ?_
    refine s_val hF (x_pick (b := false) rfl rfl) (by decide) fun a hF => ?_
    refine s_val hF (x_assign rfl) (by decide) fun a hF => ?_
    refine s_end (hK9 _ _ ?_)
    refine wp_if hF rfl ?_
    rcases (show arT c.kd < 0 ∨ (¬ arT c.kd < 0 ∧ (nv : Int) ≠ arT c.kd) ∨ (¬ arT c.kd < 0 ∧ (nv : Int) = arT c.kd) by omega) with hy | hy | hy
    · have hpre : nodeErr vars d (n + 1) c = 1 := nodeErr_one (by omega) (by omega)
      rw [hpre, if_pos (by decide)] at heq
      refine dk2_seq (w4.heap.size) (w4.heap.size) (ops := regOps Try.f62 4) (N := 14) (by kernel_rfl) wide_orders (by kernel_rfl) fun w6 hw6 B7 hS K11 hK11 => ?_
      have zw6 : w6.heap.size = w4.heap.size := by rw [hw6]
      have sB7 := B7.size
      have hB := hB.trans (B7.mono hB.size)
      have hK := hK.below B7
      have mg := mg.old B7
      have m4 := m4.old B7
      have mg_d := mg
      have m4_d := m4
      have hB_d := hB
      have hK_d := hK
      refine d_val 0 30 (op := (Go.Op.fieldAddr 27 (Go.Operand.tmp 4) 0)) hF hS (by kernel_rfl) (fun W hW => x_fa0 fa27_0 rfl) (by kernel_rfl) (by decide) fun a hF => ?_
      refine d_val 1 31 (op := (Go.Op.load 3 (Go.Operand.tmp 30))) hF hS (by kernel_rfl) (fun W hW => x_load rfl (m_load flat3 ((m4_d.k2 hW (by omega)).cell (j := 0) rfl))) (by kernel_rfl) (by decide) fun a hF => ?_
      refine d_one 2 (some 32) (Go.Op.call (Go.Call.mk (Go.Callee.value (Go.Operand.func 87)) #[(Go.Operand.tmp 31)] #[3])) (by kernel_rfl) (by kernel_rfl) fun ty pos af => ?_
      refine s_callS [_] hF (enters_of Try.func87 (by kernel_rfl) rfl) rfl (by decide) ((kids54 xk w6).mono fun e w' h => ⟨(by rw [h.1, hkd] : e = .returned (.int .i64 (arT c.kd))), h.2⟩) fun a hF => ?_
      refine s_end ⟨hS, ?_⟩
      refine d_val 3 33 (op := (Go.Op.binOp Go.BinOp.lss 3 (Go.Operand.tmp 32) (Go.Operand.const (Go.Value.int Go.IntKind.i64 0)) 3)) hF hS (by kernel_rfl) (fun W hW => x_lss (b := true) (decide_eq_true (by omega)) rfl rfl) (by kernel_rfl) (by decide) fun a hF => ?_
      refine d_val 4 34 (op := (Go.Op.move (Go.Operand.tmp 33))) hF hS (by kernel_rfl) (fun W hW => x_move rfl) (by kernel_rfl) (by decide) fun a hF => ?_
      refine d_skip 5 35 34 (j := 4) (want := false) (op := (Go.Op.fieldAddr 27 (Go.Operand.tmp 4) 5)) hF hS (by kernel_rfl) (by kernel_rfl) rfl (by kernel_rfl) (by decide) fun a hF => ?_
      refine d_skip 6 36 34 (j := 4) (want := false) (op := (Go.Op.load 25 (Go.Operand.tmp 35))) hF hS (by kernel_rfl) (by kernel_rfl) rfl (by kernel_rfl) (by decide) fun a hF => ?_
      refine d_skip 7 37 34 (j := 4) (want := false) (op := (Go.Op.call (Go.Call.mk (Go.Callee.builtin Go.Builtin.len) #[(Go.Operand.tmp 36)] #[25]))) hF hS (by kernel_rfl) (by kernel_rfl) rfl (by kernel_rfl) (by decide) fun a hF => ?_
      refine d_skip 8 38 34 (j := 4) (want := false) (op := (Go.Op.fieldAddr 27 (Go.Operand.tmp 4) 0)) hF hS (by kernel_rfl) (by kernel_rfl) rfl (by kernel_rfl) (by decide) fun a hF => ?_
      refine d_skip 9 39 34 (j := 4) (want := false) (op := (Go.Op.load 3 (Go.Operand.tmp 38))) hF hS (by kernel_rfl) (by kernel_rfl) rfl (by kernel_rfl) (by decide) fun a hF => ?_
      refine d_skip 10 40 34 (j := 4) (want := false) (op := (Go.Op.call (Go.Call.mk (Go.Callee.value (Go.Operand.func 87)) #[(Go.Operand.tmp 39)] #[3]))) hF hS (by kernel_rfl) (by kernel_rfl) rfl (by kernel_rfl) (by decide) fun a hF => ?_
      refine d_skip 11 41 34 (j := 4) (want := false) (op := (Go.Op.binOp Go.BinOp.neq 3 (Go.Operand.tmp 37) (Go.Operand.tmp 40) 3)) hF hS (by kernel_rfl) (by kernel_rfl) rfl (by kernel_rfl) (by decide) fun a hF => ?_
      refine d_val 12 42 (op := (Go.Op.pick (Go.Operand.tmp 34) (Go.Operand.const (Go.Value.bool true)) (Go.Operand.tmp 41))) hF hS (by kernel_rfl) (fun W hW => x_pick (b := true) rfl rfl) (by kernel_rfl) (by decide) fun a hF => ?_
      refine d_val 13 29 (op := (Go.Op.assign (Go.Operand.tmp 42))) hF hS (by kernel_rfl) (fun W hW => x_assign rfl) (by kernel_rfl) (by decide) fun a hF => ?_
      refine d_end (by kernel_rfl) (hK11 _ _ ?_)
      refine wp_if hF rfl ?_
      refine wp_rs fun K12 hK12 => ?_
      refine s_val hF (x_assign rfl) (by decide) fun a hF => ?_
      refine s_end (hK12 _ _ ?_)
      refine wp_ret (inb_ret (then_ret (res_slot hF rfl rfl ⟨_, rfl, ⟨by rw [heq], by rw [heq]; exact mg⟩, hK⟩)))
    · have hpre : nodeErr vars d (n + 1) c = 1 := nodeErr_one (by omega) (by omega)
      rw [hpre, if_pos (by decide)] at heq
      refine dk2_seq (w4.heap.size) (w4.heap.size) (ops := regOps Try.f62 4) (N := 14) (by kernel_rfl) wide_orders (by kernel_rfl) fun w8 hw8 B9 hS K13 hK13 => ?_
      have zw8 : w8.heap.size = w4.heap.size := by rw [hw8]
      have sB9 := B9.size
      have hB := hB.trans (B9.mono hB.size)
      have hK := hK.below B9
      have mg := mg.old B9
      have m4 := m4.old B9
      have mg_d := mg
      have m4_d := m4
      have hB_d := hB
      have hK_d := hK
      refine d_val 0 30 (op := (Go.Op.fieldAddr 27 (Go.Operand.tmp 4) 0)) hF hS (by kernel_rfl) (fun W hW => x_fa0 fa27_0 rfl) (by kernel_rfl) (by decide) fun a hF => ?_
      refine d_val 1 31 (op := (Go.Op.load 3 (Go.Operand.tmp 30))) hF hS (by kernel_rfl) (fun W hW => x_load rfl (m_load flat3 ((m4_d.k2 hW (by omega)).cell (j := 0) rfl))) (by kernel_rfl) (by decide) fun a hF => ?_
      refine d_one 2 (some 32) (Go.Op.call (Go.Call.mk (Go.Callee.value (Go.Operand.func 87)) #[(Go.Operand.tmp 31)] #[3])) (by kernel_rfl) (by kernel_rfl) fun ty pos af => ?_
      refine s_callS [_] hF (enters_of Try.func87 (by kernel_rfl) rfl) rfl (by decide) ((kids54 xk w8).mono fun e w' h => ⟨(by rw [h.1, hkd] : e = .returned (.int .i64 (arT c.kd))), h.2⟩) fun a hF => ?_
      refine s_end ⟨hS, ?_⟩
      refine d_val 3 33 (op := (Go.Op.binOp Go.BinOp.lss 3 (Go.Operand.tmp 32) (Go.Operand.const (Go.Value.int Go.IntKind.i64 0)) 3)) hF hS (by kernel_rfl) (fun W hW => x_lss (b := false) (decide_eq_false (by omega)) rfl rfl) (by kernel_rfl) (by decide) fun a hF => ?_
      refine d_val 4 34 (op := (Go.Op.move (Go.Operand.tmp 33))) hF hS (by kernel_rfl) (fun W hW => x_move rfl) (by kernel_rfl) (by decide) fun a hF => ?_
      refine d_valg 5 35 34 (j := 4) (want := false) (op := (Go.Op.fieldAddr 27 (Go.Operand.tmp 4) 5)) hF hS (by kernel_rfl) (by kernel_rfl) rfl (fun W hW => x_fa0 fa27_5 rfl) (by kernel_rfl) (by decide) fun a hF => ?_
      refine d_valg 6 36 34 (j := 4) (want := false) (op := (Go.Op.load 25 (Go.Operand.tmp 35))) hF hS (by kernel_rfl) (by kernel_rfl) rfl (fun W hW => x_load rfl (m_load flat25 ((m4_d.k2 hW (by omega)).cell (j := 7) rfl))) (by kernel_rfl) (by decide) fun a hF => ?_
      refine d_valg 7 37 34 (j := 4) (want := false) (op := (Go.Op.call (Go.Call.mk (Go.Callee.builtin Go.Builtin.len) #[(Go.Operand.tmp 36)] #[25]))) hF hS (by kernel_rfl) (by kernel_rfl) rfl (fun W hW => x_len Try.underlying25 rfl) (by kernel_rfl) (by decide) fun a hF => ?_
      refine d_valg 8 38 34 (j := 4) (want := false) (op := (Go.Op.fieldAddr 27 (Go.Operand.tmp 4) 0)) hF hS (by kernel_rfl) (by kernel_rfl) rfl (fun W hW => x_fa0 fa27_0 rfl) (by kernel_rfl) (by decide) fun a hF => ?_
      refine d_valg 9 39 34 (j := 4) (want := false) (op := (Go.Op.load 3 (Go.Operand.tmp 38))) hF hS (by kernel_rfl) (by kernel_rfl) rfl (fun W hW => x_load rfl (m_load flat3 ((m4_d.k2 hW (by omega)).cell (j := 0) rfl))) (by kernel_rfl) (by decide) fun a hF => ?_
      refine d_oneg 10 34 (some 40) (Go.Op.call (Go.Call.mk (Go.Callee.value (Go.Operand.func 87)) #[(Go.Operand.tmp 39)] #[3])) (j := 4) (want := false) hF (by kernel_rfl) (by kernel_rfl) (by kernel_rfl) rfl fun ty pos af => ?_
      refine s_callS [_] hF (enters_of Try.func87 (by kernel_rfl) rfl) rfl (by decide) ((kids54 xk w8).mono fun e w' h => ⟨(by rw [h.1, hkd] : e = .returned (.int .i64 (arT c.kd))), h.2⟩) fun a hF => ?_
      refine s_end ⟨hS, ?_⟩
      refine d_valg 11 41 34 (j := 4) (want := false) (op := (Go.Op.binOp Go.BinOp.neq 3 (Go.Operand.tmp 37) (Go.Operand.tmp 40) 3)) hF hS (by kernel_rfl) (by kernel_rfl) rfl (fun W hW => x_neq (b := true) (decide_eq_true (by omega)) rfl rfl) (by kernel_rfl) (by decide) fun a hF => ?_
      refine d_val 12 42 (op := (Go.Op.pick (Go.Operand.tmp 34) (Go.Operand.const (Go.Value.bool true)) (Go.Operand.tmp 41))) hF hS (by kernel_rfl) (fun W hW => x_pick (b := false) rfl rfl) (by kernel_rfl) (by decide) fun a hF => ?_
      refine d_val 13 29 (op := (Go.Op.assign (Go.Operand.tmp 42))) hF hS (by kernel_rfl) (fun W hW => x_assign rfl) (by kernel_rfl) (by decide) fun a hF => ?_
      refine d_end (by kernel_rfl) (hK13 _ _ ?_)
      refine wp_if hF rfl ?_
      refine wp_rs fun K14 hK14 => ?_
      refine s_val hF (x_assign rfl) (by decide) fun a hF => ?_
      refine s_end (hK14 _ _ ?_)
      refine wp_ret (inb_ret (then_ret (res_slot hF rfl rfl ⟨_, rfl, ⟨by rw [heq], by rw [heq]; exact mg⟩, hK⟩)))
    · skip
      refine dk2_seq (w4.heap.size) (w4.heap.size) (ops := regOps Try.f62 4) (N := 14) (by kernel_rfl) wide_orders (by kernel_rfl) fun w10 hw10 B11 hS K15 hK15 => ?_
      have zw10 : w10.heap.size = w4.heap.size := by rw [hw10]
      have sB11 := B11.size
      have hB := hB.trans (B11.mono hB.size)
      have hK := hK.below B11
      have mg := mg.old B11
      have m4 := m4.old B11
      have mg_d := mg
      have m4_d := m4
      have hB_d := hB
      have hK_d := hK
      refine d_val 0 30 (op := (Go.Op.fieldAddr 27 (Go.Operand.tmp 4) 0)) hF hS (by kernel_rfl) (fun W hW => x_fa0 fa27_0 rfl) (by kernel_rfl) (by decide) fun a hF => ?_
      refine d_val 1 31 (op := (Go.Op.load 3 (Go.Operand.tmp 30))) hF hS (by kernel_rfl) (fun W hW => x_load rfl (m_load flat3 ((m4_d.k2 hW (by omega)).cell (j := 0) rfl))) (by kernel_rfl) (by decide) fun a hF => ?_
      refine d_one 2 (some 32) (Go.Op.call (Go.Call.mk (Go.Callee.value (Go.Operand.func 87)) #[(Go.Operand.tmp 31)] #[3])) (by kernel_rfl) (by kernel_rfl) fun ty pos af => ?_
      refine s_callS [_] hF (enters_of Try.func87 (by kernel_rfl) rfl) rfl (by decide) ((kids54 xk w10).mono fun e w' h => ⟨(by rw [h.1, hkd] : e = .returned (.int .i64 (arT c.kd))), h.2⟩) fun a hF => ?_
      refine s_end ⟨hS, ?_⟩
      refine d_val 3 33 (op := (Go.Op.binOp Go.BinOp.lss 3 (Go.Operand.tmp 32) (Go.Operand.const (Go.Value.int Go.IntKind.i64 0)) 3)) hF hS (by kernel_rfl) (fun W hW => x_lss (b := false) (decide_eq_false (by omega)) rfl rfl) (by kernel_rfl) (by decide) fun a hF => ?_
      refine d_val 4 34 (op := (Go.Op.move (Go.Operand.tmp 33))) hF hS (by kernel_rfl) (fun W hW => x_move rfl) (by kernel_rfl) (by decide) fun a hF => ?_
      refine d_valg 5 35 34 (j := 4) (want := false) (op := (Go.Op.fieldAddr 27 (Go.Operand.tmp 4) 5)) hF hS (by kernel_rfl) (by kernel_rfl) rfl (fun W hW => x_fa0 fa27_5 rfl) (by kernel_rfl) (by decide) fun a hF => ?_
      refine d_valg 6 36 34 (j := 4) (want := false) (op := (Go.Op.load 25 (Go.Operand.tmp 35))) hF hS (by kernel_rfl) (by kernel_rfl) rfl (fun W hW => x_load rfl (m_load flat25 ((m4_d.k2 hW (by omega)).cell (j := 7) rfl))) (by kernel_rfl) (by decide) fun a hF => ?_
      refine d_valg 7 37 34 (j := 4) (want := false) (op := (Go.Op.call (Go.Call.mk (Go.Callee.builtin Go.Builtin.len) #[(Go.Operand.tmp 36)] #[25]))) hF hS (by kernel_rfl) (by kernel_rfl) rfl (fun W hW => x_len Try.underlying25 rfl) (by kernel_rfl) (by decide) fun a hF => ?_
      refine d_valg 8 38 34 (j := 4) (want := false) (op := (Go.Op.fieldAddr 27 (Go.Operand.tmp 4) 0)) hF hS (by kernel_rfl) (by kernel_rfl) rfl (fun W hW => x_fa0 fa27_0 rfl) (by kernel_rfl) (by decide) fun a hF => ?_
      refine d_valg 9 39 34 (j := 4) (want := false) (op := (Go.Op.load 3 (Go.Operand.tmp 38))) hF hS (by kernel_rfl) (by kernel_rfl) rfl (fun W hW => x_load rfl (m_load flat3 ((m4_d.k2 hW (by omega)).cell (j := 0) rfl))) (by kernel_rfl) (by decide) fun a hF => ?_
      refine d_oneg 10 34 (some 40) (Go.Op.call (Go.Call.mk (Go.Callee.value (Go.Operand.func 87)) #[(Go.Operand.tmp 39)] #[3])) (j := 4) (want := false) hF (by kernel_rfl) (by kernel_rfl) (by kernel_rfl) rfl fun ty pos af => ?_
      refine s_callS [_] hF (enters_of Try.func87 (by kernel_rfl) rfl) rfl (by decide) ((kids54 xk w10).mono fun e w' h => ⟨(by rw [h.1, hkd] : e = .returned (.int .i64 (arT c.kd))), h.2⟩) fun a hF => ?_
      refine s_end ⟨hS, ?_⟩
      refine d_valg 11 41 34 (j := 4) (want := false) (op := (Go.Op.binOp Go.BinOp.neq 3 (Go.Operand.tmp 37) (Go.Operand.tmp 40) 3)) hF hS (by kernel_rfl) (by kernel_rfl) rfl (fun W hW => x_neq (b := false) (decide_eq_false (by omega)) rfl rfl) (by kernel_rfl) (by decide) fun a hF => ?_
      refine d_val 12 42 (op := (Go.Op.pick (Go.Operand.tmp 34) (Go.Operand.const (Go.Value.bool true)) (Go.Operand.tmp 41))) hF hS (by kernel_rfl) (fun W hW => x_pick (b := false) rfl rfl) (by kernel_rfl) (by decide) fun a hF => ?_
      refine d_val 13 29 (op := (Go.Op.assign (Go.Operand.tmp 42))) hF hS (by kernel_rfl) (fun W hW => x_assign rfl) (by kernel_rfl) (by decide) fun a hF => ?_
      refine d_end (by kernel_rfl) (hK15 _ _ ?_)
      refine wp_if hF rfl ?_
      rcases (show (xk = 1 ∧ xn < 0) ∨ (xk = 1 ∧ ¬ xn < 0 ∧ 1048576 < xn) ∨ (xk = 1 ∧ ¬ xn < 0 ∧ ¬ 1048576 < xn) ∨ xk = 2 ∨ xk = 7 ∨ (xk ≠ 1 ∧ xk ≠ 2 ∧ xk ≠ 7) by omega) with hq | hq | hq | hq | hq | hq
      · have hlf := nodeErr_leaf (vars := vars) (n := n + 1) (d := d) (c := c) (by omega) (by omega)
        obtain ⟨z, m, rfl⟩ := hx.var_of hq.1
        have hzn : xn = z := hx.2.1
        have hle : leafErr vars (.var z m) = 1 := by simp only [leafErr]; rw [if_pos (by omega)]
        rw [hle] at hlf
        rw [hlf, if_pos (by decide)] at heq
        refine wp_rs fun K17 hK17 => ?_
        refine s_val hF (x_fa0 fa27_0 rfl) (by decide) fun a hF => ?_
        refine s_val hF (x_load rfl (m_load flat3 (m4.cell (j := 0) rfl))) (by decide) fun a hF => ?_
        refine s_val hF (x_eql (b := true) (decide_eq_true (by omega)) rfl rfl) (by decide) fun a hF => ?_
        refine s_val hF (x_move rfl) (by decide) fun a hF => ?_
        refine s_grd 47 hF rfl rfl rfl ?_
        refine s_val hF (x_fa0 fa27_1 rfl) (by decide) fun a hF => ?_
        refine s_grd 47 hF rfl rfl rfl ?_
        refine s_val hF (x_load rfl (m_load flat3 (m4.cell (j := 1) rfl))) (by decide) fun a hF => ?_
        refine s_grd 47 hF rfl rfl rfl ?_
        refine s_val hF (x_lss (b := true) (decide_eq_true (by omega)) rfl rfl) (by decide) fun a hF => ?_
        refine s_grd 47 hF rfl rfl rfl ?_
        refine s_val hF (x_move rfl) (by decide) fun a hF => ?_
        refine s_grdn 51 hF rfl rfl (by decide) fun a hF => ?_
        refine s_grdn 51 hF rfl rfl (by decide) fun a hF => ?_
        refine s_grdn 51 hF rfl rfl (by decide) fun a hF => ?_
        refine s_grd 47 hF rfl rfl rfl ?_
        refine s_val hF (x_pick (b := true) rfl rfl) (by decide) fun a hF => ?_
        refine s_val hF (x_pick (b := true) rfl rfl) (by decide) fun a hF => ?_
        refine s_val hF (x_assign rfl) (by decide) fun a hF => ?_
        refine s_end (hK17 _ _ ?_)
        refine wp_if hF rfl ?_
        refine wp_rs fun K18 hK18 => ?_
        refine s_val hF (x_assign rfl) (by decide) fun a hF => ?_
        refine s_end (hK18 _ _ ?_)
        refine wp_ret (inb_ret (then_ret (res_slot hF rfl rfl ⟨_, rfl, ⟨by rw [heq], by rw [heq]; exact mg⟩, hK⟩)))
      · have hlf := nodeErr_leaf (vars := vars) (n := n + 1) (d := d) (c := c) (by omega) (by omega)
        obtain ⟨z, m, rfl⟩ := hx.var_of hq.1
        have hzn : xn = z := hx.2.1
        have hle : leafErr vars (.var z m) = 1 := by simp only [leafErr]; rw [if_pos (by omega)]
        rw [hle] at hlf
        rw [hlf, if_pos (by decide)] at heq
        refine wp_rs fun K19 hK19 => ?_
        refine s_val hF (x_fa0 fa27_0 rfl) (by decide) fun a hF => ?_
        refine s_val hF (x_load rfl (m_load flat3 (m4.cell (j := 0) rfl))) (by decide) fun a hF => ?_
        refine s_val hF (x_eql (b := true) (decide_eq_true (by omega)) rfl rfl) (by decide) fun a hF => ?_
        refine s_val hF (x_move rfl) (by decide) fun a hF => ?_
        refine s_grd 47 hF rfl rfl rfl ?_
        refine s_val hF (x_fa0 fa27_1 rfl) (by decide) fun a hF => ?_
        refine s_grd 47 hF rfl rfl rfl ?_
        refine s_val hF (x_load rfl (m_load flat3 (m4.cell (j := 1) rfl))) (by decide) fun a hF => ?_
        refine s_grd 47 hF rfl rfl rfl ?_
        refine s_val hF (x_lss (b := false) (decide_eq_false (by omega)) rfl rfl) (by decide) fun a hF => ?_
        refine s_grd 47 hF rfl rfl rfl ?_
        refine s_val hF (x_move rfl) (by decide) fun a hF => ?_
        refine s_grd 51 hF rfl rfl rfl ?_
        refine s_val hF (x_fa0 fa27_1 rfl) (by decide) fun a hF => ?_
        refine s_grd 51 hF rfl rfl rfl ?_
        refine s_val hF (x_load rfl (m_load flat3 (m4.cell (j := 1) rfl))) (by decide) fun a hF => ?_
        refine s_grd 51 hF rfl rfl rfl ?_
        refine s_val hF (x_gtr (b := true) (decide_eq_true (by omega)) rfl rfl) (by decide) fun a hF => ?_
        refine s_grd 47 hF rfl rfl rfl ?_
        refine s_val hF (x_pick (b := false) rfl rfl) (by decide) fun a hF => ?_
        refine s_val hF (x_pick (b := true) rfl rfl) (by decide) fun a hF => ?_
        refine s_val hF (x_assign rfl) (by decide) fun a hF => ?_
        refine s_end (hK19 _ _ ?_)
        refine wp_if hF rfl ?_
        refine wp_rs fun K20 hK20 => ?_
        refine s_val hF (x_assign rfl) (by decide) fun a hF => ?_
        refine s_end (hK20 _ _ ?_)
        refine wp_ret (inb_ret (then_ret (res_slot hF rfl rfl ⟨_, rfl, ⟨by rw [heq], by rw [heq]; exact mg⟩, hK⟩)))
      · have hlf := nodeErr_leaf (vars := vars) (n := n + 1) (d := d) (c := c) (by omega) (by omega)
        obtain ⟨z, m, rfl⟩ := hx.var_of hq.1
        have hzn : xn = z := hx.2.1
        have hle : leafErr vars (.var z m) = 0 := by simp only [leafErr]; rw [if_neg (by omega)]
        rw [hle] at hlf
        rw [hlf, if_neg (by decide)] at heq
        have hk9 := CT.kids_arT2 hx (by omega)
        rw [← hKC] at hk9
        refine wp_rs fun K21 hK21 => ?_
        refine s_val hF (x_fa0 fa27_0 rfl) (by decide) fun a hF => ?_
        refine s_val hF (x_load rfl (m_load flat3 (m4.cell (j := 0) rfl))) (by decide) fun a hF => ?_
        refine s_val hF (x_eql (b := true) (decide_eq_true (by omega)) rfl rfl) (by decide) fun a hF => ?_
        refine s_val hF (x_move rfl) (by decide) fun a hF => ?_
        refine s_grd 47 hF rfl rfl rfl ?_
        refine s_val hF (x_fa0 fa27_1 rfl) (by decide) fun a hF => ?_
        refine s_grd 47 hF rfl rfl rfl ?_
        refine s_val hF (x_load rfl (m_load flat3 (m4.cell (j := 1) rfl))) (by decide) fun a hF => ?_
        refine s_grd 47 hF rfl rfl rfl ?_
        refine s_val hF (x_lss (b := false) (decide_eq_false (by omega)) rfl rfl) (by decide) fun a hF => ?_
        refine s_grd 47 hF rfl rfl rfl ?_
        refine s_val hF (x_move rfl) (by decide) fun a hF => ?_
        refine s_grd 51 hF rfl rfl rfl ?_
        refine s_val hF (x_fa0 fa27_1 rfl) (by decide) fun a hF => ?_
        refine s_grd 51 hF rfl rfl rfl ?_
        refine s_val hF (x_load rfl (m_load flat3 (m4.cell (j := 1) rfl))) (by decide) fun a hF => ?_
        refine s_grd 51 hF rfl rfl rfl ?_
        refine s_val hF (x_gtr (b := false) (decide_eq_false (by omega)) rfl rfl) (by decide) fun a hF => ?_
        refine s_grd 47 hF rfl rfl rfl ?_
        refine s_val hF (x_pick (b := false) rfl rfl) (by decide) fun a hF => ?_
        refine s_val hF (x_pick (b := true) rfl rfl) (by decide) fun a hF => ?_
        refine s_val hF (x_assign rfl) (by decide) fun a hF => ?_
        refine s_end (hK21 _ _ ?_)
        refine wp_if hF rfl ?_
        refine wp_rs fun K22 hK22 => ?_
        refine s_val hF (x_fa0 fa27_0 rfl) (by decide) fun a hF => ?_
        refine s_val hF (x_load rfl (m_load flat3 (m4.cell (j := 0) rfl))) (by decide) fun a hF => ?_
        refine s_val hF (x_eql (b := false) (decide_eq_false (by omega)) rfl rfl) (by decide) fun a hF => ?_
        refine s_val hF (x_assign rfl) (by decide) fun a hF => ?_
        refine s_end (hK22 _ _ ?_)
        refine wp_if hF rfl ?_
        refine wp_rs fun K23 hK23 => ?_
        refine s_val hF (x_fa0 fa27_0 rfl) (by decide) fun a hF => ?_
        refine s_val hF (x_load rfl (m_load flat3 (m4.cell (j := 0) rfl))) (by decide) fun a hF => ?_
        refine s_val hF (x_eql (b := false) (decide_eq_false (by omega)) rfl rfl) (by decide) fun a hF => ?_
        refine s_val hF (x_assign rfl) (by decide) fun a hF => ?_
        refine s_end (hK23 _ _ ?_)
        refine wp_if hF rfl ?_
        refine wp_skip (hK3 _ _ ?_)
        refine wp_seq_k fun K24 hK24 => ?_
        refine wp_rs fun K25 hK25 => ?_
        refine s_val hF (x_fa0 fa27_5 rfl) (by decide) fun a hF => ?_
        refine s_val hF (x_load rfl (m_load flat25 (m4.cell (j := 7) rfl))) (by decide) fun a hF => ?_
        refine s_val hF (x_len Try.underlying25 rfl) (by decide) fun a hF => ?_
        refine s_val hF (x_move rfl) (by decide) fun a hF => ?_
        refine s_end (hK25 _ _ ?_)
        refine wp_block ?_
        refine wp_up nv (fun i a w => ∃ n2 : Nat, mayK vars (KC.drop i) (d + 1) n2 = mayK vars KC (d + 1) (n + 1) ∧ n2 ≤ 400 ∧ Blk w g 3 [.int .i64 (n2 : Int)] ∧ Below w0.heap.size w0 w ∧ Ktw g g w1 w ∧ Fs 108 a [(1, .int .i64 vars), (2, .int .i64 d), (3, .pointer (some ⟨g, 0, none⟩)), (92, .slice av nv cv), (93, .int .i64 (nv : Int)), (94, .int .i64 (i : Int))]) ⟨n + 1, rfl, by omega, mg, hB, hK, hF.sub _ rfl⟩ ?_
        repeat clear hF
        clear hB hK mg m4
        rintro i a w hi ⟨n2, hn2, hn3, mg, hB, hK, hF⟩ K' hK'
        have sB := hB.size
        have sK := hK.size
        have hgl := mg.lt
        refine wp_rs fun K26 hK26 => ?_
        refine s_val hF (x_lss (b := decide (i < nv)) (decide_eq_decide.2 (by omega)) rfl rfl) (by decide) fun a hF => ?_
        refine s_end (hK26 _ _ ?_)
        refine wp_seq_k fun K27 hK27 => ?_
        refine wp_iff hF rfl (fun hc95 => ?_) (fun hc95 => ?_)
        · obtain ⟨b9, off9, c9, y, kd, hve, hyk, hry, hAb, hbl, hrow⟩ := hkid.row (i := i) (by omega)
          cases hve
          have hks := CT.kid_size (hKC ▸ hyk)
          have hkf := CT.fit_kid hfit (hKC ▸ hyk)
          have hma := mayK_at (vars := vars) (d := d + 1) (n := n2) hyk
          rw [hn2] at hma
          refine wp_skip (hK27 _ _ ?_)
          refine wp_seq_k fun K28 hK28 => ?_
          refine wp_block ?_
          refine wp_rs fun K29 hK29 => ?_
          refine s_val hF (x_ixa rfl rfl (m_ixsK i Try.underlying25 el25.size rfl (by omega))) (by decide) fun a hF => ?_
          refine s_val hF (x_ldA wide27 (hrow _ (hB.block _ hbl)) rfl rfl) (by decide) fun a hF => ?_
          refine s_alloc hF (by decide) zero27 fun w12 b13 a eb13 m13 B13 zb13 hF => ?_
          have sB13 := B13.size
          have hB := hB.trans (B13.mono hB.size)
          have hK := hK.below B13
          have mg := mg.old B13
          refine s_putW hF rfl rfl (size_wide wide27) m13 rfl hry.one fun w16 m13 o17 => ?_
          have so17 := o17.size
          have hB := hB.trans (o17.below (by omega))
          have hK := hK.only o17 (by omega)
          have mg := mg.only o17 (by omega)
          refine s_end (hK29 _ _ ?_)
          refine wp_rs fun K30 hK30 => ?_
          refine s_val hF (x_ldW wide27 m13 rfl rfl) (by decide) fun a hF => ?_
          refine s_val hF (x_move rfl) (by decide) fun a hF => ?_
          refine s_val hF (x_move rfl) (by decide) fun a hF => ?_
          refine s_val hF (x_add (by omega) (by omega) rfl rfl) (by decide) fun a hF => ?_
          refine s_val hF (x_move rfl) (by decide) fun a hF => ?_
          refine s_call (R := fun u w' => (u = .int .i64 (kd.mayT vars (d + 1) n2).1 ∧ Blk w' g 3 [.int .i64 (((kd.mayT vars (d + 1) n2).2 : Nat) : Int)]) ∧ Ktw g g w16 w') hF [_, _, _, _] (enters_of Try.func62 (by kernel_rfl) rfl) rfl (by decide) (ih kd y (by omega) hry hkf (d + 1) n2 w16 (by omega) (by omega) hn3 hB mg) ?_
          rintro _ w18 a ⟨⟨rfl, mg⟩, k19⟩ hF
          have sk19 := k19.size
          have hB := k19.under hB (by omega)
          have hK := hK.trans k19 (by omega)
          have m13 := m13.k2 k19 (by omega)
          refine s_val hF (x_assign rfl) (by decide) fun a hF => ?_
          refine s_end (hK30 _ _ ?_)
          refine wp_rs fun K31 hK31 => ?_
          refine s_val hF (x_move rfl) (by decide) fun a hF => ?_
          refine s_val hF (x_neq rfl rfl rfl) (by decide) fun a hF => ?_
          refine s_end (hK31 _ _ ?_)
          refine wp_iff hF rfl (fun hc105 => ?_) (fun hc105 => ?_)
          · rw [if_pos hc105] at hma
            rw [hma] at heq
            refine wp_rs fun K32 hK32 => ?_
            refine s_val hF (x_move rfl) (by decide) fun a hF => ?_
            refine s_val hF (x_assign rfl) (by decide) fun a hF => ?_
            refine s_end (hK32 _ _ ?_)
            refine wp_ret (inb_ret (then_ret (then_ret (inb_ret (then_ret (res_slot hF rfl rfl ⟨_, rfl, ⟨by rw [heq], by rw [heq]; exact mg⟩, hK⟩))))))
          · rw [if_neg hc105] at hma
            have hmz := may_zero (vars := vars) kd y (d + 1) n2 hry (by omega)
            refine wp_skip (hK28 _ _ ?_)
            refine wp_region_lit ?_
            refine s_val hF (x_addn (i + 1) (by omega) (by omega) rfl rfl) (by decide) fun a hF => ?_
            refine s_val hF (x_move rfl) (by decide) fun a hF => ?_
            refine s_end (hK' _ _ (by omega) ⟨_, hma.symm, by omega, mg, hB, hK, hF.sub _ rfl⟩)
        · obtain rfl : i = nv := by omega
          rw [List.drop_of_length_le (by omega), mayK] at hn2
          rw [← hn2] at heq
          refine wp_exit (hK24 _ _ ?_)
          refine wp_rs fun K33 hK33 => ?_
          refine s_val hF (x_assign rfl) (by decide) fun a hF => ?_
          refine s_end (hK33 _ _ ?_)
          refine wp_ret (res_slot hF rfl rfl ⟨_, rfl, ⟨by rw [heq], by rw [heq]; exact mg⟩, hK⟩)
      · obtain ⟨l, m, rfl⟩ := hx.sort_of hq
        refine wp_rs fun K34 hK34 => ?_
        refine s_val hF (x_fa0 fa27_0 rfl) (by decide) fun a hF => ?_
        refine s_val hF (x_load rfl (m_load flat3 (m4.cell (j := 0) rfl))) (by decide) fun a hF => ?_
        refine s_val hF (x_eql (b := false) (decide_eq_false (by omega)) rfl rfl) (by decide) fun a hF => ?_
        refine s_val hF (x_move rfl) (by decide) fun a hF => ?_
        refine s_grdn 47 hF rfl rfl (by decide) fun a hF => ?_
        refine s_grdn 47 hF rfl rfl (by decide) fun a hF => ?_
        refine s_grdn 47 hF rfl rfl (by decide) fun a hF => ?_
        refine s_grdn 47 hF rfl rfl (by decide) fun a hF => ?_
        refine s_grdu 51 hF rfl rfl (by decide) fun a hF => ?_
        refine s_grdu 51 hF rfl rfl (by decide) fun a hF => ?_
        refine s_grdu 51 hF rfl rfl (by decide) fun a hF => ?_
        refine s_grdn 47 hF rfl rfl (by decide) fun a hF => ?_
        refine s_val hF (x_pick (b := false) rfl rfl) (by decide) fun a hF => ?_
        refine s_val hF (x_assign rfl) (by decide) fun a hF => ?_
        refine s_end (hK34 _ _ ?_)
        refine wp_if hF rfl ?_
        refine wp_rs fun K35 hK35 => ?_
        refine s_val hF (x_fa0 fa27_0 rfl) (by decide) fun a hF => ?_
        refine s_val hF (x_load rfl (m_load flat3 (m4.cell (j := 0) rfl))) (by decide) fun a hF => ?_
        refine s_val hF (x_eql (b := true) (decide_eq_true (by omega)) rfl rfl) (by decide) fun a hF => ?_
        refine s_val hF (x_assign rfl) (by decide) fun a hF => ?_
        refine s_end (hK35 _ _ ?_)
        refine wp_if hF rfl ?_
        refine wp_rs fun K36 hK36 => ?_
        refine s_val hF (x_fa0 fa27_3 rfl) (by decide) fun a hF => ?_
        refine s_val hF (x_load rfl (m_loadP (vs := [_, _, _]) wide24 m4 rfl)) (by decide) fun a hF => ?_
        refine s_val hF (x_move rfl) (by decide) fun a hF => ?_
        have hl9 : RLn w0 _ xl l := hx.2.1
        refine s_callB [_, _] hF (enters_of Try.func42 (by kernel_rfl) rfl) rfl (by decide) (rmay14 xl l vars w10 ((hl9.keep hB.size (fun k hk _ => hB.block k hk)).rl)) fun w20 a B21 hF => ?_
        have sB21 := B21.size
        have hB := hB.trans (B21.mono hB.size)
        have hK := hK.below B21
        have mg := mg.old B21
        have m4 := m4.old B21
        refine s_val hF (x_assign rfl) (by decide) fun a hF => ?_
        refine s_end (hK36 _ _ ?_)
        have hcs : (CT.sort l m).mayT vars d n = ((chk 32 1048576 vars 1 100 l).1, n + 1) := by simp only [CT.mayT]; rw [nodeErr_leaf (by omega) (by omega)]; rfl
        refine wp_ret (inb_ret (then_ret (res_slot hF rfl rfl ⟨_, rfl, ⟨by rw [hcs], by rw [hcs]; exact mg⟩, hK⟩)))
      · have hlf := nodeErr_leaf (vars := vars) (n := n + 1) (d := d) (c := c) (by omega) (by omega)
        obtain ⟨s, ls, m, rfl⟩ := hx.cst_of hq
        have hs9 : xs = s := hx.2.1
        have hls9 : RVn w0 _ xls ls := hx.2.2.1
        obtain ⟨la, lcp, hlv, _, _⟩ := hls9.form
        subst hs9 hlv
        refine wp_rs fun K37 hK37 => ?_
        refine s_val hF (x_fa0 fa27_0 rfl) (by decide) fun a hF => ?_
        refine s_val hF (x_load rfl (m_load flat3 (m4.cell (j := 0) rfl))) (by decide) fun a hF => ?_
        refine s_val hF (x_eql (b := false) (decide_eq_false (by omega)) rfl rfl) (by decide) fun a hF => ?_
        refine s_val hF (x_move rfl) (by decide) fun a hF => ?_
        refine s_grdn 47 hF rfl rfl (by decide) fun a hF => ?_
        refine s_grdn 47 hF rfl rfl (by decide) fun a hF => ?_
        refine s_grdn 47 hF rfl rfl (by decide) fun a hF => ?_
        refine s_grdn 47 hF rfl rfl (by decide) fun a hF => ?_
        refine s_grdu 51 hF rfl rfl (by decide) fun a hF => ?_
        refine s_grdu 51 hF rfl rfl (by decide) fun a hF => ?_
        refine s_grdu 51 hF rfl rfl (by decide) fun a hF => ?_
        refine s_grdn 47 hF rfl rfl (by decide) fun a hF => ?_
        refine s_val hF (x_pick (b := false) rfl rfl) (by decide) fun a hF => ?_
        refine s_val hF (x_assign rfl) (by decide) fun a hF => ?_
        refine s_end (hK37 _ _ ?_)
        refine wp_if hF rfl ?_
        refine wp_rs fun K38 hK38 => ?_
        refine s_val hF (x_fa0 fa27_0 rfl) (by decide) fun a hF => ?_
        refine s_val hF (x_load rfl (m_load flat3 (m4.cell (j := 0) rfl))) (by decide) fun a hF => ?_
        refine s_val hF (x_eql (b := false) (decide_eq_false (by omega)) rfl rfl) (by decide) fun a hF => ?_
        refine s_val hF (x_assign rfl) (by decide) fun a hF => ?_
        refine s_end (hK38 _ _ ?_)
        refine wp_if hF rfl ?_
        refine wp_rs fun K39 hK39 => ?_
        refine s_val hF (x_fa0 fa27_0 rfl) (by decide) fun a hF => ?_
        refine s_val hF (x_load rfl (m_load flat3 (m4.cell (j := 0) rfl))) (by decide) fun a hF => ?_
        refine s_val hF (x_eql (b := true) (decide_eq_true (by omega)) rfl rfl) (by decide) fun a hF => ?_
        refine s_val hF (x_assign rfl) (by decide) fun a hF => ?_
        refine s_end (hK39 _ _ ?_)
        refine wp_if hF rfl ?_
        refine wp_seq_k fun K40 hK40 => ?_
        rcases (show nameB xs = false ∨ nameB xs = true by cases nameB xs <;> simp) with hw | hw
        · have hle : leafErr vars (.cst xs ls m) = 8 := by simp only [leafErr]; rw [if_pos hw]
          rw [hle] at hlf
          rw [hlf, if_pos (by decide)] at heq
          refine wp_rs fun K42 hK42 => ?_
          refine s_val hF (x_fa0 fa27_2 rfl) (by decide) fun a hF => ?_
          refine s_val hF (x_load rfl (m_load flat9 (m4.cell (j := 2) rfl))) (by decide) fun a hF => ?_
          refine s_callS [_] hF (enters_of Try.func28 (by kernel_rfl) rfl) rfl (by decide) ((rName32 xs w10 hfit.1).mono fun e w' h => ⟨by rw [h.1, hw], h.2⟩) fun a hF => ?_
          refine s_val hF (x_not rfl) (by decide) fun a hF => ?_
          refine s_end (hK42 _ _ ?_)
          refine wp_if hF rfl ?_
          refine wp_rs fun K43 hK43 => ?_
          refine s_val hF (x_assign rfl) (by decide) fun a hF => ?_
          refine s_end (hK43 _ _ ?_)
          refine wp_ret (then_ret (inb_ret (then_ret (res_slot hF rfl rfl ⟨_, rfl, ⟨by rw [heq], by rw [heq]; exact mg⟩, hK⟩))))
        · skip
          refine wp_rs fun K44 hK44 => ?_
          refine s_val hF (x_fa0 fa27_2 rfl) (by decide) fun a hF => ?_
          refine s_val hF (x_load rfl (m_load flat9 (m4.cell (j := 2) rfl))) (by decide) fun a hF => ?_
          refine s_callS [_] hF (enters_of Try.func28 (by kernel_rfl) rfl) rfl (by decide) ((rName32 xs w10 hfit.1).mono fun e w' h => ⟨by rw [h.1, hw], h.2⟩) fun a hF => ?_
          refine s_val hF (x_not rfl) (by decide) fun a hF => ?_
          refine s_end (hK44 _ _ ?_)
          refine wp_if hF rfl ?_
          refine wp_skip (hK40 _ _ ?_)
          refine wp_seq_k fun K45 hK45 => ?_
          rcases (show 6 < (ls.length : Int) ∨ ¬ 6 < (ls.length : Int) by omega) with hv | hv
          · have hle : leafErr vars (.cst xs ls m) = 2 := by simp only [leafErr]; rw [if_neg (by rw [hw]; decide), if_pos (by omega)]
            rw [hle] at hlf
            rw [hlf, if_pos (by decide)] at heq
            refine wp_rs fun K47 hK47 => ?_
            refine s_val hF (x_fa0 fa27_4 rfl) (by decide) fun a hF => ?_
            refine s_val hF (x_load rfl (m_load flat22 (m4.cell (j := 6) rfl))) (by decide) fun a hF => ?_
            refine s_val hF (x_len Try.underlying22 rfl) (by decide) fun a hF => ?_
            refine s_val hF (x_gtr (b := true) (decide_eq_true (by omega)) rfl rfl) (by decide) fun a hF => ?_
            refine s_end (hK47 _ _ ?_)
            refine wp_if hF rfl ?_
            refine wp_rs fun K48 hK48 => ?_
            refine s_val hF (x_assign rfl) (by decide) fun a hF => ?_
            refine s_end (hK48 _ _ ?_)
            refine wp_ret (then_ret (inb_ret (then_ret (res_slot hF rfl rfl ⟨_, rfl, ⟨by rw [heq], by rw [heq]; exact mg⟩, hK⟩))))
          · have hle0 : leafErr vars (.cst xs ls m) = fstErr vars ls := by simp only [leafErr]; rw [if_neg (by rw [hw]; decide), if_neg (by omega)]
            refine wp_rs fun K49 hK49 => ?_
            refine s_val hF (x_fa0 fa27_4 rfl) (by decide) fun a hF => ?_
            refine s_val hF (x_load rfl (m_load flat22 (m4.cell (j := 6) rfl))) (by decide) fun a hF => ?_
            refine s_val hF (x_len Try.underlying22 rfl) (by decide) fun a hF => ?_
            refine s_val hF (x_gtr (b := false) (decide_eq_false (by omega)) rfl rfl) (by decide) fun a hF => ?_
            refine s_end (hK49 _ _ ?_)
            refine wp_if hF rfl ?_
            refine wp_skip (hK45 _ _ ?_)
            refine wp_rs fun K50 hK50 => ?_
            refine s_val hF (x_fa0 fa27_4 rfl) (by decide) fun a hF => ?_
            refine s_val hF (x_load rfl (m_load flat22 (m4.cell (j := 6) rfl))) (by decide) fun a hF => ?_
            refine s_val hF (x_len Try.underlying22 rfl) (by decide) fun a hF => ?_
            refine s_val hF (x_move rfl) (by decide) fun a hF => ?_
            refine s_end (hK50 _ _ ?_)
            refine wp_block ?_
            refine wp_up ls.length (fun i a w => leafErr vars (.cst xs ls m) = fstErr vars (ls.drop i) ∧ Blk w g 3 [.int .i64 ((n + 1 : Nat) : Int)] ∧ Blk w b4 27 [.int .i64 xk, .int .i64 xn, .string xs, .int .i64 xl.1, .int .i64 xl.2.1, xl.2.2, .slice la ls.length lcp, .slice av nv cv] ∧ Below w0.heap.size w0 w ∧ Ktw g g w1 w ∧ Fs 108 a [(1, .int .i64 vars), (2, .int .i64 d), (3, .pointer (some ⟨g, 0, none⟩)), (4, .pointer (some ⟨b4, 0, none⟩)), (78, .slice la ls.length lcp), (79, .int .i64 (ls.length : Int)), (80, .int .i64 (i : Int))]) ⟨by simpa using hle0, mg, m4, hB, hK, hF.sub _ rfl⟩ ?_
            have hb4 : b4 ≠ g ∧ w1.heap.size ≤ b4 := by omega
            repeat clear hF
            clear hB hK mg m4
            rintro i a w hi ⟨hlei, mg, m4, hB, hK, hF⟩ K' hK'
            have sB := hB.size
            have sK := hK.size
            have hgl := mg.lt
            have h4l := m4.lt
            refine wp_rs fun K51 hK51 => ?_
            refine s_val hF (x_lss (b := decide (i < ls.length)) (decide_eq_decide.2 (by omega)) rfl rfl) (by decide) fun a hF => ?_
            refine s_end (hK51 _ _ ?_)
            refine wp_seq_k fun K52 hK52 => ?_
            refine wp_iff hF rfl (fun hc81 => ?_) (fun hc81 => ?_)
            · obtain ⟨b9, off9, c9, y, l, hve, hl, hry, hAb, hbl, hrow⟩ := hls9.row (i := i) (by omega)
              cases hve
              have hfe := fstErr_at (vars := vars) hl
              have h1y := hry.rl.one1
              refine wp_skip (hK52 _ _ ?_)
              refine wp_seq_k fun K53 hK53 => ?_
              refine wp_block ?_
              refine wp_rs fun K54 hK54 => ?_
              refine s_val hF (x_ixa rfl rfl (m_ixsK i Try.underlying22 el22.size rfl (by omega))) (by decide) fun a hF => ?_
              refine s_val hF (x_ldA wide24 (hrow _ (hB.block _ hbl)) rfl rfl) (by decide) fun a hF => ?_
              refine s_alloc hF (by decide) zero24 fun w22 b10 a eb10 m10 B23 zb10 hF => ?_
              have sB23 := B23.size
              have hB := hB.trans (B23.mono hB.size)
              have hK := hK.below B23
              have mg := mg.old B23
              have m4 := m4.old B23
              refine s_putW hF rfl rfl (size_wide wide24) m10 rfl (one_lc h1y) fun w26 m10 o27 => ?_
              have so27 := o27.size
              have hB := hB.trans (o27.below (by omega))
              have hK := hK.only o27 (by omega)
              have mg := mg.only o27 (by omega)
              have m4 := m4.only o27 (by omega)
              refine s_end (hK54 _ _ ?_)
              refine wp_rs fun K55 hK55 => ?_
              refine s_val hF (x_ldW wide24 m10 rfl rfl) (by decide) fun a hF => ?_
              refine s_val hF (x_move rfl) (by decide) fun a hF => ?_
              refine s_callB [_, _] hF (enters_of Try.func42 (by kernel_rfl) rfl) rfl (by decide) (rmay14 y l vars w26 ((hry.keep hB.size (fun k hk _ => hB.block k hk)).rl)) fun w28 a B29 hF => ?_
              have sB29 := B29.size
              have hB := hB.trans (B29.mono hB.size)
              have hK := hK.below B29
              have mg := mg.old B29
              have m4 := m4.old B29
              have m10 := m10.old B29
              refine s_val hF (x_assign rfl) (by decide) fun a hF => ?_
              refine s_end (hK55 _ _ ?_)
              refine wp_rs fun K56 hK56 => ?_
              refine s_val hF (x_move rfl) (by decide) fun a hF => ?_
              refine s_val hF (x_neq rfl rfl rfl) (by decide) fun a hF => ?_
              refine s_end (hK56 _ _ ?_)
              refine wp_iff hF rfl (fun hc88 => ?_) (fun hc88 => ?_)
              · rw [hfe, if_pos hc88] at hlei
                rw [hlei] at hlf
                rw [hlf, if_pos hc88] at heq
                refine wp_rs fun K57 hK57 => ?_
                refine s_val hF (x_move rfl) (by decide) fun a hF => ?_
                refine s_val hF (x_assign rfl) (by decide) fun a hF => ?_
                refine s_end (hK57 _ _ ?_)
                refine wp_ret (inb_ret (then_ret (then_ret (inb_ret (inb_ret (then_ret (res_slot hF rfl rfl ⟨_, rfl, ⟨by rw [heq], by rw [heq]; exact mg⟩, hK⟩)))))))
              · rw [hfe, if_neg hc88] at hlei
                refine wp_skip (hK53 _ _ ?_)
                refine wp_region_lit ?_
                refine s_val hF (x_addn (i + 1) (by omega) (by have := hfit.2; omega) rfl rfl) (by decide) fun a hF => ?_
                refine s_val hF (x_move rfl) (by decide) fun a hF => ?_
                refine s_end (hK' _ _ (by omega) ⟨hlei, mg, m4, hB, hK, hF.sub _ rfl⟩)
            · obtain rfl : i = ls.length := by omega
              rw [List.drop_length] at hlei
              rw [hlei] at hlf
              have hlf : nodeErr vars d (n + 1) (.cst xs ls m) = 0 := hlf
              rw [hlf, if_neg (by decide)] at heq
              have hk9 := CT.kids_arT2 hx (by omega)
              rw [← hKC] at hk9
              refine wp_exit (hK3 _ _ ?_)
              refine wp_seq_k fun K58 hK58 => ?_
              refine wp_rs fun K59 hK59 => ?_
              refine s_val hF (x_fa0 fa27_5 rfl) (by decide) fun a hF => ?_
              refine s_val hF (x_load rfl (m_load flat25 (m4.cell (j := 7) rfl))) (by decide) fun a hF => ?_
              refine s_val hF (x_len Try.underlying25 rfl) (by decide) fun a hF => ?_
              refine s_val hF (x_move rfl) (by decide) fun a hF => ?_
              refine s_end (hK59 _ _ ?_)
              refine wp_block ?_
              refine wp_up nv (fun i a w => ∃ n2 : Nat, mayK vars (KC.drop i) (d + 1) n2 = mayK vars KC (d + 1) (n + 1) ∧ n2 ≤ 400 ∧ Blk w g 3 [.int .i64 (n2 : Int)] ∧ Below w0.heap.size w0 w ∧ Ktw g g w1 w ∧ Fs 108 a [(1, .int .i64 vars), (2, .int .i64 d), (3, .pointer (some ⟨g, 0, none⟩)), (92, .slice av nv cv), (93, .int .i64 (nv : Int)), (94, .int .i64 (i : Int))]) ⟨n + 1, rfl, by omega, mg, hB, hK, hF.sub _ rfl⟩ ?_
              repeat clear hF
              clear hB hK mg m4
              rintro i a w hi ⟨n2, hn2, hn3, mg, hB, hK, hF⟩ K' hK'
              have sB := hB.size
              have sK := hK.size
              have hgl := mg.lt
              refine wp_rs fun K60 hK60 => ?_
              refine s_val hF (x_lss (b := decide (i < nv)) (decide_eq_decide.2 (by omega)) rfl rfl) (by decide) fun a hF => ?_
              refine s_end (hK60 _ _ ?_)
              refine wp_seq_k fun K61 hK61 => ?_
              refine wp_iff hF rfl (fun hc95 => ?_) (fun hc95 => ?_)
              · obtain ⟨b9, off9, c9, y, kd, hve, hyk, hry, hAb, hbl, hrow⟩ := hkid.row (i := i) (by omega)
                cases hve
                have hks := CT.kid_size (hKC ▸ hyk)
                have hkf := CT.fit_kid hfit (hKC ▸ hyk)
                have hma := mayK_at (vars := vars) (d := d + 1) (n := n2) hyk
                rw [hn2] at hma
                refine wp_skip (hK61 _ _ ?_)
                refine wp_seq_k fun K62 hK62 => ?_
                refine wp_block ?_
                refine wp_rs fun K63 hK63 => ?_
                refine s_val hF (x_ixa rfl rfl (m_ixsK i Try.underlying25 el25.size rfl (by omega))) (by decide) fun a hF => ?_
                refine s_val hF (x_ldA wide27 (hrow _ (hB.block _ hbl)) rfl rfl) (by decide) fun a hF => ?_
                refine s_alloc hF (by decide) zero27 fun w30 b13 a eb13 m13 B31 zb13 hF => ?_
                have sB31 := B31.size
                have hB := hB.trans (B31.mono hB.size)
                have hK := hK.below B31
                have mg := mg.old B31
                refine s_putW hF rfl rfl (size_wide wide27) m13 rfl hry.one fun w34 m13 o35 => ?_
                have so35 := o35.size
                have hB := hB.trans (o35.below (by omega))
                have hK := hK.only o35 (by omega)
                have mg := mg.only o35 (by omega)
                refine s_end (hK63 _ _ ?_)
                refine wp_rs fun K64 hK64 => ?_
                refine s_val hF (x_ldW wide27 m13 rfl rfl) (by decide) fun a hF => ?_
                refine s_val hF (x_move rfl) (by decide) fun a hF => ?_
                refine s_val hF (x_move rfl) (by decide) fun a hF => ?_
                refine s_val hF (x_add (by omega) (by omega) rfl rfl) (by decide) fun a hF => ?_
                refine s_val hF (x_move rfl) (by decide) fun a hF => ?_
                refine s_call (R := fun u w' => (u = .int .i64 (kd.mayT vars (d + 1) n2).1 ∧ Blk w' g 3 [.int .i64 (((kd.mayT vars (d + 1) n2).2 : Nat) : Int)]) ∧ Ktw g g w34 w') hF [_, _, _, _] (enters_of Try.func62 (by kernel_rfl) rfl) rfl (by decide) (ih kd y (by omega) hry hkf (d + 1) n2 w34 (by omega) (by omega) hn3 hB mg) ?_
                rintro _ w36 a ⟨⟨rfl, mg⟩, k37⟩ hF
                have sk37 := k37.size
                have hB := k37.under hB (by omega)
                have hK := hK.trans k37 (by omega)
                have m13 := m13.k2 k37 (by omega)
                refine s_val hF (x_assign rfl) (by decide) fun a hF => ?_
                refine s_end (hK64 _ _ ?_)
                refine wp_rs fun K65 hK65 => ?_
                refine s_val hF (x_move rfl) (by decide) fun a hF => ?_
                refine s_val hF (x_neq rfl rfl rfl) (by decide) fun a hF => ?_
                refine s_end (hK65 _ _ ?_)
                refine wp_iff hF rfl (fun hc105 => ?_) (fun hc105 => ?_)
                · rw [if_pos hc105] at hma
                  rw [hma] at heq
                  refine wp_rs fun K66 hK66 => ?_
                  refine s_val hF (x_move rfl) (by decide) fun a hF => ?_
                  refine s_val hF (x_assign rfl) (by decide) fun a hF => ?_
                  refine s_end (hK66 _ _ ?_)
                  refine wp_ret (inb_ret (then_ret (then_ret (inb_ret (then_ret (res_slot hF rfl rfl ⟨_, rfl, ⟨by rw [heq], by rw [heq]; exact mg⟩, hK⟩))))))
                · rw [if_neg hc105] at hma
                  have hmz := may_zero (vars := vars) kd y (d + 1) n2 hry (by omega)
                  refine wp_skip (hK62 _ _ ?_)
                  refine wp_region_lit ?_
                  refine s_val hF (x_addn (i + 1) (by omega) (by omega) rfl rfl) (by decide) fun a hF => ?_
                  refine s_val hF (x_move rfl) (by decide) fun a hF => ?_
                  refine s_end (hK' _ _ (by omega) ⟨_, hma.symm, by omega, mg, hB, hK, hF.sub _ rfl⟩)
              · obtain rfl : i = nv := by omega
                rw [List.drop_of_length_le (by omega), mayK] at hn2
                rw [← hn2] at heq
                refine wp_exit (hK58 _ _ ?_)
                refine wp_rs fun K67 hK67 => ?_
                refine s_val hF (x_assign rfl) (by decide) fun a hF => ?_
                refine s_end (hK67 _ _ ?_)
                refine wp_ret (res_slot hF rfl rfl ⟨_, rfl, ⟨by rw [heq], by rw [heq]; exact mg⟩, hK⟩)
      · have hlf := nodeErr_leaf (vars := vars) (n := n + 1) (d := d) (c := c) (by omega) (by omega)
        rw [leafErr_rest hx hq] at hlf
        rw [hlf, if_neg (by decide)] at heq
        have hk9 := CT.kids_arT2 hx (by omega)
        rw [← hKC] at hk9
        refine wp_rs fun K68 hK68 => ?_
        refine s_val hF (x_fa0 fa27_0 rfl) (by decide) fun a hF => ?_
        refine s_val hF (x_load rfl (m_load flat3 (m4.cell (j := 0) rfl))) (by decide) fun a hF => ?_
        refine s_val hF (x_eql (b := false) (decide_eq_false (by omega)) rfl rfl) (by decide) fun a hF => ?_
        refine s_val hF (x_move rfl) (by decide) fun a hF => ?_
        refine s_grdn 47 hF rfl rfl (by decide) fun a hF => ?_
        refine s_grdn 47 hF rfl rfl (by decide) fun a hF => ?_
        refine s_grdn 47 hF rfl rfl (by decide) fun a hF => ?_
        refine s_grdn 47 hF rfl rfl (by decide) fun a hF => ?_
        refine s_grdu 51 hF rfl rfl (by decide) fun a hF => ?_
        refine s_grdu 51 hF rfl rfl (by decide) fun a hF => ?_
        refine s_grdu 51 hF rfl rfl (by decide) fun a hF => ?_
        refine s_grdn 47 hF rfl rfl (by decide) fun a hF => ?_
        refine s_val hF (x_pick (b := false) rfl rfl) (by decide) fun a hF => ?_
        refine s_val hF (x_assign rfl) (by decide) fun a hF => ?_
        refine s_end (hK68 _ _ ?_)
        refine wp_if hF rfl ?_
        refine wp_rs fun K69 hK69 => ?_
        refine s_val hF (x_fa0 fa27_0 rfl) (by decide) fun a hF => ?_
        refine s_val hF (x_load rfl (m_load flat3 (m4.cell (j := 0) rfl))) (by decide) fun a hF => ?_
        refine s_val hF (x_eql (b := false) (decide_eq_false (by omega)) rfl rfl) (by decide) fun a hF => ?_
        refine s_val hF (x_assign rfl) (by decide) fun a hF => ?_
        refine s_end (hK69 _ _ ?_)
        refine wp_if hF rfl ?_
        refine wp_rs fun K70 hK70 => ?_
        refine s_val hF (x_fa0 fa27_0 rfl) (by decide) fun a hF => ?_
        refine s_val hF (x_load rfl (m_load flat3 (m4.cell (j := 0) rfl))) (by decide) fun a hF => ?_
        refine s_val hF (x_eql (b := false) (decide_eq_false (by omega)) rfl rfl) (by decide) fun a hF => ?_
        refine s_val hF (x_assign rfl) (by decide) fun a hF => ?_
        refine s_end (hK70 _ _ ?_)
        refine wp_if hF rfl ?_
        refine wp_skip (hK3 _ _ ?_)
        refine wp_seq_k fun K71 hK71 => ?_
        refine wp_rs fun K72 hK72 => ?_
        refine s_val hF (x_fa0 fa27_5 rfl) (by decide) fun a hF => ?_
        refine s_val hF (x_load rfl (m_load flat25 (m4.cell (j := 7) rfl))) (by decide) fun a hF => ?_
        refine s_val hF (x_len Try.underlying25 rfl) (by decide) fun a hF => ?_
        refine s_val hF (x_move rfl) (by decide) fun a hF => ?_
        refine s_end (hK72 _ _ ?_)
        refine wp_block ?_
        refine wp_up nv (fun i a w => ∃ n2 : Nat, mayK vars (KC.drop i) (d + 1) n2 = mayK vars KC (d + 1) (n + 1) ∧ n2 ≤ 400 ∧ Blk w g 3 [.int .i64 (n2 : Int)] ∧ Below w0.heap.size w0 w ∧ Ktw g g w1 w ∧ Fs 108 a [(1, .int .i64 vars), (2, .int .i64 d), (3, .pointer (some ⟨g, 0, none⟩)), (92, .slice av nv cv), (93, .int .i64 (nv : Int)), (94, .int .i64 (i : Int))]) ⟨n + 1, rfl, by omega, mg, hB, hK, hF.sub _ rfl⟩ ?_
        repeat clear hF
        clear hB hK mg m4
        rintro i a w hi ⟨n2, hn2, hn3, mg, hB, hK, hF⟩ K' hK'
        have sB := hB.size
        have sK := hK.size
        have hgl := mg.lt
        refine wp_rs fun K73 hK73 => ?_
        refine s_val hF (x_lss (b := decide (i < nv)) (decide_eq_decide.2 (by omega)) rfl rfl) (by decide) fun a hF => ?_
        refine s_end (hK73 _ _ ?_)
        refine wp_seq_k fun K74 hK74 => ?_
        refine wp_iff hF rfl (fun hc95 => ?_) (fun hc95 => ?_)
        · obtain ⟨b9, off9, c9, y, kd, hve, hyk, hry, hAb, hbl, hrow⟩ := hkid.row (i := i) (by omega)
          cases hve
          have hks := CT.kid_size (hKC ▸ hyk)
          have hkf := CT.fit_kid hfit (hKC ▸ hyk)
          have hma := mayK_at (vars := vars) (d := d + 1) (n := n2) hyk
          rw [hn2] at hma
          refine wp_skip (hK74 _ _ ?_)
          refine wp_seq_k fun K75 hK75 => ?_
          refine wp_block ?_
          refine wp_rs fun K76 hK76 => ?_
          refine s_val hF (x_ixa rfl rfl (m_ixsK i Try.underlying25 el25.size rfl (by omega))) (by decide) fun a hF => ?_
          refine s_val hF (x_ldA wide27 (hrow _ (hB.block _ hbl)) rfl rfl) (by decide) fun a hF => ?_
          refine s_alloc hF (by decide) zero27 fun w38 b13 a eb13 m13 B39 zb13 hF => ?_
          have sB39 := B39.size
          have hB := hB.trans (B39.mono hB.size)
          have hK := hK.below B39
          have mg := mg.old B39
          refine s_putW hF rfl rfl (size_wide wide27) m13 rfl hry.one fun w42 m13 o43 => ?_
          have so43 := o43.size
          have hB := hB.trans (o43.below (by omega))
          have hK := hK.only o43 (by omega)
          have mg := mg.only o43 (by omega)
          refine s_end (hK76 _ _ ?_)
          refine wp_rs fun K77 hK77 => ?_
          refine s_val hF (x_ldW wide27 m13 rfl rfl) (by decide) fun a hF => ?_
          refine s_val hF (x_move rfl) (by decide) fun a hF => ?_
          refine s_val hF (x_move rfl) (by decide) fun a hF => ?_
          refine s_val hF (x_add (by omega) (by omega) rfl rfl) (by decide) fun a hF => ?_
          refine s_val hF (x_move rfl) (by decide) fun a hF => ?_
          refine s_call (R := fun u w' => (u = .int .i64 (kd.mayT vars (d + 1) n2).1 ∧ Blk w' g 3 [.int .i64 (((kd.mayT vars (d + 1) n2).2 : Nat) : Int)]) ∧ Ktw g g w42 w') hF [_, _, _, _] (enters_of Try.func62 (by kernel_rfl) rfl) rfl (by decide) (ih kd y (by omega) hry hkf (d + 1) n2 w42 (by omega) (by omega) hn3 hB mg) ?_
          rintro _ w44 a ⟨⟨rfl, mg⟩, k45⟩ hF
          have sk45 := k45.size
          have hB := k45.under hB (by omega)
          have hK := hK.trans k45 (by omega)
          have m13 := m13.k2 k45 (by omega)
          refine s_val hF (x_assign rfl) (by decide) fun a hF => ?_
          refine s_end (hK77 _ _ ?_)
          refine wp_rs fun K78 hK78 => ?_
          refine s_val hF (x_move rfl) (by decide) fun a hF => ?_
          refine s_val hF (x_neq rfl rfl rfl) (by decide) fun a hF => ?_
          refine s_end (hK78 _ _ ?_)
          refine wp_iff hF rfl (fun hc105 => ?_) (fun hc105 => ?_)
          · rw [if_pos hc105] at hma
            rw [hma] at heq
            refine wp_rs fun K79 hK79 => ?_
            refine s_val hF (x_move rfl) (by decide) fun a hF => ?_
            refine s_val hF (x_assign rfl) (by decide) fun a hF => ?_
            refine s_end (hK79 _ _ ?_)
            refine wp_ret (inb_ret (then_ret (then_ret (inb_ret (then_ret (res_slot hF rfl rfl ⟨_, rfl, ⟨by rw [heq], by rw [heq]; exact mg⟩, hK⟩))))))
          · rw [if_neg hc105] at hma
            have hmz := may_zero (vars := vars) kd y (d + 1) n2 hry (by omega)
            refine wp_skip (hK75 _ _ ?_)
            refine wp_region_lit ?_
            refine s_val hF (x_addn (i + 1) (by omega) (by omega) rfl rfl) (by decide) fun a hF => ?_
            refine s_val hF (x_move rfl) (by decide) fun a hF => ?_
            refine s_end (hK' _ _ (by omega) ⟨_, hma.symm, by omega, mg, hB, hK, hF.sub _ rfl⟩)
        · obtain rfl : i = nv := by omega
          rw [List.drop_of_length_le (by omega), mayK] at hn2
          rw [← hn2] at heq
          refine wp_exit (hK71 _ _ ?_)
          refine wp_rs fun K80 hK80 => ?_
          refine s_val hF (x_assign rfl) (by decide) fun a hF => ?_
          refine s_end (hK80 _ _ ?_)
          refine wp_ret (res_slot hF rfl rfl ⟨_, rfl, ⟨by rw [heq], by rw [heq]; exact mg⟩, hK⟩)
end Go.Proofs.Ytaclncmkdpjnlaa

namespace Go.Proofs.Ytaclncmkdpjnlaa
open Go.RowKit Go.Shelf
set_option linter.unusedVariables false
set_option linter.unusedSimpArgs false

/-- What whole lets pass. -/
def CT.wf (c : CT) : Prop := c.okV 6 ∧ c.size ≤ 400 ∧ c.dep ≤ 64
theorem CT.wf.ok {c : CT} (h : c.wf) : c.ok := ⟨by have := h.2.1; omega, by have := h.2.2; omega⟩
def PT.loose : PT → Int → Int
  | .var n, d => if d ≤ n then min (n - d + 1) 9223372036854775807 else 0
  | .two k p q, d => max (p.loose d) (q.loose (d + if k = 3 ∨ k = 4 then 1 else 0))
  | .lt p q r, d => max (p.loose d) (max (q.loose d) (r.loose (d + 1)))
  | .sort _, _ => 0
  | .cst _ _, _ => 0
  | .odd _, _ => 0
theorem PT.loose_nn : ∀ (p : PT) (d : Int), 0 ≤ p.loose d
  | .var n, d => by simp only [PT.loose]; split <;> omega
  | .two k p q, d => by have := p.loose_nn d; simp only [PT.loose]; omega
  | .lt p q r, d => by have := p.loose_nn d; simp only [PT.loose]; omega
  | .sort _, _ => Int.le_refl _
  | .cst _ _, _ => Int.le_refl _
  | .odd _, _ => Int.le_refl _
def mostL (ps : List Int) : Int := if ps.length = 0 then 0 else mxl ps
def Glo (c : CT) (d : Int) (ps : List Int) : Int := match c with
  | .var n _ => if d ≤ n then min (n - d + 1) 9223372036854775807 else 0
  | _ => mostL ps
theorem fold_loose : ∀ (c : CT) (d : Int), c.fold Glo d = c.ess.loose d
  | .two k p q m, d => by
    simp only [CT.fold, Glo, mostL, CT.ess, PT.loose, fold_loose p, fold_loose q, bnd2_0, bnd2_1, Int.add_zero, mxl, List.foldl_cons, List.foldl_nil, List.length_cons]
    have := p.ess.loose_nn d
    rw [if_neg (by omega)]
    omega
  | .lt p q r m, d => by
    simp only [CT.fold, Glo, mostL, CT.ess, PT.loose, fold_loose p, fold_loose q, fold_loose r, bnd3_0, bnd3_1, bnd3_2, Int.add_zero, mxl, List.foldl_cons, List.foldl_nil, List.length_cons]
    have := p.ess.loose_nn d
    rw [if_neg (by omega)]
    omega
  | .var .., d => rfl
  | .sort .., d => rfl
  | .cst .., d => rfl
  | .odd .., d => rfl
theorem Glo_kids {c : CT} {d : Int} : Lo (c.folds Glo d) := by
  intro z hz
  obtain ⟨i, hi, he⟩ := List.getElem_of_mem hz
  have hi' : i < c.kids.length := by rw [CT.folds_len] at hi; exact hi
  have h1 := CT.folds_get Glo (c := c) (d := d) (List.getElem?_eq_getElem hi')
  rw [List.getElem?_eq_getElem hi, he, fold_loose] at h1
  cases h1
  have := (CT.ess c.kids[i]).loose_nn (d + c.bnd i)
  omega

set_option maxRecDepth 100000 in
set_option maxHeartbeats 400000 in
theorem rMay30 (vars : Int) (c : CT) (x : C8) (w0 : World) (hx : RC w0 (fun k => k < w0.heap.size) c x) (hfit : c.fit) : Calls Try.prog 26 #[tv x, .int .i64 vars] w0 fun e w' => e = .returned (.int .i64 (c.mayT vars 1 0).1) ∧ Below w0.heap.size w0 w' := by
  have hB := Below.refl w0.heap.size w0
  have sB := hB.size
  refine calls_fs 9 [(0, tv x), (1, .int .i64 vars)] Try.func26 rfl rfl rfl rfl rfl fun a hF => ?_
  refine wp_rs fun K1 hK1 => ?_
  refine s_box (tc x) hF (by decide) rfl rfl fun w2 b2 a eb2 m2 B3 zb2 hF => ?_
  have sB3 := B3.size
  have hB := hB.trans (B3.mono hB.size)
  refine s_val hF (x_assign rfl) (by decide) fun a hF => ?_
  refine s_end (hK1 _ _ ?_)
  refine wp_rs fun K2 hK2 => ?_
  refine s_alloc1 hF (by decide) zero3 rfl fun w4 b5 a eb5 m5 B5 zb5 hF => ?_
  have sB5 := B5.size
  have hB := hB.trans (B5.mono hB.size)
  have m2 := m2.old B5
  refine s_put hF rfl rfl flat3 m5 (by first | (simp; done) | (simp [tc, lc]; done) | decide) rfl fun w6 m5 o7 => ?_
  have so7 := o7.size
  have hB := hB.trans (o7.below (by omega))
  have m2 := m2.only o7 (by omega)
  refine s_end (hK2 _ _ ?_)
  refine wp_rs fun K3 hK3 => ?_
  refine s_val hF (x_ldW wide27 m2 rfl rfl) (by decide) fun a hF => ?_
  refine s_val hF (x_move rfl) (by decide) fun a hF => ?_
  refine s_call (R := fun u w' => (u = .int .i64 (c.mayT vars 1 0).1 ∧ Blk w' b5 3 [.int .i64 (((c.mayT vars 1 0).2 : Nat) : Int)]) ∧ Ktw b5 b5 w6 w') hF [_, _, _, _] (enters_of Try.func62 (by kernel_rfl) rfl) rfl (by decide) (rmay73 vars w0 b5 (by omega) (c.size + 1) c x (by omega) hx hfit 1 0 w6 (by decide) (by decide) (by decide) hB m5) ?_
  rintro _ w8 a ⟨⟨rfl, m5⟩, k9⟩ hF
  have sk9 := k9.size
  have hB := k9.under hB (by omega)
  have m2 := m2.k2 k9 (by omega)
  refine s_val hF (x_assign rfl) (by decide) fun a hF => ?_
  refine s_end (hK3 _ _ ?_)
  refine wp_ret (res_slot hF rfl rfl ⟨rfl, hB⟩)

set_option maxRecDepth 100000 in
set_option maxHeartbeats 400000 in
theorem whole50 (cs : List CT) (v : Value) (w0 : World) (hV : RK w0 (fun k => k < w0.heap.size) v cs) (hlen : cs.length ≤ 1000000) (hfit : ∀ c ∈ cs, c.fit) : Calls Try.prog 38 #[v] w0 fun e w' => ∃ u, e = .returned u ∧ (∃ b, u = .bool b ∧ (b = true → ∀ c ∈ cs, c.wf)) ∧ Below w0.heap.size w0 w' := by
  obtain ⟨av, cv, hve, _⟩ := hV.form
  subst hve
  have hB := Below.refl w0.heap.size w0
  have sB := hB.size
  refine calls_fs 15 [(0, .slice av cs.length cv)] Try.func38 rfl rfl rfl rfl rfl fun a hF => ?_
  refine wp_rs fun K1 hK1 => ?_
  refine s_val hF (x_assign rfl) (by decide) fun a hF => ?_
  refine s_end (hK1 _ _ ?_)
  refine wp_seq_k fun K2 hK2 => ?_
  refine wp_rs fun K3 hK3 => ?_
  refine s_val hF (x_move rfl) (by decide) fun a hF => ?_
  refine s_val hF (x_len Try.underlying25 rfl) (by decide) fun a hF => ?_
  refine s_val hF (x_move rfl) (by decide) fun a hF => ?_
  refine s_end (hK3 _ _ ?_)
  refine wp_block ?_
  refine wp_up cs.length (fun i a w => (∀ c ∈ cs.take i, c.wf) ∧ Below w0.heap.size w0 w ∧ Fs 15 a [(5, .slice av cs.length cv), (6, .int .i64 (cs.length : Int)), (7, .int .i64 (i : Int))]) ⟨(fun c h => by simp at h), hB, hF.sub _ rfl⟩ ?_
  clear hF hB
  rintro i a w hi ⟨hok, hB, hF⟩ K' hK'
  have sB := hB.size
  refine wp_rs fun K4 hK4 => ?_
  refine s_val hF (x_lss (b := decide (i < cs.length)) (decide_eq_decide.2 (by omega)) rfl rfl) (by decide) fun a hF => ?_
  refine s_end (hK4 _ _ ?_)
  refine wp_seq_k fun K5 hK5 => ?_
  refine wp_iff hF rfl (fun hc8 => ?_) (fun hc8 => ?_)
  · obtain ⟨b9, off9, c9, y, p, hve, hp, hry, hAb, hbl, hrow⟩ := hV.row (i := i) (by omega)
    cases hve
    have htk := take_snoc hp
    refine wp_skip (hK5 _ _ ?_)
    refine wp_seq_k fun K6 hK6 => ?_
    refine wp_block ?_
    refine wp_rs fun K7 hK7 => ?_
    refine s_val hF (x_ixa rfl rfl (m_ixsK i Try.underlying25 el25.size rfl (by omega))) (by decide) fun a hF => ?_
    refine s_val hF (x_ldA wide27 (hrow _ (hB.block _ hbl)) rfl rfl) (by decide) fun a hF => ?_
    refine s_alloc hF (by decide) zero27 fun w2 b4 a eb4 m4 B3 zb4 hF => ?_
    have sB3 := B3.size
    have hB := hB.trans (B3.mono hB.size)
    refine s_putW hF rfl rfl (size_wide wide27) m4 rfl hry.one fun w6 m4 o7 => ?_
    have so7 := o7.size
    have hB := hB.trans (o7.below (by omega))
    refine s_end (hK7 _ _ ?_)
    refine wp_rs fun K8 hK8 => ?_
    refine s_val hF (x_ldW wide27 m4 rfl rfl) (by decide) fun a hF => ?_
    refine s_callB [_, _] hF (enters_of Try.func26 (by kernel_rfl) rfl) rfl (by decide) (rMay30 6 p y w6 (hry.bel hB) (hfit p (List.mem_of_getElem? hp))) fun w8 a B9 hF => ?_
    have sB9 := B9.size
    have hB := hB.trans (B9.mono hB.size)
    have m4 := m4.old B9
    refine s_val hF (x_neq rfl rfl rfl) (by decide) fun a hF => ?_
    refine s_end (hK8 _ _ ?_)
    refine wp_iff hF rfl (fun hc13 => ?_) (fun hc13 => ?_)
    · refine wp_rs fun K9 hK9 => ?_
      refine s_val hF (x_assign rfl) (by decide) fun a hF => ?_
      refine s_end (hK9 _ _ ?_)
      refine wp_ret (inb_ret (then_ret (then_ret (inb_ret (then_ret (res_slot hF rfl rfl ⟨_, rfl, ⟨false, rfl, fun h => absurd h (by decide)⟩, hB⟩))))))
    · have hz : (p.mayT 6 1 0).1 = 0 := by omega
      have hm := may_zero (vars := 6) p y 1 0 hry hz
      refine wp_skip (hK6 _ _ ?_)
      refine wp_region_lit ?_
      refine s_val hF (x_addn (i + 1) (by omega) (by omega) rfl rfl) (by decide) fun a hF => ?_
      refine s_val hF (x_move rfl) (by decide) fun a hF => ?_
      refine s_end (hK' _ _ (by omega) ⟨(fun c hc => by rw [htk] at hc; rcases List.mem_append.1 hc with hc | hc; (· exact hok c hc); (· rw [List.mem_singleton.1 hc]; exact ⟨hm.1, by have := hm.2.2.1; omega, by have := hm.2.2.2; omega⟩)), hB, hF.sub _ rfl⟩)
  · obtain rfl : i = cs.length := by omega
    rw [List.take_length] at hok
    refine wp_exit (hK2 _ _ ?_)
    refine wp_rs fun K10 hK10 => ?_
    refine s_val hF (x_assign rfl) (by decide) fun a hF => ?_
    refine s_end (hK10 _ _ ?_)
    refine wp_ret (res_slot hF rfl rfl ⟨_, rfl, ⟨true, rfl, fun _ => hok⟩, hB⟩)

set_option maxRecDepth 100000 in
set_option maxHeartbeats 400000 in
theorem most79 (ks : List Int) (v : Value) (w0 : World) (hl : ks.length ≤ 1000000) (hLo : Lo ks) (hV : Rd w0 v 1 ks.length (ints ks)) : Calls Try.prog 81 #[v] w0 fun e w' => e = .returned (.int .i64 (mostL ks)) ∧ w' = w0 := by
  obtain ⟨av, cv, hve, _⟩ := hV.form
  subst hve
  refine calls_fs 8 [(0, .slice av ks.length cv)] Try.func81 rfl rfl rfl rfl rfl fun a hF => ?_
  refine wp_rs fun K1 hK1 => ?_
  refine s_val hF (x_assign rfl) (by decide) fun a hF => ?_
  refine s_end (hK1 _ _ ?_)
  refine wp_seq_k fun K2 hK2 => ?_
  rcases (show ks.length = 0 ∨ 0 < ks.length by omega) with hk | hk
  · skip
    refine wp_rs fun K4 hK4 => ?_
    refine s_val hF (x_move rfl) (by decide) fun a hF => ?_
    refine s_val hF (x_len Try.underlying95 rfl) (by decide) fun a hF => ?_
    refine s_val hF (x_eql (b := true) (decide_eq_true (by omega)) rfl rfl) (by decide) fun a hF => ?_
    refine s_end (hK4 _ _ ?_)
    refine wp_if hF rfl ?_
    refine wp_rs fun K5 hK5 => ?_
    refine s_val hF (x_assign rfl) (by decide) fun a hF => ?_
    refine s_end (hK5 _ _ ?_)
    refine wp_ret (then_ret (res_slot hF rfl rfl ⟨by unfold mostL; rw [if_pos hk], rfl⟩))
  · skip
    refine wp_rs fun K6 hK6 => ?_
    refine s_val hF (x_move rfl) (by decide) fun a hF => ?_
    refine s_val hF (x_len Try.underlying95 rfl) (by decide) fun a hF => ?_
    refine s_val hF (x_eql (b := false) (decide_eq_false (by omega)) rfl rfl) (by decide) fun a hF => ?_
    refine s_end (hK6 _ _ ?_)
    refine wp_if hF rfl ?_
    refine wp_skip (hK2 _ _ ?_)
    refine wp_rs fun K7 hK7 => ?_
    refine s_val hF (x_move rfl) (by decide) fun a hF => ?_
    refine s_callS [_] hF (enters_of Try.func118 (by kernel_rfl) rfl) rfl (by decide) (max63 ks _ w0 hk (by omega) hLo hV) fun a hF => ?_
    refine s_val hF (x_assign rfl) (by decide) fun a hF => ?_
    refine s_end (hK7 _ _ ?_)
    refine wp_ret (res_slot hF rfl rfl ⟨by unfold mostL; rw [if_neg (by omega)], rfl⟩)

theorem fm_enc1 : ∀ zs : List Int, zs.flatMap enc1 = ints zs
  | [] => rfl
  | z :: zs => by rw [List.flatMap_cons, fm_enc1 zs]; rfl

set_option maxRecDepth 100000 in
set_option maxHeartbeats 400000 in
theorem clo77 (wl : World) (Sz : Nat) (hSz : Sz ≤ 20000) (D : Int) (hD : D ≤ 2000) (W : World) (c : CT) (x : C8) (d : Int) (kv : Value) (hK : Below wl.heap.size wl W) (hx : RC wl (fun k => k < wl.heap.size) c x) (hs : c.size ≤ Sz) (hd0 : 0 ≤ d) (hdD : d + c.dep ≤ D) (hkv : Rd W kv 1 c.kids.length ((c.folds Glo d).flatMap enc1)) :
    Calls Try.prog 79 ([tv x, .int .i64 d, kv] ++ []).toArray W fun e w' => e = .returned (.int .i64 (Glo c d (c.folds Glo d))) ∧ Below W.heap.size W w' := by
  have h3 := c.kids_le
  have hfl := CT.folds_len Glo c d
  rw [fm_enc1, ← hfl] at hkv
  have hrng : x.k = 1 → in64 x.n := fun h => by
    obtain ⟨n, m, rfl⟩ := hx.var_of h
    have h1 := hx.2.1
    have h2 := hx.2.2.1
    rw [h1]; exact h2
  have hres : ¬ (x.k = 1 ∧ d ≤ x.n) → Glo c d (c.folds Glo d) = mostL (c.folds Glo d) := by
    intro h
    cases c with
    | var n m =>
      have h1 := hx.1
      have h2 := hx.2.1
      simp only [Glo]
      rw [if_neg (by omega)]
      unfold mostL
      rw [if_pos (by rw [CT.folds_len]; rfl)]
    | _ => rfl
  have hB := Below.refl W.heap.size W
  have sB := hB.size
  refine calls_fs 23 [(0, tv x), (1, .int .i64 d), (2, kv)] Try.func79 rfl rfl rfl rfl rfl fun a hF => ?_
  refine wp_rs fun K1 hK1 => ?_
  refine s_box (tc x) hF (by decide) rfl rfl fun w2 b3 a eb3 m3 B3 zb3 hF => ?_
  have sB3 := B3.size
  have hB := hB.trans (B3.mono hB.size)
  refine s_val hF (x_assign rfl) (by decide) fun a hF => ?_
  refine s_end (hK1 _ _ ?_)
  refine wp_seq_k fun K2 hK2 => ?_
  rcases (show (x.k = 1 ∧ d ≤ x.n) ∨ (x.k = 1 ∧ ¬ d ≤ x.n) ∨ x.k ≠ 1 by omega) with hk | hk | hk
  · have hri := hrng hk.1
    unfold in64 at hri
    refine wp_rs fun K4 hK4 => ?_
    refine s_val hF (x_fa0 fa27_0 rfl) (by decide) fun a hF => ?_
    refine s_val hF (x_load rfl (m_load flat3 (m3.cell (j := 0) rfl))) (by decide) fun a hF => ?_
    refine s_val hF (x_eql (b := true) (decide_eq_true (by omega)) rfl rfl) (by decide) fun a hF => ?_
    refine s_val hF (x_move rfl) (by decide) fun a hF => ?_
    refine s_grd 10 hF rfl rfl rfl ?_
    refine s_val hF (x_fa0 fa27_1 rfl) (by decide) fun a hF => ?_
    refine s_grd 10 hF rfl rfl rfl ?_
    refine s_val hF (x_load rfl (m_load flat3 (m3.cell (j := 1) rfl))) (by decide) fun a hF => ?_
    refine s_grd 10 hF rfl rfl rfl ?_
    refine s_val hF (x_move rfl) (by decide) fun a hF => ?_
    refine s_grd 10 hF rfl rfl rfl ?_
    refine s_val hF (x_geq (b := true) (decide_eq_true (by omega)) rfl rfl) (by decide) fun a hF => ?_
    refine s_val hF (x_pick (b := true) rfl rfl) (by decide) fun a hF => ?_
    refine s_end (hK4 _ _ ?_)
    refine wp_if hF rfl ?_
    refine wp_rs fun K5 hK5 => ?_
    refine s_val hF (x_fa0 fa27_1 rfl) (by decide) fun a hF => ?_
    refine s_val hF (x_load rfl (m_load flat3 (m3.cell (j := 1) rfl))) (by decide) fun a hF => ?_
    refine s_val hF (x_move rfl) (by decide) fun a hF => ?_
    refine s_val hF (x_sub (by omega) (by omega) rfl rfl) (by decide) fun a hF => ?_
    refine s_callS [_, _] hF (enters_of Try.func80 (by kernel_rfl) rfl) rfl (by decide) (plus78 (x.n - d) 1 w2 (by omega) (by omega) (by decide)) fun a hF => ?_
    refine s_val hF (x_assign rfl) (by decide) fun a hF => ?_
    refine s_end (hK5 _ _ ?_)
    obtain ⟨n9, m9, rfl⟩ := hx.var_of hk.1
    have hn9 : x.n = n9 := hx.2.1
    refine wp_ret (then_ret (res_slot hF rfl rfl ⟨by simp only [Glo]; rw [← hn9, if_pos hk.2], hB⟩))
  · skip
    refine wp_rs fun K6 hK6 => ?_
    refine s_val hF (x_fa0 fa27_0 rfl) (by decide) fun a hF => ?_
    refine s_val hF (x_load rfl (m_load flat3 (m3.cell (j := 0) rfl))) (by decide) fun a hF => ?_
    refine s_val hF (x_eql (b := true) (decide_eq_true (by omega)) rfl rfl) (by decide) fun a hF => ?_
    refine s_val hF (x_move rfl) (by decide) fun a hF => ?_
    refine s_grd 10 hF rfl rfl rfl ?_
    refine s_val hF (x_fa0 fa27_1 rfl) (by decide) fun a hF => ?_
    refine s_grd 10 hF rfl rfl rfl ?_
    refine s_val hF (x_load rfl (m_load flat3 (m3.cell (j := 1) rfl))) (by decide) fun a hF => ?_
    refine s_grd 10 hF rfl rfl rfl ?_
    refine s_val hF (x_move rfl) (by decide) fun a hF => ?_
    refine s_grd 10 hF rfl rfl rfl ?_
    refine s_val hF (x_geq (b := false) (decide_eq_false (by omega)) rfl rfl) (by decide) fun a hF => ?_
    refine s_val hF (x_pick (b := true) rfl rfl) (by decide) fun a hF => ?_
    refine s_end (hK6 _ _ ?_)
    refine wp_if hF rfl ?_
    refine wp_skip (hK2 _ _ ?_)
    refine wp_rs fun K7 hK7 => ?_
    refine s_val hF (x_move rfl) (by decide) fun a hF => ?_
    refine s_callS [_] hF (enters_of Try.func81 (by kernel_rfl) rfl) rfl (by decide) (most79 (c.folds Glo d) kv w2 (by omega) Glo_kids (hkv.keep hB.size (fun b _ hb => hB.block b hb))) fun a hF => ?_
    refine s_val hF (x_assign rfl) (by decide) fun a hF => ?_
    refine s_end (hK7 _ _ ?_)
    refine wp_ret (res_slot hF rfl rfl ⟨by rw [hres (by omega)], hB⟩)
  · skip
    refine wp_rs fun K8 hK8 => ?_
    refine s_val hF (x_fa0 fa27_0 rfl) (by decide) fun a hF => ?_
    refine s_val hF (x_load rfl (m_load flat3 (m3.cell (j := 0) rfl))) (by decide) fun a hF => ?_
    refine s_val hF (x_eql (b := false) (decide_eq_false (by omega)) rfl rfl) (by decide) fun a hF => ?_
    refine s_val hF (x_move rfl) (by decide) fun a hF => ?_
    refine s_grdn 10 hF rfl rfl (by decide) fun a hF => ?_
    refine s_grdn 10 hF rfl rfl (by decide) fun a hF => ?_
    refine s_grdn 10 hF rfl rfl (by decide) fun a hF => ?_
    refine s_grdn 10 hF rfl rfl (by decide) fun a hF => ?_
    refine s_val hF (x_pick (b := false) rfl rfl) (by decide) fun a hF => ?_
    refine s_end (hK8 _ _ ?_)
    refine wp_if hF rfl ?_
    refine wp_skip (hK2 _ _ ?_)
    refine wp_rs fun K9 hK9 => ?_
    refine s_val hF (x_move rfl) (by decide) fun a hF => ?_
    refine s_callS [_] hF (enters_of Try.func81 (by kernel_rfl) rfl) rfl (by decide) (most79 (c.folds Glo d) kv w2 (by omega) Glo_kids (hkv.keep hB.size (fun b _ hb => hB.block b hb))) fun a hF => ?_
    refine s_val hF (x_assign rfl) (by decide) fun a hF => ?_
    refine s_end (hK9 _ _ ?_)
    refine wp_ret (res_slot hF rfl rfl ⟨by rw [hres (by omega)], hB⟩)

def CT.looseR (c : CT) : Int := if c.ok then c.ess.loose 0 else 0

set_option maxRecDepth 100000 in
set_option maxHeartbeats 400000 in
theorem Loose36 (c : CT) (x : C8) (w0 : World) (hx : RC w0 (fun k => k < w0.heap.size) c x) : Calls Try.prog 41 #[tv x] w0 fun e w' => e = .returned (.int .i64 c.looseR) ∧ Below w0.heap.size w0 w' := by
  have hB := Below.refl w0.heap.size w0
  have sB := hB.size
  refine calls_fs 7 [(0, tv x)] Try.func41 rfl rfl rfl rfl rfl fun a hF => ?_
  refine wp_rs fun K1 hK1 => ?_
  refine s_box (tc x) hF (by decide) rfl rfl fun w2 b1 a eb1 m1 B3 zb1 hF => ?_
  have sB3 := B3.size
  have hB := hB.trans (B3.mono hB.size)
  refine s_val hF (x_assign rfl) (by decide) fun a hF => ?_
  refine s_end (hK1 _ _ ?_)
  refine wp_seq_k fun K2 hK2 => ?_
  rcases (show ¬ c.ok ∨ c.ok by by_cases h : c.ok <;> simp [h]) with hk1 | hk1
  · skip
    refine wp_rs fun K4 hK4 => ?_
    refine s_val hF (x_ldW wide27 m1 rfl rfl) (by decide) fun a hF => ?_
    refine s_callB [_] hF (enters_of Try.func55 (by kernel_rfl) rfl) rfl (by decide) ((isGreat66 c x w2 (hx.bel hB)).mono fun e w' h => ⟨by rw [h.1, decide_eq_true hk1], h.2⟩) fun w4 a B5 hF => ?_
    have sB5 := B5.size
    have hB := hB.trans (B5.mono hB.size)
    have m1 := m1.old B5
    refine s_end (hK4 _ _ ?_)
    refine wp_if hF rfl ?_
    refine wp_rs fun K5 hK5 => ?_
    refine s_val hF (x_assign rfl) (by decide) fun a hF => ?_
    refine s_end (hK5 _ _ ?_)
    refine wp_ret (then_ret (res_slot hF rfl rfl ⟨by unfold CT.looseR; rw [if_neg hk1], hB⟩))
  · skip
    refine wp_rs fun K6 hK6 => ?_
    refine s_val hF (x_ldW wide27 m1 rfl rfl) (by decide) fun a hF => ?_
    refine s_callB [_] hF (enters_of Try.func55 (by kernel_rfl) rfl) rfl (by decide) ((isGreat66 c x w2 (hx.bel hB)).mono fun e w' h => ⟨by rw [h.1, decide_eq_false (fun h => h hk1)], h.2⟩) fun w6 a B7 hF => ?_
    have sB7 := B7.size
    have hB := hB.trans (B7.mono hB.size)
    have m1 := m1.old B7
    refine s_end (hK6 _ _ ?_)
    refine wp_if hF rfl ?_
    refine wp_skip (hK2 _ _ ?_)
    refine wp_rs fun K7 hK7 => ?_
    refine s_val hF (x_ldW wide27 m1 rfl rfl) (by decide) fun a hF => ?_
    refine s_callB [_, _, _] hF (enters_of Try.func78 (by kernel_rfl) rfl) rfl (by decide) (fold76 w6 79 [] (enters_of Try.func79 (by kernel_rfl) rfl) 2000 (by decide) 20000 Glo _ rfl (fun W c x d kv h1 h2 h3 h4 h5 h6 => clo77 w6 20000 (by decide) 2000 (by decide) W c x d kv h1 h2 h3 h4 h5 h6) (c.size + 1) c x 0 w6 (by omega) hk1.1 (hx.bel hB) (by decide) (by have := hk1.2; omega) (Below.refl _ _)) fun w8 a B9 hF => ?_
    have sB9 := B9.size
    have hB := hB.trans (B9.mono hB.size)
    have m1 := m1.old B9
    refine s_val hF (x_assign rfl) (by decide) fun a hF => ?_
    refine s_end (hK7 _ _ ?_)
    refine wp_ret (res_slot hF rfl rfl ⟨by unfold CT.looseR; rw [if_pos hk1, fold_loose], hB⟩)
end Go.Proofs.Ytaclncmkdpjnlaa

namespace Go.Proofs.Ytaclncmkdpjnlaa
open Go.RowKit Go.Shelf
set_option linter.unusedVariables false
set_option linter.unusedSimpArgs false

def szs (ks : List CT) : Nat := (ks.map CT.size).sum
theorem szs_at {ks : List CT} {k : CT} {i : Nat} (h : ks[i]? = some k) : szs (ks.take (i + 1)) = szs (ks.take i) + k.size ∧ szs (ks.take (i + 1)) ≤ szs ks := by
  have e := split_at h
  have e2 : ks.take (i + 1) = ks.take i ++ [k] := by rw [List.take_add_one, h]; rfl
  refine ⟨by rw [e2]; simp [szs], ?_⟩
  rw [e2]
  conv => rhs; rw [e]
  simp [szs]
theorem CT.size_szs (c : CT) : c.size = szs c.kids + 1 := by cases c <;> simp [CT.size, CT.kids, szs] <;> omega
/-- What count tells: that it goes, and how many there are then; that it doesn't. -/
def cntR (c : CT) (d : Int) (n : Nat) (b : Bool) (m : Nat) : Prop := m ≤ 20001 ∧ (b = true → m = n + c.size ∧ d + c.dep ≤ 2001 ∧ (m ≤ 20000 ∨ c.size = 1)) ∧ (b = false → ¬ (n + c.size ≤ 20000 ∧ d + c.dep ≤ 2001))

end Go.Proofs.Ytaclncmkdpjnlaa

namespace Go.Proofs.Ytaclncmkdpjnlaa
open Go.RowKit Go.Shelf
set_option linter.unusedVariables false
set_option linter.unusedSimpArgs false

def dps (ks : List CT) : Nat := ks.foldl (fun m k => max m k.dep) 0
end Go.Proofs.Ytaclncmkdpjnlaa

namespace Go.Proofs.Ytaclncmkdpjnlaa
open Go.RowKit Go.Shelf
set_option linter.unusedVariables false
set_option linter.unusedSimpArgs false

def CT.leaves : CT → Int → List (CT × Int)
  | .two k a b m, d => a.leaves (d + (CT.two k a b m).bnd 0) ++ b.leaves (d + (CT.two k a b m).bnd 1)
  | .lt a b c m, d => a.leaves (d + (CT.lt a b c m).bnd 0) ++ (b.leaves (d + (CT.lt a b c m).bnd 1) ++ c.leaves (d + (CT.lt a b c m).bnd 2))
  | c, d => [(c, d)]
/-- The leaves of the first i kids. -/
def CT.lvK (c : CT) (d : Int) : Nat → List (CT × Int)
  | 0 => []
  | i + 1 => c.lvK d i ++ (match c.kids[i]? with | some k => k.leaves (d + c.bnd i) | none => [])
theorem CT.leaves_nil {c : CT} {d : Int} (h : c.kids = []) : c.leaves d = [(c, d)] := by cases c <;> simp [CT.kids] at h <;> rfl
theorem CT.leaves_lvK {c : CT} {d : Int} (h : c.kids.length ≠ 0) : c.leaves d = c.lvK d c.kids.length := by
  cases c <;> simp [CT.kids] at h <;> simp [CT.leaves, CT.lvK, CT.kids]
theorem CT.lvK_at {c k : CT} {d : Int} {i : Nat} (h : c.kids[i]? = some k) : c.lvK d (i + 1) = c.lvK d i ++ k.leaves (d + c.bnd i) := by simp [CT.lvK, h]
theorem CT.leaves_len : ∀ (c : CT) (d : Int), (c.leaves d).length ≤ c.size
  | .two k a b m, d => by
    have h1 := a.leaves_len (d + (CT.two k a b m).bnd 0)
    have h2 := b.leaves_len (d + (CT.two k a b m).bnd 1)
    simp only [CT.leaves, List.length_append, CT.size]
    omega
  | .lt a b c m, d => by
    have h1 := a.leaves_len (d + (CT.lt a b c m).bnd 0)
    have h2 := b.leaves_len (d + (CT.lt a b c m).bnd 1)
    have h3 := c.leaves_len (d + (CT.lt a b c m).bnd 2)
    simp only [CT.leaves, List.length_append, CT.size]
    omega
  | .var .., _ => Nat.le_refl _
  | .sort .., _ => Nat.le_refl _
  | .cst .., _ => Nat.le_refl _
  | .odd .., _ => Nat.le_refl _
def enc9 (e : C8 × Int) : List Value := tc e.1 ++ [.int .i64 e.2]
theorem fm9_app (es : List (C8 × Int)) (e : C8 × Int) : (es ++ [e]).flatMap enc9 = es.flatMap enc9 ++ enc9 e := by simp
/-- The elements are these leaves, which lie where w0's own blocks lie. -/
def LTw (w0 : World) (es : List (C8 × Int)) (ls : List (CT × Int)) : Prop := es.length = ls.length ∧ ∀ (j : Nat) e l, es[j]? = some e → ls[j]? = some l → RC w0 (fun k => k < w0.heap.size) l.1 e.1 ∧ e.2 = l.2
theorem LTw.nil (w0 : World) : LTw w0 [] [] := ⟨rfl, fun j e l h => by simp at h⟩
theorem LTw.snoc {w0 : World} {es : List (C8 × Int)} {ls : List (CT × Int)} {c : CT} {x : C8} {d : Int} (h : LTw w0 es ls) (hx : RC w0 (fun k => k < w0.heap.size) c x) : LTw w0 (es ++ [(x, d)]) (ls ++ [(c, d)]) := by
  refine ⟨by simp [h.1], fun j e l e1 e2 => ?_⟩
  rcases Nat.lt_or_ge j es.length with hj | hj
  · rw [List.getElem?_append_left hj] at e1
    rw [List.getElem?_append_left (by have := h.1; omega)] at e2
    exact h.2 j e l e1 e2
  · rw [List.getElem?_append_right hj] at e1
    rw [List.getElem?_append_right (by have := h.1; omega)] at e2
    have h0 : j - es.length = 0 := by have := (List.getElem?_eq_some_iff.1 e1).1; simp at this; omega
    have h1 : j - ls.length = 0 := by have := h.1; omega
    rw [h0] at e1
    rw [h1] at e2
    simp at e1 e2
    subst e1 e2
    exact ⟨hx, rfl⟩
theorem b90_01 (k n : Int) (s : ByteArray) (p q : Int) (a : Option Addr) (m c : Nat) (a2 : Option Addr) (m2 c2 : Nat) (a3 : Option Addr) (m3 c3 : Nat) (d : Int) (w : World) : (Instr.build 93 [(0, tv ⟨k, n, s, (p, q, .slice a m c), .slice a2 m2 c2, .slice a3 m3 c3⟩), (1, Value.int .i64 d)].toArray).run Try.prog w = .ok (.agg (enc9 (⟨k, n, s, (p, q, .slice a m c), .slice a2 m2 c2, .slice a3 m3 c3⟩, d)).toArray) w := run_build w 93 _ _ (by kernel_rfl)

set_option maxRecDepth 100000 in
set_option maxHeartbeats 400000 in
theorem ends80 (w0 : World) (q : Nat) : ∀ (N : Nat) (c : CT) (x : C8), c.size < N → RC w0 (fun k => k < w0.heap.size) c x → ∀ (d : Int) (v : Value) (o : Nat) (es : List (C8 × Int)) (ls : List (CT × Int)) (w1 : World), 0 ≤ d → d + c.dep ≤ 1000000 → es.length + c.size ≤ 1000000 → Below w0.heap.size w0 w1 → q ≤ w1.heap.size → w0.heap.size ≤ o → o < w1.heap.size → w1.ownsRow q 93 9 v es.length (es.flatMap enc9) → (∀ j, v.ownBlock = some j → j = o) → LTw w0 es ls →
    Calls Try.prog 77 #[tv x, .int .i64 d, v] w1 fun e w' => ∃ u, e = .returned u ∧ (∃ o' es', w'.ownsRow q 93 9 u es'.length (es'.flatMap enc9) ∧ (∀ j, u.ownBlock = some j → j = o') ∧ ((o' = o ∨ w1.heap.size ≤ o') ∧ o' < w'.heap.size) ∧ LTw w0 es' (ls ++ c.leaves d)) ∧ Ktw o o w1 w' := by
  intro N
  induction N with
  | zero => intro s x h; omega
  | succ N ih =>
  intro c x hN hx d v o es ls w1 hd0 hd1 hes hB hq1 ho0 ho1 hO hat hLT
  have hK := Ktw.refl o o w1
  have sB := hB.size
  have sK := hK.size
  have hrg := arT_rng c.kd
  have hk9 := CT.kids_arT hx
  have h3 := c.kids_le
  have hx0 := hx
  have hss := c.size_szs
  have h1v := (Rd.own hO).one
  obtain ⟨⟨l9, hl9⟩, ls9, hv9⟩ := hx.ok
  obtain ⟨av, nv, cv, hts, hle9, hlen9, hcap, hkid⟩ := hx.kids
  obtain ⟨xk, xn, xs, ⟨p1, p2, p3⟩, xls, xts⟩ := x
  obtain ⟨n9, cs9, hs9⟩ := hl9.slice
  obtain ⟨a9, d9, h9, _⟩ := hs9.form
  obtain ⟨a8, d8, h8, _⟩ := hv9.form
  simp only at hts h9 h8
  subst hts h9 h8
  have hkd : xk = c.kd := hx.kd
  subst hkd
  have hone := hx.one
  refine calls_fs 46 [(0, tv (⟨c.kd, xn, xs, (p1, p2, .slice a9 n9 d9), .slice a8 ls9.length d8, .slice av nv cv⟩ : C8)), (1, .int .i64 d), (2, v)] Try.func77 rfl rfl rfl rfl rfl fun a hF => ?_
  refine wp_rs fun K1 hK1 => ?_
  refine s_box ([.int .i64 c.kd, .int .i64 xn, .string xs, .int .i64 p1, .int .i64 p2, .slice a9 n9 d9, .slice a8 ls9.length d8, .slice av nv cv]) hF (by decide) rfl rfl fun w2 b3 a eb3 m3 B3 zb3 hF => ?_
  have sB3 := B3.size
  have hB := hB.trans (B3.mono hB.size)
  have hK := hK.below B3
  have hO := own_below hO B3
  refine s_val hF (x_assign rfl) (by decide) fun a hF => ?_
  refine s_end (hK1 _ _ ?_)
  refine wp_seq_k fun K2 hK2 => ?_
  rcases (show ((arT c.kd < 0 ∨ (c.len : Int) < arT c.kd) ∧ c.kids.length = 0) ∨ (¬ (arT c.kd < 0 ∨ (c.len : Int) < arT c.kd) ∧ arT c.kd = 0 ∧ c.kids.length = 0) ∨ (¬ (arT c.kd < 0 ∨ (c.len : Int) < arT c.kd) ∧ arT c.kd ≠ 0 ∧ (c.kids.length : Int) = arT c.kd) by omega) with hy | hy | hy
  · skip
    refine wp_rs fun K4 hK4 => ?_
    refine s_val hF (x_ldW wide27 m3 rfl rfl) (by decide) fun a hF => ?_
    refine s_callB [_] hF (enters_of Try.func59 (by kernel_rfl) rfl) rfl (by decide) ((leaf70 c (⟨c.kd, xn, xs, (p1, p2, .slice a9 n9 d9), .slice a8 ls9.length d8, .slice av nv cv⟩ : C8) _ w0 w2 hx0).mono fun e w' h => ⟨by rw [h.1, decide_eq_true hy.1], h.2⟩) fun w4 a B5 hF => ?_
    have sB5 := B5.size
    have hB := hB.trans (B5.mono hB.size)
    have hK := hK.below B5
    have hO := own_below hO B5
    have m3 := m3.old B5
    refine s_val hF (x_move rfl) (by decide) fun a hF => ?_
    refine s_grdn 11 hF rfl rfl (by decide) fun a hF => ?_
    refine s_grdn 11 hF rfl rfl (by decide) fun a hF => ?_
    refine s_grdn 11 hF rfl rfl (by decide) fun a hF => ?_
    refine s_grdn 11 hF rfl rfl (by decide) fun a hF => ?_
    refine s_val hF (x_pick (b := true) rfl rfl) (by decide) fun a hF => ?_
    refine s_end (hK4 _ _ ?_)
    refine wp_if hF rfl ?_
    refine wp_rs fun K5 hK5 => ?_
    refine s_val hF (x_move rfl) (by decide) fun a hF => ?_
    refine s_val hF (x_ldW wide27 m3 rfl rfl) (by decide) fun a hF => ?_
    refine s_val hF (x_move rfl) (by decide) fun a hF => ?_
    refine s_val hF (x_build (vs := [(0, _), (1, _)]) rfl (b90_01 _ _ _ _ _ _ _ _ _ _ _ _ _ _ _ _)) (by decide) fun a hF => ?_
    refine s_litG [(.agg (enc9 ((⟨c.kd, xn, xs, (p1, p2, .slice a9 n9 d9), .slice a8 ls9.length d8, .slice av nv cv⟩ : C8), d)).toArray)] el87 hF (by decide) rfl (by simp [Value.cells, enc9, tc]) rfl (by decide) (by decide) fun w6 bl a ebl ml B7 zbl hF => ?_
    have sB7 := B7.size
    have hB := hB.trans (B7.mono hB.size)
    have hK := hK.below B7
    have hO := own_below hO B7
    have m3 := m3.old B7
    have ml : Blk w6 bl 93 (enc9 ((⟨c.kd, xn, xs, (p1, p2, .slice a9 n9 d9), .slice a8 ls9.length d8, .slice av nv cv⟩ : C8), d)) := by simpa [Value.cells] using ml
    refine s_appL (o := o) el87 hF (by decide) rfl rfl hO ml rfl (by simp [enc9, tc, Value.oneCell']) hat (by omega) (by omega) (by decide) (by omega) fun v3 w8 a o3 hOn hOatn how hsrc k9 hkeep hF => ?_
    have sk9 := k9.size
    have hB := k9.under hB (by omega)
    have hK := hK.trans k9 (by omega)
    have m3 := m3.k2 k9 (by omega)
    have ml := ml.k2 k9 (by omega)
    have hO := hOn
    have hO_at := hOatn
    refine s_val hF (x_assign rfl) (by decide) fun a hF => ?_
    refine s_end (hK5 _ _ ?_)
    have hO2 : w8.ownsRow q 93 9 v3 (es ++ [((⟨c.kd, xn, xs, (p1, p2, .slice a9 n9 d9), .slice a8 ls9.length d8, .slice av nv cv⟩ : C8), d)]).length ((es ++ [((⟨c.kd, xn, xs, (p1, p2, .slice a9 n9 d9), .slice a8 ls9.length d8, .slice av nv cv⟩ : C8), d)]).flatMap enc9) := by rw [fm9_app]; simpa using hO
    have hk0 : c.kids = [] := List.eq_nil_of_length_eq_zero (by omega)
    refine wp_ret (then_ret (res_slot hF rfl rfl ⟨_, rfl, ⟨o3, _, hO2, hO_at, by omega, by rw [CT.leaves_nil hk0]; exact hLT.snoc hx0⟩, hK⟩))
  · skip
    refine wp_rs fun K6 hK6 => ?_
    refine s_val hF (x_ldW wide27 m3 rfl rfl) (by decide) fun a hF => ?_
    refine s_callB [_] hF (enters_of Try.func59 (by kernel_rfl) rfl) rfl (by decide) ((leaf70 c (⟨c.kd, xn, xs, (p1, p2, .slice a9 n9 d9), .slice a8 ls9.length d8, .slice av nv cv⟩ : C8) _ w0 w2 hx0).mono fun e w' h => ⟨by rw [h.1, decide_eq_false hy.1], h.2⟩) fun w10 a B11 hF => ?_
    have sB11 := B11.size
    have hB := hB.trans (B11.mono hB.size)
    have hK := hK.below B11
    have hO := own_below hO B11
    have m3 := m3.old B11
    refine s_val hF (x_move rfl) (by decide) fun a hF => ?_
    refine s_grd 11 hF rfl rfl rfl ?_
    refine s_val hF (x_fa0 fa27_0 rfl) (by decide) fun a hF => ?_
    refine s_grd 11 hF rfl rfl rfl ?_
    refine s_val hF (x_load rfl (m_load flat3 (m3.cell (j := 0) rfl))) (by decide) fun a hF => ?_
    refine s_grd 11 hF rfl rfl rfl ?_
    refine s_callS [_] hF (enters_of Try.func87 (by kernel_rfl) rfl) rfl (by decide) ((kids54 c.kd w10).mono fun e w' h => ⟨(by rw [h.1] : e = .returned (.int .i64 (arT c.kd))), h.2⟩) fun a hF => ?_
    refine s_grd 11 hF rfl rfl rfl ?_
    refine s_val hF (x_eql (b := true) (decide_eq_true (by omega)) rfl rfl) (by decide) fun a hF => ?_
    refine s_val hF (x_pick (b := false) rfl rfl) (by decide) fun a hF => ?_
    refine s_end (hK6 _ _ ?_)
    refine wp_if hF rfl ?_
    refine wp_rs fun K7 hK7 => ?_
    refine s_val hF (x_move rfl) (by decide) fun a hF => ?_
    refine s_val hF (x_ldW wide27 m3 rfl rfl) (by decide) fun a hF => ?_
    refine s_val hF (x_move rfl) (by decide) fun a hF => ?_
    refine s_val hF (x_build (vs := [(0, _), (1, _)]) rfl (b90_01 _ _ _ _ _ _ _ _ _ _ _ _ _ _ _ _)) (by decide) fun a hF => ?_
    refine s_litG [(.agg (enc9 ((⟨c.kd, xn, xs, (p1, p2, .slice a9 n9 d9), .slice a8 ls9.length d8, .slice av nv cv⟩ : C8), d)).toArray)] el87 hF (by decide) rfl (by simp [Value.cells, enc9, tc]) rfl (by decide) (by decide) fun w12 bl a ebl ml B13 zbl hF => ?_
    have sB13 := B13.size
    have hB := hB.trans (B13.mono hB.size)
    have hK := hK.below B13
    have hO := own_below hO B13
    have m3 := m3.old B13
    have ml : Blk w12 bl 93 (enc9 ((⟨c.kd, xn, xs, (p1, p2, .slice a9 n9 d9), .slice a8 ls9.length d8, .slice av nv cv⟩ : C8), d)) := by simpa [Value.cells] using ml
    refine s_appL (o := o) el87 hF (by decide) rfl rfl hO ml rfl (by simp [enc9, tc, Value.oneCell']) hat (by omega) (by omega) (by decide) (by omega) fun v3 w14 a o3 hOn hOatn how hsrc k15 hkeep hF => ?_
    have sk15 := k15.size
    have hB := k15.under hB (by omega)
    have hK := hK.trans k15 (by omega)
    have m3 := m3.k2 k15 (by omega)
    have ml := ml.k2 k15 (by omega)
    have hO := hOn
    have hO_at := hOatn
    refine s_val hF (x_assign rfl) (by decide) fun a hF => ?_
    refine s_end (hK7 _ _ ?_)
    have hO2 : w14.ownsRow q 93 9 v3 (es ++ [((⟨c.kd, xn, xs, (p1, p2, .slice a9 n9 d9), .slice a8 ls9.length d8, .slice av nv cv⟩ : C8), d)]).length ((es ++ [((⟨c.kd, xn, xs, (p1, p2, .slice a9 n9 d9), .slice a8 ls9.length d8, .slice av nv cv⟩ : C8), d)]).flatMap enc9) := by rw [fm9_app]; simpa using hO
    have hk0 : c.kids = [] := List.eq_nil_of_length_eq_zero (by omega)
    refine wp_ret (then_ret (res_slot hF rfl rfl ⟨_, rfl, ⟨o3, _, hO2, hO_at, by omega, by rw [CT.leaves_nil hk0]; exact hLT.snoc hx0⟩, hK⟩))
  · have hes0 := hLT.1
    refine wp_rs fun K8 hK8 => ?_
    refine s_val hF (x_ldW wide27 m3 rfl rfl) (by decide) fun a hF => ?_
    refine s_callB [_] hF (enters_of Try.func59 (by kernel_rfl) rfl) rfl (by decide) ((leaf70 c (⟨c.kd, xn, xs, (p1, p2, .slice a9 n9 d9), .slice a8 ls9.length d8, .slice av nv cv⟩ : C8) _ w0 w2 hx0).mono fun e w' h => ⟨by rw [h.1, decide_eq_false hy.1], h.2⟩) fun w16 a B17 hF => ?_
    have sB17 := B17.size
    have hB := hB.trans (B17.mono hB.size)
    have hK := hK.below B17
    have hO := own_below hO B17
    have m3 := m3.old B17
    refine s_val hF (x_move rfl) (by decide) fun a hF => ?_
    refine s_grd 11 hF rfl rfl rfl ?_
    refine s_val hF (x_fa0 fa27_0 rfl) (by decide) fun a hF => ?_
    refine s_grd 11 hF rfl rfl rfl ?_
    refine s_val hF (x_load rfl (m_load flat3 (m3.cell (j := 0) rfl))) (by decide) fun a hF => ?_
    refine s_grd 11 hF rfl rfl rfl ?_
    refine s_callS [_] hF (enters_of Try.func87 (by kernel_rfl) rfl) rfl (by decide) ((kids54 c.kd w16).mono fun e w' h => ⟨(by rw [h.1] : e = .returned (.int .i64 (arT c.kd))), h.2⟩) fun a hF => ?_
    refine s_grd 11 hF rfl rfl rfl ?_
    refine s_val hF (x_eql (b := false) (decide_eq_false (by omega)) rfl rfl) (by decide) fun a hF => ?_
    refine s_val hF (x_pick (b := false) rfl rfl) (by decide) fun a hF => ?_
    refine s_end (hK8 _ _ ?_)
    refine wp_if hF rfl ?_
    refine wp_skip (hK2 _ _ ?_)
    refine wp_seq_k fun K9 hK9 => ?_
    refine dk2_seq (w16.heap.size) (w16.heap.size) (ops := regOps Try.f77 3) (N := 8) (by kernel_rfl) wide_orders (by kernel_rfl) fun w18 hw18 B19 hS K10 hK10 => ?_
    have zw18 : w18.heap.size = w16.heap.size := by rw [hw18]
    have sB19 := B19.size
    have hB := hB.trans (B19.mono hB.size)
    have hK := hK.below B19
    have hO := own_below hO B19
    have m3 := m3.old B19
    have hO_d := hO
    have m3_d := m3
    have hB_d := hB
    have hK_d := hK
    refine d_val 0 23 (op := (Go.Op.fieldAddr 27 (Go.Operand.tmp 3) 5)) hF hS (by kernel_rfl) (fun W hW => x_fa0 fa27_5 rfl) (by kernel_rfl) (by decide) fun a hF => ?_
    refine d_val 1 24 (op := (Go.Op.load 25 (Go.Operand.tmp 23))) hF hS (by kernel_rfl) (fun W hW => x_load rfl (m_load flat25 ((m3_d.k2 hW (by omega)).cell (j := 7) rfl))) (by kernel_rfl) (by decide) fun a hF => ?_
    refine d_val 2 25 (op := (Go.Op.fieldAddr 27 (Go.Operand.tmp 3) 0)) hF hS (by kernel_rfl) (fun W hW => x_fa0 fa27_0 rfl) (by kernel_rfl) (by decide) fun a hF => ?_
    refine d_val 3 26 (op := (Go.Op.load 3 (Go.Operand.tmp 25))) hF hS (by kernel_rfl) (fun W hW => x_load rfl (m_load flat3 ((m3_d.k2 hW (by omega)).cell (j := 0) rfl))) (by kernel_rfl) (by decide) fun a hF => ?_
    refine d_val 7 30 (op := (Go.Op.move (Go.Operand.const (Go.Value.int Go.IntKind.i64 0)))) hF hS (by kernel_rfl) (fun W hW => x_move rfl) (by kernel_rfl) (by decide) fun a hF => ?_
    refine d_one 4 (some 27) (Go.Op.call (Go.Call.mk (Go.Callee.value (Go.Operand.func 87)) #[(Go.Operand.tmp 26)] #[3])) (by kernel_rfl) (by kernel_rfl) fun ty pos af => ?_
    refine s_callS [_] hF (enters_of Try.func87 (by kernel_rfl) rfl) rfl (by decide) ((kids54 c.kd w18).mono fun e w' h => ⟨(by rw [h.1, ← hy.2.2] : e = .returned (.int .i64 (c.kids.length : Int))), h.2⟩) fun a hF => ?_
    refine s_end ⟨hS, ?_⟩
    refine d_val 5 28 (op := (Go.Op.slice 25 (Go.Operand.tmp 24) none (some (Go.Operand.tmp 27)) none)) hF hS (by kernel_rfl) (fun W hW => x_slice (vlo := none) (vhi := some _) (vmx := none) rfl rfl rfl rfl (m_sliceUK c.kids.length Try.underlying25 el25.size (by omega) (by omega))) (by kernel_rfl) (by decide) fun a hF => ?_
    refine d_val 6 29 (op := (Go.Op.call (Go.Call.mk (Go.Callee.builtin Go.Builtin.len) #[(Go.Operand.tmp 28)] #[25]))) hF hS (by kernel_rfl) (fun W hW => x_len Try.underlying25 rfl) (by kernel_rfl) (by decide) fun a hF => ?_
    refine d_end (by kernel_rfl) (hK10 _ _ ?_)
    refine wp_block ?_
    refine wp_up c.kids.length (fun i a w => ∃ v' o' es', w.ownsRow q 93 9 v' es'.length (es'.flatMap enc9) ∧ (∀ j, v'.ownBlock = some j → j = o') ∧ ((o' = o ∨ b3 < o') ∧ o' < w.heap.size) ∧ LTw w0 es' (ls ++ c.lvK d i) ∧ (c.lvK d i).length ≤ szs (c.kids.take i) ∧ Blk w b3 27 [.int .i64 c.kd, .int .i64 xn, .string xs, .int .i64 p1, .int .i64 p2, .slice a9 n9 d9, .slice a8 ls9.length d8, .slice av nv cv] ∧ Below w0.heap.size w0 w ∧ Ktw o o w1 w ∧ Fs 46 a [(1, .int .i64 d), (2, v'), (3, .pointer (some ⟨b3, 0, none⟩)), (28, .slice av c.kids.length cv), (29, .int .i64 (c.kids.length : Int)), (30, .int .i64 (i : Int))]) ⟨v, o, es, hO, hat, by omega, by simpa [CT.lvK] using hLT, by simp [CT.lvK], m3, hB, hK, hF.sub _ rfl⟩ ?_
    have hb3 : w1.heap.size ≤ b3 := by omega
    repeat clear hF
    clear hB hK m3 hO hat hLT
    rintro i a w hi ⟨vv, o2, es2, hO, hat, hlo, hLT, hll, m3, hB, hK, hF⟩ K' hK'
    have sB := hB.size
    have sK := hK.size
    have hb3l := m3.lt
    have hL1 := hLT.1
    have hes1 : es.length = ls.length := hes0
    rw [List.length_append] at hL1
    have h1vv := (Rd.own hO).one
    refine wp_rs fun K11 hK11 => ?_
    refine s_val hF (x_lss (b := decide (i < c.kids.length)) (decide_eq_decide.2 (by omega)) rfl rfl) (by decide) fun a hF => ?_
    refine s_end (hK11 _ _ ?_)
    refine wp_seq_k fun K12 hK12 => ?_
    refine wp_iff hF rfl (fun hc31 => ?_) (fun hc31 => ?_)
    · obtain ⟨b9, off9, c9, y, kd, hve, hyk, hry, hAb, hbl, hrow⟩ := hkid.row (i := i) (by omega)
      cases hve
      have hks := CT.kid_size hyk
      have hsz := szs_at hyk
      have hlv := CT.lvK_at (d := d) hyk
      have hll2 := kd.leaves_len (d + c.bnd i)
      have hbi := c.bnd_is i
      refine wp_skip (hK12 _ _ ?_)
      refine wp_seq_k fun K13 hK13 => ?_
      refine wp_block ?_
      refine wp_rs fun K14 hK14 => ?_
      refine s_val hF (x_move rfl) (by decide) fun a hF => ?_
      refine s_val hF (x_ixa rfl rfl (m_ixsK i Try.underlying25 el25.size rfl (by omega))) (by decide) fun a hF => ?_
      refine s_val hF (x_ldA wide27 (hrow _ (hB.block _ hbl)) rfl rfl) (by decide) fun a hF => ?_
      refine s_alloc hF (by decide) zero27 fun w20 b8 a eb8 m8 B21 zb8 hF => ?_
      have sB21 := B21.size
      have hB := hB.trans (B21.mono hB.size)
      have hK := hK.below B21
      have m3 := m3.old B21
      have hO := own_below hO B21
      refine s_val hF (x_assign rfl) (by decide) fun a hF => ?_
      refine s_putW hF rfl rfl (size_wide wide27) m8 rfl hry.one fun w24 m8 o25 => ?_
      have so25 := o25.size
      have hB := hB.trans (o25.below (by omega))
      have hK := hK.only o25 (by omega)
      have m3 := m3.only o25 (by omega)
      have hO := own_only hO o25 (fun e => by have := hat _ e; omega)
      refine s_end (hK14 _ _ ?_)
      refine dk2_one (o2) (o2) (ops := regOps Try.f77 6) (N := 10) (by kernel_rfl) wide_orders (by kernel_rfl) fun w26 hw26 B27 hS K15 hK15 => ?_
      have zw26 : w26.heap.size = w24.heap.size := by rw [hw26]
      have sB27 := B27.size
      have hB := hB.trans (B27.mono hB.size)
      have hK := hK.below B27
      have m3 := m3.old B27
      have hO := own_below hO B27
      have m8 := m8.old B27
      have m3_d := m3
      have hO_d := hO
      have m8_d := m8
      have hB_d := hB
      have hK_d := hK
      refine d_val 0 35 (op := (Go.Op.load 27 (Go.Operand.tmp 8))) hF hS (by kernel_rfl) (fun W hW => x_ldW wide27 (m8_d.k2 hW (by omega)) rfl rfl) (by kernel_rfl) (by decide) fun a hF => ?_
      refine d_val 1 36 (op := (Go.Op.move (Go.Operand.tmp 1))) hF hS (by kernel_rfl) (fun W hW => x_move rfl) (by kernel_rfl) (by decide) fun a hF => ?_
      refine d_val 2 37 (op := (Go.Op.fieldAddr 27 (Go.Operand.tmp 3) 0)) hF hS (by kernel_rfl) (fun W hW => x_fa0 fa27_0 rfl) (by kernel_rfl) (by decide) fun a hF => ?_
      refine d_val 3 38 (op := (Go.Op.load 3 (Go.Operand.tmp 37))) hF hS (by kernel_rfl) (fun W hW => x_load rfl (m_load flat3 ((m3_d.k2 hW (by omega)).cell (j := 0) rfl))) (by kernel_rfl) (by decide) fun a hF => ?_
      refine d_val 4 39 (op := (Go.Op.move (Go.Operand.tmp 7))) hF hS (by kernel_rfl) (fun W hW => x_move rfl) (by kernel_rfl) (by decide) fun a hF => ?_
      refine d_val 7 42 (op := (Go.Op.move (Go.Operand.tmp 2))) hF hS (by kernel_rfl) (fun W hW => x_move rfl) (by kernel_rfl) (by decide) fun a hF => ?_
      refine d_one 5 (some 40) (Go.Op.call (Go.Call.mk (Go.Callee.value (Go.Operand.func 106)) #[(Go.Operand.tmp 38), (Go.Operand.tmp 39)] #[3, 3])) (by kernel_rfl) (by kernel_rfl) fun ty pos af => ?_
      refine s_callB [_, _] hF (enters_of Try.func106 (by kernel_rfl) rfl) rfl (by decide) (rbinds114 c _ _ i w0 w26 hx0 (by omega)) fun w28 a B29 hF => ?_
      have sB29 := B29.size
      have hB := hB.trans (B29.mono hB.size)
      have hK := hK.below B29
      have m3 := m3.old B29
      have hO := own_below hO B29
      have m8 := m8.old B29
      have hS := hS.below B29
      refine s_end ⟨hS, ?_⟩
      refine d_val 6 41 (op := (Go.Op.binOp Go.BinOp.add 3 (Go.Operand.tmp 36) (Go.Operand.tmp 40) 3)) hF hS (by kernel_rfl) (fun W hW => x_add (by omega) (by omega) rfl rfl) (by kernel_rfl) (by decide) fun a hF => ?_
      refine d_one 8 (some 43) (Go.Op.call (Go.Call.mk (Go.Callee.value (Go.Operand.func 77)) #[(Go.Operand.tmp 35), (Go.Operand.tmp 41), (Go.Operand.tmp 42)] #[27, 3, 90])) (by kernel_rfl) (by kernel_rfl) fun ty pos af => ?_
      refine s_call (R := fun u w' => ((∃ o' es', w'.ownsRow q 93 9 u es'.length (es'.flatMap enc9) ∧ (∀ j, u.ownBlock = some j → j = o') ∧ ((o' = o2 ∨ w28.heap.size ≤ o') ∧ o' < w'.heap.size) ∧ LTw w0 es' ((ls ++ c.lvK d i) ++ kd.leaves (d + c.bnd i)))) ∧ Ktw o2 o2 w28 w') hF [_, _, _] (enters_of Try.func77 (by kernel_rfl) rfl) rfl (by decide) (ih kd y (by omega) hry (d + c.bnd i) vv o2 es2 (ls ++ c.lvK d i) w28 (by omega) (by omega) (by omega) hB (by omega) (by omega) (by omega) hO hat hLT) ?_
      rintro v4 w30 a ⟨⟨o4, es4, hO, hat, hlo4, hLT⟩, k31⟩ hF
      have sk31 := k31.size
      have hB := k31.under hB (by omega)
      have hK := hK.trans k31 (by omega)
      have m3 := m3.k2 k31 (by omega)
      have m8 := m8.k2 k31 (by omega)
      have hS := hS.trans k31 (by omega)
      refine s_end ⟨hS, ?_⟩
      refine d_val 9 2 (op := (Go.Op.assign (Go.Operand.tmp 43))) hF hS (by kernel_rfl) (fun W hW => x_assign rfl) (by kernel_rfl) (by decide) fun a hF => ?_
      refine d_end (by kernel_rfl) (hK15 _ _ ?_)
      refine hK13 _ _ ?_
      refine wp_region_lit ?_
      refine s_val hF (x_addn (i + 1) (by omega) (by omega) rfl rfl) (by decide) fun a hF => ?_
      refine s_val hF (x_move rfl) (by decide) fun a hF => ?_
      refine s_end (hK' _ _ (by omega) ⟨v4, o4, es4, hO, hat, by omega, by rw [hlv, ← List.append_assoc]; exact hLT, by rw [hlv, List.length_append]; omega, m3, hB, hK, hF.sub _ rfl⟩)
    · obtain rfl : i = c.kids.length := by omega
      refine wp_exit (hK9 _ _ ?_)
      refine wp_rs fun K16 hK16 => ?_
      refine s_val hF (x_move rfl) (by decide) fun a hF => ?_
      refine s_val hF (x_assign rfl) (by decide) fun a hF => ?_
      refine s_end (hK16 _ _ ?_)
      refine wp_ret (res_slot hF rfl rfl ⟨_, rfl, ⟨o2, es2, hO, hat, by omega, by rw [CT.leaves_lvK (by omega)]; exact hLT⟩, hK⟩)
end Go.Proofs.Ytaclncmkdpjnlaa

namespace Go.Proofs.Ytaclncmkdpjnlaa
open Go.RowKit Go.Shelf
set_option linter.unusedVariables false
set_option linter.unusedSimpArgs false

theorem fa90_0 : fldB Try.prog 93 0 0 = true := by kernel_rfl
theorem fa90_1 : fldB Try.prog 93 1 8 = true := by kernel_rfl
theorem zero90 : (Try.prog.info? 93).bind (·.zero) = some (.agg (z8 ++ [Value.int .i64 0]).toArray) := by kernel_rfl
theorem one9 {y : C8} {d : Int} (h : ∀ u ∈ tc y, u.oneCell' = true) : ∀ u ∈ enc9 (y, d), u.oneCell' = true := by
  intro u hu
  rcases List.mem_append.1 hu with hu | hu
  · exact h u hu
  · rw [List.mem_singleton.1 hu]; rfl
theorem rd_row9 {W : World} {v : Value} {xs : List (C8 × Int)} (h : Rd W v 9 xs.length (xs.flatMap enc9)) {i : Nat} (hi : i < xs.length) :
    ∃ b off c x, v = .slice (some ⟨b, off, none⟩) xs.length c ∧ xs[i]? = some x ∧ ∀ W', Below W.heap.size W W' → ∀ j u, (enc9 x)[j]? = some u → W'.cell? ((⟨b, off + i * 9, none⟩ : Addr).add j) = some u := by
  obtain ⟨b, off, c, rfl, hb⟩ := h.some (by omega)
  refine ⟨b, off, c, xs[i], rfl, List.getElem?_eq_getElem hi, fun W' hB j u hj => ?_⟩
  rw [addr_addn, Nat.add_assoc]
  have hl : ∀ e, (enc9 e).length = 9 := fun e => by simp [enc9, tc]
  have h2 : ∀ (xs : List (C8 × Int)) (i : Nat) (hi : i < xs.length), (enc9 xs[i])[j]? = some u → (xs.flatMap enc9)[i * 9 + j]? = some u := by
    intro xs
    induction xs with
    | nil => intro i hi; simp at hi
    | cons y xs ih =>
      intro i hi hj
      have hj2 : j < 9 := by have := (List.getElem?_eq_some_iff.1 hj).1; rw [hl] at this; exact this
      cases i with
      | zero => rw [List.flatMap_cons, List.getElem?_append_left (by rw [hl]; omega)]; simpa using hj
      | succ i => rw [List.flatMap_cons, List.getElem?_append_right (by rw [hl]; omega), show (i + 1) * 9 + j - (enc9 y).length = i * 9 + j by rw [hl]; omega]; exact ih i (by simpa using hi) (by simpa using hj)
  exact (hB.cell (p := ⟨b, off + (i * 9 + j), none⟩) hb).trans (h.cell (h2 xs i hi hj))
def lstL (n : Int) (l : CT × Int) : Int := max n (match l.1 with | .var k _ => if l.2 ≤ k then min (k - l.2 + 1) 9223372036854775807 else 0 | _ => 0)
theorem CT.leaves_ge : ∀ (c : CT) (d : Int), ∀ l ∈ c.leaves d, d ≤ l.2
  | .two k a b m, d, l, h => by
    have h1 := (CT.two k a b m).bnd_is 0
    have h2 := (CT.two k a b m).bnd_is 1
    rcases List.mem_append.1 h with h | h
    · have := a.leaves_ge _ l h; omega
    · have := b.leaves_ge _ l h; omega
  | .lt a b c m, d, l, h => by
    have h1 := (CT.lt a b c m).bnd_is 0
    have h2 := (CT.lt a b c m).bnd_is 1
    have h3 := (CT.lt a b c m).bnd_is 2
    rcases List.mem_append.1 h with h | h
    · have := a.leaves_ge _ l h; omega
    · rcases List.mem_append.1 h with h | h
      · have := b.leaves_ge _ l h; omega
      · have := c.leaves_ge _ l h; omega
  | .var .., d, l, h => by simp [CT.leaves] at h; subst h; exact Int.le_refl _
  | .sort .., d, l, h => by simp [CT.leaves] at h; subst h; exact Int.le_refl _
  | .cst .., d, l, h => by simp [CT.leaves] at h; subst h; exact Int.le_refl _
  | .odd .., d, l, h => by simp [CT.leaves] at h; subst h; exact Int.le_refl _
def isC (s : ByteArray) : CT → Bool
  | .cst t _ _ => decide (t = s)
  | _ => false
def CT.menR (c : CT) (s : ByteArray) : Bool := decide c.ok && (c.leaves 0).any (fun l => isC s l.1)

end Go.Proofs.Ytaclncmkdpjnlaa

namespace Go.Proofs.Ytaclncmkdpjnlaa
set_option linter.unusedVariables false
set_option linter.unusedSimpArgs false

/-- Lifting without an end: by b what is d or more. -/
def PT.sh (b : Int) : PT → Int → PT
  | .var n, d => .var (if d ≤ n then n + b else n)
  | .two k p q, d => .two k (p.sh b d) (q.sh b (d + if k = 3 ∨ k = 4 then 1 else 0))
  | .lt p q r, d => .lt (p.sh b d) (q.sh b d) (r.sh b (d + 1))
  | .sort o, _ => .sort o
  | .cst s os, _ => .cst s os
  | .odd k, _ => .odd k
def PT.pu (v : PT) : PT → Int → PT
  | .var n, d => if n = d then v.sh d 0 else .var (if d < n then n - 1 else n)
  | .two k p q, d => .two k (PT.pu v p d) (PT.pu v q (d + if k = 3 ∨ k = 4 then 1 else 0))
  | .lt p q r, d => .lt (PT.pu v p d) (PT.pu v q d) (PT.pu v r (d + 1))
  | .sort o, _ => .sort o
  | .cst s os, _ => .cst s os
  | .odd k, _ => .odd k
theorem bnd01 (k : Int) : 0 ≤ (if k = 3 ∨ k = 4 then (1 : Int) else 0) ∧ (if k = 3 ∨ k = 4 then (1 : Int) else 0) ≤ 1 := by split <;> omega
/-- Its variables are from 0 to M. -/
def PT.bd (M : Int) : PT → Prop
  | .var n => 0 ≤ n ∧ n ≤ M
  | .two _ p q => p.bd M ∧ q.bd M
  | .lt p q r => p.bd M ∧ q.bd M ∧ r.bd M
  | _ => True
theorem PT.bd.mono {M N : Int} (h : M ≤ N) : ∀ {p : PT}, p.bd M → p.bd N
  | .var n, h1 => ⟨h1.1, by have := h1.2; omega⟩
  | .two _ p q, h1 => ⟨PT.bd.mono h h1.1, PT.bd.mono h h1.2⟩
  | .lt p q r, h1 => ⟨PT.bd.mono h h1.1, PT.bd.mono h h1.2.1, PT.bd.mono h h1.2.2⟩
  | .sort _, _ => trivial
  | .cst _ _, _ => trivial
  | .odd _, _ => trivial
theorem lift_sh {M b : Int} (hM : M + b ≤ 9223372036854775807) (hb : 0 ≤ b) : ∀ (p : PT) (d : Int), p.bd M → 0 ≤ d → p.lift 0 b d = p.sh b d ∧ (p.sh b d).bd (M + b)
  | .var n, d, h, hd => by
    have h1 := h.1
    have h2 := h.2
    have e : liftN 0 b d n = if d ≤ n then n + b else n := by
      unfold liftN
      by_cases h3 : d ≤ n
      · rw [if_pos ⟨h3, by omega⟩, if_pos h3]; omega
      · rw [if_neg (fun h4 => h3 h4.1), if_neg h3]
    simp only [PT.lift, PT.sh, PT.bd]
    rw [e]
    refine ⟨rfl, ?_⟩
    split <;> omega
  | .two k p q, d, h, hd => by
    have := bnd01 k
    have h1 := lift_sh hM hb p d h.1 hd
    have h2 := lift_sh hM hb q (d + if k = 3 ∨ k = 4 then 1 else 0) h.2 (by omega)
    simp only [PT.lift, PT.sh, PT.bd]
    rw [h1.1, h2.1]
    exact ⟨rfl, h1.2, h2.2⟩
  | .lt p q r, d, h, hd => by
    have h1 := lift_sh hM hb p d h.1 hd
    have h2 := lift_sh hM hb q d h.2.1 hd
    have h3 := lift_sh hM hb r (d + 1) h.2.2 (by omega)
    simp only [PT.lift, PT.sh, PT.bd]
    rw [h1.1, h2.1, h3.1]
    exact ⟨rfl, h1.2, h2.2, h3.2⟩
  | .sort o, _, _, _ => ⟨rfl, trivial⟩
  | .cst s os, _, _, _ => ⟨rfl, trivial⟩
  | .odd k, _, _, _ => ⟨rfl, trivial⟩
theorem put_pu {M N : Int} {v : PT} (hv : v.bd N) (hN0 : 0 ≤ N) : ∀ (t : PT) (d : Int), t.bd M → 0 ≤ d → N + d + t.dep ≤ 9223372036854775807 → PT.put v t d = PT.pu v t d ∧ (PT.pu v t d).bd (max M (N + d + t.dep))
  | .var n, d, h, hd, hL => by
    have h1 := h.1
    have h2 := h.2
    simp only [PT.put, PT.pu]
    simp only [PT.dep] at hL ⊢
    by_cases h3 : n = d
    · rw [if_pos h3, if_pos h3]
      have := lift_sh (M := N) (b := d) (by omega) hd v 0 hv (by omega)
      exact ⟨this.1, this.2.mono (by omega)⟩
    · rw [if_neg h3, if_neg h3]
      refine ⟨rfl, ?_⟩
      simp only [PT.bd]
      split <;> omega
  | .two k p q, d, h, hd, hL => by
    have := bnd01 k
    simp only [PT.dep] at hL
    have h1 := put_pu hv hN0 p d h.1 hd (by omega)
    have h2 := put_pu hv hN0 q (d + if k = 3 ∨ k = 4 then 1 else 0) h.2 (by omega) (by omega)
    simp only [PT.put, PT.pu, PT.bd, PT.dep]
    rw [h1.1, h2.1]
    exact ⟨rfl, h1.2.mono (by omega), h2.2.mono (by omega)⟩
  | .lt p q r, d, h, hd, hL => by
    simp only [PT.dep] at hL
    have h1 := put_pu hv hN0 p d h.1 hd (by omega)
    have h2 := put_pu hv hN0 q d h.2.1 hd (by omega)
    have h3 := put_pu hv hN0 r (d + 1) h.2.2 (by omega) (by omega)
    simp only [PT.put, PT.pu, PT.bd, PT.dep]
    rw [h1.1, h2.1, h3.1]
    exact ⟨rfl, h1.2.mono (by omega), h2.2.mono (by omega), h3.2.mono (by omega)⟩
  | .sort o, _, _, _, _ => ⟨rfl, trivial⟩
  | .cst s os, _, _, _, _ => ⟨rfl, trivial⟩
  | .odd k, _, _, _, _ => ⟨rfl, trivial⟩

theorem PT.size_one (p : PT) : 1 ≤ p.size := by cases p <;> simp [PT.size]
theorem sh_size (b : Int) : ∀ (p : PT) (d : Int), (p.sh b d).size = p.size ∧ (p.sh b d).dep = p.dep
  | .var n, d => ⟨rfl, rfl⟩
  | .two k p q, d => by simp [PT.sh, PT.size, PT.dep, sh_size b p, sh_size b q]
  | .lt p q r, d => by simp [PT.sh, PT.size, PT.dep, sh_size b p, sh_size b q, sh_size b r]
  | .sort o, _ => ⟨rfl, rfl⟩
  | .cst s os, _ => ⟨rfl, rfl⟩
  | .odd k, _ => ⟨rfl, rfl⟩
theorem pu_size (v : PT) : ∀ (t : PT) (d : Int), (PT.pu v t d).size ≤ t.size * v.size ∧ (PT.pu v t d).dep ≤ t.dep + v.dep
  | .var n, d => by
    have h1 := v.size_one
    simp only [PT.pu]
    split
    · rw [(sh_size d v 0).1, (sh_size d v 0).2]; simp only [PT.size, PT.dep]; omega
    · simp only [PT.size, PT.dep]; omega
  | .two k p q, d => by
    have h1 := pu_size v p d
    have h2 := pu_size v q (d + if k = 3 ∨ k = 4 then 1 else 0)
    have h3 := v.size_one
    simp only [PT.pu, PT.size, PT.dep, Nat.add_mul]
    omega
  | .lt p q r, d => by
    have h1 := pu_size v p d
    have h2 := pu_size v q d
    have h3 := pu_size v r (d + 1)
    have h4 := v.size_one
    simp only [PT.pu, PT.size, PT.dep, Nat.add_mul]
    omega
  | .sort o, _ => by have := v.size_one; simp only [PT.pu, PT.size, PT.dep]; omega
  | .cst s os, _ => by have := v.size_one; simp only [PT.pu, PT.size, PT.dep]; omega
  | .odd k, _ => by have := v.size_one; simp only [PT.pu, PT.size, PT.dep]; omega
/-- Put in where nothing was, it stays. -/
theorem pu_lift1 (v : PT) : ∀ (t : PT) (d : Int), PT.pu v (t.sh 1 d) d = t
  | .var n, d => by
    simp only [PT.sh, PT.pu]
    by_cases h : d ≤ n
    · rw [if_pos h, if_neg (by omega), if_pos (by omega)]; congr 1; omega
    · rw [if_neg h, if_neg (by omega), if_neg (by omega)]
  | .two k p q, d => by simp only [PT.sh, PT.pu]; rw [pu_lift1 v p d, pu_lift1 v q _]
  | .lt p q r, d => by simp only [PT.sh, PT.pu]; rw [pu_lift1 v p d, pu_lift1 v q d, pu_lift1 v r _]
  | .sort o, _ => rfl
  | .cst s os, _ => rfl
  | .odd k, _ => rfl
theorem sh_add (a b : Int) (ha : 0 ≤ a) : ∀ (t : PT) (e : Int), (t.sh a e).sh b e = t.sh (a + b) e
  | .var n, e => by
    simp only [PT.sh]
    by_cases h : e ≤ n
    · rw [if_pos h, if_pos h, if_pos (by omega)]; congr 1; omega
    · rw [if_neg h, if_neg h, if_neg h]
  | .two k p q, e => by simp only [PT.sh]; rw [sh_add a b ha p e, sh_add a b ha q _]
  | .lt p q r, e => by simp only [PT.sh]; rw [sh_add a b ha p e, sh_add a b ha q e, sh_add a b ha r _]
  | .sort o, _ => rfl
  | .cst s os, _ => rfl
  | .odd k, _ => rfl
theorem psh_zero : ∀ (t : PT) (e : Int), t.sh 0 e = t
  | .var n, e => by simp only [PT.sh, Int.add_zero, ite_self]
  | .two k p q, e => by simp only [PT.sh]; rw [psh_zero p e, psh_zero q _]
  | .lt p q r, e => by simp only [PT.sh]; rw [psh_zero p e, psh_zero q e, psh_zero r _]
  | .sort o, _ => rfl
  | .cst s os, _ => rfl
  | .odd k, _ => rfl
theorem lift_shf {M b f : Int} (hM : M + b ≤ 9223372036854775807) (hb : 0 ≤ b) (hf : 0 ≤ f) : ∀ (p : PT) (d : Int), p.bd M → 0 ≤ d → p.lift f b d = p.sh b (d + f) ∧ (p.sh b (d + f)).bd (M + b)
  | .var n, d, h, hd => by
    have h1 := h.1
    have h2 := h.2
    have e : liftN f b d n = if d + f ≤ n then n + b else n := by
      unfold liftN
      by_cases h3 : d + f ≤ n
      · rw [if_pos ⟨by omega, by omega⟩, if_pos h3]; omega
      · rw [if_neg (fun h4 => h3 (by omega)), if_neg h3]
    simp only [PT.lift, PT.sh, PT.bd]
    rw [e]
    refine ⟨rfl, ?_⟩
    split <;> omega
  | .two k p q, d, h, hd => by
    have := bnd01 k
    have h1 := lift_shf hM hb hf p d h.1 hd
    have h2 := lift_shf hM hb hf q (d + if k = 3 ∨ k = 4 then 1 else 0) h.2 (by omega)
    rw [show d + (if k = 3 ∨ k = 4 then (1 : Int) else 0) + f = d + f + (if k = 3 ∨ k = 4 then (1 : Int) else 0) by omega] at h2
    simp only [PT.lift, PT.sh, PT.bd]
    rw [h1.1, h2.1]
    exact ⟨rfl, h1.2, h2.2⟩
  | .lt p q r, d, h, hd => by
    have h1 := lift_shf hM hb hf p d h.1 hd
    have h2 := lift_shf hM hb hf q d h.2.1 hd
    have h3 := lift_shf hM hb hf r (d + 1) h.2.2 (by omega)
    rw [show d + 1 + f = d + f + 1 by omega] at h3
    simp only [PT.lift, PT.sh, PT.bd]
    rw [h1.1, h2.1, h3.1]
    exact ⟨rfl, h1.2, h2.2, h3.2⟩
  | .sort o, _, _, _ => ⟨rfl, trivial⟩
  | .cst s os, _, _, _ => ⟨rfl, trivial⟩
  | .odd k, _, _, _ => ⟨rfl, trivial⟩
/-- How often variable d stands in it, as seen beneath d binders. -/
def PT.occ : PT → Int → Nat
  | .var n, d => if n = d then 1 else 0
  | .two k p q, d => p.occ d + q.occ (d + if k = 3 ∨ k = 4 then 1 else 0)
  | .lt p q r, d => p.occ d + q.occ d + r.occ (d + 1)
  | _, _ => 0
theorem pu_occ (v : PT) : ∀ (t : PT) (d : Int), ((PT.pu v t d).size : Int) = t.size + t.occ d * (v.size - 1)
  | .var n, d => by
    simp only [PT.pu, PT.occ]
    by_cases h : n = d
    · rw [if_pos h, if_pos h, (sh_size d v 0).1]; simp only [PT.size]; omega
    · rw [if_neg h, if_neg h]; simp only [PT.size]; omega
  | .two k p q, d => by
    have h1 := pu_occ v p d
    have h2 := pu_occ v q (d + if k = 3 ∨ k = 4 then 1 else 0)
    simp only [PT.pu, PT.size, PT.occ, Int.natCast_add, Int.add_mul]
    omega
  | .lt p q r, d => by
    have h1 := pu_occ v p d
    have h2 := pu_occ v q d
    have h3 := pu_occ v r (d + 1)
    simp only [PT.pu, PT.size, PT.occ, Int.natCast_add, Int.add_mul]
    omega
  | .sort o, _ => by simp [PT.pu, PT.size, PT.occ]
  | .cst s os, _ => by simp [PT.pu, PT.size, PT.occ]
  | .odd k, _ => by simp [PT.pu, PT.size, PT.occ]
end Go.Proofs.Ytaclncmkdpjnlaa

namespace Go.Proofs.Ytaclncmkdpjnlaa
open Go.RowKit Go.Shelf
set_option linter.unusedVariables false
set_option linter.unusedSimpArgs false

def occL (l : CT × Int) : Nat := match l.1 with | .var n _ => if n = l.2 then 1 else 0 | _ => 0
theorem leaves_occ : ∀ (c : CT) (d : Int), ((c.leaves d).map occL).sum = c.ess.occ d
  | .two k a b m, d => by
    simp only [CT.leaves, List.map_append, List.sum_append, CT.ess, PT.occ]
    rw [leaves_occ a _, leaves_occ b _]
    simp only [bnd2_0, bnd2_1, Int.add_zero]
  | .lt a b c m, d => by
    simp only [CT.leaves, List.map_append, List.sum_append, CT.ess, PT.occ]
    rw [leaves_occ a _, leaves_occ b _, leaves_occ c _]
    simp only [bnd3_0, bnd3_1, bnd3_2, Int.add_zero]
    omega
  | .var .., d => by simp [CT.leaves, occL, CT.ess, PT.occ]
  | .sort .., d => by simp [CT.leaves, occL, CT.ess, PT.occ]
  | .cst .., d => by simp [CT.leaves, occL, CT.ess, PT.occ]
  | .odd .., d => by simp [CT.leaves, occL, CT.ess, PT.occ]
theorem CT.leaves_le : ∀ (c : CT) (d : Int), ∀ l ∈ c.leaves d, l.2 ≤ d + c.dep
  | .two k a b m, d, l, h => by
    have h1 := (CT.two k a b m).bnd_is 0
    have h2 := (CT.two k a b m).bnd_is 1
    simp only [CT.dep]
    rcases List.mem_append.1 h with h | h
    · have := a.leaves_le _ l h; omega
    · have := b.leaves_le _ l h; omega
  | .lt a b c m, d, l, h => by
    have h1 := (CT.lt a b c m).bnd_is 0
    have h2 := (CT.lt a b c m).bnd_is 1
    have h3 := (CT.lt a b c m).bnd_is 2
    simp only [CT.dep]
    rcases List.mem_append.1 h with h | h
    · have := a.leaves_le _ l h; omega
    · rcases List.mem_append.1 h with h | h
      · have := b.leaves_le _ l h; omega
      · have := c.leaves_le _ l h; omega
  | .var .., d, l, h => by simp [CT.leaves] at h; subst h; simp only [CT.dep]; omega
  | .sort .., d, l, h => by simp [CT.leaves] at h; subst h; simp only [CT.dep]; omega
  | .cst .., d, l, h => by simp [CT.leaves] at h; subst h; simp only [CT.dep]; omega
  | .odd .., d, l, h => by simp [CT.leaves] at h; subst h; simp only [CT.dep]; omega

set_option maxRecDepth 100000 in
set_option maxHeartbeats 400000 in
theorem Occurs51 (c : CT) (x : C8) (w0 : World) (hx : RC w0 (fun k => k < w0.heap.size) c x) (hk1 : c.ok) : Calls Try.prog 40 #[tv x, .int .i64 0] w0 fun e w' => e = .returned (.int .i64 (c.ess.occ 0 : Int)) ∧ Below w0.heap.size w0 w' := by
  have hB := Below.refl w0.heap.size w0
  have sB := hB.size
  refine calls_fs 33 [(0, tv x), (1, .int .i64 0)] Try.func40 rfl rfl rfl rfl rfl fun a hF => ?_
  refine wp_rs fun K1 hK1 => ?_
  refine s_box (tc x) hF (by decide) rfl rfl fun w2 b2 a eb2 m2 B3 zb2 hF => ?_
  have sB3 := B3.size
  have hB := hB.trans (B3.mono hB.size)
  refine s_val hF (x_assign rfl) (by decide) fun a hF => ?_
  refine s_end (hK1 _ _ ?_)
  refine wp_rs fun K2 hK2 => ?_
  refine s_val hF (x_assign rfl) (by decide) fun a hF => ?_
  refine s_end (hK2 _ _ ?_)
  refine wp_seq_k fun K3 hK3 => ?_
  refine wp_rs fun K4 hK4 => ?_
  refine s_val hF (x_ldW wide27 m2 rfl rfl) (by decide) fun a hF => ?_
  refine s_call (R := fun u w' => ((∃ o' es', w'.ownsRow w0.heap.size 93 9 u es'.length (es'.flatMap enc9) ∧ (∀ j, u.ownBlock = some j → j = o') ∧ ((o' = b2 ∨ w2.heap.size ≤ o') ∧ o' < w'.heap.size) ∧ LTw w0 es' ([] ++ c.leaves 0))) ∧ Ktw b2 b2 w2 w') hF [_, _, _] (enters_of Try.func77 (by kernel_rfl) rfl) rfl (by decide) (ends80 w0 w0.heap.size (c.size + 1) c x (by omega) hx 0 nilS b2 [] [] w2 (by decide) (by have := hk1.2; omega) (by have := hk1.1; simp; omega) hB hB.size (by omega) (by omega) (World.ownsRow_nil _ _ _ _) (fun j h => by cases h) (LTw.nil _)) ?_
  rintro v10 w4 a ⟨⟨o9, es9, hO9, _, _, hLT⟩, k5⟩ hF
  have sk5 := k5.size
  have hB := k5.under hB (by omega)
  rw [List.nil_append] at hLT
  have hR9 := Rd.own hO9
  have hl9 := hLT.1
  have hl8 := c.leaves_len 0
  have hk2 := hk1.1
  obtain ⟨a10, c10, hv10, _⟩ := hR9.form
  subst hv10
  refine s_val hF (x_len Try.underlying90 rfl) (by decide) fun a hF => ?_
  refine s_val hF (x_move rfl) (by decide) fun a hF => ?_
  refine s_end (hK4 _ _ ?_)
  refine wp_block ?_
  refine wp_up es9.length (fun i a w => ∃ m : Nat, m = (((c.leaves 0).take i).map occL).sum ∧ m ≤ i ∧ Below w0.heap.size w0 w ∧ Below w4.heap.size w4 w ∧ Fs 33 a [(1, .int .i64 0), (5, .int .i64 (m : Int)), (9, .slice a10 es9.length c10), (10, .int .i64 (es9.length : Int)), (11, .int .i64 (i : Int))]) ⟨0, by simp, by omega, hB, Below.refl _ _, hF.sub _ rfl⟩ ?_
  repeat clear hF
  clear hB
  rintro i a w hi ⟨m, hm, hmr, hB, hBA, hF⟩ K' hK'
  have sB := hB.size
  have sBA := hBA.size
  refine wp_rs fun K5 hK5 => ?_
  refine s_val hF (x_lss (b := decide (i < es9.length)) (decide_eq_decide.2 (by omega)) rfl rfl) (by decide) fun a hF => ?_
  refine s_end (hK5 _ _ ?_)
  refine wp_seq_k fun K6 hK6 => ?_
  refine wp_iff hF rfl (fun hc12 => ?_) (fun hc12 => ?_)
  · obtain ⟨b9, off9, c9, e9, hve, he9, hrow⟩ := rd_row9 hR9 (i := i) (by omega)
    cases hve
    obtain ⟨y, dd⟩ := e9
    obtain ⟨⟨lc9, ld9⟩, hlf⟩ : ∃ l, (c.leaves 0)[i]? = some l := ⟨_, List.getElem?_eq_getElem (by omega)⟩
    obtain ⟨hry, hdd⟩ := hLT.2 i _ _ he9 hlf
    simp only at hry hdd
    subst hdd
    have hge := c.leaves_ge 0 _ (List.mem_of_getElem? hlf)
    simp only at hge
    have htk := take_snoc hlf
    have hle := c.leaves_le 0 _ (List.mem_of_getElem? hlf)
    simp only at hle
    have hkd := hk1.2
    refine wp_skip (hK6 _ _ ?_)
    refine wp_seq_k fun K7 hK7 => ?_
    refine wp_block ?_
    refine wp_rs fun K8 hK8 => ?_
    refine s_val hF (x_ixa rfl rfl (m_ixsK i Try.underlying90 el87.size rfl (by omega))) (by decide) fun a hF => ?_
    refine s_val hF (x_ldA wide90 (hrow _ hBA) rfl rfl) (by decide) fun a hF => ?_
    refine s_alloc hF (by decide) zero90 fun w6 b7 a eb7 m7 B7 zb7 hF => ?_
    have sB7 := B7.size
    have hB := hB.trans (B7.mono hB.size)
    have hBA := hBA.trans (B7.mono hBA.size)
    refine s_putW hF rfl rfl (size_wide wide90) m7 rfl (one9 hry.one) fun w10 m7 o11 => ?_
    have so11 := o11.size
    have hB := hB.trans (o11.below (by omega))
    have hBA := hBA.trans (o11.below (by omega))
    refine s_end (hK8 _ _ ?_)
    rcases (show (y.k = 1 ∧ y.n = dd) ∨ (y.k = 1 ∧ ¬ y.n = dd) ∨ y.k ≠ 1 by omega) with hq | hq | hq
    · obtain ⟨n9, m9_, rfl⟩ := hry.var_of (show y.k = 1 from hq.1)
      have hn9 : y.n = n9 := hry.2.1
      have hn64 := hry.2.2.1
      unfold in64 at hn64
      have hls : occL (.var n9 m9_, dd) = 1 := by simp only [occL]; rw [if_pos (by omega)]
      refine wp_rs fun K10 hK10 => ?_
      refine s_val hF (x_fa0 fa90_0 rfl) (by decide) fun a hF => ?_
      refine s_val hF (x_fa0 fa27_0 rfl) (by decide) fun a hF => ?_
      refine s_val hF (x_load rfl (m_load flat3 (m7.cell (j := 0) rfl))) (by decide) fun a hF => ?_
      refine s_val hF (x_eql (b := true) (decide_eq_true (show y.k = 1 from hq.1)) rfl rfl) (by decide) fun a hF => ?_
      refine s_val hF (x_move rfl) (by decide) fun a hF => ?_
      refine s_grd 19 hF rfl rfl rfl ?_
      refine s_val hF (x_fa0 fa90_0 rfl) (by decide) fun a hF => ?_
      refine s_grd 19 hF rfl rfl rfl ?_
      refine s_val hF (x_fa0 fa27_1 rfl) (by decide) fun a hF => ?_
      refine s_grd 19 hF rfl rfl rfl ?_
      refine s_val hF (x_load rfl (m_load flat3 (m7.cell (j := 1) rfl))) (by decide) fun a hF => ?_
      refine s_grd 19 hF rfl rfl rfl ?_
      refine s_val hF (x_move rfl) (by decide) fun a hF => ?_
      refine s_grd 19 hF rfl rfl rfl ?_
      refine s_val hF (x_fa0 fa90_1 rfl) (by decide) fun a hF => ?_
      refine s_grd 19 hF rfl rfl rfl ?_
      refine s_val hF (x_load rfl (m_load flat3 (m7.cell (j := 8) rfl))) (by decide) fun a hF => ?_
      refine s_grd 19 hF rfl rfl rfl ?_
      refine s_val hF (x_add (p := 0) (q := dd) (by omega) (by omega) rfl rfl) (by decide) fun a hF => ?_
      refine s_grd 19 hF rfl rfl rfl ?_
      refine s_val hF (x_eql (p := y.n) (q := 0 + dd) (b := true) (decide_eq_true (by omega)) rfl rfl) (by decide) fun a hF => ?_
      refine s_val hF (x_pick (b := true) rfl rfl) (by decide) fun a hF => ?_
      refine s_end (hK10 _ _ ?_)
      refine wp_if hF rfl ?_
      refine wp_region_lit ?_
      refine s_val hF (x_move rfl) (by decide) fun a hF => ?_
      refine s_val hF (x_addn (m + 1) (by omega) (by omega) rfl rfl) (by decide) fun a hF => ?_
      refine s_val hF (x_assign rfl) (by decide) fun a hF => ?_
      refine s_end (hK7 _ _ ?_)
      refine wp_region_lit ?_
      refine s_val hF (x_addn (i + 1) (by omega) (by omega) rfl rfl) (by decide) fun a hF => ?_
      refine s_val hF (x_move rfl) (by decide) fun a hF => ?_
      refine s_end (hK' _ _ (by omega) ⟨_, by rw [htk, List.map_append, List.sum_append, ← hm]; simp [hls], by omega, hB, hBA, hF.sub _ rfl⟩)
    · obtain ⟨n9, m9_, rfl⟩ := hry.var_of (show y.k = 1 from hq.1)
      have hn9 : y.n = n9 := hry.2.1
      have hn64 := hry.2.2.1
      unfold in64 at hn64
      have hls : occL (.var n9 m9_, dd) = 0 := by simp only [occL]; rw [if_neg (by omega)]
      refine wp_rs fun K11 hK11 => ?_
      refine s_val hF (x_fa0 fa90_0 rfl) (by decide) fun a hF => ?_
      refine s_val hF (x_fa0 fa27_0 rfl) (by decide) fun a hF => ?_
      refine s_val hF (x_load rfl (m_load flat3 (m7.cell (j := 0) rfl))) (by decide) fun a hF => ?_
      refine s_val hF (x_eql (b := true) (decide_eq_true (show y.k = 1 from hq.1)) rfl rfl) (by decide) fun a hF => ?_
      refine s_val hF (x_move rfl) (by decide) fun a hF => ?_
      refine s_grd 19 hF rfl rfl rfl ?_
      refine s_val hF (x_fa0 fa90_0 rfl) (by decide) fun a hF => ?_
      refine s_grd 19 hF rfl rfl rfl ?_
      refine s_val hF (x_fa0 fa27_1 rfl) (by decide) fun a hF => ?_
      refine s_grd 19 hF rfl rfl rfl ?_
      refine s_val hF (x_load rfl (m_load flat3 (m7.cell (j := 1) rfl))) (by decide) fun a hF => ?_
      refine s_grd 19 hF rfl rfl rfl ?_
      refine s_val hF (x_move rfl) (by decide) fun a hF => ?_
      refine s_grd 19 hF rfl rfl rfl ?_
      refine s_val hF (x_fa0 fa90_1 rfl) (by decide) fun a hF => ?_
      refine s_grd 19 hF rfl rfl rfl ?_
      refine s_val hF (x_load rfl (m_load flat3 (m7.cell (j := 8) rfl))) (by decide) fun a hF => ?_
      refine s_grd 19 hF rfl rfl rfl ?_
      refine s_val hF (x_add (p := 0) (q := dd) (by omega) (by omega) rfl rfl) (by decide) fun a hF => ?_
      refine s_grd 19 hF rfl rfl rfl ?_
      refine s_val hF (x_eql (p := y.n) (q := 0 + dd) (b := false) (decide_eq_false (by omega)) rfl rfl) (by decide) fun a hF => ?_
      refine s_val hF (x_pick (b := true) rfl rfl) (by decide) fun a hF => ?_
      refine s_end (hK11 _ _ ?_)
      refine wp_if hF rfl ?_
      refine wp_skip (hK7 _ _ ?_)
      refine wp_region_lit ?_
      refine s_val hF (x_addn (i + 1) (by omega) (by omega) rfl rfl) (by decide) fun a hF => ?_
      refine s_val hF (x_move rfl) (by decide) fun a hF => ?_
      refine s_end (hK' _ _ (by omega) ⟨_, by rw [htk, List.map_append, List.sum_append, ← hm]; simp [hls], by omega, hB, hBA, hF.sub _ rfl⟩)
    · have hls : occL (lc9, dd) = 0 := by cases lc9 <;> first | (exfalso; exact hq hry.1) | rfl
      refine wp_rs fun K12 hK12 => ?_
      refine s_val hF (x_fa0 fa90_0 rfl) (by decide) fun a hF => ?_
      refine s_val hF (x_fa0 fa27_0 rfl) (by decide) fun a hF => ?_
      refine s_val hF (x_load rfl (m_load flat3 (m7.cell (j := 0) rfl))) (by decide) fun a hF => ?_
      refine s_val hF (x_eql (b := false) (decide_eq_false (show ¬ y.k = 1 from hq)) rfl rfl) (by decide) fun a hF => ?_
      refine s_val hF (x_move rfl) (by decide) fun a hF => ?_
      refine s_grdn 19 hF rfl rfl (by decide) fun a hF => ?_
      refine s_grdn 19 hF rfl rfl (by decide) fun a hF => ?_
      refine s_grdn 19 hF rfl rfl (by decide) fun a hF => ?_
      refine s_grdn 19 hF rfl rfl (by decide) fun a hF => ?_
      refine s_grdn 19 hF rfl rfl (by decide) fun a hF => ?_
      refine s_grdn 19 hF rfl rfl (by decide) fun a hF => ?_
      refine s_grdn 19 hF rfl rfl (by decide) fun a hF => ?_
      refine s_grdn 19 hF rfl rfl (by decide) fun a hF => ?_
      refine s_val hF (x_pick (b := false) rfl rfl) (by decide) fun a hF => ?_
      refine s_end (hK12 _ _ ?_)
      refine wp_if hF rfl ?_
      refine wp_skip (hK7 _ _ ?_)
      refine wp_region_lit ?_
      refine s_val hF (x_addn (i + 1) (by omega) (by omega) rfl rfl) (by decide) fun a hF => ?_
      refine s_val hF (x_move rfl) (by decide) fun a hF => ?_
      refine s_end (hK' _ _ (by omega) ⟨_, by rw [htk, List.map_append, List.sum_append, ← hm]; simp [hls], by omega, hB, hBA, hF.sub _ rfl⟩)
  · obtain rfl : i = es9.length := by omega
    rw [List.take_of_length_le (by omega), leaves_occ c 0] at hm
    refine wp_exit (hK3 _ _ ?_)
    refine wp_rs fun K13 hK13 => ?_
    refine s_val hF (x_move rfl) (by decide) fun a hF => ?_
    refine s_val hF (x_assign rfl) (by decide) fun a hF => ?_
    refine s_end (hK13 _ _ ?_)
    refine wp_ret (res_slot hF rfl rfl ⟨by rw [← hm], hB⟩)
end Go.Proofs.Ytaclncmkdpjnlaa

namespace Go.Proofs.Ytaclncmkdpjnlaa
open Go.RowKit Go.Shelf
set_option linter.unusedVariables false
set_option linter.unusedSimpArgs false

/-- What formOf tells. -/
def FF (w0 : World) (x : C3) (l : Lv) (w' : World) (c : Int) (vk : Value) (ks : List Int) : Prop := Rd w' vk 1 ks.length (ints ks) ∧ (¬ sndL l → c = 0 ∧ ks = []) ∧ ∀ s, RS w0 s x → s.good → c = nfC s ∧ ks = nfK s

set_option maxRecDepth 100000 in
set_option maxHeartbeats 1600000 in
theorem formOf38 (x : C3) (l : Lv) (w0 : World) (hL : RL w0 x l) : Calls Try.prog 108 #[lv x] w0 fun e w' => ∃ v, e = .returned v ∧ (∃ c vk ks, v = .tuple #[.agg [.int .i64 c, vk].toArray, .bool (decide (sndL l))] ∧ FF w0 x l w' c vk ks) ∧ Below w0.heap.size w0 w' := by
  have hB := Below.refl w0.heap.size w0
  have sB := hB.size
  refine calls_fs 13 [(0, lv x)] Try.func108 rfl rfl rfl rfl rfl fun a hF => ?_
  refine wp_rs fun K1 hK1 => ?_
  refine s_box (lc x) hF (by decide) rfl rfl fun w2 b1 a eb1 m1 B3 zb1 hF => ?_
  have sB3 := B3.size
  have hB := hB.trans (B3.mono hB.size)
  refine s_alloc hF (by decide) zero59 fun w4 b2 a eb2 m2 B5 zb2 hF => ?_
  have sB5 := B5.size
  have hB := hB.trans (B5.mono hB.size)
  have m1 := m1.old B5
  refine s_val hF (x_assign rfl) (by decide) fun a hF => ?_
  refine s_end (hK1 _ _ ?_)
  refine wp_seq_k fun K2 hK2 => ?_
  rcases (show decide (sndL l) = false ∨ decide (sndL l) = true by cases decide (sndL l) <;> simp) with hd | hd
  · have hn : ¬ sndL l := of_decide_eq_false hd
    refine wp_rs fun K4 hK4 => ?_
    refine s_val hF (x_ldW wide24 m1 rfl rfl) (by decide) fun a hF => ?_
    refine s_callB [_] hF (enters_of Try.func123 (by kernel_rfl) rfl) rfl (by decide) (isSound49 x l w4 (hL.old hB)) fun w6 a B7 hF => ?_
    have sB7 := B7.size
    have hB := hB.trans (B7.mono hB.size)
    have m1 := m1.old B7
    have m2 := m2.old B7
    rw [hd] at hF
    refine s_val hF (x_not rfl) (by decide) fun a hF => ?_
    refine s_end (hK4 _ _ ?_)
    refine wp_if hF rfl ?_
    refine wp_rs fun K5 hK5 => ?_
    refine s_val hF (x_build (vs := []) rfl (b59_ _)) (by decide) fun a hF => ?_
    refine s_putW hF rfl rfl (size_wide wide59) m2 rfl (one2 rfl) fun w8 m2 o9 => ?_
    have so9 := o9.size
    have hB := hB.trans (o9.below (by omega))
    have m1 := m1.only o9 (by omega)
    refine s_val hF (x_assign rfl) (by decide) fun a hF => ?_
    refine s_end (hK5 _ _ ?_)
    refine wp_ret (then_ret (res_ct hF rfl rfl m2 wide59 rfl ⟨_, rfl, ⟨_, _, [], by rw [hd], Rd.nil _ _, fun _ => ⟨rfl, rfl⟩, fun s hs hsg => absurd (rs_snd hL hs hsg) hn⟩, hB⟩))
  · have hn : sndL l := of_decide_eq_true hd
    obtain ⟨s, hs, hsg⟩ := sound_sl hL hn
    refine wp_rs fun K6 hK6 => ?_
    refine s_val hF (x_ldW wide24 m1 rfl rfl) (by decide) fun a hF => ?_
    refine s_callB [_] hF (enters_of Try.func123 (by kernel_rfl) rfl) rfl (by decide) (isSound49 x l w4 (hL.old hB)) fun w10 a B11 hF => ?_
    have sB11 := B11.size
    have hB := hB.trans (B11.mono hB.size)
    have m1 := m1.old B11
    have m2 := m2.old B11
    rw [hd] at hF
    refine s_val hF (x_not rfl) (by decide) fun a hF => ?_
    refine s_end (hK6 _ _ ?_)
    refine wp_if hF rfl ?_
    refine wp_skip (hK2 _ _ ?_)
    refine wp_rs fun K7 hK7 => ?_
    refine s_alloc hF (by decide) zero59 fun w12 b4 a eb4 m4 B13 zb4 hF => ?_
    have sB13 := B13.size
    have hB := hB.trans (B13.mono hB.size)
    have m1 := m1.old B13
    have m2 := m2.old B13
    refine s_end (hK7 _ _ ?_)
    refine wp_rs fun K8 hK8 => ?_
    refine s_val hF (x_ldW wide24 m1 rfl rfl) (by decide) fun a hF => ?_
    have hA : FA 122 w0.heap.size w12 b4 b4 (.slice none 0 0) 0 [] := FA.start m4 (by omega)
    refine s_call (R := fun u w' => (u = .tuple #[] ∧ ∃ v' o', FA 122 w0.heap.size w' b4 o' v' (rc s 0 0) (nfK s) ∧ (o' = b4 ∨ w12.heap.size ≤ o')) ∧ Ktw b4 b4 w12 w') hF [_, _, _] (enters_of Try.func124 (by kernel_rfl) rfl) rfl (by decide) (raise59 w0 b4 s x hs hsg.2.2 0 b4 _ 0 [] w12 (by decide) (by decide) (by decide) (by decide) (by decide) hB hA) ?_
    rintro _ w14 a ⟨⟨rfl, v2, o2, hA, ho2⟩, k15⟩ hF
    have sk15 := k15.size
    have hB := k15.under hB (by omega)
    have m1 := m1.k2 k15 (by omega)
    have m2 := m2.k2 k15 (by omega)
    have hlo := hA.lo
    refine s_end (hK8 _ _ ?_)
    refine wp_rs fun K9 hK9 => ?_
    refine s_call (R := fun u w' => (u = .tuple #[] ∧ FA 122 w0.heap.size w' b4 o2 v2 (setl (rc s 0 0) (nfK s)) (nfK s)) ∧ Ktw b4 o2 w14 w') hF [_] (enters_of Try.func111 (by kernel_rfl) rfl) rfl (by decide) (settle47 w0.heap.size b4 o2 v2 _ (nfK s) w14 hA (by have := nfK_len s hsg; omega) (nfK_lo s) (rc_bd (by decide) (by decide) (by decide) (by decide)).1) ?_
    rintro _ w16 a ⟨⟨rfl, hA⟩, k17⟩ hF
    have sk17 := k17.size
    have hB := k17.under hB (by omega)
    have m1 := m1.k2 k17 (by omega)
    have m2 := m2.k2 k17 (by omega)
    rw [nfC_setl] at hA
    have m4 := hA.blk
    have hlo2 := hA.lo
    have h1v := hA.rd.one
    refine s_end (hK9 _ _ ?_)
    refine wp_rs fun K10 hK10 => ?_
    refine s_val hF (x_ldW wide59 m4 rfl rfl) (by decide) fun a hF => ?_
    refine s_putW hF rfl rfl (size_wide wide59) m2 rfl (one2 h1v) fun w18 m2 o19 => ?_
    have so19 := o19.size
    have hB := hB.trans (o19.below (by omega))
    have m1 := m1.only o19 (by omega)
    have hA := hA.only o19 (by omega)
    have m4 := m4.only o19 (by omega)
    refine s_val hF (x_assign rfl) (by decide) fun a hF => ?_
    refine s_end (hK10 _ _ ?_)
    refine wp_ret (res_ct hF rfl rfl m2 wide59 rfl ⟨_, rfl, ⟨_, v2, nfK s, by rw [hd], hA.rd, fun h => absurd hn h, fun s' hs' _ => by rw [RS.inj hs hs']; exact ⟨rfl, rfl⟩⟩, hB⟩)

set_option maxRecDepth 100000 in
set_option maxHeartbeats 1600000 in
theorem same44 (c d : Int) (v u : Value) (ks ls : List Int) (w0 : World) (hl : ks.length ≤ 9223372036854775807) (hV : Rd w0 v 1 ks.length (ints ks)) (hU : Rd w0 u 1 ls.length (ints ls)) : Calls Try.prog 131 #[.agg [.int .i64 c, v].toArray, .agg [.int .i64 d, u].toArray] w0 fun e w' => e = .returned (.bool (decide (c = d ∧ ks = ls))) ∧ Below w0.heap.size w0 w' := by
  have hB := Below.refl w0.heap.size w0
  have sB := hB.size
  refine calls_fs 17 [(0, .agg [.int .i64 c, v].toArray), (1, .agg [.int .i64 d, u].toArray)] Try.func131 rfl rfl rfl rfl rfl fun a hF => ?_
  refine wp_rs fun K1 hK1 => ?_
  refine s_box ([.int .i64 c, v]) hF (by decide) rfl rfl fun w2 b2 a eb2 m2 B3 zb2 hF => ?_
  have sB3 := B3.size
  have hB := hB.trans (B3.mono hB.size)
  refine s_box ([.int .i64 d, u]) hF (by decide) rfl rfl fun w4 b3 a eb3 m3 B5 zb3 hF => ?_
  have sB5 := B5.size
  have hB := hB.trans (B5.mono hB.size)
  have m2 := m2.old B5
  refine s_val hF (x_assign rfl) (by decide) fun a hF => ?_
  refine s_end (hK1 _ _ ?_)
  rcases (show c ≠ d ∨ c = d by omega) with hq | hq
  · skip
    refine wp_rs fun K3 hK3 => ?_
    refine s_val hF (x_fa0 fa59_0 rfl) (by decide) fun a hF => ?_
    refine s_val hF (x_load rfl (m_load flat3 (m2.cell (j := 0) rfl))) (by decide) fun a hF => ?_
    refine s_val hF (x_fa0 fa59_0 rfl) (by decide) fun a hF => ?_
    refine s_val hF (x_load rfl (m_load flat3 (m3.cell (j := 0) rfl))) (by decide) fun a hF => ?_
    refine s_val hF (x_eql (b := false) (decide_eq_false (by omega)) rfl rfl) (by decide) fun a hF => ?_
    refine s_val hF (x_move rfl) (by decide) fun a hF => ?_
    refine s_grdn 10 hF rfl rfl (by decide) fun a hF => ?_
    refine s_grdn 10 hF rfl rfl (by decide) fun a hF => ?_
    refine s_grdn 10 hF rfl rfl (by decide) fun a hF => ?_
    refine s_grdn 10 hF rfl rfl (by decide) fun a hF => ?_
    refine s_grdn 10 hF rfl rfl (by decide) fun a hF => ?_
    refine s_val hF (x_pick (b := false) rfl rfl) (by decide) fun a hF => ?_
    refine s_val hF (x_assign rfl) (by decide) fun a hF => ?_
    refine s_end (hK3 _ _ ?_)
    refine wp_ret (res_slot hF rfl rfl ⟨by simp [hq], hB⟩)
  · skip
    refine wp_rs fun K4 hK4 => ?_
    refine s_val hF (x_fa0 fa59_0 rfl) (by decide) fun a hF => ?_
    refine s_val hF (x_load rfl (m_load flat3 (m2.cell (j := 0) rfl))) (by decide) fun a hF => ?_
    refine s_val hF (x_fa0 fa59_0 rfl) (by decide) fun a hF => ?_
    refine s_val hF (x_load rfl (m_load flat3 (m3.cell (j := 0) rfl))) (by decide) fun a hF => ?_
    refine s_val hF (x_eql (b := true) (decide_eq_true (by omega)) rfl rfl) (by decide) fun a hF => ?_
    refine s_val hF (x_move rfl) (by decide) fun a hF => ?_
    refine s_grd 10 hF rfl rfl rfl ?_
    refine s_val hF (x_fa0 fa59_1 rfl) (by decide) fun a hF => ?_
    refine s_grd 10 hF rfl rfl rfl ?_
    refine s_val hF (x_load rfl (m_load flat29 (m2.cell (j := 1) rfl))) (by decide) fun a hF => ?_
    refine s_grd 10 hF rfl rfl rfl ?_
    refine s_val hF (x_fa0 fa59_1 rfl) (by decide) fun a hF => ?_
    refine s_grd 10 hF rfl rfl rfl ?_
    refine s_val hF (x_load rfl (m_load flat29 (m3.cell (j := 1) rfl))) (by decide) fun a hF => ?_
    refine s_grd 10 hF rfl rfl rfl ?_
    refine s_callB [_, _] hF (enters_of Try.func139 (by kernel_rfl) rfl) rfl (by decide) (equal62 ks ls v u w4 hl (hV.below hB) (hU.below hB)) fun w6 a B7 hF => ?_
    have sB7 := B7.size
    have hB := hB.trans (B7.mono hB.size)
    have m2 := m2.old B7
    have m3 := m3.old B7
    refine s_val hF (x_pick (b := true) rfl rfl) (by decide) fun a hF => ?_
    refine s_val hF (x_assign rfl) (by decide) fun a hF => ?_
    refine s_end (hK4 _ _ ?_)
    refine wp_ret (res_slot hF rfl rfl ⟨by simp [hq], hB⟩)

/-- Two come to one form. -/
def eqF (a b : SL) : Prop := nfC a = nfC b ∧ nfK a = nfK b
instance (a b : SL) : Decidable (eqF a b) := inferInstanceAs (Decidable (_ ∧ _))
/-- What Equal and Leq tell. -/
def TB (w0 : World) (x y : C3) (la lb : Lv) (P : SL → SL → Prop) [∀ s t, Decidable (P s t)] (b : Bool) : Prop := (¬ (sndL la ∧ sndL lb) → b = false) ∧ ∀ s t, RS w0 s x → RS w0 t y → s.good → t.good → b = decide (P s t)
def leS (s t : SL) : Prop := eqF (.mx s t) t
instance (a b : SL) : Decidable (leS a b) := inferInstanceAs (Decidable (eqF _ _))

set_option maxRecDepth 100000 in
set_option maxHeartbeats 1600000 in
theorem Equal23 (x y : C3) (la lb : Lv) (w0 : World) (hLa : RL w0 x la) (hLb : RL w0 y lb) : Calls Try.prog 115 #[lv x, lv y] w0 fun e w' => ∃ v, e = .returned v ∧ (∃ b, v = .bool b ∧ TB w0 x y la lb eqF b) ∧ Below w0.heap.size w0 w' := by
  have hB := Below.refl w0.heap.size w0
  have sB := hB.size
  refine calls_fs 28 [(0, lv x), (1, lv y)] Try.func115 rfl rfl rfl rfl rfl fun a hF => ?_
  refine wp_rs fun K1 hK1 => ?_
  refine s_box (lc x) hF (by decide) rfl rfl fun w2 b2 a eb2 m2 B3 zb2 hF => ?_
  have sB3 := B3.size
  have hB := hB.trans (B3.mono hB.size)
  refine s_box (lc y) hF (by decide) rfl rfl fun w4 b3 a eb3 m3 B5 zb3 hF => ?_
  have sB5 := B5.size
  have hB := hB.trans (B5.mono hB.size)
  have m2 := m2.old B5
  refine s_val hF (x_assign rfl) (by decide) fun a hF => ?_
  refine s_end (hK1 _ _ ?_)
  rcases (show (decide (sndL la) = false ∧ decide (sndL lb) = false) ∨ (decide (sndL la) = false ∧ decide (sndL lb) = true) ∨ (decide (sndL la) = true ∧ decide (sndL lb) = false) ∨ (decide (sndL la) = true ∧ decide (sndL lb) = true) by cases decide (sndL la) <;> cases decide (sndL lb) <;> simp) with ⟨hd1, hd2⟩ | ⟨hd1, hd2⟩ | ⟨hd1, hd2⟩ | ⟨hd1, hd2⟩
  · have hn : ¬ (sndL la ∧ sndL lb) := fun h => by exact absurd h.1 (of_decide_eq_false hd1)
    have hB9 := hB
    refine wp_rs fun K3 hK3 => ?_
    refine s_val hF (x_ldW wide24 m2 rfl rfl) (by decide) fun a hF => ?_
    refine s_callR (R := fun v w' => ∃ c vk ks, v = .tuple #[.agg [.int .i64 c, vk].toArray, .bool (decide (sndL la))] ∧ FF w4 x la w' c vk ks) [_] hF (enters_of Try.func108 (by kernel_rfl) rfl) rfl (by decide) (formOf38 x la w4 (hLa.old hB)) ?_
    rintro _ w6 a ⟨c1, vk1, ks1, rfl, hf1⟩ B7 hF
    have sB7 := B7.size
    have hB := hB.trans (B7.mono hB.size)
    have m2 := m2.old B7
    have m3 := m3.old B7
    have h1v1 := hf1.1.one
    have hB1 := Below.refl w6.heap.size w6
    rw [hd1] at hF
    refine s_val hF (x_move rfl) (by decide) fun a hF => ?_
    refine s_val hF (x_ext rfl rfl) (by decide) fun a hF => ?_
    refine s_val hF (x_ext rfl rfl) (by decide) fun a hF => ?_
    refine s_alloc hF (by decide) zero59 fun w8 b5 a eb5 m5 B9 zb5 hF => ?_
    have sB9 := B9.size
    have hB := hB.trans (B9.mono hB.size)
    have hB1 := hB1.trans (B9.mono hB1.size)
    have m2 := m2.old B9
    have m3 := m3.old B9
    refine s_putW hF rfl rfl (size_wide wide59) m5 rfl (one2 h1v1) fun w10 m5 o11 => ?_
    have so11 := o11.size
    have hB := hB.trans (o11.below (by omega))
    have hB1 := hB1.trans (o11.below (by omega))
    have m2 := m2.only o11 (by omega)
    have m3 := m3.only o11 (by omega)
    refine s_val hF (x_assign rfl) (by decide) fun a hF => ?_
    refine s_end (hK3 _ _ ?_)
    have hB8 := hB
    refine wp_rs fun K4 hK4 => ?_
    refine s_val hF (x_ldW wide24 m3 rfl rfl) (by decide) fun a hF => ?_
    refine s_callR (R := fun v w' => ∃ c vk ks, v = .tuple #[.agg [.int .i64 c, vk].toArray, .bool (decide (sndL lb))] ∧ FF w10 y lb w' c vk ks) [_] hF (enters_of Try.func108 (by kernel_rfl) rfl) rfl (by decide) (formOf38 y lb w10 (hLb.old hB)) ?_
    rintro _ w12 a ⟨c2, vk2, ks2, rfl, hf2⟩ B13 hF
    have sB13 := B13.size
    have hB := hB.trans (B13.mono hB.size)
    have hB1 := hB1.trans (B13.mono hB1.size)
    have m2 := m2.old B13
    have m3 := m3.old B13
    have m5 := m5.old B13
    have h1v2 := hf2.1.one
    have hB2 := Below.refl w12.heap.size w12
    rw [hd2] at hF
    refine s_val hF (x_move rfl) (by decide) fun a hF => ?_
    refine s_val hF (x_ext rfl rfl) (by decide) fun a hF => ?_
    refine s_val hF (x_ext rfl rfl) (by decide) fun a hF => ?_
    refine s_alloc hF (by decide) zero59 fun w14 b7 a eb7 m7 B15 zb7 hF => ?_
    have sB15 := B15.size
    have hB := hB.trans (B15.mono hB.size)
    have hB1 := hB1.trans (B15.mono hB1.size)
    have hB2 := hB2.trans (B15.mono hB2.size)
    have m2 := m2.old B15
    have m3 := m3.old B15
    have m5 := m5.old B15
    refine s_putW hF rfl rfl (size_wide wide59) m7 rfl (one2 h1v2) fun w16 m7 o17 => ?_
    have so17 := o17.size
    have hB := hB.trans (o17.below (by omega))
    have hB1 := hB1.trans (o17.below (by omega))
    have hB2 := hB2.trans (o17.below (by omega))
    have m2 := m2.only o17 (by omega)
    have m3 := m3.only o17 (by omega)
    have m5 := m5.only o17 (by omega)
    refine s_val hF (x_assign rfl) (by decide) fun a hF => ?_
    refine s_end (hK4 _ _ ?_)
    refine wp_rs fun K5 hK5 => ?_
    refine s_val hF (x_move rfl) (by decide) fun a hF => ?_
    refine s_val hF (x_move rfl) (by decide) fun a hF => ?_
    refine s_grdn 20 hF rfl rfl (by decide) fun a hF => ?_
    refine s_val hF (x_pick (b := false) rfl rfl) (by decide) fun a hF => ?_
    refine s_val hF (x_move rfl) (by decide) fun a hF => ?_
    refine s_grdn 23 hF rfl rfl (by decide) fun a hF => ?_
    refine s_grdn 23 hF rfl rfl (by decide) fun a hF => ?_
    refine s_grdn 23 hF rfl rfl (by decide) fun a hF => ?_
    refine s_val hF (x_pick (b := false) rfl rfl) (by decide) fun a hF => ?_
    refine s_val hF (x_assign rfl) (by decide) fun a hF => ?_
    refine s_end (hK5 _ _ ?_)
    refine wp_ret (res_slot hF rfl rfl ⟨_, rfl, ⟨_, rfl, fun _ => rfl, fun s t hs ht g1 g2 => absurd ⟨rs_snd hLa hs g1, rs_snd hLb ht g2⟩ hn⟩, hB⟩)
  · have hn : ¬ (sndL la ∧ sndL lb) := fun h => by exact absurd h.1 (of_decide_eq_false hd1)
    have hB9 := hB
    refine wp_rs fun K6 hK6 => ?_
    refine s_val hF (x_ldW wide24 m2 rfl rfl) (by decide) fun a hF => ?_
    refine s_callR (R := fun v w' => ∃ c vk ks, v = .tuple #[.agg [.int .i64 c, vk].toArray, .bool (decide (sndL la))] ∧ FF w4 x la w' c vk ks) [_] hF (enters_of Try.func108 (by kernel_rfl) rfl) rfl (by decide) (formOf38 x la w4 (hLa.old hB)) ?_
    rintro _ w18 a ⟨c1, vk1, ks1, rfl, hf1⟩ B19 hF
    have sB19 := B19.size
    have hB := hB.trans (B19.mono hB.size)
    have m2 := m2.old B19
    have m3 := m3.old B19
    have h1v1 := hf1.1.one
    have hB1 := Below.refl w18.heap.size w18
    rw [hd1] at hF
    refine s_val hF (x_move rfl) (by decide) fun a hF => ?_
    refine s_val hF (x_ext rfl rfl) (by decide) fun a hF => ?_
    refine s_val hF (x_ext rfl rfl) (by decide) fun a hF => ?_
    refine s_alloc hF (by decide) zero59 fun w20 b5 a eb5 m5 B21 zb5 hF => ?_
    have sB21 := B21.size
    have hB := hB.trans (B21.mono hB.size)
    have hB1 := hB1.trans (B21.mono hB1.size)
    have m2 := m2.old B21
    have m3 := m3.old B21
    refine s_putW hF rfl rfl (size_wide wide59) m5 rfl (one2 h1v1) fun w22 m5 o23 => ?_
    have so23 := o23.size
    have hB := hB.trans (o23.below (by omega))
    have hB1 := hB1.trans (o23.below (by omega))
    have m2 := m2.only o23 (by omega)
    have m3 := m3.only o23 (by omega)
    refine s_val hF (x_assign rfl) (by decide) fun a hF => ?_
    refine s_end (hK6 _ _ ?_)
    have hB8 := hB
    refine wp_rs fun K7 hK7 => ?_
    refine s_val hF (x_ldW wide24 m3 rfl rfl) (by decide) fun a hF => ?_
    refine s_callR (R := fun v w' => ∃ c vk ks, v = .tuple #[.agg [.int .i64 c, vk].toArray, .bool (decide (sndL lb))] ∧ FF w22 y lb w' c vk ks) [_] hF (enters_of Try.func108 (by kernel_rfl) rfl) rfl (by decide) (formOf38 y lb w22 (hLb.old hB)) ?_
    rintro _ w24 a ⟨c2, vk2, ks2, rfl, hf2⟩ B25 hF
    have sB25 := B25.size
    have hB := hB.trans (B25.mono hB.size)
    have hB1 := hB1.trans (B25.mono hB1.size)
    have m2 := m2.old B25
    have m3 := m3.old B25
    have m5 := m5.old B25
    have h1v2 := hf2.1.one
    have hB2 := Below.refl w24.heap.size w24
    rw [hd2] at hF
    refine s_val hF (x_move rfl) (by decide) fun a hF => ?_
    refine s_val hF (x_ext rfl rfl) (by decide) fun a hF => ?_
    refine s_val hF (x_ext rfl rfl) (by decide) fun a hF => ?_
    refine s_alloc hF (by decide) zero59 fun w26 b7 a eb7 m7 B27 zb7 hF => ?_
    have sB27 := B27.size
    have hB := hB.trans (B27.mono hB.size)
    have hB1 := hB1.trans (B27.mono hB1.size)
    have hB2 := hB2.trans (B27.mono hB2.size)
    have m2 := m2.old B27
    have m3 := m3.old B27
    have m5 := m5.old B27
    refine s_putW hF rfl rfl (size_wide wide59) m7 rfl (one2 h1v2) fun w28 m7 o29 => ?_
    have so29 := o29.size
    have hB := hB.trans (o29.below (by omega))
    have hB1 := hB1.trans (o29.below (by omega))
    have hB2 := hB2.trans (o29.below (by omega))
    have m2 := m2.only o29 (by omega)
    have m3 := m3.only o29 (by omega)
    have m5 := m5.only o29 (by omega)
    refine s_val hF (x_assign rfl) (by decide) fun a hF => ?_
    refine s_end (hK7 _ _ ?_)
    refine wp_rs fun K8 hK8 => ?_
    refine s_val hF (x_move rfl) (by decide) fun a hF => ?_
    refine s_val hF (x_move rfl) (by decide) fun a hF => ?_
    refine s_grdn 20 hF rfl rfl (by decide) fun a hF => ?_
    refine s_val hF (x_pick (b := false) rfl rfl) (by decide) fun a hF => ?_
    refine s_val hF (x_move rfl) (by decide) fun a hF => ?_
    refine s_grdn 23 hF rfl rfl (by decide) fun a hF => ?_
    refine s_grdn 23 hF rfl rfl (by decide) fun a hF => ?_
    refine s_grdn 23 hF rfl rfl (by decide) fun a hF => ?_
    refine s_val hF (x_pick (b := false) rfl rfl) (by decide) fun a hF => ?_
    refine s_val hF (x_assign rfl) (by decide) fun a hF => ?_
    refine s_end (hK8 _ _ ?_)
    refine wp_ret (res_slot hF rfl rfl ⟨_, rfl, ⟨_, rfl, fun _ => rfl, fun s t hs ht g1 g2 => absurd ⟨rs_snd hLa hs g1, rs_snd hLb ht g2⟩ hn⟩, hB⟩)
  · have hn : ¬ (sndL la ∧ sndL lb) := fun h => by exact absurd h.2 (of_decide_eq_false hd2)
    have hB9 := hB
    refine wp_rs fun K9 hK9 => ?_
    refine s_val hF (x_ldW wide24 m2 rfl rfl) (by decide) fun a hF => ?_
    refine s_callR (R := fun v w' => ∃ c vk ks, v = .tuple #[.agg [.int .i64 c, vk].toArray, .bool (decide (sndL la))] ∧ FF w4 x la w' c vk ks) [_] hF (enters_of Try.func108 (by kernel_rfl) rfl) rfl (by decide) (formOf38 x la w4 (hLa.old hB)) ?_
    rintro _ w30 a ⟨c1, vk1, ks1, rfl, hf1⟩ B31 hF
    have sB31 := B31.size
    have hB := hB.trans (B31.mono hB.size)
    have m2 := m2.old B31
    have m3 := m3.old B31
    have h1v1 := hf1.1.one
    have hB1 := Below.refl w30.heap.size w30
    rw [hd1] at hF
    refine s_val hF (x_move rfl) (by decide) fun a hF => ?_
    refine s_val hF (x_ext rfl rfl) (by decide) fun a hF => ?_
    refine s_val hF (x_ext rfl rfl) (by decide) fun a hF => ?_
    refine s_alloc hF (by decide) zero59 fun w32 b5 a eb5 m5 B33 zb5 hF => ?_
    have sB33 := B33.size
    have hB := hB.trans (B33.mono hB.size)
    have hB1 := hB1.trans (B33.mono hB1.size)
    have m2 := m2.old B33
    have m3 := m3.old B33
    refine s_putW hF rfl rfl (size_wide wide59) m5 rfl (one2 h1v1) fun w34 m5 o35 => ?_
    have so35 := o35.size
    have hB := hB.trans (o35.below (by omega))
    have hB1 := hB1.trans (o35.below (by omega))
    have m2 := m2.only o35 (by omega)
    have m3 := m3.only o35 (by omega)
    refine s_val hF (x_assign rfl) (by decide) fun a hF => ?_
    refine s_end (hK9 _ _ ?_)
    have hB8 := hB
    refine wp_rs fun K10 hK10 => ?_
    refine s_val hF (x_ldW wide24 m3 rfl rfl) (by decide) fun a hF => ?_
    refine s_callR (R := fun v w' => ∃ c vk ks, v = .tuple #[.agg [.int .i64 c, vk].toArray, .bool (decide (sndL lb))] ∧ FF w34 y lb w' c vk ks) [_] hF (enters_of Try.func108 (by kernel_rfl) rfl) rfl (by decide) (formOf38 y lb w34 (hLb.old hB)) ?_
    rintro _ w36 a ⟨c2, vk2, ks2, rfl, hf2⟩ B37 hF
    have sB37 := B37.size
    have hB := hB.trans (B37.mono hB.size)
    have hB1 := hB1.trans (B37.mono hB1.size)
    have m2 := m2.old B37
    have m3 := m3.old B37
    have m5 := m5.old B37
    have h1v2 := hf2.1.one
    have hB2 := Below.refl w36.heap.size w36
    rw [hd2] at hF
    refine s_val hF (x_move rfl) (by decide) fun a hF => ?_
    refine s_val hF (x_ext rfl rfl) (by decide) fun a hF => ?_
    refine s_val hF (x_ext rfl rfl) (by decide) fun a hF => ?_
    refine s_alloc hF (by decide) zero59 fun w38 b7 a eb7 m7 B39 zb7 hF => ?_
    have sB39 := B39.size
    have hB := hB.trans (B39.mono hB.size)
    have hB1 := hB1.trans (B39.mono hB1.size)
    have hB2 := hB2.trans (B39.mono hB2.size)
    have m2 := m2.old B39
    have m3 := m3.old B39
    have m5 := m5.old B39
    refine s_putW hF rfl rfl (size_wide wide59) m7 rfl (one2 h1v2) fun w40 m7 o41 => ?_
    have so41 := o41.size
    have hB := hB.trans (o41.below (by omega))
    have hB1 := hB1.trans (o41.below (by omega))
    have hB2 := hB2.trans (o41.below (by omega))
    have m2 := m2.only o41 (by omega)
    have m3 := m3.only o41 (by omega)
    have m5 := m5.only o41 (by omega)
    refine s_val hF (x_assign rfl) (by decide) fun a hF => ?_
    refine s_end (hK10 _ _ ?_)
    refine wp_rs fun K11 hK11 => ?_
    refine s_val hF (x_move rfl) (by decide) fun a hF => ?_
    refine s_val hF (x_move rfl) (by decide) fun a hF => ?_
    refine s_grd 20 hF rfl rfl rfl ?_
    refine s_val hF (x_move rfl) (by decide) fun a hF => ?_
    refine s_val hF (x_pick (b := true) rfl rfl) (by decide) fun a hF => ?_
    refine s_val hF (x_move rfl) (by decide) fun a hF => ?_
    refine s_grdn 23 hF rfl rfl (by decide) fun a hF => ?_
    refine s_grdn 23 hF rfl rfl (by decide) fun a hF => ?_
    refine s_grdn 23 hF rfl rfl (by decide) fun a hF => ?_
    refine s_val hF (x_pick (b := false) rfl rfl) (by decide) fun a hF => ?_
    refine s_val hF (x_assign rfl) (by decide) fun a hF => ?_
    refine s_end (hK11 _ _ ?_)
    refine wp_ret (res_slot hF rfl rfl ⟨_, rfl, ⟨_, rfl, fun _ => rfl, fun s t hs ht g1 g2 => absurd ⟨rs_snd hLa hs g1, rs_snd hLb ht g2⟩ hn⟩, hB⟩)
  · have hsa : sndL la := of_decide_eq_true hd1
    have hsb : sndL lb := of_decide_eq_true hd2
    obtain ⟨s, hs, hsg⟩ := sound_sl hLa hsa
    obtain ⟨t, ht, htg⟩ := sound_sl hLb hsb
    have hns := nfK_len s hsg
    have hnt := nfK_len t htg
    have hB9 := hB
    refine wp_rs fun K12 hK12 => ?_
    refine s_val hF (x_ldW wide24 m2 rfl rfl) (by decide) fun a hF => ?_
    refine s_callR (R := fun v w' => ∃ c vk ks, v = .tuple #[.agg [.int .i64 c, vk].toArray, .bool (decide (sndL la))] ∧ FF w4 x la w' c vk ks) [_] hF (enters_of Try.func108 (by kernel_rfl) rfl) rfl (by decide) (formOf38 x la w4 (hLa.old hB)) ?_
    rintro _ w42 a ⟨c1, vk1, ks1, rfl, hf1⟩ B43 hF
    have sB43 := B43.size
    have hB := hB.trans (B43.mono hB.size)
    have m2 := m2.old B43
    have m3 := m3.old B43
    have h1v1 := hf1.1.one
    have hB1 := Below.refl w42.heap.size w42
    rw [hd1] at hF
    obtain ⟨rfl, rfl⟩ := hf1.2.2 s (RS.below hB9 hs) hsg
    refine s_val hF (x_move rfl) (by decide) fun a hF => ?_
    refine s_val hF (x_ext rfl rfl) (by decide) fun a hF => ?_
    refine s_val hF (x_ext rfl rfl) (by decide) fun a hF => ?_
    refine s_alloc hF (by decide) zero59 fun w44 b5 a eb5 m5 B45 zb5 hF => ?_
    have sB45 := B45.size
    have hB := hB.trans (B45.mono hB.size)
    have hB1 := hB1.trans (B45.mono hB1.size)
    have m2 := m2.old B45
    have m3 := m3.old B45
    refine s_putW hF rfl rfl (size_wide wide59) m5 rfl (one2 h1v1) fun w46 m5 o47 => ?_
    have so47 := o47.size
    have hB := hB.trans (o47.below (by omega))
    have hB1 := hB1.trans (o47.below (by omega))
    have m2 := m2.only o47 (by omega)
    have m3 := m3.only o47 (by omega)
    refine s_val hF (x_assign rfl) (by decide) fun a hF => ?_
    refine s_end (hK12 _ _ ?_)
    have hB8 := hB
    refine wp_rs fun K13 hK13 => ?_
    refine s_val hF (x_ldW wide24 m3 rfl rfl) (by decide) fun a hF => ?_
    refine s_callR (R := fun v w' => ∃ c vk ks, v = .tuple #[.agg [.int .i64 c, vk].toArray, .bool (decide (sndL lb))] ∧ FF w46 y lb w' c vk ks) [_] hF (enters_of Try.func108 (by kernel_rfl) rfl) rfl (by decide) (formOf38 y lb w46 (hLb.old hB)) ?_
    rintro _ w48 a ⟨c2, vk2, ks2, rfl, hf2⟩ B49 hF
    have sB49 := B49.size
    have hB := hB.trans (B49.mono hB.size)
    have hB1 := hB1.trans (B49.mono hB1.size)
    have m2 := m2.old B49
    have m3 := m3.old B49
    have m5 := m5.old B49
    have h1v2 := hf2.1.one
    have hB2 := Below.refl w48.heap.size w48
    rw [hd2] at hF
    obtain ⟨rfl, rfl⟩ := hf2.2.2 t (RS.below hB8 ht) htg
    refine s_val hF (x_move rfl) (by decide) fun a hF => ?_
    refine s_val hF (x_ext rfl rfl) (by decide) fun a hF => ?_
    refine s_val hF (x_ext rfl rfl) (by decide) fun a hF => ?_
    refine s_alloc hF (by decide) zero59 fun w50 b7 a eb7 m7 B51 zb7 hF => ?_
    have sB51 := B51.size
    have hB := hB.trans (B51.mono hB.size)
    have hB1 := hB1.trans (B51.mono hB1.size)
    have hB2 := hB2.trans (B51.mono hB2.size)
    have m2 := m2.old B51
    have m3 := m3.old B51
    have m5 := m5.old B51
    refine s_putW hF rfl rfl (size_wide wide59) m7 rfl (one2 h1v2) fun w52 m7 o53 => ?_
    have so53 := o53.size
    have hB := hB.trans (o53.below (by omega))
    have hB1 := hB1.trans (o53.below (by omega))
    have hB2 := hB2.trans (o53.below (by omega))
    have m2 := m2.only o53 (by omega)
    have m3 := m3.only o53 (by omega)
    have m5 := m5.only o53 (by omega)
    refine s_val hF (x_assign rfl) (by decide) fun a hF => ?_
    refine s_end (hK13 _ _ ?_)
    refine wp_rs fun K14 hK14 => ?_
    refine s_val hF (x_move rfl) (by decide) fun a hF => ?_
    refine s_val hF (x_move rfl) (by decide) fun a hF => ?_
    refine s_grd 20 hF rfl rfl rfl ?_
    refine s_val hF (x_move rfl) (by decide) fun a hF => ?_
    refine s_val hF (x_pick (b := true) rfl rfl) (by decide) fun a hF => ?_
    refine s_val hF (x_move rfl) (by decide) fun a hF => ?_
    refine s_grd 23 hF rfl rfl rfl ?_
    refine s_val hF (x_ldW wide59 m5 rfl rfl) (by decide) fun a hF => ?_
    refine s_grd 23 hF rfl rfl rfl ?_
    refine s_val hF (x_ldW wide59 m7 rfl rfl) (by decide) fun a hF => ?_
    refine s_grd 23 hF rfl rfl rfl ?_
    refine s_callB [_, _] hF (enters_of Try.func131 (by kernel_rfl) rfl) rfl (by decide) (same44 _ _ _ _ (nfK s) (nfK t) w52 (by omega) (hf1.1.below hB1) (hf2.1.below hB2)) fun w54 a B55 hF => ?_
    have sB55 := B55.size
    have hB := hB.trans (B55.mono hB.size)
    have hB1 := hB1.trans (B55.mono hB1.size)
    have hB2 := hB2.trans (B55.mono hB2.size)
    have m2 := m2.old B55
    have m3 := m3.old B55
    have m5 := m5.old B55
    have m7 := m7.old B55
    refine s_val hF (x_pick (b := true) rfl rfl) (by decide) fun a hF => ?_
    refine s_val hF (x_assign rfl) (by decide) fun a hF => ?_
    refine s_end (hK14 _ _ ?_)
    refine wp_ret (res_slot hF rfl rfl ⟨_, rfl, ⟨_, rfl, fun h => absurd ⟨hsa, hsb⟩ h, fun s' t' hs' ht' _ _ => by rw [RS.inj hs' hs, RS.inj ht' ht]; rfl⟩, hB⟩)

end Go.Proofs.Ytaclncmkdpjnlaa
