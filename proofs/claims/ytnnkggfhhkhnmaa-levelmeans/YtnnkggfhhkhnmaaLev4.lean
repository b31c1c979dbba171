/- value, Value; the reference's. -/
import Derived.Test.YtnnkggfhhkhnmaaLev3
namespace Go.Proofs.Ytnnkggfhhkhnmaa
open Go.RowKit Go.Shelf
set_option linter.unusedVariables false
set_option linter.unusedSimpArgs false

def rho (vs : List Int) (i : Nat) : Int := max 0 (min (vs.getD i 0) 1099511627776)
def val : SL → (Nat → Int) → Int
  | .num n, _ => n
  | .var i, ρ => ρ i
  | .succ n a, ρ => cut (n + val a ρ)
  | .mx a b, ρ => max (val a ρ) (val b ρ)
theorem rho_nn (vs : List Int) (i : Nat) : 0 ≤ rho vs i ∧ rho vs i ≤ 1099511627776 := by unfold rho; omega
theorem rho_ge {vs : List Int} {i : Nat} (h : vs.length ≤ i) : rho vs i = 0 := by
  unfold rho
  rw [List.getD_eq_getElem?_getD, List.getElem?_eq_none h]
  rfl
theorem val_bd {ρ : Nat → Int} (hρ : ∀ i, 0 ≤ ρ i ∧ ρ i ≤ 1099511627776) : ∀ (s : SL), s.few → 0 ≤ val s ρ ∧ val s ρ ≤ 1099511627776
  | .num n, h => by simp only [SL.few] at h; simp only [val]; omega
  | .var i, _ => hρ i
  | .succ n a, h => by have := val_bd hρ a h.2; simp only [val]; exact ⟨cut_nn (by omega), cut_le _⟩
  | .mx a b, h => by have := val_bd hρ a h.1; have := val_bd hρ b h.2; simp only [val]; omega
theorem rd_rowN {W : World} {v : Value} {ks : List Int} (h : Rd W v 1 ks.length (ints ks)) {i : Nat} (hi : i < ks.length) :
    ∃ b off c, v = .slice (some ⟨b, off, none⟩) ks.length c ∧ ∀ W', Below W.heap.size W W' → W'.cell? ⟨b, off + i, none⟩ = some (.int .i64 (ks.getD i 0)) := by
  obtain ⟨b, off, c, rfl, hb⟩ := h.some (by omega)
  refine ⟨b, off, c, rfl, fun W' hB => ?_⟩
  exact (hB.cell (p := ⟨b, off + i, none⟩) hb).trans (h.cell (by rw [List.getElem?_map, List.getElem?_eq_getElem hi, List.getD_eq_getElem?_getD, List.getElem?_eq_getElem hi]; rfl))

set_option maxRecDepth 100000 in
set_option maxHeartbeats 1600000 in
theorem value50 (vs : List Int) (vv : Value) (hvl : vs.length ≤ 9223372036854775807) : ∀ (s : SL) (x : C3) (w0 : World), RS w0 s x → s.few → Rd w0 vv 1 vs.length (ints vs) → Calls Try.prog 50 #[lv x, vv] w0 fun e w' => e = .returned (.int .i64 (val s (rho vs))) ∧ Below w0.heap.size w0 w' := by
  intro s
  have hρ := rho_nn vs
  induction s with
  | num m =>
    rintro ⟨k, n, v⟩ w0 hS0 hf hV
    obtain ⟨av, cv, hav, hav2, _⟩ := hV.form
    have hB := Below.refl w0.heap.size w0
    have sB := hB.size
    obtain ⟨h1, h2, h3⟩ := hS0
    simp only at h1 h2
    subst h1 h2
    subst hav
    refine calls_fs 49 [(0, .agg [.int .i64 1, .int .i64 (m : Int), v].toArray), (1, .slice av vs.length cv)] Try.func50 rfl rfl rfl rfl rfl fun a hF => ?_
    refine wp_rs fun K1 hK1 => ?_
    refine s_box ([.int .i64 1, .int .i64 (m : Int), v]) hF (by decide) rfl rfl fun w2 b2 a eb2 m2 B3 zb2 hF => ?_
    have sB3 := B3.size
    have hB := hB.trans (B3.mono hB.size)
    refine s_val hF (x_assign rfl) (by decide) fun a hF => ?_
    refine s_end (hK1 _ _ ?_)
    refine wp_seq_k fun K2 hK2 => ?_
    refine wp_rs fun K3 hK3 => ?_
    refine s_val hF (x_fa0 fa24_0 rfl) (by decide) fun a hF => ?_
    refine s_val hF (x_load rfl (m_load flat3 (m2.cell (j := 0) rfl))) (by decide) fun a hF => ?_
    refine s_end (hK3 _ _ ?_)
    refine wp_block ?_
    refine wp_rs fun K4 hK4 => ?_
    refine s_val hF (x_eql (b := true) (decide_eq_true (by omega)) rfl rfl) (by decide) fun a hF => ?_
    refine s_val hF (x_assign rfl) (by decide) fun a hF => ?_
    refine s_end (hK4 _ _ ?_)
    refine wp_if hF rfl ?_
    refine wp_rs fun K5 hK5 => ?_
    refine s_val hF (x_fa0 fa24_1 rfl) (by decide) fun a hF => ?_
    refine s_val hF (x_load rfl (m_load flat3 (m2.cell (j := 1) rfl))) (by decide) fun a hF => ?_
    refine s_val hF (x_assign rfl) (by decide) fun a hF => ?_
    refine s_end (hK5 _ _ ?_)
    refine wp_ret (inb_ret (then_ret (res_slot hF rfl rfl ⟨rfl, hB⟩)))
  | var i =>
    rintro ⟨k, n, v⟩ w0 hS0 hf hV
    obtain ⟨av, cv, hav, hav2, _⟩ := hV.form
    have hB := Below.refl w0.heap.size w0
    have sB := hB.size
    obtain ⟨h1, h2, h3⟩ := hS0
    simp only at h1 h2
    subst h1 h2
    refine calls_fs 49 [(0, .agg [.int .i64 2, .int .i64 (i : Int), v].toArray), (1, vv)] Try.func50 rfl rfl rfl rfl rfl fun a hF => ?_
    rcases Nat.lt_or_ge i vs.length with hi | hi
    · obtain ⟨b, off, c, rfl, hrow⟩ := rd_rowN hV hi
      refine wp_rs fun K2 hK2 => ?_
      refine s_box ([.int .i64 2, .int .i64 (i : Int), v]) hF (by decide) rfl rfl fun w2 b2 a eb2 m2 B3 zb2 hF => ?_
      have sB3 := B3.size
      have hB := hB.trans (B3.mono hB.size)
      refine s_val hF (x_assign rfl) (by decide) fun a hF => ?_
      refine s_end (hK2 _ _ ?_)
      refine wp_seq_k fun K3 hK3 => ?_
      refine wp_rs fun K4 hK4 => ?_
      refine s_val hF (x_fa0 fa24_0 rfl) (by decide) fun a hF => ?_
      refine s_val hF (x_load rfl (m_load flat3 (m2.cell (j := 0) rfl))) (by decide) fun a hF => ?_
      refine s_end (hK4 _ _ ?_)
      refine wp_block ?_
      refine wp_rs fun K5 hK5 => ?_
      refine s_val hF (x_eql (b := false) (decide_eq_false (by omega)) rfl rfl) (by decide) fun a hF => ?_
      refine s_val hF (x_assign rfl) (by decide) fun a hF => ?_
      refine s_end (hK5 _ _ ?_)
      refine wp_if hF rfl ?_
      refine wp_rs fun K6 hK6 => ?_
      refine s_val hF (x_eql (b := true) (decide_eq_true (by omega)) rfl rfl) (by decide) fun a hF => ?_
      refine s_val hF (x_assign rfl) (by decide) fun a hF => ?_
      refine s_end (hK6 _ _ ?_)
      refine wp_if hF rfl ?_
      refine wp_seq_k fun K7 hK7 => ?_
      refine wp_rs fun K8 hK8 => ?_
      refine s_val hF (x_fa0 fa24_1 rfl) (by decide) fun a hF => ?_
      refine s_val hF (x_load rfl (m_load flat3 (m2.cell (j := 1) rfl))) (by decide) fun a hF => ?_
      refine s_val hF (x_move rfl) (by decide) fun a hF => ?_
      refine s_val hF (x_len Try.underlying29 rfl) (by decide) fun a hF => ?_
      refine s_val hF (x_geq (b := false) (decide_eq_false (by omega)) rfl rfl) (by decide) fun a hF => ?_
      refine s_end (hK8 _ _ ?_)
      refine wp_if hF rfl ?_
      refine wp_skip (hK7 _ _ ?_)
      refine wp_rs fun K9 hK9 => ?_
      refine s_val hF (x_move rfl) (by decide) fun a hF => ?_
      refine s_val hF (x_fa0 fa24_1 rfl) (by decide) fun a hF => ?_
      refine s_val hF (x_load rfl (m_load flat3 (m2.cell (j := 1) rfl))) (by decide) fun a hF => ?_
      refine s_val hF (x_ixa rfl rfl (m_ixs i Try.underlying29 el29.size rfl (by omega))) (by decide) fun a hF => ?_
      refine s_val hF (x_load rfl (m_load flat3 (hrow _ hB))) (by decide) fun a hF => ?_
      refine s_val hF (x_imax rfl rfl) (by decide) fun a hF => ?_
      refine s_val hF (x_imin rfl rfl) (by decide) fun a hF => ?_
      refine s_val hF (x_assign rfl) (by decide) fun a hF => ?_
      refine s_end (hK9 _ _ ?_)
      refine wp_ret (inb_ret (then_ret (res_slot hF rfl rfl ⟨by simp only [val, rho]; congr 2; omega, hB⟩)))
    · subst hav
      refine wp_rs fun K10 hK10 => ?_
      refine s_box ([.int .i64 2, .int .i64 (i : Int), v]) hF (by decide) rfl rfl fun w4 b2 a eb2 m2 B5 zb2 hF => ?_
      have sB5 := B5.size
      have hB := hB.trans (B5.mono hB.size)
      refine s_val hF (x_assign rfl) (by decide) fun a hF => ?_
      refine s_end (hK10 _ _ ?_)
      refine wp_seq_k fun K11 hK11 => ?_
      refine wp_rs fun K12 hK12 => ?_
      refine s_val hF (x_fa0 fa24_0 rfl) (by decide) fun a hF => ?_
      refine s_val hF (x_load rfl (m_load flat3 (m2.cell (j := 0) rfl))) (by decide) fun a hF => ?_
      refine s_end (hK12 _ _ ?_)
      refine wp_block ?_
      refine wp_rs fun K13 hK13 => ?_
      refine s_val hF (x_eql (b := false) (decide_eq_false (by omega)) rfl rfl) (by decide) fun a hF => ?_
      refine s_val hF (x_assign rfl) (by decide) fun a hF => ?_
      refine s_end (hK13 _ _ ?_)
      refine wp_if hF rfl ?_
      refine wp_rs fun K14 hK14 => ?_
      refine s_val hF (x_eql (b := true) (decide_eq_true (by omega)) rfl rfl) (by decide) fun a hF => ?_
      refine s_val hF (x_assign rfl) (by decide) fun a hF => ?_
      refine s_end (hK14 _ _ ?_)
      refine wp_if hF rfl ?_
      refine wp_seq_k fun K15 hK15 => ?_
      refine wp_rs fun K16 hK16 => ?_
      refine s_val hF (x_fa0 fa24_1 rfl) (by decide) fun a hF => ?_
      refine s_val hF (x_load rfl (m_load flat3 (m2.cell (j := 1) rfl))) (by decide) fun a hF => ?_
      refine s_val hF (x_move rfl) (by decide) fun a hF => ?_
      refine s_val hF (x_len Try.underlying29 rfl) (by decide) fun a hF => ?_
      refine s_val hF (x_geq (b := true) (decide_eq_true (by omega)) rfl rfl) (by decide) fun a hF => ?_
      refine s_end (hK16 _ _ ?_)
      refine wp_if hF rfl ?_
      refine wp_rs fun K17 hK17 => ?_
      refine s_val hF (x_assign rfl) (by decide) fun a hF => ?_
      refine s_end (hK17 _ _ ?_)
      refine wp_ret (then_ret (inb_ret (then_ret (res_slot hF rfl rfl ⟨by simp only [val, rho_ge hi], hB⟩))))
  | succ m a iha =>
    rintro ⟨k, n, v⟩ w0 hS0 hf hV
    obtain ⟨av, cv, hav, hav2, _⟩ := hV.form
    have hB := Below.refl w0.heap.size w0
    have sB := hB.size
    obtain ⟨h1, h2, y, h3, hy⟩ := hS0
    simp only at h1 h2 h3
    subst h1 h2
    obtain ⟨b, off, c, rfl, hrow⟩ := rd_row1 h3
    have hbd := val_bd hρ a hf.2
    have hm1 := hf.1
    subst hav
    refine calls_fs 49 [(0, .agg [.int .i64 3, .int .i64 (m : Int), .slice (some ⟨b, off, none⟩) 1 c].toArray), (1, .slice av vs.length cv)] Try.func50 rfl rfl rfl rfl rfl fun a hF => ?_
    refine wp_rs fun K1 hK1 => ?_
    refine s_box ([.int .i64 3, .int .i64 (m : Int), .slice (some ⟨b, off, none⟩) 1 c]) hF (by decide) rfl rfl fun w2 b2 a eb2 m2 B3 zb2 hF => ?_
    have sB3 := B3.size
    have hB := hB.trans (B3.mono hB.size)
    refine s_val hF (x_assign rfl) (by decide) fun a hF => ?_
    refine s_end (hK1 _ _ ?_)
    refine wp_seq_k fun K2 hK2 => ?_
    refine wp_rs fun K3 hK3 => ?_
    refine s_val hF (x_fa0 fa24_0 rfl) (by decide) fun a hF => ?_
    refine s_val hF (x_load rfl (m_load flat3 (m2.cell (j := 0) rfl))) (by decide) fun a hF => ?_
    refine s_end (hK3 _ _ ?_)
    refine wp_block ?_
    refine wp_rs fun K4 hK4 => ?_
    refine s_val hF (x_eql (b := false) (decide_eq_false (by omega)) rfl rfl) (by decide) fun a hF => ?_
    refine s_val hF (x_assign rfl) (by decide) fun a hF => ?_
    refine s_end (hK4 _ _ ?_)
    refine wp_if hF rfl ?_
    refine wp_rs fun K5 hK5 => ?_
    refine s_val hF (x_eql (b := false) (decide_eq_false (by omega)) rfl rfl) (by decide) fun a hF => ?_
    refine s_val hF (x_assign rfl) (by decide) fun a hF => ?_
    refine s_end (hK5 _ _ ?_)
    refine wp_if hF rfl ?_
    refine wp_rs fun K6 hK6 => ?_
    refine s_val hF (x_eql (b := true) (decide_eq_true (by omega)) rfl rfl) (by decide) fun a hF => ?_
    refine s_val hF (x_assign rfl) (by decide) fun a hF => ?_
    refine s_end (hK6 _ _ ?_)
    refine wp_if hF rfl ?_
    refine dk2_seq (w2.heap.size) (w2.heap.size) (ops := regOps Try.f50 9) (N := 10) (by kernel_rfl) wide_orders (by kernel_rfl) fun w4 hw4 B5 hS K7 hK7 => ?_
    have zw4 : w4.heap.size = w2.heap.size := by rw [hw4]
    have sB5 := B5.size
    have hB := hB.trans (B5.mono hB.size)
    have m2 := m2.old B5
    have m2_d := m2
    have hB_d := hB
    refine d_val 0 27 (op := (Go.Op.fieldAddr 24 (Go.Operand.tmp 2) 1)) hF hS (by kernel_rfl) (fun W hW => x_fa0 fa24_1 rfl) (by kernel_rfl) (by decide) fun a hF => ?_
    refine d_val 1 28 (op := (Go.Op.load 3 (Go.Operand.tmp 27))) hF hS (by kernel_rfl) (fun W hW => x_load rfl (m_load flat3 ((m2_d.k2 hW (by omega)).cell (j := 1) rfl))) (by kernel_rfl) (by decide) fun a hF => ?_
    refine d_val 2 29 (op := (Go.Op.fieldAddr 24 (Go.Operand.tmp 2) 2)) hF hS (by kernel_rfl) (fun W hW => x_fa0 fa24_2 rfl) (by kernel_rfl) (by decide) fun a hF => ?_
    refine d_val 3 30 (op := (Go.Op.load 22 (Go.Operand.tmp 29))) hF hS (by kernel_rfl) (fun W hW => x_load rfl (m_load flat22 ((m2_d.k2 hW (by omega)).cell (j := 2) rfl))) (by kernel_rfl) (by decide) fun a hF => ?_
    refine d_val 4 31 (op := (Go.Op.indexAddr 22 (Go.Operand.tmp 30) (Go.Operand.const (Go.Value.int Go.IntKind.i64 0)))) hF hS (by kernel_rfl) (fun W hW => x_ixa rfl rfl (m_ixsK 0 Try.underlying22 el22.size rfl (by omega))) (by kernel_rfl) (by decide) fun a hF => ?_
    refine d_val 5 32 (op := (Go.Op.load 24 (Go.Operand.tmp 31))) hF hS (by kernel_rfl) (fun W hW => x_ldA wide24 (hrow _ (hW.under hB_d (by omega))) rfl rfl) (by kernel_rfl) (by decide) fun a hF => ?_
    refine d_val 6 33 (op := (Go.Op.move (Go.Operand.tmp 1))) hF hS (by kernel_rfl) (fun W hW => x_move rfl) (by kernel_rfl) (by decide) fun a hF => ?_
    refine d_one 7 (some 34) (Go.Op.call (Go.Call.mk (Go.Callee.value (Go.Operand.func 50)) #[(Go.Operand.tmp 32), (Go.Operand.tmp 33)] #[24, 29])) (by kernel_rfl) (by kernel_rfl) fun ty pos af => ?_
    refine s_callB [_, _] hF (enters_of Try.func50 (by kernel_rfl) rfl) rfl (by decide) (iha _ w4 (RS.below hB hy) hf.2 (hV.below hB)) fun w6 a B7 hF => ?_
    have sB7 := B7.size
    have hB := hB.trans (B7.mono hB.size)
    have m2 := m2.old B7
    have hS := hS.below B7
    refine s_end ⟨hS, ?_⟩
    refine d_one 8 (some 35) (Go.Op.call (Go.Call.mk (Go.Callee.value (Go.Operand.func 54)) #[(Go.Operand.tmp 28), (Go.Operand.tmp 34)] #[3, 3])) (by kernel_rfl) (by kernel_rfl) fun ty pos af => ?_
    refine s_callS [_, _] hF (enters_of Try.func54 (by kernel_rfl) rfl) rfl (by decide) (sum54 _ _ (by omega) (by have := hf.1; omega) (by omega) (by omega) _) fun a hF => ?_
    refine s_end ⟨hS, ?_⟩
    refine d_val 9 4 (op := (Go.Op.assign (Go.Operand.tmp 35))) hF hS (by kernel_rfl) (fun W hW => x_assign rfl) (by kernel_rfl) (by decide) fun a hF => ?_
    refine d_end (by kernel_rfl) (hK7 _ _ ?_)
    refine wp_ret (inb_ret (then_ret (res_slot hF rfl rfl ⟨by simp only [val], hB⟩)))
  | mx a b' iha ihb =>
    rintro ⟨k, n, v⟩ w0 hS0 hf hV
    obtain ⟨av, cv, hav, hav2, _⟩ := hV.form
    have hB := Below.refl w0.heap.size w0
    have sB := hB.size
    obtain ⟨h1, y, z, h3, hy, hz⟩ := hS0
    simp only at h1 h3
    subst h1
    obtain ⟨b, off, c, rfl, hrow1, hrow2⟩ := rd_row2 h3
    subst hav
    refine calls_fs 49 [(0, .agg [.int .i64 4, .int .i64 n, .slice (some ⟨b, off, none⟩) 2 c].toArray), (1, .slice av vs.length cv)] Try.func50 rfl rfl rfl rfl rfl fun a hF => ?_
    refine wp_rs fun K1 hK1 => ?_
    refine s_box ([.int .i64 4, .int .i64 n, .slice (some ⟨b, off, none⟩) 2 c]) hF (by decide) rfl rfl fun w2 b2 a eb2 m2 B3 zb2 hF => ?_
    have sB3 := B3.size
    have hB := hB.trans (B3.mono hB.size)
    refine s_val hF (x_assign rfl) (by decide) fun a hF => ?_
    refine s_end (hK1 _ _ ?_)
    refine wp_seq_k fun K2 hK2 => ?_
    refine wp_rs fun K3 hK3 => ?_
    refine s_val hF (x_fa0 fa24_0 rfl) (by decide) fun a hF => ?_
    refine s_val hF (x_load rfl (m_load flat3 (m2.cell (j := 0) rfl))) (by decide) fun a hF => ?_
    refine s_end (hK3 _ _ ?_)
    refine wp_block ?_
    refine wp_rs fun K4 hK4 => ?_
    refine s_val hF (x_eql (b := false) (decide_eq_false (by omega)) rfl rfl) (by decide) fun a hF => ?_
    refine s_val hF (x_assign rfl) (by decide) fun a hF => ?_
    refine s_end (hK4 _ _ ?_)
    refine wp_if hF rfl ?_
    refine wp_rs fun K5 hK5 => ?_
    refine s_val hF (x_eql (b := false) (decide_eq_false (by omega)) rfl rfl) (by decide) fun a hF => ?_
    refine s_val hF (x_assign rfl) (by decide) fun a hF => ?_
    refine s_end (hK5 _ _ ?_)
    refine wp_if hF rfl ?_
    refine wp_rs fun K6 hK6 => ?_
    refine s_val hF (x_eql (b := false) (decide_eq_false (by omega)) rfl rfl) (by decide) fun a hF => ?_
    refine s_val hF (x_assign rfl) (by decide) fun a hF => ?_
    refine s_end (hK6 _ _ ?_)
    refine wp_if hF rfl ?_
    refine wp_skip (hK2 _ _ ?_)
    refine dk2_seq (w2.heap.size) (w2.heap.size) (ops := regOps Try.f50 10) (N := 14) (by kernel_rfl) wide_orders (by kernel_rfl) fun w4 hw4 B5 hS K7 hK7 => ?_
    have zw4 : w4.heap.size = w2.heap.size := by rw [hw4]
    have sB5 := B5.size
    have hB := hB.trans (B5.mono hB.size)
    have m2 := m2.old B5
    have m2_d := m2
    have hB_d := hB
    refine d_val 0 36 (op := (Go.Op.fieldAddr 24 (Go.Operand.tmp 2) 2)) hF hS (by kernel_rfl) (fun W hW => x_fa0 fa24_2 rfl) (by kernel_rfl) (by decide) fun a hF => ?_
    refine d_val 1 37 (op := (Go.Op.load 22 (Go.Operand.tmp 36))) hF hS (by kernel_rfl) (fun W hW => x_load rfl (m_load flat22 ((m2_d.k2 hW (by omega)).cell (j := 2) rfl))) (by kernel_rfl) (by decide) fun a hF => ?_
    refine d_val 2 38 (op := (Go.Op.indexAddr 22 (Go.Operand.tmp 37) (Go.Operand.const (Go.Value.int Go.IntKind.i64 0)))) hF hS (by kernel_rfl) (fun W hW => x_ixa rfl rfl (m_ixsK 0 Try.underlying22 el22.size rfl (by omega))) (by kernel_rfl) (by decide) fun a hF => ?_
    refine d_val 3 39 (op := (Go.Op.load 24 (Go.Operand.tmp 38))) hF hS (by kernel_rfl) (fun W hW => x_ldA wide24 (hrow1 _ (hW.under hB_d (by omega))) rfl rfl) (by kernel_rfl) (by decide) fun a hF => ?_
    refine d_val 4 40 (op := (Go.Op.move (Go.Operand.tmp 1))) hF hS (by kernel_rfl) (fun W hW => x_move rfl) (by kernel_rfl) (by decide) fun a hF => ?_
    refine d_val 6 42 (op := (Go.Op.fieldAddr 24 (Go.Operand.tmp 2) 2)) hF hS (by kernel_rfl) (fun W hW => x_fa0 fa24_2 rfl) (by kernel_rfl) (by decide) fun a hF => ?_
    refine d_val 7 43 (op := (Go.Op.load 22 (Go.Operand.tmp 42))) hF hS (by kernel_rfl) (fun W hW => x_load rfl (m_load flat22 ((m2_d.k2 hW (by omega)).cell (j := 2) rfl))) (by kernel_rfl) (by decide) fun a hF => ?_
    refine d_val 8 44 (op := (Go.Op.indexAddr 22 (Go.Operand.tmp 43) (Go.Operand.const (Go.Value.int Go.IntKind.i64 1)))) hF hS (by kernel_rfl) (fun W hW => x_ixa rfl rfl (m_ixsK 1 Try.underlying22 el22.size rfl (by omega))) (by kernel_rfl) (by decide) fun a hF => ?_
    refine d_val 9 45 (op := (Go.Op.load 24 (Go.Operand.tmp 44))) hF hS (by kernel_rfl) (fun W hW => x_ldA wide24 (hrow2 _ (hW.under hB_d (by omega))) rfl rfl) (by kernel_rfl) (by decide) fun a hF => ?_
    refine d_val 10 46 (op := (Go.Op.move (Go.Operand.tmp 1))) hF hS (by kernel_rfl) (fun W hW => x_move rfl) (by kernel_rfl) (by decide) fun a hF => ?_
    refine d_one 5 (some 41) (Go.Op.call (Go.Call.mk (Go.Callee.value (Go.Operand.func 50)) #[(Go.Operand.tmp 39), (Go.Operand.tmp 40)] #[24, 29])) (by kernel_rfl) (by kernel_rfl) fun ty pos af => ?_
    refine s_callB [_, _] hF (enters_of Try.func50 (by kernel_rfl) rfl) rfl (by decide) (iha _ w4 (RS.below hB hy) hf.1 (hV.below hB)) fun w6 a B7 hF => ?_
    have sB7 := B7.size
    have hB := hB.trans (B7.mono hB.size)
    have m2 := m2.old B7
    have hS := hS.below B7
    refine s_end ⟨hS, ?_⟩
    refine d_one 11 (some 47) (Go.Op.call (Go.Call.mk (Go.Callee.value (Go.Operand.func 50)) #[(Go.Operand.tmp 45), (Go.Operand.tmp 46)] #[24, 29])) (by kernel_rfl) (by kernel_rfl) fun ty pos af => ?_
    refine s_callB [_, _] hF (enters_of Try.func50 (by kernel_rfl) rfl) rfl (by decide) (ihb _ w6 (RS.below hB hz) hf.2 (hV.below hB)) fun w8 a B9 hF => ?_
    have sB9 := B9.size
    have hB := hB.trans (B9.mono hB.size)
    have m2 := m2.old B9
    have hS := hS.below B9
    refine s_end ⟨hS, ?_⟩
    refine d_val 12 48 (op := (Go.Op.call (Go.Call.mk (Go.Callee.builtin Go.Builtin.max) #[(Go.Operand.tmp 41), (Go.Operand.tmp 47)] #[3, 3]))) hF hS (by kernel_rfl) (fun W hW => x_imax rfl rfl) (by kernel_rfl) (by decide) fun a hF => ?_
    refine d_val 13 4 (op := (Go.Op.assign (Go.Operand.tmp 48))) hF hS (by kernel_rfl) (fun W hW => x_assign rfl) (by kernel_rfl) (by decide) fun a hF => ?_
    refine d_end (by kernel_rfl) (hK7 _ _ ?_)
    refine wp_ret (res_slot hF rfl rfl ⟨rfl, hB⟩)

set_option maxRecDepth 100000 in
set_option maxHeartbeats 1600000 in
theorem rvalue51 (vs : List Int) (vv : Value) (hvl : vs.length ≤ 9223372036854775807) : ∀ (s : SL) (x : C3) (w0 : World), RS w0 s x → s.few → Rd w0 vv 1 vs.length (ints vs) → Calls Try.prog 51 #[lv x, vv] w0 fun e w' => e = .returned (.int .i64 (val s (rho vs))) ∧ Below w0.heap.size w0 w' := by
  intro s
  have hρ := rho_nn vs
  induction s with
  | num m =>
    rintro ⟨k, n, v⟩ w0 hS0 hf hV
    obtain ⟨av, cv, hav, hav2, _⟩ := hV.form
    have hB := Below.refl w0.heap.size w0
    have sB := hB.size
    obtain ⟨h1, h2, h3⟩ := hS0
    simp only at h1 h2
    subst h1 h2
    subst hav
    refine calls_fs 50 [(0, .agg [.int .i64 1, .int .i64 (m : Int), v].toArray), (1, .slice av vs.length cv)] Try.func51 rfl rfl rfl rfl rfl fun a hF => ?_
    refine wp_rs fun K1 hK1 => ?_
    refine s_box ([.int .i64 1, .int .i64 (m : Int), v]) hF (by decide) rfl rfl fun w2 b2 a eb2 m2 B3 zb2 hF => ?_
    have sB3 := B3.size
    have hB := hB.trans (B3.mono hB.size)
    refine s_val hF (x_assign rfl) (by decide) fun a hF => ?_
    refine s_end (hK1 _ _ ?_)
    refine wp_seq_k fun K2 hK2 => ?_
    refine wp_rs fun K3 hK3 => ?_
    refine s_val hF (x_fa0 fa24_0 rfl) (by decide) fun a hF => ?_
    refine s_val hF (x_load rfl (m_load flat3 (m2.cell (j := 0) rfl))) (by decide) fun a hF => ?_
    refine s_end (hK3 _ _ ?_)
    refine wp_block ?_
    refine wp_rs fun K4 hK4 => ?_
    refine s_val hF (x_eql (b := true) (decide_eq_true (by omega)) rfl rfl) (by decide) fun a hF => ?_
    refine s_val hF (x_assign rfl) (by decide) fun a hF => ?_
    refine s_end (hK4 _ _ ?_)
    refine wp_if hF rfl ?_
    refine wp_rs fun K5 hK5 => ?_
    refine s_val hF (x_fa0 fa24_1 rfl) (by decide) fun a hF => ?_
    refine s_val hF (x_load rfl (m_load flat3 (m2.cell (j := 1) rfl))) (by decide) fun a hF => ?_
    refine s_val hF (x_assign rfl) (by decide) fun a hF => ?_
    refine s_end (hK5 _ _ ?_)
    refine wp_ret (inb_ret (then_ret (res_slot hF rfl rfl ⟨rfl, hB⟩)))
  | var i =>
    rintro ⟨k, n, v⟩ w0 hS0 hf hV
    obtain ⟨av, cv, hav, hav2, _⟩ := hV.form
    have hB := Below.refl w0.heap.size w0
    have sB := hB.size
    obtain ⟨h1, h2, h3⟩ := hS0
    simp only at h1 h2
    subst h1 h2
    refine calls_fs 50 [(0, .agg [.int .i64 2, .int .i64 (i : Int), v].toArray), (1, vv)] Try.func51 rfl rfl rfl rfl rfl fun a hF => ?_
    rcases Nat.lt_or_ge i vs.length with hi | hi
    · obtain ⟨b, off, c, rfl, hrow⟩ := rd_rowN hV hi
      refine wp_rs fun K2 hK2 => ?_
      refine s_box ([.int .i64 2, .int .i64 (i : Int), v]) hF (by decide) rfl rfl fun w2 b2 a eb2 m2 B3 zb2 hF => ?_
      have sB3 := B3.size
      have hB := hB.trans (B3.mono hB.size)
      refine s_val hF (x_assign rfl) (by decide) fun a hF => ?_
      refine s_end (hK2 _ _ ?_)
      refine wp_seq_k fun K3 hK3 => ?_
      refine wp_rs fun K4 hK4 => ?_
      refine s_val hF (x_fa0 fa24_0 rfl) (by decide) fun a hF => ?_
      refine s_val hF (x_load rfl (m_load flat3 (m2.cell (j := 0) rfl))) (by decide) fun a hF => ?_
      refine s_end (hK4 _ _ ?_)
      refine wp_block ?_
      refine wp_rs fun K5 hK5 => ?_
      refine s_val hF (x_eql (b := false) (decide_eq_false (by omega)) rfl rfl) (by decide) fun a hF => ?_
      refine s_val hF (x_assign rfl) (by decide) fun a hF => ?_
      refine s_end (hK5 _ _ ?_)
      refine wp_if hF rfl ?_
      refine wp_rs fun K6 hK6 => ?_
      refine s_val hF (x_eql (b := true) (decide_eq_true (by omega)) rfl rfl) (by decide) fun a hF => ?_
      refine s_val hF (x_assign rfl) (by decide) fun a hF => ?_
      refine s_end (hK6 _ _ ?_)
      refine wp_if hF rfl ?_
      refine wp_seq_k fun K7 hK7 => ?_
      refine wp_rs fun K8 hK8 => ?_
      refine s_val hF (x_fa0 fa24_1 rfl) (by decide) fun a hF => ?_
      refine s_val hF (x_load rfl (m_load flat3 (m2.cell (j := 1) rfl))) (by decide) fun a hF => ?_
      refine s_val hF (x_move rfl) (by decide) fun a hF => ?_
      refine s_val hF (x_len Try.underlying29 rfl) (by decide) fun a hF => ?_
      refine s_val hF (x_lss (b := true) (decide_eq_true (by omega)) rfl rfl) (by decide) fun a hF => ?_
      refine s_end (hK8 _ _ ?_)
      refine wp_if hF rfl ?_
      refine wp_rs fun K9 hK9 => ?_
      refine s_val hF (x_move rfl) (by decide) fun a hF => ?_
      refine s_val hF (x_fa0 fa24_1 rfl) (by decide) fun a hF => ?_
      refine s_val hF (x_load rfl (m_load flat3 (m2.cell (j := 1) rfl))) (by decide) fun a hF => ?_
      refine s_val hF (x_ixa rfl rfl (m_ixs i Try.underlying29 el29.size rfl (by omega))) (by decide) fun a hF => ?_
      refine s_val hF (x_load rfl (m_load flat3 (hrow _ hB))) (by decide) fun a hF => ?_
      refine s_val hF (x_imin rfl rfl) (by decide) fun a hF => ?_
      refine s_val hF (x_imax rfl rfl) (by decide) fun a hF => ?_
      refine s_val hF (x_assign rfl) (by decide) fun a hF => ?_
      refine s_end (hK9 _ _ ?_)
      refine wp_ret (then_ret (inb_ret (then_ret (res_slot hF rfl rfl ⟨by rfl, hB⟩))))
    · subst hav
      refine wp_rs fun K10 hK10 => ?_
      refine s_box ([.int .i64 2, .int .i64 (i : Int), v]) hF (by decide) rfl rfl fun w4 b2 a eb2 m2 B5 zb2 hF => ?_
      have sB5 := B5.size
      have hB := hB.trans (B5.mono hB.size)
      refine s_val hF (x_assign rfl) (by decide) fun a hF => ?_
      refine s_end (hK10 _ _ ?_)
      refine wp_seq_k fun K11 hK11 => ?_
      refine wp_rs fun K12 hK12 => ?_
      refine s_val hF (x_fa0 fa24_0 rfl) (by decide) fun a hF => ?_
      refine s_val hF (x_load rfl (m_load flat3 (m2.cell (j := 0) rfl))) (by decide) fun a hF => ?_
      refine s_end (hK12 _ _ ?_)
      refine wp_block ?_
      refine wp_rs fun K13 hK13 => ?_
      refine s_val hF (x_eql (b := false) (decide_eq_false (by omega)) rfl rfl) (by decide) fun a hF => ?_
      refine s_val hF (x_assign rfl) (by decide) fun a hF => ?_
      refine s_end (hK13 _ _ ?_)
      refine wp_if hF rfl ?_
      refine wp_rs fun K14 hK14 => ?_
      refine s_val hF (x_eql (b := true) (decide_eq_true (by omega)) rfl rfl) (by decide) fun a hF => ?_
      refine s_val hF (x_assign rfl) (by decide) fun a hF => ?_
      refine s_end (hK14 _ _ ?_)
      refine wp_if hF rfl ?_
      refine wp_seq_k fun K15 hK15 => ?_
      refine wp_rs fun K16 hK16 => ?_
      refine s_val hF (x_fa0 fa24_1 rfl) (by decide) fun a hF => ?_
      refine s_val hF (x_load rfl (m_load flat3 (m2.cell (j := 1) rfl))) (by decide) fun a hF => ?_
      refine s_val hF (x_move rfl) (by decide) fun a hF => ?_
      refine s_val hF (x_len Try.underlying29 rfl) (by decide) fun a hF => ?_
      refine s_val hF (x_lss (b := false) (decide_eq_false (by omega)) rfl rfl) (by decide) fun a hF => ?_
      refine s_end (hK16 _ _ ?_)
      refine wp_if hF rfl ?_
      refine wp_skip (hK15 _ _ ?_)
      refine wp_rs fun K17 hK17 => ?_
      refine s_val hF (x_assign rfl) (by decide) fun a hF => ?_
      refine s_end (hK17 _ _ ?_)
      refine wp_ret (inb_ret (then_ret (res_slot hF rfl rfl ⟨by simp only [val, rho_ge hi], hB⟩)))
  | succ m a iha =>
    rintro ⟨k, n, v⟩ w0 hS0 hf hV
    obtain ⟨av, cv, hav, hav2, _⟩ := hV.form
    have hB := Below.refl w0.heap.size w0
    have sB := hB.size
    obtain ⟨h1, h2, y, h3, hy⟩ := hS0
    simp only at h1 h2 h3
    subst h1 h2
    obtain ⟨b, off, c, rfl, hrow⟩ := rd_row1 h3
    have hbd := val_bd hρ a hf.2
    have hm1 := hf.1
    subst hav
    refine calls_fs 50 [(0, .agg [.int .i64 3, .int .i64 (m : Int), .slice (some ⟨b, off, none⟩) 1 c].toArray), (1, .slice av vs.length cv)] Try.func51 rfl rfl rfl rfl rfl fun a hF => ?_
    refine wp_rs fun K1 hK1 => ?_
    refine s_box ([.int .i64 3, .int .i64 (m : Int), .slice (some ⟨b, off, none⟩) 1 c]) hF (by decide) rfl rfl fun w2 b2 a eb2 m2 B3 zb2 hF => ?_
    have sB3 := B3.size
    have hB := hB.trans (B3.mono hB.size)
    refine s_val hF (x_assign rfl) (by decide) fun a hF => ?_
    refine s_end (hK1 _ _ ?_)
    refine wp_seq_k fun K2 hK2 => ?_
    refine wp_rs fun K3 hK3 => ?_
    refine s_val hF (x_fa0 fa24_0 rfl) (by decide) fun a hF => ?_
    refine s_val hF (x_load rfl (m_load flat3 (m2.cell (j := 0) rfl))) (by decide) fun a hF => ?_
    refine s_end (hK3 _ _ ?_)
    refine wp_block ?_
    refine wp_rs fun K4 hK4 => ?_
    refine s_val hF (x_eql (b := false) (decide_eq_false (by omega)) rfl rfl) (by decide) fun a hF => ?_
    refine s_val hF (x_assign rfl) (by decide) fun a hF => ?_
    refine s_end (hK4 _ _ ?_)
    refine wp_if hF rfl ?_
    refine wp_rs fun K5 hK5 => ?_
    refine s_val hF (x_eql (b := false) (decide_eq_false (by omega)) rfl rfl) (by decide) fun a hF => ?_
    refine s_val hF (x_assign rfl) (by decide) fun a hF => ?_
    refine s_end (hK5 _ _ ?_)
    refine wp_if hF rfl ?_
    refine wp_rs fun K6 hK6 => ?_
    refine s_val hF (x_eql (b := true) (decide_eq_true (by omega)) rfl rfl) (by decide) fun a hF => ?_
    refine s_val hF (x_assign rfl) (by decide) fun a hF => ?_
    refine s_end (hK6 _ _ ?_)
    refine wp_if hF rfl ?_
    refine dk2_seq (w2.heap.size) (w2.heap.size) (ops := regOps Try.f51 9) (N := 11) (by kernel_rfl) wide_orders (by kernel_rfl) fun w4 hw4 B5 hS K7 hK7 => ?_
    have zw4 : w4.heap.size = w2.heap.size := by rw [hw4]
    have sB5 := B5.size
    have hB := hB.trans (B5.mono hB.size)
    have m2 := m2.old B5
    have m2_d := m2
    have hB_d := hB
    refine d_val 0 27 (op := (Go.Op.fieldAddr 24 (Go.Operand.tmp 2) 2)) hF hS (by kernel_rfl) (fun W hW => x_fa0 fa24_2 rfl) (by kernel_rfl) (by decide) fun a hF => ?_
    refine d_val 1 28 (op := (Go.Op.load 22 (Go.Operand.tmp 27))) hF hS (by kernel_rfl) (fun W hW => x_load rfl (m_load flat22 ((m2_d.k2 hW (by omega)).cell (j := 2) rfl))) (by kernel_rfl) (by decide) fun a hF => ?_
    refine d_val 2 29 (op := (Go.Op.indexAddr 22 (Go.Operand.tmp 28) (Go.Operand.const (Go.Value.int Go.IntKind.i64 0)))) hF hS (by kernel_rfl) (fun W hW => x_ixa rfl rfl (m_ixsK 0 Try.underlying22 el22.size rfl (by omega))) (by kernel_rfl) (by decide) fun a hF => ?_
    refine d_val 3 30 (op := (Go.Op.load 24 (Go.Operand.tmp 29))) hF hS (by kernel_rfl) (fun W hW => x_ldA wide24 (hrow _ (hW.under hB_d (by omega))) rfl rfl) (by kernel_rfl) (by decide) fun a hF => ?_
    refine d_val 4 31 (op := (Go.Op.move (Go.Operand.tmp 1))) hF hS (by kernel_rfl) (fun W hW => x_move rfl) (by kernel_rfl) (by decide) fun a hF => ?_
    refine d_val 6 33 (op := (Go.Op.fieldAddr 24 (Go.Operand.tmp 2) 1)) hF hS (by kernel_rfl) (fun W hW => x_fa0 fa24_1 rfl) (by kernel_rfl) (by decide) fun a hF => ?_
    refine d_val 7 34 (op := (Go.Op.load 3 (Go.Operand.tmp 33))) hF hS (by kernel_rfl) (fun W hW => x_load rfl (m_load flat3 ((m2_d.k2 hW (by omega)).cell (j := 1) rfl))) (by kernel_rfl) (by decide) fun a hF => ?_
    refine d_one 5 (some 32) (Go.Op.call (Go.Call.mk (Go.Callee.value (Go.Operand.func 51)) #[(Go.Operand.tmp 30), (Go.Operand.tmp 31)] #[24, 29])) (by kernel_rfl) (by kernel_rfl) fun ty pos af => ?_
    refine s_callB [_, _] hF (enters_of Try.func51 (by kernel_rfl) rfl) rfl (by decide) (iha _ w4 (RS.below hB hy) hf.2 (hV.below hB)) fun w6 a B7 hF => ?_
    have sB7 := B7.size
    have hB := hB.trans (B7.mono hB.size)
    have m2 := m2.old B7
    have hS := hS.below B7
    refine s_end ⟨hS, ?_⟩
    refine d_val 8 35 (op := (Go.Op.binOp Go.BinOp.add 3 (Go.Operand.tmp 32) (Go.Operand.tmp 34) 3)) hF hS (by kernel_rfl) (fun W hW => x_add (by omega) (by omega) rfl rfl) (by kernel_rfl) (by decide) fun a hF => ?_
    refine d_val 9 36 (op := (Go.Op.call (Go.Call.mk (Go.Callee.builtin Go.Builtin.min) #[(Go.Operand.tmp 35), (Go.Operand.const (Go.Value.int Go.IntKind.i64 1099511627776))] #[3, 3]))) hF hS (by kernel_rfl) (fun W hW => x_imin rfl rfl) (by kernel_rfl) (by decide) fun a hF => ?_
    refine d_val 10 4 (op := (Go.Op.assign (Go.Operand.tmp 36))) hF hS (by kernel_rfl) (fun W hW => x_assign rfl) (by kernel_rfl) (by decide) fun a hF => ?_
    refine d_end (by kernel_rfl) (hK7 _ _ ?_)
    refine wp_ret (inb_ret (then_ret (res_slot hF rfl rfl ⟨by simp only [val, cut, Int.add_comm], hB⟩)))
  | mx a b' iha ihb =>
    rintro ⟨k, n, v⟩ w0 hS0 hf hV
    obtain ⟨av, cv, hav, hav2, _⟩ := hV.form
    have hB := Below.refl w0.heap.size w0
    have sB := hB.size
    obtain ⟨h1, y, z, h3, hy, hz⟩ := hS0
    simp only at h1 h3
    subst h1
    obtain ⟨b, off, c, rfl, hrow1, hrow2⟩ := rd_row2 h3
    subst hav
    refine calls_fs 50 [(0, .agg [.int .i64 4, .int .i64 n, .slice (some ⟨b, off, none⟩) 2 c].toArray), (1, .slice av vs.length cv)] Try.func51 rfl rfl rfl rfl rfl fun a hF => ?_
    refine wp_rs fun K1 hK1 => ?_
    refine s_box ([.int .i64 4, .int .i64 n, .slice (some ⟨b, off, none⟩) 2 c]) hF (by decide) rfl rfl fun w2 b2 a eb2 m2 B3 zb2 hF => ?_
    have sB3 := B3.size
    have hB := hB.trans (B3.mono hB.size)
    refine s_val hF (x_assign rfl) (by decide) fun a hF => ?_
    refine s_end (hK1 _ _ ?_)
    refine wp_seq_k fun K2 hK2 => ?_
    refine wp_rs fun K3 hK3 => ?_
    refine s_val hF (x_fa0 fa24_0 rfl) (by decide) fun a hF => ?_
    refine s_val hF (x_load rfl (m_load flat3 (m2.cell (j := 0) rfl))) (by decide) fun a hF => ?_
    refine s_end (hK3 _ _ ?_)
    refine wp_block ?_
    refine wp_rs fun K4 hK4 => ?_
    refine s_val hF (x_eql (b := false) (decide_eq_false (by omega)) rfl rfl) (by decide) fun a hF => ?_
    refine s_val hF (x_assign rfl) (by decide) fun a hF => ?_
    refine s_end (hK4 _ _ ?_)
    refine wp_if hF rfl ?_
    refine wp_rs fun K5 hK5 => ?_
    refine s_val hF (x_eql (b := false) (decide_eq_false (by omega)) rfl rfl) (by decide) fun a hF => ?_
    refine s_val hF (x_assign rfl) (by decide) fun a hF => ?_
    refine s_end (hK5 _ _ ?_)
    refine wp_if hF rfl ?_
    refine wp_rs fun K6 hK6 => ?_
    refine s_val hF (x_eql (b := false) (decide_eq_false (by omega)) rfl rfl) (by decide) fun a hF => ?_
    refine s_val hF (x_assign rfl) (by decide) fun a hF => ?_
    refine s_end (hK6 _ _ ?_)
    refine wp_if hF rfl ?_
    refine wp_skip (hK2 _ _ ?_)
    refine dk2_seq (w2.heap.size) (w2.heap.size) (ops := regOps Try.f51 10) (N := 14) (by kernel_rfl) wide_orders (by kernel_rfl) fun w4 hw4 B5 hS K7 hK7 => ?_
    have zw4 : w4.heap.size = w2.heap.size := by rw [hw4]
    have sB5 := B5.size
    have hB := hB.trans (B5.mono hB.size)
    have m2 := m2.old B5
    have m2_d := m2
    have hB_d := hB
    refine d_val 0 37 (op := (Go.Op.fieldAddr 24 (Go.Operand.tmp 2) 2)) hF hS (by kernel_rfl) (fun W hW => x_fa0 fa24_2 rfl) (by kernel_rfl) (by decide) fun a hF => ?_
    refine d_val 1 38 (op := (Go.Op.load 22 (Go.Operand.tmp 37))) hF hS (by kernel_rfl) (fun W hW => x_load rfl (m_load flat22 ((m2_d.k2 hW (by omega)).cell (j := 2) rfl))) (by kernel_rfl) (by decide) fun a hF => ?_
    refine d_val 2 39 (op := (Go.Op.indexAddr 22 (Go.Operand.tmp 38) (Go.Operand.const (Go.Value.int Go.IntKind.i64 0)))) hF hS (by kernel_rfl) (fun W hW => x_ixa rfl rfl (m_ixsK 0 Try.underlying22 el22.size rfl (by omega))) (by kernel_rfl) (by decide) fun a hF => ?_
    refine d_val 3 40 (op := (Go.Op.load 24 (Go.Operand.tmp 39))) hF hS (by kernel_rfl) (fun W hW => x_ldA wide24 (hrow1 _ (hW.under hB_d (by omega))) rfl rfl) (by kernel_rfl) (by decide) fun a hF => ?_
    refine d_val 4 41 (op := (Go.Op.move (Go.Operand.tmp 1))) hF hS (by kernel_rfl) (fun W hW => x_move rfl) (by kernel_rfl) (by decide) fun a hF => ?_
    refine d_val 6 43 (op := (Go.Op.fieldAddr 24 (Go.Operand.tmp 2) 2)) hF hS (by kernel_rfl) (fun W hW => x_fa0 fa24_2 rfl) (by kernel_rfl) (by decide) fun a hF => ?_
    refine d_val 7 44 (op := (Go.Op.load 22 (Go.Operand.tmp 43))) hF hS (by kernel_rfl) (fun W hW => x_load rfl (m_load flat22 ((m2_d.k2 hW (by omega)).cell (j := 2) rfl))) (by kernel_rfl) (by decide) fun a hF => ?_
    refine d_val 8 45 (op := (Go.Op.indexAddr 22 (Go.Operand.tmp 44) (Go.Operand.const (Go.Value.int Go.IntKind.i64 1)))) hF hS (by kernel_rfl) (fun W hW => x_ixa rfl rfl (m_ixsK 1 Try.underlying22 el22.size rfl (by omega))) (by kernel_rfl) (by decide) fun a hF => ?_
    refine d_val 9 46 (op := (Go.Op.load 24 (Go.Operand.tmp 45))) hF hS (by kernel_rfl) (fun W hW => x_ldA wide24 (hrow2 _ (hW.under hB_d (by omega))) rfl rfl) (by kernel_rfl) (by decide) fun a hF => ?_
    refine d_val 10 47 (op := (Go.Op.move (Go.Operand.tmp 1))) hF hS (by kernel_rfl) (fun W hW => x_move rfl) (by kernel_rfl) (by decide) fun a hF => ?_
    refine d_one 5 (some 42) (Go.Op.call (Go.Call.mk (Go.Callee.value (Go.Operand.func 51)) #[(Go.Operand.tmp 40), (Go.Operand.tmp 41)] #[24, 29])) (by kernel_rfl) (by kernel_rfl) fun ty pos af => ?_
    refine s_callB [_, _] hF (enters_of Try.func51 (by kernel_rfl) rfl) rfl (by decide) (iha _ w4 (RS.below hB hy) hf.1 (hV.below hB)) fun w6 a B7 hF => ?_
    have sB7 := B7.size
    have hB := hB.trans (B7.mono hB.size)
    have m2 := m2.old B7
    have hS := hS.below B7
    refine s_end ⟨hS, ?_⟩
    refine d_one 11 (some 48) (Go.Op.call (Go.Call.mk (Go.Callee.value (Go.Operand.func 51)) #[(Go.Operand.tmp 46), (Go.Operand.tmp 47)] #[24, 29])) (by kernel_rfl) (by kernel_rfl) fun ty pos af => ?_
    refine s_callB [_, _] hF (enters_of Try.func51 (by kernel_rfl) rfl) rfl (by decide) (ihb _ w6 (RS.below hB hz) hf.2 (hV.below hB)) fun w8 a B9 hF => ?_
    have sB9 := B9.size
    have hB := hB.trans (B9.mono hB.size)
    have m2 := m2.old B9
    have hS := hS.below B9
    refine s_end ⟨hS, ?_⟩
    refine d_val 12 49 (op := (Go.Op.call (Go.Call.mk (Go.Callee.builtin Go.Builtin.max) #[(Go.Operand.tmp 42), (Go.Operand.tmp 48)] #[3, 3]))) hF hS (by kernel_rfl) (fun W hW => x_imax rfl rfl) (by kernel_rfl) (by decide) fun a hF => ?_
    refine d_val 13 4 (op := (Go.Op.assign (Go.Operand.tmp 49))) hF hS (by kernel_rfl) (fun W hW => x_assign rfl) (by kernel_rfl) (by decide) fun a hF => ?_
    refine d_end (by kernel_rfl) (hK7 _ _ ?_)
    refine wp_ret (res_slot hF rfl rfl ⟨rfl, hB⟩)

set_option maxRecDepth 100000 in
set_option maxHeartbeats 1600000 in
theorem Value29 (vs : List Int) (vv : Value) (hvl : vs.length ≤ 9223372036854775807) (x : C3) (l : Lv) (w0 : World) (hL : RL w0 x l) (hV : Rd w0 vv 1 vs.length (ints vs)) : Calls Try.prog 29 #[lv x, vv] w0 fun e w' => ∃ v, e = .returned v ∧ (∃ z, v = .int .i64 z ∧ (¬ sndL l → z = 0) ∧ ∀ s, RS w0 s x → s.good → z = val s (rho vs)) ∧ Below w0.heap.size w0 w' := by
  have hB := Below.refl w0.heap.size w0
  have sB := hB.size
  refine calls_fs 11 [(0, lv x), (1, vv)] Try.func29 rfl rfl rfl rfl rfl fun a hF => ?_
  refine wp_rs fun K1 hK1 => ?_
  refine s_box (lc x) hF (by decide) rfl rfl fun w2 b2 a eb2 m2 B3 zb2 hF => ?_
  have sB3 := B3.size
  have hB := hB.trans (B3.mono hB.size)
  refine s_val hF (x_assign rfl) (by decide) fun a hF => ?_
  refine s_end (hK1 _ _ ?_)
  refine wp_seq_k fun K2 hK2 => ?_
  refine wp_rs fun K3 hK3 => ?_
  refine s_val hF (x_ldW wide24 m2 rfl rfl) (by decide) fun a hF => ?_
  refine s_callB [_] hF (enters_of Try.func49 (by kernel_rfl) rfl) rfl (by decide) (isSound49 x l w2 (hL.old hB)) fun w4 a B5 hF => ?_
  have sB5 := B5.size
  have hB := hB.trans (B5.mono hB.size)
  have m2 := m2.old B5
  refine s_val hF (x_not rfl) (by decide) fun a hF => ?_
  refine s_end (hK3 _ _ ?_)
  refine wp_ifb hF rfl (fun hc7 => ?_) (fun hc7 => ?_)
  · have hn : ¬ sndL l := by simpa using hc7
    refine wp_rs fun K4 hK4 => ?_
    refine s_val hF (x_assign rfl) (by decide) fun a hF => ?_
    refine s_end (hK4 _ _ ?_)
    refine wp_ret (then_ret (res_slot hF rfl rfl ⟨_, rfl, ⟨_, rfl, fun _ => rfl, fun s hs hg => absurd (rs_snd hL hs hg) hn⟩, hB⟩))
  · have hn : sndL l := by simpa using hc7
    obtain ⟨s, hs, hs2⟩ := sound_sl hL hn
    refine wp_skip (hK2 _ _ ?_)
    refine wp_rs fun K5 hK5 => ?_
    refine s_val hF (x_ldW wide24 m2 rfl rfl) (by decide) fun a hF => ?_
    refine s_val hF (x_move rfl) (by decide) fun a hF => ?_
    refine s_callB [_, _] hF (enters_of Try.func50 (by kernel_rfl) rfl) rfl (by decide) (value50 vs vv hvl s x w4 (RS.below hB hs) (hs2.2.2.few (by decide)) (hV.below hB)) fun w6 a B7 hF => ?_
    have sB7 := B7.size
    have hB := hB.trans (B7.mono hB.size)
    have m2 := m2.old B7
    refine s_val hF (x_assign rfl) (by decide) fun a hF => ?_
    refine s_end (hK5 _ _ ?_)
    refine wp_ret (res_slot hF rfl rfl ⟨_, rfl, ⟨_, rfl, fun h => absurd hn h, fun s' hs' _ => by rw [RS.inj hs hs']⟩, hB⟩)

set_option maxRecDepth 100000 in
set_option maxHeartbeats 1600000 in
theorem rValue30 (vs : List Int) (vv : Value) (hvl : vs.length ≤ 9223372036854775807) (x : C3) (l : Lv) (w0 : World) (hL : RL w0 x l) (hV : Rd w0 vv 1 vs.length (ints vs)) : Calls Try.prog 30 #[lv x, vv] w0 fun e w' => ∃ v, e = .returned v ∧ (∃ z, v = .int .i64 z ∧ (¬ sndL l → z = 0) ∧ ∀ s, RS w0 s x → s.good → z = val s (rho vs)) ∧ Below w0.heap.size w0 w' := by
  have hB := Below.refl w0.heap.size w0
  have sB := hB.size
  refine calls_fs 11 [(0, lv x), (1, vv)] Try.func30 rfl rfl rfl rfl rfl fun a hF => ?_
  refine wp_rs fun K1 hK1 => ?_
  refine s_box (lc x) hF (by decide) rfl rfl fun w2 b2 a eb2 m2 B3 zb2 hF => ?_
  have sB3 := B3.size
  have hB := hB.trans (B3.mono hB.size)
  refine s_val hF (x_assign rfl) (by decide) fun a hF => ?_
  refine s_end (hK1 _ _ ?_)
  refine wp_seq_k fun K2 hK2 => ?_
  refine wp_rs fun K3 hK3 => ?_
  refine s_val hF (x_ldW wide24 m2 rfl rfl) (by decide) fun a hF => ?_
  refine s_callB [_] hF (enters_of Try.func17 (by kernel_rfl) rfl) rfl (by decide) (rSound17 x l w2 (hL.old hB)) fun w4 a B5 hF => ?_
  have sB5 := B5.size
  have hB := hB.trans (B5.mono hB.size)
  have m2 := m2.old B5
  refine s_val hF (x_not rfl) (by decide) fun a hF => ?_
  refine s_end (hK3 _ _ ?_)
  refine wp_ifb hF rfl (fun hc7 => ?_) (fun hc7 => ?_)
  · have hn : ¬ sndL l := by simpa using hc7
    refine wp_rs fun K4 hK4 => ?_
    refine s_val hF (x_assign rfl) (by decide) fun a hF => ?_
    refine s_end (hK4 _ _ ?_)
    refine wp_ret (then_ret (res_slot hF rfl rfl ⟨_, rfl, ⟨_, rfl, fun _ => rfl, fun s hs hg => absurd (rs_snd hL hs hg) hn⟩, hB⟩))
  · have hn : sndL l := by simpa using hc7
    obtain ⟨s, hs, hs2⟩ := sound_sl hL hn
    refine wp_skip (hK2 _ _ ?_)
    refine wp_rs fun K5 hK5 => ?_
    refine s_val hF (x_ldW wide24 m2 rfl rfl) (by decide) fun a hF => ?_
    refine s_val hF (x_move rfl) (by decide) fun a hF => ?_
    refine s_callB [_, _] hF (enters_of Try.func51 (by kernel_rfl) rfl) rfl (by decide) (rvalue51 vs vv hvl s x w4 (RS.below hB hs) (hs2.2.2.few (by decide)) (hV.below hB)) fun w6 a B7 hF => ?_
    have sB7 := B7.size
    have hB := hB.trans (B7.mono hB.size)
    have m2 := m2.old B7
    refine s_val hF (x_assign rfl) (by decide) fun a hF => ?_
    refine s_end (hK5 _ _ ?_)
    refine wp_ret (res_slot hF rfl rfl ⟨_, rfl, ⟨_, rfl, fun h => absurd hn h, fun s' hs' _ => by rw [RS.inj hs hs']⟩, hB⟩)
end Go.Proofs.Ytnnkggfhhkhnmaa
