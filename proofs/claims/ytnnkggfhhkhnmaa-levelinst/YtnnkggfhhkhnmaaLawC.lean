/- LevelInst. -/
import Derived.Test.YtnnkggfhhkhnmaaLev14
namespace Go.Proofs.Ytnnkggfhhkhnmaa
open Go.RowKit Go.Shelf
set_option linter.unusedVariables false
set_option linter.unusedSimpArgs false

theorem tau_ex {w0 : World} {xs : List C3} {ls : List Lv} (hl : ∀ (i : Nat) x l, xs[i]? = some x → ls[i]? = some l → RL w0 x l) : ∃ τ : Nat → SL, (∀ (i : Nat) x l, xs[i]? = some x → ls[i]? = some l → sndL l → RS w0 (τ i) x ∧ (τ i).good) ∧ ∀ i, xs.length ≤ i → τ i = .var i := by
  classical
  refine ⟨fun i => if h : ∃ s x, xs[i]? = some x ∧ RS w0 s x ∧ s.good then h.choose else .var i, fun i x l hx hll hs => ?_, fun i hi => ?_⟩
  · obtain ⟨s, h1, h2⟩ := sound_sl (hl i x l hx hll) hs
    have h : ∃ s x, xs[i]? = some x ∧ RS w0 s x ∧ s.good := ⟨s, x, hx, h1, h2⟩
    simp only [dif_pos h]
    obtain ⟨y, h3, h4, h5⟩ := h.choose_spec
    rw [hx] at h3
    cases h3
    exact ⟨h4, h5⟩
  · have h : ¬ ∃ s x, xs[i]? = some x ∧ RS w0 s x ∧ s.good := by
      rintro ⟨s, x, h3, _⟩
      have := (List.getElem?_eq_some_iff.1 h3).1
      omega
    simp only [dif_neg h]
theorem nfK_mx_le (a b : SL) : (nfK (.mx a b)).length ≤ max (nfK a).length (nfK b).length := by
  rw [← bothK_is]
  exact Nat.le_trans (trim_len _ _) (by simp [bothK])
theorem instT_len {c : Int} {ks : List Int} {τ : Nat → SL} : ∀ (n : Nat), (∀ i, i < n → gt ks i ≠ -1 → (τ i).nums 1099511627776 1001) → (nfK (instT c ks τ n)).length ≤ 1001
  | 0, _ => by rw [instT]; show ([] : List Int).length ≤ 1001; decide
  | n + 1, h => by
    have ih := instT_len (c := c) n (fun i hi => h i (by omega))
    rw [instT]
    split
    · exact ih
    · next hg =>
      have h1 := nfK_mx_le (instT c ks τ n) (.succ (gt ks n).toNat (τ n))
      have h2 := nfK_succ_len (n := (gt ks n).toNat) (h n (by omega) hg)
      omega
theorem tau_nums {w0 : World} {xs : List C3} {ls : List Lv} {τ : Nat → SL} {K : List Int} (hls : xs.length = ls.length) (hK : K.length ≤ 1001) (hτ : ∀ (i : Nat) x l, xs[i]? = some x → ls[i]? = some l → sndL l → RS w0 (τ i) x ∧ (τ i).good) (hτ2 : ∀ i, xs.length ≤ i → τ i = .var i) (hb : ¬ ∃ i, bad ls K i) : ∀ i, i < K.length → gt K i ≠ -1 → (τ i).nums 1099511627776 1001 := by
  intro i hi hg
  by_cases hx : i < xs.length
  · have h1 : xs[i]? = some xs[i] := List.getElem?_eq_getElem hx
    have h2 : ls[i]? = some (ls[i]'(by omega)) := List.getElem?_eq_getElem (by omega)
    have h3 : sndL (ls[i]'(by omega)) := Classical.byContradiction fun h => hb ⟨i, hi, hg, _, h2, h⟩
    exact (hτ i _ _ h1 h2 h3).2.2.2
  · rw [hτ2 i (by omega)]
    show i < 1001
    omega

set_option maxRecDepth 100000 in
set_option maxHeartbeats 1600000 in
theorem levelInst_walk (x : C3) (l : Lv) (xs : List C3) (ls : List Lv) (v : Value) (w0 : World) (hL : RL w0 x l) (hV : Rd w0 v 3 xs.length (xs.flatMap lc)) (hls : xs.length = ls.length) (hl : ∀ (i : Nat) x l, xs[i]? = some x → ls[i]? = some l → RL w0 x l) (hn9 : xs.length ≤ 9223372036854775807) : Calls Try.prog 6 #[lv x, v] w0 fun e w' => e = .returned (.bool true) ∧ Below w0.heap.size w0 w' := by
  obtain ⟨av, cv, rfl, _⟩ := hV.form
  obtain ⟨τ, hτ, hτ2⟩ := tau_ex hl
  have hB := Below.refl w0.heap.size w0
  have sB := hB.size
  refine calls_fs 20 [(0, lv x), (1, .slice av xs.length cv)] Try.func6 rfl rfl rfl rfl rfl fun a hF => ?_
  refine wp_rs fun K1 hK1 => ?_
  refine s_box (lc x) hF (by decide) rfl rfl fun w2 b2 a eb2 m2 B3 zb2 hF => ?_
  have sB3 := B3.size
  have hB := hB.trans (B3.mono hB.size)
  refine s_val hF (x_assign rfl) (by decide) fun a hF => ?_
  refine s_end (hK1 _ _ ?_)
  rcases (show 50 < xs.length ∨ (xs.length ≤ 50 ∧ ¬ sndL l) ∨ (xs.length ≤ 50 ∧ ∃ s, RS w0 s x ∧ s.good ∧ ∃ i, bad ls (nfK s) i) ∨ (xs.length ≤ 50 ∧ ∃ s, RS w0 s x ∧ s.good ∧ ¬ ∃ i, bad ls (nfK s) i) by by_cases h0 : 50 < xs.length; (· exact .inl h0); by_cases h : sndL l; (· obtain ⟨s, hs, hsg⟩ := sound_sl hL h; by_cases h2 : ∃ i, bad ls (nfK s) i; (· exact .inr (.inr (.inl ⟨by omega, s, hs, hsg, h2⟩))); (· exact .inr (.inr (.inr ⟨by omega, s, hs, hsg, h2⟩)))); (· exact .inr (.inl ⟨by omega, h⟩))) with hq | ⟨hq, hn⟩ | ⟨hq, s, hs, hsg, hbad⟩ | ⟨hq, s, hs, hsg, hbad⟩
  · skip
    refine dk2_seq (w2.heap.size) (w2.heap.size) (ops := regOps Try.f6 1) (N := 16) (by kernel_rfl) wide_orders (by kernel_rfl) fun w4 hw4 B5 hS K3 hK3 => ?_
    have zw4 : w4.heap.size = w2.heap.size := by rw [hw4]
    have sB5 := B5.size
    have hB := hB.trans (B5.mono hB.size)
    have m2 := m2.old B5
    have m2_d := m2
    have hB_d := hB
    refine d_val 0 5 (op := (Go.Op.move (Go.Operand.tmp 1))) hF hS (by kernel_rfl) (fun W hW => x_move rfl) (by kernel_rfl) (by decide) fun a hF => ?_
    refine d_val 1 6 (op := (Go.Op.call (Go.Call.mk (Go.Callee.builtin Go.Builtin.len) #[(Go.Operand.tmp 5)] #[22]))) hF hS (by kernel_rfl) (fun W hW => x_len Try.underlying22 rfl) (by kernel_rfl) (by decide) fun a hF => ?_
    refine d_val 2 7 (op := (Go.Op.binOp Go.BinOp.gtr 3 (Go.Operand.tmp 6) (Go.Operand.const (Go.Value.int Go.IntKind.i64 50)) 3)) hF hS (by kernel_rfl) (fun W hW => x_gtr (b := true) (decide_eq_true (by omega)) rfl rfl) (by kernel_rfl) (by decide) fun a hF => ?_
    refine d_val 3 8 (op := (Go.Op.move (Go.Operand.tmp 7))) hF hS (by kernel_rfl) (fun W hW => x_move rfl) (by kernel_rfl) (by decide) fun a hF => ?_
    refine d_skip 4 9 8 (j := 3) (want := false) (op := (Go.Op.load 24 (Go.Operand.tmp 2))) hF hS (by kernel_rfl) (by kernel_rfl) rfl (by kernel_rfl) (by decide) fun a hF => ?_
    refine d_skip 5 10 8 (j := 3) (want := false) (op := (Go.Op.move (Go.Operand.tmp 1))) hF hS (by kernel_rfl) (by kernel_rfl) rfl (by kernel_rfl) (by decide) fun a hF => ?_
    refine d_skip 6 11 8 (j := 3) (want := false) (op := (Go.Op.call (Go.Call.mk (Go.Callee.value (Go.Operand.func 27)) #[(Go.Operand.tmp 9), (Go.Operand.tmp 10)] #[24, 22]))) hF hS (by kernel_rfl) (by kernel_rfl) rfl (by kernel_rfl) (by decide) fun a hF => ?_
    refine d_skip 7 12 8 (j := 3) (want := false) (op := (Go.Op.load 24 (Go.Operand.tmp 2))) hF hS (by kernel_rfl) (by kernel_rfl) rfl (by kernel_rfl) (by decide) fun a hF => ?_
    refine d_skip 8 13 8 (j := 3) (want := false) (op := (Go.Op.move (Go.Operand.tmp 1))) hF hS (by kernel_rfl) (by kernel_rfl) rfl (by kernel_rfl) (by decide) fun a hF => ?_
    refine d_skip 9 14 8 (j := 3) (want := false) (op := (Go.Op.call (Go.Call.mk (Go.Callee.value (Go.Operand.func 28)) #[(Go.Operand.tmp 12), (Go.Operand.tmp 13)] #[24, 22]))) hF hS (by kernel_rfl) (by kernel_rfl) rfl (by kernel_rfl) (by decide) fun a hF => ?_
    refine d_skip 10 15 8 (j := 3) (want := false) (op := (Go.Op.call (Go.Call.mk (Go.Callee.value (Go.Operand.func 18)) #[(Go.Operand.tmp 11), (Go.Operand.tmp 14)] #[24, 24]))) hF hS (by kernel_rfl) (by kernel_rfl) rfl (by kernel_rfl) (by decide) fun a hF => ?_
    refine d_skip 11 16 8 (j := 3) (want := false) (op := (Go.Op.move (Go.Operand.tmp 15))) hF hS (by kernel_rfl) (by kernel_rfl) rfl (by kernel_rfl) (by decide) fun a hF => ?_
    refine d_skipu 12 17 16 (j := 11) (want := true) (op := (Go.Op.call (Go.Call.mk (Go.Callee.value (Go.Operand.func 15)) #[] #[]))) hF hS (by kernel_rfl) (by kernel_rfl) rfl (by kernel_rfl) (by decide) fun a hF => ?_
    refine d_skip 13 18 8 (j := 3) (want := false) (op := (Go.Op.pick (Go.Operand.tmp 16) (Go.Operand.tmp 17) (Go.Operand.const (Go.Value.bool false)))) hF hS (by kernel_rfl) (by kernel_rfl) rfl (by kernel_rfl) (by decide) fun a hF => ?_
    refine d_val 14 19 (op := (Go.Op.pick (Go.Operand.tmp 8) (Go.Operand.const (Go.Value.bool true)) (Go.Operand.tmp 18))) hF hS (by kernel_rfl) (fun W hW => x_pick (b := true) rfl rfl) (by kernel_rfl) (by decide) fun a hF => ?_
    refine d_val 15 4 (op := (Go.Op.assign (Go.Operand.tmp 19))) hF hS (by kernel_rfl) (fun W hW => x_assign rfl) (by kernel_rfl) (by decide) fun a hF => ?_
    refine d_end (by kernel_rfl) (hK3 _ _ ?_)
    refine wp_ret (res_slot hF rfl rfl ⟨rfl, hB⟩)
  · skip
    refine dk2_seq (w2.heap.size) (w2.heap.size) (ops := regOps Try.f6 1) (N := 16) (by kernel_rfl) wide_orders (by kernel_rfl) fun w6 hw6 B7 hS K4 hK4 => ?_
    have zw6 : w6.heap.size = w2.heap.size := by rw [hw6]
    have sB7 := B7.size
    have hB := hB.trans (B7.mono hB.size)
    have m2 := m2.old B7
    have m2_d := m2
    have hB_d := hB
    refine d_val 0 5 (op := (Go.Op.move (Go.Operand.tmp 1))) hF hS (by kernel_rfl) (fun W hW => x_move rfl) (by kernel_rfl) (by decide) fun a hF => ?_
    refine d_val 1 6 (op := (Go.Op.call (Go.Call.mk (Go.Callee.builtin Go.Builtin.len) #[(Go.Operand.tmp 5)] #[22]))) hF hS (by kernel_rfl) (fun W hW => x_len Try.underlying22 rfl) (by kernel_rfl) (by decide) fun a hF => ?_
    refine d_val 2 7 (op := (Go.Op.binOp Go.BinOp.gtr 3 (Go.Operand.tmp 6) (Go.Operand.const (Go.Value.int Go.IntKind.i64 50)) 3)) hF hS (by kernel_rfl) (fun W hW => x_gtr (b := false) (decide_eq_false (by omega)) rfl rfl) (by kernel_rfl) (by decide) fun a hF => ?_
    refine d_val 3 8 (op := (Go.Op.move (Go.Operand.tmp 7))) hF hS (by kernel_rfl) (fun W hW => x_move rfl) (by kernel_rfl) (by decide) fun a hF => ?_
    refine d_valg 4 9 8 (j := 3) (want := false) (op := (Go.Op.load 24 (Go.Operand.tmp 2))) hF hS (by kernel_rfl) (by kernel_rfl) rfl (fun W hW => x_ldW wide24 (m2_d.k2 hW (by omega)) rfl rfl) (by kernel_rfl) (by decide) fun a hF => ?_
    refine d_valg 5 10 8 (j := 3) (want := false) (op := (Go.Op.move (Go.Operand.tmp 1))) hF hS (by kernel_rfl) (by kernel_rfl) rfl (fun W hW => x_move rfl) (by kernel_rfl) (by decide) fun a hF => ?_
    refine d_valg 7 12 8 (j := 3) (want := false) (op := (Go.Op.load 24 (Go.Operand.tmp 2))) hF hS (by kernel_rfl) (by kernel_rfl) rfl (fun W hW => x_ldW wide24 (m2_d.k2 hW (by omega)) rfl rfl) (by kernel_rfl) (by decide) fun a hF => ?_
    refine d_valg 8 13 8 (j := 3) (want := false) (op := (Go.Op.move (Go.Operand.tmp 1))) hF hS (by kernel_rfl) (by kernel_rfl) rfl (fun W hW => x_move rfl) (by kernel_rfl) (by decide) fun a hF => ?_
    refine d_oneg 6 8 (some 11) (Go.Op.call (Go.Call.mk (Go.Callee.value (Go.Operand.func 27)) #[(Go.Operand.tmp 9), (Go.Operand.tmp 10)] #[24, 22])) (j := 3) (want := false) hF (by kernel_rfl) (by kernel_rfl) (by kernel_rfl) rfl fun ty pos af => ?_
    have hBt1 := hB
    refine s_callR (R := fun u w' => ∃ z, u = lv z ∧ (¬ sndL l → z = (0, 0, .slice none 0 0)) ∧ ∀ s, RS w6 s x → s.good → ((∃ i, bad ls (nfK s) i) → z = (0, 0, .slice none 0 0)) ∧ ((¬ ∃ i, bad ls (nfK s) i) → RS w' (levF (nfC (instT (nfC s) (nfK s) τ (nfK s).length)) (nfK (instT (nfC s) (nfK s) τ (nfK s).length))) z)) [_, _] hF (enters_of Try.func27 (by kernel_rfl) rfl) rfl (by decide) (Inst27 x l xs ls _ τ w6 (hL.old hB) (hV.below hB) hls (fun i x l h1 h2 => (hl i x l h1 h2).old hB) (fun i x l h1 h2 h3 => ⟨RS.below hB (hτ i x l h1 h2 h3).1, (hτ i x l h1 h2 h3).2⟩) hτ2) ?_
    rintro _ w8 a ⟨z1, rfl, hz1n, hz1y⟩ B9 hF
    have sB9 := B9.size
    have hB := hB.trans (B9.mono hB.size)
    have m2 := m2.old B9
    have hS := hS.below B9
    obtain rfl := hz1n hn
    refine s_end ⟨hS, ?_⟩
    refine d_oneg 9 8 (some 14) (Go.Op.call (Go.Call.mk (Go.Callee.value (Go.Operand.func 28)) #[(Go.Operand.tmp 12), (Go.Operand.tmp 13)] #[24, 22])) (j := 3) (want := false) hF (by kernel_rfl) (by kernel_rfl) (by kernel_rfl) rfl fun ty pos af => ?_
    have hBt2 := hB
    refine s_callR (R := fun u w' => ∃ z, u = lv z ∧ (¬ sndL l → z = (0, 0, .slice none 0 0)) ∧ ∀ s, RS w8 s x → s.good → ((∃ i, bad ls (nfK s) i) → z = (0, 0, .slice none 0 0)) ∧ ((¬ ∃ i, bad ls (nfK s) i) → RS w' (levF (nfC (instT (nfC s) (nfK s) τ (nfK s).length)) (nfK (instT (nfC s) (nfK s) τ (nfK s).length))) z)) [_, _] hF (enters_of Try.func28 (by kernel_rfl) rfl) rfl (by decide) (rInst28 x l xs ls _ τ w8 (hL.old hB) (hV.below hB) hls (fun i x l h1 h2 => (hl i x l h1 h2).old hB) (fun i x l h1 h2 h3 => ⟨RS.below hB (hτ i x l h1 h2 h3).1, (hτ i x l h1 h2 h3).2⟩) hτ2) ?_
    rintro _ w10 a ⟨z2, rfl, hz2n, hz2y⟩ B11 hF
    have sB11 := B11.size
    have hB := hB.trans (B11.mono hB.size)
    have m2 := m2.old B11
    have hS := hS.below B11
    obtain rfl := hz2n hn
    refine s_end ⟨hS, ?_⟩
    refine d_oneg 10 8 (some 15) (Go.Op.call (Go.Call.mk (Go.Callee.value (Go.Operand.func 18)) #[(Go.Operand.tmp 11), (Go.Operand.tmp 14)] #[24, 24])) (j := 3) (want := false) hF (by kernel_rfl) (by kernel_rfl) (by kernel_rfl) rfl fun ty pos af => ?_
    refine s_callB [_, _] hF (enters_of Try.func18 (by kernel_rfl) rfl) rfl (by decide) (Same18z w10) fun w12 a B13 hF => ?_
    have sB13 := B13.size
    have hB := hB.trans (B13.mono hB.size)
    have m2 := m2.old B13
    have hS := hS.below B13
    refine s_end ⟨hS, ?_⟩
    refine d_valg 11 16 8 (j := 3) (want := false) (op := (Go.Op.move (Go.Operand.tmp 15))) hF hS (by kernel_rfl) (by kernel_rfl) rfl (fun W hW => x_move rfl) (by kernel_rfl) (by decide) fun a hF => ?_
    refine d_oneg 12 16 (some 17) (Go.Op.call (Go.Call.mk (Go.Callee.value (Go.Operand.func 15)) #[] #[])) (j := 11) (want := true) hF (by kernel_rfl) (by kernel_rfl) (by kernel_rfl) rfl fun ty pos af => ?_
    refine s_callB [] hF (enters_of Try.func15 (by kernel_rfl) rfl) rfl (by decide) (awake15 w12) fun w14 a B15 hF => ?_
    have sB15 := B15.size
    have hB := hB.trans (B15.mono hB.size)
    have m2 := m2.old B15
    have hS := hS.below B15
    refine s_end ⟨hS, ?_⟩
    refine d_valg 13 18 8 (j := 3) (want := false) (op := (Go.Op.pick (Go.Operand.tmp 16) (Go.Operand.tmp 17) (Go.Operand.const (Go.Value.bool false)))) hF hS (by kernel_rfl) (by kernel_rfl) rfl (fun W hW => x_pick (b := true) rfl rfl) (by kernel_rfl) (by decide) fun a hF => ?_
    refine d_val 14 19 (op := (Go.Op.pick (Go.Operand.tmp 8) (Go.Operand.const (Go.Value.bool true)) (Go.Operand.tmp 18))) hF hS (by kernel_rfl) (fun W hW => x_pick (b := false) rfl rfl) (by kernel_rfl) (by decide) fun a hF => ?_
    refine d_val 15 4 (op := (Go.Op.assign (Go.Operand.tmp 19))) hF hS (by kernel_rfl) (fun W hW => x_assign rfl) (by kernel_rfl) (by decide) fun a hF => ?_
    refine d_end (by kernel_rfl) (hK4 _ _ ?_)
    refine wp_ret (res_slot hF rfl rfl ⟨rfl, hB⟩)
  · skip
    refine dk2_seq (w2.heap.size) (w2.heap.size) (ops := regOps Try.f6 1) (N := 16) (by kernel_rfl) wide_orders (by kernel_rfl) fun w16 hw16 B17 hS K5 hK5 => ?_
    have zw16 : w16.heap.size = w2.heap.size := by rw [hw16]
    have sB17 := B17.size
    have hB := hB.trans (B17.mono hB.size)
    have m2 := m2.old B17
    have m2_d := m2
    have hB_d := hB
    refine d_val 0 5 (op := (Go.Op.move (Go.Operand.tmp 1))) hF hS (by kernel_rfl) (fun W hW => x_move rfl) (by kernel_rfl) (by decide) fun a hF => ?_
    refine d_val 1 6 (op := (Go.Op.call (Go.Call.mk (Go.Callee.builtin Go.Builtin.len) #[(Go.Operand.tmp 5)] #[22]))) hF hS (by kernel_rfl) (fun W hW => x_len Try.underlying22 rfl) (by kernel_rfl) (by decide) fun a hF => ?_
    refine d_val 2 7 (op := (Go.Op.binOp Go.BinOp.gtr 3 (Go.Operand.tmp 6) (Go.Operand.const (Go.Value.int Go.IntKind.i64 50)) 3)) hF hS (by kernel_rfl) (fun W hW => x_gtr (b := false) (decide_eq_false (by omega)) rfl rfl) (by kernel_rfl) (by decide) fun a hF => ?_
    refine d_val 3 8 (op := (Go.Op.move (Go.Operand.tmp 7))) hF hS (by kernel_rfl) (fun W hW => x_move rfl) (by kernel_rfl) (by decide) fun a hF => ?_
    refine d_valg 4 9 8 (j := 3) (want := false) (op := (Go.Op.load 24 (Go.Operand.tmp 2))) hF hS (by kernel_rfl) (by kernel_rfl) rfl (fun W hW => x_ldW wide24 (m2_d.k2 hW (by omega)) rfl rfl) (by kernel_rfl) (by decide) fun a hF => ?_
    refine d_valg 5 10 8 (j := 3) (want := false) (op := (Go.Op.move (Go.Operand.tmp 1))) hF hS (by kernel_rfl) (by kernel_rfl) rfl (fun W hW => x_move rfl) (by kernel_rfl) (by decide) fun a hF => ?_
    refine d_valg 7 12 8 (j := 3) (want := false) (op := (Go.Op.load 24 (Go.Operand.tmp 2))) hF hS (by kernel_rfl) (by kernel_rfl) rfl (fun W hW => x_ldW wide24 (m2_d.k2 hW (by omega)) rfl rfl) (by kernel_rfl) (by decide) fun a hF => ?_
    refine d_valg 8 13 8 (j := 3) (want := false) (op := (Go.Op.move (Go.Operand.tmp 1))) hF hS (by kernel_rfl) (by kernel_rfl) rfl (fun W hW => x_move rfl) (by kernel_rfl) (by decide) fun a hF => ?_
    refine d_oneg 6 8 (some 11) (Go.Op.call (Go.Call.mk (Go.Callee.value (Go.Operand.func 27)) #[(Go.Operand.tmp 9), (Go.Operand.tmp 10)] #[24, 22])) (j := 3) (want := false) hF (by kernel_rfl) (by kernel_rfl) (by kernel_rfl) rfl fun ty pos af => ?_
    have hBt1 := hB
    refine s_callR (R := fun u w' => ∃ z, u = lv z ∧ (¬ sndL l → z = (0, 0, .slice none 0 0)) ∧ ∀ s, RS w16 s x → s.good → ((∃ i, bad ls (nfK s) i) → z = (0, 0, .slice none 0 0)) ∧ ((¬ ∃ i, bad ls (nfK s) i) → RS w' (levF (nfC (instT (nfC s) (nfK s) τ (nfK s).length)) (nfK (instT (nfC s) (nfK s) τ (nfK s).length))) z)) [_, _] hF (enters_of Try.func27 (by kernel_rfl) rfl) rfl (by decide) (Inst27 x l xs ls _ τ w16 (hL.old hB) (hV.below hB) hls (fun i x l h1 h2 => (hl i x l h1 h2).old hB) (fun i x l h1 h2 h3 => ⟨RS.below hB (hτ i x l h1 h2 h3).1, (hτ i x l h1 h2 h3).2⟩) hτ2) ?_
    rintro _ w18 a ⟨z1, rfl, hz1n, hz1y⟩ B19 hF
    have sB19 := B19.size
    have hB := hB.trans (B19.mono hB.size)
    have m2 := m2.old B19
    have hS := hS.below B19
    obtain rfl := (hz1y s (RS.below hBt1 hs) hsg).1 hbad
    refine s_end ⟨hS, ?_⟩
    refine d_oneg 9 8 (some 14) (Go.Op.call (Go.Call.mk (Go.Callee.value (Go.Operand.func 28)) #[(Go.Operand.tmp 12), (Go.Operand.tmp 13)] #[24, 22])) (j := 3) (want := false) hF (by kernel_rfl) (by kernel_rfl) (by kernel_rfl) rfl fun ty pos af => ?_
    have hBt2 := hB
    refine s_callR (R := fun u w' => ∃ z, u = lv z ∧ (¬ sndL l → z = (0, 0, .slice none 0 0)) ∧ ∀ s, RS w18 s x → s.good → ((∃ i, bad ls (nfK s) i) → z = (0, 0, .slice none 0 0)) ∧ ((¬ ∃ i, bad ls (nfK s) i) → RS w' (levF (nfC (instT (nfC s) (nfK s) τ (nfK s).length)) (nfK (instT (nfC s) (nfK s) τ (nfK s).length))) z)) [_, _] hF (enters_of Try.func28 (by kernel_rfl) rfl) rfl (by decide) (rInst28 x l xs ls _ τ w18 (hL.old hB) (hV.below hB) hls (fun i x l h1 h2 => (hl i x l h1 h2).old hB) (fun i x l h1 h2 h3 => ⟨RS.below hB (hτ i x l h1 h2 h3).1, (hτ i x l h1 h2 h3).2⟩) hτ2) ?_
    rintro _ w20 a ⟨z2, rfl, hz2n, hz2y⟩ B21 hF
    have sB21 := B21.size
    have hB := hB.trans (B21.mono hB.size)
    have m2 := m2.old B21
    have hS := hS.below B21
    obtain rfl := (hz2y s (RS.below hBt2 hs) hsg).1 hbad
    refine s_end ⟨hS, ?_⟩
    refine d_oneg 10 8 (some 15) (Go.Op.call (Go.Call.mk (Go.Callee.value (Go.Operand.func 18)) #[(Go.Operand.tmp 11), (Go.Operand.tmp 14)] #[24, 24])) (j := 3) (want := false) hF (by kernel_rfl) (by kernel_rfl) (by kernel_rfl) rfl fun ty pos af => ?_
    refine s_callB [_, _] hF (enters_of Try.func18 (by kernel_rfl) rfl) rfl (by decide) (Same18z w20) fun w22 a B23 hF => ?_
    have sB23 := B23.size
    have hB := hB.trans (B23.mono hB.size)
    have m2 := m2.old B23
    have hS := hS.below B23
    refine s_end ⟨hS, ?_⟩
    refine d_valg 11 16 8 (j := 3) (want := false) (op := (Go.Op.move (Go.Operand.tmp 15))) hF hS (by kernel_rfl) (by kernel_rfl) rfl (fun W hW => x_move rfl) (by kernel_rfl) (by decide) fun a hF => ?_
    refine d_oneg 12 16 (some 17) (Go.Op.call (Go.Call.mk (Go.Callee.value (Go.Operand.func 15)) #[] #[])) (j := 11) (want := true) hF (by kernel_rfl) (by kernel_rfl) (by kernel_rfl) rfl fun ty pos af => ?_
    refine s_callB [] hF (enters_of Try.func15 (by kernel_rfl) rfl) rfl (by decide) (awake15 w22) fun w24 a B25 hF => ?_
    have sB25 := B25.size
    have hB := hB.trans (B25.mono hB.size)
    have m2 := m2.old B25
    have hS := hS.below B25
    refine s_end ⟨hS, ?_⟩
    refine d_valg 13 18 8 (j := 3) (want := false) (op := (Go.Op.pick (Go.Operand.tmp 16) (Go.Operand.tmp 17) (Go.Operand.const (Go.Value.bool false)))) hF hS (by kernel_rfl) (by kernel_rfl) rfl (fun W hW => x_pick (b := true) rfl rfl) (by kernel_rfl) (by decide) fun a hF => ?_
    refine d_val 14 19 (op := (Go.Op.pick (Go.Operand.tmp 8) (Go.Operand.const (Go.Value.bool true)) (Go.Operand.tmp 18))) hF hS (by kernel_rfl) (fun W hW => x_pick (b := false) rfl rfl) (by kernel_rfl) (by decide) fun a hF => ?_
    refine d_val 15 4 (op := (Go.Op.assign (Go.Operand.tmp 19))) hF hS (by kernel_rfl) (fun W hW => x_assign rfl) (by kernel_rfl) (by decide) fun a hF => ?_
    refine d_end (by kernel_rfl) (hK5 _ _ ?_)
    refine wp_ret (res_slot hF rfl rfl ⟨rfl, hB⟩)
  · skip
    refine dk2_seq (w2.heap.size) (w2.heap.size) (ops := regOps Try.f6 1) (N := 16) (by kernel_rfl) wide_orders (by kernel_rfl) fun w26 hw26 B27 hS K6 hK6 => ?_
    have zw26 : w26.heap.size = w2.heap.size := by rw [hw26]
    have sB27 := B27.size
    have hB := hB.trans (B27.mono hB.size)
    have m2 := m2.old B27
    have m2_d := m2
    have hB_d := hB
    refine d_val 0 5 (op := (Go.Op.move (Go.Operand.tmp 1))) hF hS (by kernel_rfl) (fun W hW => x_move rfl) (by kernel_rfl) (by decide) fun a hF => ?_
    refine d_val 1 6 (op := (Go.Op.call (Go.Call.mk (Go.Callee.builtin Go.Builtin.len) #[(Go.Operand.tmp 5)] #[22]))) hF hS (by kernel_rfl) (fun W hW => x_len Try.underlying22 rfl) (by kernel_rfl) (by decide) fun a hF => ?_
    refine d_val 2 7 (op := (Go.Op.binOp Go.BinOp.gtr 3 (Go.Operand.tmp 6) (Go.Operand.const (Go.Value.int Go.IntKind.i64 50)) 3)) hF hS (by kernel_rfl) (fun W hW => x_gtr (b := false) (decide_eq_false (by omega)) rfl rfl) (by kernel_rfl) (by decide) fun a hF => ?_
    refine d_val 3 8 (op := (Go.Op.move (Go.Operand.tmp 7))) hF hS (by kernel_rfl) (fun W hW => x_move rfl) (by kernel_rfl) (by decide) fun a hF => ?_
    refine d_valg 4 9 8 (j := 3) (want := false) (op := (Go.Op.load 24 (Go.Operand.tmp 2))) hF hS (by kernel_rfl) (by kernel_rfl) rfl (fun W hW => x_ldW wide24 (m2_d.k2 hW (by omega)) rfl rfl) (by kernel_rfl) (by decide) fun a hF => ?_
    refine d_valg 5 10 8 (j := 3) (want := false) (op := (Go.Op.move (Go.Operand.tmp 1))) hF hS (by kernel_rfl) (by kernel_rfl) rfl (fun W hW => x_move rfl) (by kernel_rfl) (by decide) fun a hF => ?_
    refine d_valg 7 12 8 (j := 3) (want := false) (op := (Go.Op.load 24 (Go.Operand.tmp 2))) hF hS (by kernel_rfl) (by kernel_rfl) rfl (fun W hW => x_ldW wide24 (m2_d.k2 hW (by omega)) rfl rfl) (by kernel_rfl) (by decide) fun a hF => ?_
    refine d_valg 8 13 8 (j := 3) (want := false) (op := (Go.Op.move (Go.Operand.tmp 1))) hF hS (by kernel_rfl) (by kernel_rfl) rfl (fun W hW => x_move rfl) (by kernel_rfl) (by decide) fun a hF => ?_
    refine d_oneg 6 8 (some 11) (Go.Op.call (Go.Call.mk (Go.Callee.value (Go.Operand.func 27)) #[(Go.Operand.tmp 9), (Go.Operand.tmp 10)] #[24, 22])) (j := 3) (want := false) hF (by kernel_rfl) (by kernel_rfl) (by kernel_rfl) rfl fun ty pos af => ?_
    have hBt1 := hB
    refine s_callR (R := fun u w' => ∃ z, u = lv z ∧ (¬ sndL l → z = (0, 0, .slice none 0 0)) ∧ ∀ s, RS w26 s x → s.good → ((∃ i, bad ls (nfK s) i) → z = (0, 0, .slice none 0 0)) ∧ ((¬ ∃ i, bad ls (nfK s) i) → RS w' (levF (nfC (instT (nfC s) (nfK s) τ (nfK s).length)) (nfK (instT (nfC s) (nfK s) τ (nfK s).length))) z)) [_, _] hF (enters_of Try.func27 (by kernel_rfl) rfl) rfl (by decide) (Inst27 x l xs ls _ τ w26 (hL.old hB) (hV.below hB) hls (fun i x l h1 h2 => (hl i x l h1 h2).old hB) (fun i x l h1 h2 h3 => ⟨RS.below hB (hτ i x l h1 h2 h3).1, (hτ i x l h1 h2 h3).2⟩) hτ2) ?_
    rintro _ w28 a ⟨z1, rfl, hz1n, hz1y⟩ B29 hF
    have sB29 := B29.size
    have hB := hB.trans (B29.mono hB.size)
    have m2 := m2.old B29
    have hS := hS.below B29
    have hz1 := (hz1y s (RS.below hBt1 hs) hsg).2 hbad
    refine s_end ⟨hS, ?_⟩
    refine d_oneg 9 8 (some 14) (Go.Op.call (Go.Call.mk (Go.Callee.value (Go.Operand.func 28)) #[(Go.Operand.tmp 12), (Go.Operand.tmp 13)] #[24, 22])) (j := 3) (want := false) hF (by kernel_rfl) (by kernel_rfl) (by kernel_rfl) rfl fun ty pos af => ?_
    have hBt2 := hB
    refine s_callR (R := fun u w' => ∃ z, u = lv z ∧ (¬ sndL l → z = (0, 0, .slice none 0 0)) ∧ ∀ s, RS w28 s x → s.good → ((∃ i, bad ls (nfK s) i) → z = (0, 0, .slice none 0 0)) ∧ ((¬ ∃ i, bad ls (nfK s) i) → RS w' (levF (nfC (instT (nfC s) (nfK s) τ (nfK s).length)) (nfK (instT (nfC s) (nfK s) τ (nfK s).length))) z)) [_, _] hF (enters_of Try.func28 (by kernel_rfl) rfl) rfl (by decide) (rInst28 x l xs ls _ τ w28 (hL.old hB) (hV.below hB) hls (fun i x l h1 h2 => (hl i x l h1 h2).old hB) (fun i x l h1 h2 h3 => ⟨RS.below hB (hτ i x l h1 h2 h3).1, (hτ i x l h1 h2 h3).2⟩) hτ2) ?_
    rintro _ w30 a ⟨z2, rfl, hz2n, hz2y⟩ B31 hF
    have sB31 := B31.size
    have hB := hB.trans (B31.mono hB.size)
    have m2 := m2.old B31
    have hz1 := RS.below B31 hz1
    have hS := hS.below B31
    have hz2 := (hz2y s (RS.below hBt2 hs) hsg).2 hbad
    refine s_end ⟨hS, ?_⟩
    refine d_oneg 10 8 (some 15) (Go.Op.call (Go.Call.mk (Go.Callee.value (Go.Operand.func 18)) #[(Go.Operand.tmp 11), (Go.Operand.tmp 14)] #[24, 24])) (j := 3) (want := false) hF (by kernel_rfl) (by kernel_rfl) (by kernel_rfl) rfl fun ty pos af => ?_
    refine s_callB [_, _] hF (enters_of Try.func18 (by kernel_rfl) rfl) rfl (by decide) (Same18 _ _ z1 z2 w30 hz1 hz2 (by have := levF_size (c := nfC (instT (nfC s) (nfK s) τ (nfK s).length)) (instT_len (c := nfC s) (ks := nfK s) (nfK s).length (tau_nums hls (nfK_len s hsg) hτ hτ2 hbad)); omega)) fun w32 a B33 hF => ?_
    have sB33 := B33.size
    have hB := hB.trans (B33.mono hB.size)
    have m2 := m2.old B33
    have hz1 := RS.below B33 hz1
    have hz2 := RS.below B33 hz2
    have hS := hS.below B33
    rw [decide_eq_true rfl] at hF
    refine s_end ⟨hS, ?_⟩
    refine d_valg 11 16 8 (j := 3) (want := false) (op := (Go.Op.move (Go.Operand.tmp 15))) hF hS (by kernel_rfl) (by kernel_rfl) rfl (fun W hW => x_move rfl) (by kernel_rfl) (by decide) fun a hF => ?_
    refine d_oneg 12 16 (some 17) (Go.Op.call (Go.Call.mk (Go.Callee.value (Go.Operand.func 15)) #[] #[])) (j := 11) (want := true) hF (by kernel_rfl) (by kernel_rfl) (by kernel_rfl) rfl fun ty pos af => ?_
    refine s_callB [] hF (enters_of Try.func15 (by kernel_rfl) rfl) rfl (by decide) (awake15 w32) fun w34 a B35 hF => ?_
    have sB35 := B35.size
    have hB := hB.trans (B35.mono hB.size)
    have m2 := m2.old B35
    have hz1 := RS.below B35 hz1
    have hz2 := RS.below B35 hz2
    have hS := hS.below B35
    refine s_end ⟨hS, ?_⟩
    refine d_valg 13 18 8 (j := 3) (want := false) (op := (Go.Op.pick (Go.Operand.tmp 16) (Go.Operand.tmp 17) (Go.Operand.const (Go.Value.bool false)))) hF hS (by kernel_rfl) (by kernel_rfl) rfl (fun W hW => x_pick (b := true) rfl rfl) (by kernel_rfl) (by decide) fun a hF => ?_
    refine d_val 14 19 (op := (Go.Op.pick (Go.Operand.tmp 8) (Go.Operand.const (Go.Value.bool true)) (Go.Operand.tmp 18))) hF hS (by kernel_rfl) (fun W hW => x_pick (b := false) rfl rfl) (by kernel_rfl) (by decide) fun a hF => ?_
    refine d_val 15 4 (op := (Go.Op.assign (Go.Operand.tmp 19))) hF hS (by kernel_rfl) (fun W hW => x_assign rfl) (by kernel_rfl) (by decide) fun a hF => ?_
    refine d_end (by kernel_rfl) (hK6 _ _ ?_)
    refine wp_ret (res_slot hF rfl rfl ⟨rfl, hB⟩)
end Go.Proofs.Ytnnkggfhhkhnmaa
