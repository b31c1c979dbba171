/- upward, Path, the reference's Path, same; ChainRoots. -/
import Derived.Test.YtbmglinkfdoegaaDoorChain3
namespace Go.Proofs.YtbmglinkfdoegaaDoor
open Go.RowKit Go.Shelf
set_option linter.unusedVariables false
set_option linter.unusedSimpArgs false

/-- Digests that a call owns. -/
def OwD (base : Nat) (w : World) (v : Value) (ps : List (List UInt8)) : Prop := w.ownsRow base 23 32 v ps.length (ps.flatMap fun d => d.map encB)
theorem OwD.rd {base : Nat} {w : World} {v : Value} {ps : List (List UInt8)} (h : OwD base w v ps) (h32 : ∀ d ∈ ps, d.length = 32) : RD w v ps := ⟨Rd.own h, h32⟩
theorem OwD.base {base base' : Nat} {w : World} {v : Value} {ps : List (List UInt8)} (h : OwD base' w v ps) (hb : base ≤ base') : OwD base w v ps := by
  refine ⟨h.1, ?_⟩
  rcases h.2 with h0 | ⟨g, cap, cur, rfl, hg, h1⟩
  · exact .inl h0
  · exact .inr ⟨g, cap, cur, rfl, by omega, h1⟩
theorem fm_snoc (ps : List (List UInt8)) (r : List UInt8) : (ps.flatMap fun d => d.map encB) ++ ([dig r].flatMap fun v => v.cells.toList) = (ps ++ [r]).flatMap fun d => d.map encB := by simp [Value.cells]
theorem one_dig (r : List UInt8) : ∀ u ∈ ([dig r].flatMap fun v => v.cells.toList), u.oneCell' = true := by
  intro u hu
  simp only [List.flatMap_cons, List.flatMap_nil, List.append_nil, Value.cells] at hu
  exact oneB r u (by simpa using hu)
theorem OwD.app {base : Nat} {w : World} {v : Value} {ps : List (List UInt8)} {r : List UInt8} (h : w.ownsRow base 23 32 v (ps.length + 1) ((ps.flatMap fun d => d.map encB) ++ ([dig r].flatMap fun v => v.cells.toList))) : OwD base w v (ps ++ [r]) := by
  rw [fm_snoc] at h
  rw [OwD, List.length_append]
  exact h

set_option maxRecDepth 100000 in
set_option maxHeartbeats 1600000 in
theorem upward26 : ∀ (N : Nat) (ls : List (List UInt8)) (i : Nat) (v : Value) (w0 : World), ls.length < N → i < ls.length → RM w0 v ls → N ≤ 4096 → (∀ s ∈ ls, s.length ≤ 200) → Tab w0 →
    Calls Tryd.prog 26 #[v, .int .i64 (i : Int)] w0 fun e w' => ∃ v', e = .returned v' ∧ OwD w0.heap.size w' v' (pathF kTab N ls i) ∧ Below w0.heap.size w0 w' := by
  intro N
  induction N with
  | zero => intro ls i v w0 h; omega
  | succ N ih =>
  intro ls i v w0 hN hi hM hn hs hT
  obtain ⟨av, cv, rfl, hcv⟩ := hM.form
  have hB := Below.refl w0.heap.size w0
  have sB := hB.size
  refine calls_fs 39 [(0, .slice av ls.length cv), (1, .int .i64 (i : Int))] Tryd.func26 rfl rfl rfl rfl rfl fun a hF => ?_
  refine wp_rs fun K1 hK1 => ?_
  refine s_val hF (x_assign rfl) (by decide) fun a hF => ?_
  refine s_end (hK1 _ _ ?_)
  refine wp_seq_k fun K2 hK2 => ?_
  refine wp_rs fun K3 hK3 => ?_
  refine s_val hF (x_move rfl) (by decide) fun a hF => ?_
  refine s_val hF (x_len Tryd.underlying24 rfl) (by decide) fun a hF => ?_
  refine s_val hF (x_eql (b := decide (ls.length = 1)) (decide_eq_decide.2 (by omega)) rfl rfl) (by decide) fun a hF => ?_
  refine s_end (hK3 _ _ ?_)
  refine wp_iff hF rfl (fun hc8 => ?_) (fun hc8 => ?_)
  · refine wp_rs fun K4 hK4 => ?_
    refine s_val hF (x_assign rfl) (by decide) fun a hF => ?_
    refine s_end (hK4 _ _ ?_)
    refine wp_ret (then_ret (res_slot hF rfl rfl ⟨_, rfl, by rw [pathF, if_pos (by omega)]; exact World.ownsRow_nil _ _ _ _, hB⟩))
  · refine wp_skip (hK2 _ _ ?_)
    refine wp_rs fun K5 hK5 => ?_
    refine s_val hF (x_move rfl) (by decide) fun a hF => ?_
    refine s_val hF (x_len Tryd.underlying24 rfl) (by decide) fun a hF => ?_
    refine s_callS [.int .i64 (ls.length : Int)] hF (enters_of Tryd.func27 (by kernel_rfl) rfl) rfl (by decide) (left27 ls.length (by omega) (by omega) _) fun a hF => ?_
    have hk1 := halfL_lt (n := ls.length) (by omega)
    have hk0 := halfL_pos ls.length
    have hl2 : ¬ ls.length < 2 := by omega
    refine s_val hF (x_assign rfl) (by decide) fun a hF => ?_
    refine s_end (hK5 _ _ ?_)
    refine wp_seq_k fun K6 hK6 => ?_
    refine wp_rs fun K7 hK7 => ?_
    refine s_val hF (x_move rfl) (by decide) fun a hF => ?_
    refine s_val hF (x_move rfl) (by decide) fun a hF => ?_
    refine s_val hF (x_lss (b := decide (i < halfL ls.length)) (decide_eq_decide.2 (by omega)) rfl rfl) (by decide) fun a hF => ?_
    refine s_end (hK7 _ _ ?_)
    refine wp_iff hF rfl (fun hc14 => ?_) (fun hc14 => ?_)
    · refine dk_seq (w0.heap.size) (ops := regOps Tryd.f26 5) (N := 12) (by kernel_rfl) wide_orders (by kernel_rfl) fun w2 hw2 B3 hS K8 hK8 => ?_
      have zw2 : w2.heap.size = w0.heap.size := by rw [hw2]
      have sB3 := B3.size
      have hB := hB.trans (B3.mono hB.size)
      have hB_d := hB
      refine d_val 0 15 (op := (Go.Op.move (Go.Operand.tmp 0))) hF hS (by kernel_rfl) (fun W hW => x_move rfl) (by kernel_rfl) (by decide) fun a hF => ?_
      refine d_val 1 16 (op := (Go.Op.move (Go.Operand.tmp 5))) hF hS (by kernel_rfl) (fun W hW => x_move rfl) (by kernel_rfl) (by decide) fun a hF => ?_
      refine d_val 2 17 (op := (Go.Op.slice 24 (Go.Operand.tmp 15) none (some (Go.Operand.tmp 16)) none)) hF hS (by kernel_rfl) (fun W hW => x_slice (vlo := none) (vhi := some (.int .i64 (halfL ls.length : Int))) (vmx := none) rfl rfl rfl rfl (m_sliceUK (halfL ls.length) Tryd.underlying24 el24.size rfl (by omega))) (by kernel_rfl) (by decide) fun a hF => ?_
      refine d_val 3 18 (op := (Go.Op.move (Go.Operand.tmp 1))) hF hS (by kernel_rfl) (fun W hW => x_move rfl) (by kernel_rfl) (by decide) fun a hF => ?_
      refine d_val 5 20 (op := (Go.Op.move (Go.Operand.tmp 0))) hF hS (by kernel_rfl) (fun W hW => x_move rfl) (by kernel_rfl) (by decide) fun a hF => ?_
      refine d_val 6 21 (op := (Go.Op.move (Go.Operand.tmp 5))) hF hS (by kernel_rfl) (fun W hW => x_move rfl) (by kernel_rfl) (by decide) fun a hF => ?_
      refine d_val 7 22 (op := (Go.Op.slice 24 (Go.Operand.tmp 20) (some (Go.Operand.tmp 21)) none none)) hF hS (by kernel_rfl) (fun W hW => x_slice (vlo := some (.int .i64 (halfL ls.length : Int))) (vhi := none) (vmx := none) rfl rfl rfl rfl (m_sliceFK (halfL ls.length) Tryd.underlying24 el24.size rfl (by omega))) (by kernel_rfl) (by decide) fun a hF => ?_
      refine d_one 4 (some 19) (Go.Op.call (Go.Call.mk (Go.Callee.value (Go.Operand.func 26)) #[(Go.Operand.tmp 17), (Go.Operand.tmp 18)] #[24, 3])) (by kernel_rfl) (by kernel_rfl) fun ty pos af => ?_
      refine s_callR (R := fun v w' => OwD w2.heap.size w' v (pathF kTab N (ls.take (halfL ls.length)) (i))) [_, .int .i64 ((i : Nat) : Int)] hF (enters_of Tryd.func26 (by kernel_rfl) rfl) rfl (by decide) (ih (ls.take (halfL ls.length)) (i) _ w2 (by rw [List.length_take]; omega) (by rw [List.length_take]; omega) ((hM.below hB).upto (halfL ls.length) (by omega)) (by omega) (fun s hx => hs s (List.mem_of_mem_take hx)) (hT.old hB)) ?_
      rintro vp w4 a hO B5 hF
      have sB5 := B5.size
      have hB := hB.trans (B5.mono hB.size)
      have hS := hS.below B5
      refine s_end ⟨hS, ?_⟩
      refine d_one 8 (some 23) (Go.Op.call (Go.Call.mk (Go.Callee.value (Go.Operand.func 17)) #[(Go.Operand.tmp 22)] #[24])) (by kernel_rfl) (by kernel_rfl) fun ty pos af => ?_
      refine s_callB [_] hF (enters_of Tryd.func17 (by kernel_rfl) rfl) rfl (by decide) (root17 N (ls.drop (halfL ls.length)) _ w4 (by rw [List.length_drop]; omega) ((hM.below hB).from (halfL ls.length) (by omega)) (by rw [List.length_drop]; omega) (fun s hx => hs s (List.mem_of_mem_drop hx)) (hT.old hB)) fun w6 a B7 hF => ?_
      have sB7 := B7.size
      have hB := hB.trans (B7.mono hB.size)
      have hO := own_below hO B7
      have hS := hS.below B7
      refine s_end ⟨hS, ?_⟩
      refine d_one 9 (some 24) (Go.Op.buildSlice 33 1 #[(0, (Go.Operand.tmp 23))]) (by kernel_rfl) (by kernel_rfl) fun ty pos af => ?_
      refine s_litG [dig (rootF kTab N (ls.drop (halfL ls.length)))] el33 hF (by decide) rfl (by simp [Value.cells, rootF_length]) rfl (by decide) (by decide) fun w8 bl a ebl ml B9 zbl hF => ?_
      have sB9 := B9.size
      have hB := hB.trans (B9.mono hB.size)
      have hO := own_below hO B9
      have hS := hS.below B9
      refine s_end ⟨hS, ?_⟩
      refine d_one 10 (some 25) (Go.Op.call (Go.Call.mk (Go.Callee.builtin Go.Builtin.append) #[(Go.Operand.tmp 19), (Go.Operand.tmp 24)] #[33, 33])) (by kernel_rfl) (by kernel_rfl) fun ty pos af => ?_
      have hpl := pathF_length kTab N (ls.take (halfL ls.length)) i
      refine s_appG el33 hF (by decide) rfl rfl hO (Rd.blk (n := 1) (k := 32) ml (by simp [Value.cells, rootF_length])) (one_dig _) (by omega) (by unfold maxLen; omega) (by omega) fun v2 w10 a hO2 g2 hw2 hF => ?_
      have hB := hB.trans (grown_below g2 hB.size (fun k hk => by have := (hO.lt k hk).1; omega))
      have hS := hS.grown g2 (fun k hk => .inr (by have := (hO.lt k hk).1; omega))
      have hO := OwD.app hO2
      refine s_end ⟨hS, ?_⟩
      refine d_val 11 4 (op := (Go.Op.assign (Go.Operand.tmp 25))) hF hS (by kernel_rfl) (fun W hW => x_assign rfl) (by kernel_rfl) (by decide) fun a hF => ?_
      refine d_end (by kernel_rfl) (hK8 _ _ ?_)
      refine wp_ret (then_ret (res_slot hF rfl rfl ⟨_, rfl, by rw [pathF, if_neg hl2, if_pos hc14]; exact OwD.base hO (by omega), hB⟩))
    · refine wp_skip (hK6 _ _ ?_)
      refine dk_seq (w0.heap.size) (ops := regOps Tryd.f26 6) (N := 14) (by kernel_rfl) wide_orders (by kernel_rfl) fun w11 hw11 B12 hS K9 hK9 => ?_
      have zw11 : w11.heap.size = w0.heap.size := by rw [hw11]
      have sB12 := B12.size
      have hB := hB.trans (B12.mono hB.size)
      have hB_d := hB
      refine d_val 0 26 (op := (Go.Op.move (Go.Operand.tmp 0))) hF hS (by kernel_rfl) (fun W hW => x_move rfl) (by kernel_rfl) (by decide) fun a hF => ?_
      refine d_val 1 27 (op := (Go.Op.move (Go.Operand.tmp 5))) hF hS (by kernel_rfl) (fun W hW => x_move rfl) (by kernel_rfl) (by decide) fun a hF => ?_
      refine d_val 2 28 (op := (Go.Op.slice 24 (Go.Operand.tmp 26) (some (Go.Operand.tmp 27)) none none)) hF hS (by kernel_rfl) (fun W hW => x_slice (vlo := some (.int .i64 (halfL ls.length : Int))) (vhi := none) (vmx := none) rfl rfl rfl rfl (m_sliceFK (halfL ls.length) Tryd.underlying24 el24.size rfl (by omega))) (by kernel_rfl) (by decide) fun a hF => ?_
      refine d_val 3 29 (op := (Go.Op.move (Go.Operand.tmp 1))) hF hS (by kernel_rfl) (fun W hW => x_move rfl) (by kernel_rfl) (by decide) fun a hF => ?_
      refine d_val 4 30 (op := (Go.Op.move (Go.Operand.tmp 5))) hF hS (by kernel_rfl) (fun W hW => x_move rfl) (by kernel_rfl) (by decide) fun a hF => ?_
      refine d_val 5 31 (op := (Go.Op.binOp Go.BinOp.sub 3 (Go.Operand.tmp 29) (Go.Operand.tmp 30) 3)) hF hS (by kernel_rfl) (fun W hW => x_subn (i - halfL ls.length) (by omega) (by omega) rfl rfl) (by kernel_rfl) (by decide) fun a hF => ?_
      refine d_val 7 33 (op := (Go.Op.move (Go.Operand.tmp 0))) hF hS (by kernel_rfl) (fun W hW => x_move rfl) (by kernel_rfl) (by decide) fun a hF => ?_
      refine d_val 8 34 (op := (Go.Op.move (Go.Operand.tmp 5))) hF hS (by kernel_rfl) (fun W hW => x_move rfl) (by kernel_rfl) (by decide) fun a hF => ?_
      refine d_val 9 35 (op := (Go.Op.slice 24 (Go.Operand.tmp 33) none (some (Go.Operand.tmp 34)) none)) hF hS (by kernel_rfl) (fun W hW => x_slice (vlo := none) (vhi := some (.int .i64 (halfL ls.length : Int))) (vmx := none) rfl rfl rfl rfl (m_sliceUK (halfL ls.length) Tryd.underlying24 el24.size rfl (by omega))) (by kernel_rfl) (by decide) fun a hF => ?_
      refine d_one 6 (some 32) (Go.Op.call (Go.Call.mk (Go.Callee.value (Go.Operand.func 26)) #[(Go.Operand.tmp 28), (Go.Operand.tmp 31)] #[24, 3])) (by kernel_rfl) (by kernel_rfl) fun ty pos af => ?_
      refine s_callR (R := fun v w' => OwD w11.heap.size w' v (pathF kTab N (ls.drop (halfL ls.length)) (i - halfL ls.length))) [_, .int .i64 ((i - halfL ls.length : Nat) : Int)] hF (enters_of Tryd.func26 (by kernel_rfl) rfl) rfl (by decide) (ih (ls.drop (halfL ls.length)) (i - halfL ls.length) _ w11 (by rw [List.length_drop]; omega) (by rw [List.length_drop]; omega) ((hM.below hB).from (halfL ls.length) (by omega)) (by omega) (fun s hx => hs s (List.mem_of_mem_drop hx)) (hT.old hB)) ?_
      rintro vp w13 a hO B14 hF
      have sB14 := B14.size
      have hB := hB.trans (B14.mono hB.size)
      have hS := hS.below B14
      refine s_end ⟨hS, ?_⟩
      refine d_one 10 (some 36) (Go.Op.call (Go.Call.mk (Go.Callee.value (Go.Operand.func 17)) #[(Go.Operand.tmp 35)] #[24])) (by kernel_rfl) (by kernel_rfl) fun ty pos af => ?_
      refine s_callB [_] hF (enters_of Tryd.func17 (by kernel_rfl) rfl) rfl (by decide) (root17 N (ls.take (halfL ls.length)) _ w13 (by rw [List.length_take]; omega) ((hM.below hB).upto (halfL ls.length) (by omega)) (by rw [List.length_take]; omega) (fun s hx => hs s (List.mem_of_mem_take hx)) (hT.old hB)) fun w15 a B16 hF => ?_
      have sB16 := B16.size
      have hB := hB.trans (B16.mono hB.size)
      have hO := own_below hO B16
      have hS := hS.below B16
      refine s_end ⟨hS, ?_⟩
      refine d_one 11 (some 37) (Go.Op.buildSlice 33 1 #[(0, (Go.Operand.tmp 36))]) (by kernel_rfl) (by kernel_rfl) fun ty pos af => ?_
      refine s_litG [dig (rootF kTab N (ls.take (halfL ls.length)))] el33 hF (by decide) rfl (by simp [Value.cells, rootF_length]) rfl (by decide) (by decide) fun w17 bl a ebl ml B18 zbl hF => ?_
      have sB18 := B18.size
      have hB := hB.trans (B18.mono hB.size)
      have hO := own_below hO B18
      have hS := hS.below B18
      refine s_end ⟨hS, ?_⟩
      refine d_one 12 (some 38) (Go.Op.call (Go.Call.mk (Go.Callee.builtin Go.Builtin.append) #[(Go.Operand.tmp 32), (Go.Operand.tmp 37)] #[33, 33])) (by kernel_rfl) (by kernel_rfl) fun ty pos af => ?_
      have hpl := pathF_length kTab N (ls.drop (halfL ls.length)) (i - halfL ls.length)
      refine s_appG el33 hF (by decide) rfl rfl hO (Rd.blk (n := 1) (k := 32) ml (by simp [Value.cells, rootF_length])) (one_dig _) (by omega) (by unfold maxLen; omega) (by omega) fun v2 w19 a hO2 g2 hw2 hF => ?_
      have hB := hB.trans (grown_below g2 hB.size (fun k hk => by have := (hO.lt k hk).1; omega))
      have hS := hS.grown g2 (fun k hk => .inr (by have := (hO.lt k hk).1; omega))
      have hO := OwD.app hO2
      refine s_end ⟨hS, ?_⟩
      refine d_val 13 4 (op := (Go.Op.assign (Go.Operand.tmp 38))) hF hS (by kernel_rfl) (fun W hW => x_assign rfl) (by kernel_rfl) (by decide) fun a hF => ?_
      refine d_end (by kernel_rfl) (hK9 _ _ ?_)
      refine wp_ret (res_slot hF rfl rfl ⟨_, rfl, by rw [pathF, if_neg hl2, if_neg hc14]; exact OwD.base hO (by omega), hB⟩)

set_option maxRecDepth 100000 in
set_option maxHeartbeats 1600000 in
theorem rpath20 : ∀ (N : Nat) (ls : List (List UInt8)) (i : Nat) (v : Value) (w0 : World), ls.length < N → i < ls.length → RM w0 v ls → N ≤ 4096 → (∀ s ∈ ls, s.length ≤ 200) →
    Calls Tryd.prog 20 #[v, .int .i64 (i : Int)] w0 fun e w' => ∃ v', e = .returned v' ∧ OwD w0.heap.size w' v' (pathF kTab N ls i) ∧ Below w0.heap.size w0 w' := by
  intro N
  induction N with
  | zero => intro ls i v w0 h; omega
  | succ N ih =>
  intro ls i v w0 hN hi hM hn hs
  obtain ⟨av, cv, rfl, hcv⟩ := hM.form
  have hB := Below.refl w0.heap.size w0
  have sB := hB.size
  refine calls_fs 39 [(0, .slice av ls.length cv), (1, .int .i64 (i : Int))] Tryd.func20 rfl rfl rfl rfl rfl fun a hF => ?_
  refine wp_rs fun K1 hK1 => ?_
  refine s_val hF (x_assign rfl) (by decide) fun a hF => ?_
  refine s_end (hK1 _ _ ?_)
  refine wp_seq_k fun K2 hK2 => ?_
  refine wp_rs fun K3 hK3 => ?_
  refine s_val hF (x_move rfl) (by decide) fun a hF => ?_
  refine s_val hF (x_len Tryd.underlying24 rfl) (by decide) fun a hF => ?_
  refine s_val hF (x_lss (b := decide (ls.length < 2)) (decide_eq_decide.2 (by omega)) rfl rfl) (by decide) fun a hF => ?_
  refine s_end (hK3 _ _ ?_)
  refine wp_iff hF rfl (fun hc8 => ?_) (fun hc8 => ?_)
  · refine wp_rs fun K4 hK4 => ?_
    refine s_val hF (x_assign rfl) (by decide) fun a hF => ?_
    refine s_end (hK4 _ _ ?_)
    refine wp_ret (then_ret (res_slot hF rfl rfl ⟨_, rfl, by rw [pathF, if_pos (by omega)]; exact World.ownsRow_nil _ _ _ _, hB⟩))
  · refine wp_skip (hK2 _ _ ?_)
    refine wp_rs fun K5 hK5 => ?_
    refine s_val hF (x_move rfl) (by decide) fun a hF => ?_
    refine s_val hF (x_len Tryd.underlying24 rfl) (by decide) fun a hF => ?_
    refine s_callS [.int .i64 (ls.length : Int)] hF (enters_of Tryd.func28 (by kernel_rfl) rfl) rfl (by decide) (half28 ls.length (by omega) (by omega) _) fun a hF => ?_
    have hk1 := halfL_lt (n := ls.length) (by omega)
    have hk0 := halfL_pos ls.length
    have hl2 : ¬ ls.length < 2 := by omega
    refine s_val hF (x_assign rfl) (by decide) fun a hF => ?_
    refine s_end (hK5 _ _ ?_)
    refine wp_seq_k fun K6 hK6 => ?_
    refine wp_rs fun K7 hK7 => ?_
    refine s_val hF (x_move rfl) (by decide) fun a hF => ?_
    refine s_val hF (x_move rfl) (by decide) fun a hF => ?_
    refine s_val hF (x_lss (b := decide (i < halfL ls.length)) (decide_eq_decide.2 (by omega)) rfl rfl) (by decide) fun a hF => ?_
    refine s_end (hK7 _ _ ?_)
    refine wp_iff hF rfl (fun hc14 => ?_) (fun hc14 => ?_)
    · refine dk_seq (w0.heap.size) (ops := regOps Tryd.f20 5) (N := 12) (by kernel_rfl) wide_orders (by kernel_rfl) fun w2 hw2 B3 hS K8 hK8 => ?_
      have zw2 : w2.heap.size = w0.heap.size := by rw [hw2]
      have sB3 := B3.size
      have hB := hB.trans (B3.mono hB.size)
      have hB_d := hB
      refine d_val 0 15 (op := (Go.Op.move (Go.Operand.tmp 0))) hF hS (by kernel_rfl) (fun W hW => x_move rfl) (by kernel_rfl) (by decide) fun a hF => ?_
      refine d_val 1 16 (op := (Go.Op.move (Go.Operand.tmp 5))) hF hS (by kernel_rfl) (fun W hW => x_move rfl) (by kernel_rfl) (by decide) fun a hF => ?_
      refine d_val 2 17 (op := (Go.Op.slice 24 (Go.Operand.tmp 15) none (some (Go.Operand.tmp 16)) none)) hF hS (by kernel_rfl) (fun W hW => x_slice (vlo := none) (vhi := some (.int .i64 (halfL ls.length : Int))) (vmx := none) rfl rfl rfl rfl (m_sliceUK (halfL ls.length) Tryd.underlying24 el24.size rfl (by omega))) (by kernel_rfl) (by decide) fun a hF => ?_
      refine d_val 3 18 (op := (Go.Op.move (Go.Operand.tmp 1))) hF hS (by kernel_rfl) (fun W hW => x_move rfl) (by kernel_rfl) (by decide) fun a hF => ?_
      refine d_val 5 20 (op := (Go.Op.move (Go.Operand.tmp 0))) hF hS (by kernel_rfl) (fun W hW => x_move rfl) (by kernel_rfl) (by decide) fun a hF => ?_
      refine d_val 6 21 (op := (Go.Op.move (Go.Operand.tmp 5))) hF hS (by kernel_rfl) (fun W hW => x_move rfl) (by kernel_rfl) (by decide) fun a hF => ?_
      refine d_val 7 22 (op := (Go.Op.slice 24 (Go.Operand.tmp 20) (some (Go.Operand.tmp 21)) none none)) hF hS (by kernel_rfl) (fun W hW => x_slice (vlo := some (.int .i64 (halfL ls.length : Int))) (vhi := none) (vmx := none) rfl rfl rfl rfl (m_sliceFK (halfL ls.length) Tryd.underlying24 el24.size rfl (by omega))) (by kernel_rfl) (by decide) fun a hF => ?_
      refine d_one 4 (some 19) (Go.Op.call (Go.Call.mk (Go.Callee.value (Go.Operand.func 20)) #[(Go.Operand.tmp 17), (Go.Operand.tmp 18)] #[24, 3])) (by kernel_rfl) (by kernel_rfl) fun ty pos af => ?_
      refine s_callR (R := fun v w' => OwD w2.heap.size w' v (pathF kTab N (ls.take (halfL ls.length)) (i))) [_, .int .i64 ((i : Nat) : Int)] hF (enters_of Tryd.func20 (by kernel_rfl) rfl) rfl (by decide) (ih (ls.take (halfL ls.length)) (i) _ w2 (by rw [List.length_take]; omega) (by rw [List.length_take]; omega) ((hM.below hB).upto (halfL ls.length) (by omega)) (by omega) (fun s hx => hs s (List.mem_of_mem_take hx))) ?_
      rintro vp w4 a hO B5 hF
      have sB5 := B5.size
      have hB := hB.trans (B5.mono hB.size)
      have hS := hS.below B5
      refine s_end ⟨hS, ?_⟩
      refine d_one 8 (some 23) (Go.Op.call (Go.Call.mk (Go.Callee.value (Go.Operand.func 18)) #[(Go.Operand.tmp 22)] #[24])) (by kernel_rfl) (by kernel_rfl) fun ty pos af => ?_
      refine s_callB [_] hF (enters_of Tryd.func18 (by kernel_rfl) rfl) rfl (by decide) (rroot18 N (ls.drop (halfL ls.length)) _ w4 (by rw [List.length_drop]; omega) ((hM.below hB).from (halfL ls.length) (by omega)) (by rw [List.length_drop]; omega) (fun s hx => hs s (List.mem_of_mem_drop hx))) fun w6 a B7 hF => ?_
      have sB7 := B7.size
      have hB := hB.trans (B7.mono hB.size)
      have hO := own_below hO B7
      have hS := hS.below B7
      refine s_end ⟨hS, ?_⟩
      refine d_one 9 (some 24) (Go.Op.buildSlice 33 1 #[(0, (Go.Operand.tmp 23))]) (by kernel_rfl) (by kernel_rfl) fun ty pos af => ?_
      refine s_litG [dig (rootF kTab N (ls.drop (halfL ls.length)))] el33 hF (by decide) rfl (by simp [Value.cells, rootF_length]) rfl (by decide) (by decide) fun w8 bl a ebl ml B9 zbl hF => ?_
      have sB9 := B9.size
      have hB := hB.trans (B9.mono hB.size)
      have hO := own_below hO B9
      have hS := hS.below B9
      refine s_end ⟨hS, ?_⟩
      refine d_one 10 (some 25) (Go.Op.call (Go.Call.mk (Go.Callee.builtin Go.Builtin.append) #[(Go.Operand.tmp 19), (Go.Operand.tmp 24)] #[33, 33])) (by kernel_rfl) (by kernel_rfl) fun ty pos af => ?_
      have hpl := pathF_length kTab N (ls.take (halfL ls.length)) i
      refine s_appG el33 hF (by decide) rfl rfl hO (Rd.blk (n := 1) (k := 32) ml (by simp [Value.cells, rootF_length])) (one_dig _) (by omega) (by unfold maxLen; omega) (by omega) fun v2 w10 a hO2 g2 hw2 hF => ?_
      have hB := hB.trans (grown_below g2 hB.size (fun k hk => by have := (hO.lt k hk).1; omega))
      have hS := hS.grown g2 (fun k hk => .inr (by have := (hO.lt k hk).1; omega))
      have hO := OwD.app hO2
      refine s_end ⟨hS, ?_⟩
      refine d_val 11 4 (op := (Go.Op.assign (Go.Operand.tmp 25))) hF hS (by kernel_rfl) (fun W hW => x_assign rfl) (by kernel_rfl) (by decide) fun a hF => ?_
      refine d_end (by kernel_rfl) (hK8 _ _ ?_)
      refine wp_ret (then_ret (res_slot hF rfl rfl ⟨_, rfl, by rw [pathF, if_neg hl2, if_pos hc14]; exact OwD.base hO (by omega), hB⟩))
    · refine wp_skip (hK6 _ _ ?_)
      refine dk_seq (w0.heap.size) (ops := regOps Tryd.f20 6) (N := 14) (by kernel_rfl) wide_orders (by kernel_rfl) fun w11 hw11 B12 hS K9 hK9 => ?_
      have zw11 : w11.heap.size = w0.heap.size := by rw [hw11]
      have sB12 := B12.size
      have hB := hB.trans (B12.mono hB.size)
      have hB_d := hB
      refine d_val 0 26 (op := (Go.Op.move (Go.Operand.tmp 0))) hF hS (by kernel_rfl) (fun W hW => x_move rfl) (by kernel_rfl) (by decide) fun a hF => ?_
      refine d_val 1 27 (op := (Go.Op.move (Go.Operand.tmp 5))) hF hS (by kernel_rfl) (fun W hW => x_move rfl) (by kernel_rfl) (by decide) fun a hF => ?_
      refine d_val 2 28 (op := (Go.Op.slice 24 (Go.Operand.tmp 26) (some (Go.Operand.tmp 27)) none none)) hF hS (by kernel_rfl) (fun W hW => x_slice (vlo := some (.int .i64 (halfL ls.length : Int))) (vhi := none) (vmx := none) rfl rfl rfl rfl (m_sliceFK (halfL ls.length) Tryd.underlying24 el24.size rfl (by omega))) (by kernel_rfl) (by decide) fun a hF => ?_
      refine d_val 3 29 (op := (Go.Op.move (Go.Operand.tmp 1))) hF hS (by kernel_rfl) (fun W hW => x_move rfl) (by kernel_rfl) (by decide) fun a hF => ?_
      refine d_val 4 30 (op := (Go.Op.move (Go.Operand.tmp 5))) hF hS (by kernel_rfl) (fun W hW => x_move rfl) (by kernel_rfl) (by decide) fun a hF => ?_
      refine d_val 5 31 (op := (Go.Op.binOp Go.BinOp.sub 3 (Go.Operand.tmp 29) (Go.Operand.tmp 30) 3)) hF hS (by kernel_rfl) (fun W hW => x_subn (i - halfL ls.length) (by omega) (by omega) rfl rfl) (by kernel_rfl) (by decide) fun a hF => ?_
      refine d_val 7 33 (op := (Go.Op.move (Go.Operand.tmp 0))) hF hS (by kernel_rfl) (fun W hW => x_move rfl) (by kernel_rfl) (by decide) fun a hF => ?_
      refine d_val 8 34 (op := (Go.Op.move (Go.Operand.tmp 5))) hF hS (by kernel_rfl) (fun W hW => x_move rfl) (by kernel_rfl) (by decide) fun a hF => ?_
      refine d_val 9 35 (op := (Go.Op.slice 24 (Go.Operand.tmp 33) none (some (Go.Operand.tmp 34)) none)) hF hS (by kernel_rfl) (fun W hW => x_slice (vlo := none) (vhi := some (.int .i64 (halfL ls.length : Int))) (vmx := none) rfl rfl rfl rfl (m_sliceUK (halfL ls.length) Tryd.underlying24 el24.size rfl (by omega))) (by kernel_rfl) (by decide) fun a hF => ?_
      refine d_one 6 (some 32) (Go.Op.call (Go.Call.mk (Go.Callee.value (Go.Operand.func 20)) #[(Go.Operand.tmp 28), (Go.Operand.tmp 31)] #[24, 3])) (by kernel_rfl) (by kernel_rfl) fun ty pos af => ?_
      refine s_callR (R := fun v w' => OwD w11.heap.size w' v (pathF kTab N (ls.drop (halfL ls.length)) (i - halfL ls.length))) [_, .int .i64 ((i - halfL ls.length : Nat) : Int)] hF (enters_of Tryd.func20 (by kernel_rfl) rfl) rfl (by decide) (ih (ls.drop (halfL ls.length)) (i - halfL ls.length) _ w11 (by rw [List.length_drop]; omega) (by rw [List.length_drop]; omega) ((hM.below hB).from (halfL ls.length) (by omega)) (by omega) (fun s hx => hs s (List.mem_of_mem_drop hx))) ?_
      rintro vp w13 a hO B14 hF
      have sB14 := B14.size
      have hB := hB.trans (B14.mono hB.size)
      have hS := hS.below B14
      refine s_end ⟨hS, ?_⟩
      refine d_one 10 (some 36) (Go.Op.call (Go.Call.mk (Go.Callee.value (Go.Operand.func 18)) #[(Go.Operand.tmp 35)] #[24])) (by kernel_rfl) (by kernel_rfl) fun ty pos af => ?_
      refine s_callB [_] hF (enters_of Tryd.func18 (by kernel_rfl) rfl) rfl (by decide) (rroot18 N (ls.take (halfL ls.length)) _ w13 (by rw [List.length_take]; omega) ((hM.below hB).upto (halfL ls.length) (by omega)) (by rw [List.length_take]; omega) (fun s hx => hs s (List.mem_of_mem_take hx))) fun w15 a B16 hF => ?_
      have sB16 := B16.size
      have hB := hB.trans (B16.mono hB.size)
      have hO := own_below hO B16
      have hS := hS.below B16
      refine s_end ⟨hS, ?_⟩
      refine d_one 11 (some 37) (Go.Op.buildSlice 33 1 #[(0, (Go.Operand.tmp 36))]) (by kernel_rfl) (by kernel_rfl) fun ty pos af => ?_
      refine s_litG [dig (rootF kTab N (ls.take (halfL ls.length)))] el33 hF (by decide) rfl (by simp [Value.cells, rootF_length]) rfl (by decide) (by decide) fun w17 bl a ebl ml B18 zbl hF => ?_
      have sB18 := B18.size
      have hB := hB.trans (B18.mono hB.size)
      have hO := own_below hO B18
      have hS := hS.below B18
      refine s_end ⟨hS, ?_⟩
      refine d_one 12 (some 38) (Go.Op.call (Go.Call.mk (Go.Callee.builtin Go.Builtin.append) #[(Go.Operand.tmp 32), (Go.Operand.tmp 37)] #[33, 33])) (by kernel_rfl) (by kernel_rfl) fun ty pos af => ?_
      have hpl := pathF_length kTab N (ls.drop (halfL ls.length)) (i - halfL ls.length)
      refine s_appG el33 hF (by decide) rfl rfl hO (Rd.blk (n := 1) (k := 32) ml (by simp [Value.cells, rootF_length])) (one_dig _) (by omega) (by unfold maxLen; omega) (by omega) fun v2 w19 a hO2 g2 hw2 hF => ?_
      have hB := hB.trans (grown_below g2 hB.size (fun k hk => by have := (hO.lt k hk).1; omega))
      have hS := hS.grown g2 (fun k hk => .inr (by have := (hO.lt k hk).1; omega))
      have hO := OwD.app hO2
      refine s_end ⟨hS, ?_⟩
      refine d_val 13 4 (op := (Go.Op.assign (Go.Operand.tmp 38))) hF hS (by kernel_rfl) (fun W hW => x_assign rfl) (by kernel_rfl) (by decide) fun a hF => ?_
      refine d_end (by kernel_rfl) (hK9 _ _ ?_)
      refine wp_ret (res_slot hF rfl rfl ⟨_, rfl, by rw [pathF, if_neg hl2, if_neg hc14]; exact OwD.base hO (by omega), hB⟩)

theorem path16y (ls : List (List UInt8)) (i : Nat) (v : Value) (w0 : World) (hM : RM w0 v ls) (hi : i < ls.length) (hn : ls.length ≤ 40) (hs : ∀ s ∈ ls, s.length ≤ 200) (hT : Tab w0) :
    Calls Tryd.prog 16 #[v, .int .i64 (i : Int)] w0 fun e w' => ∃ v', e = .returned v' ∧ (∃ vp, v' = .tuple #[vp, .int .i64 0] ∧ OwD w0.heap.size w' vp (pathF kTab 41 ls i)) ∧ Below w0.heap.size w0 w' := by
  obtain ⟨av, cv, rfl, hcv⟩ := hM.form
  have hB := Below.refl w0.heap.size w0
  have sB := hB.size
  refine calls_fs 14 [(0, .slice av ls.length cv), (1, .int .i64 (i : Int))] Tryd.func16 rfl rfl rfl rfl rfl fun a hF => ?_
  refine wp_rs fun K1 hK1 => ?_
  refine s_val hF (x_assign rfl) (by decide) fun a hF => ?_
  refine s_val hF (x_assign rfl) (by decide) fun a hF => ?_
  refine s_end (hK1 _ _ ?_)
  refine wp_seq_k fun K2 hK2 => ?_
  refine wp_rs fun K3 hK3 => ?_
  refine s_val hF (x_move rfl) (by decide) fun a hF => ?_
  refine s_val hF (x_move rfl) (by decide) fun a hF => ?_
  refine s_val hF (x_len Tryd.underlying24 rfl) (by decide) fun a hF => ?_
  refine s_callS [.int .i64 (i : Int), .int .i64 (ls.length : Int)] hF (enters_of Tryd.func25 (by kernel_rfl) rfl) rfl (by decide) (isPlace25 _ _ _) fun a hF => ?_
  rw [decide_eq_true (show 0 ≤ (i : Int) ∧ (i : Int) < (ls.length : Int) by omega)] at hF
  refine s_val hF (x_not rfl) (by decide) fun a hF => ?_
  refine s_end (hK3 _ _ ?_)
  refine wp_if hF rfl ?_
  refine wp_skip (hK2 _ _ ?_)
  refine wp_rs fun K4 hK4 => ?_
  refine s_val hF (x_move rfl) (by decide) fun a hF => ?_
  refine s_val hF (x_move rfl) (by decide) fun a hF => ?_
  refine s_callR (R := fun v w' => OwD w0.heap.size w' v (pathF kTab 41 ls i)) [_, .int .i64 (i : Int)] hF (enters_of Tryd.func26 (by kernel_rfl) rfl) rfl (by decide) (upward26 41 ls i _ w0 (by omega) hi (hM.below hB) (by omega) hs (hT.old hB)) ?_
  rintro vp w2 a hO B3 hF
  have sB3 := B3.size
  have hB := hB.trans (B3.mono hB.size)
  refine s_val hF (x_assign rfl) (by decide) fun a hF => ?_
  refine s_val hF (x_assign rfl) (by decide) fun a hF => ?_
  refine s_end (hK4 _ _ ?_)
  refine wp_ret (res_two hF rfl rfl rfl ⟨_, rfl, ⟨_, rfl, hO⟩, hB⟩)

theorem path16n (ls : List (List UInt8)) (i : Int) (v : Value) (w0 : World) (hM : RM w0 v ls) (hi : ¬ (0 ≤ i ∧ i < (ls.length : Int))) :
    Calls Tryd.prog 16 #[v, .int .i64 i] w0 fun e w' => e = .returned (.tuple #[.slice none 0 0, .int .i64 1]) ∧ Below w0.heap.size w0 w' := by
  obtain ⟨av, cv, rfl, hcv⟩ := hM.form
  have hB := Below.refl w0.heap.size w0
  refine calls_fs 14 [(0, .slice av ls.length cv), (1, .int .i64 i)] Tryd.func16 rfl rfl rfl rfl rfl fun a hF => ?_
  refine wp_rs fun K1 hK1 => ?_
  refine s_val hF (x_assign rfl) (by decide) fun a hF => ?_
  refine s_val hF (x_assign rfl) (by decide) fun a hF => ?_
  refine s_end (hK1 _ _ ?_)
  refine wp_seq_k fun K2 hK2 => ?_
  refine wp_rs fun K3 hK3 => ?_
  refine s_val hF (x_move rfl) (by decide) fun a hF => ?_
  refine s_val hF (x_move rfl) (by decide) fun a hF => ?_
  refine s_val hF (x_len Tryd.underlying24 rfl) (by decide) fun a hF => ?_
  refine s_callS [.int .i64 i, .int .i64 (ls.length : Int)] hF (enters_of Tryd.func25 (by kernel_rfl) rfl) rfl (by decide) (isPlace25 _ _ _) fun a hF => ?_
  rw [decide_eq_false hi] at hF
  refine s_val hF (x_not rfl) (by decide) fun a hF => ?_
  refine s_end (hK3 _ _ ?_)
  refine wp_if hF rfl ?_
  refine wp_rs fun K4 hK4 => ?_
  refine s_val hF (x_assign rfl) (by decide) fun a hF => ?_
  refine s_val hF (x_assign rfl) (by decide) fun a hF => ?_
  refine s_end (hK4 _ _ ?_)
  refine wp_ret (then_ret (res_two hF rfl rfl rfl ⟨rfl, hB⟩))

set_option maxRecDepth 100000 in
theorem same19 (ps : List (List UInt8)) (va vb : Value) (w0 : World) (ha : RD w0 va ps) (hb : RD w0 vb ps) (hn : ps.length ≤ 9223372036854775807) :
    Calls Tryd.prog 19 #[va, vb] w0 fun e w' => e = .returned (.bool true) ∧ Below w0.heap.size w0 w' := by
  obtain ⟨aa, ca, rfl, _⟩ := ha.form
  obtain ⟨ab, cb, rfl, _⟩ := hb.form
  have hB := Below.refl w0.heap.size w0
  refine calls_fs 26 [(0, .slice aa ps.length ca), (1, .slice ab ps.length cb)] Tryd.func19 rfl rfl rfl rfl rfl fun a hF => ?_
  refine wp_rs fun K1 hK1 => ?_
  refine s_val hF (x_assign rfl) (by decide) fun a hF => ?_
  refine s_end (hK1 _ _ ?_)
  refine wp_seq_k fun K2 hK2 => ?_
  refine wp_rs fun K3 hK3 => ?_
  refine s_val hF (x_move rfl) (by decide) fun a hF => ?_
  refine s_val hF (x_len Tryd.underlying33 rfl) (by decide) fun a hF => ?_
  refine s_val hF (x_move rfl) (by decide) fun a hF => ?_
  refine s_val hF (x_len Tryd.underlying33 rfl) (by decide) fun a hF => ?_
  refine s_val hF (x_neq (b := false) (decide_eq_false (by simp)) rfl rfl) (by decide) fun a hF => ?_
  refine s_end (hK3 _ _ ?_)
  refine wp_if hF rfl ?_
  refine wp_skip (hK2 _ _ ?_)
  refine wp_seq_k fun K4 hK4 => ?_
  refine wp_rs fun K5 hK5 => ?_
  refine s_val hF (x_move rfl) (by decide) fun a hF => ?_
  refine s_val hF (x_len Tryd.underlying33 rfl) (by decide) fun a hF => ?_
  refine s_val hF (x_move rfl) (by decide) fun a hF => ?_
  refine s_end (hK5 _ _ ?_)
  refine wp_block ?_
  refine wp_up ps.length (fun i a w => Below w0.heap.size w0 w ∧ Fs 26 a [(13, .int .i64 (i : Int)), (12, .int .i64 (ps.length : Int)), (0, .slice aa ps.length ca), (1, .slice ab ps.length cb)]) ⟨hB, hF.sub _ rfl⟩ ?_
  clear hF hB
  rintro i a w hi ⟨hB, hF⟩ K' hK'
  have sB := hB.size
  refine wp_rs fun K6 hK6 => ?_
  refine s_val hF (x_lss rfl rfl rfl) (by decide) fun a hF => ?_
  refine s_end (hK6 _ _ ?_)
  refine wp_seq_k fun K7 hK7 => ?_
  refine wp_iff hF rfl (fun hc14 => ?_) (fun hc14 => ?_)
  · obtain ⟨b1, o1, c1, e1, _⟩ := ha.some (by omega)
    cases e1
    obtain ⟨b2, o2, c2, e2, _⟩ := hb.some (by omega)
    cases e2
    refine wp_skip (hK7 _ _ ?_)
    refine wp_seq_k fun K8 hK8 => ?_
    refine wp_block ?_
    refine wp_rs fun K9 hK9 => ?_
    refine s_val hF (x_move rfl) (by decide) fun a hF => ?_
    refine s_val hF (x_assign rfl) (by decide) fun a hF => ?_
    refine s_end (hK9 _ _ ?_)
    refine dk_seq (w.heap.size) (ops := regOps Tryd.f19 6) (N := 9) (by kernel_rfl) wide_orders (by kernel_rfl) fun w2 hw2 B3 hS K10 hK10 => ?_
    have zw2 : w2.heap.size = w.heap.size := by rw [hw2]
    have sB3 := B3.size
    have hB := hB.trans (B3.mono hB.size)
    have hB_d := hB
    refine d_val 0 16 (op := (Go.Op.move (Go.Operand.tmp 0))) hF hS (by kernel_rfl) (fun W hW => x_move rfl) (by kernel_rfl) (by decide) fun a hF => ?_
    refine d_val 1 17 (op := (Go.Op.move (Go.Operand.tmp 5))) hF hS (by kernel_rfl) (fun W hW => x_move rfl) (by kernel_rfl) (by decide) fun a hF => ?_
    refine d_val 2 18 (op := (Go.Op.indexAddr 33 (Go.Operand.tmp 16) (Go.Operand.tmp 17))) hF hS (by kernel_rfl) (fun W hW => x_ixa rfl rfl (m_ixsK i Tryd.underlying33 el33.size rfl (by omega))) (by kernel_rfl) (by decide) fun a hF => ?_
    refine d_val 3 19 (op := (Go.Op.load 23 (Go.Operand.tmp 18))) hF hS (by kernel_rfl) (fun W hW => (ha.below (hW.under hB_d (by omega))).load (j := i) (by omega) rfl) (by kernel_rfl) (by decide) fun a hF => ?_
    refine d_val 4 20 (op := (Go.Op.move (Go.Operand.tmp 1))) hF hS (by kernel_rfl) (fun W hW => x_move rfl) (by kernel_rfl) (by decide) fun a hF => ?_
    refine d_val 5 21 (op := (Go.Op.move (Go.Operand.tmp 5))) hF hS (by kernel_rfl) (fun W hW => x_move rfl) (by kernel_rfl) (by decide) fun a hF => ?_
    refine d_val 6 22 (op := (Go.Op.indexAddr 33 (Go.Operand.tmp 20) (Go.Operand.tmp 21))) hF hS (by kernel_rfl) (fun W hW => x_ixa rfl rfl (m_ixsK i Tryd.underlying33 el33.size rfl (by omega))) (by kernel_rfl) (by decide) fun a hF => ?_
    refine d_val 7 23 (op := (Go.Op.load 23 (Go.Operand.tmp 22))) hF hS (by kernel_rfl) (fun W hW => (hb.below (hW.under hB_d (by omega))).load (j := i) (by omega) rfl) (by kernel_rfl) (by decide) fun a hF => ?_
    refine d_val 8 24 (op := (Go.Op.binOp Go.BinOp.neq 23 (Go.Operand.tmp 19) (Go.Operand.tmp 23) 23)) hF hS (by kernel_rfl) (fun W hW => x_neD (b := false) (getD_mem32 ha.2 (by omega)) (getD_mem32 ha.2 (by omega)) (by simp) rfl rfl) (by kernel_rfl) (by decide) fun a hF => ?_
    refine d_end (by kernel_rfl) (hK10 _ _ ?_)
    refine wp_if hF rfl ?_
    refine wp_skip (hK8 _ _ ?_)
    refine wp_region_lit ?_
    refine s_val hF (x_addn (i + 1) (by omega) (by omega) rfl rfl) (by decide) fun a hF => ?_
    refine s_val hF (x_move rfl) (by decide) fun a hF => ?_
    refine s_end (hK' _ _ (by omega) ⟨hB, hF.sub _ rfl⟩)
  · refine wp_exit (hK4 _ _ ?_)
    refine wp_rs fun K11 hK11 => ?_
    refine s_val hF (x_assign rfl) (by decide) fun a hF => ?_
    refine s_end (hK11 _ _ ?_)
    refine wp_ret (res_slot hF rfl rfl ⟨rfl, hB⟩)

set_option maxRecDepth 100000 in
set_option maxHeartbeats 1600000 in
theorem chainRoots_walk (ls : List (List UInt8)) (v : Value) (i : Int) (w0 : World) (hM : RM w0 v ls) (hn : ls.length ≤ 9223372036854775807) (hT : Tab w0) :
    Calls Tryd.prog 4 #[v, .int .i64 i] w0 fun e w' => e = .returned (.bool true) ∧ Below w0.heap.size w0 w' := by
  obtain ⟨av, cv, rfl, _⟩ := hM.form
  have hB := Below.refl w0.heap.size w0
  have sB := hB.size
  refine calls_fs 59 [(0, .slice av ls.length cv), (1, .int .i64 i)] Tryd.func4 rfl rfl rfl rfl rfl fun a hF => ?_
  refine wp_rs fun K1 hK1 => ?_
  refine s_val hF (x_assign rfl) (by decide) fun a hF => ?_
  refine s_end (hK1 _ _ ?_)
  refine wp_rs fun K2 hK2 => ?_
  refine s_val hF (x_move rfl) (by decide) fun a hF => ?_
  refine s_callR (R := fun v w' => RM w' v (fewL ls)) [_] hF (enters_of Tryd.func6 (by kernel_rfl) rfl) rfl (by decide) (few6 ls _ w0 (hM.below hB) (by omega)) ?_
  rintro vf w2 a hMf B3 hF
  have sB3 := B3.size
  have hB := hB.trans (B3.mono hB.size)
  obtain ⟨af, cf, rfl, _⟩ := hMf.form
  have hBf := Below.refl w2.heap.size w2
  have hfl := fewL_le ls
  refine s_val hF (x_assign rfl) (by decide) fun a hF => ?_
  refine s_end (hK2 _ _ ?_)
  rcases (show i < 0 ∨ (0 ≤ i ∧ ((fewL ls).length : Int) ≤ i) ∨ (0 ≤ i ∧ i < ((fewL ls).length : Int)) by omega) with hp | hp | hp
  · refine wp_rs fun K4 hK4 => ?_
    refine s_val hF (x_move rfl) (by decide) fun a hF => ?_
    refine s_val hF (x_move rfl) (by decide) fun a hF => ?_
    refine s_callB [_, .int .i64 i] hF (enters_of Tryd.func16 (by kernel_rfl) rfl) rfl (by decide) (path16n (fewL ls) i _ w2 (hMf.below hBf) (by omega)) fun w4 a B5 hF => ?_
    have sB5 := B5.size
    have hB := hB.trans (B5.mono hB.size)
    have hBf := hBf.trans (B5.mono hBf.size)
    refine s_val hF (x_move rfl) (by decide) fun a hF => ?_
    refine s_val hF (x_ext rfl rfl) (by decide) fun a hF => ?_
    refine s_val hF (x_ext rfl rfl) (by decide) fun a hF => ?_
    refine s_val hF (x_assign rfl) (by decide) fun a hF => ?_
    refine s_val hF (x_assign rfl) (by decide) fun a hF => ?_
    refine s_end (hK4 _ _ ?_)
    refine wp_seq_k fun K5 hK5 => ?_
    refine wp_rs fun K6 hK6 => ?_
    refine s_val hF (x_move rfl) (by decide) fun a hF => ?_
    refine s_val hF (x_lss (b := true) (decide_eq_true (by omega)) rfl rfl) (by decide) fun a hF => ?_
    refine s_val hF (x_move rfl) (by decide) fun a hF => ?_
    refine s_grdn 17 hF rfl rfl (by decide) fun a hF => ?_
    refine s_grdn 17 hF rfl rfl (by decide) fun a hF => ?_
    refine s_grdn 17 hF rfl rfl (by decide) fun a hF => ?_
    refine s_grdn 17 hF rfl rfl (by decide) fun a hF => ?_
    refine s_val hF (x_pick (b := true) rfl rfl) (by decide) fun a hF => ?_
    refine s_end (hK6 _ _ ?_)
    refine wp_if hF rfl ?_
    refine wp_rs fun K7 hK7 => ?_
    refine s_val hF (x_move rfl) (by decide) fun a hF => ?_
    refine s_val hF (x_eql (b := true) (decide_eq_true rfl) rfl rfl) (by decide) fun a hF => ?_
    refine s_val hF (x_move rfl) (by decide) fun a hF => ?_
    refine s_grd 25 hF rfl rfl rfl ?_
    refine s_val hF (x_move rfl) (by decide) fun a hF => ?_
    refine s_grd 25 hF rfl rfl rfl ?_
    refine s_val hF (x_len (m := 0) Tryd.underlying33 rfl) (by decide) fun a hF => ?_
    refine s_grd 25 hF rfl rfl rfl ?_
    refine s_val hF (x_eql (b := true) (decide_eq_true rfl) rfl rfl) (by decide) fun a hF => ?_
    refine s_val hF (x_pick rfl rfl) (by decide) fun a hF => ?_
    refine s_val hF (x_move rfl) (by decide) fun a hF => ?_
    refine s_grd 30 hF rfl rfl rfl ?_
    refine s_val hF (x_move rfl) (by decide) fun a hF => ?_
    refine s_grd 30 hF rfl rfl rfl ?_
    refine s_callB [_] hF (enters_of Tryd.func17 (by kernel_rfl) rfl) rfl (by decide) (root17 41 (fewL ls) _ w4 (by omega) (hMf.below hBf) (by omega) (fewL_in ls) (hT.old hB)) fun w6 a B7 hF => ?_
    have sB7 := B7.size
    have hB := hB.trans (B7.mono hB.size)
    have hBf := hBf.trans (B7.mono hBf.size)
    refine s_grd 30 hF rfl rfl rfl ?_
    refine s_val hF (x_move rfl) (by decide) fun a hF => ?_
    refine s_grd 30 hF rfl rfl rfl ?_
    refine s_callB [_] hF (enters_of Tryd.func18 (by kernel_rfl) rfl) rfl (by decide) (rroot18 41 (fewL ls) _ w6 (by omega) (hMf.below hBf) (by omega) (fewL_in ls)) fun w8 a B9 hF => ?_
    have sB9 := B9.size
    have hB := hB.trans (B9.mono hB.size)
    have hBf := hBf.trans (B9.mono hBf.size)
    refine s_grd 30 hF rfl rfl rfl ?_
    refine s_val hF (x_eqDT (rootF_length _ _ _) rfl rfl rfl) (by decide) fun a hF => ?_
    refine s_val hF (x_pick rfl rfl) (by decide) fun a hF => ?_
    refine s_val hF (x_move rfl) (by decide) fun a hF => ?_
    refine s_grd 37 hF rfl rfl rfl ?_
    refine s_callB [] hF (enters_of Tryd.func15 (by kernel_rfl) rfl) rfl (by decide) (awake15 w8 (hT.old hB)) fun w10 a B11 hF => ?_
    have sB11 := B11.size
    have hB := hB.trans (B11.mono hB.size)
    have hBf := hBf.trans (B11.mono hBf.size)
    refine s_val hF (x_pick rfl rfl) (by decide) fun a hF => ?_
    refine s_val hF (x_assign rfl) (by decide) fun a hF => ?_
    refine s_end (hK7 _ _ ?_)
    refine wp_ret (then_ret (res_slot hF rfl rfl ⟨rfl, hB⟩))
  · refine wp_rs fun K8 hK8 => ?_
    refine s_val hF (x_move rfl) (by decide) fun a hF => ?_
    refine s_val hF (x_move rfl) (by decide) fun a hF => ?_
    refine s_callB [_, .int .i64 i] hF (enters_of Tryd.func16 (by kernel_rfl) rfl) rfl (by decide) (path16n (fewL ls) i _ w2 (hMf.below hBf) (by omega)) fun w12 a B13 hF => ?_
    have sB13 := B13.size
    have hB := hB.trans (B13.mono hB.size)
    have hBf := hBf.trans (B13.mono hBf.size)
    refine s_val hF (x_move rfl) (by decide) fun a hF => ?_
    refine s_val hF (x_ext rfl rfl) (by decide) fun a hF => ?_
    refine s_val hF (x_ext rfl rfl) (by decide) fun a hF => ?_
    refine s_val hF (x_assign rfl) (by decide) fun a hF => ?_
    refine s_val hF (x_assign rfl) (by decide) fun a hF => ?_
    refine s_end (hK8 _ _ ?_)
    refine wp_seq_k fun K9 hK9 => ?_
    refine wp_rs fun K10 hK10 => ?_
    refine s_val hF (x_move rfl) (by decide) fun a hF => ?_
    refine s_val hF (x_lss (b := false) (decide_eq_false (by omega)) rfl rfl) (by decide) fun a hF => ?_
    refine s_val hF (x_move rfl) (by decide) fun a hF => ?_
    refine s_grd 17 hF rfl rfl rfl ?_
    refine s_val hF (x_move rfl) (by decide) fun a hF => ?_
    refine s_grd 17 hF rfl rfl rfl ?_
    refine s_val hF (x_move rfl) (by decide) fun a hF => ?_
    refine s_grd 17 hF rfl rfl rfl ?_
    refine s_val hF (x_len Tryd.underlying24 rfl) (by decide) fun a hF => ?_
    refine s_grd 17 hF rfl rfl rfl ?_
    refine s_val hF (x_geq (b := true) (decide_eq_true (by omega)) rfl rfl) (by decide) fun a hF => ?_
    refine s_val hF (x_pick rfl rfl) (by decide) fun a hF => ?_
    refine s_end (hK10 _ _ ?_)
    refine wp_if hF rfl ?_
    refine wp_rs fun K11 hK11 => ?_
    refine s_val hF (x_move rfl) (by decide) fun a hF => ?_
    refine s_val hF (x_eql (b := true) (decide_eq_true rfl) rfl rfl) (by decide) fun a hF => ?_
    refine s_val hF (x_move rfl) (by decide) fun a hF => ?_
    refine s_grd 25 hF rfl rfl rfl ?_
    refine s_val hF (x_move rfl) (by decide) fun a hF => ?_
    refine s_grd 25 hF rfl rfl rfl ?_
    refine s_val hF (x_len (m := 0) Tryd.underlying33 rfl) (by decide) fun a hF => ?_
    refine s_grd 25 hF rfl rfl rfl ?_
    refine s_val hF (x_eql (b := true) (decide_eq_true rfl) rfl rfl) (by decide) fun a hF => ?_
    refine s_val hF (x_pick rfl rfl) (by decide) fun a hF => ?_
    refine s_val hF (x_move rfl) (by decide) fun a hF => ?_
    refine s_grd 30 hF rfl rfl rfl ?_
    refine s_val hF (x_move rfl) (by decide) fun a hF => ?_
    refine s_grd 30 hF rfl rfl rfl ?_
    refine s_callB [_] hF (enters_of Tryd.func17 (by kernel_rfl) rfl) rfl (by decide) (root17 41 (fewL ls) _ w12 (by omega) (hMf.below hBf) (by omega) (fewL_in ls) (hT.old hB)) fun w14 a B15 hF => ?_
    have sB15 := B15.size
    have hB := hB.trans (B15.mono hB.size)
    have hBf := hBf.trans (B15.mono hBf.size)
    refine s_grd 30 hF rfl rfl rfl ?_
    refine s_val hF (x_move rfl) (by decide) fun a hF => ?_
    refine s_grd 30 hF rfl rfl rfl ?_
    refine s_callB [_] hF (enters_of Tryd.func18 (by kernel_rfl) rfl) rfl (by decide) (rroot18 41 (fewL ls) _ w14 (by omega) (hMf.below hBf) (by omega) (fewL_in ls)) fun w16 a B17 hF => ?_
    have sB17 := B17.size
    have hB := hB.trans (B17.mono hB.size)
    have hBf := hBf.trans (B17.mono hBf.size)
    refine s_grd 30 hF rfl rfl rfl ?_
    refine s_val hF (x_eqDT (rootF_length _ _ _) rfl rfl rfl) (by decide) fun a hF => ?_
    refine s_val hF (x_pick rfl rfl) (by decide) fun a hF => ?_
    refine s_val hF (x_move rfl) (by decide) fun a hF => ?_
    refine s_grd 37 hF rfl rfl rfl ?_
    refine s_callB [] hF (enters_of Tryd.func15 (by kernel_rfl) rfl) rfl (by decide) (awake15 w16 (hT.old hB)) fun w18 a B19 hF => ?_
    have sB19 := B19.size
    have hB := hB.trans (B19.mono hB.size)
    have hBf := hBf.trans (B19.mono hBf.size)
    refine s_val hF (x_pick rfl rfl) (by decide) fun a hF => ?_
    refine s_val hF (x_assign rfl) (by decide) fun a hF => ?_
    refine s_end (hK11 _ _ ?_)
    refine wp_ret (then_ret (res_slot hF rfl rfl ⟨rfl, hB⟩))
  · obtain ⟨j, rfl⟩ : ∃ j : Nat, i = (j : Int) := ⟨i.toNat, by omega⟩
    refine wp_rs fun K12 hK12 => ?_
    refine s_val hF (x_move rfl) (by decide) fun a hF => ?_
    refine s_val hF (x_move rfl) (by decide) fun a hF => ?_
    refine s_callR (R := fun v w' => ∃ vp, v = .tuple #[vp, .int .i64 0] ∧ OwD w2.heap.size w' vp (pathF kTab 41 (fewL ls) j)) [_, .int .i64 (j : Int)] hF (enters_of Tryd.func16 (by kernel_rfl) rfl) rfl (by decide) (path16y (fewL ls) j _ w2 (hMf.below hBf) (by omega) hfl (fewL_in ls) (hT.old hB)) ?_
    rintro _ w20 a ⟨vp, rfl, hO⟩ B21 hF
    have sB21 := B21.size
    have hB := hB.trans (B21.mono hB.size)
    have hBf := hBf.trans (B21.mono hBf.size)
    have hRp := OwD.rd hO (pathF_length32 _ _ _ _)
    refine s_val hF (x_move rfl) (by decide) fun a hF => ?_
    refine s_val hF (x_ext rfl rfl) (by decide) fun a hF => ?_
    refine s_val hF (x_ext rfl rfl) (by decide) fun a hF => ?_
    refine s_val hF (x_assign rfl) (by decide) fun a hF => ?_
    refine s_val hF (x_assign rfl) (by decide) fun a hF => ?_
    refine s_end (hK12 _ _ ?_)
    refine wp_seq_k fun K13 hK13 => ?_
    refine wp_rs fun K14 hK14 => ?_
    refine s_val hF (x_move rfl) (by decide) fun a hF => ?_
    refine s_val hF (x_lss (b := false) (decide_eq_false (by omega)) rfl rfl) (by decide) fun a hF => ?_
    refine s_val hF (x_move rfl) (by decide) fun a hF => ?_
    refine s_grd 17 hF rfl rfl rfl ?_
    refine s_val hF (x_move rfl) (by decide) fun a hF => ?_
    refine s_grd 17 hF rfl rfl rfl ?_
    refine s_val hF (x_move rfl) (by decide) fun a hF => ?_
    refine s_grd 17 hF rfl rfl rfl ?_
    refine s_val hF (x_len Tryd.underlying24 rfl) (by decide) fun a hF => ?_
    refine s_grd 17 hF rfl rfl rfl ?_
    refine s_val hF (x_geq (b := false) (decide_eq_false (by omega)) rfl rfl) (by decide) fun a hF => ?_
    refine s_val hF (x_pick rfl rfl) (by decide) fun a hF => ?_
    refine s_end (hK14 _ _ ?_)
    refine wp_if hF rfl ?_
    refine wp_skip (hK13 _ _ ?_)
    refine wp_rs fun K15 hK15 => ?_
    refine s_val hF (x_move rfl) (by decide) fun a hF => ?_
    refine s_val hF (x_eql (b := true) (decide_eq_true rfl) rfl rfl) (by decide) fun a hF => ?_
    refine s_val hF (x_move rfl) (by decide) fun a hF => ?_
    refine s_grd 42 hF rfl rfl rfl ?_
    refine s_val hF (x_move rfl) (by decide) fun a hF => ?_
    refine s_grd 42 hF rfl rfl rfl ?_
    refine s_val hF (x_move rfl) (by decide) fun a hF => ?_
    refine s_grd 42 hF rfl rfl rfl ?_
    refine s_val hF (x_move rfl) (by decide) fun a hF => ?_
    refine s_grd 42 hF rfl rfl rfl ?_
    refine s_callR (R := fun v w' => OwD w20.heap.size w' v (pathF kTab 41 (fewL ls) j)) [_, .int .i64 (j : Int)] hF (enters_of Tryd.func20 (by kernel_rfl) rfl) rfl (by decide) (rpath20 41 (fewL ls) j _ w20 (by omega) (by omega) (hMf.below hBf) (by omega) (fewL_in ls)) ?_
    rintro vq w22 a hO2 B23 hF
    have sB23 := B23.size
    have hB := hB.trans (B23.mono hB.size)
    have hBf := hBf.trans (B23.mono hBf.size)
    have hRp := hRp.below B23
    have hRq := OwD.rd hO2 (pathF_length32 _ _ _ _)
    refine s_grd 42 hF rfl rfl rfl ?_
    refine s_callB [_, _] hF (enters_of Tryd.func19 (by kernel_rfl) rfl) rfl (by decide) (same19 (pathF kTab 41 (fewL ls) j) _ _ w22 hRp hRq (by have := pathF_length kTab 41 (fewL ls) j; omega)) fun w24 a B25 hF => ?_
    have sB25 := B25.size
    have hB := hB.trans (B25.mono hB.size)
    have hBf := hBf.trans (B25.mono hBf.size)
    have hRp := hRp.below B25
    have hRq := hRq.below B25
    refine s_val hF (x_pick rfl rfl) (by decide) fun a hF => ?_
    refine s_val hF (x_move rfl) (by decide) fun a hF => ?_
    refine s_grd 49 hF rfl rfl rfl ?_
    refine s_val hF (x_move rfl) (by decide) fun a hF => ?_
    refine s_grd 49 hF rfl rfl rfl ?_
    refine s_callB [_] hF (enters_of Tryd.func17 (by kernel_rfl) rfl) rfl (by decide) (root17 41 (fewL ls) _ w24 (by omega) (hMf.below hBf) (by omega) (fewL_in ls) (hT.old hB)) fun w26 a B27 hF => ?_
    have sB27 := B27.size
    have hB := hB.trans (B27.mono hB.size)
    have hBf := hBf.trans (B27.mono hBf.size)
    have hRp := hRp.below B27
    have hRq := hRq.below B27
    refine s_grd 49 hF rfl rfl rfl ?_
    refine s_val hF (x_move rfl) (by decide) fun a hF => ?_
    refine s_grd 49 hF rfl rfl rfl ?_
    refine s_callB [_] hF (enters_of Tryd.func18 (by kernel_rfl) rfl) rfl (by decide) (rroot18 41 (fewL ls) _ w26 (by omega) (hMf.below hBf) (by omega) (fewL_in ls)) fun w28 a B29 hF => ?_
    have sB29 := B29.size
    have hB := hB.trans (B29.mono hB.size)
    have hBf := hBf.trans (B29.mono hBf.size)
    have hRp := hRp.below B29
    have hRq := hRq.below B29
    refine s_grd 49 hF rfl rfl rfl ?_
    refine s_val hF (x_eqDT (rootF_length _ _ _) rfl rfl rfl) (by decide) fun a hF => ?_
    refine s_val hF (x_pick rfl rfl) (by decide) fun a hF => ?_
    refine s_val hF (x_move rfl) (by decide) fun a hF => ?_
    refine s_grd 56 hF rfl rfl rfl ?_
    refine s_callB [] hF (enters_of Tryd.func15 (by kernel_rfl) rfl) rfl (by decide) (awake15 w28 (hT.old hB)) fun w30 a B31 hF => ?_
    have sB31 := B31.size
    have hB := hB.trans (B31.mono hB.size)
    have hBf := hBf.trans (B31.mono hBf.size)
    have hRp := hRp.below B31
    have hRq := hRq.below B31
    refine s_val hF (x_pick rfl rfl) (by decide) fun a hF => ?_
    refine s_val hF (x_assign rfl) (by decide) fun a hF => ?_
    refine s_end (hK15 _ _ ?_)
    refine wp_ret (res_slot hF rfl rfl ⟨rfl, hB⟩)
end Go.Proofs.YtbmglinkfdoegaaDoor
