/- height, climb, Check, the reference's Climb; ChainChecks. -/
import Derived.Test.YtbmglinkfdoegaaDoorChain4
namespace Go.Proofs.YtbmglinkfdoegaaDoor
open Go.RowKit Go.Shelf
set_option linter.unusedVariables false
set_option linter.unusedSimpArgs false

theorem heightF_le : ∀ (f i n : Nat), heightF f i n ≤ n
  | 0, _, _ => Nat.zero_le _
  | f + 1, i, n => by
    unfold heightF
    split
    · exact Nat.zero_le _
    · next h =>
      have h1 := halfL_lt (n := n) (by omega)
      have h0 := halfL_pos n
      split
      · have := heightF_le f i (halfL n); omega
      · have := heightF_le f (i - halfL n) (n - halfL n); omega
theorem heightF_one (f i : Nat) : heightF (f + 1) i 1 = 0 := by rw [heightF, if_pos (by decide)]
theorem heightF_lo {f i n : Nat} (h : 2 ≤ n) (hi : i < halfL n) : heightF (f + 1) i n = heightF f i (halfL n) + 1 := by rw [heightF, if_neg (by omega), if_pos hi]
theorem heightF_hi {f i n : Nat} (h : 2 ≤ n) (hi : ¬ i < halfL n) : heightF (f + 1) i n = heightF f (i - halfL n) (n - halfL n) + 1 := by rw [heightF, if_neg (by omega), if_neg hi]

set_option maxRecDepth 100000 in
theorem height29 : ∀ (N i n : Nat), n < N → i < n → n ≤ 1099511627776 → ∀ w0, Calls Tryd.prog 29 #[.int .i64 (i : Int), .int .i64 (n : Int)] w0 fun e w' => e = .returned (.int .i64 (heightF N i n : Int)) ∧ w' = w0 := by
  intro N
  induction N with
  | zero => intro i n h; omega
  | succ N ih =>
  intro i n hN hi hn w0
  refine calls_fs 25 [(0, .int .i64 (i : Int)), (1, .int .i64 (n : Int))] Tryd.func29 rfl rfl rfl rfl rfl fun a hF => ?_
  refine wp_rs fun K1 hK1 => ?_
  refine s_val hF (x_assign rfl) (by decide) fun a hF => ?_
  refine s_end (hK1 _ _ ?_)
  refine wp_seq_k fun K2 hK2 => ?_
  refine wp_rs fun K3 hK3 => ?_
  refine s_val hF (x_move rfl) (by decide) fun a hF => ?_
  refine s_val hF (x_eql (b := decide (n = 1)) (decide_eq_decide.2 (by omega)) rfl rfl) (by decide) fun a hF => ?_
  refine s_end (hK3 _ _ ?_)
  refine wp_iff hF rfl (fun hc7 => ?_) (fun hc7 => ?_)
  · refine wp_rs fun K4 hK4 => ?_
    refine s_val hF (x_assign rfl) (by decide) fun a hF => ?_
    refine s_end (hK4 _ _ ?_)
    refine wp_ret (then_ret (res_slot hF rfl rfl ⟨by rw [hc7, heightF_one]; rfl, rfl⟩))
  · refine wp_skip (hK2 _ _ ?_)
    refine wp_rs fun K5 hK5 => ?_
    refine s_val hF (x_move rfl) (by decide) fun a hF => ?_
    refine s_callS [.int .i64 (n : Int)] hF (enters_of Tryd.func27 (by kernel_rfl) rfl) rfl (by decide) (left27 n (by omega) (by omega) _) fun a hF => ?_
    have hk1 := halfL_lt (n := n) (by omega)
    have hk0 := halfL_pos n
    refine s_val hF (x_assign rfl) (by decide) fun a hF => ?_
    refine s_end (hK5 _ _ ?_)
    refine wp_seq_k fun K6 hK6 => ?_
    refine wp_rs fun K7 hK7 => ?_
    refine s_val hF (x_move rfl) (by decide) fun a hF => ?_
    refine s_val hF (x_move rfl) (by decide) fun a hF => ?_
    refine s_val hF (x_lss (b := decide (i < halfL n)) (decide_eq_decide.2 (by omega)) rfl rfl) (by decide) fun a hF => ?_
    refine s_end (hK7 _ _ ?_)
    refine wp_iff hF rfl (fun hc12 => ?_) (fun hc12 => ?_)
    · refine wp_rs fun K8 hK8 => ?_
      refine s_val hF (x_move rfl) (by decide) fun a hF => ?_
      refine s_val hF (x_move rfl) (by decide) fun a hF => ?_
      refine s_callS [.int .i64 (i : Int), .int .i64 (halfL n : Int)] hF (enters_of Tryd.func29 (by kernel_rfl) rfl) rfl (by decide) (ih i (halfL n) (by omega) (by omega) (by omega) _) fun a hF => ?_
      have hle := heightF_le N i (halfL n)
      refine s_val hF (x_addn (heightF N i (halfL n) + 1) (by omega) (by omega) rfl rfl) (by decide) fun a hF => ?_
      refine s_val hF (x_assign rfl) (by decide) fun a hF => ?_
      refine s_end (hK8 _ _ ?_)
      refine wp_ret (then_ret (res_slot hF rfl rfl ⟨by rw [heightF_lo (by omega) hc12], rfl⟩))
    · refine wp_skip (hK6 _ _ ?_)
      refine wp_rs fun K9 hK9 => ?_
      refine s_val hF (x_move rfl) (by decide) fun a hF => ?_
      refine s_val hF (x_move rfl) (by decide) fun a hF => ?_
      refine s_val hF (x_subn (i - halfL n) (by omega) (by omega) rfl rfl) (by decide) fun a hF => ?_
      refine s_val hF (x_move rfl) (by decide) fun a hF => ?_
      refine s_val hF (x_move rfl) (by decide) fun a hF => ?_
      refine s_val hF (x_subn (n - halfL n) (by omega) (by omega) rfl rfl) (by decide) fun a hF => ?_
      refine s_callS [.int .i64 ((i - halfL n : Nat) : Int), .int .i64 ((n - halfL n : Nat) : Int)] hF (enters_of Tryd.func29 (by kernel_rfl) rfl) rfl (by decide) (ih (i - halfL n) (n - halfL n) (by omega) (by omega) (by omega) _) fun a hF => ?_
      have hle := heightF_le N (i - halfL n) (n - halfL n)
      refine s_val hF (x_addn (heightF N (i - halfL n) (n - halfL n) + 1) (by omega) (by omega) rfl rfl) (by decide) fun a hF => ?_
      refine s_val hF (x_assign rfl) (by decide) fun a hF => ?_
      refine s_end (hK9 _ _ ?_)
      refine wp_ret (res_slot hF rfl rfl ⟨by rw [heightF_hi (by omega) hc12], rfl⟩)

theorem climbF_one (ks : List UInt32) (d : List UInt8) (f i : Nat) (ps : List (List UInt8)) : climbF ks d (f + 1) i 1 ps = d := by rw [climbF, if_pos (by decide)]
theorem climbF_none (ks : List UInt32) (d : List UInt8) (f i n : Nat) (ps : List (List UInt8)) (h : ps.length = 0) : climbF ks d (f + 1) i n ps = d := by
  rw [climbF]
  split
  · rfl
  · rfl
theorem climbF_lo {ks : List UInt32} {d : List UInt8} {f i n : Nat} {ps : List (List UInt8)} (h : 2 ≤ n) (hp : ps.length ≠ 0) (hi : i < halfL n) : climbF ks d (f + 1) i n ps = nodeL ks (climbF ks d f i (halfL n) (ps.take (ps.length - 1))) (ps.getD (ps.length - 1) []) := by
  rw [climbF, if_neg (by omega), if_neg hp, if_pos hi]
theorem climbF_hi {ks : List UInt32} {d : List UInt8} {f i n : Nat} {ps : List (List UInt8)} (h : 2 ≤ n) (hp : ps.length ≠ 0) (hi : ¬ i < halfL n) : climbF ks d (f + 1) i n ps = nodeL ks (ps.getD (ps.length - 1) []) (climbF ks d f (i - halfL n) (n - halfL n) (ps.take (ps.length - 1))) := by
  rw [climbF, if_neg (by omega), if_neg hp, if_neg hi]
set_option maxRecDepth 100000 in
set_option maxHeartbeats 1600000 in
theorem climb30 : ∀ (N i n : Nat) (ex : Nat) (bs : List UInt8) (vb : Value) (ps : List (List UInt8)) (vp : Value) (w0 : World), n < N → i < n → n ≤ 1099511627776 → ps.length = heightF N i n → RB ex w0 vb bs → bs.length + 4096 ≤ 140737488355328 → RD w0 vp ps → Tab w0 →
    Calls Tryd.prog 30 #[vb, .int .i64 (i : Int), .int .i64 (n : Int), vp] w0 fun e w' => e = .returned (dig (climbF kTab (leafL kTab bs) N i n ps)) ∧ Below w0.heap.size w0 w' := by
  intro N
  induction N with
  | zero => intro i n ex bs vb ps vp w0 h; omega
  | succ N ih =>
  intro i n ex bs vb ps vp w0 hN hi hn hp hR hlen hD hT
  obtain ⟨ab, cb, rfl, _, _⟩ := hR.form
  obtain ⟨ap, cp, rfl, hcp⟩ := hD.form
  have hpl := heightF_le (N + 1) i n
  have hB := Below.refl w0.heap.size w0
  have sB := hB.size
  refine calls_fs 51 [(0, .slice ab bs.length cb), (1, .int .i64 (i : Int)), (2, .int .i64 (n : Int)), (3, .slice ap ps.length cp)] Tryd.func30 rfl rfl rfl rfl rfl fun a hF => ?_
  refine wp_rs fun K1 hK1 => ?_
  refine s_alloc hF (by decide) zero24 fun w2 b8 a eb8 m8 B3 zb8 hF => ?_
  have sB3 := B3.size
  have hB := hB.trans (B3.mono hB.size)
  refine s_end (hK1 _ _ ?_)
  refine wp_seq_k fun K2 hK2 => ?_
  refine wp_rs fun K3 hK3 => ?_
  refine s_val hF (x_move rfl) (by decide) fun a hF => ?_
  refine s_val hF (x_eql (b := decide (n = 1)) (decide_eq_decide.2 (by omega)) rfl rfl) (by decide) fun a hF => ?_
  refine s_end (hK3 _ _ ?_)
  refine wp_iff hF rfl (fun hc12 => ?_) (fun hc12 => ?_)
  · refine wp_rs fun K4 hK4 => ?_
    refine s_val hF (x_move rfl) (by decide) fun a hF => ?_
    refine s_callB [_] hF (enters_of Tryd.func9 (by kernel_rfl) rfl) rfl (by decide) (leaf9 _ bs _ w2 (hR.below hB) (by omega) (hT.old hB)) fun w4 a B5 hF => ?_
    have sB5 := B5.size
    have hB := hB.trans (B5.mono hB.size)
    have m8 := m8.old B5
    refine s_putD z32l (leafL_length _ _) m8 hF rfl rfl fun w6 m8 o7 => ?_
    have so7 := o7.size
    have hB := hB.trans (o7.below (by omega))
    refine s_end (hK4 _ _ ?_)
    refine wp_ret (then_ret (res_D hF rfl rfl (leafL_length _ _) m8 ⟨by rw [hc12, climbF_one], hB⟩))
  · refine wp_skip (hK2 _ _ ?_)
    refine wp_rs fun K5 hK5 => ?_
    refine s_val hF (x_move rfl) (by decide) fun a hF => ?_
    refine s_callS [.int .i64 (n : Int)] hF (enters_of Tryd.func27 (by kernel_rfl) rfl) rfl (by decide) (left27 n (by omega) (by omega) _) fun a hF => ?_
    have hk1 := halfL_lt (n := n) (by omega)
    have hk0 := halfL_pos n
    have hp1 : ps.length ≠ 0 ∧ (i < halfL n → ps.length - 1 = heightF N i (halfL n)) ∧ (¬ i < halfL n → ps.length - 1 = heightF N (i - halfL n) (n - halfL n)) := by
      by_cases h : i < halfL n
      · rw [heightF_lo (by omega) h] at hp
        exact ⟨by omega, fun _ => by omega, fun h' => absurd h h'⟩
      · rw [heightF_hi (by omega) h] at hp
        exact ⟨by omega, fun h' => absurd h' h, fun _ => by omega⟩
    obtain ⟨hp0, hplo, hphi⟩ := hp1
    refine s_val hF (x_move rfl) (by decide) fun a hF => ?_
    refine s_val hF (x_len Tryd.underlying33 rfl) (by decide) fun a hF => ?_
    refine s_val hF (x_subn (ps.length - 1) (by omega) (by omega) rfl rfl) (by decide) fun a hF => ?_
    refine s_val hF (x_assign rfl) (by decide) fun a hF => ?_
    refine s_val hF (x_assign rfl) (by decide) fun a hF => ?_
    refine s_end (hK5 _ _ ?_)
    refine wp_seq_k fun K6 hK6 => ?_
    refine wp_rs fun K7 hK7 => ?_
    refine s_val hF (x_move rfl) (by decide) fun a hF => ?_
    refine s_val hF (x_move rfl) (by decide) fun a hF => ?_
    refine s_val hF (x_lss (b := decide (i < halfL n)) (decide_eq_decide.2 (by omega)) rfl rfl) (by decide) fun a hF => ?_
    refine s_end (hK7 _ _ ?_)
    refine wp_iff hF rfl (fun hc22 => ?_) (fun hc22 => ?_)
    · obtain ⟨b1, o1, c1, e1, _⟩ := hD.some (by omega)
      cases e1
      have hplo := hplo hc22
      refine dk_seq (b8) (ops := regOps Tryd.f30 5) (N := 13) (by kernel_rfl) wide_orders (by kernel_rfl) fun w8 hw8 B9 hS K8 hK8 => ?_
      have zw8 : w8.heap.size = w2.heap.size := by rw [hw8]
      have sB9 := B9.size
      have hB := hB.trans (B9.mono hB.size)
      have m8 := m8.old B9
      have m8_d := m8
      have hB_d := hB
      refine d_val 0 23 (op := (Go.Op.move (Go.Operand.tmp 0))) hF hS (by kernel_rfl) (fun W hW => x_move rfl) (by kernel_rfl) (by decide) fun a hF => ?_
      refine d_val 1 24 (op := (Go.Op.move (Go.Operand.tmp 1))) hF hS (by kernel_rfl) (fun W hW => x_move rfl) (by kernel_rfl) (by decide) fun a hF => ?_
      refine d_val 2 25 (op := (Go.Op.move (Go.Operand.tmp 9))) hF hS (by kernel_rfl) (fun W hW => x_move rfl) (by kernel_rfl) (by decide) fun a hF => ?_
      refine d_val 3 26 (op := (Go.Op.move (Go.Operand.tmp 3))) hF hS (by kernel_rfl) (fun W hW => x_move rfl) (by kernel_rfl) (by decide) fun a hF => ?_
      refine d_val 4 27 (op := (Go.Op.move (Go.Operand.tmp 10))) hF hS (by kernel_rfl) (fun W hW => x_move rfl) (by kernel_rfl) (by decide) fun a hF => ?_
      refine d_val 5 28 (op := (Go.Op.slice 33 (Go.Operand.tmp 26) none (some (Go.Operand.tmp 27)) none)) hF hS (by kernel_rfl) (fun W hW => x_slice (vlo := none) (vhi := some (.int .i64 ((ps.length - 1 : Nat) : Int))) (vmx := none) rfl rfl rfl rfl (m_sliceUK (ps.length - 1) Tryd.underlying33 el33.size rfl (by omega))) (by kernel_rfl) (by decide) fun a hF => ?_
      refine d_val 7 30 (op := (Go.Op.move (Go.Operand.tmp 3))) hF hS (by kernel_rfl) (fun W hW => x_move rfl) (by kernel_rfl) (by decide) fun a hF => ?_
      refine d_val 8 31 (op := (Go.Op.move (Go.Operand.tmp 10))) hF hS (by kernel_rfl) (fun W hW => x_move rfl) (by kernel_rfl) (by decide) fun a hF => ?_
      refine d_val 9 32 (op := (Go.Op.indexAddr 33 (Go.Operand.tmp 30) (Go.Operand.tmp 31))) hF hS (by kernel_rfl) (fun W hW => x_ixa rfl rfl (m_ixsK (ps.length - 1) Tryd.underlying33 el33.size rfl (by omega))) (by kernel_rfl) (by decide) fun a hF => ?_
      refine d_val 10 33 (op := (Go.Op.load 23 (Go.Operand.tmp 32))) hF hS (by kernel_rfl) (fun W hW => (hD.below (hW.under hB_d (by omega))).load (j := ps.length - 1) (by omega) rfl) (by kernel_rfl) (by decide) fun a hF => ?_
      refine d_one 6 (some 29) (Go.Op.call (Go.Call.mk (Go.Callee.value (Go.Operand.func 30)) #[(Go.Operand.tmp 23), (Go.Operand.tmp 24), (Go.Operand.tmp 25), (Go.Operand.tmp 28)] #[25, 3, 3, 33])) (by kernel_rfl) (by kernel_rfl) fun ty pos af => ?_
      refine s_callB [_, .int .i64 ((i : Nat) : Int), .int .i64 ((halfL n : Nat) : Int), _] hF (enters_of Tryd.func30 (by kernel_rfl) rfl) rfl (by decide) (ih (i) (halfL n) _ bs _ (ps.take (ps.length - 1)) _ w8 (by omega) (by omega) (by omega) (by rw [List.length_take]; omega) (hR.below hB) hlen ((hD.below hB).upto (ps.length - 1) (by omega)) (hT.old hB)) fun w10 a B11 hF => ?_
      have sB11 := B11.size
      have hB := hB.trans (B11.mono hB.size)
      have m8 := m8.old B11
      have hS := hS.below B11
      refine s_end ⟨hS, ?_⟩
      refine d_one 11 (some 34) (Go.Op.call (Go.Call.mk (Go.Callee.value (Go.Operand.func 11)) #[(Go.Operand.tmp 29), (Go.Operand.tmp 33)] #[23, 23])) (by kernel_rfl) (by kernel_rfl) fun ty pos af => ?_
      refine s_callB [_, _] hF (enters_of Tryd.func11 (by kernel_rfl) rfl) rfl (by decide) (node11 _ _ (climbF_length _ _ (leafL_length _ _) _ _ _ _) (getD_mem32 hD.2 (by omega)) w10 (hT.old hB)) fun w12 a B13 hF => ?_
      have sB13 := B13.size
      have hB := hB.trans (B13.mono hB.size)
      have m8 := m8.old B13
      have hS := hS.below B13
      refine s_end ⟨hS, ?_⟩
      refine d_one 12 none (Go.Op.store 23 (Go.Operand.tmp 8) (Go.Operand.tmp 34)) (by kernel_rfl) (by kernel_rfl) fun ty pos af => ?_
      refine s_putD z32l (nodeL_length _ _ _) m8 hF rfl rfl fun w14 m8 o15 => ?_
      have so15 := o15.size
      have hB := hB.trans (o15.below (by omega))
      have hS := hS.only o15 (by omega)
      refine s_end ⟨hS, ?_⟩
      refine d_end (by kernel_rfl) (hK8 _ _ ?_)
      refine wp_ret (then_ret (res_D hF rfl rfl (nodeL_length _ _ _) m8 ⟨by rw [climbF_lo (by omega) hp0 hc22], hB⟩))
    · refine wp_skip (hK6 _ _ ?_)
      obtain ⟨b1, o1, c1, e1, _⟩ := hD.some (by omega)
      cases e1
      have hphi := hphi hc22
      refine dk_seq (b8) (ops := regOps Tryd.f30 6) (N := 17) (by kernel_rfl) wide_orders (by kernel_rfl) fun w16 hw16 B17 hS K9 hK9 => ?_
      have zw16 : w16.heap.size = w2.heap.size := by rw [hw16]
      have sB17 := B17.size
      have hB := hB.trans (B17.mono hB.size)
      have m8 := m8.old B17
      have m8_d := m8
      have hB_d := hB
      refine d_val 0 35 (op := (Go.Op.move (Go.Operand.tmp 3))) hF hS (by kernel_rfl) (fun W hW => x_move rfl) (by kernel_rfl) (by decide) fun a hF => ?_
      refine d_val 1 36 (op := (Go.Op.move (Go.Operand.tmp 10))) hF hS (by kernel_rfl) (fun W hW => x_move rfl) (by kernel_rfl) (by decide) fun a hF => ?_
      refine d_val 2 37 (op := (Go.Op.indexAddr 33 (Go.Operand.tmp 35) (Go.Operand.tmp 36))) hF hS (by kernel_rfl) (fun W hW => x_ixa rfl rfl (m_ixsK (ps.length - 1) Tryd.underlying33 el33.size rfl (by omega))) (by kernel_rfl) (by decide) fun a hF => ?_
      refine d_val 3 38 (op := (Go.Op.load 23 (Go.Operand.tmp 37))) hF hS (by kernel_rfl) (fun W hW => (hD.below (hW.under hB_d (by omega))).load (j := ps.length - 1) (by omega) rfl) (by kernel_rfl) (by decide) fun a hF => ?_
      refine d_val 4 39 (op := (Go.Op.move (Go.Operand.tmp 0))) hF hS (by kernel_rfl) (fun W hW => x_move rfl) (by kernel_rfl) (by decide) fun a hF => ?_
      refine d_val 5 40 (op := (Go.Op.move (Go.Operand.tmp 1))) hF hS (by kernel_rfl) (fun W hW => x_move rfl) (by kernel_rfl) (by decide) fun a hF => ?_
      refine d_val 6 41 (op := (Go.Op.move (Go.Operand.tmp 9))) hF hS (by kernel_rfl) (fun W hW => x_move rfl) (by kernel_rfl) (by decide) fun a hF => ?_
      refine d_val 7 42 (op := (Go.Op.binOp Go.BinOp.sub 3 (Go.Operand.tmp 40) (Go.Operand.tmp 41) 3)) hF hS (by kernel_rfl) (fun W hW => x_subn (i - halfL n) (by omega) (by omega) rfl rfl) (by kernel_rfl) (by decide) fun a hF => ?_
      refine d_val 8 43 (op := (Go.Op.move (Go.Operand.tmp 2))) hF hS (by kernel_rfl) (fun W hW => x_move rfl) (by kernel_rfl) (by decide) fun a hF => ?_
      refine d_val 9 44 (op := (Go.Op.move (Go.Operand.tmp 9))) hF hS (by kernel_rfl) (fun W hW => x_move rfl) (by kernel_rfl) (by decide) fun a hF => ?_
      refine d_val 10 45 (op := (Go.Op.binOp Go.BinOp.sub 3 (Go.Operand.tmp 43) (Go.Operand.tmp 44) 3)) hF hS (by kernel_rfl) (fun W hW => x_subn (n - halfL n) (by omega) (by omega) rfl rfl) (by kernel_rfl) (by decide) fun a hF => ?_
      refine d_val 11 46 (op := (Go.Op.move (Go.Operand.tmp 3))) hF hS (by kernel_rfl) (fun W hW => x_move rfl) (by kernel_rfl) (by decide) fun a hF => ?_
      refine d_val 12 47 (op := (Go.Op.move (Go.Operand.tmp 10))) hF hS (by kernel_rfl) (fun W hW => x_move rfl) (by kernel_rfl) (by decide) fun a hF => ?_
      refine d_val 13 48 (op := (Go.Op.slice 33 (Go.Operand.tmp 46) none (some (Go.Operand.tmp 47)) none)) hF hS (by kernel_rfl) (fun W hW => x_slice (vlo := none) (vhi := some (.int .i64 ((ps.length - 1 : Nat) : Int))) (vmx := none) rfl rfl rfl rfl (m_sliceUK (ps.length - 1) Tryd.underlying33 el33.size rfl (by omega))) (by kernel_rfl) (by decide) fun a hF => ?_
      refine d_one 14 (some 49) (Go.Op.call (Go.Call.mk (Go.Callee.value (Go.Operand.func 30)) #[(Go.Operand.tmp 39), (Go.Operand.tmp 42), (Go.Operand.tmp 45), (Go.Operand.tmp 48)] #[25, 3, 3, 33])) (by kernel_rfl) (by kernel_rfl) fun ty pos af => ?_
      refine s_callB [_, .int .i64 ((i - halfL n : Nat) : Int), .int .i64 ((n - halfL n : Nat) : Int), _] hF (enters_of Tryd.func30 (by kernel_rfl) rfl) rfl (by decide) (ih (i - halfL n) (n - halfL n) _ bs _ (ps.take (ps.length - 1)) _ w16 (by omega) (by omega) (by omega) (by rw [List.length_take]; omega) (hR.below hB) hlen ((hD.below hB).upto (ps.length - 1) (by omega)) (hT.old hB)) fun w18 a B19 hF => ?_
      have sB19 := B19.size
      have hB := hB.trans (B19.mono hB.size)
      have m8 := m8.old B19
      have hS := hS.below B19
      refine s_end ⟨hS, ?_⟩
      refine d_one 15 (some 50) (Go.Op.call (Go.Call.mk (Go.Callee.value (Go.Operand.func 11)) #[(Go.Operand.tmp 38), (Go.Operand.tmp 49)] #[23, 23])) (by kernel_rfl) (by kernel_rfl) fun ty pos af => ?_
      refine s_callB [_, _] hF (enters_of Tryd.func11 (by kernel_rfl) rfl) rfl (by decide) (node11 _ _ (getD_mem32 hD.2 (by omega)) (climbF_length _ _ (leafL_length _ _) _ _ _ _) w18 (hT.old hB)) fun w20 a B21 hF => ?_
      have sB21 := B21.size
      have hB := hB.trans (B21.mono hB.size)
      have m8 := m8.old B21
      have hS := hS.below B21
      refine s_end ⟨hS, ?_⟩
      refine d_one 16 none (Go.Op.store 23 (Go.Operand.tmp 8) (Go.Operand.tmp 50)) (by kernel_rfl) (by kernel_rfl) fun ty pos af => ?_
      refine s_putD z32l (nodeL_length _ _ _) m8 hF rfl rfl fun w22 m8 o23 => ?_
      have so23 := o23.size
      have hB := hB.trans (o23.below (by omega))
      have hS := hS.only o23 (by omega)
      refine s_end ⟨hS, ?_⟩
      refine d_end (by kernel_rfl) (hK9 _ _ ?_)
      refine wp_ret (res_D hF rfl rfl (nodeL_length _ _ _) m8 ⟨by rw [climbF_hi (by omega) hp0 hc22], hB⟩)

set_option maxRecDepth 100000 in
set_option maxHeartbeats 1600000 in
theorem rclimb21 : ∀ (N i n : Nat) (ds : List UInt8) (ps : List (List UInt8)) (vp : Value) (w0 : World), n < N → i < n → n ≤ 1099511627776 → ds.length = 32 → RD w0 vp ps → ps.length ≤ 1099511627776 →
    Calls Tryd.prog 21 #[dig ds, .int .i64 (i : Int), .int .i64 (n : Int), vp] w0 fun e w' => e = .returned (.tuple #[dig (climbF kTab ds N i n ps), .bool (decide (ps.length = heightF N i n))]) ∧ Below w0.heap.size w0 w' := by
  intro N
  induction N with
  | zero => intro i n ds ps vp w0 h; omega
  | succ N ih =>
  intro i n ds ps vp w0 hN hi hn hds hD hpn
  obtain ⟨ap, cp, rfl, hcp⟩ := hD.form
  have hB := Below.refl w0.heap.size w0
  have sB := hB.size
  refine calls_fs 72 [(0, dig ds), (1, .int .i64 (i : Int)), (2, .int .i64 (n : Int)), (3, .slice ap ps.length cp)] Tryd.func21 rfl rfl rfl rfl rfl fun a hF => ?_
  refine wp_rs fun K1 hK1 => ?_
  refine s_box (ds.map encB) hF (by decide) rfl rfl fun w2 b4 a eb4 m4 B3 zb4 hF => ?_
  have sB3 := B3.size
  have hB := hB.trans (B3.mono hB.size)
  refine s_alloc hF (by decide) zero24 fun w4 b8 a eb8 m8 B5 zb8 hF => ?_
  have sB5 := B5.size
  have hB := hB.trans (B5.mono hB.size)
  have m4 := m4.old B5
  refine s_val hF (x_assign rfl) (by decide) fun a hF => ?_
  refine s_end (hK1 _ _ ?_)
  refine wp_seq_k fun K2 hK2 => ?_
  refine wp_rs fun K3 hK3 => ?_
  refine s_val hF (x_move rfl) (by decide) fun a hF => ?_
  refine s_val hF (x_eql (b := decide (n = 1)) (decide_eq_decide.2 (by omega)) rfl rfl) (by decide) fun a hF => ?_
  refine s_end (hK3 _ _ ?_)
  refine wp_iff hF rfl (fun hc17 => ?_) (fun hc17 => ?_)
  · refine wp_rs fun K4 hK4 => ?_
    refine s_val hF (x_loadD hds m4 rfl) (by decide) fun a hF => ?_
    refine s_val hF (x_move rfl) (by decide) fun a hF => ?_
    refine s_val hF (x_len Tryd.underlying33 rfl) (by decide) fun a hF => ?_
    refine s_val hF (x_eql (b := decide (ps.length = 0)) (decide_eq_decide.2 (by omega)) rfl rfl) (by decide) fun a hF => ?_
    refine s_putD z32l hds m8 hF rfl rfl fun w6 m8 o7 => ?_
    have so7 := o7.size
    have hB := hB.trans (o7.below (by omega))
    have m4 := m4.only o7 (by omega)
    refine s_val hF (x_assign rfl) (by decide) fun a hF => ?_
    refine s_end (hK4 _ _ ?_)
    refine wp_ret (then_ret (res_ct hF rfl rfl m8 (wd23 (hds)) rfl ⟨by rw [hc17, climbF_one, heightF_one], hB⟩))
  · refine wp_skip (hK2 _ _ ?_)
    refine wp_seq_k fun K5 hK5 => ?_
    refine wp_rs fun K6 hK6 => ?_
    refine s_val hF (x_move rfl) (by decide) fun a hF => ?_
    refine s_val hF (x_len Tryd.underlying33 rfl) (by decide) fun a hF => ?_
    refine s_val hF (x_eql (b := decide (ps.length = 0)) (decide_eq_decide.2 (by omega)) rfl rfl) (by decide) fun a hF => ?_
    refine s_end (hK6 _ _ ?_)
    refine wp_iff hF rfl (fun hc24 => ?_) (fun hc24 => ?_)
    · refine wp_rs fun K7 hK7 => ?_
      refine s_val hF (x_loadD hds m4 rfl) (by decide) fun a hF => ?_
      refine s_putD z32l hds m8 hF rfl rfl fun w8 m8 o9 => ?_
      have so9 := o9.size
      have hB := hB.trans (o9.below (by omega))
      have m4 := m4.only o9 (by omega)
      refine s_val hF (x_assign rfl) (by decide) fun a hF => ?_
      refine s_end (hK7 _ _ ?_)
      refine wp_ret (then_ret (res_ct hF rfl rfl m8 (wd23 (hds)) rfl ⟨by rw [climbF_none _ _ _ _ _ _ hc24, decide_eq_false (show ¬ ps.length = heightF (N + 1) i n by by_cases h : i < halfL n; (· rw [heightF_lo (by omega) h]; omega); (· rw [heightF_hi (by omega) h]; omega))], hB⟩))
    · refine wp_skip (hK5 _ _ ?_)
      refine wp_rs fun K8 hK8 => ?_
      refine s_val hF (x_move rfl) (by decide) fun a hF => ?_
      refine s_val hF (x_len Tryd.underlying33 rfl) (by decide) fun a hF => ?_
      refine s_val hF (x_subn (ps.length - 1) (by omega) (by omega) rfl rfl) (by decide) fun a hF => ?_
      refine s_val hF (x_assign rfl) (by decide) fun a hF => ?_
      refine s_end (hK8 _ _ ?_)
      refine wp_rs fun K9 hK9 => ?_
      refine s_val hF (x_move rfl) (by decide) fun a hF => ?_
      refine s_callS [.int .i64 (n : Int)] hF (enters_of Tryd.func28 (by kernel_rfl) rfl) rfl (by decide) (half28 n (by omega) (by omega) _) fun a hF => ?_
      have hk1 := halfL_lt (n := n) (by omega)
      have hk0 := halfL_pos n
      refine s_val hF (x_assign rfl) (by decide) fun a hF => ?_
      refine s_end (hK9 _ _ ?_)
      refine wp_seq_k fun K10 hK10 => ?_
      refine wp_rs fun K11 hK11 => ?_
      refine s_val hF (x_move rfl) (by decide) fun a hF => ?_
      refine s_val hF (x_move rfl) (by decide) fun a hF => ?_
      refine s_val hF (x_lss (b := decide (i < halfL n)) (decide_eq_decide.2 (by omega)) rfl rfl) (by decide) fun a hF => ?_
      refine s_end (hK11 _ _ ?_)
      refine wp_iff hF rfl (fun hc33 => ?_) (fun hc33 => ?_)
      · obtain ⟨b1, o1, c1, e1, _⟩ := hD.some (by omega)
        cases e1
        refine dk_seq (w4.heap.size) (ops := regOps Tryd.f21 8) (N := 13) (by kernel_rfl) wide_orders (by kernel_rfl) fun w10 hw10 B11 hS K12 hK12 => ?_
        have zw10 : w10.heap.size = w4.heap.size := by rw [hw10]
        have sB11 := B11.size
        have hB := hB.trans (B11.mono hB.size)
        have m4 := m4.old B11
        have m8 := m8.old B11
        have m4_d := m4
        have m8_d := m8
        have hB_d := hB
        refine d_val 0 35 (op := (Go.Op.load 23 (Go.Operand.tmp 4))) hF hS (by kernel_rfl) (fun W hW => x_loadD hds (m4_d.kq hW (by omega)) rfl) (by kernel_rfl) (by decide) fun a hF => ?_
        refine d_val 1 36 (op := (Go.Op.move (Go.Operand.tmp 1))) hF hS (by kernel_rfl) (fun W hW => x_move rfl) (by kernel_rfl) (by decide) fun a hF => ?_
        refine d_val 2 37 (op := (Go.Op.move (Go.Operand.tmp 11))) hF hS (by kernel_rfl) (fun W hW => x_move rfl) (by kernel_rfl) (by decide) fun a hF => ?_
        refine d_val 3 38 (op := (Go.Op.move (Go.Operand.tmp 3))) hF hS (by kernel_rfl) (fun W hW => x_move rfl) (by kernel_rfl) (by decide) fun a hF => ?_
        refine d_val 4 39 (op := (Go.Op.move (Go.Operand.tmp 10))) hF hS (by kernel_rfl) (fun W hW => x_move rfl) (by kernel_rfl) (by decide) fun a hF => ?_
        refine d_val 5 40 (op := (Go.Op.slice 33 (Go.Operand.tmp 38) none (some (Go.Operand.tmp 39)) none)) hF hS (by kernel_rfl) (fun W hW => x_slice (vlo := none) (vhi := some (.int .i64 ((ps.length - 1 : Nat) : Int))) (vmx := none) rfl rfl rfl rfl (m_sliceUK (ps.length - 1) Tryd.underlying33 el33.size rfl (by omega))) (by kernel_rfl) (by decide) fun a hF => ?_
        refine d_two 6 10 (by kernel_rfl) ?_ ?_
        · refine d_op 6 (some 41) (Go.Op.call (Go.Call.mk (Go.Callee.value (Go.Operand.func 21)) #[(Go.Operand.tmp 35), (Go.Operand.tmp 36), (Go.Operand.tmp 37), (Go.Operand.tmp 40)] #[23, 3, 3, 33])) (by kernel_rfl) fun ty pos af => ?_
          refine s_callB [dig ds, .int .i64 ((i : Nat) : Int), .int .i64 ((halfL n : Nat) : Int), _] hF (enters_of Tryd.func21 (by kernel_rfl) rfl) rfl (by decide) (ih (i) (halfL n) ds (ps.take (ps.length - 1)) _ w10 (by omega) (by omega) (by omega) hds ((hD.below hB).upto (ps.length - 1) (by omega)) (by rw [List.length_take]; omega)) fun w12 a B13 hF => ?_
          have sB13 := B13.size
          have hB := hB.trans (B13.mono hB.size)
          have m4 := m4.old B13
          have m8 := m8.old B13
          have hS := hS.below B13
          rw [show decide ((ps.take (ps.length - 1)).length = heightF N (i) (halfL n)) = decide (ps.length = heightF (N + 1) i n) from decide_eq_decide.2 (by rw [List.length_take, heightF_lo (by omega) hc33]; omega)] at hF
          refine s_end ⟨hS, ?_⟩
          refine d_val 7 34 (op := (Go.Op.move (Go.Operand.tmp 41))) hF hS (by kernel_rfl) (fun W hW => x_move rfl) (by kernel_rfl) (by decide) fun a hF => ?_
          refine d_val 8 42 (op := (Go.Op.extract (Go.Operand.tmp 34) 0)) hF hS (by kernel_rfl) (fun W hW => x_ext rfl rfl) (by kernel_rfl) (by decide) fun a hF => ?_
          refine d_val 9 43 (op := (Go.Op.extract (Go.Operand.tmp 34) 1)) hF hS (by kernel_rfl) (fun W hW => x_ext rfl rfl) (by kernel_rfl) (by decide) fun a hF => ?_
          refine d_one 10 (some 12) (Go.Op.alloc 23) (by kernel_rfl) (by kernel_rfl) fun ty pos af => ?_
          refine s_alloc hF (by decide) zero24 fun w14 b12 a eb12 m12 B15 zb12 hF => ?_
          have sB15 := B15.size
          have hB := hB.trans (B15.mono hB.size)
          have m4 := m4.old B15
          have m8 := m8.old B15
          have hS := hS.below B15
          refine s_end ⟨hS, ?_⟩
          refine d_one 11 none (Go.Op.store 23 (Go.Operand.tmp 12) (Go.Operand.tmp 42)) (by kernel_rfl) (by kernel_rfl) fun ty pos af => ?_
          refine s_putD z32l (climbF_length _ _ hds _ _ _ _) m12 hF rfl rfl fun w16 m12 o17 => ?_
          have so17 := o17.size
          have hB := hB.trans (o17.below (by omega))
          have m4 := m4.only o17 (by omega)
          have m8 := m8.only o17 (by omega)
          have hS := hS.only o17 (by omega)
          refine s_end ⟨hS, ?_⟩
          refine d_val 12 13 (op := (Go.Op.assign (Go.Operand.tmp 43))) hF hS (by kernel_rfl) (fun W hW => x_assign rfl) (by kernel_rfl) (by decide) fun a hF => ?_
          refine d_end (by kernel_rfl) (hK12 _ _ ?_)
          refine dk_seq (b8) (ops := regOps Tryd.f21 9) (N := 9) (by kernel_rfl) wide_orders (by kernel_rfl) fun w18 hw18 B19 hS K13 hK13 => ?_
          have zw18 : w18.heap.size = w16.heap.size := by rw [hw18]
          have sB19 := B19.size
          have hB := hB.trans (B19.mono hB.size)
          have m4 := m4.old B19
          have m8 := m8.old B19
          have m12 := m12.old B19
          have m4_d := m4
          have m8_d := m8
          have m12_d := m12
          have hB_d := hB
          refine d_val 0 44 (op := (Go.Op.load 23 (Go.Operand.tmp 12))) hF hS (by kernel_rfl) (fun W hW => x_loadD (climbF_length _ _ hds _ _ _ _) (m12_d.kq hW (by omega)) rfl) (by kernel_rfl) (by decide) fun a hF => ?_
          refine d_val 1 45 (op := (Go.Op.move (Go.Operand.tmp 3))) hF hS (by kernel_rfl) (fun W hW => x_move rfl) (by kernel_rfl) (by decide) fun a hF => ?_
          refine d_val 2 46 (op := (Go.Op.move (Go.Operand.tmp 10))) hF hS (by kernel_rfl) (fun W hW => x_move rfl) (by kernel_rfl) (by decide) fun a hF => ?_
          refine d_val 3 47 (op := (Go.Op.indexAddr 33 (Go.Operand.tmp 45) (Go.Operand.tmp 46))) hF hS (by kernel_rfl) (fun W hW => x_ixa rfl rfl (m_ixsK (ps.length - 1) Tryd.underlying33 el33.size rfl (by omega))) (by kernel_rfl) (by decide) fun a hF => ?_
          refine d_val 4 48 (op := (Go.Op.load 23 (Go.Operand.tmp 47))) hF hS (by kernel_rfl) (fun W hW => (hD.below (hW.under hB_d (by omega))).load (j := ps.length - 1) (by omega) rfl) (by kernel_rfl) (by decide) fun a hF => ?_
          refine d_val 6 50 (op := (Go.Op.move (Go.Operand.tmp 13))) hF hS (by kernel_rfl) (fun W hW => x_move rfl) (by kernel_rfl) (by decide) fun a hF => ?_
          refine d_one 5 (some 49) (Go.Op.call (Go.Call.mk (Go.Callee.value (Go.Operand.func 12)) #[(Go.Operand.tmp 44), (Go.Operand.tmp 48)] #[23, 23])) (by kernel_rfl) (by kernel_rfl) fun ty pos af => ?_
          refine s_callB [_, _] hF (enters_of Tryd.func12 (by kernel_rfl) rfl) rfl (by decide) (rnode12 _ _ (climbF_length _ _ hds _ _ _ _) (getD_mem32 hD.2 (by omega)) w18) fun w20 a B21 hF => ?_
          have sB21 := B21.size
          have hB := hB.trans (B21.mono hB.size)
          have m4 := m4.old B21
          have m8 := m8.old B21
          have m12 := m12.old B21
          have hS := hS.below B21
          refine s_end ⟨hS, ?_⟩
          refine d_one 7 none (Go.Op.store 23 (Go.Operand.tmp 8) (Go.Operand.tmp 49)) (by kernel_rfl) (by kernel_rfl) fun ty pos af => ?_
          refine s_putD z32l (nodeL_length _ _ _) m8 hF rfl rfl fun w22 m8 o23 => ?_
          have so23 := o23.size
          have hB := hB.trans (o23.below (by omega))
          have m4 := m4.only o23 (by omega)
          have m12 := m12.only o23 (by omega)
          have hS := hS.only o23 (by omega)
          refine s_end ⟨hS, ?_⟩
          refine d_val 8 9 (op := (Go.Op.assign (Go.Operand.tmp 50))) hF hS (by kernel_rfl) (fun W hW => x_assign rfl) (by kernel_rfl) (by decide) fun a hF => ?_
          refine d_end (by kernel_rfl) (hK13 _ _ ?_)
          refine wp_ret (then_ret (res_ct hF rfl rfl m8 (wd23 (nodeL_length _ _ _)) rfl ⟨by rw [climbF_lo (by omega) hc24 hc33]; rfl, hB⟩))
        · refine d_op 10 (some 12) (Go.Op.alloc 23) (by kernel_rfl) fun ty pos af => ?_
          refine s_alloc hF (by decide) zero24 fun w24 b12 a eb12 m12 B25 zb12 hF => ?_
          have sB25 := B25.size
          have hB := hB.trans (B25.mono hB.size)
          have m4 := m4.old B25
          have m8 := m8.old B25
          have hS := hS.below B25
          refine s_end ⟨hS, ?_⟩
          refine d_one 6 (some 41) (Go.Op.call (Go.Call.mk (Go.Callee.value (Go.Operand.func 21)) #[(Go.Operand.tmp 35), (Go.Operand.tmp 36), (Go.Operand.tmp 37), (Go.Operand.tmp 40)] #[23, 3, 3, 33])) (by kernel_rfl) (by kernel_rfl) fun ty pos af => ?_
          refine s_callB [dig ds, .int .i64 ((i : Nat) : Int), .int .i64 ((halfL n : Nat) : Int), _] hF (enters_of Tryd.func21 (by kernel_rfl) rfl) rfl (by decide) (ih (i) (halfL n) ds (ps.take (ps.length - 1)) _ w24 (by omega) (by omega) (by omega) hds ((hD.below hB).upto (ps.length - 1) (by omega)) (by rw [List.length_take]; omega)) fun w26 a B27 hF => ?_
          have sB27 := B27.size
          have hB := hB.trans (B27.mono hB.size)
          have m4 := m4.old B27
          have m8 := m8.old B27
          have m12 := m12.old B27
          have hS := hS.below B27
          rw [show decide ((ps.take (ps.length - 1)).length = heightF N (i) (halfL n)) = decide (ps.length = heightF (N + 1) i n) from decide_eq_decide.2 (by rw [List.length_take, heightF_lo (by omega) hc33]; omega)] at hF
          refine s_end ⟨hS, ?_⟩
          refine d_val 7 34 (op := (Go.Op.move (Go.Operand.tmp 41))) hF hS (by kernel_rfl) (fun W hW => x_move rfl) (by kernel_rfl) (by decide) fun a hF => ?_
          refine d_val 8 42 (op := (Go.Op.extract (Go.Operand.tmp 34) 0)) hF hS (by kernel_rfl) (fun W hW => x_ext rfl rfl) (by kernel_rfl) (by decide) fun a hF => ?_
          refine d_val 9 43 (op := (Go.Op.extract (Go.Operand.tmp 34) 1)) hF hS (by kernel_rfl) (fun W hW => x_ext rfl rfl) (by kernel_rfl) (by decide) fun a hF => ?_
          refine d_one 11 none (Go.Op.store 23 (Go.Operand.tmp 12) (Go.Operand.tmp 42)) (by kernel_rfl) (by kernel_rfl) fun ty pos af => ?_
          refine s_putD z32l (climbF_length _ _ hds _ _ _ _) m12 hF rfl rfl fun w28 m12 o29 => ?_
          have so29 := o29.size
          have hB := hB.trans (o29.below (by omega))
          have m4 := m4.only o29 (by omega)
          have m8 := m8.only o29 (by omega)
          have hS := hS.only o29 (by omega)
          refine s_end ⟨hS, ?_⟩
          refine d_val 12 13 (op := (Go.Op.assign (Go.Operand.tmp 43))) hF hS (by kernel_rfl) (fun W hW => x_assign rfl) (by kernel_rfl) (by decide) fun a hF => ?_
          refine d_end (by kernel_rfl) (hK12 _ _ ?_)
          refine dk_seq (b8) (ops := regOps Tryd.f21 9) (N := 9) (by kernel_rfl) wide_orders (by kernel_rfl) fun w30 hw30 B31 hS K14 hK14 => ?_
          have zw30 : w30.heap.size = w28.heap.size := by rw [hw30]
          have sB31 := B31.size
          have hB := hB.trans (B31.mono hB.size)
          have m4 := m4.old B31
          have m8 := m8.old B31
          have m12 := m12.old B31
          have m4_d := m4
          have m8_d := m8
          have m12_d := m12
          have hB_d := hB
          refine d_val 0 44 (op := (Go.Op.load 23 (Go.Operand.tmp 12))) hF hS (by kernel_rfl) (fun W hW => x_loadD (climbF_length _ _ hds _ _ _ _) (m12_d.kq hW (by omega)) rfl) (by kernel_rfl) (by decide) fun a hF => ?_
          refine d_val 1 45 (op := (Go.Op.move (Go.Operand.tmp 3))) hF hS (by kernel_rfl) (fun W hW => x_move rfl) (by kernel_rfl) (by decide) fun a hF => ?_
          refine d_val 2 46 (op := (Go.Op.move (Go.Operand.tmp 10))) hF hS (by kernel_rfl) (fun W hW => x_move rfl) (by kernel_rfl) (by decide) fun a hF => ?_
          refine d_val 3 47 (op := (Go.Op.indexAddr 33 (Go.Operand.tmp 45) (Go.Operand.tmp 46))) hF hS (by kernel_rfl) (fun W hW => x_ixa rfl rfl (m_ixsK (ps.length - 1) Tryd.underlying33 el33.size rfl (by omega))) (by kernel_rfl) (by decide) fun a hF => ?_
          refine d_val 4 48 (op := (Go.Op.load 23 (Go.Operand.tmp 47))) hF hS (by kernel_rfl) (fun W hW => (hD.below (hW.under hB_d (by omega))).load (j := ps.length - 1) (by omega) rfl) (by kernel_rfl) (by decide) fun a hF => ?_
          refine d_val 6 50 (op := (Go.Op.move (Go.Operand.tmp 13))) hF hS (by kernel_rfl) (fun W hW => x_move rfl) (by kernel_rfl) (by decide) fun a hF => ?_
          refine d_one 5 (some 49) (Go.Op.call (Go.Call.mk (Go.Callee.value (Go.Operand.func 12)) #[(Go.Operand.tmp 44), (Go.Operand.tmp 48)] #[23, 23])) (by kernel_rfl) (by kernel_rfl) fun ty pos af => ?_
          refine s_callB [_, _] hF (enters_of Tryd.func12 (by kernel_rfl) rfl) rfl (by decide) (rnode12 _ _ (climbF_length _ _ hds _ _ _ _) (getD_mem32 hD.2 (by omega)) w30) fun w32 a B33 hF => ?_
          have sB33 := B33.size
          have hB := hB.trans (B33.mono hB.size)
          have m4 := m4.old B33
          have m8 := m8.old B33
          have m12 := m12.old B33
          have hS := hS.below B33
          refine s_end ⟨hS, ?_⟩
          refine d_one 7 none (Go.Op.store 23 (Go.Operand.tmp 8) (Go.Operand.tmp 49)) (by kernel_rfl) (by kernel_rfl) fun ty pos af => ?_
          refine s_putD z32l (nodeL_length _ _ _) m8 hF rfl rfl fun w34 m8 o35 => ?_
          have so35 := o35.size
          have hB := hB.trans (o35.below (by omega))
          have m4 := m4.only o35 (by omega)
          have m12 := m12.only o35 (by omega)
          have hS := hS.only o35 (by omega)
          refine s_end ⟨hS, ?_⟩
          refine d_val 8 9 (op := (Go.Op.assign (Go.Operand.tmp 50))) hF hS (by kernel_rfl) (fun W hW => x_assign rfl) (by kernel_rfl) (by decide) fun a hF => ?_
          refine d_end (by kernel_rfl) (hK14 _ _ ?_)
          refine wp_ret (then_ret (res_ct hF rfl rfl m8 (wd23 (nodeL_length _ _ _)) rfl ⟨by rw [climbF_lo (by omega) hc24 hc33]; rfl, hB⟩))
      · refine wp_skip (hK10 _ _ ?_)
        obtain ⟨b1, o1, c1, e1, _⟩ := hD.some (by omega)
        cases e1
        refine dk_seq (w4.heap.size) (ops := regOps Tryd.f21 10) (N := 17) (by kernel_rfl) wide_orders (by kernel_rfl) fun w36 hw36 B37 hS K15 hK15 => ?_
        have zw36 : w36.heap.size = w4.heap.size := by rw [hw36]
        have sB37 := B37.size
        have hB := hB.trans (B37.mono hB.size)
        have m4 := m4.old B37
        have m8 := m8.old B37
        have m4_d := m4
        have m8_d := m8
        have hB_d := hB
        refine d_val 0 52 (op := (Go.Op.load 23 (Go.Operand.tmp 4))) hF hS (by kernel_rfl) (fun W hW => x_loadD hds (m4_d.kq hW (by omega)) rfl) (by kernel_rfl) (by decide) fun a hF => ?_
        refine d_val 1 53 (op := (Go.Op.move (Go.Operand.tmp 1))) hF hS (by kernel_rfl) (fun W hW => x_move rfl) (by kernel_rfl) (by decide) fun a hF => ?_
        refine d_val 2 54 (op := (Go.Op.move (Go.Operand.tmp 11))) hF hS (by kernel_rfl) (fun W hW => x_move rfl) (by kernel_rfl) (by decide) fun a hF => ?_
        refine d_val 3 55 (op := (Go.Op.binOp Go.BinOp.sub 3 (Go.Operand.tmp 53) (Go.Operand.tmp 54) 3)) hF hS (by kernel_rfl) (fun W hW => x_subn (i - halfL n) (by omega) (by omega) rfl rfl) (by kernel_rfl) (by decide) fun a hF => ?_
        refine d_val 4 56 (op := (Go.Op.move (Go.Operand.tmp 2))) hF hS (by kernel_rfl) (fun W hW => x_move rfl) (by kernel_rfl) (by decide) fun a hF => ?_
        refine d_val 5 57 (op := (Go.Op.move (Go.Operand.tmp 11))) hF hS (by kernel_rfl) (fun W hW => x_move rfl) (by kernel_rfl) (by decide) fun a hF => ?_
        refine d_val 6 58 (op := (Go.Op.binOp Go.BinOp.sub 3 (Go.Operand.tmp 56) (Go.Operand.tmp 57) 3)) hF hS (by kernel_rfl) (fun W hW => x_subn (n - halfL n) (by omega) (by omega) rfl rfl) (by kernel_rfl) (by decide) fun a hF => ?_
        refine d_val 7 59 (op := (Go.Op.move (Go.Operand.tmp 3))) hF hS (by kernel_rfl) (fun W hW => x_move rfl) (by kernel_rfl) (by decide) fun a hF => ?_
        refine d_val 8 60 (op := (Go.Op.move (Go.Operand.tmp 10))) hF hS (by kernel_rfl) (fun W hW => x_move rfl) (by kernel_rfl) (by decide) fun a hF => ?_
        refine d_val 9 61 (op := (Go.Op.slice 33 (Go.Operand.tmp 59) none (some (Go.Operand.tmp 60)) none)) hF hS (by kernel_rfl) (fun W hW => x_slice (vlo := none) (vhi := some (.int .i64 ((ps.length - 1 : Nat) : Int))) (vmx := none) rfl rfl rfl rfl (m_sliceUK (ps.length - 1) Tryd.underlying33 el33.size rfl (by omega))) (by kernel_rfl) (by decide) fun a hF => ?_
        refine d_two 10 14 (by kernel_rfl) ?_ ?_
        · refine d_op 10 (some 62) (Go.Op.call (Go.Call.mk (Go.Callee.value (Go.Operand.func 21)) #[(Go.Operand.tmp 52), (Go.Operand.tmp 55), (Go.Operand.tmp 58), (Go.Operand.tmp 61)] #[23, 3, 3, 33])) (by kernel_rfl) fun ty pos af => ?_
          refine s_callB [dig ds, .int .i64 ((i - halfL n : Nat) : Int), .int .i64 ((n - halfL n : Nat) : Int), _] hF (enters_of Tryd.func21 (by kernel_rfl) rfl) rfl (by decide) (ih (i - halfL n) (n - halfL n) ds (ps.take (ps.length - 1)) _ w36 (by omega) (by omega) (by omega) hds ((hD.below hB).upto (ps.length - 1) (by omega)) (by rw [List.length_take]; omega)) fun w38 a B39 hF => ?_
          have sB39 := B39.size
          have hB := hB.trans (B39.mono hB.size)
          have m4 := m4.old B39
          have m8 := m8.old B39
          have hS := hS.below B39
          rw [show decide ((ps.take (ps.length - 1)).length = heightF N (i - halfL n) (n - halfL n)) = decide (ps.length = heightF (N + 1) i n) from decide_eq_decide.2 (by rw [List.length_take, heightF_hi (by omega) hc33]; omega)] at hF
          refine s_end ⟨hS, ?_⟩
          refine d_val 11 51 (op := (Go.Op.move (Go.Operand.tmp 62))) hF hS (by kernel_rfl) (fun W hW => x_move rfl) (by kernel_rfl) (by decide) fun a hF => ?_
          refine d_val 12 63 (op := (Go.Op.extract (Go.Operand.tmp 51) 0)) hF hS (by kernel_rfl) (fun W hW => x_ext rfl rfl) (by kernel_rfl) (by decide) fun a hF => ?_
          refine d_val 13 64 (op := (Go.Op.extract (Go.Operand.tmp 51) 1)) hF hS (by kernel_rfl) (fun W hW => x_ext rfl rfl) (by kernel_rfl) (by decide) fun a hF => ?_
          refine d_one 14 (some 14) (Go.Op.alloc 23) (by kernel_rfl) (by kernel_rfl) fun ty pos af => ?_
          refine s_alloc hF (by decide) zero24 fun w40 b12 a eb12 m12 B41 zb12 hF => ?_
          have sB41 := B41.size
          have hB := hB.trans (B41.mono hB.size)
          have m4 := m4.old B41
          have m8 := m8.old B41
          have hS := hS.below B41
          refine s_end ⟨hS, ?_⟩
          refine d_one 15 none (Go.Op.store 23 (Go.Operand.tmp 14) (Go.Operand.tmp 63)) (by kernel_rfl) (by kernel_rfl) fun ty pos af => ?_
          refine s_putD z32l (climbF_length _ _ hds _ _ _ _) m12 hF rfl rfl fun w42 m12 o43 => ?_
          have so43 := o43.size
          have hB := hB.trans (o43.below (by omega))
          have m4 := m4.only o43 (by omega)
          have m8 := m8.only o43 (by omega)
          have hS := hS.only o43 (by omega)
          refine s_end ⟨hS, ?_⟩
          refine d_val 16 15 (op := (Go.Op.assign (Go.Operand.tmp 64))) hF hS (by kernel_rfl) (fun W hW => x_assign rfl) (by kernel_rfl) (by decide) fun a hF => ?_
          refine d_end (by kernel_rfl) (hK15 _ _ ?_)
          refine dk_seq (b8) (ops := regOps Tryd.f21 11) (N := 9) (by kernel_rfl) wide_orders (by kernel_rfl) fun w44 hw44 B45 hS K16 hK16 => ?_
          have zw44 : w44.heap.size = w42.heap.size := by rw [hw44]
          have sB45 := B45.size
          have hB := hB.trans (B45.mono hB.size)
          have m4 := m4.old B45
          have m8 := m8.old B45
          have m12 := m12.old B45
          have m4_d := m4
          have m8_d := m8
          have m12_d := m12
          have hB_d := hB
          refine d_val 0 65 (op := (Go.Op.move (Go.Operand.tmp 3))) hF hS (by kernel_rfl) (fun W hW => x_move rfl) (by kernel_rfl) (by decide) fun a hF => ?_
          refine d_val 1 66 (op := (Go.Op.move (Go.Operand.tmp 10))) hF hS (by kernel_rfl) (fun W hW => x_move rfl) (by kernel_rfl) (by decide) fun a hF => ?_
          refine d_val 2 67 (op := (Go.Op.indexAddr 33 (Go.Operand.tmp 65) (Go.Operand.tmp 66))) hF hS (by kernel_rfl) (fun W hW => x_ixa rfl rfl (m_ixsK (ps.length - 1) Tryd.underlying33 el33.size rfl (by omega))) (by kernel_rfl) (by decide) fun a hF => ?_
          refine d_val 3 68 (op := (Go.Op.load 23 (Go.Operand.tmp 67))) hF hS (by kernel_rfl) (fun W hW => (hD.below (hW.under hB_d (by omega))).load (j := ps.length - 1) (by omega) rfl) (by kernel_rfl) (by decide) fun a hF => ?_
          refine d_val 4 69 (op := (Go.Op.load 23 (Go.Operand.tmp 14))) hF hS (by kernel_rfl) (fun W hW => x_loadD (climbF_length _ _ hds _ _ _ _) (m12_d.kq hW (by omega)) rfl) (by kernel_rfl) (by decide) fun a hF => ?_
          refine d_val 6 71 (op := (Go.Op.move (Go.Operand.tmp 15))) hF hS (by kernel_rfl) (fun W hW => x_move rfl) (by kernel_rfl) (by decide) fun a hF => ?_
          refine d_one 5 (some 70) (Go.Op.call (Go.Call.mk (Go.Callee.value (Go.Operand.func 12)) #[(Go.Operand.tmp 68), (Go.Operand.tmp 69)] #[23, 23])) (by kernel_rfl) (by kernel_rfl) fun ty pos af => ?_
          refine s_callB [_, _] hF (enters_of Tryd.func12 (by kernel_rfl) rfl) rfl (by decide) (rnode12 _ _ (getD_mem32 hD.2 (by omega)) (climbF_length _ _ hds _ _ _ _) w44) fun w46 a B47 hF => ?_
          have sB47 := B47.size
          have hB := hB.trans (B47.mono hB.size)
          have m4 := m4.old B47
          have m8 := m8.old B47
          have m12 := m12.old B47
          have hS := hS.below B47
          refine s_end ⟨hS, ?_⟩
          refine d_one 7 none (Go.Op.store 23 (Go.Operand.tmp 8) (Go.Operand.tmp 70)) (by kernel_rfl) (by kernel_rfl) fun ty pos af => ?_
          refine s_putD z32l (nodeL_length _ _ _) m8 hF rfl rfl fun w48 m8 o49 => ?_
          have so49 := o49.size
          have hB := hB.trans (o49.below (by omega))
          have m4 := m4.only o49 (by omega)
          have m12 := m12.only o49 (by omega)
          have hS := hS.only o49 (by omega)
          refine s_end ⟨hS, ?_⟩
          refine d_val 8 9 (op := (Go.Op.assign (Go.Operand.tmp 71))) hF hS (by kernel_rfl) (fun W hW => x_assign rfl) (by kernel_rfl) (by decide) fun a hF => ?_
          refine d_end (by kernel_rfl) (hK16 _ _ ?_)
          refine wp_ret (res_ct hF rfl rfl m8 (wd23 (nodeL_length _ _ _)) rfl ⟨by rw [climbF_hi (by omega) hc24 hc33]; rfl, hB⟩)
        · refine d_op 14 (some 14) (Go.Op.alloc 23) (by kernel_rfl) fun ty pos af => ?_
          refine s_alloc hF (by decide) zero24 fun w50 b12 a eb12 m12 B51 zb12 hF => ?_
          have sB51 := B51.size
          have hB := hB.trans (B51.mono hB.size)
          have m4 := m4.old B51
          have m8 := m8.old B51
          have hS := hS.below B51
          refine s_end ⟨hS, ?_⟩
          refine d_one 10 (some 62) (Go.Op.call (Go.Call.mk (Go.Callee.value (Go.Operand.func 21)) #[(Go.Operand.tmp 52), (Go.Operand.tmp 55), (Go.Operand.tmp 58), (Go.Operand.tmp 61)] #[23, 3, 3, 33])) (by kernel_rfl) (by kernel_rfl) fun ty pos af => ?_
          refine s_callB [dig ds, .int .i64 ((i - halfL n : Nat) : Int), .int .i64 ((n - halfL n : Nat) : Int), _] hF (enters_of Tryd.func21 (by kernel_rfl) rfl) rfl (by decide) (ih (i - halfL n) (n - halfL n) ds (ps.take (ps.length - 1)) _ w50 (by omega) (by omega) (by omega) hds ((hD.below hB).upto (ps.length - 1) (by omega)) (by rw [List.length_take]; omega)) fun w52 a B53 hF => ?_
          have sB53 := B53.size
          have hB := hB.trans (B53.mono hB.size)
          have m4 := m4.old B53
          have m8 := m8.old B53
          have m12 := m12.old B53
          have hS := hS.below B53
          rw [show decide ((ps.take (ps.length - 1)).length = heightF N (i - halfL n) (n - halfL n)) = decide (ps.length = heightF (N + 1) i n) from decide_eq_decide.2 (by rw [List.length_take, heightF_hi (by omega) hc33]; omega)] at hF
          refine s_end ⟨hS, ?_⟩
          refine d_val 11 51 (op := (Go.Op.move (Go.Operand.tmp 62))) hF hS (by kernel_rfl) (fun W hW => x_move rfl) (by kernel_rfl) (by decide) fun a hF => ?_
          refine d_val 12 63 (op := (Go.Op.extract (Go.Operand.tmp 51) 0)) hF hS (by kernel_rfl) (fun W hW => x_ext rfl rfl) (by kernel_rfl) (by decide) fun a hF => ?_
          refine d_val 13 64 (op := (Go.Op.extract (Go.Operand.tmp 51) 1)) hF hS (by kernel_rfl) (fun W hW => x_ext rfl rfl) (by kernel_rfl) (by decide) fun a hF => ?_
          refine d_one 15 none (Go.Op.store 23 (Go.Operand.tmp 14) (Go.Operand.tmp 63)) (by kernel_rfl) (by kernel_rfl) fun ty pos af => ?_
          refine s_putD z32l (climbF_length _ _ hds _ _ _ _) m12 hF rfl rfl fun w54 m12 o55 => ?_
          have so55 := o55.size
          have hB := hB.trans (o55.below (by omega))
          have m4 := m4.only o55 (by omega)
          have m8 := m8.only o55 (by omega)
          have hS := hS.only o55 (by omega)
          refine s_end ⟨hS, ?_⟩
          refine d_val 16 15 (op := (Go.Op.assign (Go.Operand.tmp 64))) hF hS (by kernel_rfl) (fun W hW => x_assign rfl) (by kernel_rfl) (by decide) fun a hF => ?_
          refine d_end (by kernel_rfl) (hK15 _ _ ?_)
          refine dk_seq (b8) (ops := regOps Tryd.f21 11) (N := 9) (by kernel_rfl) wide_orders (by kernel_rfl) fun w56 hw56 B57 hS K17 hK17 => ?_
          have zw56 : w56.heap.size = w54.heap.size := by rw [hw56]
          have sB57 := B57.size
          have hB := hB.trans (B57.mono hB.size)
          have m4 := m4.old B57
          have m8 := m8.old B57
          have m12 := m12.old B57
          have m4_d := m4
          have m8_d := m8
          have m12_d := m12
          have hB_d := hB
          refine d_val 0 65 (op := (Go.Op.move (Go.Operand.tmp 3))) hF hS (by kernel_rfl) (fun W hW => x_move rfl) (by kernel_rfl) (by decide) fun a hF => ?_
          refine d_val 1 66 (op := (Go.Op.move (Go.Operand.tmp 10))) hF hS (by kernel_rfl) (fun W hW => x_move rfl) (by kernel_rfl) (by decide) fun a hF => ?_
          refine d_val 2 67 (op := (Go.Op.indexAddr 33 (Go.Operand.tmp 65) (Go.Operand.tmp 66))) hF hS (by kernel_rfl) (fun W hW => x_ixa rfl rfl (m_ixsK (ps.length - 1) Tryd.underlying33 el33.size rfl (by omega))) (by kernel_rfl) (by decide) fun a hF => ?_
          refine d_val 3 68 (op := (Go.Op.load 23 (Go.Operand.tmp 67))) hF hS (by kernel_rfl) (fun W hW => (hD.below (hW.under hB_d (by omega))).load (j := ps.length - 1) (by omega) rfl) (by kernel_rfl) (by decide) fun a hF => ?_
          refine d_val 4 69 (op := (Go.Op.load 23 (Go.Operand.tmp 14))) hF hS (by kernel_rfl) (fun W hW => x_loadD (climbF_length _ _ hds _ _ _ _) (m12_d.kq hW (by omega)) rfl) (by kernel_rfl) (by decide) fun a hF => ?_
          refine d_val 6 71 (op := (Go.Op.move (Go.Operand.tmp 15))) hF hS (by kernel_rfl) (fun W hW => x_move rfl) (by kernel_rfl) (by decide) fun a hF => ?_
          refine d_one 5 (some 70) (Go.Op.call (Go.Call.mk (Go.Callee.value (Go.Operand.func 12)) #[(Go.Operand.tmp 68), (Go.Operand.tmp 69)] #[23, 23])) (by kernel_rfl) (by kernel_rfl) fun ty pos af => ?_
          refine s_callB [_, _] hF (enters_of Tryd.func12 (by kernel_rfl) rfl) rfl (by decide) (rnode12 _ _ (getD_mem32 hD.2 (by omega)) (climbF_length _ _ hds _ _ _ _) w56) fun w58 a B59 hF => ?_
          have sB59 := B59.size
          have hB := hB.trans (B59.mono hB.size)
          have m4 := m4.old B59
          have m8 := m8.old B59
          have m12 := m12.old B59
          have hS := hS.below B59
          refine s_end ⟨hS, ?_⟩
          refine d_one 7 none (Go.Op.store 23 (Go.Operand.tmp 8) (Go.Operand.tmp 70)) (by kernel_rfl) (by kernel_rfl) fun ty pos af => ?_
          refine s_putD z32l (nodeL_length _ _ _) m8 hF rfl rfl fun w60 m8 o61 => ?_
          have so61 := o61.size
          have hB := hB.trans (o61.below (by omega))
          have m4 := m4.only o61 (by omega)
          have m12 := m12.only o61 (by omega)
          have hS := hS.only o61 (by omega)
          refine s_end ⟨hS, ?_⟩
          refine d_val 8 9 (op := (Go.Op.assign (Go.Operand.tmp 71))) hF hS (by kernel_rfl) (fun W hW => x_assign rfl) (by kernel_rfl) (by decide) fun a hF => ?_
          refine d_end (by kernel_rfl) (hK17 _ _ ?_)
          refine wp_ret (res_ct hF rfl rfl m8 (wd23 (nodeL_length _ _ _)) rfl ⟨by rw [climbF_hi (by omega) hc24 hc33]; rfl, hB⟩)

/-- What Check tells. -/
def chkL (rs bs : List UInt8) (i n : Int) (ps : List (List UInt8)) : Bool := decide (0 ≤ i ∧ i < n) && (decide (ps.length = heightF (n.toNat + 1) i.toNat n.toNat) && decide (climbF kTab (leafL kTab bs) (n.toNat + 1) i.toNat n.toNat ps = rs))
set_option maxRecDepth 100000 in
set_option maxHeartbeats 1600000 in
theorem check22 (rs bs : List UInt8) (hrs : rs.length = 32) (ex : Nat) (vb : Value) (i n : Int) (ps : List (List UInt8)) (vp : Value) (w0 : World) (hn : n ≤ 1099511627776) (hR : RB ex w0 vb bs) (hlen : bs.length + 4096 ≤ 140737488355328) (hD : RD w0 vp ps) (hT : Tab w0) :
    Calls Tryd.prog 22 #[dig rs, vb, .int .i64 i, .int .i64 n, vp] w0 fun e w' => e = .returned (.bool (chkL rs bs i n ps)) ∧ Below w0.heap.size w0 w' := by
  obtain ⟨ab, cb, rfl, _, _⟩ := hR.form
  obtain ⟨ap, cp, rfl, hcp⟩ := hD.form
  have hB := Below.refl w0.heap.size w0
  have sB := hB.size
  refine calls_fs 31 [(0, dig rs), (1, .slice ab bs.length cb), (2, .int .i64 i), (3, .int .i64 n), (4, .slice ap ps.length cp)] Tryd.func22 rfl rfl rfl rfl rfl fun a hF => ?_
  refine wp_rs fun K1 hK1 => ?_
  refine s_box (rs.map encB) hF (by decide) rfl rfl fun w2 b5 a eb5 m5 B3 zb5 hF => ?_
  have sB3 := B3.size
  have hB := hB.trans (B3.mono hB.size)
  refine s_val hF (x_assign rfl) (by decide) fun a hF => ?_
  refine s_end (hK1 _ _ ?_)
  rcases (show (¬ (0 ≤ i ∧ i < n)) ∨ ((0 ≤ i ∧ i < n) ∧ ps.length ≠ heightF (n.toNat + 1) i.toNat n.toNat) ∨ ((0 ≤ i ∧ i < n) ∧ ps.length = heightF (n.toNat + 1) i.toNat n.toNat) by by_cases h1 : 0 ≤ i ∧ i < n; (· by_cases h2 : ps.length = heightF (n.toNat + 1) i.toNat n.toNat; (· exact .inr (.inr ⟨h1, h2⟩)); (· exact .inr (.inl ⟨h1, h2⟩))); (· exact .inl h1)) with hp | ⟨hp, hq⟩ | ⟨hp, hq⟩
  · have hres : chkL rs bs i n ps = false := by rw [chkL, decide_eq_false hp]; rfl
    refine dk_seq (w2.heap.size) (ops := regOps Tryd.f22 1) (N := 21) (by kernel_rfl) wide_orders (by kernel_rfl) fun w4 hw4 B5 hS K3 hK3 => ?_
    have zw4 : w4.heap.size = w2.heap.size := by rw [hw4]
    have sB5 := B5.size
    have hB := hB.trans (B5.mono hB.size)
    have m5 := m5.old B5
    have m5_d := m5
    have hB_d := hB
    refine d_val 0 11 (op := (Go.Op.move (Go.Operand.tmp 2))) hF hS (by kernel_rfl) (fun W hW => x_move rfl) (by kernel_rfl) (by decide) fun a hF => ?_
    refine d_val 1 12 (op := (Go.Op.move (Go.Operand.tmp 3))) hF hS (by kernel_rfl) (fun W hW => x_move rfl) (by kernel_rfl) (by decide) fun a hF => ?_
    refine d_one 2 (some 13) (Go.Op.call (Go.Call.mk (Go.Callee.value (Go.Operand.func 25)) #[(Go.Operand.tmp 11), (Go.Operand.tmp 12)] #[3, 3])) (by kernel_rfl) (by kernel_rfl) fun ty pos af => ?_
    refine s_callS [.int .i64 i, .int .i64 n] hF (enters_of Tryd.func25 (by kernel_rfl) rfl) rfl (by decide) (isPlace25 i n _) fun a hF => ?_
    rw [decide_eq_false hp] at hF
    refine s_end ⟨hS, ?_⟩
    refine d_val 3 14 (op := (Go.Op.move (Go.Operand.tmp 13))) hF hS (by kernel_rfl) (fun W hW => x_move rfl) (by kernel_rfl) (by decide) fun a hF => ?_
    refine d_skip 4 15 14 (j := 3) (want := true) (op := (Go.Op.move (Go.Operand.tmp 4))) hF hS (by kernel_rfl) (by kernel_rfl) rfl (by kernel_rfl) (by decide) fun a hF => ?_
    refine d_skip 5 16 14 (j := 3) (want := true) (op := (Go.Op.call (Go.Call.mk (Go.Callee.builtin Go.Builtin.len) #[(Go.Operand.tmp 15)] #[33]))) hF hS (by kernel_rfl) (by kernel_rfl) rfl (by kernel_rfl) (by decide) fun a hF => ?_
    refine d_skip 6 17 14 (j := 3) (want := true) (op := (Go.Op.move (Go.Operand.tmp 2))) hF hS (by kernel_rfl) (by kernel_rfl) rfl (by kernel_rfl) (by decide) fun a hF => ?_
    refine d_skip 7 18 14 (j := 3) (want := true) (op := (Go.Op.move (Go.Operand.tmp 3))) hF hS (by kernel_rfl) (by kernel_rfl) rfl (by kernel_rfl) (by decide) fun a hF => ?_
    refine d_skip 8 19 14 (j := 3) (want := true) (op := (Go.Op.call (Go.Call.mk (Go.Callee.value (Go.Operand.func 29)) #[(Go.Operand.tmp 17), (Go.Operand.tmp 18)] #[3, 3]))) hF hS (by kernel_rfl) (by kernel_rfl) rfl (by kernel_rfl) (by decide) fun a hF => ?_
    refine d_skip 9 20 14 (j := 3) (want := true) (op := (Go.Op.binOp Go.BinOp.eql 3 (Go.Operand.tmp 16) (Go.Operand.tmp 19) 3)) hF hS (by kernel_rfl) (by kernel_rfl) rfl (by kernel_rfl) (by decide) fun a hF => ?_
    refine d_val 10 21 (op := (Go.Op.pick (Go.Operand.tmp 14) (Go.Operand.tmp 20) (Go.Operand.const (Go.Value.bool false)))) hF hS (by kernel_rfl) (fun W hW => x_pick (b := false) rfl rfl) (by kernel_rfl) (by decide) fun a hF => ?_
    refine d_val 11 22 (op := (Go.Op.move (Go.Operand.tmp 21))) hF hS (by kernel_rfl) (fun W hW => x_move rfl) (by kernel_rfl) (by decide) fun a hF => ?_
    refine d_skip 12 23 22 (j := 11) (want := true) (op := (Go.Op.move (Go.Operand.tmp 1))) hF hS (by kernel_rfl) (by kernel_rfl) rfl (by kernel_rfl) (by decide) fun a hF => ?_
    refine d_skip 13 24 22 (j := 11) (want := true) (op := (Go.Op.move (Go.Operand.tmp 2))) hF hS (by kernel_rfl) (by kernel_rfl) rfl (by kernel_rfl) (by decide) fun a hF => ?_
    refine d_skip 14 25 22 (j := 11) (want := true) (op := (Go.Op.move (Go.Operand.tmp 3))) hF hS (by kernel_rfl) (by kernel_rfl) rfl (by kernel_rfl) (by decide) fun a hF => ?_
    refine d_skip 15 26 22 (j := 11) (want := true) (op := (Go.Op.move (Go.Operand.tmp 4))) hF hS (by kernel_rfl) (by kernel_rfl) rfl (by kernel_rfl) (by decide) fun a hF => ?_
    refine d_skip 16 27 22 (j := 11) (want := true) (op := (Go.Op.call (Go.Call.mk (Go.Callee.value (Go.Operand.func 30)) #[(Go.Operand.tmp 23), (Go.Operand.tmp 24), (Go.Operand.tmp 25), (Go.Operand.tmp 26)] #[25, 3, 3, 33]))) hF hS (by kernel_rfl) (by kernel_rfl) rfl (by kernel_rfl) (by decide) fun a hF => ?_
    refine d_skip 17 28 22 (j := 11) (want := true) (op := (Go.Op.load 23 (Go.Operand.tmp 5))) hF hS (by kernel_rfl) (by kernel_rfl) rfl (by kernel_rfl) (by decide) fun a hF => ?_
    refine d_skip 18 29 22 (j := 11) (want := true) (op := (Go.Op.binOp Go.BinOp.eql 23 (Go.Operand.tmp 27) (Go.Operand.tmp 28) 23)) hF hS (by kernel_rfl) (by kernel_rfl) rfl (by kernel_rfl) (by decide) fun a hF => ?_
    refine d_val 19 30 (op := (Go.Op.pick (Go.Operand.tmp 22) (Go.Operand.tmp 29) (Go.Operand.const (Go.Value.bool false)))) hF hS (by kernel_rfl) (fun W hW => x_pick (b := false) rfl rfl) (by kernel_rfl) (by decide) fun a hF => ?_
    refine d_val 20 10 (op := (Go.Op.assign (Go.Operand.tmp 30))) hF hS (by kernel_rfl) (fun W hW => x_assign rfl) (by kernel_rfl) (by decide) fun a hF => ?_
    refine d_end (by kernel_rfl) (hK3 _ _ ?_)
    refine wp_ret (res_slot hF rfl rfl ⟨by rw [hres], hB⟩)
  · have hres : chkL rs bs i n ps = false := by rw [chkL, decide_eq_false hq]; simp
    obtain ⟨i, rfl⟩ : ∃ j : Nat, i = (j : Int) := ⟨i.toNat, by omega⟩
    obtain ⟨n, rfl⟩ : ∃ j : Nat, n = (j : Int) := ⟨n.toNat, by omega⟩
    simp only [Int.toNat_natCast] at hq
    refine dk_seq (w2.heap.size) (ops := regOps Tryd.f22 1) (N := 21) (by kernel_rfl) wide_orders (by kernel_rfl) fun w6 hw6 B7 hS K4 hK4 => ?_
    have zw6 : w6.heap.size = w2.heap.size := by rw [hw6]
    have sB7 := B7.size
    have hB := hB.trans (B7.mono hB.size)
    have m5 := m5.old B7
    have m5_d := m5
    have hB_d := hB
    refine d_val 0 11 (op := (Go.Op.move (Go.Operand.tmp 2))) hF hS (by kernel_rfl) (fun W hW => x_move rfl) (by kernel_rfl) (by decide) fun a hF => ?_
    refine d_val 1 12 (op := (Go.Op.move (Go.Operand.tmp 3))) hF hS (by kernel_rfl) (fun W hW => x_move rfl) (by kernel_rfl) (by decide) fun a hF => ?_
    refine d_one 2 (some 13) (Go.Op.call (Go.Call.mk (Go.Callee.value (Go.Operand.func 25)) #[(Go.Operand.tmp 11), (Go.Operand.tmp 12)] #[3, 3])) (by kernel_rfl) (by kernel_rfl) fun ty pos af => ?_
    refine s_callS [.int .i64 (i : Int), .int .i64 (n : Int)] hF (enters_of Tryd.func25 (by kernel_rfl) rfl) rfl (by decide) (isPlace25 i n _) fun a hF => ?_
    rw [decide_eq_true hp] at hF
    refine s_end ⟨hS, ?_⟩
    refine d_val 3 14 (op := (Go.Op.move (Go.Operand.tmp 13))) hF hS (by kernel_rfl) (fun W hW => x_move rfl) (by kernel_rfl) (by decide) fun a hF => ?_
    refine d_valg 4 15 14 (j := 3) (want := true) (op := (Go.Op.move (Go.Operand.tmp 4))) hF hS (by kernel_rfl) (by kernel_rfl) rfl (fun W hW => x_move rfl) (by kernel_rfl) (by decide) fun a hF => ?_
    refine d_valg 5 16 14 (j := 3) (want := true) (op := (Go.Op.call (Go.Call.mk (Go.Callee.builtin Go.Builtin.len) #[(Go.Operand.tmp 15)] #[33]))) hF hS (by kernel_rfl) (by kernel_rfl) rfl (fun W hW => x_len Tryd.underlying33 rfl) (by kernel_rfl) (by decide) fun a hF => ?_
    refine d_valg 6 17 14 (j := 3) (want := true) (op := (Go.Op.move (Go.Operand.tmp 2))) hF hS (by kernel_rfl) (by kernel_rfl) rfl (fun W hW => x_move rfl) (by kernel_rfl) (by decide) fun a hF => ?_
    refine d_valg 7 18 14 (j := 3) (want := true) (op := (Go.Op.move (Go.Operand.tmp 3))) hF hS (by kernel_rfl) (by kernel_rfl) rfl (fun W hW => x_move rfl) (by kernel_rfl) (by decide) fun a hF => ?_
    refine d_oneg 8 14 (some 19) (Go.Op.call (Go.Call.mk (Go.Callee.value (Go.Operand.func 29)) #[(Go.Operand.tmp 17), (Go.Operand.tmp 18)] #[3, 3])) (j := 3) (want := true) hF (by kernel_rfl) (by kernel_rfl) (by kernel_rfl) rfl fun ty pos af => ?_
    refine s_callS [.int .i64 (i : Int), .int .i64 (n : Int)] hF (enters_of Tryd.func29 (by kernel_rfl) rfl) rfl (by decide) (height29 (n + 1) i n (by omega) (by omega) (by omega) _) fun a hF => ?_
    refine s_end ⟨hS, ?_⟩
    refine d_valg 9 20 14 (j := 3) (want := true) (op := (Go.Op.binOp Go.BinOp.eql 3 (Go.Operand.tmp 16) (Go.Operand.tmp 19) 3)) hF hS (by kernel_rfl) (by kernel_rfl) rfl (fun W hW => x_eql (b := false) (decide_eq_false (by omega)) rfl rfl) (by kernel_rfl) (by decide) fun a hF => ?_
    refine d_val 10 21 (op := (Go.Op.pick (Go.Operand.tmp 14) (Go.Operand.tmp 20) (Go.Operand.const (Go.Value.bool false)))) hF hS (by kernel_rfl) (fun W hW => x_pick rfl rfl) (by kernel_rfl) (by decide) fun a hF => ?_
    refine d_val 11 22 (op := (Go.Op.move (Go.Operand.tmp 21))) hF hS (by kernel_rfl) (fun W hW => x_move rfl) (by kernel_rfl) (by decide) fun a hF => ?_
    refine d_skip 12 23 22 (j := 11) (want := true) (op := (Go.Op.move (Go.Operand.tmp 1))) hF hS (by kernel_rfl) (by kernel_rfl) rfl (by kernel_rfl) (by decide) fun a hF => ?_
    refine d_skip 13 24 22 (j := 11) (want := true) (op := (Go.Op.move (Go.Operand.tmp 2))) hF hS (by kernel_rfl) (by kernel_rfl) rfl (by kernel_rfl) (by decide) fun a hF => ?_
    refine d_skip 14 25 22 (j := 11) (want := true) (op := (Go.Op.move (Go.Operand.tmp 3))) hF hS (by kernel_rfl) (by kernel_rfl) rfl (by kernel_rfl) (by decide) fun a hF => ?_
    refine d_skip 15 26 22 (j := 11) (want := true) (op := (Go.Op.move (Go.Operand.tmp 4))) hF hS (by kernel_rfl) (by kernel_rfl) rfl (by kernel_rfl) (by decide) fun a hF => ?_
    refine d_skip 16 27 22 (j := 11) (want := true) (op := (Go.Op.call (Go.Call.mk (Go.Callee.value (Go.Operand.func 30)) #[(Go.Operand.tmp 23), (Go.Operand.tmp 24), (Go.Operand.tmp 25), (Go.Operand.tmp 26)] #[25, 3, 3, 33]))) hF hS (by kernel_rfl) (by kernel_rfl) rfl (by kernel_rfl) (by decide) fun a hF => ?_
    refine d_skip 17 28 22 (j := 11) (want := true) (op := (Go.Op.load 23 (Go.Operand.tmp 5))) hF hS (by kernel_rfl) (by kernel_rfl) rfl (by kernel_rfl) (by decide) fun a hF => ?_
    refine d_skip 18 29 22 (j := 11) (want := true) (op := (Go.Op.binOp Go.BinOp.eql 23 (Go.Operand.tmp 27) (Go.Operand.tmp 28) 23)) hF hS (by kernel_rfl) (by kernel_rfl) rfl (by kernel_rfl) (by decide) fun a hF => ?_
    refine d_val 19 30 (op := (Go.Op.pick (Go.Operand.tmp 22) (Go.Operand.tmp 29) (Go.Operand.const (Go.Value.bool false)))) hF hS (by kernel_rfl) (fun W hW => x_pick (b := false) rfl rfl) (by kernel_rfl) (by decide) fun a hF => ?_
    refine d_val 20 10 (op := (Go.Op.assign (Go.Operand.tmp 30))) hF hS (by kernel_rfl) (fun W hW => x_assign rfl) (by kernel_rfl) (by decide) fun a hF => ?_
    refine d_end (by kernel_rfl) (hK4 _ _ ?_)
    refine wp_ret (res_slot hF rfl rfl ⟨by rw [hres], hB⟩)
  · obtain ⟨i, rfl⟩ : ∃ j : Nat, i = (j : Int) := ⟨i.toNat, by omega⟩
    obtain ⟨n, rfl⟩ : ∃ j : Nat, n = (j : Int) := ⟨n.toNat, by omega⟩
    have hres : chkL rs bs (i : Int) (n : Int) ps = decide (climbF kTab (leafL kTab bs) (n + 1) i n ps = rs) := by rw [chkL, decide_eq_true hp, decide_eq_true hq]; rfl
    simp only [Int.toNat_natCast] at hq
    refine dk_seq (w2.heap.size) (ops := regOps Tryd.f22 1) (N := 21) (by kernel_rfl) wide_orders (by kernel_rfl) fun w8 hw8 B9 hS K5 hK5 => ?_
    have zw8 : w8.heap.size = w2.heap.size := by rw [hw8]
    have sB9 := B9.size
    have hB := hB.trans (B9.mono hB.size)
    have m5 := m5.old B9
    have m5_d := m5
    have hB_d := hB
    refine d_val 0 11 (op := (Go.Op.move (Go.Operand.tmp 2))) hF hS (by kernel_rfl) (fun W hW => x_move rfl) (by kernel_rfl) (by decide) fun a hF => ?_
    refine d_val 1 12 (op := (Go.Op.move (Go.Operand.tmp 3))) hF hS (by kernel_rfl) (fun W hW => x_move rfl) (by kernel_rfl) (by decide) fun a hF => ?_
    refine d_one 2 (some 13) (Go.Op.call (Go.Call.mk (Go.Callee.value (Go.Operand.func 25)) #[(Go.Operand.tmp 11), (Go.Operand.tmp 12)] #[3, 3])) (by kernel_rfl) (by kernel_rfl) fun ty pos af => ?_
    refine s_callS [.int .i64 (i : Int), .int .i64 (n : Int)] hF (enters_of Tryd.func25 (by kernel_rfl) rfl) rfl (by decide) (isPlace25 i n _) fun a hF => ?_
    rw [decide_eq_true hp] at hF
    refine s_end ⟨hS, ?_⟩
    refine d_val 3 14 (op := (Go.Op.move (Go.Operand.tmp 13))) hF hS (by kernel_rfl) (fun W hW => x_move rfl) (by kernel_rfl) (by decide) fun a hF => ?_
    refine d_valg 4 15 14 (j := 3) (want := true) (op := (Go.Op.move (Go.Operand.tmp 4))) hF hS (by kernel_rfl) (by kernel_rfl) rfl (fun W hW => x_move rfl) (by kernel_rfl) (by decide) fun a hF => ?_
    refine d_valg 5 16 14 (j := 3) (want := true) (op := (Go.Op.call (Go.Call.mk (Go.Callee.builtin Go.Builtin.len) #[(Go.Operand.tmp 15)] #[33]))) hF hS (by kernel_rfl) (by kernel_rfl) rfl (fun W hW => x_len Tryd.underlying33 rfl) (by kernel_rfl) (by decide) fun a hF => ?_
    refine d_valg 6 17 14 (j := 3) (want := true) (op := (Go.Op.move (Go.Operand.tmp 2))) hF hS (by kernel_rfl) (by kernel_rfl) rfl (fun W hW => x_move rfl) (by kernel_rfl) (by decide) fun a hF => ?_
    refine d_valg 7 18 14 (j := 3) (want := true) (op := (Go.Op.move (Go.Operand.tmp 3))) hF hS (by kernel_rfl) (by kernel_rfl) rfl (fun W hW => x_move rfl) (by kernel_rfl) (by decide) fun a hF => ?_
    refine d_oneg 8 14 (some 19) (Go.Op.call (Go.Call.mk (Go.Callee.value (Go.Operand.func 29)) #[(Go.Operand.tmp 17), (Go.Operand.tmp 18)] #[3, 3])) (j := 3) (want := true) hF (by kernel_rfl) (by kernel_rfl) (by kernel_rfl) rfl fun ty pos af => ?_
    refine s_callS [.int .i64 (i : Int), .int .i64 (n : Int)] hF (enters_of Tryd.func29 (by kernel_rfl) rfl) rfl (by decide) (height29 (n + 1) i n (by omega) (by omega) (by omega) _) fun a hF => ?_
    refine s_end ⟨hS, ?_⟩
    refine d_valg 9 20 14 (j := 3) (want := true) (op := (Go.Op.binOp Go.BinOp.eql 3 (Go.Operand.tmp 16) (Go.Operand.tmp 19) 3)) hF hS (by kernel_rfl) (by kernel_rfl) rfl (fun W hW => x_eql (b := true) (decide_eq_true (by omega)) rfl rfl) (by kernel_rfl) (by decide) fun a hF => ?_
    refine d_val 10 21 (op := (Go.Op.pick (Go.Operand.tmp 14) (Go.Operand.tmp 20) (Go.Operand.const (Go.Value.bool false)))) hF hS (by kernel_rfl) (fun W hW => x_pick rfl rfl) (by kernel_rfl) (by decide) fun a hF => ?_
    refine d_val 11 22 (op := (Go.Op.move (Go.Operand.tmp 21))) hF hS (by kernel_rfl) (fun W hW => x_move rfl) (by kernel_rfl) (by decide) fun a hF => ?_
    refine d_valg 12 23 22 (j := 11) (want := true) (op := (Go.Op.move (Go.Operand.tmp 1))) hF hS (by kernel_rfl) (by kernel_rfl) rfl (fun W hW => x_move rfl) (by kernel_rfl) (by decide) fun a hF => ?_
    refine d_valg 13 24 22 (j := 11) (want := true) (op := (Go.Op.move (Go.Operand.tmp 2))) hF hS (by kernel_rfl) (by kernel_rfl) rfl (fun W hW => x_move rfl) (by kernel_rfl) (by decide) fun a hF => ?_
    refine d_valg 14 25 22 (j := 11) (want := true) (op := (Go.Op.move (Go.Operand.tmp 3))) hF hS (by kernel_rfl) (by kernel_rfl) rfl (fun W hW => x_move rfl) (by kernel_rfl) (by decide) fun a hF => ?_
    refine d_valg 15 26 22 (j := 11) (want := true) (op := (Go.Op.move (Go.Operand.tmp 4))) hF hS (by kernel_rfl) (by kernel_rfl) rfl (fun W hW => x_move rfl) (by kernel_rfl) (by decide) fun a hF => ?_
    refine d_valg 17 28 22 (j := 11) (want := true) (op := (Go.Op.load 23 (Go.Operand.tmp 5))) hF hS (by kernel_rfl) (by kernel_rfl) rfl (fun W hW => x_loadD hrs (m5_d.kq hW (by omega)) rfl) (by kernel_rfl) (by decide) fun a hF => ?_
    refine d_oneg 16 22 (some 27) (Go.Op.call (Go.Call.mk (Go.Callee.value (Go.Operand.func 30)) #[(Go.Operand.tmp 23), (Go.Operand.tmp 24), (Go.Operand.tmp 25), (Go.Operand.tmp 26)] #[25, 3, 3, 33])) (j := 11) (want := true) hF (by kernel_rfl) (by kernel_rfl) (by kernel_rfl) rfl fun ty pos af => ?_
    refine s_callB [_, .int .i64 (i : Int), .int .i64 (n : Int), _] hF (enters_of Tryd.func30 (by kernel_rfl) rfl) rfl (by decide) (climb30 (n + 1) i n _ bs _ ps _ w8 (by omega) (by omega) (by omega) hq (hR.below hB) hlen (hD.below hB) (hT.old hB)) fun w10 a B11 hF => ?_
    have sB11 := B11.size
    have hB := hB.trans (B11.mono hB.size)
    have m5 := m5.old B11
    have hS := hS.below B11
    refine s_end ⟨hS, ?_⟩
    refine d_valg 18 29 22 (j := 11) (want := true) (op := (Go.Op.binOp Go.BinOp.eql 23 (Go.Operand.tmp 27) (Go.Operand.tmp 28) 23)) hF hS (by kernel_rfl) (by kernel_rfl) rfl (fun W hW => x_eqD (climbF_length _ _ (leafL_length _ _) _ _ _ _) hrs rfl rfl rfl) (by kernel_rfl) (by decide) fun a hF => ?_
    refine d_val 19 30 (op := (Go.Op.pick (Go.Operand.tmp 22) (Go.Operand.tmp 29) (Go.Operand.const (Go.Value.bool false)))) hF hS (by kernel_rfl) (fun W hW => x_pick rfl rfl) (by kernel_rfl) (by decide) fun a hF => ?_
    refine d_val 20 10 (op := (Go.Op.assign (Go.Operand.tmp 30))) hF hS (by kernel_rfl) (fun W hW => x_assign rfl) (by kernel_rfl) (by decide) fun a hF => ?_
    refine d_end (by kernel_rfl) (hK5 _ _ ?_)
    refine wp_ret (res_slot hF rfl rfl ⟨by rw [hres], hB⟩)

set_option maxRecDepth 100000 in
set_option maxHeartbeats 1600000 in
theorem chainChecks_walk (rs bs : List UInt8) (hrs : rs.length = 32) (ex : Nat) (vb : Value) (i n : Int) (ps : List (List UInt8)) (vp : Value) (real : Bool) (w0 : World) (hR : RB ex w0 vb bs) (hlen : bs.length + 4096 ≤ 140737488355328) (hD : RD w0 vp ps) (hT : Tab w0) :
    Calls Tryd.prog 5 #[dig rs, vb, .int .i64 i, .int .i64 n, vp, .bool real] w0 fun e w' => e = .returned (.bool true) ∧ Below w0.heap.size w0 w' := by
  obtain ⟨ab, cb, rfl, _, _⟩ := hR.form
  obtain ⟨ap, cp, rfl, hcp⟩ := hD.form
  have hB := Below.refl w0.heap.size w0
  have sB := hB.size
  refine calls_fs 62 [(0, dig rs), (1, .slice ab bs.length cb), (2, .int .i64 i), (3, .int .i64 n), (4, .slice ap ps.length cp), (5, .bool real)] Tryd.func5 rfl rfl rfl rfl rfl fun a hF => ?_
  have hq0 : ps.length = heightF (n.toNat + 1) i.toNat n.toNat ∨ ¬ ps.length = heightF (n.toNat + 1) i.toNat n.toNat := Classical.em _
  rcases (show 70 < ps.length ∨ (ps.length ≤ 70 ∧ 1099511627776 < n) ∨ (ps.length ≤ 70 ∧ n ≤ 1099511627776 ∧ i < 0) ∨ (ps.length ≤ 70 ∧ n ≤ 1099511627776 ∧ 0 ≤ i ∧ n ≤ i) ∨ (ps.length ≤ 70 ∧ n ≤ 1099511627776 ∧ 0 ≤ i ∧ i < n ∧ ¬ ps.length = heightF (n.toNat + 1) i.toNat n.toNat ∧ real = true) ∨ (ps.length ≤ 70 ∧ n ≤ 1099511627776 ∧ 0 ≤ i ∧ i < n ∧ ¬ ps.length = heightF (n.toNat + 1) i.toNat n.toNat ∧ real = false) ∨ (ps.length ≤ 70 ∧ n ≤ 1099511627776 ∧ 0 ≤ i ∧ i < n ∧ ps.length = heightF (n.toNat + 1) i.toNat n.toNat ∧ real = true) ∨ (ps.length ≤ 70 ∧ n ≤ 1099511627776 ∧ 0 ≤ i ∧ i < n ∧ ps.length = heightF (n.toNat + 1) i.toNat n.toNat ∧ real = false) by cases real <;> simp <;> omega) with hp | ⟨hp, hp2⟩ | ⟨hp, hp2, hp3⟩ | ⟨hp, hp2, hp3, hp4⟩ | ⟨hp, hp2, hp3, hp4, hq, rfl⟩ | ⟨hp, hp2, hp3, hp4, hq, rfl⟩ | ⟨hp, hp2, hp3, hp4, hq, rfl⟩ | ⟨hp, hp2, hp3, hp4, hq, rfl⟩
  · skip
    refine wp_rs fun K2 hK2 => ?_
    refine s_box (rs.map encB) hF (by decide) rfl rfl fun w2 b6 a eb6 m6 B3 zb6 hF => ?_
    have sB3 := B3.size
    have hB := hB.trans (B3.mono hB.size)
    refine s_val hF (x_assign rfl) (by decide) fun a hF => ?_
    refine s_end (hK2 _ _ ?_)
    refine wp_seq_k fun K3 hK3 => ?_
    refine wp_rs fun K4 hK4 => ?_
    refine s_val hF (x_move rfl) (by decide) fun a hF => ?_
    refine s_val hF (x_len Tryd.underlying33 rfl) (by decide) fun a hF => ?_
    refine s_val hF (x_gtr (b := true) (decide_eq_true (by omega)) rfl rfl) (by decide) fun a hF => ?_
    refine s_val hF (x_move rfl) (by decide) fun a hF => ?_
    refine s_grdn 19 hF rfl rfl (by decide) fun a hF => ?_
    refine s_grdn 19 hF rfl rfl (by decide) fun a hF => ?_
    refine s_val hF (x_pick (b := true) rfl rfl) (by decide) fun a hF => ?_
    refine s_end (hK4 _ _ ?_)
    refine wp_if hF rfl ?_
    refine wp_rs fun K5 hK5 => ?_
    refine s_callB [] hF (enters_of Tryd.func15 (by kernel_rfl) rfl) rfl (by decide) (awake15 w2 (hT.old hB)) fun w4 a B5 hF => ?_
    have sB5 := B5.size
    have hB := hB.trans (B5.mono hB.size)
    have m6 := m6.old B5
    refine s_val hF (x_assign rfl) (by decide) fun a hF => ?_
    refine s_end (hK5 _ _ ?_)
    refine wp_ret (then_ret (res_slot hF rfl rfl ⟨rfl, hB⟩))
  · skip
    refine wp_rs fun K6 hK6 => ?_
    refine s_box (rs.map encB) hF (by decide) rfl rfl fun w6 b6 a eb6 m6 B7 zb6 hF => ?_
    have sB7 := B7.size
    have hB := hB.trans (B7.mono hB.size)
    refine s_val hF (x_assign rfl) (by decide) fun a hF => ?_
    refine s_end (hK6 _ _ ?_)
    refine wp_seq_k fun K7 hK7 => ?_
    refine wp_rs fun K8 hK8 => ?_
    refine s_val hF (x_move rfl) (by decide) fun a hF => ?_
    refine s_val hF (x_len Tryd.underlying33 rfl) (by decide) fun a hF => ?_
    refine s_val hF (x_gtr (b := false) (decide_eq_false (by omega)) rfl rfl) (by decide) fun a hF => ?_
    refine s_val hF (x_move rfl) (by decide) fun a hF => ?_
    refine s_grd 19 hF rfl rfl rfl ?_
    refine s_val hF (x_move rfl) (by decide) fun a hF => ?_
    refine s_grd 19 hF rfl rfl rfl ?_
    refine s_val hF (x_gtr (b := true) (decide_eq_true (by omega)) rfl rfl) (by decide) fun a hF => ?_
    refine s_val hF (x_pick rfl rfl) (by decide) fun a hF => ?_
    refine s_end (hK8 _ _ ?_)
    refine wp_if hF rfl ?_
    refine wp_rs fun K9 hK9 => ?_
    refine s_callB [] hF (enters_of Tryd.func15 (by kernel_rfl) rfl) rfl (by decide) (awake15 w6 (hT.old hB)) fun w8 a B9 hF => ?_
    have sB9 := B9.size
    have hB := hB.trans (B9.mono hB.size)
    have m6 := m6.old B9
    refine s_val hF (x_assign rfl) (by decide) fun a hF => ?_
    refine s_end (hK9 _ _ ?_)
    refine wp_ret (then_ret (res_slot hF rfl rfl ⟨rfl, hB⟩))
  · have hnp : ¬ (0 ≤ i ∧ i < n) := by omega
    refine wp_rs fun K10 hK10 => ?_
    refine s_box (rs.map encB) hF (by decide) rfl rfl fun w10 b6 a eb6 m6 B11 zb6 hF => ?_
    have sB11 := B11.size
    have hB := hB.trans (B11.mono hB.size)
    refine s_val hF (x_assign rfl) (by decide) fun a hF => ?_
    refine s_end (hK10 _ _ ?_)
    refine wp_seq_k fun K11 hK11 => ?_
    refine wp_rs fun K12 hK12 => ?_
    refine s_val hF (x_move rfl) (by decide) fun a hF => ?_
    refine s_val hF (x_len Tryd.underlying33 rfl) (by decide) fun a hF => ?_
    refine s_val hF (x_gtr (b := false) (decide_eq_false (by omega)) rfl rfl) (by decide) fun a hF => ?_
    refine s_val hF (x_move rfl) (by decide) fun a hF => ?_
    refine s_grd 19 hF rfl rfl rfl ?_
    refine s_val hF (x_move rfl) (by decide) fun a hF => ?_
    refine s_grd 19 hF rfl rfl rfl ?_
    refine s_val hF (x_gtr (b := false) (decide_eq_false (by omega)) rfl rfl) (by decide) fun a hF => ?_
    refine s_val hF (x_pick rfl rfl) (by decide) fun a hF => ?_
    refine s_end (hK12 _ _ ?_)
    refine wp_if hF rfl ?_
    refine wp_skip (hK11 _ _ ?_)
    refine wp_rs fun K13 hK13 => ?_
    refine s_val hF (x_assign rfl) (by decide) fun a hF => ?_
    refine s_end (hK13 _ _ ?_)
    refine wp_seq_k fun K14 hK14 => ?_
    refine wp_rs fun K15 hK15 => ?_
    refine s_val hF (x_move rfl) (by decide) fun a hF => ?_
    refine s_val hF (x_geq (b := false) (decide_eq_false (by omega)) rfl rfl) (by decide) fun a hF => ?_
    refine s_val hF (x_move rfl) (by decide) fun a hF => ?_
    refine s_grdn 26 hF rfl rfl (by decide) fun a hF => ?_
    refine s_grdn 26 hF rfl rfl (by decide) fun a hF => ?_
    refine s_grdn 26 hF rfl rfl (by decide) fun a hF => ?_
    refine s_val hF (x_pick (b := false) rfl rfl) (by decide) fun a hF => ?_
    refine s_end (hK15 _ _ ?_)
    refine wp_if hF rfl ?_
    refine wp_skip (hK14 _ _ ?_)
    refine wp_rs fun K16 hK16 => ?_
    refine s_val hF (x_loadD hrs m6 rfl) (by decide) fun a hF => ?_
    refine s_val hF (x_move rfl) (by decide) fun a hF => ?_
    refine s_val hF (x_move rfl) (by decide) fun a hF => ?_
    refine s_val hF (x_move rfl) (by decide) fun a hF => ?_
    refine s_val hF (x_move rfl) (by decide) fun a hF => ?_
    refine s_callB [_, _, .int .i64 i, .int .i64 n, _] hF (enters_of Tryd.func22 (by kernel_rfl) rfl) rfl (by decide) (check22 rs bs hrs _ _ i n ps _ w10 (by omega) (hR.below hB) hlen (hD.below hB) (hT.old hB)) fun w12 a B13 hF => ?_
    have sB13 := B13.size
    have hB := hB.trans (B13.mono hB.size)
    have m6 := m6.old B13
    rw [show chkL rs bs i n ps = false by rw [chkL, decide_eq_false hnp]; rfl] at hF
    refine s_val hF (x_move rfl) (by decide) fun a hF => ?_
    refine s_val hF (x_eqB (b := true) Tryd.underlying4 (rfl) rfl rfl) (by decide) fun a hF => ?_
    refine s_val hF (x_move rfl) (by decide) fun a hF => ?_
    refine s_grd 59 hF rfl rfl rfl ?_
    refine s_callB [] hF (enters_of Tryd.func15 (by kernel_rfl) rfl) rfl (by decide) (awake15 w12 (hT.old hB)) fun w14 a B15 hF => ?_
    have sB15 := B15.size
    have hB := hB.trans (B15.mono hB.size)
    have m6 := m6.old B15
    refine s_val hF (x_pick rfl rfl) (by decide) fun a hF => ?_
    refine s_val hF (x_assign rfl) (by decide) fun a hF => ?_
    refine s_end (hK16 _ _ ?_)
    refine wp_ret (res_slot hF rfl rfl ⟨rfl, hB⟩)
  · have hnp : ¬ (0 ≤ i ∧ i < n) := by omega
    refine wp_rs fun K17 hK17 => ?_
    refine s_box (rs.map encB) hF (by decide) rfl rfl fun w16 b6 a eb6 m6 B17 zb6 hF => ?_
    have sB17 := B17.size
    have hB := hB.trans (B17.mono hB.size)
    refine s_val hF (x_assign rfl) (by decide) fun a hF => ?_
    refine s_end (hK17 _ _ ?_)
    refine wp_seq_k fun K18 hK18 => ?_
    refine wp_rs fun K19 hK19 => ?_
    refine s_val hF (x_move rfl) (by decide) fun a hF => ?_
    refine s_val hF (x_len Tryd.underlying33 rfl) (by decide) fun a hF => ?_
    refine s_val hF (x_gtr (b := false) (decide_eq_false (by omega)) rfl rfl) (by decide) fun a hF => ?_
    refine s_val hF (x_move rfl) (by decide) fun a hF => ?_
    refine s_grd 19 hF rfl rfl rfl ?_
    refine s_val hF (x_move rfl) (by decide) fun a hF => ?_
    refine s_grd 19 hF rfl rfl rfl ?_
    refine s_val hF (x_gtr (b := false) (decide_eq_false (by omega)) rfl rfl) (by decide) fun a hF => ?_
    refine s_val hF (x_pick rfl rfl) (by decide) fun a hF => ?_
    refine s_end (hK19 _ _ ?_)
    refine wp_if hF rfl ?_
    refine wp_skip (hK18 _ _ ?_)
    refine wp_rs fun K20 hK20 => ?_
    refine s_val hF (x_assign rfl) (by decide) fun a hF => ?_
    refine s_end (hK20 _ _ ?_)
    refine wp_seq_k fun K21 hK21 => ?_
    refine wp_rs fun K22 hK22 => ?_
    refine s_val hF (x_move rfl) (by decide) fun a hF => ?_
    refine s_val hF (x_geq (b := true) (decide_eq_true (by omega)) rfl rfl) (by decide) fun a hF => ?_
    refine s_val hF (x_move rfl) (by decide) fun a hF => ?_
    refine s_grd 26 hF rfl rfl rfl ?_
    refine s_val hF (x_move rfl) (by decide) fun a hF => ?_
    refine s_grd 26 hF rfl rfl rfl ?_
    refine s_val hF (x_move rfl) (by decide) fun a hF => ?_
    refine s_grd 26 hF rfl rfl rfl ?_
    refine s_val hF (x_lss (b := false) (decide_eq_false (by omega)) rfl rfl) (by decide) fun a hF => ?_
    refine s_val hF (x_pick rfl rfl) (by decide) fun a hF => ?_
    refine s_end (hK22 _ _ ?_)
    refine wp_if hF rfl ?_
    refine wp_skip (hK21 _ _ ?_)
    refine wp_rs fun K23 hK23 => ?_
    refine s_val hF (x_loadD hrs m6 rfl) (by decide) fun a hF => ?_
    refine s_val hF (x_move rfl) (by decide) fun a hF => ?_
    refine s_val hF (x_move rfl) (by decide) fun a hF => ?_
    refine s_val hF (x_move rfl) (by decide) fun a hF => ?_
    refine s_val hF (x_move rfl) (by decide) fun a hF => ?_
    refine s_callB [_, _, .int .i64 i, .int .i64 n, _] hF (enters_of Tryd.func22 (by kernel_rfl) rfl) rfl (by decide) (check22 rs bs hrs _ _ i n ps _ w16 (by omega) (hR.below hB) hlen (hD.below hB) (hT.old hB)) fun w18 a B19 hF => ?_
    have sB19 := B19.size
    have hB := hB.trans (B19.mono hB.size)
    have m6 := m6.old B19
    rw [show chkL rs bs i n ps = false by rw [chkL, decide_eq_false hnp]; rfl] at hF
    refine s_val hF (x_move rfl) (by decide) fun a hF => ?_
    refine s_val hF (x_eqB (b := true) Tryd.underlying4 (rfl) rfl rfl) (by decide) fun a hF => ?_
    refine s_val hF (x_move rfl) (by decide) fun a hF => ?_
    refine s_grd 59 hF rfl rfl rfl ?_
    refine s_callB [] hF (enters_of Tryd.func15 (by kernel_rfl) rfl) rfl (by decide) (awake15 w18 (hT.old hB)) fun w20 a B21 hF => ?_
    have sB21 := B21.size
    have hB := hB.trans (B21.mono hB.size)
    have m6 := m6.old B21
    refine s_val hF (x_pick rfl rfl) (by decide) fun a hF => ?_
    refine s_val hF (x_assign rfl) (by decide) fun a hF => ?_
    refine s_end (hK23 _ _ ?_)
    refine wp_ret (res_slot hF rfl rfl ⟨rfl, hB⟩)
  · obtain ⟨i, rfl⟩ : ∃ j : Nat, i = (j : Int) := ⟨i.toNat, by omega⟩
    obtain ⟨n, rfl⟩ : ∃ j : Nat, n = (j : Int) := ⟨n.toNat, by omega⟩
    have hpl : 0 ≤ (i : Int) ∧ (i : Int) < (n : Int) := by omega
    simp only [Int.toNat_natCast] at hq
    refine wp_rs fun K24 hK24 => ?_
    refine s_box (rs.map encB) hF (by decide) rfl rfl fun w22 b6 a eb6 m6 B23 zb6 hF => ?_
    have sB23 := B23.size
    have hB := hB.trans (B23.mono hB.size)
    refine s_val hF (x_assign rfl) (by decide) fun a hF => ?_
    refine s_end (hK24 _ _ ?_)
    refine wp_seq_k fun K25 hK25 => ?_
    refine wp_rs fun K26 hK26 => ?_
    refine s_val hF (x_move rfl) (by decide) fun a hF => ?_
    refine s_val hF (x_len Tryd.underlying33 rfl) (by decide) fun a hF => ?_
    refine s_val hF (x_gtr (b := false) (decide_eq_false (by omega)) rfl rfl) (by decide) fun a hF => ?_
    refine s_val hF (x_move rfl) (by decide) fun a hF => ?_
    refine s_grd 19 hF rfl rfl rfl ?_
    refine s_val hF (x_move rfl) (by decide) fun a hF => ?_
    refine s_grd 19 hF rfl rfl rfl ?_
    refine s_val hF (x_gtr (b := false) (decide_eq_false (by omega)) rfl rfl) (by decide) fun a hF => ?_
    refine s_val hF (x_pick rfl rfl) (by decide) fun a hF => ?_
    refine s_end (hK26 _ _ ?_)
    refine wp_if hF rfl ?_
    refine wp_skip (hK25 _ _ ?_)
    refine wp_rs fun K27 hK27 => ?_
    refine s_val hF (x_assign rfl) (by decide) fun a hF => ?_
    refine s_end (hK27 _ _ ?_)
    refine wp_seq_k fun K28 hK28 => ?_
    refine wp_rs fun K29 hK29 => ?_
    refine s_val hF (x_move rfl) (by decide) fun a hF => ?_
    refine s_val hF (x_geq (b := true) (decide_eq_true (by omega)) rfl rfl) (by decide) fun a hF => ?_
    refine s_val hF (x_move rfl) (by decide) fun a hF => ?_
    refine s_grd 26 hF rfl rfl rfl ?_
    refine s_val hF (x_move rfl) (by decide) fun a hF => ?_
    refine s_grd 26 hF rfl rfl rfl ?_
    refine s_val hF (x_move rfl) (by decide) fun a hF => ?_
    refine s_grd 26 hF rfl rfl rfl ?_
    refine s_val hF (x_lss (b := true) (decide_eq_true (by omega)) rfl rfl) (by decide) fun a hF => ?_
    refine s_val hF (x_pick rfl rfl) (by decide) fun a hF => ?_
    refine s_end (hK29 _ _ ?_)
    refine wp_if hF rfl ?_
    refine wp_rs fun K30 hK30 => ?_
    refine s_val hF (x_move rfl) (by decide) fun a hF => ?_
    refine s_callB [_] hF (enters_of Tryd.func10 (by kernel_rfl) rfl) rfl (by decide) (rleaf10 _ bs _ w22 (hR.below hB) (by omega)) fun w24 a B25 hF => ?_
    have sB25 := B25.size
    have hB := hB.trans (B25.mono hB.size)
    have m6 := m6.old B25
    refine s_val hF (x_move rfl) (by decide) fun a hF => ?_
    refine s_val hF (x_move rfl) (by decide) fun a hF => ?_
    refine s_val hF (x_move rfl) (by decide) fun a hF => ?_
    refine s_callB [_, .int .i64 (i : Int), .int .i64 (n : Int), _] hF (enters_of Tryd.func21 (by kernel_rfl) rfl) rfl (by decide) (rclimb21 (n + 1) i n _ ps _ w24 (by omega) (by omega) (by omega) (leafL_length _ _) (hD.below hB) (by omega)) fun w26 a B27 hF => ?_
    have sB27 := B27.size
    have hB := hB.trans (B27.mono hB.size)
    have m6 := m6.old B27
    rw [decide_eq_false hq] at hF
    refine s_val hF (x_move rfl) (by decide) fun a hF => ?_
    refine s_val hF (x_ext rfl rfl) (by decide) fun a hF => ?_
    refine s_val hF (x_ext rfl rfl) (by decide) fun a hF => ?_
    refine s_alloc hF (by decide) zero24 fun w28 b14 a eb14 m14 B29 zb14 hF => ?_
    have sB29 := B29.size
    have hB := hB.trans (B29.mono hB.size)
    have m6 := m6.old B29
    refine s_putD z32l (climbF_length _ _ (leafL_length _ _) _ _ _ _) m14 hF rfl rfl fun w30 m14 o31 => ?_
    have so31 := o31.size
    have hB := hB.trans (o31.below (by omega))
    have m6 := m6.only o31 (by omega)
    refine s_val hF (x_assign rfl) (by decide) fun a hF => ?_
    refine s_end (hK30 _ _ ?_)
    refine wp_seq_k fun K31 hK31 => ?_
    refine wp_rs fun K32 hK32 => ?_
    refine s_val hF (x_move rfl) (by decide) fun a hF => ?_
    refine s_val hF (x_move rfl) (by decide) fun a hF => ?_
    refine s_grd 41 hF rfl rfl rfl ?_
    refine s_val hF (x_move rfl) (by decide) fun a hF => ?_
    refine s_val hF (x_pick (b := true) rfl rfl) (by decide) fun a hF => ?_
    refine s_end (hK32 _ _ ?_)
    refine wp_if hF rfl ?_
    refine wp_skip (hK31 _ _ ?_)
    refine wp_region_lit ?_
    refine s_val hF (x_move rfl) (by decide) fun a hF => ?_
    refine s_val hF (x_move rfl) (by decide) fun a hF => ?_
    refine s_grdn 46 hF rfl rfl (by decide) fun a hF => ?_
    refine s_grdn 46 hF rfl rfl (by decide) fun a hF => ?_
    refine s_grdn 46 hF rfl rfl (by decide) fun a hF => ?_
    refine s_val hF (x_pick (b := false) rfl rfl) (by decide) fun a hF => ?_
    refine s_val hF (x_assign rfl) (by decide) fun a hF => ?_
    refine s_end (hK28 _ _ ?_)
    refine wp_rs fun K33 hK33 => ?_
    refine s_val hF (x_loadD hrs m6 rfl) (by decide) fun a hF => ?_
    refine s_val hF (x_move rfl) (by decide) fun a hF => ?_
    refine s_val hF (x_move rfl) (by decide) fun a hF => ?_
    refine s_val hF (x_move rfl) (by decide) fun a hF => ?_
    refine s_val hF (x_move rfl) (by decide) fun a hF => ?_
    refine s_callB [_, _, .int .i64 (i : Int), .int .i64 (n : Int), _] hF (enters_of Tryd.func22 (by kernel_rfl) rfl) rfl (by decide) (check22 rs bs hrs _ _ (i : Int) (n : Int) ps _ w30 (by omega) (hR.below hB) hlen (hD.below hB) (hT.old hB)) fun w32 a B33 hF => ?_
    have sB33 := B33.size
    have hB := hB.trans (B33.mono hB.size)
    have m6 := m6.old B33
    have m14 := m14.old B33
    rw [show chkL rs bs (i : Int) (n : Int) ps = false by rw [chkL, decide_eq_false (show ¬ ps.length = heightF ((n : Int).toNat + 1) (i : Int).toNat (n : Int).toNat from hq)]; simp] at hF
    refine s_val hF (x_move rfl) (by decide) fun a hF => ?_
    refine s_val hF (x_eqB (b := true) Tryd.underlying4 (rfl) rfl rfl) (by decide) fun a hF => ?_
    refine s_val hF (x_move rfl) (by decide) fun a hF => ?_
    refine s_grd 59 hF rfl rfl rfl ?_
    refine s_callB [] hF (enters_of Tryd.func15 (by kernel_rfl) rfl) rfl (by decide) (awake15 w32 (hT.old hB)) fun w34 a B35 hF => ?_
    have sB35 := B35.size
    have hB := hB.trans (B35.mono hB.size)
    have m6 := m6.old B35
    have m14 := m14.old B35
    refine s_val hF (x_pick rfl rfl) (by decide) fun a hF => ?_
    refine s_val hF (x_assign rfl) (by decide) fun a hF => ?_
    refine s_end (hK33 _ _ ?_)
    refine wp_ret (res_slot hF rfl rfl ⟨rfl, hB⟩)
  · obtain ⟨i, rfl⟩ : ∃ j : Nat, i = (j : Int) := ⟨i.toNat, by omega⟩
    obtain ⟨n, rfl⟩ : ∃ j : Nat, n = (j : Int) := ⟨n.toNat, by omega⟩
    have hpl : 0 ≤ (i : Int) ∧ (i : Int) < (n : Int) := by omega
    simp only [Int.toNat_natCast] at hq
    refine wp_rs fun K34 hK34 => ?_
    refine s_box (rs.map encB) hF (by decide) rfl rfl fun w36 b6 a eb6 m6 B37 zb6 hF => ?_
    have sB37 := B37.size
    have hB := hB.trans (B37.mono hB.size)
    refine s_val hF (x_assign rfl) (by decide) fun a hF => ?_
    refine s_end (hK34 _ _ ?_)
    refine wp_seq_k fun K35 hK35 => ?_
    refine wp_rs fun K36 hK36 => ?_
    refine s_val hF (x_move rfl) (by decide) fun a hF => ?_
    refine s_val hF (x_len Tryd.underlying33 rfl) (by decide) fun a hF => ?_
    refine s_val hF (x_gtr (b := false) (decide_eq_false (by omega)) rfl rfl) (by decide) fun a hF => ?_
    refine s_val hF (x_move rfl) (by decide) fun a hF => ?_
    refine s_grd 19 hF rfl rfl rfl ?_
    refine s_val hF (x_move rfl) (by decide) fun a hF => ?_
    refine s_grd 19 hF rfl rfl rfl ?_
    refine s_val hF (x_gtr (b := false) (decide_eq_false (by omega)) rfl rfl) (by decide) fun a hF => ?_
    refine s_val hF (x_pick rfl rfl) (by decide) fun a hF => ?_
    refine s_end (hK36 _ _ ?_)
    refine wp_if hF rfl ?_
    refine wp_skip (hK35 _ _ ?_)
    refine wp_rs fun K37 hK37 => ?_
    refine s_val hF (x_assign rfl) (by decide) fun a hF => ?_
    refine s_end (hK37 _ _ ?_)
    refine wp_seq_k fun K38 hK38 => ?_
    refine wp_rs fun K39 hK39 => ?_
    refine s_val hF (x_move rfl) (by decide) fun a hF => ?_
    refine s_val hF (x_geq (b := true) (decide_eq_true (by omega)) rfl rfl) (by decide) fun a hF => ?_
    refine s_val hF (x_move rfl) (by decide) fun a hF => ?_
    refine s_grd 26 hF rfl rfl rfl ?_
    refine s_val hF (x_move rfl) (by decide) fun a hF => ?_
    refine s_grd 26 hF rfl rfl rfl ?_
    refine s_val hF (x_move rfl) (by decide) fun a hF => ?_
    refine s_grd 26 hF rfl rfl rfl ?_
    refine s_val hF (x_lss (b := true) (decide_eq_true (by omega)) rfl rfl) (by decide) fun a hF => ?_
    refine s_val hF (x_pick rfl rfl) (by decide) fun a hF => ?_
    refine s_end (hK39 _ _ ?_)
    refine wp_if hF rfl ?_
    refine wp_rs fun K40 hK40 => ?_
    refine s_val hF (x_move rfl) (by decide) fun a hF => ?_
    refine s_callB [_] hF (enters_of Tryd.func10 (by kernel_rfl) rfl) rfl (by decide) (rleaf10 _ bs _ w36 (hR.below hB) (by omega)) fun w38 a B39 hF => ?_
    have sB39 := B39.size
    have hB := hB.trans (B39.mono hB.size)
    have m6 := m6.old B39
    refine s_val hF (x_move rfl) (by decide) fun a hF => ?_
    refine s_val hF (x_move rfl) (by decide) fun a hF => ?_
    refine s_val hF (x_move rfl) (by decide) fun a hF => ?_
    refine s_callB [_, .int .i64 (i : Int), .int .i64 (n : Int), _] hF (enters_of Tryd.func21 (by kernel_rfl) rfl) rfl (by decide) (rclimb21 (n + 1) i n _ ps _ w38 (by omega) (by omega) (by omega) (leafL_length _ _) (hD.below hB) (by omega)) fun w40 a B41 hF => ?_
    have sB41 := B41.size
    have hB := hB.trans (B41.mono hB.size)
    have m6 := m6.old B41
    rw [decide_eq_false hq] at hF
    refine s_val hF (x_move rfl) (by decide) fun a hF => ?_
    refine s_val hF (x_ext rfl rfl) (by decide) fun a hF => ?_
    refine s_val hF (x_ext rfl rfl) (by decide) fun a hF => ?_
    refine s_alloc hF (by decide) zero24 fun w42 b14 a eb14 m14 B43 zb14 hF => ?_
    have sB43 := B43.size
    have hB := hB.trans (B43.mono hB.size)
    have m6 := m6.old B43
    refine s_putD z32l (climbF_length _ _ (leafL_length _ _) _ _ _ _) m14 hF rfl rfl fun w44 m14 o45 => ?_
    have so45 := o45.size
    have hB := hB.trans (o45.below (by omega))
    have m6 := m6.only o45 (by omega)
    refine s_val hF (x_assign rfl) (by decide) fun a hF => ?_
    refine s_end (hK40 _ _ ?_)
    refine wp_seq_k fun K41 hK41 => ?_
    refine wp_rs fun K42 hK42 => ?_
    refine s_val hF (x_move rfl) (by decide) fun a hF => ?_
    refine s_val hF (x_move rfl) (by decide) fun a hF => ?_
    refine s_grdn 41 hF rfl rfl (by decide) fun a hF => ?_
    refine s_val hF (x_pick (b := false) rfl rfl) (by decide) fun a hF => ?_
    refine s_end (hK42 _ _ ?_)
    refine wp_if hF rfl ?_
    refine wp_skip (hK41 _ _ ?_)
    refine wp_region_lit ?_
    refine s_val hF (x_move rfl) (by decide) fun a hF => ?_
    refine s_val hF (x_move rfl) (by decide) fun a hF => ?_
    refine s_grdn 46 hF rfl rfl (by decide) fun a hF => ?_
    refine s_grdn 46 hF rfl rfl (by decide) fun a hF => ?_
    refine s_grdn 46 hF rfl rfl (by decide) fun a hF => ?_
    refine s_val hF (x_pick (b := false) rfl rfl) (by decide) fun a hF => ?_
    refine s_val hF (x_assign rfl) (by decide) fun a hF => ?_
    refine s_end (hK38 _ _ ?_)
    refine wp_rs fun K43 hK43 => ?_
    refine s_val hF (x_loadD hrs m6 rfl) (by decide) fun a hF => ?_
    refine s_val hF (x_move rfl) (by decide) fun a hF => ?_
    refine s_val hF (x_move rfl) (by decide) fun a hF => ?_
    refine s_val hF (x_move rfl) (by decide) fun a hF => ?_
    refine s_val hF (x_move rfl) (by decide) fun a hF => ?_
    refine s_callB [_, _, .int .i64 (i : Int), .int .i64 (n : Int), _] hF (enters_of Tryd.func22 (by kernel_rfl) rfl) rfl (by decide) (check22 rs bs hrs _ _ (i : Int) (n : Int) ps _ w44 (by omega) (hR.below hB) hlen (hD.below hB) (hT.old hB)) fun w46 a B47 hF => ?_
    have sB47 := B47.size
    have hB := hB.trans (B47.mono hB.size)
    have m6 := m6.old B47
    have m14 := m14.old B47
    rw [show chkL rs bs (i : Int) (n : Int) ps = false by rw [chkL, decide_eq_false (show ¬ ps.length = heightF ((n : Int).toNat + 1) (i : Int).toNat (n : Int).toNat from hq)]; simp] at hF
    refine s_val hF (x_move rfl) (by decide) fun a hF => ?_
    refine s_val hF (x_eqB (b := true) Tryd.underlying4 (rfl) rfl rfl) (by decide) fun a hF => ?_
    refine s_val hF (x_move rfl) (by decide) fun a hF => ?_
    refine s_grd 59 hF rfl rfl rfl ?_
    refine s_callB [] hF (enters_of Tryd.func15 (by kernel_rfl) rfl) rfl (by decide) (awake15 w46 (hT.old hB)) fun w48 a B49 hF => ?_
    have sB49 := B49.size
    have hB := hB.trans (B49.mono hB.size)
    have m6 := m6.old B49
    have m14 := m14.old B49
    refine s_val hF (x_pick rfl rfl) (by decide) fun a hF => ?_
    refine s_val hF (x_assign rfl) (by decide) fun a hF => ?_
    refine s_end (hK43 _ _ ?_)
    refine wp_ret (res_slot hF rfl rfl ⟨rfl, hB⟩)
  · obtain ⟨i, rfl⟩ : ∃ j : Nat, i = (j : Int) := ⟨i.toNat, by omega⟩
    obtain ⟨n, rfl⟩ : ∃ j : Nat, n = (j : Int) := ⟨n.toNat, by omega⟩
    have hpl : 0 ≤ (i : Int) ∧ (i : Int) < (n : Int) := by omega
    simp only [Int.toNat_natCast] at hq
    refine wp_rs fun K44 hK44 => ?_
    refine s_box (rs.map encB) hF (by decide) rfl rfl fun w50 b6 a eb6 m6 B51 zb6 hF => ?_
    have sB51 := B51.size
    have hB := hB.trans (B51.mono hB.size)
    refine s_val hF (x_assign rfl) (by decide) fun a hF => ?_
    refine s_end (hK44 _ _ ?_)
    refine wp_seq_k fun K45 hK45 => ?_
    refine wp_rs fun K46 hK46 => ?_
    refine s_val hF (x_move rfl) (by decide) fun a hF => ?_
    refine s_val hF (x_len Tryd.underlying33 rfl) (by decide) fun a hF => ?_
    refine s_val hF (x_gtr (b := false) (decide_eq_false (by omega)) rfl rfl) (by decide) fun a hF => ?_
    refine s_val hF (x_move rfl) (by decide) fun a hF => ?_
    refine s_grd 19 hF rfl rfl rfl ?_
    refine s_val hF (x_move rfl) (by decide) fun a hF => ?_
    refine s_grd 19 hF rfl rfl rfl ?_
    refine s_val hF (x_gtr (b := false) (decide_eq_false (by omega)) rfl rfl) (by decide) fun a hF => ?_
    refine s_val hF (x_pick rfl rfl) (by decide) fun a hF => ?_
    refine s_end (hK46 _ _ ?_)
    refine wp_if hF rfl ?_
    refine wp_skip (hK45 _ _ ?_)
    refine wp_rs fun K47 hK47 => ?_
    refine s_val hF (x_assign rfl) (by decide) fun a hF => ?_
    refine s_end (hK47 _ _ ?_)
    refine wp_seq_k fun K48 hK48 => ?_
    refine wp_rs fun K49 hK49 => ?_
    refine s_val hF (x_move rfl) (by decide) fun a hF => ?_
    refine s_val hF (x_geq (b := true) (decide_eq_true (by omega)) rfl rfl) (by decide) fun a hF => ?_
    refine s_val hF (x_move rfl) (by decide) fun a hF => ?_
    refine s_grd 26 hF rfl rfl rfl ?_
    refine s_val hF (x_move rfl) (by decide) fun a hF => ?_
    refine s_grd 26 hF rfl rfl rfl ?_
    refine s_val hF (x_move rfl) (by decide) fun a hF => ?_
    refine s_grd 26 hF rfl rfl rfl ?_
    refine s_val hF (x_lss (b := true) (decide_eq_true (by omega)) rfl rfl) (by decide) fun a hF => ?_
    refine s_val hF (x_pick rfl rfl) (by decide) fun a hF => ?_
    refine s_end (hK49 _ _ ?_)
    refine wp_if hF rfl ?_
    refine wp_rs fun K50 hK50 => ?_
    refine s_val hF (x_move rfl) (by decide) fun a hF => ?_
    refine s_callB [_] hF (enters_of Tryd.func10 (by kernel_rfl) rfl) rfl (by decide) (rleaf10 _ bs _ w50 (hR.below hB) (by omega)) fun w52 a B53 hF => ?_
    have sB53 := B53.size
    have hB := hB.trans (B53.mono hB.size)
    have m6 := m6.old B53
    refine s_val hF (x_move rfl) (by decide) fun a hF => ?_
    refine s_val hF (x_move rfl) (by decide) fun a hF => ?_
    refine s_val hF (x_move rfl) (by decide) fun a hF => ?_
    refine s_callB [_, .int .i64 (i : Int), .int .i64 (n : Int), _] hF (enters_of Tryd.func21 (by kernel_rfl) rfl) rfl (by decide) (rclimb21 (n + 1) i n _ ps _ w52 (by omega) (by omega) (by omega) (leafL_length _ _) (hD.below hB) (by omega)) fun w54 a B55 hF => ?_
    have sB55 := B55.size
    have hB := hB.trans (B55.mono hB.size)
    have m6 := m6.old B55
    rw [decide_eq_true hq] at hF
    refine s_val hF (x_move rfl) (by decide) fun a hF => ?_
    refine s_val hF (x_ext rfl rfl) (by decide) fun a hF => ?_
    refine s_val hF (x_ext rfl rfl) (by decide) fun a hF => ?_
    refine s_alloc hF (by decide) zero24 fun w56 b14 a eb14 m14 B57 zb14 hF => ?_
    have sB57 := B57.size
    have hB := hB.trans (B57.mono hB.size)
    have m6 := m6.old B57
    refine s_putD z32l (climbF_length _ _ (leafL_length _ _) _ _ _ _) m14 hF rfl rfl fun w58 m14 o59 => ?_
    have so59 := o59.size
    have hB := hB.trans (o59.below (by omega))
    have m6 := m6.only o59 (by omega)
    refine s_val hF (x_assign rfl) (by decide) fun a hF => ?_
    refine s_end (hK50 _ _ ?_)
    refine wp_seq_k fun K51 hK51 => ?_
    refine wp_rs fun K52 hK52 => ?_
    refine s_val hF (x_move rfl) (by decide) fun a hF => ?_
    refine s_val hF (x_move rfl) (by decide) fun a hF => ?_
    refine s_grd 41 hF rfl rfl rfl ?_
    refine s_val hF (x_move rfl) (by decide) fun a hF => ?_
    refine s_val hF (x_pick (b := true) rfl rfl) (by decide) fun a hF => ?_
    refine s_end (hK52 _ _ ?_)
    refine wp_if hF rfl ?_
    refine wp_region_lit ?_
    refine s_val hF (x_loadD (climbF_length _ _ (leafL_length _ _) _ _ _ _) m14 rfl) (by decide) fun a hF => ?_
    refine s_putD hrs (climbF_length _ _ (leafL_length _ _) _ _ _ _) m6 hF rfl rfl fun w60 m6 o61 => ?_
    have so61 := o61.size
    have hB := hB.trans (o61.below (by omega))
    have m14 := m14.only o61 (by omega)
    refine s_end (hK51 _ _ ?_)
    refine wp_region_lit ?_
    refine s_val hF (x_move rfl) (by decide) fun a hF => ?_
    refine s_val hF (x_move rfl) (by decide) fun a hF => ?_
    refine s_grd 46 hF rfl rfl rfl ?_
    refine s_val hF (x_loadD (climbF_length _ _ (leafL_length _ _) _ _ _ _) m14 rfl) (by decide) fun a hF => ?_
    refine s_grd 46 hF rfl rfl rfl ?_
    refine s_val hF (x_loadD (climbF_length _ _ (leafL_length _ _) _ _ _ _) m6 rfl) (by decide) fun a hF => ?_
    refine s_grd 46 hF rfl rfl rfl ?_
    refine s_val hF (x_eqDT (climbF_length _ _ (leafL_length _ _) _ _ _ _) rfl rfl rfl) (by decide) fun a hF => ?_
    refine s_val hF (x_pick rfl rfl) (by decide) fun a hF => ?_
    refine s_val hF (x_assign rfl) (by decide) fun a hF => ?_
    refine s_end (hK48 _ _ ?_)
    refine wp_rs fun K53 hK53 => ?_
    refine s_val hF (x_loadD (climbF_length _ _ (leafL_length _ _) _ _ _ _) m6 rfl) (by decide) fun a hF => ?_
    refine s_val hF (x_move rfl) (by decide) fun a hF => ?_
    refine s_val hF (x_move rfl) (by decide) fun a hF => ?_
    refine s_val hF (x_move rfl) (by decide) fun a hF => ?_
    refine s_val hF (x_move rfl) (by decide) fun a hF => ?_
    refine s_callB [_, _, .int .i64 (i : Int), .int .i64 (n : Int), _] hF (enters_of Tryd.func22 (by kernel_rfl) rfl) rfl (by decide) (check22 (climbF kTab (leafL kTab bs) (n + 1) i n ps) bs (climbF_length _ _ (leafL_length _ _) _ _ _ _) _ _ (i : Int) (n : Int) ps _ w60 (by omega) (hR.below hB) hlen (hD.below hB) (hT.old hB)) fun w62 a B63 hF => ?_
    have sB63 := B63.size
    have hB := hB.trans (B63.mono hB.size)
    have m6 := m6.old B63
    have m14 := m14.old B63
    rw [show chkL (climbF kTab (leafL kTab bs) (n + 1) i n ps) bs (i : Int) (n : Int) ps = true by rw [chkL, decide_eq_true hpl, decide_eq_true (show ps.length = heightF ((n : Int).toNat + 1) (i : Int).toNat (n : Int).toNat from hq)]; simp only [Bool.true_and]; exact decide_eq_true rfl] at hF
    refine s_val hF (x_move rfl) (by decide) fun a hF => ?_
    refine s_val hF (x_eqB (b := true) Tryd.underlying4 (rfl) rfl rfl) (by decide) fun a hF => ?_
    refine s_val hF (x_move rfl) (by decide) fun a hF => ?_
    refine s_grd 59 hF rfl rfl rfl ?_
    refine s_callB [] hF (enters_of Tryd.func15 (by kernel_rfl) rfl) rfl (by decide) (awake15 w62 (hT.old hB)) fun w64 a B65 hF => ?_
    have sB65 := B65.size
    have hB := hB.trans (B65.mono hB.size)
    have m6 := m6.old B65
    have m14 := m14.old B65
    refine s_val hF (x_pick rfl rfl) (by decide) fun a hF => ?_
    refine s_val hF (x_assign rfl) (by decide) fun a hF => ?_
    refine s_end (hK53 _ _ ?_)
    refine wp_ret (res_slot hF rfl rfl ⟨rfl, hB⟩)
  · obtain ⟨i, rfl⟩ : ∃ j : Nat, i = (j : Int) := ⟨i.toNat, by omega⟩
    obtain ⟨n, rfl⟩ : ∃ j : Nat, n = (j : Int) := ⟨n.toNat, by omega⟩
    have hpl : 0 ≤ (i : Int) ∧ (i : Int) < (n : Int) := by omega
    simp only [Int.toNat_natCast] at hq
    refine wp_rs fun K54 hK54 => ?_
    refine s_box (rs.map encB) hF (by decide) rfl rfl fun w66 b6 a eb6 m6 B67 zb6 hF => ?_
    have sB67 := B67.size
    have hB := hB.trans (B67.mono hB.size)
    refine s_val hF (x_assign rfl) (by decide) fun a hF => ?_
    refine s_end (hK54 _ _ ?_)
    refine wp_seq_k fun K55 hK55 => ?_
    refine wp_rs fun K56 hK56 => ?_
    refine s_val hF (x_move rfl) (by decide) fun a hF => ?_
    refine s_val hF (x_len Tryd.underlying33 rfl) (by decide) fun a hF => ?_
    refine s_val hF (x_gtr (b := false) (decide_eq_false (by omega)) rfl rfl) (by decide) fun a hF => ?_
    refine s_val hF (x_move rfl) (by decide) fun a hF => ?_
    refine s_grd 19 hF rfl rfl rfl ?_
    refine s_val hF (x_move rfl) (by decide) fun a hF => ?_
    refine s_grd 19 hF rfl rfl rfl ?_
    refine s_val hF (x_gtr (b := false) (decide_eq_false (by omega)) rfl rfl) (by decide) fun a hF => ?_
    refine s_val hF (x_pick rfl rfl) (by decide) fun a hF => ?_
    refine s_end (hK56 _ _ ?_)
    refine wp_if hF rfl ?_
    refine wp_skip (hK55 _ _ ?_)
    refine wp_rs fun K57 hK57 => ?_
    refine s_val hF (x_assign rfl) (by decide) fun a hF => ?_
    refine s_end (hK57 _ _ ?_)
    refine wp_seq_k fun K58 hK58 => ?_
    refine wp_rs fun K59 hK59 => ?_
    refine s_val hF (x_move rfl) (by decide) fun a hF => ?_
    refine s_val hF (x_geq (b := true) (decide_eq_true (by omega)) rfl rfl) (by decide) fun a hF => ?_
    refine s_val hF (x_move rfl) (by decide) fun a hF => ?_
    refine s_grd 26 hF rfl rfl rfl ?_
    refine s_val hF (x_move rfl) (by decide) fun a hF => ?_
    refine s_grd 26 hF rfl rfl rfl ?_
    refine s_val hF (x_move rfl) (by decide) fun a hF => ?_
    refine s_grd 26 hF rfl rfl rfl ?_
    refine s_val hF (x_lss (b := true) (decide_eq_true (by omega)) rfl rfl) (by decide) fun a hF => ?_
    refine s_val hF (x_pick rfl rfl) (by decide) fun a hF => ?_
    refine s_end (hK59 _ _ ?_)
    refine wp_if hF rfl ?_
    refine wp_rs fun K60 hK60 => ?_
    refine s_val hF (x_move rfl) (by decide) fun a hF => ?_
    refine s_callB [_] hF (enters_of Tryd.func10 (by kernel_rfl) rfl) rfl (by decide) (rleaf10 _ bs _ w66 (hR.below hB) (by omega)) fun w68 a B69 hF => ?_
    have sB69 := B69.size
    have hB := hB.trans (B69.mono hB.size)
    have m6 := m6.old B69
    refine s_val hF (x_move rfl) (by decide) fun a hF => ?_
    refine s_val hF (x_move rfl) (by decide) fun a hF => ?_
    refine s_val hF (x_move rfl) (by decide) fun a hF => ?_
    refine s_callB [_, .int .i64 (i : Int), .int .i64 (n : Int), _] hF (enters_of Tryd.func21 (by kernel_rfl) rfl) rfl (by decide) (rclimb21 (n + 1) i n _ ps _ w68 (by omega) (by omega) (by omega) (leafL_length _ _) (hD.below hB) (by omega)) fun w70 a B71 hF => ?_
    have sB71 := B71.size
    have hB := hB.trans (B71.mono hB.size)
    have m6 := m6.old B71
    rw [decide_eq_true hq] at hF
    refine s_val hF (x_move rfl) (by decide) fun a hF => ?_
    refine s_val hF (x_ext rfl rfl) (by decide) fun a hF => ?_
    refine s_val hF (x_ext rfl rfl) (by decide) fun a hF => ?_
    refine s_alloc hF (by decide) zero24 fun w72 b14 a eb14 m14 B73 zb14 hF => ?_
    have sB73 := B73.size
    have hB := hB.trans (B73.mono hB.size)
    have m6 := m6.old B73
    refine s_putD z32l (climbF_length _ _ (leafL_length _ _) _ _ _ _) m14 hF rfl rfl fun w74 m14 o75 => ?_
    have so75 := o75.size
    have hB := hB.trans (o75.below (by omega))
    have m6 := m6.only o75 (by omega)
    refine s_val hF (x_assign rfl) (by decide) fun a hF => ?_
    refine s_end (hK60 _ _ ?_)
    refine wp_seq_k fun K61 hK61 => ?_
    refine wp_rs fun K62 hK62 => ?_
    refine s_val hF (x_move rfl) (by decide) fun a hF => ?_
    refine s_val hF (x_move rfl) (by decide) fun a hF => ?_
    refine s_grdn 41 hF rfl rfl (by decide) fun a hF => ?_
    refine s_val hF (x_pick (b := false) rfl rfl) (by decide) fun a hF => ?_
    refine s_end (hK62 _ _ ?_)
    refine wp_if hF rfl ?_
    refine wp_skip (hK61 _ _ ?_)
    refine wp_region_lit ?_
    refine s_val hF (x_move rfl) (by decide) fun a hF => ?_
    refine s_val hF (x_move rfl) (by decide) fun a hF => ?_
    refine s_grd 46 hF rfl rfl rfl ?_
    refine s_val hF (x_loadD (climbF_length _ _ (leafL_length _ _) _ _ _ _) m14 rfl) (by decide) fun a hF => ?_
    refine s_grd 46 hF rfl rfl rfl ?_
    refine s_val hF (x_loadD hrs m6 rfl) (by decide) fun a hF => ?_
    refine s_grd 46 hF rfl rfl rfl ?_
    refine s_val hF (x_eqD (climbF_length _ _ (leafL_length _ _) _ _ _ _) hrs rfl rfl rfl) (by decide) fun a hF => ?_
    refine s_val hF (x_pick rfl rfl) (by decide) fun a hF => ?_
    refine s_val hF (x_assign rfl) (by decide) fun a hF => ?_
    refine s_end (hK58 _ _ ?_)
    refine wp_rs fun K63 hK63 => ?_
    refine s_val hF (x_loadD hrs m6 rfl) (by decide) fun a hF => ?_
    refine s_val hF (x_move rfl) (by decide) fun a hF => ?_
    refine s_val hF (x_move rfl) (by decide) fun a hF => ?_
    refine s_val hF (x_move rfl) (by decide) fun a hF => ?_
    refine s_val hF (x_move rfl) (by decide) fun a hF => ?_
    refine s_callB [_, _, .int .i64 (i : Int), .int .i64 (n : Int), _] hF (enters_of Tryd.func22 (by kernel_rfl) rfl) rfl (by decide) (check22 rs bs hrs _ _ (i : Int) (n : Int) ps _ w74 (by omega) (hR.below hB) hlen (hD.below hB) (hT.old hB)) fun w76 a B77 hF => ?_
    have sB77 := B77.size
    have hB := hB.trans (B77.mono hB.size)
    have m6 := m6.old B77
    have m14 := m14.old B77
    rw [show chkL rs bs (i : Int) (n : Int) ps = decide ((climbF kTab (leafL kTab bs) (n + 1) i n ps) = rs) by rw [chkL, decide_eq_true hpl, decide_eq_true (show ps.length = heightF ((n : Int).toNat + 1) (i : Int).toNat (n : Int).toNat from hq)]; rfl] at hF
    refine s_val hF (x_move rfl) (by decide) fun a hF => ?_
    refine s_val hF (x_eqB (b := true) Tryd.underlying4 (beq_self_eq_true _) rfl rfl) (by decide) fun a hF => ?_
    refine s_val hF (x_move rfl) (by decide) fun a hF => ?_
    refine s_grd 59 hF rfl rfl rfl ?_
    refine s_callB [] hF (enters_of Tryd.func15 (by kernel_rfl) rfl) rfl (by decide) (awake15 w76 (hT.old hB)) fun w78 a B79 hF => ?_
    have sB79 := B79.size
    have hB := hB.trans (B79.mono hB.size)
    have m6 := m6.old B79
    have m14 := m14.old B79
    refine s_val hF (x_pick rfl rfl) (by decide) fun a hF => ?_
    refine s_val hF (x_assign rfl) (by decide) fun a hF => ?_
    refine s_end (hK63 _ _ ?_)
    refine wp_ret (res_slot hF rfl rfl ⟨rfl, hB⟩)
end Go.Proofs.YtbmglinkfdoegaaDoor
