/- assizeref3.Hex; assizeref3.turn, math/bits.Mul64. -/
import Derived.Test.YtjohaokdfgkdjaaDoorLaws
import Derived.Test.YtjohaokdfgkdjaaDoorSymK
namespace Go.Proofs.YtjohaokdfgkdjaaDoor
open Go.RowKit Go.Shelf
set_option linter.unusedVariables false
set_option linter.unusedSimpArgs false

set_option maxRecDepth 100000 in
set_option maxHeartbeats 800000 in
theorem rhex12 (ds : List UInt8) (hds : ds.length = 32) (w0 : World) : Calls Tryd.prog 12 #[.agg (ds.map encB).toArray] w0 fun e w' => e = .returned (.string ⟨(hexL ds).toArray⟩) ∧ Below w0.heap.size w0 w' := by
  have hl32 : (ds.map encB).length = 32 := by rw [List.length_map, hds]
  refine calls_fs 22 [(0, .agg (ds.map encB).toArray)] Tryd.func12 rfl rfl rfl rfl rfl fun a hF => ?_
  refine wp_rs fun K1 hK1 => ?_
  refine s_box (ds.map encB) hF (by decide) rfl rfl fun w1 b1 a e1 m1 B1 z1 hF => ?_
  refine s_val hF (x_assign rfl) (by decide) fun a hF => ?_
  refine s_end (hK1 _ _ ?_)
  refine wp_rs fun K2 hK2 => ?_
  refine s_val hF (x_assign rfl) (by decide) fun a hF => ?_
  refine s_end (hK2 _ _ ?_)
  refine wp_seq_k fun K3 hK3 => ?_
  refine wp_rs fun K4 hK4 => ?_
  refine s_val hF (x_load rfl (m_loadW (by rw [hl32]; exact wide24) m1)) (by decide) fun a hF => ?_
  refine s_val hF (x_move rfl) (by decide) fun a hF => ?_
  refine s_end (hK4 _ _ ?_)
  refine wp_block ?_
  refine wp_up 32 (fun i a w => ∃ vv, Own w0.heap.size w vv (hexL (ds.take i)) ∧ Below w0.heap.size w0 w ∧ Fs 22 a [(7, .int .i64 (i : Int)), (6, .agg (ds.map encB).toArray), (3, vv)]) ⟨.slice none 0 0, Own.nil _ _, B1, hF.sub _ rfl⟩ ?_
  clear hF
  rintro i a w hi ⟨vv, hO, hB, hF⟩ K' hK'
  have hl : (hexL (ds.take i)).length = 2 * i := by rw [hexL_length, List.length_take]; omega
  refine wp_rs fun K5 hK5 => ?_
  refine s_val hF (x_lss rfl rfl rfl) (by decide) fun a hF => ?_
  refine s_end (hK5 _ _ ?_)
  refine wp_seq_k fun K6 hK6 => ?_
  refine wp_iff hF rfl (fun hc8 => ?_) (fun hc8 => ?_)
  · refine wp_skip (hK6 _ _ ?_)
    refine wp_seq_k fun K7 hK7 => ?_
    refine wp_block ?_
    refine wp_rs fun K8 hK8 => ?_
    refine s_val hF (x_ix (v := encB (ds.getD i 0)) rfl rfl (m_ix i under24 flat5 rfl hl32 (by rw [List.getElem?_map, getD_get ds i 0 (by omega)]; rfl))) (by decide) fun a hF => ?_
    refine s_val hF (x_assign rfl) (by decide) fun a hF => ?_
    refine s_end (hK8 _ _ ?_)
    obtain ⟨K5, hK5⟩ : ∃ K5 : Act → World → Prop, ∀ a' w', K5 a' w' ↔ (∃ ve, Own w0.heap.size w' ve (hexL (ds.take (i + 1))) ∧ Below w0.heap.size w0 w' ∧ Fs 22 a' [(7, .int .i64 (i : Int)), (6, .agg (ds.map encB).toArray), (3, ve)]) := ⟨_, fun _ _ => Iff.rfl⟩
    refine h_start (N := 10) (S := fun _ => True) (K := K5) wide_orders (by kernel_rfl) (fun a w h => hK7 _ _ ?_) ?_
    · obtain ⟨ve, hOe, hBe, hFe⟩ := (hK5 _ _).1 h
      clear h hF
      have hF := hFe
      refine wp_region_lit ?_
      refine s_val hF (x_addn (i + 1) (by omega) (by omega) rfl rfl) (by decide) fun a hF => ?_
      refine s_val hF (x_move rfl) (by decide) fun a hF => ?_
      refine s_end (hK' _ _ (by omega) ⟨ve, hOe, hBe, hF.sub _ rfl⟩)
    refine h_val 0 10 (op := (Go.Op.move (Go.Operand.tmp 3))) hF trivial (by kernel_rfl) (fun W _ => x_move rfl) (by kernel_rfl) (by decide) fun a hF => ?_
    refine h_val 1 11 (op := (Go.Op.move (Go.Operand.tmp 5))) hF trivial (by kernel_rfl) (fun W _ => x_move rfl) (by kernel_rfl) (by decide) fun a hF => ?_
    refine h_val 2 12 (op := (Go.Op.binOp Go.BinOp.shr 5 (Go.Operand.tmp 11) (Go.Operand.const (Go.Value.int Go.IntKind.u64 4)) 48)) hF trivial (by kernel_rfl) (fun W _ => x_shr8 4 rfl (by decide) rfl rfl) (by kernel_rfl) (by decide) fun a hF => ?_
    refine h_val 3 13 (op := (Go.Op.index 9 (Go.Operand.const (Go.Value.string (ByteArray.mk #[48, 49, 50, 51, 52, 53, 54, 55, 56, 57, 97, 98, 99, 100, 101, 102]))) (Go.Operand.tmp 12))) hF trivial (by kernel_rfl) (fun W _ => x_ix (v := encB (dg (ds.getD i 0 >>> UInt8.ofNat 4))) rfl rfl (m_ixstr _ Tryd.underlying9 rfl (dg_hi _))) (by kernel_rfl) (by decide) fun a hF => ?_
    refine h_val 4 14 (op := (Go.Op.move (Go.Operand.tmp 5))) hF trivial (by kernel_rfl) (fun W _ => x_move rfl) (by kernel_rfl) (by decide) fun a hF => ?_
    refine h_val 5 15 (op := (Go.Op.binOp Go.BinOp.and 5 (Go.Operand.tmp 14) (Go.Operand.const (Go.Value.int Go.IntKind.u8 15)) 5)) hF trivial (by kernel_rfl) (fun W _ => x_and8 (q := 15) rfl rfl) (by kernel_rfl) (by decide) fun a hF => ?_
    refine h_val 6 16 (op := (Go.Op.index 9 (Go.Operand.const (Go.Value.string (ByteArray.mk #[48, 49, 50, 51, 52, 53, 54, 55, 56, 57, 97, 98, 99, 100, 101, 102]))) (Go.Operand.tmp 15))) hF trivial (by kernel_rfl) (fun W _ => x_ix (v := encB (dg (ds.getD i 0 &&& 15))) rfl rfl (m_ixstr _ Tryd.underlying9 rfl (dg_lo _))) (by kernel_rfl) (by decide) fun a hF => ?_
    refine h_one 7 rfl rfl (by kernel_rfl) ?_
    refine s_lit [dg (ds.getD i 0 >>> UInt8.ofNat 4), dg (ds.getD i 0 &&& 15)] hF (by decide) rfl Tryd.underlying22 (size_flat flat5) zero5 rfl (by decide) (by decide) fun w2 b2 a e2 m2 B2 z2 hF => ?_
    refine s_end ⟨trivial, ?_⟩
    refine h_one 8 rfl rfl (by kernel_rfl) ?_
    have hO2 := (hO.below (drawn_below w)).below B2
    have hB1 : Below w0.heap.size w0 w.drew := hB.drew
    have hB2 := hB1.trans (B2.mono hB1.size)
    refine s_append hF (by decide) rfl rfl hO2 (RB.blk (ex := b2 + 1) m2 (by omega)) (by simp [hl]; omega) hB2.size fun v3 w3 a hO3 G3 _ hF => ?_
    refine s_end ⟨trivial, ?_⟩
    refine h_val 9 3 (op := .assign (.tmp 18)) hF trivial (by kernel_rfl) (fun W _ => x_assign rfl) (by kernel_rfl) (by decide) fun a hF => ?_
    refine h_end (by kernel_rfl) ((hK5 _ _).2 ⟨v3, ?_, hB2.trans (G3.below hB2.size fun k hk => (hO2.block_lt hk).1), hF.sub _ rfl⟩)
    rw [hexL_take ds i (by omega), List.append_assoc]
    exact hO3
  · obtain rfl : i = 32 := by omega
    rw [List.take_of_length_le (by omega)] at hO
    refine wp_exit (hK3 _ _ ?_)
    refine wp_rs fun K9 hK9 => ?_
    refine s_val hF (x_move rfl) (by decide) fun a hF => ?_
    refine s_val hF (x_str (ex := w.heap.size) Tryd.underlying22 Tryd.underlying5 Tryd.underlying9 (hO.rb (fun e => by have := (hO.block_lt e).2; omega)) rfl) (by decide) fun a hF => ?_
    refine s_val hF (x_assign rfl) (by decide) fun a hF => ?_
    refine s_end (hK9 _ _ ?_)
    refine wp_ret (res_slot hF rfl rfl ⟨rfl, hB⟩)

/-- x turned right by n bits, as the reference has it. -/
theorem turn28 (x : UInt32) (n : Nat) (h1 : 1 ≤ n) (h2 : n < 32) (w : World) : Calls Tryd.prog 28 #[encW x, .int .u64 (n : Int)] w fun e w' => e = .returned (encW (rotr x n)) ∧ w' = w := by
  refine calls_fs 13 [(0, encW x), (1, .int .u64 (n : Int))] Tryd.func28 rfl rfl rfl rfl rfl fun a hF => ?_
  refine wp_rs fun K1 hK1 => ?_
  refine s_val hF (x_assign rfl) (by decide) fun a hF => ?_
  refine s_end (hK1 _ _ ?_)
  refine wp_rs fun K2 hK2 => ?_
  refine s_val hF (x_move rfl) (by decide) fun a hF => ?_
  refine s_val hF (x_move rfl) (by decide) fun a hF => ?_
  refine s_val hF (x_shr32 n rfl h2 rfl rfl) (by decide) fun a hF => ?_
  refine s_val hF (x_move rfl) (by decide) fun a hF => ?_
  refine s_val hF (x_move rfl) (by decide) fun a hF => ?_
  refine s_val hF (x_bin (v := .int .u64 ((32 - n : Nat) : Int)) rfl rfl (b_int fun W => by show Result.ok (Value.int .u64 (IntKind.u64.wrap _)) W = _; rw [wrap_u64, show ((32 : Int) - (n : Int)) % 18446744073709551616 = ((32 - n : Nat) : Int) from by omega])) (by decide) fun a hF => ?_
  refine s_val hF (x_shl32 (32 - n) rfl (by omega) rfl rfl) (by decide) fun a hF => ?_
  refine s_val hF (x_or32 rfl rfl) (by decide) fun a hF => ?_
  refine s_val hF (x_assign rfl) (by decide) fun a hF => ?_
  refine s_end (hK2 _ _ ?_)
  refine wp_ret (res_slot hF rfl rfl ⟨by rw [rotr, UInt32.or_comm], rfl⟩)

/-- The upper half of a product, as math/bits reckons it. -/
def mulHi (x y : UInt64) : UInt64 :=
  let x0 := x &&& 4294967295
  let x1 := x >>> UInt64.ofNat 32
  let y0 := y &&& 4294967295
  let y1 := y >>> UInt64.ofNat 32
  let w0 := x0 * y0
  let t := x1 * y0 + (w0 >>> UInt64.ofNat 32)
  let w1 := (t &&& 4294967295) + x0 * y1
  x1 * y1 + (t >>> UInt64.ofNat 32) + (w1 >>> UInt64.ofNat 32)
theorem mul27 (x y : UInt64) (w : World) : Calls Tryd.prog 27 #[encD x, encD y] w fun e w' => e = .returned (.tuple #[encD (mulHi x y), encD (x * y)]) ∧ w' = w := by
  refine calls_fs 51 [(0, encD x), (1, encD y)] Tryd.func27 rfl rfl rfl rfl rfl fun a hF => ?_
  refine wp_rs fun K1 hK1 => ?_
  refine s_val hF (x_assign rfl) (by decide) fun a hF => ?_
  refine s_val hF (x_assign rfl) (by decide) fun a hF => ?_
  refine s_end (hK1 _ _ ?_)
  refine wp_rs fun K2 hK2 => ?_
  refine s_val hF (x_move rfl) (by decide) fun a hF => ?_
  refine s_val hF (x_and64 (q := 4294967295) rfl rfl) (by decide) fun a hF => ?_
  refine s_val hF (x_assign rfl) (by decide) fun a hF => ?_
  refine s_end (hK2 _ _ ?_)
  refine wp_rs fun K3 hK3 => ?_
  refine s_val hF (x_move rfl) (by decide) fun a hF => ?_
  refine s_val hF (x_shr64 32 rfl (by decide) rfl rfl) (by decide) fun a hF => ?_
  refine s_val hF (x_assign rfl) (by decide) fun a hF => ?_
  refine s_end (hK3 _ _ ?_)
  refine wp_rs fun K4 hK4 => ?_
  refine s_val hF (x_move rfl) (by decide) fun a hF => ?_
  refine s_val hF (x_and64 (q := 4294967295) rfl rfl) (by decide) fun a hF => ?_
  refine s_val hF (x_assign rfl) (by decide) fun a hF => ?_
  refine s_end (hK4 _ _ ?_)
  refine wp_rs fun K5 hK5 => ?_
  refine s_val hF (x_move rfl) (by decide) fun a hF => ?_
  refine s_val hF (x_shr64 32 rfl (by decide) rfl rfl) (by decide) fun a hF => ?_
  refine s_val hF (x_assign rfl) (by decide) fun a hF => ?_
  refine s_end (hK5 _ _ ?_)
  refine wp_rs fun K6 hK6 => ?_
  refine s_val hF (x_move rfl) (by decide) fun a hF => ?_
  refine s_val hF (x_move rfl) (by decide) fun a hF => ?_
  refine s_val hF (x_mul64 rfl rfl) (by decide) fun a hF => ?_
  refine s_val hF (x_assign rfl) (by decide) fun a hF => ?_
  refine s_end (hK6 _ _ ?_)
  refine wp_rs fun K7 hK7 => ?_
  refine s_val hF (x_move rfl) (by decide) fun a hF => ?_
  refine s_val hF (x_move rfl) (by decide) fun a hF => ?_
  refine s_val hF (x_mul64 rfl rfl) (by decide) fun a hF => ?_
  refine s_val hF (x_move rfl) (by decide) fun a hF => ?_
  refine s_val hF (x_shr64 32 rfl (by decide) rfl rfl) (by decide) fun a hF => ?_
  refine s_val hF (x_add64 rfl rfl) (by decide) fun a hF => ?_
  refine s_val hF (x_assign rfl) (by decide) fun a hF => ?_
  refine s_end (hK7 _ _ ?_)
  refine wp_rs fun K8 hK8 => ?_
  refine s_val hF (x_move rfl) (by decide) fun a hF => ?_
  refine s_val hF (x_and64 (q := 4294967295) rfl rfl) (by decide) fun a hF => ?_
  refine s_val hF (x_assign rfl) (by decide) fun a hF => ?_
  refine s_end (hK8 _ _ ?_)
  refine wp_rs fun K9 hK9 => ?_
  refine s_val hF (x_move rfl) (by decide) fun a hF => ?_
  refine s_val hF (x_shr64 32 rfl (by decide) rfl rfl) (by decide) fun a hF => ?_
  refine s_val hF (x_assign rfl) (by decide) fun a hF => ?_
  refine s_end (hK9 _ _ ?_)
  refine wp_rs fun K10 hK10 => ?_
  refine s_val hF (x_move rfl) (by decide) fun a hF => ?_
  refine s_val hF (x_move rfl) (by decide) fun a hF => ?_
  refine s_val hF (x_move rfl) (by decide) fun a hF => ?_
  refine s_val hF (x_mul64 rfl rfl) (by decide) fun a hF => ?_
  refine s_val hF (x_add64 rfl rfl) (by decide) fun a hF => ?_
  refine s_val hF (x_assign rfl) (by decide) fun a hF => ?_
  refine s_end (hK10 _ _ ?_)
  refine wp_rs fun K11 hK11 => ?_
  refine s_val hF (x_move rfl) (by decide) fun a hF => ?_
  refine s_val hF (x_move rfl) (by decide) fun a hF => ?_
  refine s_val hF (x_mul64 rfl rfl) (by decide) fun a hF => ?_
  refine s_val hF (x_move rfl) (by decide) fun a hF => ?_
  refine s_val hF (x_add64 rfl rfl) (by decide) fun a hF => ?_
  refine s_val hF (x_move rfl) (by decide) fun a hF => ?_
  refine s_val hF (x_shr64 32 rfl (by decide) rfl rfl) (by decide) fun a hF => ?_
  refine s_val hF (x_add64 rfl rfl) (by decide) fun a hF => ?_
  refine s_val hF (x_assign rfl) (by decide) fun a hF => ?_
  refine s_end (hK11 _ _ ?_)
  refine wp_rs fun K12 hK12 => ?_
  refine s_val hF (x_move rfl) (by decide) fun a hF => ?_
  refine s_val hF (x_move rfl) (by decide) fun a hF => ?_
  refine s_val hF (x_mul64 rfl rfl) (by decide) fun a hF => ?_
  refine s_val hF (x_assign rfl) (by decide) fun a hF => ?_
  refine s_end (hK12 _ _ ?_)
  refine wp_ret (res_two hF rfl rfl rfl ⟨rfl, rfl⟩)
end Go.Proofs.YtjohaokdfgkdjaaDoor
