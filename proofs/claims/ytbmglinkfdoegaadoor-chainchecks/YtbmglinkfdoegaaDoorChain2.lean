/- Len64, Len, leftSize, half, isPlace, few. -/
import Derived.Test.YtbmglinkfdoegaaDoorChain1
namespace Go.Proofs.YtbmglinkfdoegaaDoor
open Go.RowKit Go.Shelf
set_option linter.unusedVariables false
set_option linter.unusedSimpArgs false

def tab8 : ByteArray := (ByteArray.mk (List.toArray (List.append (List.append [0, 1, 2, 2, 3, 3, 3, 3, 4, 4, 4, 4, 4, 4, 4, 4, 5, 5, 5, 5, 5, 5, 5, 5, 5, 5, 5, 5, 5, 5, 5, 5, 6, 6, 6, 6, 6, 6, 6, 6, 6, 6, 6, 6, 6, 6, 6, 6, 6, 6, 6, 6, 6, 6, 6, 6, 6, 6, 6, 6, 6, 6, 6, 6] [7, 7, 7, 7, 7, 7, 7, 7, 7, 7, 7, 7, 7, 7, 7, 7, 7, 7, 7, 7, 7, 7, 7, 7, 7, 7, 7, 7, 7, 7, 7, 7, 7, 7, 7, 7, 7, 7, 7, 7, 7, 7, 7, 7, 7, 7, 7, 7, 7, 7, 7, 7, 7, 7, 7, 7, 7, 7, 7, 7, 7, 7, 7, 7]) (List.append [8, 8, 8, 8, 8, 8, 8, 8, 8, 8, 8, 8, 8, 8, 8, 8, 8, 8, 8, 8, 8, 8, 8, 8, 8, 8, 8, 8, 8, 8, 8, 8, 8, 8, 8, 8, 8, 8, 8, 8, 8, 8, 8, 8, 8, 8, 8, 8, 8, 8, 8, 8, 8, 8, 8, 8, 8, 8, 8, 8, 8, 8, 8, 8] [8, 8, 8, 8, 8, 8, 8, 8, 8, 8, 8, 8, 8, 8, 8, 8, 8, 8, 8, 8, 8, 8, 8, 8, 8, 8, 8, 8, 8, 8, 8, 8, 8, 8, 8, 8, 8, 8, 8, 8, 8, 8, 8, 8, 8, 8, 8, 8, 8, 8, 8, 8, 8, 8, 8, 8, 8, 8, 8, 8, 8, 8, 8, 8]))))
/-- How many bits. -/
def lenN (x : Nat) : Nat := if x = 0 then 0 else Nat.log2 x + 1
theorem lenN_shift (x k : Nat) (h : 2 ^ k ≤ x) : lenN x = lenN (x / 2 ^ k) + k := by
  have hp := Nat.two_pow_pos k
  have hy : x / 2 ^ k ≠ 0 := by
    have := (Nat.le_div_iff_mul_le hp).2 (show 1 * 2 ^ k ≤ x by omega)
    omega
  have hx : x ≠ 0 := by omega
  rw [lenN, if_neg hx, lenN, if_neg hy]
  have h1 := Nat.log2_self_le hy
  have h2 := Nat.lt_log2_self (n := x / 2 ^ k)
  have : Nat.log2 x = Nat.log2 (x / 2 ^ k) + k := by
    rw [Nat.log2_eq_iff hx]
    constructor
    · rw [Nat.pow_add]
      exact (Nat.le_div_iff_mul_le hp).1 h1
    · rw [show Nat.log2 (x / 2 ^ k) + k + 1 = (Nat.log2 (x / 2 ^ k) + 1) + k by omega, Nat.pow_add]
      exact (Nat.div_lt_iff_lt_mul hp).1 h2
  omega
theorem tab8_get (j : Nat) (h : j < 256) : tab8.data.toList[j]? = some (UInt8.ofNat (lenN j)) := by
  have : ∀ i : Fin 256, tab8.data.toList[i.val]? = some (UInt8.ofNat (lenN i.val)) := by decide +kernel
  exact this ⟨j, h⟩
theorem lenN_le8 (j : Nat) (h : j < 256) : lenN j ≤ 8 := by
  have : ∀ i : Fin 256, lenN i.val ≤ 8 := by decide +kernel
  exact this ⟨j, h⟩

section
variable {P : Program} {n : Nat} {l : List (Nat × Value)} {w : World} {t t' : TypeId} {x y : Operand}
theorem x_shrU {p : Nat} {k : IntKind} {q : Int} (m : Nat) (hq : q = (m : Int)) (hm : m < 64) (hx : ov l x = some (.int .u64 (p : Int))) (hy : ov l y = some (.int k q)) : Runs P n l w (.binOp .shr t x y t') (.int .u64 ((p / 2 ^ m : Nat) : Int)) :=
  x_bin hx hy (b_sh fun W => by
    subst hq
    have hmin : min m 64 = m := by omega
    simp only [binOp, Op.shift, show ¬ ((m : Int) < 0) from by omega, if_false, Int.toNat_natCast, IntKind.bits, hmin]
    show Result.ok (Value.int .u64 _) W = _
    congr 2
    rw [Int.fdiv_eq_ediv_of_nonneg _ (by exact_mod_cast Nat.zero_le _)]
    norm_cast)
theorem x_shl1 {m : Nat} {k : IntKind} (hm : m < 63) (hx : ov l x = some (.int .i64 1)) (hy : ov l y = some (.int k (m : Int))) : Runs P n l w (.binOp .shl t x y t') (.int .i64 ((2 ^ m : Nat) : Int)) :=
  x_bin hx hy (b_sh fun W => by
    have hmin : min m 64 = m := by omega
    have h2 : 2 ^ m < 2 ^ 63 := Nat.pow_lt_pow_right (by decide) hm
    simp only [binOp, Op.shift, show ¬ ((m : Int) < 0) from by omega, if_false, Int.toNat_natCast, IntKind.bits, hmin]
    show Result.ok (Value.int .i64 (IntKind.i64.wrap _)) W = _
    rw [show (1 : Int) * 2 ^ m = ((2 ^ m : Nat) : Int) from by simp]
    generalize 2 ^ m = p at *
    rw [wrap_i64 (by omega) (by omega)])
end

set_option maxRecDepth 100000 in
theorem len45 (x : Nat) (hx : x < 18446744073709551616) (w0 : World) : Calls Tryd.prog 45 #[.int .u64 (x : Int)] w0 fun e w' => e = .returned (.int .i64 (lenN x : Int)) ∧ w' = w0 := by
  refine calls_fs 25 [(0, .int .u64 (x : Int))] Tryd.func45 rfl rfl rfl rfl rfl fun a hF => ?_
  refine wp_rs fun K1 hK1 => ?_
  refine s_val hF (x_assign rfl) (by decide) fun a hF => ?_
  refine s_end (hK1 _ _ ?_)
  refine wp_seq_k fun K2 hK2 => ?_
  have key2 : ∀ a (y n : Nat), y < 4294967296 → lenN x = lenN y + n → n ≤ 32 → Fs 25 a [(0, .int .u64 (y : Int)), (2, .int .i64 (n : Int))] → K2 a w0 := by
    intro a y n hy hl hn64 hF
    refine hK2 _ _ ?_
    refine wp_seq_k fun K3 hK3 => ?_
    have key3 : ∀ a (y n : Nat), y < 65536 → lenN x = lenN y + n → n ≤ 48 → Fs 25 a [(0, .int .u64 (y : Int)), (2, .int .i64 (n : Int))] → K3 a w0 := by
      intro a y n hy hl hn64 hF
      refine hK3 _ _ ?_
      refine wp_seq_k fun K4 hK4 => ?_
      have key4 : ∀ a (y n : Nat), y < 256 → lenN x = lenN y + n → n ≤ 56 → Fs 25 a [(0, .int .u64 (y : Int)), (2, .int .i64 (n : Int))] → K4 a w0 := by
        intro a y n hy hl hn64 hF
        refine hK4 _ _ ?_
        have h8 := lenN_le8 y hy
        refine wp_rs fun K5 hK5 => ?_
        refine s_val hF (x_move rfl) (by decide) fun a hF => ?_
        refine s_val hF (x_move rfl) (by decide) fun a hF => ?_
        refine s_val hF (x_cvt (k := .u8) (r := (y : Int)) Tryd.underlying56 Tryd.underlying5 (by rw [wrap_u8]; omega) rfl) (by decide) fun a hF => ?_
        refine s_val hF (x_ix (v := .int .u8 ((UInt8.ofNat (lenN y)).toNat : Int)) rfl rfl (m_ixstr (s := tab8) y Tryd.underlying9 rfl (tab8_get y hy))) (by decide) fun a hF => ?_
        refine s_val hF (x_cvt (k := .i64) (r := (lenN y : Int)) Tryd.underlying5 Tryd.underlying3 (by rw [UInt8.toNat_ofNat', Nat.mod_eq_of_lt (by omega), wrap_i64 (by omega) (by omega)]) rfl) (by decide) fun a hF => ?_
        refine s_val hF (x_addn (n + lenN y) (by omega) (by omega) rfl rfl) (by decide) fun a hF => ?_
        refine s_val hF (x_assign rfl) (by decide) fun a hF => ?_
        refine s_end (hK5 _ _ ?_)
        refine wp_ret (res_slot hF rfl rfl ⟨by rw [hl, Nat.add_comm], rfl⟩)
      refine wp_rs fun K6 hK6 => ?_
      refine s_val hF (x_move rfl) (by decide) fun a hF => ?_
      refine s_val hF (x_geq (b := decide (256 ≤ y)) (decide_eq_decide.2 (by omega)) rfl rfl) (by decide) fun a hF => ?_
      refine s_end (hK6 _ _ ?_)
      refine wp_iff hF rfl (fun hc14 => ?_) (fun hc14 => ?_)
      · refine wp_rs fun K7 hK7 => ?_
        refine s_val hF (x_move rfl) (by decide) fun a hF => ?_
        refine s_val hF (x_shrU 8 rfl (by decide) rfl rfl) (by decide) fun a hF => ?_
        refine s_val hF (x_assign rfl) (by decide) fun a hF => ?_
        refine s_end (hK7 _ _ ?_)
        refine wp_region_lit ?_
        refine s_val hF (x_move rfl) (by decide) fun a hF => ?_
        refine s_val hF (x_addn (n + 8) (by omega) (by omega) rfl rfl) (by decide) fun a hF => ?_
        refine s_val hF (x_assign rfl) (by decide) fun a hF => ?_
        refine s_end ?_
        exact key4 a (y / 2 ^ 8) (n + 8) (by omega) (by have := lenN_shift y 8 (by omega); omega) (by omega) (hF.sub _ rfl)
      · refine wp_skip ?_
        exact key4 a y n (by omega) (by omega) (by omega) (hF.sub _ rfl)
    refine wp_rs fun K8 hK8 => ?_
    refine s_val hF (x_move rfl) (by decide) fun a hF => ?_
    refine s_val hF (x_geq (b := decide (65536 ≤ y)) (decide_eq_decide.2 (by omega)) rfl rfl) (by decide) fun a hF => ?_
    refine s_end (hK8 _ _ ?_)
    refine wp_iff hF rfl (fun hc8 => ?_) (fun hc8 => ?_)
    · refine wp_rs fun K9 hK9 => ?_
      refine s_val hF (x_move rfl) (by decide) fun a hF => ?_
      refine s_val hF (x_shrU 16 rfl (by decide) rfl rfl) (by decide) fun a hF => ?_
      refine s_val hF (x_assign rfl) (by decide) fun a hF => ?_
      refine s_end (hK9 _ _ ?_)
      refine wp_region_lit ?_
      refine s_val hF (x_move rfl) (by decide) fun a hF => ?_
      refine s_val hF (x_addn (n + 16) (by omega) (by omega) rfl rfl) (by decide) fun a hF => ?_
      refine s_val hF (x_assign rfl) (by decide) fun a hF => ?_
      refine s_end ?_
      exact key3 a (y / 2 ^ 16) (n + 16) (by omega) (by have := lenN_shift y 16 (by omega); omega) (by omega) (hF.sub _ rfl)
    · refine wp_skip ?_
      exact key3 a y n (by omega) (by omega) (by omega) (hF.sub _ rfl)
  refine wp_rs fun K10 hK10 => ?_
  refine s_val hF (x_move rfl) (by decide) fun a hF => ?_
  refine s_val hF (x_geq (b := decide (4294967296 ≤ x)) (decide_eq_decide.2 (by omega)) rfl rfl) (by decide) fun a hF => ?_
  refine s_end (hK10 _ _ ?_)
  refine wp_iff hF rfl (fun hc4 => ?_) (fun hc4 => ?_)
  · refine wp_rs fun K11 hK11 => ?_
    refine s_val hF (x_move rfl) (by decide) fun a hF => ?_
    refine s_val hF (x_shrU 32 rfl (by decide) rfl rfl) (by decide) fun a hF => ?_
    refine s_val hF (x_assign rfl) (by decide) fun a hF => ?_
    refine s_end (hK11 _ _ ?_)
    refine wp_region_lit ?_
    refine s_val hF (x_assign rfl) (by decide) fun a hF => ?_
    refine s_end ?_
    exact key2 a (x / 2 ^ 32) (32) (by omega) (by have := lenN_shift x 32 (by omega); omega) (by omega) (hF.sub _ rfl)
  · refine wp_skip ?_
    exact key2 a x 0 (by omega) (by omega) (by omega) (hF.sub _ rfl)

theorem len37 (x : Nat) (hx : x < 18446744073709551616) (w0 : World) : Calls Tryd.prog 37 #[.int .u64 (x : Int)] w0 fun e w' => e = .returned (.int .i64 (lenN x : Int)) ∧ w' = w0 := by
  refine calls_fs 8 [(0, .int .u64 (x : Int))] Tryd.func37 rfl rfl rfl rfl rfl fun a hF => ?_
  refine wp_rs fun K1 hK1 => ?_
  refine s_val hF (x_assign rfl) (by decide) fun a hF => ?_
  refine s_end (hK1 _ _ ?_)
  refine wp_seq_k fun K2 hK2 => ?_
  refine wp_if hF rfl ?_
  refine wp_skip (hK2 _ _ ?_)
  refine wp_rs fun K3 hK3 => ?_
  refine s_val hF (x_move rfl) (by decide) fun a hF => ?_
  refine s_callS [.int .u64 (x : Int)] hF (enters_of Tryd.func45 (by kernel_rfl) rfl) rfl (by decide) (len45 x hx _) fun a hF => ?_
  refine s_val hF (x_assign rfl) (by decide) fun a hF => ?_
  refine s_end (hK3 _ _ ?_)
  refine wp_ret (res_slot hF rfl rfl ⟨rfl, rfl⟩)

theorem left27 (n : Nat) (h2 : 2 ≤ n) (hn : n ≤ 4611686018427387904) (w0 : World) : Calls Tryd.prog 27 #[.int .i64 (n : Int)] w0 fun e w' => e = .returned (.int .i64 (halfL n : Int)) ∧ w' = w0 := by
  have hl : lenN (n - 1) = Nat.log2 (n - 1) + 1 := if_neg (by omega)
  have hlt : Nat.log2 (n - 1) < 63 := by
    rcases Nat.lt_or_ge (Nat.log2 (n - 1)) 63 with h | h
    · exact h
    · have h1 := Nat.pow_le_pow_right (n := 2) (by decide) h
      have h2 := halfL_lt h2
      unfold halfL at h2
      omega
  refine calls_fs 9 [(0, .int .i64 (n : Int))] Tryd.func27 rfl rfl rfl rfl rfl fun a hF => ?_
  refine wp_rs fun K1 hK1 => ?_
  refine s_val hF (x_assign rfl) (by decide) fun a hF => ?_
  refine s_end (hK1 _ _ ?_)
  refine wp_rs fun K2 hK2 => ?_
  refine s_val hF (x_move rfl) (by decide) fun a hF => ?_
  refine s_val hF (x_subn (n - 1) (by omega) (by omega) rfl rfl) (by decide) fun a hF => ?_
  refine s_val hF (x_cvt (k := .u64) (r := ((n - 1 : Nat) : Int)) Tryd.underlying3 Tryd.underlying61 (by rw [wrap_u64]; omega) rfl) (by decide) fun a hF => ?_
  refine s_callS [.int .u64 ((n - 1 : Nat) : Int)] hF (enters_of Tryd.func37 (by kernel_rfl) rfl) rfl (by decide) (len37 (n - 1) (by omega) _) fun a hF => ?_
  refine s_val hF (x_subn (Nat.log2 (n - 1)) (by omega) (by omega) rfl rfl) (by decide) fun a hF => ?_
  refine s_val hF (x_shl1 hlt rfl rfl) (by decide) fun a hF => ?_
  refine s_val hF (x_assign rfl) (by decide) fun a hF => ?_
  refine s_end (hK2 _ _ ?_)
  refine wp_ret (res_slot hF rfl rfl ⟨rfl, rfl⟩)

theorem half28 (n : Nat) (h2 : 2 ≤ n) (hn : n ≤ 4611686018427387904) (w0 : World) : Calls Tryd.prog 28 #[.int .i64 (n : Int)] w0 fun e w' => e = .returned (.int .i64 (halfL n : Int)) ∧ w' = w0 := by
  refine calls_fs 11 [(0, .int .i64 (n : Int))] Tryd.func28 rfl rfl rfl rfl rfl fun a hF => ?_
  refine wp_rs fun K1 hK1 => ?_
  refine s_val hF (x_assign rfl) (by decide) fun a hF => ?_
  refine s_end (hK1 _ _ ?_)
  refine wp_rs fun K2 hK2 => ?_
  refine s_val hF (x_assign rfl) (by decide) fun a hF => ?_
  refine s_end (hK2 _ _ ?_)
  refine wp_seq_k fun K3 hK3 => ?_
  refine wp_block ?_
  refine wp_up n (fun j a w => 2 ^ j < n ∧ w = w0 ∧ Fs 11 a [(0, .int .i64 (n : Int)), (3, .int .i64 ((2 ^ j : Nat) : Int))]) ⟨by simp; omega, rfl, hF.sub _ rfl⟩ ?_
  clear hF
  rintro j a _ hj ⟨hlt, rfl, hF⟩ K' hK'
  have hjn := Nat.lt_two_pow_self (n := j)
  obtain ⟨p, hp⟩ : ∃ p, p = 2 ^ j := ⟨_, rfl⟩
  have hp2 : 2 ^ (j + 1) = 2 * p := by rw [Nat.pow_succ, hp, Nat.mul_comm]
  have hp3 : halfL n = p ∨ 2 * p < n := by
    by_cases h : 2 * p < n
    · exact .inr h
    · exact .inl (by rw [hp]; exact halfL_is h2 hlt (by rw [← hp]; omega))
  rw [← hp] at hlt hF hjn
  refine wp_seq_k fun K4 hK4 => ?_
  refine wp_rs fun K5 hK5 => ?_
  refine s_val hF (x_move rfl) (by decide) fun a hF => ?_
  refine s_val hF (x_muln (2 * p) (by omega) (by omega) rfl rfl) (by decide) fun a hF => ?_
  refine s_val hF (x_move rfl) (by decide) fun a hF => ?_
  refine s_val hF (x_lss (b := decide (2 * p < n)) (decide_eq_decide.2 (by omega)) rfl rfl) (by decide) fun a hF => ?_
  refine s_end (hK5 _ _ ?_)
  refine wp_iff hF rfl (fun hc7 => ?_) (fun hc7 => ?_)
  · refine wp_skip (hK4 _ _ ?_)
    refine wp_block ?_
    refine wp_region_lit ?_
    refine s_val hF (x_move rfl) (by decide) fun a hF => ?_
    refine s_val hF (x_muln (2 * p) (by omega) (by omega) rfl rfl) (by decide) fun a hF => ?_
    refine s_val hF (x_assign rfl) (by decide) fun a hF => ?_
    refine s_end (hK' _ _ (by omega) ⟨by rw [hp2]; omega, rfl, by rw [hp2]; exact hF.sub _ rfl⟩)
  · refine wp_exit (hK3 _ _ ?_)
    refine wp_rs fun K6 hK6 => ?_
    refine s_val hF (x_move rfl) (by decide) fun a hF => ?_
    refine s_val hF (x_assign rfl) (by decide) fun a hF => ?_
    refine s_end (hK6 _ _ ?_)
    refine wp_ret (res_slot hF rfl rfl ⟨by rw [hp3.resolve_right (by omega)], rfl⟩)

theorem isPlace25 (i n : Int) (w0 : World) : Calls Tryd.prog 25 #[.int .i64 i, .int .i64 n] w0 fun e w' => e = .returned (.bool (decide (0 ≤ i ∧ i < n))) ∧ w' = w0 := by
  refine calls_fs 12 [(0, .int .i64 i), (1, .int .i64 n)] Tryd.func25 rfl rfl rfl rfl rfl fun a hF => ?_
  refine wp_rs fun K1 hK1 => ?_
  refine s_val hF (x_assign rfl) (by decide) fun a hF => ?_
  refine s_end (hK1 _ _ ?_)
  by_cases hi : 0 ≤ i
  · refine wp_rs fun K3 hK3 => ?_
    refine s_val hF (x_move rfl) (by decide) fun a hF => ?_
    refine s_val hF (x_leq (b := true) (decide_eq_true hi) rfl rfl) (by decide) fun a hF => ?_
    refine s_val hF (x_move rfl) (by decide) fun a hF => ?_
    refine s_grd 7 hF rfl rfl rfl ?_
    refine s_val hF (x_move rfl) (by decide) fun a hF => ?_
    refine s_grd 7 hF rfl rfl rfl ?_
    refine s_val hF (x_move rfl) (by decide) fun a hF => ?_
    refine s_grd 7 hF rfl rfl rfl ?_
    refine s_val hF (x_lss (b := decide (0 ≤ i ∧ i < n)) (by congr 1; simp [hi]) rfl rfl) (by decide) fun a hF => ?_
    refine s_val hF (x_pick rfl rfl) (by decide) fun a hF => ?_
    refine s_val hF (x_assign rfl) (by decide) fun a hF => ?_
    refine s_end (hK3 _ _ ?_)
    refine wp_ret (res_slot hF rfl rfl ⟨rfl, rfl⟩)
  · refine wp_rs fun K4 hK4 => ?_
    refine s_val hF (x_move rfl) (by decide) fun a hF => ?_
    refine s_val hF (x_leq (b := false) (decide_eq_false hi) rfl rfl) (by decide) fun a hF => ?_
    refine s_val hF (x_move rfl) (by decide) fun a hF => ?_
    refine s_grdn 7 hF rfl rfl (by decide) fun a hF => ?_
    refine s_grdn 7 hF rfl rfl (by decide) fun a hF => ?_
    refine s_grdn 7 hF rfl rfl (by decide) fun a hF => ?_
    refine s_val hF (x_pick (b := false) rfl rfl) (by decide) fun a hF => ?_
    refine s_val hF (x_assign rfl) (by decide) fun a hF => ?_
    refine s_end (hK4 _ _ ?_)
    refine wp_ret (res_slot hF rfl rfl ⟨by simp [hi], rfl⟩)

/-- Those of the first 40 that have 200 bytes at most. -/
def fewI (ls : List (List UInt8)) (i : Nat) : List (List UInt8) := (ls.take (min i 40)).filter fun s => decide (s.length ≤ 200)
def fewL (ls : List (List UInt8)) : List (List UInt8) := fewI ls ls.length
theorem fewI_le (ls : List (List UInt8)) (i : Nat) : (fewI ls i).length ≤ 40 := by
  have := List.length_filter_le (fun s : List UInt8 => decide (s.length ≤ 200)) (ls.take (min i 40))
  simp only [fewI, List.length_take] at this ⊢
  omega
theorem fewI_in (ls : List (List UInt8)) (i : Nat) : ∀ s ∈ fewI ls i, s.length ≤ 200 := by
  intro s hs
  simpa using (List.mem_filter.1 hs).2
theorem fewI_yes (ls : List (List UInt8)) (i : Nat) (hi : i < ls.length) (h40 : i < 40) (h : (ls.getD i []).length ≤ 200) : fewI ls (i + 1) = fewI ls i ++ [ls.getD i []] := by
  rw [fewI, Nat.min_eq_left (by omega), take_snoc ls i [] hi, List.filter_append, fewI, Nat.min_eq_left (by omega)]
  simp only [List.filter_cons, decide_eq_true h, if_true, List.filter_nil]
theorem fewI_long (ls : List (List UInt8)) (i : Nat) (hi : i < ls.length) (h40 : i < 40) (h : ¬ (ls.getD i []).length ≤ 200) : fewI ls (i + 1) = fewI ls i := by
  rw [fewI, Nat.min_eq_left (by omega), take_snoc ls i [] hi, List.filter_append, fewI, Nat.min_eq_left (by omega)]
  simp only [List.filter_cons, decide_eq_false h, Bool.false_eq_true, if_false, List.filter_nil, List.append_nil]
theorem fewI_far (ls : List (List UInt8)) (i : Nat) (h40 : ¬ i < 40) : fewI ls (i + 1) = fewI ls i := by
  rw [fewI, fewI, Nat.min_eq_right (by omega), Nat.min_eq_right (by omega)]

theorem one_sl {a : Option Addr} {n c : Nat} : ∀ u ∈ ([Value.slice a n c].flatMap fun v => v.cells.toList), u.oneCell' = true := by
  intro u hu
  simp [Value.cells] at hu
  subst hu
  rfl
/-- What few has at its ith. -/
def FwI (w0 : World) (ls : List (List UInt8)) (i : Nat) (w : World) (v : Value) : Prop := ∃ vals, w.ownsRow w0.heap.size 25 1 v (fewI ls i).length vals ∧ ∀ (j : Nat) u l, vals[j]? = some u → (fewI ls i)[j]? = some l → RB w0.heap.size w0 u l
set_option maxRecDepth 100000 in
set_option maxHeartbeats 800000 in
theorem few6 (ls : List (List UInt8)) (v : Value) (w0 : World) (hM : RM w0 v ls) (hn : ls.length ≤ 9223372036854775807) :
    Calls Tryd.prog 6 #[v] w0 fun e w' => ∃ v', e = .returned v' ∧ RM w' v' (fewL ls) ∧ Below w0.heap.size w0 w' := by
  obtain ⟨av, cv, rfl, _⟩ := hM.form
  have hB := Below.refl w0.heap.size w0
  refine calls_fs 26 [(0, .slice av ls.length cv)] Tryd.func6 rfl rfl rfl rfl rfl fun a hF => ?_
  refine wp_rs fun K1 hK1 => ?_
  refine s_val hF (x_assign rfl) (by decide) fun a hF => ?_
  refine s_end (hK1 _ _ ?_)
  refine wp_rs fun K2 hK2 => ?_
  refine s_val hF (x_assign rfl) (by decide) fun a hF => ?_
  refine s_end (hK2 _ _ ?_)
  refine wp_seq_k fun K3 hK3 => ?_
  refine wp_rs fun K4 hK4 => ?_
  refine s_val hF (x_move rfl) (by decide) fun a hF => ?_
  refine s_val hF (x_len Tryd.underlying24 rfl) (by decide) fun a hF => ?_
  refine s_val hF (x_move rfl) (by decide) fun a hF => ?_
  refine s_end (hK4 _ _ ?_)
  refine wp_block ?_
  refine wp_up ls.length (fun i a w => (∃ vv, FwI w0 ls i w vv ∧ Fs 26 a [(8, .int .i64 (i : Int)), (7, .int .i64 (ls.length : Int)), (6, .slice av ls.length cv), (3, vv)]) ∧ Below w0.heap.size w0 w) ⟨⟨.slice none 0 0, ⟨[], World.ownsRow_nil _ _ _ _, fun j u l h => by simp at h⟩, hF.sub _ rfl⟩, hB⟩ ?_
  clear hF hB
  rintro i a w hi ⟨⟨vv, hI, hF⟩, hB⟩ K' hK'
  have sB := hB.size
  refine wp_rs fun K5 hK5 => ?_
  refine s_val hF (x_lss rfl rfl rfl) (by decide) fun a hF => ?_
  refine s_end (hK5 _ _ ?_)
  refine wp_seq_k fun K6 hK6 => ?_
  refine wp_iff hF rfl (fun hc9 => ?_) (fun hc9 => ?_)
  · obtain ⟨b, off, c, u, hve, hrow⟩ := hM.row (i := i) (by omega)
    cases hve
    obtain ⟨au, cu, rfl, _, _⟩ := ((hrow w0 (Below.refl _ _)).2 _ (Nat.le_refl _)).form
    refine wp_skip (hK6 _ _ ?_)
    refine wp_seq_k fun K7 hK7 => ?_
    refine wp_block ?_
    refine wp_rs fun K8 hK8 => ?_
    refine s_val hF (x_move rfl) (by decide) fun a hF => ?_
    refine s_val hF (x_ixa rfl rfl (m_ixs i Tryd.underlying24 el24.size rfl (by omega))) (by decide) fun a hF => ?_
    refine s_val hF (x_load rfl (m_load flat25 (hrow _ hB).1)) (by decide) fun a hF => ?_
    refine s_val hF (x_assign rfl) (by decide) fun a hF => ?_
    refine s_val hF (x_assign rfl) (by decide) fun a hF => ?_
    refine s_end (hK8 _ _ ?_)
    by_cases h40 : i < 40
    · refine wp_rs fun K10 hK10 => ?_
      refine s_val hF (x_move rfl) (by decide) fun a hF => ?_
      refine s_val hF (x_lss (b := true) (decide_eq_true (by omega)) rfl rfl) (by decide) fun a hF => ?_
      refine s_val hF (x_move rfl) (by decide) fun a hF => ?_
      refine s_grd 15 hF rfl rfl rfl ?_
      refine s_val hF (x_move rfl) (by decide) fun a hF => ?_
      refine s_grd 15 hF rfl rfl rfl ?_
      refine s_val hF (x_len Tryd.underlying25 rfl) (by decide) fun a hF => ?_
      refine s_grd 15 hF rfl rfl rfl ?_
      refine s_val hF (x_leq (b := decide ((ls.getD i []).length ≤ 200)) (decide_eq_decide.2 (by omega)) rfl rfl) (by decide) fun a hF => ?_
      refine s_val hF (x_pick rfl rfl) (by decide) fun a hF => ?_
      refine s_end (hK10 _ _ ?_)
      refine wp_iff hF rfl (fun hc19 => ?_) (fun hc19 => ?_)
      · refine wp_region_lit ?_
        refine s_val hF (x_move rfl) (by decide) fun a hF => ?_
        refine s_val hF (x_move rfl) (by decide) fun a hF => ?_
        refine s_litG [.slice au (ls.getD i []).length cu] el24 hF (by decide) rfl (by simp [Value.cells]) rfl (by decide) (by decide) fun w2 bl a ebl ml B3 zbl hF => ?_
        have sB3 := B3.size
        have hB := hB.trans (B3.mono hB.size)
        obtain ⟨vals, hO, hv⟩ := hI
        have hO := own_below hO B3
        refine s_appG el24 hF (by decide) rfl rfl hO (Rd.blk (n := 1) (k := 1) ml rfl) one_sl (by have := fewI_le ls i; omega) (by have := fewI_le ls i; unfold maxLen; omega) (by omega) fun v2 w2 a hO2 g2 hw2 hF => ?_
        have hB := hB.trans (grown_below g2 hB.size (fun k hk => (hO.lt k hk).1))
        refine s_val hF (x_assign rfl) (by decide) fun a hF => ?_
        refine s_end (hK7 _ _ ?_)
        refine wp_region_lit ?_
        refine s_val hF (x_addn (i + 1) (by omega) (by omega) rfl rfl) (by decide) fun a hF => ?_
        refine s_val hF (x_move rfl) (by decide) fun a hF => ?_
        refine s_end (hK' _ _ (by omega) ⟨⟨_, ?_, hF.sub _ rfl⟩, hB⟩)
        rw [FwI, fewI_yes ls i (by omega) h40 hc19]
        refine ⟨vals ++ [.slice au (ls.getD i []).length cu], by rw [List.length_append]; exact hO2, fun j u l hu hl => ?_⟩
        rw [List.getElem?_append] at hu hl
        have hvl : vals.length = (fewI ls i).length := by have := hO.1; omega
        rw [hvl] at hu
        split at hu
        · next hj => rw [if_pos hj] at hl; exact hv j u l hu hl
        · next hj =>
          rw [if_neg hj] at hl
          obtain h0 : j - (fewI ls i).length = 0 := by
            have := (List.getElem?_eq_some_iff.1 hu).1
            simp at this
            omega
          rw [h0] at hu hl
          simp at hu hl
          rw [← hu, ← hl]
          exact (hrow w0 (Below.refl _ _)).2 _ (Nat.le_refl _)
      · refine wp_skip (hK7 _ _ ?_)
        refine wp_region_lit ?_
        refine s_val hF (x_addn (i + 1) (by omega) (by omega) rfl rfl) (by decide) fun a hF => ?_
        refine s_val hF (x_move rfl) (by decide) fun a hF => ?_
        refine s_end (hK' _ _ (by omega) ⟨⟨_, ?_, hF.sub _ rfl⟩, hB⟩)
        rw [FwI, fewI_long ls i (by omega) h40 hc19]
        exact hI
    · refine wp_rs fun K11 hK11 => ?_
      refine s_val hF (x_move rfl) (by decide) fun a hF => ?_
      refine s_val hF (x_lss (b := false) (decide_eq_false (by omega)) rfl rfl) (by decide) fun a hF => ?_
      refine s_val hF (x_move rfl) (by decide) fun a hF => ?_
      refine s_grdn 15 hF rfl rfl (by decide) fun a hF => ?_
      refine s_grdn 15 hF rfl rfl (by decide) fun a hF => ?_
      refine s_grdn 15 hF rfl rfl (by decide) fun a hF => ?_
      refine s_val hF (x_pick (b := false) rfl rfl) (by decide) fun a hF => ?_
      refine s_end (hK11 _ _ ?_)
      refine wp_if hF rfl ?_
      refine wp_skip (hK7 _ _ ?_)
      refine wp_region_lit ?_
      refine s_val hF (x_addn (i + 1) (by omega) (by omega) rfl rfl) (by decide) fun a hF => ?_
      refine s_val hF (x_move rfl) (by decide) fun a hF => ?_
      refine s_end (hK' _ _ (by omega) ⟨⟨_, ?_, hF.sub _ rfl⟩, hB⟩)
      rw [FwI, fewI_far ls i h40]
      exact hI
  · obtain rfl : i = ls.length := by omega
    obtain ⟨vals, hO, hv⟩ := hI
    refine wp_exit (hK3 _ _ ?_)
    refine wp_rs fun K12 hK12 => ?_
    refine s_val hF (x_move rfl) (by decide) fun a hF => ?_
    refine s_val hF (x_assign rfl) (by decide) fun a hF => ?_
    refine s_end (hK12 _ _ ?_)
    refine wp_ret (res_slot hF rfl rfl ⟨_, rfl, ⟨vals, Rd.own hO, fun j u l hu hl => ((hv j u l hu hl).below hB).young (Nat.le_refl _)⟩, hB⟩)
end Go.Proofs.YtbmglinkfdoegaaDoor
