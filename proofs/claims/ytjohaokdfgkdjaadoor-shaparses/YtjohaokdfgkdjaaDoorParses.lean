/- ShaParses: the walk. -/
import Derived.Test.YtjohaokdfgkdjaaDoorRhex
namespace Go.Proofs.YtjohaokdfgkdjaaDoor
open Go.RowKit Go.Shelf
set_option linter.unusedVariables false
set_option linter.unusedSimpArgs false

/-- Is it one, as far as it has been seen? -/
def seen (s : List UInt8) (k : Nat) : Bool := decide (s.length = 64) && (s.take k).all isD
theorem seen_all (s : List UInt8) : seen s s.length = parseOk s := by rw [seen, List.take_length]; rfl
theorem seen_succ (s : List UInt8) (k : Nat) (h : k < s.length) : seen s (k + 1) = (seen s k && isD (s.getD k 0)) := by
  rw [seen, seen, take_snoc s k 0 h, List.all_append, Bool.and_assoc]
  simp
theorem parseV_length (s : List UInt8) : (parseV s).length = 32 := by
  unfold parseV
  split
  · rename_i h
    simp only [parseOk, Bool.and_eq_true, decide_eq_true_eq] at h
    exact unhex_length 32 s (by omega)
  · rfl
theorem hexV (s : List UInt8) (h : parseOk s = true) : hexL (parseV s) = s := by
  have hh := h
  simp only [parseOk, Bool.and_eq_true, decide_eq_true_eq, List.all_eq_true] at hh
  rw [parseV, if_pos h]
  exact hexL_unhex 32 s (by omega) hh.2

theorem isD_a {c : UInt8} (h1 : 48 ≤ c.toNat) (h2 : c.toNat ≤ 57) : isD c = true := by simp [isD]; omega
theorem isD_b {c : UInt8} (h1 : c.toNat < 48) : isD c = false := by simp [isD]; omega
theorem isD_c {c : UInt8} (h1 : 57 < c.toNat) (h2 : c.toNat < 97) : isD c = false := by simp [isD]; omega
theorem isD_d {c : UInt8} (h1 : 97 ≤ c.toNat) (h2 : c.toNat ≤ 102) : isD c = true := by simp [isD]; omega
theorem isD_e {c : UInt8} (h1 : 102 < c.toNat) : isD c = false := by simp [isD]; omega

set_option maxRecDepth 100000 in
set_option maxHeartbeats 1600000 in
theorem shaParses_walk (s : List UInt8) (hs : s.length ≤ 9223372036854775807) (w0 : World) (hT : Tab w0) : Calls Tryd.prog 5 #[.string ⟨s.toArray⟩] w0 fun e w' => e = .returned (.bool true) ∧ Below w0.heap.size w0 w' := by
  have hv32 := parseV_length s
  have hl32 : ((parseV s).map encB).length = 32 := by rw [List.length_map, hv32]
  have hsz : ((⟨s.toArray⟩ : ByteArray).size : Int) = (s.length : Int) := by simp [ByteArray.size]
  refine calls_fs 81 [(0, .string ⟨s.toArray⟩)] Tryd.func5 rfl rfl rfl rfl rfl fun a hF => ?_
  refine wp_rs fun K1 hK1 => ?_
  refine s_val hF (x_assign rfl) (by decide) fun a hF => ?_
  refine s_end (hK1 _ _ ?_)
  refine wp_rs fun K2 hK2 => ?_
  refine s_val hF (x_move rfl) (by decide) fun a hF => ?_
  refine s_call1 (R := fun v w' => v = .tuple #[.agg ((parseV s).map encB).toArray, .bool (parseOk s)] ∧ Below w0.heap.size w0 w') hF (enters_of Tryd.func14 (by kernel_rfl) rfl) rfl (by decide) ((parse14 s w0).mono fun e w' h => ⟨_, h.1, rfl, h.2⟩) ?_
  rintro _ w1 a ⟨rfl, B1⟩ hF
  refine s_val hF (x_move rfl) (by decide) fun a hF => ?_
  refine s_val hF (x_ext rfl rfl) (by decide) fun a hF => ?_
  refine s_val hF (x_ext rfl rfl) (by decide) fun a hF => ?_
  refine s_alloc hF (by decide) zero24 fun w2 b3 a e3 m3 B2 z2 hF => ?_
  refine s_putW hF rfl rfl (by rw [hl32]; exact size_wide wide24) m3 (by rw [hl32]; rfl) (oneB _) fun w2 m3 o3 => ?_
  have hB2 := (B1.trans (B2.mono B1.size)).trans (o3.below (by have := B1.size; omega))
  refine s_val hF (x_assign rfl) (by decide) fun a hF => ?_
  refine s_end (hK2 _ _ ?_)
  refine wp_rs fun K3 hK3 => ?_
  refine s_val hF (x_move rfl) (by decide) fun a hF => ?_
  refine s_val hF (x_lenS Tryd.underlying9 rfl) (by decide) fun a hF => ?_
  refine s_val hF (x_eql (b := seen s 0) (by rw [seen]; simp [ByteArray.size]; omega) rfl rfl) (by decide) fun a hF => ?_
  refine s_val hF (x_assign rfl) (by decide) fun a hF => ?_
  refine s_end (hK3 _ _ ?_)
  refine wp_seq_k fun K4 hK4 => ?_
  refine wp_rs fun K5 hK5 => ?_
  refine s_val hF (x_move rfl) (by decide) fun a hF => ?_
  refine s_val hF (x_lenS Tryd.underlying9 rfl) (by decide) fun a hF => ?_
  refine s_val hF (x_move rfl) (by decide) fun a hF => ?_
  refine s_end (hK5 _ _ ?_)
  refine wp_block ?_
  rw [hsz] at hF
  refine wp_up s.length (fun k a w => Blk w b3 24 ((parseV s).map encB) ∧ Below w0.heap.size w0 w ∧ Fs 81 a [(17, .int .i64 (k : Int)), (16, .int .i64 (s.length : Int)), (5, .bool (seen s k)), (4, .bool (parseOk s)), (0, .string ⟨s.toArray⟩), (3, .pointer (some ⟨b3, 0, none⟩))]) ⟨m3, hB2, hF.sub _ rfl⟩ ?_
  clear hF m3
  rintro k a w hk ⟨m3, hB, hF⟩ K' hK'
  refine wp_rs fun K6 hK6 => ?_
  refine s_val hF (x_lss (b := decide (k < s.length)) (by simp) rfl rfl) (by decide) fun a hF => ?_
  refine s_end (hK6 _ _ ?_)
  refine wp_seq_k fun K7 hK7 => ?_
  refine wp_iff hF rfl (fun hc18 => ?_) (fun hc18 => ?_)
  · refine wp_skip (hK7 _ _ ?_)
    refine wp_seq_k fun K8 hK8 => ?_
    refine wp_block ?_
    refine wp_rs fun K9 hK9 => ?_
    refine s_val hF (x_move rfl) (by decide) fun a hF => ?_
    refine s_val hF (x_assign rfl) (by decide) fun a hF => ?_
    refine s_end (hK9 _ _ ?_)
    obtain ⟨c, hcd⟩ : ∃ c, c = s.getD k 0 := ⟨_, rfl⟩
    cases hs0 : seen s k with
    | false =>
      rw [hs0] at hF
      have hsn : seen s (k + 1) = false := by rw [seen_succ s k (by omega), hs0]; rfl
      refine wp_region_lit ?_
      refine s_val hF (x_move rfl) (by decide) fun a hF => ?_
      refine s_val hF (x_move rfl) (by decide) fun a hF => ?_
      refine s_grdn 21 hF rfl rfl (by decide) fun a hF => ?_
      refine s_grdn 21 hF rfl rfl (by decide) fun a hF => ?_
      refine s_grdn 21 hF rfl rfl (by decide) fun a hF => ?_
      refine s_grdn 21 hF rfl rfl (by decide) fun a hF => ?_
      refine s_grdn 21 hF rfl rfl (by decide) fun a hF => ?_
      refine s_grdu 26 hF rfl rfl (by decide) fun a hF => ?_
      refine s_grdu 26 hF rfl rfl (by decide) fun a hF => ?_
      refine s_grdu 26 hF rfl rfl (by decide) fun a hF => ?_
      refine s_grdu 26 hF rfl rfl (by decide) fun a hF => ?_
      refine s_grdn 21 hF rfl rfl (by decide) fun a hF => ?_
      refine s_grdn 21 hF rfl rfl (by decide) fun a hF => ?_
      refine s_grdu 32 hF rfl rfl (by decide) fun a hF => ?_
      refine s_grdu 32 hF rfl rfl (by decide) fun a hF => ?_
      refine s_grdu 32 hF rfl rfl (by decide) fun a hF => ?_
      refine s_grdu 32 hF rfl rfl (by decide) fun a hF => ?_
      refine s_grdu 32 hF rfl rfl (by decide) fun a hF => ?_
      refine s_grdu 37 hF rfl rfl (by decide) fun a hF => ?_
      refine s_grdu 37 hF rfl rfl (by decide) fun a hF => ?_
      refine s_grdu 37 hF rfl rfl (by decide) fun a hF => ?_
      refine s_grdu 37 hF rfl rfl (by decide) fun a hF => ?_
      refine s_grdu 32 hF rfl rfl (by decide) fun a hF => ?_
      refine s_grdn 21 hF rfl rfl (by decide) fun a hF => ?_
      refine s_val hF (x_pick rfl rfl) (by decide) fun a hF => ?_
      refine s_val hF (x_assign rfl) (by decide) fun a hF => ?_
      refine s_end (hK8 _ _ ?_)
      refine wp_region_lit ?_
      refine s_val hF (x_addn (k + 1) (by omega) (by omega) rfl rfl) (by decide) fun a hF => ?_
      refine s_val hF (x_move rfl) (by decide) fun a hF => ?_
      refine s_end (hK' _ _ (by omega) ⟨m3, hB, by rw [hsn]; exact hF.sub _ rfl⟩)
    | true =>
      rw [hs0] at hF
      rcases (show (48 ≤ (s.getD k 0).toNat ∧ (s.getD k 0).toNat ≤ 57) ∨ (s.getD k 0).toNat < 48 ∨ (57 < (s.getD k 0).toNat ∧ (s.getD k 0).toNat < 97) ∨ (97 ≤ (s.getD k 0).toNat ∧ (s.getD k 0).toNat ≤ 102) ∨ 102 < (s.getD k 0).toNat by omega) with ⟨h1, h2⟩ | h1 | ⟨h1, h2⟩ | ⟨h1, h2⟩ | h1
      · have hsn : seen s (k + 1) = true := by rw [seen_succ s k (by omega), hs0, Bool.true_and]; exact isD_a h1 h2
        refine wp_region_lit ?_
        refine s_val hF (x_move rfl) (by decide) fun a hF => ?_
        refine s_val hF (x_move rfl) (by decide) fun a hF => ?_
        refine s_grd 21 hF rfl rfl rfl ?_
        refine s_val hF (x_move rfl) (by decide) fun a hF => ?_
        refine s_grd 21 hF rfl rfl rfl ?_
        refine s_val hF (x_move rfl) (by decide) fun a hF => ?_
        refine s_grd 21 hF rfl rfl rfl ?_
        refine s_val hF (x_ix (v := encB (s.getD k 0)) rfl rfl (m_ixstr k Tryd.underlying9 rfl (by show s[k]? = _; exact getD_get s _ 0 (by omega)))) (by decide) fun a hF => ?_
        refine s_grd 21 hF rfl rfl rfl ?_
        refine s_val hF (x_geq (b := true) (decide_eq_true (by omega)) rfl rfl) (by decide) fun a hF => ?_
        refine s_grd 21 hF rfl rfl rfl ?_
        refine s_val hF (x_move rfl) (by decide) fun a hF => ?_
        refine s_grd 26 hF rfl rfl rfl ?_
        refine s_val hF (x_move rfl) (by decide) fun a hF => ?_
        refine s_grd 26 hF rfl rfl rfl ?_
        refine s_val hF (x_move rfl) (by decide) fun a hF => ?_
        refine s_grd 26 hF rfl rfl rfl ?_
        refine s_val hF (x_ix (v := encB (s.getD k 0)) rfl rfl (m_ixstr k Tryd.underlying9 rfl (by show s[k]? = _; exact getD_get s _ 0 (by omega)))) (by decide) fun a hF => ?_
        refine s_grd 26 hF rfl rfl rfl ?_
        refine s_val hF (x_leq (b := true) (decide_eq_true (by omega)) rfl rfl) (by decide) fun a hF => ?_
        refine s_grd 21 hF rfl rfl rfl ?_
        refine s_val hF (x_pick rfl rfl) (by decide) fun a hF => ?_
        refine s_grd 21 hF rfl rfl rfl ?_
        refine s_val hF (x_move rfl) (by decide) fun a hF => ?_
        refine s_grdn 32 hF rfl rfl (by decide) fun a hF => ?_
        refine s_grdn 32 hF rfl rfl (by decide) fun a hF => ?_
        refine s_grdn 32 hF rfl rfl (by decide) fun a hF => ?_
        refine s_grdn 32 hF rfl rfl (by decide) fun a hF => ?_
        refine s_grdn 32 hF rfl rfl (by decide) fun a hF => ?_
        refine s_grdu 37 hF rfl rfl (by decide) fun a hF => ?_
        refine s_grdu 37 hF rfl rfl (by decide) fun a hF => ?_
        refine s_grdu 37 hF rfl rfl (by decide) fun a hF => ?_
        refine s_grdu 37 hF rfl rfl (by decide) fun a hF => ?_
        refine s_grdn 32 hF rfl rfl (by decide) fun a hF => ?_
        refine s_grd 21 hF rfl rfl rfl ?_
        refine s_val hF (x_pick rfl rfl) (by decide) fun a hF => ?_
        refine s_val hF (x_pick rfl rfl) (by decide) fun a hF => ?_
        refine s_val hF (x_assign rfl) (by decide) fun a hF => ?_
        refine s_end (hK8 _ _ ?_)
        refine wp_region_lit ?_
        refine s_val hF (x_addn (k + 1) (by omega) (by omega) rfl rfl) (by decide) fun a hF => ?_
        refine s_val hF (x_move rfl) (by decide) fun a hF => ?_
        refine s_end (hK' _ _ (by omega) ⟨m3, hB, by rw [hsn]; exact hF.sub _ rfl⟩)
      · have hsn : seen s (k + 1) = false := by rw [seen_succ s k (by omega), hs0, Bool.true_and]; exact isD_b h1
        refine wp_region_lit ?_
        refine s_val hF (x_move rfl) (by decide) fun a hF => ?_
        refine s_val hF (x_move rfl) (by decide) fun a hF => ?_
        refine s_grd 21 hF rfl rfl rfl ?_
        refine s_val hF (x_move rfl) (by decide) fun a hF => ?_
        refine s_grd 21 hF rfl rfl rfl ?_
        refine s_val hF (x_move rfl) (by decide) fun a hF => ?_
        refine s_grd 21 hF rfl rfl rfl ?_
        refine s_val hF (x_ix (v := encB (s.getD k 0)) rfl rfl (m_ixstr k Tryd.underlying9 rfl (by show s[k]? = _; exact getD_get s _ 0 (by omega)))) (by decide) fun a hF => ?_
        refine s_grd 21 hF rfl rfl rfl ?_
        refine s_val hF (x_geq (b := false) (decide_eq_false (by omega)) rfl rfl) (by decide) fun a hF => ?_
        refine s_grd 21 hF rfl rfl rfl ?_
        refine s_val hF (x_move rfl) (by decide) fun a hF => ?_
        refine s_grdn 26 hF rfl rfl (by decide) fun a hF => ?_
        refine s_grdn 26 hF rfl rfl (by decide) fun a hF => ?_
        refine s_grdn 26 hF rfl rfl (by decide) fun a hF => ?_
        refine s_grdn 26 hF rfl rfl (by decide) fun a hF => ?_
        refine s_grd 21 hF rfl rfl rfl ?_
        refine s_val hF (x_pick rfl rfl) (by decide) fun a hF => ?_
        refine s_grd 21 hF rfl rfl rfl ?_
        refine s_val hF (x_move rfl) (by decide) fun a hF => ?_
        refine s_grd 32 hF rfl rfl rfl ?_
        refine s_val hF (x_move rfl) (by decide) fun a hF => ?_
        refine s_grd 32 hF rfl rfl rfl ?_
        refine s_val hF (x_move rfl) (by decide) fun a hF => ?_
        refine s_grd 32 hF rfl rfl rfl ?_
        refine s_val hF (x_ix (v := encB (s.getD k 0)) rfl rfl (m_ixstr k Tryd.underlying9 rfl (by show s[k]? = _; exact getD_get s _ 0 (by omega)))) (by decide) fun a hF => ?_
        refine s_grd 32 hF rfl rfl rfl ?_
        refine s_val hF (x_geq (b := false) (decide_eq_false (by omega)) rfl rfl) (by decide) fun a hF => ?_
        refine s_grd 32 hF rfl rfl rfl ?_
        refine s_val hF (x_move rfl) (by decide) fun a hF => ?_
        refine s_grdn 37 hF rfl rfl (by decide) fun a hF => ?_
        refine s_grdn 37 hF rfl rfl (by decide) fun a hF => ?_
        refine s_grdn 37 hF rfl rfl (by decide) fun a hF => ?_
        refine s_grdn 37 hF rfl rfl (by decide) fun a hF => ?_
        refine s_grd 32 hF rfl rfl rfl ?_
        refine s_val hF (x_pick rfl rfl) (by decide) fun a hF => ?_
        refine s_grd 21 hF rfl rfl rfl ?_
        refine s_val hF (x_pick rfl rfl) (by decide) fun a hF => ?_
        refine s_val hF (x_pick rfl rfl) (by decide) fun a hF => ?_
        refine s_val hF (x_assign rfl) (by decide) fun a hF => ?_
        refine s_end (hK8 _ _ ?_)
        refine wp_region_lit ?_
        refine s_val hF (x_addn (k + 1) (by omega) (by omega) rfl rfl) (by decide) fun a hF => ?_
        refine s_val hF (x_move rfl) (by decide) fun a hF => ?_
        refine s_end (hK' _ _ (by omega) ⟨m3, hB, by rw [hsn]; exact hF.sub _ rfl⟩)
      · have hsn : seen s (k + 1) = false := by rw [seen_succ s k (by omega), hs0, Bool.true_and]; exact isD_c h1 h2
        refine wp_region_lit ?_
        refine s_val hF (x_move rfl) (by decide) fun a hF => ?_
        refine s_val hF (x_move rfl) (by decide) fun a hF => ?_
        refine s_grd 21 hF rfl rfl rfl ?_
        refine s_val hF (x_move rfl) (by decide) fun a hF => ?_
        refine s_grd 21 hF rfl rfl rfl ?_
        refine s_val hF (x_move rfl) (by decide) fun a hF => ?_
        refine s_grd 21 hF rfl rfl rfl ?_
        refine s_val hF (x_ix (v := encB (s.getD k 0)) rfl rfl (m_ixstr k Tryd.underlying9 rfl (by show s[k]? = _; exact getD_get s _ 0 (by omega)))) (by decide) fun a hF => ?_
        refine s_grd 21 hF rfl rfl rfl ?_
        refine s_val hF (x_geq (b := true) (decide_eq_true (by omega)) rfl rfl) (by decide) fun a hF => ?_
        refine s_grd 21 hF rfl rfl rfl ?_
        refine s_val hF (x_move rfl) (by decide) fun a hF => ?_
        refine s_grd 26 hF rfl rfl rfl ?_
        refine s_val hF (x_move rfl) (by decide) fun a hF => ?_
        refine s_grd 26 hF rfl rfl rfl ?_
        refine s_val hF (x_move rfl) (by decide) fun a hF => ?_
        refine s_grd 26 hF rfl rfl rfl ?_
        refine s_val hF (x_ix (v := encB (s.getD k 0)) rfl rfl (m_ixstr k Tryd.underlying9 rfl (by show s[k]? = _; exact getD_get s _ 0 (by omega)))) (by decide) fun a hF => ?_
        refine s_grd 26 hF rfl rfl rfl ?_
        refine s_val hF (x_leq (b := false) (decide_eq_false (by omega)) rfl rfl) (by decide) fun a hF => ?_
        refine s_grd 21 hF rfl rfl rfl ?_
        refine s_val hF (x_pick rfl rfl) (by decide) fun a hF => ?_
        refine s_grd 21 hF rfl rfl rfl ?_
        refine s_val hF (x_move rfl) (by decide) fun a hF => ?_
        refine s_grd 32 hF rfl rfl rfl ?_
        refine s_val hF (x_move rfl) (by decide) fun a hF => ?_
        refine s_grd 32 hF rfl rfl rfl ?_
        refine s_val hF (x_move rfl) (by decide) fun a hF => ?_
        refine s_grd 32 hF rfl rfl rfl ?_
        refine s_val hF (x_ix (v := encB (s.getD k 0)) rfl rfl (m_ixstr k Tryd.underlying9 rfl (by show s[k]? = _; exact getD_get s _ 0 (by omega)))) (by decide) fun a hF => ?_
        refine s_grd 32 hF rfl rfl rfl ?_
        refine s_val hF (x_geq (b := false) (decide_eq_false (by omega)) rfl rfl) (by decide) fun a hF => ?_
        refine s_grd 32 hF rfl rfl rfl ?_
        refine s_val hF (x_move rfl) (by decide) fun a hF => ?_
        refine s_grdn 37 hF rfl rfl (by decide) fun a hF => ?_
        refine s_grdn 37 hF rfl rfl (by decide) fun a hF => ?_
        refine s_grdn 37 hF rfl rfl (by decide) fun a hF => ?_
        refine s_grdn 37 hF rfl rfl (by decide) fun a hF => ?_
        refine s_grd 32 hF rfl rfl rfl ?_
        refine s_val hF (x_pick rfl rfl) (by decide) fun a hF => ?_
        refine s_grd 21 hF rfl rfl rfl ?_
        refine s_val hF (x_pick rfl rfl) (by decide) fun a hF => ?_
        refine s_val hF (x_pick rfl rfl) (by decide) fun a hF => ?_
        refine s_val hF (x_assign rfl) (by decide) fun a hF => ?_
        refine s_end (hK8 _ _ ?_)
        refine wp_region_lit ?_
        refine s_val hF (x_addn (k + 1) (by omega) (by omega) rfl rfl) (by decide) fun a hF => ?_
        refine s_val hF (x_move rfl) (by decide) fun a hF => ?_
        refine s_end (hK' _ _ (by omega) ⟨m3, hB, by rw [hsn]; exact hF.sub _ rfl⟩)
      · have hsn : seen s (k + 1) = true := by rw [seen_succ s k (by omega), hs0, Bool.true_and]; exact isD_d h1 h2
        refine wp_region_lit ?_
        refine s_val hF (x_move rfl) (by decide) fun a hF => ?_
        refine s_val hF (x_move rfl) (by decide) fun a hF => ?_
        refine s_grd 21 hF rfl rfl rfl ?_
        refine s_val hF (x_move rfl) (by decide) fun a hF => ?_
        refine s_grd 21 hF rfl rfl rfl ?_
        refine s_val hF (x_move rfl) (by decide) fun a hF => ?_
        refine s_grd 21 hF rfl rfl rfl ?_
        refine s_val hF (x_ix (v := encB (s.getD k 0)) rfl rfl (m_ixstr k Tryd.underlying9 rfl (by show s[k]? = _; exact getD_get s _ 0 (by omega)))) (by decide) fun a hF => ?_
        refine s_grd 21 hF rfl rfl rfl ?_
        refine s_val hF (x_geq (b := true) (decide_eq_true (by omega)) rfl rfl) (by decide) fun a hF => ?_
        refine s_grd 21 hF rfl rfl rfl ?_
        refine s_val hF (x_move rfl) (by decide) fun a hF => ?_
        refine s_grd 26 hF rfl rfl rfl ?_
        refine s_val hF (x_move rfl) (by decide) fun a hF => ?_
        refine s_grd 26 hF rfl rfl rfl ?_
        refine s_val hF (x_move rfl) (by decide) fun a hF => ?_
        refine s_grd 26 hF rfl rfl rfl ?_
        refine s_val hF (x_ix (v := encB (s.getD k 0)) rfl rfl (m_ixstr k Tryd.underlying9 rfl (by show s[k]? = _; exact getD_get s _ 0 (by omega)))) (by decide) fun a hF => ?_
        refine s_grd 26 hF rfl rfl rfl ?_
        refine s_val hF (x_leq (b := false) (decide_eq_false (by omega)) rfl rfl) (by decide) fun a hF => ?_
        refine s_grd 21 hF rfl rfl rfl ?_
        refine s_val hF (x_pick rfl rfl) (by decide) fun a hF => ?_
        refine s_grd 21 hF rfl rfl rfl ?_
        refine s_val hF (x_move rfl) (by decide) fun a hF => ?_
        refine s_grd 32 hF rfl rfl rfl ?_
        refine s_val hF (x_move rfl) (by decide) fun a hF => ?_
        refine s_grd 32 hF rfl rfl rfl ?_
        refine s_val hF (x_move rfl) (by decide) fun a hF => ?_
        refine s_grd 32 hF rfl rfl rfl ?_
        refine s_val hF (x_ix (v := encB (s.getD k 0)) rfl rfl (m_ixstr k Tryd.underlying9 rfl (by show s[k]? = _; exact getD_get s _ 0 (by omega)))) (by decide) fun a hF => ?_
        refine s_grd 32 hF rfl rfl rfl ?_
        refine s_val hF (x_geq (b := true) (decide_eq_true (by omega)) rfl rfl) (by decide) fun a hF => ?_
        refine s_grd 32 hF rfl rfl rfl ?_
        refine s_val hF (x_move rfl) (by decide) fun a hF => ?_
        refine s_grd 37 hF rfl rfl rfl ?_
        refine s_val hF (x_move rfl) (by decide) fun a hF => ?_
        refine s_grd 37 hF rfl rfl rfl ?_
        refine s_val hF (x_move rfl) (by decide) fun a hF => ?_
        refine s_grd 37 hF rfl rfl rfl ?_
        refine s_val hF (x_ix (v := encB (s.getD k 0)) rfl rfl (m_ixstr k Tryd.underlying9 rfl (by show s[k]? = _; exact getD_get s _ 0 (by omega)))) (by decide) fun a hF => ?_
        refine s_grd 37 hF rfl rfl rfl ?_
        refine s_val hF (x_leq (b := true) (decide_eq_true (by omega)) rfl rfl) (by decide) fun a hF => ?_
        refine s_grd 32 hF rfl rfl rfl ?_
        refine s_val hF (x_pick rfl rfl) (by decide) fun a hF => ?_
        refine s_grd 21 hF rfl rfl rfl ?_
        refine s_val hF (x_pick rfl rfl) (by decide) fun a hF => ?_
        refine s_val hF (x_pick rfl rfl) (by decide) fun a hF => ?_
        refine s_val hF (x_assign rfl) (by decide) fun a hF => ?_
        refine s_end (hK8 _ _ ?_)
        refine wp_region_lit ?_
        refine s_val hF (x_addn (k + 1) (by omega) (by omega) rfl rfl) (by decide) fun a hF => ?_
        refine s_val hF (x_move rfl) (by decide) fun a hF => ?_
        refine s_end (hK' _ _ (by omega) ⟨m3, hB, by rw [hsn]; exact hF.sub _ rfl⟩)
      · have hsn : seen s (k + 1) = false := by rw [seen_succ s k (by omega), hs0, Bool.true_and]; exact isD_e h1
        refine wp_region_lit ?_
        refine s_val hF (x_move rfl) (by decide) fun a hF => ?_
        refine s_val hF (x_move rfl) (by decide) fun a hF => ?_
        refine s_grd 21 hF rfl rfl rfl ?_
        refine s_val hF (x_move rfl) (by decide) fun a hF => ?_
        refine s_grd 21 hF rfl rfl rfl ?_
        refine s_val hF (x_move rfl) (by decide) fun a hF => ?_
        refine s_grd 21 hF rfl rfl rfl ?_
        refine s_val hF (x_ix (v := encB (s.getD k 0)) rfl rfl (m_ixstr k Tryd.underlying9 rfl (by show s[k]? = _; exact getD_get s _ 0 (by omega)))) (by decide) fun a hF => ?_
        refine s_grd 21 hF rfl rfl rfl ?_
        refine s_val hF (x_geq (b := true) (decide_eq_true (by omega)) rfl rfl) (by decide) fun a hF => ?_
        refine s_grd 21 hF rfl rfl rfl ?_
        refine s_val hF (x_move rfl) (by decide) fun a hF => ?_
        refine s_grd 26 hF rfl rfl rfl ?_
        refine s_val hF (x_move rfl) (by decide) fun a hF => ?_
        refine s_grd 26 hF rfl rfl rfl ?_
        refine s_val hF (x_move rfl) (by decide) fun a hF => ?_
        refine s_grd 26 hF rfl rfl rfl ?_
        refine s_val hF (x_ix (v := encB (s.getD k 0)) rfl rfl (m_ixstr k Tryd.underlying9 rfl (by show s[k]? = _; exact getD_get s _ 0 (by omega)))) (by decide) fun a hF => ?_
        refine s_grd 26 hF rfl rfl rfl ?_
        refine s_val hF (x_leq (b := false) (decide_eq_false (by omega)) rfl rfl) (by decide) fun a hF => ?_
        refine s_grd 21 hF rfl rfl rfl ?_
        refine s_val hF (x_pick rfl rfl) (by decide) fun a hF => ?_
        refine s_grd 21 hF rfl rfl rfl ?_
        refine s_val hF (x_move rfl) (by decide) fun a hF => ?_
        refine s_grd 32 hF rfl rfl rfl ?_
        refine s_val hF (x_move rfl) (by decide) fun a hF => ?_
        refine s_grd 32 hF rfl rfl rfl ?_
        refine s_val hF (x_move rfl) (by decide) fun a hF => ?_
        refine s_grd 32 hF rfl rfl rfl ?_
        refine s_val hF (x_ix (v := encB (s.getD k 0)) rfl rfl (m_ixstr k Tryd.underlying9 rfl (by show s[k]? = _; exact getD_get s _ 0 (by omega)))) (by decide) fun a hF => ?_
        refine s_grd 32 hF rfl rfl rfl ?_
        refine s_val hF (x_geq (b := true) (decide_eq_true (by omega)) rfl rfl) (by decide) fun a hF => ?_
        refine s_grd 32 hF rfl rfl rfl ?_
        refine s_val hF (x_move rfl) (by decide) fun a hF => ?_
        refine s_grd 37 hF rfl rfl rfl ?_
        refine s_val hF (x_move rfl) (by decide) fun a hF => ?_
        refine s_grd 37 hF rfl rfl rfl ?_
        refine s_val hF (x_move rfl) (by decide) fun a hF => ?_
        refine s_grd 37 hF rfl rfl rfl ?_
        refine s_val hF (x_ix (v := encB (s.getD k 0)) rfl rfl (m_ixstr k Tryd.underlying9 rfl (by show s[k]? = _; exact getD_get s _ 0 (by omega)))) (by decide) fun a hF => ?_
        refine s_grd 37 hF rfl rfl rfl ?_
        refine s_val hF (x_leq (b := false) (decide_eq_false (by omega)) rfl rfl) (by decide) fun a hF => ?_
        refine s_grd 32 hF rfl rfl rfl ?_
        refine s_val hF (x_pick rfl rfl) (by decide) fun a hF => ?_
        refine s_grd 21 hF rfl rfl rfl ?_
        refine s_val hF (x_pick rfl rfl) (by decide) fun a hF => ?_
        refine s_val hF (x_pick rfl rfl) (by decide) fun a hF => ?_
        refine s_val hF (x_assign rfl) (by decide) fun a hF => ?_
        refine s_end (hK8 _ _ ?_)
        refine wp_region_lit ?_
        refine s_val hF (x_addn (k + 1) (by omega) (by omega) rfl rfl) (by decide) fun a hF => ?_
        refine s_val hF (x_move rfl) (by decide) fun a hF => ?_
        refine s_end (hK' _ _ (by omega) ⟨m3, hB, by rw [hsn]; exact hF.sub _ rfl⟩)
  · obtain rfl : k = s.length := by omega
    rw [seen_all] at hF
    refine wp_exit (hK4 _ _ ?_)
    cases hok : parseOk s with
    | false =>
      rw [hok] at hF
      have hz : parseV s = List.replicate 32 0 := by rw [parseV, hok]; rfl
      refine wp_rs fun K10 hK10 => ?_
      refine s_val hF (x_move rfl) (by decide) fun a hF => ?_
      refine s_val hF (x_move rfl) (by decide) fun a hF => ?_
      refine s_val hF (x_eqB (b := true) Tryd.underlying4 rfl rfl rfl) (by decide) fun a hF => ?_
      refine s_val hF (x_move rfl) (by decide) fun a hF => ?_
      refine s_grd 49 hF rfl rfl rfl ?_
      refine s_val hF (x_move rfl) (by decide) fun a hF => ?_
      refine s_grd 49 hF rfl rfl rfl ?_
      refine s_val hF (x_not rfl) (by decide) fun a hF => ?_
      refine s_grd 49 hF rfl rfl rfl ?_
      refine s_val hF (x_move rfl) (by decide) fun a hF => ?_
      refine s_grdn 52 hF rfl rfl (by decide) fun a hF => ?_
      refine s_grdn 52 hF rfl rfl (by decide) fun a hF => ?_
      refine s_grdn 52 hF rfl rfl (by decide) fun a hF => ?_
      refine s_grdn 52 hF rfl rfl (by decide) fun a hF => ?_
      refine s_grd 49 hF rfl rfl rfl ?_
      refine s_val hF (x_pick rfl rfl) (by decide) fun a hF => ?_
      refine s_val hF (x_pick rfl rfl) (by decide) fun a hF => ?_
      refine s_val hF (x_move rfl) (by decide) fun a hF => ?_
      refine s_grd 59 hF rfl rfl rfl ?_
      refine s_val hF (x_move rfl) (by decide) fun a hF => ?_
      refine s_grd 59 hF rfl rfl rfl ?_
      refine s_val hF (x_move rfl) (by decide) fun a hF => ?_
      refine s_grd 61 hF rfl rfl rfl ?_
      refine s_val hF (x_load rfl (m_loadW (by rw [hl32]; exact wide24) m3)) (by decide) fun a hF => ?_
      refine s_grd 61 hF rfl rfl rfl ?_
      refine s_val hF (x_build (parts := []) (vs := []) rfl (built24 _)) (by decide) fun a hF => ?_
      refine s_grd 61 hF rfl rfl rfl ?_
      refine s_val hF (x_eqA (b := true) under24 Tryd.underlying5 flat5 guard24 hv32 (ys := List.replicate 32 0) rfl (decide_eq_true hz) rfl rfl) (by decide) fun a hF => ?_
      refine s_grd 59 hF rfl rfl rfl ?_
      refine s_val hF (x_pick rfl rfl) (by decide) fun a hF => ?_
      refine s_val hF (x_pick rfl rfl) (by decide) fun a hF => ?_
      refine s_val hF (x_move rfl) (by decide) fun a hF => ?_
      refine s_grd 67 hF rfl rfl rfl ?_
      refine s_val hF (x_load rfl (m_loadW (by rw [hl32]; exact wide24) m3)) (by decide) fun a hF => ?_
      refine s_grd 67 hF rfl rfl rfl ?_
      refine s_call1 (R := fun v w' => v = .string ⟨(hexL (parseV s)).toArray⟩ ∧ Below (World.heap w).size w w') hF (enters_of Tryd.func10 (by kernel_rfl) rfl) rfl (by decide) ((hex10 (parseV s) hv32 w).mono fun e w' h => ⟨_, h.1, rfl, h.2⟩) ?_
      rintro _ w4 a ⟨rfl, B4⟩ hF
      have hB4 := hB.trans (B4.mono hB.size)
      refine s_grd 67 hF rfl rfl rfl ?_
      refine s_val hF (x_lenS Tryd.underlying9 rfl) (by decide) fun a hF => ?_
      refine s_grd 67 hF rfl rfl rfl ?_
      refine s_val hF (x_eql (b := true) (decide_eq_true (by rw [hexSize _ hv32]; rfl)) rfl rfl) (by decide) fun a hF => ?_
      refine s_val hF (x_pick rfl rfl) (by decide) fun a hF => ?_
      refine s_val hF (x_move rfl) (by decide) fun a hF => ?_
      refine s_grd 73 hF rfl rfl rfl ?_
      refine s_lit [97, 98, 99] hF (by decide) rfl Tryd.underlying22 (size_flat flat5) zero5 rfl (by decide) (by decide) fun w8 b8 a e8 m8 B8 z8 hF => ?_
      refine s_grd 73 hF rfl rfl rfl ?_
      refine s_mark (bs := [97, 98, 99]) (b8 + 1) hF (by decide) rfl m8 (by omega) fun w9 a hR o9 hF => ?_
      have hB8 := hB4.trans (B8.mono hB4.size)
      have hB9 : Below w0.heap.size w0 w9 := hB8.trans (o9.below (by have := hB4.size; omega))
      refine s_grd 73 hF rfl rfl rfl ?_
      refine s_call1 (R := fun v w' => v = .agg ((shaL kTab [97, 98, 99]).map encB).toArray ∧ Below w9.heap.size w9 w') hF (enters_of Tryd.func9 (by kernel_rfl) rfl) rfl (by decide) ((sum9 (b8 + 1) [97, 98, 99] _ w9 hR (hT.old hB9) (by decide)).mono fun e w' h => ⟨_, h.1, rfl, h.2⟩) ?_
      rintro _ w10 a ⟨rfl, B10⟩ hF
      refine s_grd 73 hF rfl rfl rfl ?_
      refine s_call1 (R := fun v w' => v = .string ⟨(hexL (shaL kTab [97, 98, 99])).toArray⟩ ∧ Below w10.heap.size w10 w') hF (enters_of Tryd.func10 (by kernel_rfl) rfl) rfl (by decide) ((hex10 (shaL kTab [97, 98, 99]) (shaL_length _ _) w10).mono fun e w' h => ⟨_, h.1, rfl, h.2⟩) ?_
      rintro _ w11 a ⟨rfl, B11⟩ hF
      refine s_grd 73 hF rfl rfl rfl ?_
      refine s_val hF (x_slice (vlo := none) (vhi := some (.int .i64 4)) (vmx := none) rfl rfl rfl rfl (m_sliceS 4 Tryd.underlying9 rfl (by rw [hexSize _ (shaL_length _ _)]; decide))) (by decide) fun a hF => ?_
      refine s_grd 73 hF rfl rfl rfl ?_
      refine s_val hF (x_eqT abc4 rfl rfl) (by decide) fun a hF => ?_
      refine s_val hF (x_pick rfl rfl) (by decide) fun a hF => ?_
      refine s_val hF (x_assign rfl) (by decide) fun a hF => ?_
      refine s_end (hK10 _ _ ?_)
      have hB10 := hB9.trans (B10.mono hB9.size)
      refine wp_ret (res_slot hF rfl rfl ⟨rfl, hB10.trans (B11.mono hB10.size)⟩)
    | true =>
      rw [hok] at hF
      refine wp_rs fun K11 hK11 => ?_
      refine s_val hF (x_move rfl) (by decide) fun a hF => ?_
      refine s_val hF (x_move rfl) (by decide) fun a hF => ?_
      refine s_val hF (x_eqB (b := true) Tryd.underlying4 rfl rfl rfl) (by decide) fun a hF => ?_
      refine s_val hF (x_move rfl) (by decide) fun a hF => ?_
      refine s_grd 49 hF rfl rfl rfl ?_
      refine s_val hF (x_move rfl) (by decide) fun a hF => ?_
      refine s_grd 49 hF rfl rfl rfl ?_
      refine s_val hF (x_not rfl) (by decide) fun a hF => ?_
      refine s_grd 49 hF rfl rfl rfl ?_
      refine s_val hF (x_move rfl) (by decide) fun a hF => ?_
      refine s_grd 52 hF rfl rfl rfl ?_
      refine s_val hF (x_load rfl (m_loadW (by rw [hl32]; exact wide24) m3)) (by decide) fun a hF => ?_
      refine s_grd 52 hF rfl rfl rfl ?_
      refine s_call1 (R := fun v w' => v = .string ⟨(hexL (parseV s)).toArray⟩ ∧ Below w.heap.size w w') hF (enters_of Tryd.func12 (by kernel_rfl) rfl) rfl (by decide) ((rhex12 (parseV s) hv32 w).mono fun e w' h => ⟨_, h.1, rfl, h.2⟩) ?_
      rintro _ w3 a ⟨rfl, B3⟩ hF
      have hB3 := hB.trans (B3.mono hB.size)
      have m3 := m3.old B3
      refine s_grd 52 hF rfl rfl rfl ?_
      refine s_val hF (x_move rfl) (by decide) fun a hF => ?_
      refine s_grd 52 hF rfl rfl rfl ?_
      refine s_val hF (x_eqT (by rw [hexV s hok]) rfl rfl) (by decide) fun a hF => ?_
      refine s_grd 49 hF rfl rfl rfl ?_
      refine s_val hF (x_pick rfl rfl) (by decide) fun a hF => ?_
      refine s_val hF (x_pick rfl rfl) (by decide) fun a hF => ?_
      refine s_val hF (x_move rfl) (by decide) fun a hF => ?_
      refine s_grd 59 hF rfl rfl rfl ?_
      refine s_val hF (x_move rfl) (by decide) fun a hF => ?_
      refine s_grd 59 hF rfl rfl rfl ?_
      refine s_val hF (x_move rfl) (by decide) fun a hF => ?_
      refine s_grdn 61 hF rfl rfl (by decide) fun a hF => ?_
      refine s_grdn 61 hF rfl rfl (by decide) fun a hF => ?_
      refine s_grdn 61 hF rfl rfl (by decide) fun a hF => ?_
      refine s_grd 59 hF rfl rfl rfl ?_
      refine s_val hF (x_pick rfl rfl) (by decide) fun a hF => ?_
      refine s_val hF (x_pick rfl rfl) (by decide) fun a hF => ?_
      refine s_val hF (x_move rfl) (by decide) fun a hF => ?_
      refine s_grd 67 hF rfl rfl rfl ?_
      refine s_val hF (x_load rfl (m_loadW (by rw [hl32]; exact wide24) m3)) (by decide) fun a hF => ?_
      refine s_grd 67 hF rfl rfl rfl ?_
      refine s_call1 (R := fun v w' => v = .string ⟨(hexL (parseV s)).toArray⟩ ∧ Below (World.heap w3).size w3 w') hF (enters_of Tryd.func10 (by kernel_rfl) rfl) rfl (by decide) ((hex10 (parseV s) hv32 w3).mono fun e w' h => ⟨_, h.1, rfl, h.2⟩) ?_
      rintro _ w4 a ⟨rfl, B4⟩ hF
      have hB4 := hB3.trans (B4.mono hB3.size)
      refine s_grd 67 hF rfl rfl rfl ?_
      refine s_val hF (x_lenS Tryd.underlying9 rfl) (by decide) fun a hF => ?_
      refine s_grd 67 hF rfl rfl rfl ?_
      refine s_val hF (x_eql (b := true) (decide_eq_true (by rw [hexSize _ hv32]; rfl)) rfl rfl) (by decide) fun a hF => ?_
      refine s_val hF (x_pick rfl rfl) (by decide) fun a hF => ?_
      refine s_val hF (x_move rfl) (by decide) fun a hF => ?_
      refine s_grd 73 hF rfl rfl rfl ?_
      refine s_lit [97, 98, 99] hF (by decide) rfl Tryd.underlying22 (size_flat flat5) zero5 rfl (by decide) (by decide) fun w8 b8 a e8 m8 B8 z8 hF => ?_
      refine s_grd 73 hF rfl rfl rfl ?_
      refine s_mark (bs := [97, 98, 99]) (b8 + 1) hF (by decide) rfl m8 (by omega) fun w9 a hR o9 hF => ?_
      have hB8 := hB4.trans (B8.mono hB4.size)
      have hB9 : Below w0.heap.size w0 w9 := hB8.trans (o9.below (by have := hB4.size; omega))
      refine s_grd 73 hF rfl rfl rfl ?_
      refine s_call1 (R := fun v w' => v = .agg ((shaL kTab [97, 98, 99]).map encB).toArray ∧ Below w9.heap.size w9 w') hF (enters_of Tryd.func9 (by kernel_rfl) rfl) rfl (by decide) ((sum9 (b8 + 1) [97, 98, 99] _ w9 hR (hT.old hB9) (by decide)).mono fun e w' h => ⟨_, h.1, rfl, h.2⟩) ?_
      rintro _ w10 a ⟨rfl, B10⟩ hF
      refine s_grd 73 hF rfl rfl rfl ?_
      refine s_call1 (R := fun v w' => v = .string ⟨(hexL (shaL kTab [97, 98, 99])).toArray⟩ ∧ Below w10.heap.size w10 w') hF (enters_of Tryd.func10 (by kernel_rfl) rfl) rfl (by decide) ((hex10 (shaL kTab [97, 98, 99]) (shaL_length _ _) w10).mono fun e w' h => ⟨_, h.1, rfl, h.2⟩) ?_
      rintro _ w11 a ⟨rfl, B11⟩ hF
      refine s_grd 73 hF rfl rfl rfl ?_
      refine s_val hF (x_slice (vlo := none) (vhi := some (.int .i64 4)) (vmx := none) rfl rfl rfl rfl (m_sliceS 4 Tryd.underlying9 rfl (by rw [hexSize _ (shaL_length _ _)]; decide))) (by decide) fun a hF => ?_
      refine s_grd 73 hF rfl rfl rfl ?_
      refine s_val hF (x_eqT abc4 rfl rfl) (by decide) fun a hF => ?_
      refine s_val hF (x_pick rfl rfl) (by decide) fun a hF => ?_
      refine s_val hF (x_assign rfl) (by decide) fun a hF => ?_
      refine s_end (hK11 _ _ ?_)
      have hB10 := hB9.trans (B10.mono hB9.size)
      refine wp_ret (res_slot hF rfl rfl ⟨rfl, hB10.trans (B11.mono hB10.size)⟩)
end Go.Proofs.YtjohaokdfgkdjaaDoor
