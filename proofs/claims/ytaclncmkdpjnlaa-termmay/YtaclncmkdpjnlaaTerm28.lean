/- The project's Name and May; the walk of TermMay. -/
import Derived.Test.YtaclncmkdpjnlaaTerm17
namespace Go.Proofs.Ytaclncmkdpjnlaa
open Go.RowKit Go.Shelf
set_option linter.unusedVariables false
set_option linter.unusedSimpArgs false

def letB (q : UInt8) : Bool := decide (97 ≤ q.toNat ∧ q.toNat ≤ 122)
theorem ok_byte {l : List UInt8} {i : Nat} {q : UInt8} (hq : l[i]? = some q) (h0 : i = 0 → letC q) (h : letC q ∨ othC q) : okAt l i := fun c hc => by
  rw [hq] at hc; cases hc
  rcases Nat.eq_zero_or_pos i with hi | hi
  · exact .inl (h0 hi)
  · rcases h with h | h
    · exact .inl h
    · exact .inr ⟨by omega, h⟩
theorem letB_iff {q : UInt8} : letB q = true ↔ letC q := by unfold letB letC; simp

set_option maxRecDepth 100000 in
set_option maxHeartbeats 400000 in
theorem isLetter74 (q : UInt8) (w0 : World) : Calls Try.prog 63 #[.int .u8 (q.toNat : Int)] w0 fun e w' => e = .returned (.bool (letB q)) ∧ w' = w0 := by
  refine calls_fs 9 [(0, .int .u8 (q.toNat : Int))] Try.func63 rfl rfl rfl rfl rfl fun a hF => ?_
  refine wp_rs fun K1 hK1 => ?_
  refine s_val hF (x_assign rfl) (by decide) fun a hF => ?_
  refine s_end (hK1 _ _ ?_)
  rcases (show (97 ≤ (q.toNat : Int) ∧ (q.toNat : Int) ≤ 122) ∨ (97 ≤ (q.toNat : Int) ∧ ¬ (q.toNat : Int) ≤ 122) ∨ ¬ 97 ≤ (q.toNat : Int) by omega) with hz | hz | hz
  · have hr : letB q = true := decide_eq_true (by omega)
    refine wp_rs fun K3 hK3 => ?_
    refine s_val hF (x_move rfl) (by decide) fun a hF => ?_
    refine s_val hF (x_leq (b := true) (decide_eq_true (by omega)) rfl rfl) (by decide) fun a hF => ?_
    refine s_val hF (x_move rfl) (by decide) fun a hF => ?_
    refine s_grd 5 hF rfl rfl rfl ?_
    refine s_val hF (x_move rfl) (by decide) fun a hF => ?_
    refine s_grd 5 hF rfl rfl rfl ?_
    refine s_val hF (x_leq (b := true) (decide_eq_true (by omega)) rfl rfl) (by decide) fun a hF => ?_
    refine s_val hF (x_pick (b := true) rfl rfl) (by decide) fun a hF => ?_
    refine s_val hF (x_assign rfl) (by decide) fun a hF => ?_
    refine s_end (hK3 _ _ ?_)
    refine wp_ret (res_slot hF rfl rfl ⟨by rw [hr], rfl⟩)
  · have hr : letB q = false := decide_eq_false (by omega)
    refine wp_rs fun K4 hK4 => ?_
    refine s_val hF (x_move rfl) (by decide) fun a hF => ?_
    refine s_val hF (x_leq (b := true) (decide_eq_true (by omega)) rfl rfl) (by decide) fun a hF => ?_
    refine s_val hF (x_move rfl) (by decide) fun a hF => ?_
    refine s_grd 5 hF rfl rfl rfl ?_
    refine s_val hF (x_move rfl) (by decide) fun a hF => ?_
    refine s_grd 5 hF rfl rfl rfl ?_
    refine s_val hF (x_leq (b := false) (decide_eq_false (by omega)) rfl rfl) (by decide) fun a hF => ?_
    refine s_val hF (x_pick (b := true) rfl rfl) (by decide) fun a hF => ?_
    refine s_val hF (x_assign rfl) (by decide) fun a hF => ?_
    refine s_end (hK4 _ _ ?_)
    refine wp_ret (res_slot hF rfl rfl ⟨by rw [hr], rfl⟩)
  · have hr : letB q = false := decide_eq_false (by omega)
    refine wp_rs fun K5 hK5 => ?_
    refine s_val hF (x_move rfl) (by decide) fun a hF => ?_
    refine s_val hF (x_leq (b := false) (decide_eq_false (by omega)) rfl rfl) (by decide) fun a hF => ?_
    refine s_val hF (x_move rfl) (by decide) fun a hF => ?_
    refine s_grdn 5 hF rfl rfl (by decide) fun a hF => ?_
    refine s_grdn 5 hF rfl rfl (by decide) fun a hF => ?_
    refine s_val hF (x_pick (b := false) rfl rfl) (by decide) fun a hF => ?_
    refine s_val hF (x_assign rfl) (by decide) fun a hF => ?_
    refine s_end (hK5 _ _ ?_)
    refine wp_ret (res_slot hF rfl rfl ⟨by rw [hr], rfl⟩)

set_option maxRecDepth 100000 in
set_option maxHeartbeats 400000 in
theorem Name31 (s : ByteArray) (w0 : World) (hs : s.size ≤ 9223372036854775807) : Calls Try.prog 27 #[.string s] w0 fun e w' => e = .returned (.bool (nameB s)) ∧ w' = w0 := by
  refine calls_fs 47 [(0, .string s)] Try.func27 rfl rfl rfl rfl rfl fun a hF => ?_
  refine wp_rs fun K1 hK1 => ?_
  refine s_val hF (x_assign rfl) (by decide) fun a hF => ?_
  refine s_end (hK1 _ _ ?_)
  refine wp_seq_k fun K2 hK2 => ?_
  rcases (show (s.size : Int) = 0 ∨ (¬ (s.size : Int) = 0 ∧ 32 < (s.size : Int)) ∨ (¬ (s.size : Int) = 0 ∧ ¬ 32 < (s.size : Int) ∧ (∃ q0, s.data.toList[0]? = some q0 ∧ letB q0 = true)) ∨ (¬ (s.size : Int) = 0 ∧ ¬ 32 < (s.size : Int) ∧ (∃ q0, s.data.toList[0]? = some q0 ∧ letB q0 = false)) by
    rcases (show (s.size : Int) = 0 ∨ (¬ (s.size : Int) = 0 ∧ 32 < (s.size : Int)) ∨ (¬ (s.size : Int) = 0 ∧ ¬ 32 < (s.size : Int)) by omega) with hz | hz | hz
    · exact .inl hz
    · exact .inr (.inl hz)
    · obtain ⟨q0, hq0⟩ : ∃ q0, s.data.toList[0]? = some q0 := ⟨_, List.getElem?_eq_getElem (by rw [size_list]; omega)⟩
      cases hb : letB q0
      · exact .inr (.inr (.inr ⟨hz.1, hz.2, q0, hq0, hb⟩))
      · exact .inr (.inr (.inl ⟨hz.1, hz.2, q0, hq0, hb⟩))) with hz | hz | ⟨hz1, hz2, q0, hq0, hw⟩ | ⟨hz1, hz2, q0, hq0, hw⟩
  · have hres : nameB s = false := nameB_of ⟨fun h => absurd h (by decide), fun h => by have h1 := h.2.1; rw [size_list] at h1; omega⟩
    refine wp_rs fun K4 hK4 => ?_
    refine s_val hF (x_move rfl) (by decide) fun a hF => ?_
    refine s_val hF (x_lenS Try.underlying9 rfl) (by decide) fun a hF => ?_
    refine s_val hF (x_eql (b := true) (decide_eq_true (by omega)) rfl rfl) (by decide) fun a hF => ?_
    refine s_val hF (x_move rfl) (by decide) fun a hF => ?_
    refine s_grdn 8 hF rfl rfl (by decide) fun a hF => ?_
    refine s_grdn 8 hF rfl rfl (by decide) fun a hF => ?_
    refine s_grdn 8 hF rfl rfl (by decide) fun a hF => ?_
    refine s_val hF (x_pick (b := true) rfl rfl) (by decide) fun a hF => ?_
    refine s_val hF (x_move rfl) (by decide) fun a hF => ?_
    refine s_grdn 13 hF rfl rfl (by decide) fun a hF => ?_
    refine s_grdn 13 hF rfl rfl (by decide) fun a hF => ?_
    refine s_grdn 13 hF rfl rfl (by decide) fun a hF => ?_
    refine s_grdn 13 hF rfl rfl (by decide) fun a hF => ?_
    refine s_val hF (x_pick (b := true) rfl rfl) (by decide) fun a hF => ?_
    refine s_end (hK4 _ _ ?_)
    refine wp_if hF rfl ?_
    refine wp_rs fun K5 hK5 => ?_
    refine s_val hF (x_assign rfl) (by decide) fun a hF => ?_
    refine s_end (hK5 _ _ ?_)
    refine wp_ret (then_ret (res_slot hF rfl rfl ⟨by rw [hres], rfl⟩))
  · have hres : nameB s = false := nameB_of ⟨fun h => absurd h (by decide), fun h => by have h1 := h.2.2; rw [size_list] at h1; omega⟩
    refine wp_rs fun K6 hK6 => ?_
    refine s_val hF (x_move rfl) (by decide) fun a hF => ?_
    refine s_val hF (x_lenS Try.underlying9 rfl) (by decide) fun a hF => ?_
    refine s_val hF (x_eql (b := false) (decide_eq_false (by omega)) rfl rfl) (by decide) fun a hF => ?_
    refine s_val hF (x_move rfl) (by decide) fun a hF => ?_
    refine s_grd 8 hF rfl rfl rfl ?_
    refine s_val hF (x_move rfl) (by decide) fun a hF => ?_
    refine s_grd 8 hF rfl rfl rfl ?_
    refine s_val hF (x_lenS Try.underlying9 rfl) (by decide) fun a hF => ?_
    refine s_grd 8 hF rfl rfl rfl ?_
    refine s_val hF (x_gtr (b := true) (decide_eq_true (by omega)) rfl rfl) (by decide) fun a hF => ?_
    refine s_val hF (x_pick (b := false) rfl rfl) (by decide) fun a hF => ?_
    refine s_val hF (x_move rfl) (by decide) fun a hF => ?_
    refine s_grdn 13 hF rfl rfl (by decide) fun a hF => ?_
    refine s_grdn 13 hF rfl rfl (by decide) fun a hF => ?_
    refine s_grdn 13 hF rfl rfl (by decide) fun a hF => ?_
    refine s_grdn 13 hF rfl rfl (by decide) fun a hF => ?_
    refine s_val hF (x_pick (b := true) rfl rfl) (by decide) fun a hF => ?_
    refine s_end (hK6 _ _ ?_)
    refine wp_if hF rfl ?_
    refine wp_rs fun K7 hK7 => ?_
    refine s_val hF (x_assign rfl) (by decide) fun a hF => ?_
    refine s_end (hK7 _ _ ?_)
    refine wp_ret (then_ret (res_slot hF rfl rfl ⟨by rw [hres], rfl⟩))
  · skip
    refine wp_rs fun K8 hK8 => ?_
    refine s_val hF (x_move rfl) (by decide) fun a hF => ?_
    refine s_val hF (x_lenS Try.underlying9 rfl) (by decide) fun a hF => ?_
    refine s_val hF (x_eql (b := false) (decide_eq_false (by omega)) rfl rfl) (by decide) fun a hF => ?_
    refine s_val hF (x_move rfl) (by decide) fun a hF => ?_
    refine s_grd 8 hF rfl rfl rfl ?_
    refine s_val hF (x_move rfl) (by decide) fun a hF => ?_
    refine s_grd 8 hF rfl rfl rfl ?_
    refine s_val hF (x_lenS Try.underlying9 rfl) (by decide) fun a hF => ?_
    refine s_grd 8 hF rfl rfl rfl ?_
    refine s_val hF (x_gtr (b := false) (decide_eq_false (by omega)) rfl rfl) (by decide) fun a hF => ?_
    refine s_val hF (x_pick (b := false) rfl rfl) (by decide) fun a hF => ?_
    refine s_val hF (x_move rfl) (by decide) fun a hF => ?_
    refine s_grd 13 hF rfl rfl rfl ?_
    refine s_val hF (x_move rfl) (by decide) fun a hF => ?_
    refine s_grd 13 hF rfl rfl rfl ?_
    refine s_val hF (x_ix rfl rfl (m_ixstr 0 Try.underlying9 rfl hq0)) (by decide) fun a hF => ?_
    refine s_grd 13 hF rfl rfl rfl ?_
    refine s_callS [_] hF (enters_of Try.func63 (by kernel_rfl) rfl) rfl (by decide) ((isLetter74 q0 w0).mono fun e w' h => ⟨by rw [h.1, hw], h.2⟩) fun a hF => ?_
    refine s_grd 13 hF rfl rfl rfl ?_
    refine s_val hF (x_not rfl) (by decide) fun a hF => ?_
    refine s_val hF (x_pick (b := false) rfl rfl) (by decide) fun a hF => ?_
    refine s_end (hK8 _ _ ?_)
    refine wp_if hF rfl ?_
    refine wp_skip (hK2 _ _ ?_)
    refine wp_seq_k fun K9 hK9 => ?_
    refine wp_rs fun K10 hK10 => ?_
    refine s_val hF (x_move rfl) (by decide) fun a hF => ?_
    refine s_val hF (x_lenS Try.underlying9 rfl) (by decide) fun a hF => ?_
    refine s_val hF (x_move rfl) (by decide) fun a hF => ?_
    refine s_end (hK10 _ _ ?_)
    refine wp_block ?_
    refine wp_up s.size (fun i a w => w = w0 ∧ (∀ j, j < i → okAt s.data.toList j) ∧ Fs 47 a [(0, .string s), (20, .int .i64 (s.size : Int)), (21, .int .i64 (i : Int))]) ⟨rfl, (fun j h => absurd h (by omega)), hF.sub _ rfl⟩ ?_
    clear hF
    rintro i a w hi ⟨hw, hok, hF⟩ K' hK'
    subst hw
    refine wp_rs fun K11 hK11 => ?_
    refine s_val hF (x_lss (b := decide (i < s.size)) (decide_eq_decide.2 (by omega)) rfl rfl) (by decide) fun a hF => ?_
    refine s_end (hK11 _ _ ?_)
    refine wp_seq_k fun K12 hK12 => ?_
    refine wp_iff hF rfl (fun hc22 => ?_) (fun hc22 => ?_)
    · obtain ⟨q, hq⟩ : ∃ q, s.data.toList[i]? = some q := ⟨_, List.getElem?_eq_getElem (by rw [size_list]; omega)⟩
      refine wp_skip (hK12 _ _ ?_)
      refine wp_seq_k fun K13 hK13 => ?_
      refine wp_block ?_
      refine wp_rs fun K14 hK14 => ?_
      refine s_val hF (x_move rfl) (by decide) fun a hF => ?_
      refine s_val hF (x_assign rfl) (by decide) fun a hF => ?_
      refine s_end (hK14 _ _ ?_)
      refine wp_rs fun K15 hK15 => ?_
      refine s_val hF (x_move rfl) (by decide) fun a hF => ?_
      refine s_val hF (x_move rfl) (by decide) fun a hF => ?_
      refine s_val hF (x_ix rfl rfl (m_ixstr i Try.underlying9 rfl hq)) (by decide) fun a hF => ?_
      refine s_val hF (x_assign rfl) (by decide) fun a hF => ?_
      refine s_end (hK15 _ _ ?_)
      rcases (show (97 ≤ (q.toNat : Int) ∧ (q.toNat : Int) ≤ 122) ∨ (¬ (97 ≤ (q.toNat : Int) ∧ (q.toNat : Int) ≤ 122) ∧ (q.toNat : Int) < 48 ∧ (q.toNat : Int) ≠ 46) ∨ (¬ (97 ≤ (q.toNat : Int) ∧ (q.toNat : Int) ≤ 122) ∧ (q.toNat : Int) = 46) ∨ (¬ (97 ≤ (q.toNat : Int) ∧ (q.toNat : Int) ≤ 122) ∧ 57 < (q.toNat : Int) ∧ (q.toNat : Int) = 95) ∨ (¬ (97 ≤ (q.toNat : Int) ∧ (q.toNat : Int) ≤ 122) ∧ 57 < (q.toNat : Int) ∧ (q.toNat : Int) ≠ 95) ∨ (¬ (97 ≤ (q.toNat : Int) ∧ (q.toNat : Int) ≤ 122) ∧ 48 ≤ (q.toNat : Int) ∧ (q.toNat : Int) ≤ 57) by omega) with hy | hy | hy | hy | hy | hy
      · have hl : letB q = true := decide_eq_true (by omega)
        have hoki : okAt s.data.toList i := ok_byte hq (fun h0 => by subst h0; rw [hq0] at hq; cases hq; exact letB_iff.1 hw) (by unfold letC othC; omega)
        refine wp_rs fun K17 hK17 => ?_
        refine s_val hF (x_move rfl) (by decide) fun a hF => ?_
        refine s_callS [_] hF (enters_of Try.func63 (by kernel_rfl) rfl) rfl (by decide) ((isLetter74 q w).mono fun e w' h => ⟨by rw [h.1, hl], h.2⟩) fun a hF => ?_
        refine s_val hF (x_not rfl) (by decide) fun a hF => ?_
        refine s_val hF (x_move rfl) (by decide) fun a hF => ?_
        refine s_grdn 30 hF rfl rfl (by decide) fun a hF => ?_
        refine s_grdn 30 hF rfl rfl (by decide) fun a hF => ?_
        refine s_grdn 30 hF rfl rfl (by decide) fun a hF => ?_
        refine s_grdu 33 hF rfl rfl (by decide) fun a hF => ?_
        refine s_grdu 33 hF rfl rfl (by decide) fun a hF => ?_
        refine s_grdn 30 hF rfl rfl (by decide) fun a hF => ?_
        refine s_val hF (x_pick (b := false) rfl rfl) (by decide) fun a hF => ?_
        refine s_val hF (x_move rfl) (by decide) fun a hF => ?_
        refine s_grdn 38 hF rfl rfl (by decide) fun a hF => ?_
        refine s_grdn 38 hF rfl rfl (by decide) fun a hF => ?_
        refine s_val hF (x_pick (b := false) rfl rfl) (by decide) fun a hF => ?_
        refine s_val hF (x_move rfl) (by decide) fun a hF => ?_
        refine s_grdn 42 hF rfl rfl (by decide) fun a hF => ?_
        refine s_grdn 42 hF rfl rfl (by decide) fun a hF => ?_
        refine s_val hF (x_pick (b := false) rfl rfl) (by decide) fun a hF => ?_
        refine s_end (hK17 _ _ ?_)
        refine wp_if hF rfl ?_
        refine wp_skip (hK13 _ _ ?_)
        refine wp_region_lit ?_
        refine s_val hF (x_addn (i + 1) (by omega) (by omega) rfl rfl) (by decide) fun a hF => ?_
        refine s_val hF (x_move rfl) (by decide) fun a hF => ?_
        refine s_end (hK' _ _ (by omega) ⟨rfl, (fun j hj => by rcases Nat.lt_or_ge j i with h | h; (· exact hok j h); (· rw [show j = i by omega]; exact hoki)), hF.sub _ rfl⟩)
      · have hl : letB q = false := decide_eq_false (by omega)
        have hres : nameB s = false := nameB_of ⟨fun h => absurd h (by decide), fun h => by have := h.1 i q hq; unfold letC othC at this; omega⟩
        refine wp_rs fun K18 hK18 => ?_
        refine s_val hF (x_move rfl) (by decide) fun a hF => ?_
        refine s_callS [_] hF (enters_of Try.func63 (by kernel_rfl) rfl) rfl (by decide) ((isLetter74 q w).mono fun e w' h => ⟨by rw [h.1, hl], h.2⟩) fun a hF => ?_
        refine s_val hF (x_not rfl) (by decide) fun a hF => ?_
        refine s_val hF (x_move rfl) (by decide) fun a hF => ?_
        refine s_grd 30 hF rfl rfl rfl ?_
        refine s_val hF (x_move rfl) (by decide) fun a hF => ?_
        refine s_grd 30 hF rfl rfl rfl ?_
        refine s_val hF (x_lss (b := true) (decide_eq_true (by omega)) rfl rfl) (by decide) fun a hF => ?_
        refine s_grd 30 hF rfl rfl rfl ?_
        refine s_val hF (x_move rfl) (by decide) fun a hF => ?_
        refine s_grdn 33 hF rfl rfl (by decide) fun a hF => ?_
        refine s_grdn 33 hF rfl rfl (by decide) fun a hF => ?_
        refine s_grd 30 hF rfl rfl rfl ?_
        refine s_val hF (x_pick (b := true) rfl rfl) (by decide) fun a hF => ?_
        refine s_val hF (x_pick (b := true) rfl rfl) (by decide) fun a hF => ?_
        refine s_val hF (x_move rfl) (by decide) fun a hF => ?_
        refine s_grd 38 hF rfl rfl rfl ?_
        refine s_val hF (x_move rfl) (by decide) fun a hF => ?_
        refine s_grd 38 hF rfl rfl rfl ?_
        refine s_val hF (x_neq (b := true) (decide_eq_true (by omega)) rfl rfl) (by decide) fun a hF => ?_
        refine s_val hF (x_pick (b := true) rfl rfl) (by decide) fun a hF => ?_
        refine s_val hF (x_move rfl) (by decide) fun a hF => ?_
        refine s_grd 42 hF rfl rfl rfl ?_
        refine s_val hF (x_move rfl) (by decide) fun a hF => ?_
        refine s_grd 42 hF rfl rfl rfl ?_
        refine s_val hF (x_neq (b := true) (decide_eq_true (by omega)) rfl rfl) (by decide) fun a hF => ?_
        refine s_val hF (x_pick (b := true) rfl rfl) (by decide) fun a hF => ?_
        refine s_end (hK18 _ _ ?_)
        refine wp_if hF rfl ?_
        refine wp_rs fun K19 hK19 => ?_
        refine s_val hF (x_assign rfl) (by decide) fun a hF => ?_
        refine s_end (hK19 _ _ ?_)
        refine wp_ret (inb_ret (then_ret (then_ret (inb_ret (then_ret (res_slot hF rfl rfl ⟨by rw [hres], rfl⟩))))))
      · have hl : letB q = false := decide_eq_false (by omega)
        have hoki : okAt s.data.toList i := ok_byte hq (fun h0 => by subst h0; rw [hq0] at hq; cases hq; exact letB_iff.1 hw) (by unfold letC othC; omega)
        refine wp_rs fun K20 hK20 => ?_
        refine s_val hF (x_move rfl) (by decide) fun a hF => ?_
        refine s_callS [_] hF (enters_of Try.func63 (by kernel_rfl) rfl) rfl (by decide) ((isLetter74 q w).mono fun e w' h => ⟨by rw [h.1, hl], h.2⟩) fun a hF => ?_
        refine s_val hF (x_not rfl) (by decide) fun a hF => ?_
        refine s_val hF (x_move rfl) (by decide) fun a hF => ?_
        refine s_grd 30 hF rfl rfl rfl ?_
        refine s_val hF (x_move rfl) (by decide) fun a hF => ?_
        refine s_grd 30 hF rfl rfl rfl ?_
        refine s_val hF (x_lss (b := true) (decide_eq_true (by omega)) rfl rfl) (by decide) fun a hF => ?_
        refine s_grd 30 hF rfl rfl rfl ?_
        refine s_val hF (x_move rfl) (by decide) fun a hF => ?_
        refine s_grdn 33 hF rfl rfl (by decide) fun a hF => ?_
        refine s_grdn 33 hF rfl rfl (by decide) fun a hF => ?_
        refine s_grd 30 hF rfl rfl rfl ?_
        refine s_val hF (x_pick (b := true) rfl rfl) (by decide) fun a hF => ?_
        refine s_val hF (x_pick (b := true) rfl rfl) (by decide) fun a hF => ?_
        refine s_val hF (x_move rfl) (by decide) fun a hF => ?_
        refine s_grd 38 hF rfl rfl rfl ?_
        refine s_val hF (x_move rfl) (by decide) fun a hF => ?_
        refine s_grd 38 hF rfl rfl rfl ?_
        refine s_val hF (x_neq (b := true) (decide_eq_true (by omega)) rfl rfl) (by decide) fun a hF => ?_
        refine s_val hF (x_pick (b := true) rfl rfl) (by decide) fun a hF => ?_
        refine s_val hF (x_move rfl) (by decide) fun a hF => ?_
        refine s_grd 42 hF rfl rfl rfl ?_
        refine s_val hF (x_move rfl) (by decide) fun a hF => ?_
        refine s_grd 42 hF rfl rfl rfl ?_
        refine s_val hF (x_neq (b := false) (decide_eq_false (by omega)) rfl rfl) (by decide) fun a hF => ?_
        refine s_val hF (x_pick (b := true) rfl rfl) (by decide) fun a hF => ?_
        refine s_end (hK20 _ _ ?_)
        refine wp_if hF rfl ?_
        refine wp_skip (hK13 _ _ ?_)
        refine wp_region_lit ?_
        refine s_val hF (x_addn (i + 1) (by omega) (by omega) rfl rfl) (by decide) fun a hF => ?_
        refine s_val hF (x_move rfl) (by decide) fun a hF => ?_
        refine s_end (hK' _ _ (by omega) ⟨rfl, (fun j hj => by rcases Nat.lt_or_ge j i with h | h; (· exact hok j h); (· rw [show j = i by omega]; exact hoki)), hF.sub _ rfl⟩)
      · have hl : letB q = false := decide_eq_false (by omega)
        have hoki : okAt s.data.toList i := ok_byte hq (fun h0 => by subst h0; rw [hq0] at hq; cases hq; exact letB_iff.1 hw) (by unfold letC othC; omega)
        refine wp_rs fun K21 hK21 => ?_
        refine s_val hF (x_move rfl) (by decide) fun a hF => ?_
        refine s_callS [_] hF (enters_of Try.func63 (by kernel_rfl) rfl) rfl (by decide) ((isLetter74 q w).mono fun e w' h => ⟨by rw [h.1, hl], h.2⟩) fun a hF => ?_
        refine s_val hF (x_not rfl) (by decide) fun a hF => ?_
        refine s_val hF (x_move rfl) (by decide) fun a hF => ?_
        refine s_grd 30 hF rfl rfl rfl ?_
        refine s_val hF (x_move rfl) (by decide) fun a hF => ?_
        refine s_grd 30 hF rfl rfl rfl ?_
        refine s_val hF (x_lss (b := false) (decide_eq_false (by omega)) rfl rfl) (by decide) fun a hF => ?_
        refine s_grd 30 hF rfl rfl rfl ?_
        refine s_val hF (x_move rfl) (by decide) fun a hF => ?_
        refine s_grd 33 hF rfl rfl rfl ?_
        refine s_val hF (x_move rfl) (by decide) fun a hF => ?_
        refine s_grd 33 hF rfl rfl rfl ?_
        refine s_val hF (x_gtr (b := true) (decide_eq_true (by omega)) rfl rfl) (by decide) fun a hF => ?_
        refine s_grd 30 hF rfl rfl rfl ?_
        refine s_val hF (x_pick (b := false) rfl rfl) (by decide) fun a hF => ?_
        refine s_val hF (x_pick (b := true) rfl rfl) (by decide) fun a hF => ?_
        refine s_val hF (x_move rfl) (by decide) fun a hF => ?_
        refine s_grd 38 hF rfl rfl rfl ?_
        refine s_val hF (x_move rfl) (by decide) fun a hF => ?_
        refine s_grd 38 hF rfl rfl rfl ?_
        refine s_val hF (x_neq (b := false) (decide_eq_false (by omega)) rfl rfl) (by decide) fun a hF => ?_
        refine s_val hF (x_pick (b := true) rfl rfl) (by decide) fun a hF => ?_
        refine s_val hF (x_move rfl) (by decide) fun a hF => ?_
        refine s_grdn 42 hF rfl rfl (by decide) fun a hF => ?_
        refine s_grdn 42 hF rfl rfl (by decide) fun a hF => ?_
        refine s_val hF (x_pick (b := false) rfl rfl) (by decide) fun a hF => ?_
        refine s_end (hK21 _ _ ?_)
        refine wp_if hF rfl ?_
        refine wp_skip (hK13 _ _ ?_)
        refine wp_region_lit ?_
        refine s_val hF (x_addn (i + 1) (by omega) (by omega) rfl rfl) (by decide) fun a hF => ?_
        refine s_val hF (x_move rfl) (by decide) fun a hF => ?_
        refine s_end (hK' _ _ (by omega) ⟨rfl, (fun j hj => by rcases Nat.lt_or_ge j i with h | h; (· exact hok j h); (· rw [show j = i by omega]; exact hoki)), hF.sub _ rfl⟩)
      · have hl : letB q = false := decide_eq_false (by omega)
        have hres : nameB s = false := nameB_of ⟨fun h => absurd h (by decide), fun h => by have := h.1 i q hq; unfold letC othC at this; omega⟩
        refine wp_rs fun K22 hK22 => ?_
        refine s_val hF (x_move rfl) (by decide) fun a hF => ?_
        refine s_callS [_] hF (enters_of Try.func63 (by kernel_rfl) rfl) rfl (by decide) ((isLetter74 q w).mono fun e w' h => ⟨by rw [h.1, hl], h.2⟩) fun a hF => ?_
        refine s_val hF (x_not rfl) (by decide) fun a hF => ?_
        refine s_val hF (x_move rfl) (by decide) fun a hF => ?_
        refine s_grd 30 hF rfl rfl rfl ?_
        refine s_val hF (x_move rfl) (by decide) fun a hF => ?_
        refine s_grd 30 hF rfl rfl rfl ?_
        refine s_val hF (x_lss (b := false) (decide_eq_false (by omega)) rfl rfl) (by decide) fun a hF => ?_
        refine s_grd 30 hF rfl rfl rfl ?_
        refine s_val hF (x_move rfl) (by decide) fun a hF => ?_
        refine s_grd 33 hF rfl rfl rfl ?_
        refine s_val hF (x_move rfl) (by decide) fun a hF => ?_
        refine s_grd 33 hF rfl rfl rfl ?_
        refine s_val hF (x_gtr (b := true) (decide_eq_true (by omega)) rfl rfl) (by decide) fun a hF => ?_
        refine s_grd 30 hF rfl rfl rfl ?_
        refine s_val hF (x_pick (b := false) rfl rfl) (by decide) fun a hF => ?_
        refine s_val hF (x_pick (b := true) rfl rfl) (by decide) fun a hF => ?_
        refine s_val hF (x_move rfl) (by decide) fun a hF => ?_
        refine s_grd 38 hF rfl rfl rfl ?_
        refine s_val hF (x_move rfl) (by decide) fun a hF => ?_
        refine s_grd 38 hF rfl rfl rfl ?_
        refine s_val hF (x_neq (b := true) (decide_eq_true (by omega)) rfl rfl) (by decide) fun a hF => ?_
        refine s_val hF (x_pick (b := true) rfl rfl) (by decide) fun a hF => ?_
        refine s_val hF (x_move rfl) (by decide) fun a hF => ?_
        refine s_grd 42 hF rfl rfl rfl ?_
        refine s_val hF (x_move rfl) (by decide) fun a hF => ?_
        refine s_grd 42 hF rfl rfl rfl ?_
        refine s_val hF (x_neq (b := true) (decide_eq_true (by omega)) rfl rfl) (by decide) fun a hF => ?_
        refine s_val hF (x_pick (b := true) rfl rfl) (by decide) fun a hF => ?_
        refine s_end (hK22 _ _ ?_)
        refine wp_if hF rfl ?_
        refine wp_rs fun K23 hK23 => ?_
        refine s_val hF (x_assign rfl) (by decide) fun a hF => ?_
        refine s_end (hK23 _ _ ?_)
        refine wp_ret (inb_ret (then_ret (then_ret (inb_ret (then_ret (res_slot hF rfl rfl ⟨by rw [hres], rfl⟩))))))
      · have hl : letB q = false := decide_eq_false (by omega)
        have hoki : okAt s.data.toList i := ok_byte hq (fun h0 => by subst h0; rw [hq0] at hq; cases hq; exact letB_iff.1 hw) (by unfold letC othC; omega)
        refine wp_rs fun K24 hK24 => ?_
        refine s_val hF (x_move rfl) (by decide) fun a hF => ?_
        refine s_callS [_] hF (enters_of Try.func63 (by kernel_rfl) rfl) rfl (by decide) ((isLetter74 q w).mono fun e w' h => ⟨by rw [h.1, hl], h.2⟩) fun a hF => ?_
        refine s_val hF (x_not rfl) (by decide) fun a hF => ?_
        refine s_val hF (x_move rfl) (by decide) fun a hF => ?_
        refine s_grd 30 hF rfl rfl rfl ?_
        refine s_val hF (x_move rfl) (by decide) fun a hF => ?_
        refine s_grd 30 hF rfl rfl rfl ?_
        refine s_val hF (x_lss (b := false) (decide_eq_false (by omega)) rfl rfl) (by decide) fun a hF => ?_
        refine s_grd 30 hF rfl rfl rfl ?_
        refine s_val hF (x_move rfl) (by decide) fun a hF => ?_
        refine s_grd 33 hF rfl rfl rfl ?_
        refine s_val hF (x_move rfl) (by decide) fun a hF => ?_
        refine s_grd 33 hF rfl rfl rfl ?_
        refine s_val hF (x_gtr (b := false) (decide_eq_false (by omega)) rfl rfl) (by decide) fun a hF => ?_
        refine s_grd 30 hF rfl rfl rfl ?_
        refine s_val hF (x_pick (b := false) rfl rfl) (by decide) fun a hF => ?_
        refine s_val hF (x_pick (b := true) rfl rfl) (by decide) fun a hF => ?_
        refine s_val hF (x_move rfl) (by decide) fun a hF => ?_
        refine s_grdn 38 hF rfl rfl (by decide) fun a hF => ?_
        refine s_grdn 38 hF rfl rfl (by decide) fun a hF => ?_
        refine s_val hF (x_pick (b := false) rfl rfl) (by decide) fun a hF => ?_
        refine s_val hF (x_move rfl) (by decide) fun a hF => ?_
        refine s_grdn 42 hF rfl rfl (by decide) fun a hF => ?_
        refine s_grdn 42 hF rfl rfl (by decide) fun a hF => ?_
        refine s_val hF (x_pick (b := false) rfl rfl) (by decide) fun a hF => ?_
        refine s_end (hK24 _ _ ?_)
        refine wp_if hF rfl ?_
        refine wp_skip (hK13 _ _ ?_)
        refine wp_region_lit ?_
        refine s_val hF (x_addn (i + 1) (by omega) (by omega) rfl rfl) (by decide) fun a hF => ?_
        refine s_val hF (x_move rfl) (by decide) fun a hF => ?_
        refine s_end (hK' _ _ (by omega) ⟨rfl, (fun j hj => by rcases Nat.lt_or_ge j i with h | h; (· exact hok j h); (· rw [show j = i by omega]; exact hoki)), hF.sub _ rfl⟩)
    · obtain rfl : i = s.size := by omega
      have hall : ∀ j, okAt s.data.toList j := fun j c hc => by have hj := (List.getElem?_eq_some_iff.1 hc).1; rw [size_list] at hj; exact hok j hj c hc
      have hres : nameB s = true := nameB_of ⟨fun _ => ⟨hall, by rw [size_list]; omega, by rw [size_list]; omega⟩, fun _ => rfl⟩
      refine wp_exit (hK9 _ _ ?_)
      refine wp_rs fun K25 hK25 => ?_
      refine s_val hF (x_assign rfl) (by decide) fun a hF => ?_
      refine s_end (hK25 _ _ ?_)
      refine wp_ret (res_slot hF rfl rfl ⟨by rw [hres], rfl⟩)
  · have hres : nameB s = false := nameB_of ⟨fun h => absurd h (by decide), fun h => by have h1 := h.1 0 q0 hq0; rcases h1 with h1 | h1; (· rw [letB_iff.2 h1] at hw; cases hw); (· exact absurd rfl h1.1)⟩
    refine wp_rs fun K26 hK26 => ?_
    refine s_val hF (x_move rfl) (by decide) fun a hF => ?_
    refine s_val hF (x_lenS Try.underlying9 rfl) (by decide) fun a hF => ?_
    refine s_val hF (x_eql (b := false) (decide_eq_false (by omega)) rfl rfl) (by decide) fun a hF => ?_
    refine s_val hF (x_move rfl) (by decide) fun a hF => ?_
    refine s_grd 8 hF rfl rfl rfl ?_
    refine s_val hF (x_move rfl) (by decide) fun a hF => ?_
    refine s_grd 8 hF rfl rfl rfl ?_
    refine s_val hF (x_lenS Try.underlying9 rfl) (by decide) fun a hF => ?_
    refine s_grd 8 hF rfl rfl rfl ?_
    refine s_val hF (x_gtr (b := false) (decide_eq_false (by omega)) rfl rfl) (by decide) fun a hF => ?_
    refine s_val hF (x_pick (b := false) rfl rfl) (by decide) fun a hF => ?_
    refine s_val hF (x_move rfl) (by decide) fun a hF => ?_
    refine s_grd 13 hF rfl rfl rfl ?_
    refine s_val hF (x_move rfl) (by decide) fun a hF => ?_
    refine s_grd 13 hF rfl rfl rfl ?_
    refine s_val hF (x_ix rfl rfl (m_ixstr 0 Try.underlying9 rfl hq0)) (by decide) fun a hF => ?_
    refine s_grd 13 hF rfl rfl rfl ?_
    refine s_callS [_] hF (enters_of Try.func63 (by kernel_rfl) rfl) rfl (by decide) ((isLetter74 q0 w0).mono fun e w' h => ⟨by rw [h.1, hw], h.2⟩) fun a hF => ?_
    refine s_grd 13 hF rfl rfl rfl ?_
    refine s_val hF (x_not rfl) (by decide) fun a hF => ?_
    refine s_val hF (x_pick (b := false) rfl rfl) (by decide) fun a hF => ?_
    refine s_end (hK26 _ _ ?_)
    refine wp_if hF rfl ?_
    refine wp_rs fun K27 hK27 => ?_
    refine s_val hF (x_assign rfl) (by decide) fun a hF => ?_
    refine s_end (hK27 _ _ ?_)
    refine wp_ret (then_ret (res_slot hF rfl rfl ⟨by rw [hres], rfl⟩))

set_option maxRecDepth 100000 in
set_option maxHeartbeats 400000 in
theorem mayConst111 (vars : Int) (s : ByteArray) (ls : List Lv) (m : Nat) (x : C8) (w0 : World) (hx : RC w0 (fun k => k < w0.heap.size) (.cst s ls m) x) (hfit : s.size ≤ 9223372036854775807 ∧ ls.length ≤ 9223372036854775807) : Calls Try.prog 99 #[tv x, .int .i64 vars] w0 fun e w' => e = .returned (.int .i64 (leafErr vars (.cst s ls m))) ∧ Below w0.heap.size w0 w' := by
  obtain ⟨xk, xn, xs, xl, xls, xts⟩ := x
  have hone := hx.one
  have hs9 : xs = s := hx.2.1
  have hls9 : RVn w0 _ xls ls := hx.2.2.1
  obtain ⟨la, lcp, hlv, _, _⟩ := hls9.form
  subst hs9 hlv
  have hB := Below.refl w0.heap.size w0
  have sB := hB.size
  refine calls_fs 30 [(0, tv ⟨xk, xn, xs, xl, .slice la ls.length lcp, xts⟩), (1, .int .i64 vars)] Try.func99 rfl rfl rfl rfl rfl fun a hF => ?_
  refine wp_rs fun K1 hK1 => ?_
  refine s_box ([.int .i64 xk, .int .i64 xn, .string xs, .int .i64 xl.1, .int .i64 xl.2.1, xl.2.2, .slice la ls.length lcp, xts]) hF (by decide) rfl rfl fun w2 b2 a eb2 m2 B3 zb2 hF => ?_
  have sB3 := B3.size
  have hB := hB.trans (B3.mono hB.size)
  refine s_val hF (x_assign rfl) (by decide) fun a hF => ?_
  refine s_end (hK1 _ _ ?_)
  refine wp_seq_k fun K2 hK2 => ?_
  rcases (show nameB xs = false ∨ nameB xs = true by cases nameB xs <;> simp) with hw | hw
  · have hres : leafErr vars (.cst xs ls m) = 8 := by simp only [leafErr]; rw [if_pos hw]
    refine wp_rs fun K4 hK4 => ?_
    refine s_val hF (x_fa0 fa27_2 rfl) (by decide) fun a hF => ?_
    refine s_val hF (x_load rfl (m_load flat9 (m2.cell (j := 2) rfl))) (by decide) fun a hF => ?_
    refine s_callS [_] hF (enters_of Try.func27 (by kernel_rfl) rfl) rfl (by decide) ((Name31 xs w2 hfit.1).mono fun e w' h => ⟨by rw [h.1, hw], h.2⟩) fun a hF => ?_
    refine s_val hF (x_not rfl) (by decide) fun a hF => ?_
    refine s_end (hK4 _ _ ?_)
    refine wp_if hF rfl ?_
    refine wp_rs fun K5 hK5 => ?_
    refine s_val hF (x_assign rfl) (by decide) fun a hF => ?_
    refine s_end (hK5 _ _ ?_)
    refine wp_ret (then_ret (res_slot hF rfl rfl ⟨by rw [hres], hB⟩))
  · skip
    refine wp_rs fun K6 hK6 => ?_
    refine s_val hF (x_fa0 fa27_2 rfl) (by decide) fun a hF => ?_
    refine s_val hF (x_load rfl (m_load flat9 (m2.cell (j := 2) rfl))) (by decide) fun a hF => ?_
    refine s_callS [_] hF (enters_of Try.func27 (by kernel_rfl) rfl) rfl (by decide) ((Name31 xs w2 hfit.1).mono fun e w' h => ⟨by rw [h.1, hw], h.2⟩) fun a hF => ?_
    refine s_val hF (x_not rfl) (by decide) fun a hF => ?_
    refine s_end (hK6 _ _ ?_)
    refine wp_if hF rfl ?_
    refine wp_skip (hK2 _ _ ?_)
    refine wp_seq_k fun K7 hK7 => ?_
    rcases (show 6 < (ls.length : Int) ∨ ¬ 6 < (ls.length : Int) by omega) with hv | hv
    · have hres : leafErr vars (.cst xs ls m) = 2 := by simp only [leafErr]; rw [if_neg (by rw [hw]; decide), if_pos (by omega)]
      refine wp_rs fun K9 hK9 => ?_
      refine s_val hF (x_fa0 fa27_4 rfl) (by decide) fun a hF => ?_
      refine s_val hF (x_load rfl (m_load flat22 (m2.cell (j := 6) rfl))) (by decide) fun a hF => ?_
      refine s_val hF (x_len Try.underlying22 rfl) (by decide) fun a hF => ?_
      refine s_val hF (x_gtr (b := true) (decide_eq_true (by omega)) rfl rfl) (by decide) fun a hF => ?_
      refine s_end (hK9 _ _ ?_)
      refine wp_if hF rfl ?_
      refine wp_rs fun K10 hK10 => ?_
      refine s_val hF (x_assign rfl) (by decide) fun a hF => ?_
      refine s_end (hK10 _ _ ?_)
      refine wp_ret (then_ret (res_slot hF rfl rfl ⟨by rw [hres], hB⟩))
    · have hle0 : leafErr vars (.cst xs ls m) = fstErr vars ls := by simp only [leafErr]; rw [if_neg (by rw [hw]; decide), if_neg (by omega)]
      refine wp_rs fun K11 hK11 => ?_
      refine s_val hF (x_fa0 fa27_4 rfl) (by decide) fun a hF => ?_
      refine s_val hF (x_load rfl (m_load flat22 (m2.cell (j := 6) rfl))) (by decide) fun a hF => ?_
      refine s_val hF (x_len Try.underlying22 rfl) (by decide) fun a hF => ?_
      refine s_val hF (x_gtr (b := false) (decide_eq_false (by omega)) rfl rfl) (by decide) fun a hF => ?_
      refine s_end (hK11 _ _ ?_)
      refine wp_if hF rfl ?_
      refine wp_skip (hK7 _ _ ?_)
      refine wp_seq_k fun K12 hK12 => ?_
      refine wp_rs fun K13 hK13 => ?_
      refine s_val hF (x_fa0 fa27_4 rfl) (by decide) fun a hF => ?_
      refine s_val hF (x_load rfl (m_load flat22 (m2.cell (j := 6) rfl))) (by decide) fun a hF => ?_
      refine s_val hF (x_len Try.underlying22 rfl) (by decide) fun a hF => ?_
      refine s_val hF (x_move rfl) (by decide) fun a hF => ?_
      refine s_end (hK13 _ _ ?_)
      refine wp_block ?_
      refine wp_up ls.length (fun i a w => leafErr vars (.cst xs ls m) = fstErr vars (ls.drop i) ∧ Below w0.heap.size w0 w ∧ Fs 30 a [(1, .int .i64 vars), (17, .slice la ls.length lcp), (18, .int .i64 (ls.length : Int)), (19, .int .i64 (i : Int))]) ⟨by simpa using hle0, hB, hF.sub _ rfl⟩ ?_
      repeat clear hF
      clear hB m2
      rintro i a w hi ⟨hlei, hB, hF⟩ K' hK'
      have sB := hB.size
      refine wp_rs fun K14 hK14 => ?_
      refine s_val hF (x_lss (b := decide (i < ls.length)) (decide_eq_decide.2 (by omega)) rfl rfl) (by decide) fun a hF => ?_
      refine s_end (hK14 _ _ ?_)
      refine wp_seq_k fun K15 hK15 => ?_
      refine wp_iff hF rfl (fun hc20 => ?_) (fun hc20 => ?_)
      · obtain ⟨b9, off9, c9, y, l, hve, hl, hry, hAb, hbl, hrow⟩ := hls9.row (i := i) (by omega)
        cases hve
        have hfe := fstErr_at (vars := vars) hl
        have h1y := hry.rl.one1
        refine wp_skip (hK15 _ _ ?_)
        refine wp_seq_k fun K16 hK16 => ?_
        refine wp_block ?_
        refine wp_rs fun K17 hK17 => ?_
        refine s_val hF (x_ixa rfl rfl (m_ixsK i Try.underlying22 el22.size rfl (by omega))) (by decide) fun a hF => ?_
        refine s_val hF (x_ldA wide24 (hrow _ (hB.block _ hbl)) rfl rfl) (by decide) fun a hF => ?_
        refine s_alloc hF (by decide) zero24 fun w4 b6 a eb6 m6 B5 zb6 hF => ?_
        have sB5 := B5.size
        have hB := hB.trans (B5.mono hB.size)
        refine s_putW hF rfl rfl (size_wide wide24) m6 rfl (one_lc h1y) fun w8 m6 o9 => ?_
        have so9 := o9.size
        have hB := hB.trans (o9.below (by omega))
        refine s_end (hK17 _ _ ?_)
        refine wp_rs fun K18 hK18 => ?_
        refine s_val hF (x_ldW wide24 m6 rfl rfl) (by decide) fun a hF => ?_
        refine s_val hF (x_move rfl) (by decide) fun a hF => ?_
        refine s_callB [_, _] hF (enters_of Try.func98 (by kernel_rfl) rfl) rfl (by decide) (may13 y l vars w8 ((hry.keep hB.size (fun k hk _ => hB.block k hk)).rl)) fun w10 a B11 hF => ?_
        have sB11 := B11.size
        have hB := hB.trans (B11.mono hB.size)
        have m6 := m6.old B11
        refine s_val hF (x_assign rfl) (by decide) fun a hF => ?_
        refine s_end (hK18 _ _ ?_)
        refine wp_rs fun K19 hK19 => ?_
        refine s_val hF (x_move rfl) (by decide) fun a hF => ?_
        refine s_val hF (x_neq rfl rfl rfl) (by decide) fun a hF => ?_
        refine s_end (hK19 _ _ ?_)
        refine wp_iff hF rfl (fun hc27 => ?_) (fun hc27 => ?_)
        · rw [hfe, if_pos hc27] at hlei
          have hres := hlei
          refine wp_rs fun K20 hK20 => ?_
          refine s_val hF (x_move rfl) (by decide) fun a hF => ?_
          refine s_val hF (x_assign rfl) (by decide) fun a hF => ?_
          refine s_end (hK20 _ _ ?_)
          refine wp_ret (inb_ret (then_ret (then_ret (inb_ret (then_ret (res_slot hF rfl rfl ⟨by rw [hres], hB⟩))))))
        · rw [hfe, if_neg hc27] at hlei
          refine wp_skip (hK16 _ _ ?_)
          refine wp_region_lit ?_
          refine s_val hF (x_addn (i + 1) (by omega) (by have := hfit.2; omega) rfl rfl) (by decide) fun a hF => ?_
          refine s_val hF (x_move rfl) (by decide) fun a hF => ?_
          refine s_end (hK' _ _ (by omega) ⟨hlei, hB, hF.sub _ rfl⟩)
      · obtain rfl : i = ls.length := by omega
        rw [List.drop_length] at hlei
        have hres : leafErr vars (.cst xs ls m) = 0 := hlei
        refine wp_exit (hK12 _ _ ?_)
        refine wp_rs fun K21 hK21 => ?_
        refine s_val hF (x_assign rfl) (by decide) fun a hF => ?_
        refine s_end (hK21 _ _ ?_)
        refine wp_ret (res_slot hF rfl rfl ⟨by rw [hres], hB⟩)

noncomputable def errE (vars : Int) (c : CT) : Int := if arT c.kd < 0 ∨ (c.len : Int) ≠ arT c.kd then 1 else leafErr vars c
theorem nodeErr_E9 (vars d : Int) (n : Nat) (c : CT) : nodeErr vars d n c = if 64 < d ∨ 400 < n then 2 else errE vars c := rfl

set_option maxRecDepth 100000 in
set_option maxHeartbeats 400000 in
theorem mayNode72 (vars : Int) (c : CT) (x : C8) (w0 : World) (hx : RC w0 (fun k => k < w0.heap.size) c x) (hfit : c.fit) : Calls Try.prog 61 #[tv x, .int .i64 vars] w0 fun e w' => e = .returned (.int .i64 (errE vars c)) ∧ Below w0.heap.size w0 w' := by
  obtain ⟨av, nv, cv, hts, hle9, hlen9, hcap, hkid⟩ := hx.kids
  obtain ⟨xk, xn, xs, xl, xls, xts⟩ := x
  simp only at hts
  subst hts
  have hkd : xk = c.kd := hx.kd
  have hone := hx.one
  have hak : arT xk = arT c.kd := by rw [hkd]
  have hB := Below.refl w0.heap.size w0
  have sB := hB.size
  refine calls_fs 45 [(0, tv ⟨xk, xn, xs, xl, xls, .slice av nv cv⟩), (1, .int .i64 vars)] Try.func61 rfl rfl rfl rfl rfl fun a hF => ?_
  refine wp_rs fun K1 hK1 => ?_
  refine s_box ([.int .i64 xk, .int .i64 xn, .string xs, .int .i64 xl.1, .int .i64 xl.2.1, xl.2.2, xls, .slice av nv cv]) hF (by decide) rfl rfl fun w2 b2 a eb2 m2 B3 zb2 hF => ?_
  have sB3 := B3.size
  have hB := hB.trans (B3.mono hB.size)
  refine s_val hF (x_assign rfl) (by decide) fun a hF => ?_
  refine s_end (hK1 _ _ ?_)
  refine wp_seq_k fun K2 hK2 => ?_
  rcases (show arT xk < 0 ∨ (¬ arT xk < 0 ∧ (nv : Int) ≠ max 0 (arT xk)) ∨ (¬ arT xk < 0 ∧ (nv : Int) = max 0 (arT xk)) by omega) with hy | hy | hy
  · have hres : errE vars c = 1 := if_pos (by omega)
    refine wp_rs fun K4 hK4 => ?_
    refine s_val hF (x_fa0 fa27_0 rfl) (by decide) fun a hF => ?_
    refine s_val hF (x_load rfl (m_load flat3 (m2.cell (j := 0) rfl))) (by decide) fun a hF => ?_
    refine s_callS [_] hF (enters_of Try.func97 (by kernel_rfl) rfl) rfl (by decide) ((arity109 xk w2).mono fun e w' h => ⟨(by rw [h.1, decide_eq_false (by omega)] : e = .returned (.tuple #[.int .i64 (max 0 (arT xk)), .bool false])), h.2⟩) fun a hF => ?_
    refine s_val hF (x_move rfl) (by decide) fun a hF => ?_
    refine s_val hF (x_ext rfl rfl) (by decide) fun a hF => ?_
    refine s_val hF (x_ext rfl rfl) (by decide) fun a hF => ?_
    refine s_val hF (x_assign rfl) (by decide) fun a hF => ?_
    refine s_val hF (x_assign rfl) (by decide) fun a hF => ?_
    refine s_end (hK4 _ _ ?_)
    refine wp_rs fun K5 hK5 => ?_
    refine s_val hF (x_move rfl) (by decide) fun a hF => ?_
    refine s_val hF (x_not rfl) (by decide) fun a hF => ?_
    refine s_val hF (x_move rfl) (by decide) fun a hF => ?_
    refine s_grdn 15 hF rfl rfl (by decide) fun a hF => ?_
    refine s_grdn 15 hF rfl rfl (by decide) fun a hF => ?_
    refine s_grdn 15 hF rfl rfl (by decide) fun a hF => ?_
    refine s_grdn 15 hF rfl rfl (by decide) fun a hF => ?_
    refine s_grdn 15 hF rfl rfl (by decide) fun a hF => ?_
    refine s_val hF (x_pick (b := true) rfl rfl) (by decide) fun a hF => ?_
    refine s_end (hK5 _ _ ?_)
    refine wp_if hF rfl ?_
    refine wp_rs fun K6 hK6 => ?_
    refine s_val hF (x_assign rfl) (by decide) fun a hF => ?_
    refine s_end (hK6 _ _ ?_)
    refine wp_ret (then_ret (res_slot hF rfl rfl ⟨by rw [hres], hB⟩))
  · have hres : errE vars c = 1 := if_pos (by omega)
    refine wp_rs fun K7 hK7 => ?_
    refine s_val hF (x_fa0 fa27_0 rfl) (by decide) fun a hF => ?_
    refine s_val hF (x_load rfl (m_load flat3 (m2.cell (j := 0) rfl))) (by decide) fun a hF => ?_
    refine s_callS [_] hF (enters_of Try.func97 (by kernel_rfl) rfl) rfl (by decide) ((arity109 xk w2).mono fun e w' h => ⟨(by rw [h.1, decide_eq_true (by omega)] : e = .returned (.tuple #[.int .i64 (max 0 (arT xk)), .bool true])), h.2⟩) fun a hF => ?_
    refine s_val hF (x_move rfl) (by decide) fun a hF => ?_
    refine s_val hF (x_ext rfl rfl) (by decide) fun a hF => ?_
    refine s_val hF (x_ext rfl rfl) (by decide) fun a hF => ?_
    refine s_val hF (x_assign rfl) (by decide) fun a hF => ?_
    refine s_val hF (x_assign rfl) (by decide) fun a hF => ?_
    refine s_end (hK7 _ _ ?_)
    refine wp_rs fun K8 hK8 => ?_
    refine s_val hF (x_move rfl) (by decide) fun a hF => ?_
    refine s_val hF (x_not rfl) (by decide) fun a hF => ?_
    refine s_val hF (x_move rfl) (by decide) fun a hF => ?_
    refine s_grd 15 hF rfl rfl rfl ?_
    refine s_val hF (x_fa0 fa27_5 rfl) (by decide) fun a hF => ?_
    refine s_grd 15 hF rfl rfl rfl ?_
    refine s_val hF (x_load rfl (m_load flat25 (m2.cell (j := 7) rfl))) (by decide) fun a hF => ?_
    refine s_grd 15 hF rfl rfl rfl ?_
    refine s_val hF (x_len Try.underlying25 rfl) (by decide) fun a hF => ?_
    refine s_grd 15 hF rfl rfl rfl ?_
    refine s_val hF (x_move rfl) (by decide) fun a hF => ?_
    refine s_grd 15 hF rfl rfl rfl ?_
    refine s_val hF (x_neq (b := true) (decide_eq_true (by omega)) rfl rfl) (by decide) fun a hF => ?_
    refine s_val hF (x_pick (b := false) rfl rfl) (by decide) fun a hF => ?_
    refine s_end (hK8 _ _ ?_)
    refine wp_if hF rfl ?_
    refine wp_rs fun K9 hK9 => ?_
    refine s_val hF (x_assign rfl) (by decide) fun a hF => ?_
    refine s_end (hK9 _ _ ?_)
    refine wp_ret (then_ret (res_slot hF rfl rfl ⟨by rw [hres], hB⟩))
  · skip
    refine wp_rs fun K10 hK10 => ?_
    refine s_val hF (x_fa0 fa27_0 rfl) (by decide) fun a hF => ?_
    refine s_val hF (x_load rfl (m_load flat3 (m2.cell (j := 0) rfl))) (by decide) fun a hF => ?_
    refine s_callS [_] hF (enters_of Try.func97 (by kernel_rfl) rfl) rfl (by decide) ((arity109 xk w2).mono fun e w' h => ⟨(by rw [h.1, decide_eq_true (by omega)] : e = .returned (.tuple #[.int .i64 (max 0 (arT xk)), .bool true])), h.2⟩) fun a hF => ?_
    refine s_val hF (x_move rfl) (by decide) fun a hF => ?_
    refine s_val hF (x_ext rfl rfl) (by decide) fun a hF => ?_
    refine s_val hF (x_ext rfl rfl) (by decide) fun a hF => ?_
    refine s_val hF (x_assign rfl) (by decide) fun a hF => ?_
    refine s_val hF (x_assign rfl) (by decide) fun a hF => ?_
    refine s_end (hK10 _ _ ?_)
    refine wp_rs fun K11 hK11 => ?_
    refine s_val hF (x_move rfl) (by decide) fun a hF => ?_
    refine s_val hF (x_not rfl) (by decide) fun a hF => ?_
    refine s_val hF (x_move rfl) (by decide) fun a hF => ?_
    refine s_grd 15 hF rfl rfl rfl ?_
    refine s_val hF (x_fa0 fa27_5 rfl) (by decide) fun a hF => ?_
    refine s_grd 15 hF rfl rfl rfl ?_
    refine s_val hF (x_load rfl (m_load flat25 (m2.cell (j := 7) rfl))) (by decide) fun a hF => ?_
    refine s_grd 15 hF rfl rfl rfl ?_
    refine s_val hF (x_len Try.underlying25 rfl) (by decide) fun a hF => ?_
    refine s_grd 15 hF rfl rfl rfl ?_
    refine s_val hF (x_move rfl) (by decide) fun a hF => ?_
    refine s_grd 15 hF rfl rfl rfl ?_
    refine s_val hF (x_neq (b := false) (decide_eq_false (by omega)) rfl rfl) (by decide) fun a hF => ?_
    refine s_val hF (x_pick (b := false) rfl rfl) (by decide) fun a hF => ?_
    refine s_end (hK11 _ _ ?_)
    refine wp_if hF rfl ?_
    refine wp_skip (hK2 _ _ ?_)
    refine wp_seq_k fun K12 hK12 => ?_
    rcases (show (xk = 1 ∧ xn < 0) ∨ (xk = 1 ∧ ¬ xn < 0 ∧ 1048576 < xn) ∨ (xk = 1 ∧ ¬ xn < 0 ∧ ¬ 1048576 < xn) ∨ xk = 2 ∨ xk = 7 ∨ (xk ≠ 1 ∧ xk ≠ 2 ∧ xk ≠ 7) by omega) with hq | hq | hq | hq | hq | hq
    · have hlf : errE vars c = leafErr vars c := if_neg (by omega)
      obtain ⟨z, m, rfl⟩ := hx.var_of hq.1
      have hzn : xn = z := hx.2.1
      have hres : errE vars (.var z m) = 1 := by rw [hlf]; simp only [leafErr]; rw [if_pos (by omega)]
      refine wp_rs fun K14 hK14 => ?_
      refine s_val hF (x_fa0 fa27_0 rfl) (by decide) fun a hF => ?_
      refine s_val hF (x_load rfl (m_load flat3 (m2.cell (j := 0) rfl))) (by decide) fun a hF => ?_
      refine s_end (hK14 _ _ ?_)
      refine wp_block ?_
      refine wp_rs fun K15 hK15 => ?_
      refine s_val hF (x_eql (b := true) (decide_eq_true (by omega)) rfl rfl) (by decide) fun a hF => ?_
      refine s_val hF (x_assign rfl) (by decide) fun a hF => ?_
      refine s_end (hK15 _ _ ?_)
      refine wp_if hF rfl ?_
      refine wp_rs fun K16 hK16 => ?_
      refine s_val hF (x_fa0 fa27_1 rfl) (by decide) fun a hF => ?_
      refine s_val hF (x_load rfl (m_load flat3 (m2.cell (j := 1) rfl))) (by decide) fun a hF => ?_
      refine s_val hF (x_lss (b := true) (decide_eq_true (by omega)) rfl rfl) (by decide) fun a hF => ?_
      refine s_val hF (x_move rfl) (by decide) fun a hF => ?_
      refine s_grdn 29 hF rfl rfl (by decide) fun a hF => ?_
      refine s_grdn 29 hF rfl rfl (by decide) fun a hF => ?_
      refine s_grdn 29 hF rfl rfl (by decide) fun a hF => ?_
      refine s_val hF (x_pick (b := true) rfl rfl) (by decide) fun a hF => ?_
      refine s_end (hK16 _ _ ?_)
      refine wp_if hF rfl ?_
      refine wp_rs fun K17 hK17 => ?_
      refine s_val hF (x_assign rfl) (by decide) fun a hF => ?_
      refine s_end (hK17 _ _ ?_)
      refine wp_ret (inb_ret (then_ret (res_slot hF rfl rfl ⟨by rw [hres], hB⟩)))
    · have hlf : errE vars c = leafErr vars c := if_neg (by omega)
      obtain ⟨z, m, rfl⟩ := hx.var_of hq.1
      have hzn : xn = z := hx.2.1
      have hres : errE vars (.var z m) = 1 := by rw [hlf]; simp only [leafErr]; rw [if_pos (by omega)]
      refine wp_rs fun K18 hK18 => ?_
      refine s_val hF (x_fa0 fa27_0 rfl) (by decide) fun a hF => ?_
      refine s_val hF (x_load rfl (m_load flat3 (m2.cell (j := 0) rfl))) (by decide) fun a hF => ?_
      refine s_end (hK18 _ _ ?_)
      refine wp_block ?_
      refine wp_rs fun K19 hK19 => ?_
      refine s_val hF (x_eql (b := true) (decide_eq_true (by omega)) rfl rfl) (by decide) fun a hF => ?_
      refine s_val hF (x_assign rfl) (by decide) fun a hF => ?_
      refine s_end (hK19 _ _ ?_)
      refine wp_if hF rfl ?_
      refine wp_rs fun K20 hK20 => ?_
      refine s_val hF (x_fa0 fa27_1 rfl) (by decide) fun a hF => ?_
      refine s_val hF (x_load rfl (m_load flat3 (m2.cell (j := 1) rfl))) (by decide) fun a hF => ?_
      refine s_val hF (x_lss (b := false) (decide_eq_false (by omega)) rfl rfl) (by decide) fun a hF => ?_
      refine s_val hF (x_move rfl) (by decide) fun a hF => ?_
      refine s_grd 29 hF rfl rfl rfl ?_
      refine s_val hF (x_fa0 fa27_1 rfl) (by decide) fun a hF => ?_
      refine s_grd 29 hF rfl rfl rfl ?_
      refine s_val hF (x_load rfl (m_load flat3 (m2.cell (j := 1) rfl))) (by decide) fun a hF => ?_
      refine s_grd 29 hF rfl rfl rfl ?_
      refine s_val hF (x_gtr (b := true) (decide_eq_true (by omega)) rfl rfl) (by decide) fun a hF => ?_
      refine s_val hF (x_pick (b := false) rfl rfl) (by decide) fun a hF => ?_
      refine s_end (hK20 _ _ ?_)
      refine wp_if hF rfl ?_
      refine wp_rs fun K21 hK21 => ?_
      refine s_val hF (x_assign rfl) (by decide) fun a hF => ?_
      refine s_end (hK21 _ _ ?_)
      refine wp_ret (inb_ret (then_ret (res_slot hF rfl rfl ⟨by rw [hres], hB⟩)))
    · have hlf : errE vars c = leafErr vars c := if_neg (by omega)
      obtain ⟨z, m, rfl⟩ := hx.var_of hq.1
      have hzn : xn = z := hx.2.1
      have hres : errE vars (.var z m) = 0 := by rw [hlf]; simp only [leafErr]; rw [if_neg (by omega)]
      refine wp_rs fun K22 hK22 => ?_
      refine s_val hF (x_fa0 fa27_0 rfl) (by decide) fun a hF => ?_
      refine s_val hF (x_load rfl (m_load flat3 (m2.cell (j := 0) rfl))) (by decide) fun a hF => ?_
      refine s_end (hK22 _ _ ?_)
      refine wp_block ?_
      refine wp_rs fun K23 hK23 => ?_
      refine s_val hF (x_eql (b := true) (decide_eq_true (by omega)) rfl rfl) (by decide) fun a hF => ?_
      refine s_val hF (x_assign rfl) (by decide) fun a hF => ?_
      refine s_end (hK23 _ _ ?_)
      refine wp_if hF rfl ?_
      refine wp_rs fun K24 hK24 => ?_
      refine s_val hF (x_fa0 fa27_1 rfl) (by decide) fun a hF => ?_
      refine s_val hF (x_load rfl (m_load flat3 (m2.cell (j := 1) rfl))) (by decide) fun a hF => ?_
      refine s_val hF (x_lss (b := false) (decide_eq_false (by omega)) rfl rfl) (by decide) fun a hF => ?_
      refine s_val hF (x_move rfl) (by decide) fun a hF => ?_
      refine s_grd 29 hF rfl rfl rfl ?_
      refine s_val hF (x_fa0 fa27_1 rfl) (by decide) fun a hF => ?_
      refine s_grd 29 hF rfl rfl rfl ?_
      refine s_val hF (x_load rfl (m_load flat3 (m2.cell (j := 1) rfl))) (by decide) fun a hF => ?_
      refine s_grd 29 hF rfl rfl rfl ?_
      refine s_val hF (x_gtr (b := false) (decide_eq_false (by omega)) rfl rfl) (by decide) fun a hF => ?_
      refine s_val hF (x_pick (b := false) rfl rfl) (by decide) fun a hF => ?_
      refine s_end (hK24 _ _ ?_)
      refine wp_if hF rfl ?_
      refine wp_skip (hK12 _ _ ?_)
      refine wp_rs fun K25 hK25 => ?_
      refine s_val hF (x_assign rfl) (by decide) fun a hF => ?_
      refine s_end (hK25 _ _ ?_)
      refine wp_ret (res_slot hF rfl rfl ⟨by rw [hres], hB⟩)
    · obtain ⟨l, m, rfl⟩ := hx.sort_of hq
      have hres : errE vars (.sort l m) = (chk 32 1048576 vars 1 100 l).1 := if_neg (by omega)
      refine wp_rs fun K26 hK26 => ?_
      refine s_val hF (x_fa0 fa27_0 rfl) (by decide) fun a hF => ?_
      refine s_val hF (x_load rfl (m_load flat3 (m2.cell (j := 0) rfl))) (by decide) fun a hF => ?_
      refine s_end (hK26 _ _ ?_)
      refine wp_block ?_
      refine wp_rs fun K27 hK27 => ?_
      refine s_val hF (x_eql (b := false) (decide_eq_false (by omega)) rfl rfl) (by decide) fun a hF => ?_
      refine s_val hF (x_assign rfl) (by decide) fun a hF => ?_
      refine s_end (hK27 _ _ ?_)
      refine wp_if hF rfl ?_
      refine wp_rs fun K28 hK28 => ?_
      refine s_val hF (x_eql (b := true) (decide_eq_true (by omega)) rfl rfl) (by decide) fun a hF => ?_
      refine s_val hF (x_assign rfl) (by decide) fun a hF => ?_
      refine s_end (hK28 _ _ ?_)
      refine wp_if hF rfl ?_
      refine wp_rs fun K29 hK29 => ?_
      refine s_val hF (x_fa0 fa27_3 rfl) (by decide) fun a hF => ?_
      refine s_val hF (x_load rfl (m_loadP (vs := [_, _, _]) wide24 m2 rfl)) (by decide) fun a hF => ?_
      refine s_val hF (x_move rfl) (by decide) fun a hF => ?_
      have hl9 : RLn w0 _ xl l := hx.2.1
      refine s_callB [_, _] hF (enters_of Try.func98 (by kernel_rfl) rfl) rfl (by decide) (may13 xl l vars w2 ((hl9.keep hB.size (fun k hk _ => hB.block k hk)).rl)) fun w4 a B5 hF => ?_
      have sB5 := B5.size
      have hB := hB.trans (B5.mono hB.size)
      have m2 := m2.old B5
      refine s_val hF (x_assign rfl) (by decide) fun a hF => ?_
      refine s_end (hK29 _ _ ?_)
      refine wp_ret (inb_ret (then_ret (res_slot hF rfl rfl ⟨by rw [hres], hB⟩)))
    · obtain ⟨s, ls, m, rfl⟩ := hx.cst_of hq
      have hres : errE vars (.cst s ls m) = leafErr vars (.cst s ls m) := if_neg (by omega)
      refine wp_rs fun K30 hK30 => ?_
      refine s_val hF (x_fa0 fa27_0 rfl) (by decide) fun a hF => ?_
      refine s_val hF (x_load rfl (m_load flat3 (m2.cell (j := 0) rfl))) (by decide) fun a hF => ?_
      refine s_end (hK30 _ _ ?_)
      refine wp_block ?_
      refine wp_rs fun K31 hK31 => ?_
      refine s_val hF (x_eql (b := false) (decide_eq_false (by omega)) rfl rfl) (by decide) fun a hF => ?_
      refine s_val hF (x_assign rfl) (by decide) fun a hF => ?_
      refine s_end (hK31 _ _ ?_)
      refine wp_if hF rfl ?_
      refine wp_rs fun K32 hK32 => ?_
      refine s_val hF (x_eql (b := false) (decide_eq_false (by omega)) rfl rfl) (by decide) fun a hF => ?_
      refine s_val hF (x_assign rfl) (by decide) fun a hF => ?_
      refine s_end (hK32 _ _ ?_)
      refine wp_if hF rfl ?_
      refine wp_rs fun K33 hK33 => ?_
      refine s_val hF (x_eql (b := true) (decide_eq_true (by omega)) rfl rfl) (by decide) fun a hF => ?_
      refine s_val hF (x_assign rfl) (by decide) fun a hF => ?_
      refine s_end (hK33 _ _ ?_)
      refine wp_if hF rfl ?_
      refine wp_rs fun K34 hK34 => ?_
      refine s_val hF (x_ldW wide27 m2 rfl rfl) (by decide) fun a hF => ?_
      refine s_val hF (x_move rfl) (by decide) fun a hF => ?_
      refine s_callB [_, _] hF (enters_of Try.func99 (by kernel_rfl) rfl) rfl (by decide) (mayConst111 vars s ls m ⟨xk, xn, xs, xl, xls, .slice av nv cv⟩ w2 (hx.bel hB) hfit) fun w6 a B7 hF => ?_
      have sB7 := B7.size
      have hB := hB.trans (B7.mono hB.size)
      have m2 := m2.old B7
      refine s_val hF (x_assign rfl) (by decide) fun a hF => ?_
      refine s_end (hK34 _ _ ?_)
      refine wp_ret (inb_ret (then_ret (res_slot hF rfl rfl ⟨by rw [hres], hB⟩)))
    · have hlf : errE vars c = leafErr vars c := if_neg (by omega)
      have hres := hlf.trans (leafErr_rest hx hq)
      refine wp_rs fun K35 hK35 => ?_
      refine s_val hF (x_fa0 fa27_0 rfl) (by decide) fun a hF => ?_
      refine s_val hF (x_load rfl (m_load flat3 (m2.cell (j := 0) rfl))) (by decide) fun a hF => ?_
      refine s_end (hK35 _ _ ?_)
      refine wp_block ?_
      refine wp_rs fun K36 hK36 => ?_
      refine s_val hF (x_eql (b := false) (decide_eq_false (by omega)) rfl rfl) (by decide) fun a hF => ?_
      refine s_val hF (x_assign rfl) (by decide) fun a hF => ?_
      refine s_end (hK36 _ _ ?_)
      refine wp_if hF rfl ?_
      refine wp_rs fun K37 hK37 => ?_
      refine s_val hF (x_eql (b := false) (decide_eq_false (by omega)) rfl rfl) (by decide) fun a hF => ?_
      refine s_val hF (x_assign rfl) (by decide) fun a hF => ?_
      refine s_end (hK37 _ _ ?_)
      refine wp_if hF rfl ?_
      refine wp_rs fun K38 hK38 => ?_
      refine s_val hF (x_eql (b := false) (decide_eq_false (by omega)) rfl rfl) (by decide) fun a hF => ?_
      refine s_val hF (x_assign rfl) (by decide) fun a hF => ?_
      refine s_end (hK38 _ _ ?_)
      refine wp_if hF rfl ?_
      refine wp_skip (hK12 _ _ ?_)
      refine wp_rs fun K39 hK39 => ?_
      refine s_val hF (x_assign rfl) (by decide) fun a hF => ?_
      refine s_end (hK39 _ _ ?_)
      refine wp_ret (res_slot hF rfl rfl ⟨by rw [hres], hB⟩)

noncomputable def listErr (vars : Int) : Nat → List (Int × CT) → Int
  | _, [] => 0
  | n, (d, c) :: l => if nodeErr vars d (n + 1) c ≠ 0 then nodeErr vars d (n + 1) c else listErr vars (n + 1) l
theorem listErr_app (vars : Int) : ∀ (p q : List (Int × CT)) (n : Nat), listErr vars n (p ++ q) = if listErr vars n p ≠ 0 then listErr vars n p else listErr vars (n + p.length) q
  | [], q, n => by simp [listErr]
  | (d, c) :: p, q, n => by
    simp only [List.cons_append, listErr]
    split
    · rfl
    · next h => rw [listErr_app vars p q (n + 1), List.length_cons, show n + (p.length + 1) = n + 1 + p.length by omega]
theorem listErr_one {vars : Int} {n : Nat} {d : Int} {c : CT} : listErr vars n [(d, c)] = nodeErr vars d (n + 1) c := by
  simp only [listErr]
  split
  · rfl
  · omega
theorem listErr_node (vars : Int) : ∀ (c : CT) (d : Int) (n : Nat), listErr vars n (c.nodes d) = (c.mayT vars d n).1 ∧ ((c.mayT vars d n).1 = 0 → (c.mayT vars d n).2 = n + (c.nodes d).length)
  | .two k a b m, d, n => by
    obtain ⟨a1, a2⟩ := listErr_node vars a (d + 1) (n + 1)
    obtain ⟨b1, b2⟩ := listErr_node vars b (d + 1) (n + 1 + (a.nodes (d + 1)).length)
    simp only [CT.nodes, listErr, CT.mayT]
    rw [listErr_app, a1, b1]
    split
    · next h => exact ⟨rfl, fun h2 => absurd h2 h⟩
    · next h =>
      split
      · next h2 => exact ⟨rfl, fun h3 => absurd h3 h2⟩
      · next h2 =>
        rw [a2 (by omega)]
        refine ⟨rfl, fun h3 => ?_⟩
        rw [b2 h3, List.length_cons, List.length_append]; omega
  | .lt a b c m, d, n => by
    obtain ⟨a1, a2⟩ := listErr_node vars a (d + 1) (n + 1)
    obtain ⟨b1, b2⟩ := listErr_node vars b (d + 1) (n + 1 + (a.nodes (d + 1)).length)
    obtain ⟨c1, c2⟩ := listErr_node vars c (d + 1) (n + 1 + (a.nodes (d + 1)).length + (b.nodes (d + 1)).length)
    simp only [CT.nodes, listErr, CT.mayT]
    rw [listErr_app, listErr_app, a1, b1, c1]
    split
    · next h => exact ⟨rfl, fun h2 => absurd h2 h⟩
    · next h =>
      split
      · next h2 => exact ⟨rfl, fun h3 => absurd h3 h2⟩
      · next h2 =>
        rw [a2 (by omega)]
        split
        · next h3 => exact ⟨rfl, fun h4 => absurd h4 h3⟩
        · next h3 =>
          rw [b2 (by omega)]
          refine ⟨rfl, fun h4 => ?_⟩
          rw [c2 h4, List.length_cons, List.length_append, List.length_append]; omega
  | .var z m, d, n => ⟨listErr_one, fun _ => rfl⟩
  | .sort l m, d, n => ⟨listErr_one, fun _ => rfl⟩
  | .cst s l m, d, n => ⟨listErr_one, fun _ => rfl⟩
  | .odd k m, d, n => ⟨listErr_one, fun _ => rfl⟩
theorem nodes_fit : ∀ (c : CT) (d : Int), c.fit → ∀ e ∈ c.nodes d, e.2.fit
  | .two k a b m, d, h, e, he => by
    simp only [CT.nodes, List.mem_cons, List.mem_append] at he
    rcases he with rfl | he | he
    · exact h
    · exact nodes_fit a _ h.1 e he
    · exact nodes_fit b _ h.2 e he
  | .lt a b c m, d, h, e, he => by
    simp only [CT.nodes, List.mem_cons, List.mem_append] at he
    rcases he with rfl | he | he | he
    · exact h
    · exact nodes_fit a _ h.1 e he
    · exact nodes_fit b _ h.2.1 e he
    · exact nodes_fit c _ h.2.2 e he
  | .var .., d, h, e, he => by simp [CT.nodes] at he; subst he; exact h
  | .sort .., d, h, e, he => by simp [CT.nodes] at he; subst he; exact h
  | .cst .., d, h, e, he => by simp [CT.nodes] at he; subst he; exact h
  | .odd .., d, h, e, he => by simp [CT.nodes] at he; subst he; exact h
theorem listErr_snoc {vars : Int} {p : List (Int × CT)} {e : Int × CT} (h : listErr vars 0 p = 0) : listErr vars 0 (p ++ [e]) = nodeErr vars e.1 (p.length + 1) e.2 := by
  rw [listErr_app, if_neg (by omega)]
  simp only [listErr, Nat.zero_add]
  split <;> omega
theorem listErr_pre {vars : Int} {p q : List (Int × CT)} (hp : p <+: q) (h : listErr vars 0 p ≠ 0) : listErr vars 0 q = listErr vars 0 p := by
  obtain ⟨t, rfl⟩ := hp
  rw [listErr_app, if_pos h]

set_option maxRecDepth 100000 in
set_option maxHeartbeats 400000 in
theorem May29 (vars : Int) (c : CT) (x : C8) (w0 : World) (hx : RC w0 (fun k => k < w0.heap.size) c x) (hfit : c.fit) : Calls Try.prog 25 #[tv x, .int .i64 vars] w0 fun e w' => e = .returned (.int .i64 (c.mayT vars 1 0).1) ∧ Below w0.heap.size w0 w' := by
  have hLE := (listErr_node vars c 1 0).1
  have hB := Below.refl w0.heap.size w0
  have sB := hB.size
  refine calls_fsM 27 [(0, tv x), (1, .int .i64 vars)] Try.func25 rfl rfl rfl rfl rfl fun a hF => ?_
  refine wp_rs fun K1 hK1 => ?_
  refine s_box (tc x) hF (by decide) rfl rfl fun w2 b2 a eb2 m2 B3 zb2 hF => ?_
  have sB3 := B3.size
  have hB := hB.trans (B3.mono hB.size)
  refine s_box ([.int .i64 vars]) hF (by decide) rfl rfl fun w4 b3 a eb3 m3 B5 zb3 hF => ?_
  have sB5 := B5.size
  have hB := hB.trans (B5.mono hB.size)
  have m2 := m2.old B5
  refine s_alloc1 hF (by decide) zero43 rfl fun w6 b4 a eb4 m4 B7 zb4 hF => ?_
  have sB7 := B7.size
  have hB := hB.trans (B7.mono hB.size)
  have m2 := m2.old B7
  have m3 := m3.old B7
  refine s_end (hK1 _ _ ?_)
  refine wp_rs fun K2 hK2 => ?_
  refine s_alloc1 hF (by decide) zero3 rfl fun w8 b5 a eb5 m5 B9 zb5 hF => ?_
  have sB9 := B9.size
  have hB := hB.trans (B9.mono hB.size)
  have m2 := m2.old B9
  have m3 := m3.old B9
  have m4 := m4.old B9
  refine s_put hF rfl rfl flat3 m5 (by first | (simp; done) | (simp [tc, lc]; done) | decide) rfl fun w10 m5 o11 => ?_
  have so11 := o11.size
  have hB := hB.trans (o11.below (by omega))
  have m2 := m2.only o11 (by omega)
  have m3 := m3.only o11 (by omega)
  have m4 := m4.only o11 (by omega)
  refine s_end (hK2 _ _ ?_)
  refine wp_seq_k fun K3 hK3 => ?_
  refine wp_rs fun K4 hK4 => ?_
  refine s_val hF (x_ldW wide27 m2 rfl rfl) (by decide) fun a hF => ?_
  refine s_callR (R := fun v w' => ∃ b1, v = .func (.func 95) #[] #[.pointer (some ⟨b1, 0, none⟩)] ∧ w10.heap.size ≤ b1 ∧ Blk w' b1 27 (tc x)) [_] hF (enters_of Try.func60 (by kernel_rfl) rfl) rfl (by decide) (nodes71 x w10 hx.one) ?_
  rintro v10 w12 a ⟨bx, hve, hbx, mx⟩ B13 hF
  have sB13 := B13.size
  have hB := hB.trans (B13.mono hB.size)
  have m2 := m2.old B13
  have m3 := m3.old B13
  have m4 := m4.old B13
  have m5 := m5.old B13
  subst hve
  refine s_end (hK4 _ _ ?_)
  refine wp_block ?_
  have sD := hB.size
  refine wp_range (w0 := w0) hF rfl (enters_of Try.func95 (by kernel_rfl) rfl) _ rfl hB (hands107 w0 c x bx _ hx (by omega) (by have := mx.lt; omega) _ mx (by omega)) (fun W' hW' => mx.old hW') (by decide) (fun e vs ⟨y, h, _⟩ => by rw [h]; rfl)
    (fun p W => (∀ e ∈ p, e.1 ≤ 64) ∧ p.length ≤ 400 ∧ listErr vars 0 p = 0 ∧ Blk W b3 3 [.int .i64 vars] ∧ Blk W b5 3 [.int .i64 (p.length : Int)] ∧ Blk W b4 43 [.int .i64 0])
    (fun c' p W => c' = .ret ∧ listErr vars 0 p ≠ 0 ∧ Blk W b4 43 [.int .i64 (listErr vars 0 p)])
    (fun p W W' ⟨h1, h2, h3, h4, h5, h6⟩ hW => ⟨h1, h2, h3, h4.below hW (by omega), h5.below hW (by omega), h6.below hW (by omega)⟩) (fun c p W W' ⟨h1, h2, h3⟩ hW => ⟨h1, h2, h3.below hW (by omega)⟩) (fun p e W ⟨h1, _⟩ => by have := h1 e (by simp); omega) (⟨by simp, by simp, rfl, m3, m5, m4⟩) ?_ ?_ ?_
  · rintro L p e1 rest W a vs hL hq hv hI hWs hBr hF K hK
    obtain ⟨hds, hpl, han, m3, m5, m4⟩ := hI
    obtain ⟨y, rfl, hy⟩ := hv
    have sBr := hBr.size
    have hlW : w12.heap.size + 1 < W.heap.size := by omega
    have hM := Mid.refl w0.heap.size w12.heap.size W
    have sM := hM.size
    have hm3l := m3.lt
    have hm4l := m4.lt
    have hm5l := m5.lt
    refine wpI_rs (by repeat' first | exact rndPost.calm | exact false.calm | refine Calm.then ?_ _ | refine Calm.block ?_ _) rfl fun K5 hK5 => ?_
    refine s_val hF (x_assign rfl) (by decide) fun a hF => ?_
    refine s_end (hK5 _ _ ?_)
    refine wpI_r (by repeat' first | exact rndPost.calm | exact false.calm | refine Calm.then ?_ _ | refine Calm.block ?_ _) rfl ?_
    refine s_alloc hF (by decide) zero27 fun w14 b7 a eb7 m7 B15 zb7 hF => ?_
    have sB15 := B15.size
    have hBr := hBr.trans (B15.mono hBr.size)
    have m3 := m3.old B15
    have m4 := m4.old B15
    have m5 := m5.old B15
    have hM := hM.old B15
    refine s_putW hF rfl rfl (size_wide wide27) m7 rfl hy.one fun w18 m7 o19 => ?_
    have so19 := o19.size
    have hBr := hBr.trans (o19.below (by omega))
    have m3 := m3.only o19 (by omega)
    have m4 := m4.only o19 (by omega)
    have m5 := m5.only o19 (by omega)
    have hM := hM.only o19 (by omega)
    refine s_end ?_
    refine hK _ _ hM fun W3 hO3 => ?_
    have hM := Mid.refl w0.heap.size w12.heap.size W3
    have sO := hO3.size
    have m3 := m3.only hO3 (by omega)
    have m4 := m4.only hO3 (by omega)
    have m5 := m5.only hO3 (by omega)
    have m7 := m7.only hO3 (by omega)
    have hBr := hBr.trans (hO3.below (by omega))
    have hfe := nodes_fit c 1 hfit e1 (by rw [hq]; simp)
    have hsn := listErr_snoc (vars := vars) (e := e1) han
    refine wpIn_block ?_
    refine wpI_rs (by repeat' first | exact rndPost.calm | exact false.calm | refine Calm.then ?_ _ | refine Calm.block ?_ _) rfl fun K6 hK6 => ?_
    refine s_val hF (x_load rfl (m_load flat3 (m5.cell (j := 0) rfl))) (by decide) fun a hF => ?_
    refine s_val hF (x_addn (p.length + 1) (by omega) (by omega) rfl rfl) (by decide) fun a hF => ?_
    refine s_put hF rfl rfl flat3 m5 (by first | (simp; done) | (simp [tc, lc]; done) | decide) rfl fun w20 m5 o21 => ?_
    have so21 := o21.size
    have hBr := hBr.trans (o21.below (by omega))
    have m3 := m3.only o21 (by omega)
    have m4 := m4.only o21 (by omega)
    have m7 := m7.only o21 (by omega)
    have hM := hM.only o21 (by omega)
    refine s_end (hK6 _ _ ?_)
    refine wpIn_seq_k fun K7 hK7 => ?_
    rcases (show 64 < e1.1 ∨ (¬ 64 < e1.1 ∧ 400 < ((p.length + 1 : Nat) : Int)) ∨ (¬ 64 < e1.1 ∧ ¬ 400 < ((p.length + 1 : Nat) : Int)) by omega) with hz | hz | hz
    · have hne : nodeErr vars e1.1 (p.length + 1) e1.2 = 2 := nodeErr_two (by omega)
      refine wpI_rs (by repeat' first | exact rndPost.calm | exact false.calm | refine Calm.then ?_ _ | refine Calm.block ?_ _) rfl fun K9 hK9 => ?_
      refine s_val hF (x_move rfl) (by decide) fun a hF => ?_
      refine s_val hF (x_gtr (b := true) (decide_eq_true (by omega)) rfl rfl) (by decide) fun a hF => ?_
      refine s_val hF (x_move rfl) (by decide) fun a hF => ?_
      refine s_grdn 17 hF rfl rfl (by decide) fun a hF => ?_
      refine s_grdn 17 hF rfl rfl (by decide) fun a hF => ?_
      refine s_val hF (x_pick (b := true) rfl rfl) (by decide) fun a hF => ?_
      refine s_end (hK9 _ _ ?_)
      refine wpI_if hF rfl ?_
      refine wpI_rs (by repeat' first | exact rndPost.calm | exact false.calm | refine Calm.then ?_ _ | refine Calm.block ?_ _) rfl fun K10 hK10 => ?_
      refine s_put hF rfl rfl flat43 m4 (by first | (simp; done) | (simp [tc, lc]; done) | decide) rfl fun w22 m4 o23 => ?_
      have so23 := o23.size
      have hBr := hBr.trans (o23.below (by omega))
      have m3 := m3.only o23 (by omega)
      have m5 := m5.only o23 (by omega)
      have m7 := m7.only o23 (by omega)
      have hM := hM.only o23 (by omega)
      refine s_end (hK10 _ _ ?_)
      refine wpIn_ret ⟨hM, rfl, by rw [hsn, hne]; decide, by rw [hsn, hne]; exact m4⟩
    · have hne : nodeErr vars e1.1 (p.length + 1) e1.2 = 2 := nodeErr_two (by omega)
      refine wpI_rs (by repeat' first | exact rndPost.calm | exact false.calm | refine Calm.then ?_ _ | refine Calm.block ?_ _) rfl fun K11 hK11 => ?_
      refine s_val hF (x_move rfl) (by decide) fun a hF => ?_
      refine s_val hF (x_gtr (b := false) (decide_eq_false (by omega)) rfl rfl) (by decide) fun a hF => ?_
      refine s_val hF (x_move rfl) (by decide) fun a hF => ?_
      refine s_grd 17 hF rfl rfl rfl ?_
      refine s_val hF (x_load rfl (m_load flat3 (m5.cell (j := 0) rfl))) (by decide) fun a hF => ?_
      refine s_grd 17 hF rfl rfl rfl ?_
      refine s_val hF (x_gtr (b := true) (decide_eq_true (by omega)) rfl rfl) (by decide) fun a hF => ?_
      refine s_val hF (x_pick (b := false) rfl rfl) (by decide) fun a hF => ?_
      refine s_end (hK11 _ _ ?_)
      refine wpI_if hF rfl ?_
      refine wpI_rs (by repeat' first | exact rndPost.calm | exact false.calm | refine Calm.then ?_ _ | refine Calm.block ?_ _) rfl fun K12 hK12 => ?_
      refine s_put hF rfl rfl flat43 m4 (by first | (simp; done) | (simp [tc, lc]; done) | decide) rfl fun w24 m4 o25 => ?_
      have so25 := o25.size
      have hBr := hBr.trans (o25.below (by omega))
      have m3 := m3.only o25 (by omega)
      have m5 := m5.only o25 (by omega)
      have m7 := m7.only o25 (by omega)
      have hM := hM.only o25 (by omega)
      refine s_end (hK12 _ _ ?_)
      refine wpIn_ret ⟨hM, rfl, by rw [hsn, hne]; decide, by rw [hsn, hne]; exact m4⟩
    · have hne : nodeErr vars e1.1 (p.length + 1) e1.2 = errE vars e1.2 := by rw [nodeErr_E9, if_neg (by omega)]
      refine wpI_rs (by repeat' first | exact rndPost.calm | exact false.calm | refine Calm.then ?_ _ | refine Calm.block ?_ _) rfl fun K13 hK13 => ?_
      refine s_val hF (x_move rfl) (by decide) fun a hF => ?_
      refine s_val hF (x_gtr (b := false) (decide_eq_false (by omega)) rfl rfl) (by decide) fun a hF => ?_
      refine s_val hF (x_move rfl) (by decide) fun a hF => ?_
      refine s_grd 17 hF rfl rfl rfl ?_
      refine s_val hF (x_load rfl (m_load flat3 (m5.cell (j := 0) rfl))) (by decide) fun a hF => ?_
      refine s_grd 17 hF rfl rfl rfl ?_
      refine s_val hF (x_gtr (b := false) (decide_eq_false (by omega)) rfl rfl) (by decide) fun a hF => ?_
      refine s_val hF (x_pick (b := false) rfl rfl) (by decide) fun a hF => ?_
      refine s_end (hK13 _ _ ?_)
      refine wpI_if hF rfl ?_
      refine wpIn_skip (hK7 _ _ ?_)
      refine wpI_rs (by repeat' first | exact rndPost.calm | exact false.calm | refine Calm.then ?_ _ | refine Calm.block ?_ _) rfl fun K14 hK14 => ?_
      refine s_val hF (x_ldW wide27 m7 rfl rfl) (by decide) fun a hF => ?_
      refine s_val hF (x_load rfl (m_load flat3 (m3.cell (j := 0) rfl))) (by decide) fun a hF => ?_
      refine s_callB [_, _] hF (enters_of Try.func61 (by kernel_rfl) rfl) rfl (by decide) (mayNode72 vars e1.2 y w20 (hy.bel hBr) hfe) fun w26 a B27 hF => ?_
      have sB27 := B27.size
      have hBr := hBr.trans (B27.mono hBr.size)
      have m3 := m3.old B27
      have m4 := m4.old B27
      have m5 := m5.old B27
      have m7 := m7.old B27
      have hM := hM.old B27
      refine s_val hF (x_assign rfl) (by decide) fun a hF => ?_
      refine s_end (hK14 _ _ ?_)
      refine wpI_rs (by repeat' first | exact rndPost.calm | exact false.calm | refine Calm.then ?_ _ | refine Calm.block ?_ _) rfl fun K15 hK15 => ?_
      refine s_val hF (x_move rfl) (by decide) fun a hF => ?_
      refine s_val hF (x_neq rfl rfl rfl) (by decide) fun a hF => ?_
      refine s_end (hK15 _ _ ?_)
      refine wpI_iff hF rfl (fun hc25 => ?_) (fun hc25 => ?_)
      · refine wpI_rs (by repeat' first | exact rndPost.calm | exact false.calm | refine Calm.then ?_ _ | refine Calm.block ?_ _) rfl fun K16 hK16 => ?_
        refine s_val hF (x_move rfl) (by decide) fun a hF => ?_
        refine s_put hF rfl rfl flat43 m4 (by first | (simp; done) | (simp [tc, lc]; done) | decide) rfl fun w28 m4 o29 => ?_
        have so29 := o29.size
        have hBr := hBr.trans (o29.below (by omega))
        have m3 := m3.only o29 (by omega)
        have m5 := m5.only o29 (by omega)
        have m7 := m7.only o29 (by omega)
        have hM := hM.only o29 (by omega)
        refine s_end (hK16 _ _ ?_)
        refine wpIn_ret ⟨hM, rfl, by rw [hsn, hne]; exact hc25, by rw [hsn, hne]; exact m4⟩
      · refine wpIn_skip ?_
        exact ⟨hM, (fun e he => by rcases List.mem_append.1 he with he | he; (· exact hds e he); (· rw [List.mem_singleton.1 he]; omega)), by simp only [List.length_append, List.length_cons, List.length_nil]; omega, by rw [hsn, hne]; omega, m3, by simp only [List.length_append, List.length_cons, List.length_nil]; exact m5, m4⟩
  · rintro a W hI hM hD hF
    obtain ⟨hds, hpl, han, m3, m5, m4⟩ := hI
    have sM := hM.size
    have hB := hB.trans (hM.below (by omega))
    obtain ⟨bD, hbD⟩ : ∃ bD, bD = w12.heap.size := ⟨_, rfl⟩
    rw [← hbD] at hD hF
    have hD : Dfr W bD := hD
    refine hK3 _ _ ?_
    refine wp_rs fun K17 hK17 => ?_
    refine s_put hF rfl rfl flat43 m4 (by first | (simp; done) | (simp [tc, lc]; done) | decide) rfl fun w30 m4 o31 => ?_
    have so31 := o31.size
    have hB := hB.trans (o31.below (by omega))
    have m3 := m3.only o31 (by omega)
    have m5 := m5.only o31 (by omega)
    have hD := hD.only o31 (by omega)
    refine s_end (hK17 _ _ ?_)
    have hz : (c.mayT vars 1 0).1 = 0 := by rw [← hLE]; exact han
    refine wp_ret (resM hF hD fun w9 o9 => ⟨run_cell (t0 := 0) (cs := []) hF rfl rfl (m_load flat43 ((m4.only o9 (by omega)).cell (j := 0) rfl)), by rw [hz], hB.trans (o9.below (by omega))⟩)
  · rintro a c p W hp hI hM hD hF
    obtain ⟨rfl, han, m4⟩ := hI
    have hB := hB.trans (hM.below (by omega))
    have hz : (c.mayT vars 1 0).1 = listErr vars 0 p := by rw [← hLE]; exact listErr_pre hp han
    refine wp_ret (inb_ret (then_ret (resM hF hD fun w9 o9 => ⟨run_cell (t0 := 0) (cs := []) hF rfl rfl (m_load flat43 ((m4.only o9 (by omega)).cell (j := 0) rfl)), by rw [hz], hB.trans (o9.below (by omega))⟩)))

set_option maxRecDepth 100000 in
set_option maxHeartbeats 400000 in
theorem termMay_walk (a0 : CT) (x : C8) (vars : Int) (s : ByteArray) (w0 : World) (hx : RC w0 (fun k => k < w0.heap.size) a0 x) (fa : a0.fit) (hs : s.size ≤ 9223372036854775807) : Calls Try.prog 4 #[tv x, .int .i64 vars, .string s] w0 fun e w' => e = .returned (.bool true) ∧ Below w0.heap.size w0 w' := by
  have hB := Below.refl w0.heap.size w0
  have sB := hB.size
  refine calls_fs 24 [(0, tv x), (1, .int .i64 vars), (2, .string s)] Try.func4 rfl rfl rfl rfl rfl fun a hF => ?_
  refine wp_rs fun K1 hK1 => ?_
  refine s_box (tc x) hF (by decide) rfl rfl fun w2 b3 a eb3 m3 B3 zb3 hF => ?_
  have sB3 := B3.size
  have hB := hB.trans (B3.mono hB.size)
  refine s_val hF (x_assign rfl) (by decide) fun a hF => ?_
  refine s_end (hK1 _ _ ?_)
  refine dk2_seq (w2.heap.size) (w2.heap.size) (ops := regOps Try.f4 1) (N := 18) (by kernel_rfl) wide_orders (by kernel_rfl) fun w4 hw4 B5 hS K2 hK2 => ?_
  have zw4 : w4.heap.size = w2.heap.size := by rw [hw4]
  have sB5 := B5.size
  have hB := hB.trans (B5.mono hB.size)
  have m3 := m3.old B5
  have m3_d := m3
  have hB_d := hB
  refine d_val 0 7 (op := (Go.Op.load 27 (Go.Operand.tmp 3))) hF hS (by kernel_rfl) (fun W hW => x_ldW wide27 (m3_d.k2 hW (by omega)) rfl rfl) (by kernel_rfl) (by decide) fun a hF => ?_
  refine d_val 1 8 (op := (Go.Op.move (Go.Operand.tmp 1))) hF hS (by kernel_rfl) (fun W hW => x_move rfl) (by kernel_rfl) (by decide) fun a hF => ?_
  refine d_val 3 10 (op := (Go.Op.load 27 (Go.Operand.tmp 3))) hF hS (by kernel_rfl) (fun W hW => x_ldW wide27 (m3_d.k2 hW (by omega)) rfl rfl) (by kernel_rfl) (by decide) fun a hF => ?_
  refine d_val 4 11 (op := (Go.Op.move (Go.Operand.tmp 1))) hF hS (by kernel_rfl) (fun W hW => x_move rfl) (by kernel_rfl) (by decide) fun a hF => ?_
  refine d_one 2 (some 9) (Go.Op.call (Go.Call.mk (Go.Callee.value (Go.Operand.func 25)) #[(Go.Operand.tmp 7), (Go.Operand.tmp 8)] #[27, 3])) (by kernel_rfl) (by kernel_rfl) fun ty pos af => ?_
  refine s_callB [_, _] hF (enters_of Try.func25 (by kernel_rfl) rfl) rfl (by decide) (May29 vars a0 x w4 (hx.bel hB) fa) fun w6 a B7 hF => ?_
  have sB7 := B7.size
  have hB := hB.trans (B7.mono hB.size)
  have m3 := m3.old B7
  have hS := hS.below B7
  refine s_end ⟨hS, ?_⟩
  refine d_one 5 (some 12) (Go.Op.call (Go.Call.mk (Go.Callee.value (Go.Operand.func 26)) #[(Go.Operand.tmp 10), (Go.Operand.tmp 11)] #[27, 3])) (by kernel_rfl) (by kernel_rfl) fun ty pos af => ?_
  refine s_callB [_, _] hF (enters_of Try.func26 (by kernel_rfl) rfl) rfl (by decide) (rMay30 vars a0 x w6 (hx.bel hB) fa) fun w8 a B9 hF => ?_
  have sB9 := B9.size
  have hB := hB.trans (B9.mono hB.size)
  have m3 := m3.old B9
  have hS := hS.below B9
  refine s_end ⟨hS, ?_⟩
  refine d_val 6 13 (op := (Go.Op.binOp Go.BinOp.eql 43 (Go.Operand.tmp 9) (Go.Operand.tmp 12) 43)) hF hS (by kernel_rfl) (fun W hW => x_eql (b := true) (decide_eq_true rfl) rfl rfl) (by kernel_rfl) (by decide) fun a hF => ?_
  refine d_val 7 14 (op := (Go.Op.move (Go.Operand.tmp 13))) hF hS (by kernel_rfl) (fun W hW => x_move rfl) (by kernel_rfl) (by decide) fun a hF => ?_
  refine d_valg 8 15 14 (j := 7) (want := true) (op := (Go.Op.move (Go.Operand.tmp 2))) hF hS (by kernel_rfl) (by kernel_rfl) rfl (fun W hW => x_move rfl) (by kernel_rfl) (by decide) fun a hF => ?_
  refine d_valg 10 17 14 (j := 7) (want := true) (op := (Go.Op.move (Go.Operand.tmp 2))) hF hS (by kernel_rfl) (by kernel_rfl) rfl (fun W hW => x_move rfl) (by kernel_rfl) (by decide) fun a hF => ?_
  refine d_oneg 9 14 (some 16) (Go.Op.call (Go.Call.mk (Go.Callee.value (Go.Operand.func 27)) #[(Go.Operand.tmp 15)] #[9])) (j := 7) (want := true) hF (by kernel_rfl) (by kernel_rfl) (by kernel_rfl) rfl fun ty pos af => ?_
  refine s_callS [_] hF (enters_of Try.func27 (by kernel_rfl) rfl) rfl (by decide) (Name31 s w8 hs) fun a hF => ?_
  refine s_end ⟨hS, ?_⟩
  refine d_oneg 11 14 (some 18) (Go.Op.call (Go.Call.mk (Go.Callee.value (Go.Operand.func 28)) #[(Go.Operand.tmp 17)] #[9])) (j := 7) (want := true) hF (by kernel_rfl) (by kernel_rfl) (by kernel_rfl) rfl fun ty pos af => ?_
  refine s_callS [_] hF (enters_of Try.func28 (by kernel_rfl) rfl) rfl (by decide) (rName32 s w8 hs) fun a hF => ?_
  refine s_end ⟨hS, ?_⟩
  refine d_valg 12 19 14 (j := 7) (want := true) (op := (Go.Op.binOp Go.BinOp.eql 4 (Go.Operand.tmp 16) (Go.Operand.tmp 18) 4)) hF hS (by kernel_rfl) (by kernel_rfl) rfl (fun W hW => x_eqB (b := true) Try.underlying4 (by simp) rfl rfl) (by kernel_rfl) (by decide) fun a hF => ?_
  refine d_val 13 20 (op := (Go.Op.pick (Go.Operand.tmp 14) (Go.Operand.tmp 19) (Go.Operand.const (Go.Value.bool false)))) hF hS (by kernel_rfl) (fun W hW => x_pick (b := true) rfl rfl) (by kernel_rfl) (by decide) fun a hF => ?_
  refine d_val 14 21 (op := (Go.Op.move (Go.Operand.tmp 20))) hF hS (by kernel_rfl) (fun W hW => x_move rfl) (by kernel_rfl) (by decide) fun a hF => ?_
  refine d_oneg 15 21 (some 22) (Go.Op.call (Go.Call.mk (Go.Callee.value (Go.Operand.func 11)) #[] #[])) (j := 14) (want := true) hF (by kernel_rfl) (by kernel_rfl) (by kernel_rfl) rfl fun ty pos af => ?_
  refine s_callB [] hF (enters_of Try.func11 (by kernel_rfl) rfl) rfl (by decide) (awake15 w8) fun w10 a B11 hF => ?_
  have sB11 := B11.size
  have hB := hB.trans (B11.mono hB.size)
  have m3 := m3.old B11
  have hS := hS.below B11
  refine s_end ⟨hS, ?_⟩
  refine d_val 16 23 (op := (Go.Op.pick (Go.Operand.tmp 21) (Go.Operand.tmp 22) (Go.Operand.const (Go.Value.bool false)))) hF hS (by kernel_rfl) (fun W hW => x_pick (b := true) rfl rfl) (by kernel_rfl) (by decide) fun a hF => ?_
  refine d_val 17 6 (op := (Go.Op.assign (Go.Operand.tmp 23))) hF hS (by kernel_rfl) (fun W hW => x_assign rfl) (by kernel_rfl) (by decide) fun a hF => ?_
  refine d_end (by kernel_rfl) (hK2 _ _ ?_)
  refine wp_ret (res_slot hF rfl rfl ⟨rfl, hB⟩)
end Go.Proofs.Ytaclncmkdpjnlaa
