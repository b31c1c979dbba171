/- Same; fits, copied, own, Max, Plus; awake. -/
import Derived.Test.YtnnkggfhhkhnmaaLev10
namespace Go.Proofs.Ytnnkggfhhkhnmaa
open Go.RowKit Go.Shelf
set_option linter.unusedVariables false
set_option linter.unusedSimpArgs false

def SL.kd : SL → Int
  | .num _ => 1
  | .var _ => 2
  | .succ _ _ => 3
  | .mx _ _ => 4
def SL.nn : SL → Int
  | .num n => n
  | .var n => n
  | .succ n _ => n
  | .mx _ _ => 0
theorem RS.kd {W : World} {s : SL} {k n : Int} {v : Value} (h : RS W s (k, n, v)) : k = s.kd ∧ (k ≠ 4 → n = s.nn) := by
  cases s with
  | num m => exact ⟨h.1, fun _ => h.2.1⟩
  | var m => exact ⟨h.1, fun _ => h.2.1⟩
  | succ m a => exact ⟨h.1, fun _ => h.2.1⟩
  | mx a b => exact ⟨h.1, fun h4 => absurd h.1 h4⟩
theorem SL.same_iff {s t : SL} : s = t ↔ s.kd = t.kd ∧ s.nn = t.nn ∧ s.kids = t.kids := by
  constructor
  · rintro rfl; exact ⟨rfl, rfl, rfl⟩
  · rintro ⟨h1, h2, h3⟩
    cases s <;> cases t <;> simp [SL.kd, SL.nn, SL.kids] at h1 h2 h3
    · congr 1; omega
    · congr 1; omega
    · rw [h3]; congr 1; omega
    · rw [h3.1, h3.2]
theorem SL.kd_len {s t : SL} (h : s.kd = t.kd) : s.kids.length = t.kids.length := by
  cases s <;> cases t <;> simp [SL.kd, SL.kids] at h ⊢
theorem SL.kd4 {s t : SL} (h : s.kd = 4) (h' : t.kd = 4) : s.nn = t.nn := by
  cases s <;> simp [SL.kd] at h
  cases t <;> simp [SL.kd] at h'
  rfl
theorem SL.kids_sum (s : SL) : (s.kids.map SL.size).sum + 1 = s.size := by cases s <;> simp [SL.kids, SL.size]
theorem SL.kids_dep {s t : SL} {i : Nat} (h : s.kids[i]? = some t) : t.dep + 1 ≤ s.dep := by
  have := List.mem_of_getElem? h
  cases s <;> simp [SL.kids] at this <;> simp only [SL.dep]
  · subst this; omega
  · rcases this with rfl | rfl <;> omega
theorem sum_take {ks : List SL} {i : Nat} {t : SL} (h : ks[i]? = some t) : ((ks.take (i + 1)).map SL.size).sum = ((ks.take i).map SL.size).sum + t.size := by
  rw [List.take_add_one, h, List.map_append, List.sum_append]
  simp
theorem sum_le (ks : List SL) (i : Nat) : ((ks.take i).map SL.size).sum ≤ (ks.map SL.size).sum := by
  have : (ks.map SL.size).sum = ((ks.take i).map SL.size).sum + ((ks.drop i).map SL.size).sum := by rw [← List.sum_append, ← List.map_append, List.take_append_drop]
  omega
theorem SL.nn_nn (s : SL) : 0 ≤ s.nn := by cases s <;> simp [SL.nn]
theorem SL.kd_is (s : SL) : s.kd = 1 ∨ s.kd = 2 ∨ s.kd = 3 ∨ s.kd = 4 := by cases s <;> simp [SL.kd]
/-- A level, out of its node and its kids. -/
theorem rsn_of {W : World} {A : Nat → Prop} {s : SL} {n : Int} {v : Value} {zs : List C3} (hn : s.kd ≠ 4 → n = s.nn) (hR : Rd W v 3 zs.length (zs.flatMap lc)) (hP : PL W A zs s.kids) (hA : ∀ j, v.ownBlock = some j → A j) : RSn W A s (s.kd, n, v) := by
  have hl := hP.1
  cases s with
  | num m =>
    obtain rfl : zs = [] := List.eq_nil_of_length_eq_zero hl
    exact ⟨rfl, hn (by simp [SL.kd]), by simpa using hR⟩
  | var m =>
    obtain rfl : zs = [] := List.eq_nil_of_length_eq_zero hl
    exact ⟨rfl, hn (by simp [SL.kd]), by simpa using hR⟩
  | succ m a =>
    obtain ⟨y, rfl⟩ : ∃ y, zs = [y] := List.length_eq_one_iff.1 hl
    exact ⟨rfl, hn (by simp [SL.kd]), y, by simpa using hR, hA, hP.2 0 y a rfl rfl⟩
  | mx a b =>
    obtain ⟨y, z, rfl⟩ := len2 hl
    exact ⟨rfl, y, z, by simpa using hR, hA, hP.2 0 y a rfl rfl, hP.2 1 z b rfl rfl⟩

set_option maxRecDepth 100000 in
set_option maxHeartbeats 1600000 in
theorem same40 (w0 : World) (g : Nat) (hg : w0.heap.size ≤ g) : ∀ (N : Nat) (s t : SL) (x y : C3), s.size < N → RS w0 s x → RS w0 t y → ∀ (r : Nat) (w1 : World), r + s.size ≤ 5000 → Below w0.heap.size w0 w1 → Blk w1 g 3 [.int .i64 (r : Int)] →
    Calls Try.prog 40 #[lv x, lv y, .pointer (some ⟨g, 0, none⟩)] w1 fun e w' => ∃ u, e = .returned u ∧ (u = .bool (decide (s = t)) ∧ ∃ r' : Nat, r' ≤ r + s.size ∧ Blk w' g 3 [.int .i64 (r' : Int)]) ∧ Ktw g g w1 w' := by
  intro N
  induction N with
  | zero => intro s t x y h; omega
  | succ N ih =>
  rintro s t ⟨k, n, v⟩ ⟨k2, n2, v2⟩ hN hS hT r w1 hr hB mg
  obtain ⟨xs, hR, hl, hk⟩ := hS.kids
  obtain ⟨ys, hR2, hl2, hk2⟩ := hT.kids
  simp only at hR hR2
  obtain ⟨av, cv, rfl, _⟩ := hR.form
  obtain ⟨au, cu, rfl, _⟩ := hR2.form
  obtain ⟨e1, e2⟩ := hS.kd
  obtain ⟨e3, e4⟩ := hT.kd
  have hle := s.kids_le
  have hK := Ktw.refl g g w1
  have sB := hB.size
  have hgl := mg.lt
  have hsz : 1 ≤ s.size := by cases s <;> simp [SL.size]
  have hks := s.kids_sum
  refine calls_fs 63 [(0, .agg [.int .i64 k, .int .i64 n, .slice av xs.length cv].toArray), (1, .agg [.int .i64 k2, .int .i64 n2, .slice au ys.length cu].toArray), (2, .pointer (some ⟨g, 0, none⟩))] Try.func40 rfl rfl rfl rfl rfl fun a hF => ?_
  refine wp_rs fun K1 hK1 => ?_
  refine s_box ([.int .i64 k, .int .i64 n, .slice av xs.length cv]) hF (by decide) rfl rfl fun w2 b3 a eb3 m3 B3 zb3 hF => ?_
  have sB3 := B3.size
  have hB := hB.trans (B3.mono hB.size)
  have hK := hK.below B3
  have mg := mg.old B3
  refine s_box ([.int .i64 k2, .int .i64 n2, .slice au ys.length cu]) hF (by decide) rfl rfl fun w4 b4 a eb4 m4 B5 zb4 hF => ?_
  have sB5 := B5.size
  have hB := hB.trans (B5.mono hB.size)
  have hK := hK.below B5
  have mg := mg.old B5
  have m3 := m3.old B5
  refine s_val hF (x_assign rfl) (by decide) fun a hF => ?_
  refine s_end (hK1 _ _ ?_)
  refine wp_seq_k fun K2 hK2 => ?_
  refine wp_rs fun K3 hK3 => ?_
  refine s_val hF (x_move rfl) (by decide) fun a hF => ?_
  refine s_val hF (x_nil rfl) (by decide) fun a hF => ?_
  refine s_val hF (x_load rfl (m_load flat3 (mg.cell (j := 0) rfl))) (by decide) fun a hF => ?_
  refine s_val hF (x_addn (r + 1) (by omega) (by omega) rfl rfl) (by decide) fun a hF => ?_
  refine s_val hF (x_nil rfl) (by decide) fun a hF => ?_
  refine s_put hF rfl rfl flat3 mg (by simp) rfl fun w6 mg o7 => ?_
  have so7 := o7.size
  have hB := hB.trans (o7.below (by omega))
  have hK := hK.only o7 (by omega)
  have m3 := m3.only o7 (by omega)
  have m4 := m4.only o7 (by omega)
  refine s_end (hK3 _ _ ?_)
  refine wp_rs fun K4 hK4 => ?_
  refine s_val hF (x_move rfl) (by decide) fun a hF => ?_
  refine s_val hF (x_nil rfl) (by decide) fun a hF => ?_
  refine s_val hF (x_load rfl (m_load flat3 (mg.cell (j := 0) rfl))) (by decide) fun a hF => ?_
  refine s_val hF (x_gtr (b := false) (decide_eq_false (by omega)) rfl rfl) (by decide) fun a hF => ?_
  refine s_end (hK4 _ _ ?_)
  refine wp_if hF rfl ?_
  refine wp_skip (hK2 _ _ ?_)
  refine wp_seq_k fun K5 hK5 => ?_
  rcases (show k ≠ k2 ∨ (k = k2 ∧ k ≠ 4 ∧ n ≠ n2) ∨ (k = k2 ∧ k ≠ 4 ∧ n = n2) ∨ (k = k2 ∧ k = 4) by omega) with hv | hv | hv | hv
  · skip
    refine wp_rs fun K7 hK7 => ?_
    refine s_val hF (x_fa0 fa24_0 rfl) (by decide) fun a hF => ?_
    refine s_val hF (x_load rfl (m_load flat3 (m3.cell (j := 0) rfl))) (by decide) fun a hF => ?_
    refine s_val hF (x_fa0 fa24_0 rfl) (by decide) fun a hF => ?_
    refine s_val hF (x_load rfl (m_load flat3 (m4.cell (j := 0) rfl))) (by decide) fun a hF => ?_
    refine s_val hF (x_neq (b := true) (decide_eq_true (by omega)) rfl rfl) (by decide) fun a hF => ?_
    refine s_val hF (x_move rfl) (by decide) fun a hF => ?_
    refine s_grdn 22 hF rfl rfl (by decide) fun a hF => ?_
    refine s_grdn 22 hF rfl rfl (by decide) fun a hF => ?_
    refine s_grdn 22 hF rfl rfl (by decide) fun a hF => ?_
    refine s_grdn 22 hF rfl rfl (by decide) fun a hF => ?_
    refine s_grdu 26 hF rfl rfl (by decide) fun a hF => ?_
    refine s_grdu 26 hF rfl rfl (by decide) fun a hF => ?_
    refine s_grdu 26 hF rfl rfl (by decide) fun a hF => ?_
    refine s_grdu 26 hF rfl rfl (by decide) fun a hF => ?_
    refine s_grdu 26 hF rfl rfl (by decide) fun a hF => ?_
    refine s_grdn 22 hF rfl rfl (by decide) fun a hF => ?_
    refine s_val hF (x_pick (b := true) rfl rfl) (by decide) fun a hF => ?_
    refine s_val hF (x_move rfl) (by decide) fun a hF => ?_
    refine s_grdn 34 hF rfl rfl (by decide) fun a hF => ?_
    refine s_grdn 34 hF rfl rfl (by decide) fun a hF => ?_
    refine s_grdn 34 hF rfl rfl (by decide) fun a hF => ?_
    refine s_grdn 34 hF rfl rfl (by decide) fun a hF => ?_
    refine s_grdn 34 hF rfl rfl (by decide) fun a hF => ?_
    refine s_grdn 34 hF rfl rfl (by decide) fun a hF => ?_
    refine s_grdn 34 hF rfl rfl (by decide) fun a hF => ?_
    refine s_val hF (x_pick (b := true) rfl rfl) (by decide) fun a hF => ?_
    refine s_end (hK7 _ _ ?_)
    refine wp_if hF rfl ?_
    refine wp_rs fun K8 hK8 => ?_
    refine s_val hF (x_assign rfl) (by decide) fun a hF => ?_
    refine s_end (hK8 _ _ ?_)
    refine wp_ret (then_ret (res_slot hF rfl rfl ⟨_, rfl, ⟨bool_of (decide_eq_false (fun h => by have := SL.same_iff.1 h; omega)).symm, r + 1, by omega, mg⟩, hK⟩))
  · skip
    refine wp_rs fun K9 hK9 => ?_
    refine s_val hF (x_fa0 fa24_0 rfl) (by decide) fun a hF => ?_
    refine s_val hF (x_load rfl (m_load flat3 (m3.cell (j := 0) rfl))) (by decide) fun a hF => ?_
    refine s_val hF (x_fa0 fa24_0 rfl) (by decide) fun a hF => ?_
    refine s_val hF (x_load rfl (m_load flat3 (m4.cell (j := 0) rfl))) (by decide) fun a hF => ?_
    refine s_val hF (x_neq (b := false) (decide_eq_false (by omega)) rfl rfl) (by decide) fun a hF => ?_
    refine s_val hF (x_move rfl) (by decide) fun a hF => ?_
    refine s_grd 22 hF rfl rfl rfl ?_
    refine s_val hF (x_fa0 fa24_0 rfl) (by decide) fun a hF => ?_
    refine s_grd 22 hF rfl rfl rfl ?_
    refine s_val hF (x_load rfl (m_load flat3 (m3.cell (j := 0) rfl))) (by decide) fun a hF => ?_
    refine s_grd 22 hF rfl rfl rfl ?_
    refine s_val hF (x_neq (b := true) (decide_eq_true (by omega)) rfl rfl) (by decide) fun a hF => ?_
    refine s_grd 22 hF rfl rfl rfl ?_
    refine s_val hF (x_move rfl) (by decide) fun a hF => ?_
    refine s_grd 26 hF rfl rfl rfl ?_
    refine s_val hF (x_fa0 fa24_1 rfl) (by decide) fun a hF => ?_
    refine s_grd 26 hF rfl rfl rfl ?_
    refine s_val hF (x_load rfl (m_load flat3 (m3.cell (j := 1) rfl))) (by decide) fun a hF => ?_
    refine s_grd 26 hF rfl rfl rfl ?_
    refine s_val hF (x_fa0 fa24_1 rfl) (by decide) fun a hF => ?_
    refine s_grd 26 hF rfl rfl rfl ?_
    refine s_val hF (x_load rfl (m_load flat3 (m4.cell (j := 1) rfl))) (by decide) fun a hF => ?_
    refine s_grd 26 hF rfl rfl rfl ?_
    refine s_val hF (x_neq (b := true) (decide_eq_true (by omega)) rfl rfl) (by decide) fun a hF => ?_
    refine s_grd 22 hF rfl rfl rfl ?_
    refine s_val hF (x_pick (b := true) rfl rfl) (by decide) fun a hF => ?_
    refine s_val hF (x_pick (b := false) rfl rfl) (by decide) fun a hF => ?_
    refine s_val hF (x_move rfl) (by decide) fun a hF => ?_
    refine s_grdn 34 hF rfl rfl (by decide) fun a hF => ?_
    refine s_grdn 34 hF rfl rfl (by decide) fun a hF => ?_
    refine s_grdn 34 hF rfl rfl (by decide) fun a hF => ?_
    refine s_grdn 34 hF rfl rfl (by decide) fun a hF => ?_
    refine s_grdn 34 hF rfl rfl (by decide) fun a hF => ?_
    refine s_grdn 34 hF rfl rfl (by decide) fun a hF => ?_
    refine s_grdn 34 hF rfl rfl (by decide) fun a hF => ?_
    refine s_val hF (x_pick (b := true) rfl rfl) (by decide) fun a hF => ?_
    refine s_end (hK9 _ _ ?_)
    refine wp_if hF rfl ?_
    refine wp_rs fun K10 hK10 => ?_
    refine s_val hF (x_assign rfl) (by decide) fun a hF => ?_
    refine s_end (hK10 _ _ ?_)
    refine wp_ret (then_ret (res_slot hF rfl rfl ⟨_, rfl, ⟨bool_of (decide_eq_false (fun h => by have := SL.same_iff.1 h; have := e2 (by omega); have := e4 (by omega); omega)).symm, r + 1, by omega, mg⟩, hK⟩))
  · have hln := SL.kd_len (s := s) (t := t) (by omega)
    refine wp_rs fun K11 hK11 => ?_
    refine s_val hF (x_fa0 fa24_0 rfl) (by decide) fun a hF => ?_
    refine s_val hF (x_load rfl (m_load flat3 (m3.cell (j := 0) rfl))) (by decide) fun a hF => ?_
    refine s_val hF (x_fa0 fa24_0 rfl) (by decide) fun a hF => ?_
    refine s_val hF (x_load rfl (m_load flat3 (m4.cell (j := 0) rfl))) (by decide) fun a hF => ?_
    refine s_val hF (x_neq (b := false) (decide_eq_false (by omega)) rfl rfl) (by decide) fun a hF => ?_
    refine s_val hF (x_move rfl) (by decide) fun a hF => ?_
    refine s_grd 22 hF rfl rfl rfl ?_
    refine s_val hF (x_fa0 fa24_0 rfl) (by decide) fun a hF => ?_
    refine s_grd 22 hF rfl rfl rfl ?_
    refine s_val hF (x_load rfl (m_load flat3 (m3.cell (j := 0) rfl))) (by decide) fun a hF => ?_
    refine s_grd 22 hF rfl rfl rfl ?_
    refine s_val hF (x_neq (b := true) (decide_eq_true (by omega)) rfl rfl) (by decide) fun a hF => ?_
    refine s_grd 22 hF rfl rfl rfl ?_
    refine s_val hF (x_move rfl) (by decide) fun a hF => ?_
    refine s_grd 26 hF rfl rfl rfl ?_
    refine s_val hF (x_fa0 fa24_1 rfl) (by decide) fun a hF => ?_
    refine s_grd 26 hF rfl rfl rfl ?_
    refine s_val hF (x_load rfl (m_load flat3 (m3.cell (j := 1) rfl))) (by decide) fun a hF => ?_
    refine s_grd 26 hF rfl rfl rfl ?_
    refine s_val hF (x_fa0 fa24_1 rfl) (by decide) fun a hF => ?_
    refine s_grd 26 hF rfl rfl rfl ?_
    refine s_val hF (x_load rfl (m_load flat3 (m4.cell (j := 1) rfl))) (by decide) fun a hF => ?_
    refine s_grd 26 hF rfl rfl rfl ?_
    refine s_val hF (x_neq (b := false) (decide_eq_false (by omega)) rfl rfl) (by decide) fun a hF => ?_
    refine s_grd 22 hF rfl rfl rfl ?_
    refine s_val hF (x_pick (b := true) rfl rfl) (by decide) fun a hF => ?_
    refine s_val hF (x_pick (b := false) rfl rfl) (by decide) fun a hF => ?_
    refine s_val hF (x_move rfl) (by decide) fun a hF => ?_
    refine s_grd 34 hF rfl rfl rfl ?_
    refine s_val hF (x_fa0 fa24_2 rfl) (by decide) fun a hF => ?_
    refine s_grd 34 hF rfl rfl rfl ?_
    refine s_val hF (x_load rfl (m_load flat22 (m3.cell (j := 2) rfl))) (by decide) fun a hF => ?_
    refine s_grd 34 hF rfl rfl rfl ?_
    refine s_val hF (x_len Try.underlying22 rfl) (by decide) fun a hF => ?_
    refine s_grd 34 hF rfl rfl rfl ?_
    refine s_val hF (x_fa0 fa24_2 rfl) (by decide) fun a hF => ?_
    refine s_grd 34 hF rfl rfl rfl ?_
    refine s_val hF (x_load rfl (m_load flat22 (m4.cell (j := 2) rfl))) (by decide) fun a hF => ?_
    refine s_grd 34 hF rfl rfl rfl ?_
    refine s_val hF (x_len Try.underlying22 rfl) (by decide) fun a hF => ?_
    refine s_grd 34 hF rfl rfl rfl ?_
    refine s_val hF (x_neq (b := false) (decide_eq_false (by omega)) rfl rfl) (by decide) fun a hF => ?_
    refine s_val hF (x_pick (b := false) rfl rfl) (by decide) fun a hF => ?_
    refine s_end (hK11 _ _ ?_)
    refine wp_if hF rfl ?_
    refine wp_skip (hK5 _ _ ?_)
    refine wp_seq_k fun K12 hK12 => ?_
    refine wp_rs fun K13 hK13 => ?_
    refine s_val hF (x_fa0 fa24_2 rfl) (by decide) fun a hF => ?_
    refine s_val hF (x_load rfl (m_load flat22 (m3.cell (j := 2) rfl))) (by decide) fun a hF => ?_
    refine s_val hF (x_len Try.underlying22 rfl) (by decide) fun a hF => ?_
    refine s_val hF (x_move rfl) (by decide) fun a hF => ?_
    refine s_end (hK13 _ _ ?_)
    refine wp_block ?_
    refine wp_up xs.length (fun i a w => ∃ ri : Nat, ri ≤ r + 1 + ((s.kids.take i).map SL.size).sum ∧ s.kids.take i = t.kids.take i ∧ Blk w g 3 [.int .i64 (ri : Int)] ∧ Blk w b3 24 [.int .i64 k, .int .i64 n, .slice av xs.length cv] ∧ Blk w b4 24 [.int .i64 k2, .int .i64 n2, .slice au ys.length cu] ∧ Below w0.heap.size w0 w ∧ Ktw g g w1 w ∧ Fs 63 a [(46, .int .i64 (i : Int)), (45, .int .i64 (xs.length : Int)), (2, .pointer (some ⟨g, 0, none⟩)), (3, .pointer (some ⟨b3, 0, none⟩)), (4, .pointer (some ⟨b4, 0, none⟩))]) ⟨r + 1, by omega, by simp, mg, m3, m4, hB, hK, hF.sub _ rfl⟩ ?_
    have hbb : w1.heap.size ≤ b3 ∧ b3 < b4 ∧ g < b3 := ⟨by omega, by omega, by omega⟩
    repeat clear hF
    clear hB hK mg m3 m4
    rintro i a w hi ⟨ri, hri, heq, mg, m3, m4, hB, hK, hF⟩ K' hK'
    have sB := hB.size
    have sK := hK.size
    have hgl := mg.lt
    have hm4 := m4.lt
    have hsl := sum_le s.kids i
    refine wp_rs fun K14 hK14 => ?_
    refine s_val hF (x_lss rfl rfl rfl) (by decide) fun a hF => ?_
    refine s_end (hK14 _ _ ?_)
    refine wp_seq_k fun K15 hK15 => ?_
    refine wp_iff hF rfl (fun hc47 => ?_) (fun hc47 => ?_)
    · obtain ⟨b, off, c, y1, hve, hy1, hrow1⟩ := rd_row3 hR (i := i) (by omega)
      cases hve
      obtain ⟨b2, off2, c2, y2, hve, hy2, hrow2⟩ := rd_row3 hR2 (i := i) (by omega)
      cases hve
      obtain ⟨p, hp⟩ : ∃ p, s.kids[i]? = some p := ⟨_, List.getElem?_eq_getElem (by omega)⟩
      obtain ⟨q, hq⟩ : ∃ q, t.kids[i]? = some q := ⟨_, List.getElem?_eq_getElem (by omega)⟩
      have hps := SL.kids_size hp
      have hst := sum_take hp
      have hsl1 := sum_le s.kids (i + 1)
      refine wp_skip (hK15 _ _ ?_)
      refine wp_seq_k fun K16 hK16 => ?_
      refine wp_block ?_
      refine wp_rs fun K17 hK17 => ?_
      refine s_val hF (x_move rfl) (by decide) fun a hF => ?_
      refine s_val hF (x_assign rfl) (by decide) fun a hF => ?_
      refine s_end (hK17 _ _ ?_)
      refine dk2_seq (g) (g) (ops := regOps Try.f40 9) (N := 13) (by kernel_rfl) wide_orders (by kernel_rfl) fun w8 hw8 B9 hS K18 hK18 => ?_
      have zw8 : w8.heap.size = w.heap.size := by rw [hw8]
      have sB9 := B9.size
      have hB := hB.trans (B9.mono hB.size)
      have hK := hK.below B9
      have mg := mg.old B9
      have m3 := m3.old B9
      have m4 := m4.old B9
      have mg_d := mg
      have m3_d := m3
      have m4_d := m4
      have hB_d := hB
      have hK_d := hK
      refine d_val 0 49 (op := (Go.Op.fieldAddr 24 (Go.Operand.tmp 3) 2)) hF hS (by kernel_rfl) (fun W hW => x_fa0 fa24_2 rfl) (by kernel_rfl) (by decide) fun a hF => ?_
      refine d_val 1 50 (op := (Go.Op.load 22 (Go.Operand.tmp 49))) hF hS (by kernel_rfl) (fun W hW => x_load rfl (m_load flat22 ((m3_d.k2 hW (by omega)).cell (j := 2) rfl))) (by kernel_rfl) (by decide) fun a hF => ?_
      refine d_val 2 51 (op := (Go.Op.move (Go.Operand.tmp 7))) hF hS (by kernel_rfl) (fun W hW => x_move rfl) (by kernel_rfl) (by decide) fun a hF => ?_
      refine d_val 3 52 (op := (Go.Op.indexAddr 22 (Go.Operand.tmp 50) (Go.Operand.tmp 51))) hF hS (by kernel_rfl) (fun W hW => x_ixa rfl rfl (m_ixsK i Try.underlying22 el22.size rfl (by omega))) (by kernel_rfl) (by decide) fun a hF => ?_
      refine d_val 4 53 (op := (Go.Op.load 24 (Go.Operand.tmp 52))) hF hS (by kernel_rfl) (fun W hW => x_ldA wide24 (hrow1 _ (hW.under hB_d (by omega))) rfl rfl) (by kernel_rfl) (by decide) fun a hF => ?_
      refine d_val 5 54 (op := (Go.Op.fieldAddr 24 (Go.Operand.tmp 4) 2)) hF hS (by kernel_rfl) (fun W hW => x_fa0 fa24_2 rfl) (by kernel_rfl) (by decide) fun a hF => ?_
      refine d_val 6 55 (op := (Go.Op.load 22 (Go.Operand.tmp 54))) hF hS (by kernel_rfl) (fun W hW => x_load rfl (m_load flat22 ((m4_d.k2 hW (by omega)).cell (j := 2) rfl))) (by kernel_rfl) (by decide) fun a hF => ?_
      refine d_val 7 56 (op := (Go.Op.move (Go.Operand.tmp 7))) hF hS (by kernel_rfl) (fun W hW => x_move rfl) (by kernel_rfl) (by decide) fun a hF => ?_
      refine d_val 8 57 (op := (Go.Op.indexAddr 22 (Go.Operand.tmp 55) (Go.Operand.tmp 56))) hF hS (by kernel_rfl) (fun W hW => x_ixa rfl rfl (m_ixsK i Try.underlying22 el22.size rfl (by omega))) (by kernel_rfl) (by decide) fun a hF => ?_
      refine d_val 9 58 (op := (Go.Op.load 24 (Go.Operand.tmp 57))) hF hS (by kernel_rfl) (fun W hW => x_ldA wide24 (hrow2 _ (hW.under hB_d (by omega))) rfl rfl) (by kernel_rfl) (by decide) fun a hF => ?_
      refine d_val 10 59 (op := (Go.Op.move (Go.Operand.tmp 2))) hF hS (by kernel_rfl) (fun W hW => x_move rfl) (by kernel_rfl) (by decide) fun a hF => ?_
      refine d_one 11 (some 60) (Go.Op.call (Go.Call.mk (Go.Callee.value (Go.Operand.func 40)) #[(Go.Operand.tmp 53), (Go.Operand.tmp 58), (Go.Operand.tmp 59)] #[24, 24, 56])) (by kernel_rfl) (by kernel_rfl) fun ty pos af => ?_
      refine s_call (R := fun u w' => (u = .bool (decide (p = q)) ∧ ∃ r' : Nat, r' ≤ ri + p.size ∧ Blk w' g 3 [.int .i64 (r' : Int)]) ∧ Ktw g g w8 w') hF [_, _, _] (enters_of Try.func40 (by kernel_rfl) rfl) rfl (by decide) (ih p q y1 y2 (by omega) (hk i y1 p hy1 hp) (hk2 i y2 q hy2 hq) ri w8 (by omega) hB mg) ?_
      rintro _ w10 a ⟨⟨rfl, r2, hr2, mg⟩, k11⟩ hF
      have sk11 := k11.size
      have hB := k11.under hB (by omega)
      have hK := hK.trans k11 (by omega)
      have m3 := m3.k2 k11 (by omega)
      have m4 := m4.k2 k11 (by omega)
      have hS := hS.trans k11 (by omega)
      refine s_end ⟨hS, ?_⟩
      refine d_val 12 61 (op := (Go.Op.unOp Go.UnOp.not 4 (Go.Operand.tmp 60))) hF hS (by kernel_rfl) (fun W hW => x_not rfl) (by kernel_rfl) (by decide) fun a hF => ?_
      refine d_end (by kernel_rfl) (hK18 _ _ ?_)
      refine wp_ifb hF rfl (fun hc61 => ?_) (fun hc61 => ?_)
      · have hpq : ¬ p = q := by simpa using hc61
        refine wp_rs fun K19 hK19 => ?_
        refine s_val hF (x_assign rfl) (by decide) fun a hF => ?_
        refine s_end (hK19 _ _ ?_)
        refine wp_ret (inb_ret (then_ret (then_ret (inb_ret (then_ret (res_slot hF rfl rfl ⟨_, rfl, ⟨bool_of (decide_eq_false (fun h => hpq (by have h3 := (SL.same_iff.1 h).2.2; rw [h3, hq] at hp; exact (Option.some.inj hp).symm))).symm, r2, by omega, mg⟩, hK⟩))))))
      · have hpq : p = q := by simpa using hc61
        refine wp_skip (hK16 _ _ ?_)
        refine wp_region_lit ?_
        refine s_val hF (x_addn (i + 1) (by omega) (by omega) rfl rfl) (by decide) fun a hF => ?_
        refine s_val hF (x_move rfl) (by decide) fun a hF => ?_
        have heq2 : s.kids.take (i + 1) = t.kids.take (i + 1) := by rw [List.take_add_one, List.take_add_one, heq, hp, hq, hpq]
        refine s_end (hK' _ _ (by omega) ⟨r2, by omega, heq2, mg, m3, m4, hB, hK, hF.sub _ rfl⟩)
    · refine wp_exit (hK12 _ _ ?_)
      refine wp_rs fun K20 hK20 => ?_
      refine s_val hF (x_assign rfl) (by decide) fun a hF => ?_
      refine s_end (hK20 _ _ ?_)
      refine wp_ret (res_slot hF rfl rfl ⟨_, rfl, ⟨bool_of (decide_eq_true (SL.same_iff.2 ⟨by omega, by have := e2 (by omega); have := e4 (by omega); omega, by rw [← List.take_of_length_le (l := s.kids) (i := i) (by omega), ← List.take_of_length_le (l := t.kids) (i := i) (by omega)]; exact heq⟩)).symm, ri, by omega, mg⟩, hK⟩)
  · have hln := SL.kd_len (s := s) (t := t) (by omega)
    refine wp_rs fun K21 hK21 => ?_
    refine s_val hF (x_fa0 fa24_0 rfl) (by decide) fun a hF => ?_
    refine s_val hF (x_load rfl (m_load flat3 (m3.cell (j := 0) rfl))) (by decide) fun a hF => ?_
    refine s_val hF (x_fa0 fa24_0 rfl) (by decide) fun a hF => ?_
    refine s_val hF (x_load rfl (m_load flat3 (m4.cell (j := 0) rfl))) (by decide) fun a hF => ?_
    refine s_val hF (x_neq (b := false) (decide_eq_false (by omega)) rfl rfl) (by decide) fun a hF => ?_
    refine s_val hF (x_move rfl) (by decide) fun a hF => ?_
    refine s_grd 22 hF rfl rfl rfl ?_
    refine s_val hF (x_fa0 fa24_0 rfl) (by decide) fun a hF => ?_
    refine s_grd 22 hF rfl rfl rfl ?_
    refine s_val hF (x_load rfl (m_load flat3 (m3.cell (j := 0) rfl))) (by decide) fun a hF => ?_
    refine s_grd 22 hF rfl rfl rfl ?_
    refine s_val hF (x_neq (b := false) (decide_eq_false (by omega)) rfl rfl) (by decide) fun a hF => ?_
    refine s_grd 22 hF rfl rfl rfl ?_
    refine s_val hF (x_move rfl) (by decide) fun a hF => ?_
    refine s_grdn 26 hF rfl rfl (by decide) fun a hF => ?_
    refine s_grdn 26 hF rfl rfl (by decide) fun a hF => ?_
    refine s_grdn 26 hF rfl rfl (by decide) fun a hF => ?_
    refine s_grdn 26 hF rfl rfl (by decide) fun a hF => ?_
    refine s_grdn 26 hF rfl rfl (by decide) fun a hF => ?_
    refine s_grd 22 hF rfl rfl rfl ?_
    refine s_val hF (x_pick (b := false) rfl rfl) (by decide) fun a hF => ?_
    refine s_val hF (x_pick (b := false) rfl rfl) (by decide) fun a hF => ?_
    refine s_val hF (x_move rfl) (by decide) fun a hF => ?_
    refine s_grd 34 hF rfl rfl rfl ?_
    refine s_val hF (x_fa0 fa24_2 rfl) (by decide) fun a hF => ?_
    refine s_grd 34 hF rfl rfl rfl ?_
    refine s_val hF (x_load rfl (m_load flat22 (m3.cell (j := 2) rfl))) (by decide) fun a hF => ?_
    refine s_grd 34 hF rfl rfl rfl ?_
    refine s_val hF (x_len Try.underlying22 rfl) (by decide) fun a hF => ?_
    refine s_grd 34 hF rfl rfl rfl ?_
    refine s_val hF (x_fa0 fa24_2 rfl) (by decide) fun a hF => ?_
    refine s_grd 34 hF rfl rfl rfl ?_
    refine s_val hF (x_load rfl (m_load flat22 (m4.cell (j := 2) rfl))) (by decide) fun a hF => ?_
    refine s_grd 34 hF rfl rfl rfl ?_
    refine s_val hF (x_len Try.underlying22 rfl) (by decide) fun a hF => ?_
    refine s_grd 34 hF rfl rfl rfl ?_
    refine s_val hF (x_neq (b := false) (decide_eq_false (by omega)) rfl rfl) (by decide) fun a hF => ?_
    refine s_val hF (x_pick (b := false) rfl rfl) (by decide) fun a hF => ?_
    refine s_end (hK21 _ _ ?_)
    refine wp_if hF rfl ?_
    refine wp_skip (hK5 _ _ ?_)
    refine wp_seq_k fun K22 hK22 => ?_
    refine wp_rs fun K23 hK23 => ?_
    refine s_val hF (x_fa0 fa24_2 rfl) (by decide) fun a hF => ?_
    refine s_val hF (x_load rfl (m_load flat22 (m3.cell (j := 2) rfl))) (by decide) fun a hF => ?_
    refine s_val hF (x_len Try.underlying22 rfl) (by decide) fun a hF => ?_
    refine s_val hF (x_move rfl) (by decide) fun a hF => ?_
    refine s_end (hK23 _ _ ?_)
    refine wp_block ?_
    refine wp_up xs.length (fun i a w => ∃ ri : Nat, ri ≤ r + 1 + ((s.kids.take i).map SL.size).sum ∧ s.kids.take i = t.kids.take i ∧ Blk w g 3 [.int .i64 (ri : Int)] ∧ Blk w b3 24 [.int .i64 k, .int .i64 n, .slice av xs.length cv] ∧ Blk w b4 24 [.int .i64 k2, .int .i64 n2, .slice au ys.length cu] ∧ Below w0.heap.size w0 w ∧ Ktw g g w1 w ∧ Fs 63 a [(46, .int .i64 (i : Int)), (45, .int .i64 (xs.length : Int)), (2, .pointer (some ⟨g, 0, none⟩)), (3, .pointer (some ⟨b3, 0, none⟩)), (4, .pointer (some ⟨b4, 0, none⟩))]) ⟨r + 1, by omega, by simp, mg, m3, m4, hB, hK, hF.sub _ rfl⟩ ?_
    have hbb : w1.heap.size ≤ b3 ∧ b3 < b4 ∧ g < b3 := ⟨by omega, by omega, by omega⟩
    repeat clear hF
    clear hB hK mg m3 m4
    rintro i a w hi ⟨ri, hri, heq, mg, m3, m4, hB, hK, hF⟩ K' hK'
    have sB := hB.size
    have sK := hK.size
    have hgl := mg.lt
    have hm4 := m4.lt
    have hsl := sum_le s.kids i
    refine wp_rs fun K24 hK24 => ?_
    refine s_val hF (x_lss rfl rfl rfl) (by decide) fun a hF => ?_
    refine s_end (hK24 _ _ ?_)
    refine wp_seq_k fun K25 hK25 => ?_
    refine wp_iff hF rfl (fun hc47 => ?_) (fun hc47 => ?_)
    · obtain ⟨b, off, c, y1, hve, hy1, hrow1⟩ := rd_row3 hR (i := i) (by omega)
      cases hve
      obtain ⟨b2, off2, c2, y2, hve, hy2, hrow2⟩ := rd_row3 hR2 (i := i) (by omega)
      cases hve
      obtain ⟨p, hp⟩ : ∃ p, s.kids[i]? = some p := ⟨_, List.getElem?_eq_getElem (by omega)⟩
      obtain ⟨q, hq⟩ : ∃ q, t.kids[i]? = some q := ⟨_, List.getElem?_eq_getElem (by omega)⟩
      have hps := SL.kids_size hp
      have hst := sum_take hp
      have hsl1 := sum_le s.kids (i + 1)
      refine wp_skip (hK25 _ _ ?_)
      refine wp_seq_k fun K26 hK26 => ?_
      refine wp_block ?_
      refine wp_rs fun K27 hK27 => ?_
      refine s_val hF (x_move rfl) (by decide) fun a hF => ?_
      refine s_val hF (x_assign rfl) (by decide) fun a hF => ?_
      refine s_end (hK27 _ _ ?_)
      refine dk2_seq (g) (g) (ops := regOps Try.f40 9) (N := 13) (by kernel_rfl) wide_orders (by kernel_rfl) fun w12 hw12 B13 hS K28 hK28 => ?_
      have zw12 : w12.heap.size = w.heap.size := by rw [hw12]
      have sB13 := B13.size
      have hB := hB.trans (B13.mono hB.size)
      have hK := hK.below B13
      have mg := mg.old B13
      have m3 := m3.old B13
      have m4 := m4.old B13
      have mg_d := mg
      have m3_d := m3
      have m4_d := m4
      have hB_d := hB
      have hK_d := hK
      refine d_val 0 49 (op := (Go.Op.fieldAddr 24 (Go.Operand.tmp 3) 2)) hF hS (by kernel_rfl) (fun W hW => x_fa0 fa24_2 rfl) (by kernel_rfl) (by decide) fun a hF => ?_
      refine d_val 1 50 (op := (Go.Op.load 22 (Go.Operand.tmp 49))) hF hS (by kernel_rfl) (fun W hW => x_load rfl (m_load flat22 ((m3_d.k2 hW (by omega)).cell (j := 2) rfl))) (by kernel_rfl) (by decide) fun a hF => ?_
      refine d_val 2 51 (op := (Go.Op.move (Go.Operand.tmp 7))) hF hS (by kernel_rfl) (fun W hW => x_move rfl) (by kernel_rfl) (by decide) fun a hF => ?_
      refine d_val 3 52 (op := (Go.Op.indexAddr 22 (Go.Operand.tmp 50) (Go.Operand.tmp 51))) hF hS (by kernel_rfl) (fun W hW => x_ixa rfl rfl (m_ixsK i Try.underlying22 el22.size rfl (by omega))) (by kernel_rfl) (by decide) fun a hF => ?_
      refine d_val 4 53 (op := (Go.Op.load 24 (Go.Operand.tmp 52))) hF hS (by kernel_rfl) (fun W hW => x_ldA wide24 (hrow1 _ (hW.under hB_d (by omega))) rfl rfl) (by kernel_rfl) (by decide) fun a hF => ?_
      refine d_val 5 54 (op := (Go.Op.fieldAddr 24 (Go.Operand.tmp 4) 2)) hF hS (by kernel_rfl) (fun W hW => x_fa0 fa24_2 rfl) (by kernel_rfl) (by decide) fun a hF => ?_
      refine d_val 6 55 (op := (Go.Op.load 22 (Go.Operand.tmp 54))) hF hS (by kernel_rfl) (fun W hW => x_load rfl (m_load flat22 ((m4_d.k2 hW (by omega)).cell (j := 2) rfl))) (by kernel_rfl) (by decide) fun a hF => ?_
      refine d_val 7 56 (op := (Go.Op.move (Go.Operand.tmp 7))) hF hS (by kernel_rfl) (fun W hW => x_move rfl) (by kernel_rfl) (by decide) fun a hF => ?_
      refine d_val 8 57 (op := (Go.Op.indexAddr 22 (Go.Operand.tmp 55) (Go.Operand.tmp 56))) hF hS (by kernel_rfl) (fun W hW => x_ixa rfl rfl (m_ixsK i Try.underlying22 el22.size rfl (by omega))) (by kernel_rfl) (by decide) fun a hF => ?_
      refine d_val 9 58 (op := (Go.Op.load 24 (Go.Operand.tmp 57))) hF hS (by kernel_rfl) (fun W hW => x_ldA wide24 (hrow2 _ (hW.under hB_d (by omega))) rfl rfl) (by kernel_rfl) (by decide) fun a hF => ?_
      refine d_val 10 59 (op := (Go.Op.move (Go.Operand.tmp 2))) hF hS (by kernel_rfl) (fun W hW => x_move rfl) (by kernel_rfl) (by decide) fun a hF => ?_
      refine d_one 11 (some 60) (Go.Op.call (Go.Call.mk (Go.Callee.value (Go.Operand.func 40)) #[(Go.Operand.tmp 53), (Go.Operand.tmp 58), (Go.Operand.tmp 59)] #[24, 24, 56])) (by kernel_rfl) (by kernel_rfl) fun ty pos af => ?_
      refine s_call (R := fun u w' => (u = .bool (decide (p = q)) ∧ ∃ r' : Nat, r' ≤ ri + p.size ∧ Blk w' g 3 [.int .i64 (r' : Int)]) ∧ Ktw g g w12 w') hF [_, _, _] (enters_of Try.func40 (by kernel_rfl) rfl) rfl (by decide) (ih p q y1 y2 (by omega) (hk i y1 p hy1 hp) (hk2 i y2 q hy2 hq) ri w12 (by omega) hB mg) ?_
      rintro _ w14 a ⟨⟨rfl, r2, hr2, mg⟩, k15⟩ hF
      have sk15 := k15.size
      have hB := k15.under hB (by omega)
      have hK := hK.trans k15 (by omega)
      have m3 := m3.k2 k15 (by omega)
      have m4 := m4.k2 k15 (by omega)
      have hS := hS.trans k15 (by omega)
      refine s_end ⟨hS, ?_⟩
      refine d_val 12 61 (op := (Go.Op.unOp Go.UnOp.not 4 (Go.Operand.tmp 60))) hF hS (by kernel_rfl) (fun W hW => x_not rfl) (by kernel_rfl) (by decide) fun a hF => ?_
      refine d_end (by kernel_rfl) (hK28 _ _ ?_)
      refine wp_ifb hF rfl (fun hc61 => ?_) (fun hc61 => ?_)
      · have hpq : ¬ p = q := by simpa using hc61
        refine wp_rs fun K29 hK29 => ?_
        refine s_val hF (x_assign rfl) (by decide) fun a hF => ?_
        refine s_end (hK29 _ _ ?_)
        refine wp_ret (inb_ret (then_ret (then_ret (inb_ret (then_ret (res_slot hF rfl rfl ⟨_, rfl, ⟨bool_of (decide_eq_false (fun h => hpq (by have h3 := (SL.same_iff.1 h).2.2; rw [h3, hq] at hp; exact (Option.some.inj hp).symm))).symm, r2, by omega, mg⟩, hK⟩))))))
      · have hpq : p = q := by simpa using hc61
        refine wp_skip (hK26 _ _ ?_)
        refine wp_region_lit ?_
        refine s_val hF (x_addn (i + 1) (by omega) (by omega) rfl rfl) (by decide) fun a hF => ?_
        refine s_val hF (x_move rfl) (by decide) fun a hF => ?_
        have heq2 : s.kids.take (i + 1) = t.kids.take (i + 1) := by rw [List.take_add_one, List.take_add_one, heq, hp, hq, hpq]
        refine s_end (hK' _ _ (by omega) ⟨r2, by omega, heq2, mg, m3, m4, hB, hK, hF.sub _ rfl⟩)
    · refine wp_exit (hK22 _ _ ?_)
      refine wp_rs fun K30 hK30 => ?_
      refine s_val hF (x_assign rfl) (by decide) fun a hF => ?_
      refine s_end (hK30 _ _ ?_)
      refine wp_ret (res_slot hF rfl rfl ⟨_, rfl, ⟨bool_of (decide_eq_true (SL.same_iff.2 ⟨by omega, SL.kd4 (by omega) (by omega), by rw [← List.take_of_length_le (l := s.kids) (i := i) (by omega), ← List.take_of_length_le (l := t.kids) (i := i) (by omega)]; exact heq⟩)).symm, ri, by omega, mg⟩, hK⟩)

set_option maxRecDepth 100000 in
set_option maxHeartbeats 1600000 in
theorem same40z (g : Nat) (w1 : World) (mg : Blk w1 g 3 [.int .i64 0]) : Calls Try.prog 40 #[lv (0, 0, .slice none 0 0), lv (0, 0, .slice none 0 0), .pointer (some ⟨g, 0, none⟩)] w1 fun e w' => ∃ u, e = .returned u ∧ (u = .bool true) ∧ Ktw g g w1 w' := by
  have hK := Ktw.refl g g w1
  have hgl := mg.lt
  refine calls_fs 63 [(0, .agg [.int .i64 0, .int .i64 0, .slice none 0 0].toArray), (1, .agg [.int .i64 0, .int .i64 0, .slice none 0 0].toArray), (2, .pointer (some ⟨g, 0, none⟩))] Try.func40 rfl rfl rfl rfl rfl fun a hF => ?_
  refine wp_rs fun K1 hK1 => ?_
  refine s_box ([.int .i64 0, .int .i64 0, .slice none 0 0]) hF (by decide) rfl rfl fun w2 b3 a eb3 m3 B3 zb3 hF => ?_
  have sB3 := B3.size
  have hK := hK.below B3
  have mg := mg.old B3
  refine s_box ([.int .i64 0, .int .i64 0, .slice none 0 0]) hF (by decide) rfl rfl fun w4 b4 a eb4 m4 B5 zb4 hF => ?_
  have sB5 := B5.size
  have hK := hK.below B5
  have mg := mg.old B5
  have m3 := m3.old B5
  refine s_val hF (x_assign rfl) (by decide) fun a hF => ?_
  refine s_end (hK1 _ _ ?_)
  refine wp_seq_k fun K2 hK2 => ?_
  refine wp_rs fun K3 hK3 => ?_
  refine s_val hF (x_move rfl) (by decide) fun a hF => ?_
  refine s_val hF (x_nil rfl) (by decide) fun a hF => ?_
  refine s_val hF (x_load rfl (m_load flat3 (mg.cell (j := 0) rfl))) (by decide) fun a hF => ?_
  refine s_val hF (x_add (by omega) (by omega) rfl rfl) (by decide) fun a hF => ?_
  refine s_val hF (x_nil rfl) (by decide) fun a hF => ?_
  refine s_put hF rfl rfl flat3 mg (by simp) rfl fun w6 mg o7 => ?_
  have so7 := o7.size
  have hK := hK.only o7 (by omega)
  have m3 := m3.only o7 (by omega)
  have m4 := m4.only o7 (by omega)
  refine s_end (hK3 _ _ ?_)
  refine wp_rs fun K4 hK4 => ?_
  refine s_val hF (x_move rfl) (by decide) fun a hF => ?_
  refine s_val hF (x_nil rfl) (by decide) fun a hF => ?_
  refine s_val hF (x_load rfl (m_load flat3 (mg.cell (j := 0) rfl))) (by decide) fun a hF => ?_
  refine s_val hF (x_gtr (b := false) (decide_eq_false (by omega)) rfl rfl) (by decide) fun a hF => ?_
  refine s_end (hK4 _ _ ?_)
  refine wp_if hF rfl ?_
  refine wp_skip (hK2 _ _ ?_)
  refine wp_seq_k fun K5 hK5 => ?_
  refine wp_rs fun K6 hK6 => ?_
  refine s_val hF (x_fa0 fa24_0 rfl) (by decide) fun a hF => ?_
  refine s_val hF (x_load rfl (m_load flat3 (m3.cell (j := 0) rfl))) (by decide) fun a hF => ?_
  refine s_val hF (x_fa0 fa24_0 rfl) (by decide) fun a hF => ?_
  refine s_val hF (x_load rfl (m_load flat3 (m4.cell (j := 0) rfl))) (by decide) fun a hF => ?_
  refine s_val hF (x_neq (b := false) (decide_eq_false (by omega)) rfl rfl) (by decide) fun a hF => ?_
  refine s_val hF (x_move rfl) (by decide) fun a hF => ?_
  refine s_grd 22 hF rfl rfl rfl ?_
  refine s_val hF (x_fa0 fa24_0 rfl) (by decide) fun a hF => ?_
  refine s_grd 22 hF rfl rfl rfl ?_
  refine s_val hF (x_load rfl (m_load flat3 (m3.cell (j := 0) rfl))) (by decide) fun a hF => ?_
  refine s_grd 22 hF rfl rfl rfl ?_
  refine s_val hF (x_neq (b := true) (decide_eq_true (by omega)) rfl rfl) (by decide) fun a hF => ?_
  refine s_grd 22 hF rfl rfl rfl ?_
  refine s_val hF (x_move rfl) (by decide) fun a hF => ?_
  refine s_grd 26 hF rfl rfl rfl ?_
  refine s_val hF (x_fa0 fa24_1 rfl) (by decide) fun a hF => ?_
  refine s_grd 26 hF rfl rfl rfl ?_
  refine s_val hF (x_load rfl (m_load flat3 (m3.cell (j := 1) rfl))) (by decide) fun a hF => ?_
  refine s_grd 26 hF rfl rfl rfl ?_
  refine s_val hF (x_fa0 fa24_1 rfl) (by decide) fun a hF => ?_
  refine s_grd 26 hF rfl rfl rfl ?_
  refine s_val hF (x_load rfl (m_load flat3 (m4.cell (j := 1) rfl))) (by decide) fun a hF => ?_
  refine s_grd 26 hF rfl rfl rfl ?_
  refine s_val hF (x_neq (b := false) (decide_eq_false (by omega)) rfl rfl) (by decide) fun a hF => ?_
  refine s_grd 22 hF rfl rfl rfl ?_
  refine s_val hF (x_pick (b := true) rfl rfl) (by decide) fun a hF => ?_
  refine s_val hF (x_pick (b := false) rfl rfl) (by decide) fun a hF => ?_
  refine s_val hF (x_move rfl) (by decide) fun a hF => ?_
  refine s_grd 34 hF rfl rfl rfl ?_
  refine s_val hF (x_fa0 fa24_2 rfl) (by decide) fun a hF => ?_
  refine s_grd 34 hF rfl rfl rfl ?_
  refine s_val hF (x_load rfl (m_load flat22 (m3.cell (j := 2) rfl))) (by decide) fun a hF => ?_
  refine s_grd 34 hF rfl rfl rfl ?_
  refine s_val hF (x_len Try.underlying22 rfl) (by decide) fun a hF => ?_
  refine s_grd 34 hF rfl rfl rfl ?_
  refine s_val hF (x_fa0 fa24_2 rfl) (by decide) fun a hF => ?_
  refine s_grd 34 hF rfl rfl rfl ?_
  refine s_val hF (x_load rfl (m_load flat22 (m4.cell (j := 2) rfl))) (by decide) fun a hF => ?_
  refine s_grd 34 hF rfl rfl rfl ?_
  refine s_val hF (x_len Try.underlying22 rfl) (by decide) fun a hF => ?_
  refine s_grd 34 hF rfl rfl rfl ?_
  refine s_val hF (x_neq (b := false) (decide_eq_false (by omega)) rfl rfl) (by decide) fun a hF => ?_
  refine s_val hF (x_pick (b := false) rfl rfl) (by decide) fun a hF => ?_
  refine s_end (hK6 _ _ ?_)
  refine wp_if hF rfl ?_
  refine wp_skip (hK5 _ _ ?_)
  refine wp_seq_k fun K7 hK7 => ?_
  refine wp_rs fun K8 hK8 => ?_
  refine s_val hF (x_fa0 fa24_2 rfl) (by decide) fun a hF => ?_
  refine s_val hF (x_load rfl (m_load flat22 (m3.cell (j := 2) rfl))) (by decide) fun a hF => ?_
  refine s_val hF (x_len Try.underlying22 rfl) (by decide) fun a hF => ?_
  refine s_val hF (x_move rfl) (by decide) fun a hF => ?_
  refine s_end (hK8 _ _ ?_)
  refine wp_block ?_
  refine wp_up 0 (fun i a w => Ktw g g w1 w ∧ Fs 63 a [(46, .int .i64 (i : Int)), (45, .int .i64 0)]) ⟨hK, hF.sub _ rfl⟩ ?_
  repeat clear hF
  clear hK
  rintro i a w hi ⟨hK, hF⟩ K' hK'
  refine wp_rs fun K9 hK9 => ?_
  refine s_val hF (x_lss (b := false) (decide_eq_false (by omega)) rfl rfl) (by decide) fun a hF => ?_
  refine s_end (hK9 _ _ ?_)
  refine wp_seq_k fun K10 hK10 => ?_
  refine wp_if hF rfl ?_
  refine wp_exit (hK7 _ _ ?_)
  refine wp_rs fun K11 hK11 => ?_
  refine s_val hF (x_assign rfl) (by decide) fun a hF => ?_
  refine s_end (hK11 _ _ ?_)
  refine wp_ret (res_slot hF rfl rfl ⟨_, rfl, rfl, hK⟩)

set_option maxRecDepth 100000 in
set_option maxHeartbeats 1600000 in
theorem Same18 (s t : SL) (x y : C3) (w0 : World) (hs : RS w0 s x) (ht : RS w0 t y) (hsz : s.size ≤ 5000) : Calls Try.prog 18 #[lv x, lv y] w0 fun e w' => e = .returned (.bool (decide (s = t))) ∧ Below w0.heap.size w0 w' := by
  have hB := Below.refl w0.heap.size w0
  have sB := hB.size
  refine calls_fs 9 [(0, lv x), (1, lv y)] Try.func18 rfl rfl rfl rfl rfl fun a hF => ?_
  refine wp_rs fun K1 hK1 => ?_
  refine s_box (lc x) hF (by decide) rfl rfl fun w2 b2 a eb2 m2 B3 zb2 hF => ?_
  have sB3 := B3.size
  have hB := hB.trans (B3.mono hB.size)
  refine s_box (lc y) hF (by decide) rfl rfl fun w4 b3 a eb3 m3 B5 zb3 hF => ?_
  have sB5 := B5.size
  have hB := hB.trans (B5.mono hB.size)
  have m2 := m2.old B5
  refine s_val hF (x_assign rfl) (by decide) fun a hF => ?_
  refine s_end (hK1 _ _ ?_)
  refine wp_rs fun K2 hK2 => ?_
  refine s_alloc1 hF (by decide) zero3 rfl fun w6 b5 a eb5 m5 B7 zb5 hF => ?_
  have sB7 := B7.size
  have hB := hB.trans (B7.mono hB.size)
  have m2 := m2.old B7
  have m3 := m3.old B7
  refine s_put hF rfl rfl flat3 m5 (by simp) rfl fun w8 m5 o9 => ?_
  have so9 := o9.size
  have hB := hB.trans (o9.below (by omega))
  have m2 := m2.only o9 (by omega)
  have m3 := m3.only o9 (by omega)
  refine s_end (hK2 _ _ ?_)
  refine wp_rs fun K3 hK3 => ?_
  refine s_val hF (x_ldW wide24 m2 rfl rfl) (by decide) fun a hF => ?_
  refine s_val hF (x_ldW wide24 m3 rfl rfl) (by decide) fun a hF => ?_
  refine s_call (R := fun u w' => (u = .bool (decide (s = t)) ∧ ∃ r' : Nat, r' ≤ 0 + s.size ∧ Blk w' b5 3 [.int .i64 (r' : Int)]) ∧ Ktw b5 b5 w8 w') hF [_, _, _] (enters_of Try.func40 (by kernel_rfl) rfl) rfl (by decide) (same40 w0 b5 (by omega) (s.size + 1) s t x y (by omega) hs ht 0 w8 (by omega) hB m5) ?_
  rintro _ w10 a ⟨⟨rfl, _⟩, k11⟩ hF
  have sk11 := k11.size
  have hB := k11.under hB (by omega)
  have m2 := m2.k2 k11 (by omega)
  have m3 := m3.k2 k11 (by omega)
  refine s_val hF (x_assign rfl) (by decide) fun a hF => ?_
  refine s_end (hK3 _ _ ?_)
  refine wp_ret (res_slot hF rfl rfl ⟨rfl, hB⟩)

set_option maxRecDepth 100000 in
set_option maxHeartbeats 1600000 in
theorem Same18z (w0 : World) : Calls Try.prog 18 #[lv (0, 0, .slice none 0 0), lv (0, 0, .slice none 0 0)] w0 fun e w' => e = .returned (.bool true) ∧ Below w0.heap.size w0 w' := by
  have hB := Below.refl w0.heap.size w0
  have sB := hB.size
  refine calls_fs 9 [(0, lv (0, 0, .slice none 0 0)), (1, lv (0, 0, .slice none 0 0))] Try.func18 rfl rfl rfl rfl rfl fun a hF => ?_
  refine wp_rs fun K1 hK1 => ?_
  refine s_box ([.int .i64 0, .int .i64 0, .slice none 0 0]) hF (by decide) rfl rfl fun w2 b2 a eb2 m2 B3 zb2 hF => ?_
  have sB3 := B3.size
  have hB := hB.trans (B3.mono hB.size)
  refine s_box ([.int .i64 0, .int .i64 0, .slice none 0 0]) hF (by decide) rfl rfl fun w4 b3 a eb3 m3 B5 zb3 hF => ?_
  have sB5 := B5.size
  have hB := hB.trans (B5.mono hB.size)
  have m2 := m2.old B5
  refine s_val hF (x_assign rfl) (by decide) fun a hF => ?_
  refine s_end (hK1 _ _ ?_)
  refine wp_rs fun K2 hK2 => ?_
  refine s_alloc1 hF (by decide) zero3 rfl fun w6 b5 a eb5 m5 B7 zb5 hF => ?_
  have sB7 := B7.size
  have hB := hB.trans (B7.mono hB.size)
  have m2 := m2.old B7
  have m3 := m3.old B7
  refine s_put hF rfl rfl flat3 m5 (by simp) rfl fun w8 m5 o9 => ?_
  have so9 := o9.size
  have hB := hB.trans (o9.below (by omega))
  have m2 := m2.only o9 (by omega)
  have m3 := m3.only o9 (by omega)
  refine s_end (hK2 _ _ ?_)
  refine wp_rs fun K3 hK3 => ?_
  refine s_val hF (x_ldW wide24 m2 rfl rfl) (by decide) fun a hF => ?_
  refine s_val hF (x_ldW wide24 m3 rfl rfl) (by decide) fun a hF => ?_
  refine s_call (R := fun u w' => (u = .bool true) ∧ Ktw b5 b5 w8 w') hF [_, _, _] (enters_of Try.func40 (by kernel_rfl) rfl) rfl (by decide) (same40z b5 w8 m5) ?_
  rintro _ w10 a ⟨rfl, k11⟩ hF
  have sk11 := k11.size
  have hB := k11.under hB (by omega)
  have m2 := m2.k2 k11 (by omega)
  have m3 := m3.k2 k11 (by omega)
  refine s_val hF (x_assign rfl) (by decide) fun a hF => ?_
  refine s_end (hK3 _ _ ?_)
  refine wp_ret (res_slot hF rfl rfl ⟨rfl, hB⟩)

set_option maxRecDepth 100000 in
set_option maxHeartbeats 1600000 in
theorem fits64 (w0 : World) (g : Nat) (hg : w0.heap.size ≤ g) : ∀ (N : Nat) (s : SL) (x : C3), s.size < N → RS w0 s x → ∀ (d r : Nat) (w1 : World), s.dep ≤ d → d ≤ 100000 → s.size ≤ r → r ≤ 100000000 → Below w0.heap.size w0 w1 → Blk w1 g 3 [.int .i64 (r : Int)] →
    Calls Try.prog 64 #[lv x, .int .i64 (d : Int), .pointer (some ⟨g, 0, none⟩)] w1 fun e w' => ∃ u, e = .returned u ∧ (u = .bool true ∧ Blk w' g 3 [.int .i64 ((r - s.size : Nat) : Int)]) ∧ Ktw g g w1 w' := by
  intro N
  induction N with
  | zero => intro s x h; omega
  | succ N ih =>
  rintro s ⟨k, n, v⟩ hN hS d r w1 hd hd1 hr hr1 hB mg
  obtain ⟨xs, hR, hl, hk⟩ := hS.kids
  simp only at hR
  obtain ⟨av, cv, rfl, _⟩ := hR.form
  have hle := s.kids_le
  have hK := Ktw.refl g g w1
  have sB := hB.size
  have hgl := mg.lt
  have hsz : 1 ≤ s.size ∧ 1 ≤ s.dep := by cases s <;> simp [SL.size, SL.dep]
  have hks := s.kids_sum
  refine calls_fs 36 [(0, .agg [.int .i64 k, .int .i64 n, .slice av xs.length cv].toArray), (1, .int .i64 (d : Int)), (2, .pointer (some ⟨g, 0, none⟩))] Try.func64 rfl rfl rfl rfl rfl fun a hF => ?_
  refine wp_rs fun K1 hK1 => ?_
  refine s_box ([.int .i64 k, .int .i64 n, .slice av xs.length cv]) hF (by decide) rfl rfl fun w2 b3 a eb3 m3 B3 zb3 hF => ?_
  have sB3 := B3.size
  have hB := hB.trans (B3.mono hB.size)
  have hK := hK.below B3
  have mg := mg.old B3
  refine s_val hF (x_assign rfl) (by decide) fun a hF => ?_
  refine s_end (hK1 _ _ ?_)
  refine wp_seq_k fun K2 hK2 => ?_
  refine wp_rs fun K3 hK3 => ?_
  refine s_val hF (x_move rfl) (by decide) fun a hF => ?_
  refine s_val hF (x_eql (b := false) (decide_eq_false (by omega)) rfl rfl) (by decide) fun a hF => ?_
  refine s_val hF (x_move rfl) (by decide) fun a hF => ?_
  refine s_grd 11 hF rfl rfl rfl ?_
  refine s_val hF (x_move rfl) (by decide) fun a hF => ?_
  refine s_grd 11 hF rfl rfl rfl ?_
  refine s_val hF (x_nil rfl) (by decide) fun a hF => ?_
  refine s_grd 11 hF rfl rfl rfl ?_
  refine s_val hF (x_load rfl (m_load flat3 (mg.cell (j := 0) rfl))) (by decide) fun a hF => ?_
  refine s_grd 11 hF rfl rfl rfl ?_
  refine s_val hF (x_eql (b := false) (decide_eq_false (by omega)) rfl rfl) (by decide) fun a hF => ?_
  refine s_val hF (x_pick (b := false) rfl rfl) (by decide) fun a hF => ?_
  refine s_end (hK3 _ _ ?_)
  refine wp_if hF rfl ?_
  refine wp_skip (hK2 _ _ ?_)
  refine wp_rs fun K4 hK4 => ?_
  refine s_val hF (x_move rfl) (by decide) fun a hF => ?_
  refine s_val hF (x_nil rfl) (by decide) fun a hF => ?_
  refine s_val hF (x_load rfl (m_load flat3 (mg.cell (j := 0) rfl))) (by decide) fun a hF => ?_
  refine s_val hF (x_subn (r - 1) (by omega) (by omega) rfl rfl) (by decide) fun a hF => ?_
  refine s_val hF (x_nil rfl) (by decide) fun a hF => ?_
  refine s_put hF rfl rfl flat3 mg (by simp) rfl fun w4 mg o5 => ?_
  have so5 := o5.size
  have hB := hB.trans (o5.below (by omega))
  have hK := hK.only o5 (by omega)
  have m3 := m3.only o5 (by omega)
  refine s_end (hK4 _ _ ?_)
  refine wp_seq_k fun K5 hK5 => ?_
  refine wp_rs fun K6 hK6 => ?_
  refine s_val hF (x_fa0 fa24_2 rfl) (by decide) fun a hF => ?_
  refine s_val hF (x_load rfl (m_load flat22 (m3.cell (j := 2) rfl))) (by decide) fun a hF => ?_
  refine s_val hF (x_len Try.underlying22 rfl) (by decide) fun a hF => ?_
  refine s_val hF (x_move rfl) (by decide) fun a hF => ?_
  refine s_end (hK6 _ _ ?_)
  refine wp_block ?_
  refine wp_up xs.length (fun i a w => Blk w g 3 [.int .i64 ((r - 1 - ((s.kids.take i).map SL.size).sum : Nat) : Int)] ∧ Below w0.heap.size w0 w ∧ Ktw g g w1 w ∧ Fs 36 a [(25, .int .i64 (i : Int)), (24, .int .i64 (xs.length : Int)), (23, .slice av xs.length cv), (1, .int .i64 (d : Int)), (2, .pointer (some ⟨g, 0, none⟩))]) ⟨by simpa using mg, hB, hK, hF.sub _ rfl⟩ ?_
  repeat clear hF
  clear hB hK mg
  rintro i a w hi ⟨mg, hB, hK, hF⟩ K' hK'
  have sB := hB.size
  have sK := hK.size
  have hgl := mg.lt
  have hsl := sum_le s.kids i
  refine wp_rs fun K7 hK7 => ?_
  refine s_val hF (x_lss rfl rfl rfl) (by decide) fun a hF => ?_
  refine s_end (hK7 _ _ ?_)
  refine wp_seq_k fun K8 hK8 => ?_
  refine wp_iff hF rfl (fun hc26 => ?_) (fun hc26 => ?_)
  · obtain ⟨b, off, c, y, hve, hy, hrow⟩ := rd_row3 hR (i := i) (by omega)
    cases hve
    obtain ⟨p, hp⟩ : ∃ p, s.kids[i]? = some p := ⟨_, List.getElem?_eq_getElem (by omega)⟩
    have hps := SL.kids_size hp
    have hpd := SL.kids_dep hp
    have hst := sum_take hp
    have hsl1 := sum_le s.kids (i + 1)
    have h1y := (hk i y p hy hp).one1
    refine wp_skip (hK8 _ _ ?_)
    refine wp_seq_k fun K9 hK9 => ?_
    refine wp_block ?_
    refine wp_rs fun K10 hK10 => ?_
    refine s_val hF (x_ixa rfl rfl (m_ixsK i Try.underlying22 el22.size rfl (by omega))) (by decide) fun a hF => ?_
    refine s_val hF (x_ldA wide24 (hrow _ hB) rfl rfl) (by decide) fun a hF => ?_
    refine s_alloc hF (by decide) zero24 fun w6 b8 a eb8 m8 B7 zb8 hF => ?_
    have sB7 := B7.size
    have hB := hB.trans (B7.mono hB.size)
    have hK := hK.below B7
    have mg := mg.old B7
    refine s_putW hF rfl rfl (size_wide wide24) m8 rfl (one_lc h1y) fun w8 m8 o9 => ?_
    have so9 := o9.size
    have hB := hB.trans (o9.below (by omega))
    have hK := hK.only o9 (by omega)
    have mg := mg.only o9 (by omega)
    refine s_end (hK10 _ _ ?_)
    refine wp_rs fun K11 hK11 => ?_
    refine s_val hF (x_ldW wide24 m8 rfl rfl) (by decide) fun a hF => ?_
    refine s_val hF (x_move rfl) (by decide) fun a hF => ?_
    refine s_val hF (x_subn (d - 1) (by omega) (by omega) rfl rfl) (by decide) fun a hF => ?_
    refine s_val hF (x_move rfl) (by decide) fun a hF => ?_
    refine s_call (R := fun u w' => (u = .bool true ∧ Blk w' g 3 [.int .i64 (((r - 1 - ((s.kids.take i).map SL.size).sum) - p.size : Nat) : Int)]) ∧ Ktw g g w8 w') hF [_, _, _] (enters_of Try.func64 (by kernel_rfl) rfl) rfl (by decide) (ih p y (by omega) (hk i y p hy hp) (d - 1) (r - 1 - ((s.kids.take i).map SL.size).sum) w8 (by omega) (by omega) (by omega) (by omega) hB mg) ?_
    rintro _ w10 a ⟨⟨rfl, mg⟩, k11⟩ hF
    have sk11 := k11.size
    have hB := k11.under hB (by omega)
    have hK := hK.trans k11 (by omega)
    have m8 := m8.k2 k11 (by omega)
    refine s_val hF (x_not rfl) (by decide) fun a hF => ?_
    refine s_end (hK11 _ _ ?_)
    refine wp_if hF rfl ?_
    refine wp_skip (hK9 _ _ ?_)
    refine wp_region_lit ?_
    refine s_val hF (x_addn (i + 1) (by omega) (by omega) rfl rfl) (by decide) fun a hF => ?_
    refine s_val hF (x_move rfl) (by decide) fun a hF => ?_
    refine s_end (hK' _ _ (by omega) ⟨by rw [hst, show r - 1 - (((s.kids.take i).map SL.size).sum + p.size) = r - 1 - ((s.kids.take i).map SL.size).sum - p.size by omega]; exact mg, hB, hK, hF.sub _ rfl⟩)
  · have hall : (s.kids.take i).map SL.size = s.kids.map SL.size := by rw [List.take_of_length_le (by omega)]
    refine wp_exit (hK5 _ _ ?_)
    refine wp_rs fun K12 hK12 => ?_
    refine s_val hF (x_assign rfl) (by decide) fun a hF => ?_
    refine s_end (hK12 _ _ ?_)
    refine wp_ret (res_slot hF rfl rfl ⟨_, rfl, ⟨rfl, by rw [hall] at mg; rw [show r - s.size = r - 1 - (s.kids.map SL.size).sum by omega]; exact mg⟩, hK⟩)
end Go.Proofs.Ytnnkggfhhkhnmaa
