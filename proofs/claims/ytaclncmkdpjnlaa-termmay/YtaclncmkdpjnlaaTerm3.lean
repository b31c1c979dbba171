/- measure. -/
import Derived.Test.YtaclncmkdpjnlaaTerm2
namespace Go.Proofs.Ytaclncmkdpjnlaa
open Go.RowKit Go.Shelf
set_option linter.unusedVariables false
set_option linter.unusedSimpArgs false

/-- The block of what is deferred. -/
def Dfr (w : World) (b : Nat) : Prop := w.heap[b]? = some (.deferred (some []))
section
variable {w w' : World} {b : Nat}
theorem Dfr.lt (h : Dfr w b) : b < w.heap.size := (Array.getElem?_eq_some_iff.1 h).1
theorem Dfr.old (h : Dfr w b) (hB : Below w.heap.size w w') : Dfr w' b := (hB.block b h.lt).trans h
theorem Dfr.only {k : Nat} (h : Dfr w b) (ho : Only k w w') (hb : b ≠ k) : Dfr w' b := (ho.block b hb).trans h
theorem Dfr.k2 {a c : Nat} (h : Dfr w b) (hK : Ktw a c w w') (hb : b ≠ a ∧ b ≠ c) : Dfr w' b := (hK.block b h.lt hb).trans h
theorem Dfr.mid {lo hi : Nat} (h : Dfr w b) (hM : Mid lo hi w w') (hb : b < lo ∨ hi ≤ b) : Dfr w' b := (hM.block b h.lt hb).trans h
end
/-- It is not too great. -/
def CT.ok (c : CT) : Prop := c.size ≤ 20000 ∧ c.dep ≤ 2000
instance (c : CT) : Decidable c.ok := inferInstanceAs (Decidable (_ ∧ _))
def CT.mN (c : CT) : Nat := if c.ok then c.size else 0
def CT.mD (c : CT) : Nat := if c.ok then c.dep else 0
def mxd (p : List (Int × CT)) : Int := p.foldl (fun d e => max d e.1) 0
theorem mxd_app (p : List (Int × CT)) (e : Int × CT) : mxd (p ++ [e]) = max (mxd p) e.1 := by simp [mxd]
mutual
theorem CT.nodes_len : ∀ (c : CT) (d : Int), (c.nodes d).length = c.size
  | .two k a b m, d => by simp [CT.nodes, CT.size, a.nodes_len, b.nodes_len]
  | .lt a b c m, d => by simp [CT.nodes, CT.size, a.nodes_len, b.nodes_len, c.nodes_len]; omega
  | .var .., d => rfl
  | .sort .., d => rfl
  | .cst .., d => rfl
  | .odd .., d => rfl
end
theorem CT.nodes_dep : ∀ (c : CT) (d : Int), (∀ e ∈ c.nodes d, d ≤ e.1 ∧ e.1 ≤ d + c.dep - 1) ∧ ∃ e ∈ c.nodes d, e.1 = d + c.dep - 1
  | .two k a b m, d => by
    obtain ⟨h1, e1, h2, h3⟩ := a.nodes_dep (d + 1)
    obtain ⟨h4, e2, h5, h6⟩ := b.nodes_dep (d + 1)
    have := a.dep_pos
    have := b.dep_pos
    refine ⟨?_, ?_⟩
    · intro e he
      simp only [CT.nodes, List.mem_cons, List.mem_append] at he
      simp only [CT.dep]
      rcases he with rfl | he | he
      · simp only; omega
      · have := h1 e he; omega
      · have := h4 e he; omega
    · simp only [CT.nodes, List.mem_cons, List.mem_append, CT.dep]
      rcases Nat.le_total a.dep b.dep with h | h
      · exact ⟨e2, .inr (.inr h5), by omega⟩
      · exact ⟨e1, .inr (.inl h2), by omega⟩
  | .lt a b c m, d => by
    obtain ⟨h1, e1, h2, h3⟩ := a.nodes_dep (d + 1)
    obtain ⟨h4, e2, h5, h6⟩ := b.nodes_dep (d + 1)
    obtain ⟨h7, e3, h8, h9⟩ := c.nodes_dep (d + 1)
    have := a.dep_pos
    have := b.dep_pos
    have := c.dep_pos
    refine ⟨?_, ?_⟩
    · intro e he
      simp only [CT.nodes, List.mem_cons, List.mem_append] at he
      simp only [CT.dep]
      rcases he with rfl | he | he | he
      · simp only; omega
      · have := h1 e he; omega
      · have := h4 e he; omega
      · have := h7 e he; omega
    · simp only [CT.nodes, List.mem_cons, List.mem_append, CT.dep]
      rcases (show (b.dep ≤ a.dep ∧ c.dep ≤ a.dep) ∨ (a.dep ≤ b.dep ∧ c.dep ≤ b.dep) ∨ (a.dep ≤ c.dep ∧ b.dep ≤ c.dep) by omega) with h | h | h
      · exact ⟨e1, .inr (.inl h2), by omega⟩
      · exact ⟨e2, .inr (.inr (.inl h5)), by omega⟩
      · exact ⟨e3, .inr (.inr (.inr h8)), by omega⟩
  | .var n m, d => ⟨by simp [CT.nodes, CT.dep], _, List.mem_singleton.2 rfl, by simp [CT.dep]⟩
  | .sort n m, d => ⟨by simp [CT.nodes, CT.dep], _, List.mem_singleton.2 rfl, by simp [CT.dep]⟩
  | .cst s n m, d => ⟨by simp [CT.nodes, CT.dep], _, List.mem_singleton.2 rfl, by simp [CT.dep]⟩
  | .odd n m, d => ⟨by simp [CT.nodes, CT.dep], _, List.mem_singleton.2 rfl, by simp [CT.dep]⟩
theorem mxd_ge : ∀ (p : List (Int × CT)), 0 ≤ mxd p ∧ ∀ e ∈ p, e.1 ≤ mxd p := by
  intro p
  suffices H : ∀ (p : List (Int × CT)) (z : Int), z ≤ p.foldl (fun d e => max d e.1) z ∧ ∀ e ∈ p, e.1 ≤ p.foldl (fun d e => max d e.1) z from H p 0
  intro p
  induction p with
  | nil => intro z; simp
  | cons u p ih =>
    intro z
    simp only [List.foldl_cons]
    obtain ⟨h1, h2⟩ := ih (max z u.1)
    refine ⟨by omega, ?_⟩
    intro e he
    rcases List.mem_cons.1 he with rfl | he
    · omega
    · exact h2 e he
theorem mxd_le : ∀ (p : List (Int × CT)) (M : Int), 0 ≤ M → (∀ e ∈ p, e.1 ≤ M) → mxd p ≤ M := by
  intro p M
  suffices H : ∀ (p : List (Int × CT)) (z : Int), z ≤ M → (∀ e ∈ p, e.1 ≤ M) → p.foldl (fun d e => max d e.1) z ≤ M from fun h0 h => H p 0 h0 h
  intro p
  induction p with
  | nil => intro z h _; exact h
  | cons u p ih =>
    intro z hz h
    simp only [List.foldl_cons]
    exact ih _ (by have := h u (by simp); omega) (fun e he => h e (by simp [he]))
theorem mxd_nodes (c : CT) : mxd (c.nodes 1) = c.dep := by
  obtain ⟨h1, e, h2, h3⟩ := c.nodes_dep 1
  have h4 := (mxd_ge (c.nodes 1)).2 e h2
  have h5 := mxd_le (c.nodes 1) c.dep (by omega) (fun e he => by have := (h1 e he).2; omega)
  omega
theorem prefix_ok {c : CT} {p : List (Int × CT)} (h : p <+: c.nodes 1) (hc : c.ok) : p.length ≤ 20000 ∧ mxd p ≤ 2000 := by
  obtain ⟨q, hq⟩ := h
  have h1 := congrArg List.length hq
  rw [c.nodes_len, List.length_append] at h1
  refine ⟨by have := hc.1; omega, mxd_le _ _ (by decide) fun e he => ?_⟩
  have h2 := ((c.nodes_dep 1).1 e (by rw [← hq]; exact List.mem_append_left _ he)).2
  have := hc.2
  omega
/-- The nodes, handed on. -/
theorem hands107 (w0 : World) (c : CT) (x : C8) (b1 hi : Nat) (hx : RC w0 (fun k => k < w0.heap.size) c x) (h1 : w0.heap.size ≤ b1) (h2 : b1 < hi) (w1 : World) (m1 : Blk w1 b1 27 (tc x)) (h3 : w0.heap.size ≤ hi) : Hands Try.prog 95 #[.pointer (some ⟨b1, 0, none⟩)] w0.heap.size hi w0 (fun W => Blk W b1 27 (tc x)) (fun e => e.1 ≤ 4611686018427387904) (encN w0) (c.nodes 1) :=
  fun L J Jx hJs hJxs hJb hY W hS hJ hWs hB => nodes107 w0 c x b1 hi hx h1 h2 w1 m1 h3 J Jx L hJs hJxs hJb hY W hJ hWs hB hS

set_option maxRecDepth 100000 in
set_option maxHeartbeats 1600000 in
theorem nodes71 (x : C8) (w0 : World) (h1x : ∀ u ∈ tc x, u.oneCell' = true) : Calls Try.prog 60 #[tv x] w0 fun e w' => ∃ v, e = .returned v ∧ (∃ b1, v = .func (.func 95) #[] #[.pointer (some ⟨b1, 0, none⟩)] ∧ w0.heap.size ≤ b1 ∧ Blk w' b1 27 (tc x)) ∧ Below w0.heap.size w0 w' := by
  have hB := Below.refl w0.heap.size w0
  have sB := hB.size
  refine calls_fs 4 [(0, tv x)] Try.func60 rfl rfl rfl rfl rfl fun a hF => ?_
  refine wp_rs fun K1 hK1 => ?_
  refine s_box (tc x) hF (by decide) rfl rfl fun w2 b1 a eb1 m1 B3 zb1 hF => ?_
  have sB3 := B3.size
  have hB := hB.trans (B3.mono hB.size)
  refine s_val hF (x_assign rfl) (by decide) fun a hF => ?_
  refine s_end (hK1 _ _ ?_)
  refine wp_rs fun K2 hK2 => ?_
  refine s_val hF (x_mkf [_] rfl) (by decide) fun a hF => ?_
  refine s_val hF (x_assign rfl) (by decide) fun a hF => ?_
  refine s_end (hK2 _ _ ?_)
  refine wp_ret (res_slot hF rfl rfl ⟨_, rfl, ⟨b1, rfl, by omega, m1⟩, hB⟩)

set_option maxRecDepth 100000 in
set_option maxHeartbeats 1600000 in
theorem measure62 (c : CT) (x : C8) (w0 : World) (hx : RC w0 (fun k => k < w0.heap.size) c x) : Calls Try.prog 51 #[tv x] w0 fun e w' => e = .returned (.tuple #[.agg [.int .i64 (c.mN : Int), .int .i64 (c.mD : Int)].toArray, .bool (decide c.ok)]) ∧ Below w0.heap.size w0 w' := by
  have hB := Below.refl w0.heap.size w0
  have sB := hB.size
  refine calls_fsM 24 [(0, tv x)] Try.func51 rfl rfl rfl rfl rfl fun a hF => ?_
  refine wp_rs fun K1 hK1 => ?_
  refine s_box (tc x) hF (by decide) rfl rfl fun w2 b1 a eb1 m1 B3 zb1 hF => ?_
  have sB3 := B3.size
  have hB := hB.trans (B3.mono hB.size)
  refine s_alloc hF (by decide) zero70 fun w4 b2 a eb2 m2 B5 zb2 hF => ?_
  have sB5 := B5.size
  have hB := hB.trans (B5.mono hB.size)
  have m1 := m1.old B5
  refine s_alloc1 hF (by decide) zero4 rfl fun w6 b3 a eb3 m3 B7 zb3 hF => ?_
  have sB7 := B7.size
  have hB := hB.trans (B7.mono hB.size)
  have m1 := m1.old B7
  have m2 := m2.old B7
  refine s_end (hK1 _ _ ?_)
  refine wp_rs fun K2 hK2 => ?_
  refine s_alloc hF (by decide) zero70 fun w8 b4 a eb4 m4 B9 zb4 hF => ?_
  have sB9 := B9.size
  have hB := hB.trans (B9.mono hB.size)
  have m1 := m1.old B9
  have m2 := m2.old B9
  have m3 := m3.old B9
  refine s_end (hK2 _ _ ?_)
  refine wp_seq_k fun K3 hK3 => ?_
  refine wp_rs fun K4 hK4 => ?_
  refine s_val hF (x_ldW wide27 m1 rfl rfl) (by decide) fun a hF => ?_
  refine s_callR (R := fun v w' => ∃ b1, v = .func (.func 95) #[] #[.pointer (some ⟨b1, 0, none⟩)] ∧ w8.heap.size ≤ b1 ∧ Blk w' b1 27 (tc x)) [_] hF (enters_of Try.func60 (by kernel_rfl) rfl) rfl (by decide) (nodes71 x w8 hx.one) ?_
  rintro v7 w10 a ⟨bx, hve, hbx, mx⟩ B11 hF
  have sB11 := B11.size
  have hB := hB.trans (B11.mono hB.size)
  have m1 := m1.old B11
  have m2 := m2.old B11
  have m3 := m3.old B11
  have m4 := m4.old B11
  subst hve
  refine s_end (hK4 _ _ ?_)
  refine wp_block ?_
  have sD := hB.size
  refine wp_range (w0 := w0) hF rfl (enters_of Try.func95 (by kernel_rfl) rfl) _ rfl hB (hands107 w0 c x bx _ hx (by omega) (by have := mx.lt; omega) _ mx (by omega)) (fun W' hW' => mx.old hW') (by decide) (fun e vs ⟨y, h, _⟩ => by rw [h]; rfl)
    (fun p W => p.length ≤ 20000 ∧ mxd p ≤ 2000 ∧ Blk W b4 67 [.int .i64 (p.length : Int), .int .i64 (mxd p)] ∧ Blk W b2 67 [.int .i64 0, .int .i64 0] ∧ Blk W b3 4 [.bool false])
    (fun c' p W => c' = .ret ∧ ¬ (p.length ≤ 20000 ∧ mxd p ≤ 2000) ∧ Blk W b2 67 [.int .i64 0, .int .i64 0] ∧ Blk W b3 4 [.bool false])
    (fun p W W' ⟨h1, h2, h3, h4, h5⟩ hW => ⟨h1, h2, h3.below hW (by omega), h4.below hW (by omega), h5.below hW (by omega)⟩) (fun c p W W' ⟨h1, h2, h4, h5⟩ hW => ⟨h1, h2, h4.below hW (by omega), h5.below hW (by omega)⟩) (fun p e W ⟨h1, h2, _⟩ => by have := mxd_app p e; omega) (⟨by simp, by simp [mxd], by simpa [mxd] using m4, m2, m3⟩) ?_ ?_ ?_
  · rintro L p e1 rest W a vs hL hq hv hI hWs hBr hF K hK
    obtain ⟨hl, hd, m4, m2, m3⟩ := hI
    obtain ⟨y, rfl, hy⟩ := hv
    have sBr := hBr.size
    have hlW : w10.heap.size + 1 < W.heap.size := by omega
    refine wpI_r (by repeat' first | exact rndPost.calm | exact false.calm | refine Calm.then ?_ _ | refine Calm.block ?_ _) rfl ?_
    refine s_val hF (x_assign rfl) (by decide) fun a hF => ?_
    refine s_end ?_
    refine hK _ _ (Mid.refl _ _ _) fun W3 hO3 => ?_
    have hM := Mid.refl w0.heap.size w10.heap.size W3
    have sO := hO3.size
    have m4 := m4.only hO3 (by omega)
    have m2 := m2.only hO3 (by omega)
    have m3 := m3.only hO3 (by omega)
    have hBr := hBr.trans (hO3.below (by omega))
    obtain ⟨hbd, _⟩ := (c.nodes_dep 1).1 e1 (by rw [hq]; simp)
    have hp0 := (mxd_ge p).1
    have hpl : (p ++ [e1]).length = p.length + 1 := by simp
    have hmx := mxd_app p e1
    refine wpIn_block ?_
    refine wpI_rs (by repeat' first | exact rndPost.calm | exact false.calm | refine Calm.then ?_ _ | refine Calm.block ?_ _) rfl fun K5 hK5 => ?_
    refine s_val hF (x_fa0 fa70_0 rfl) (by decide) fun a hF => ?_
    refine s_val hF (x_load rfl (m_load flat3 (m4.cell (j := 0) rfl))) (by decide) fun a hF => ?_
    refine s_val hF (x_add (by omega) (by omega) rfl rfl) (by decide) fun a hF => ?_
    refine s_val hF (x_fa0 fa70_0 rfl) (by decide) fun a hF => ?_
    refine s_put hF rfl rfl flat3 m4 (by first | (simp; done) | decide) rfl fun w12 m4 o13 => ?_
    have so13 := o13.size
    have hBr := hBr.trans (o13.below (by omega))
    have m2 := m2.only o13 (by omega)
    have m3 := m3.only o13 (by omega)
    have hM := hM.only o13 (by omega)
    refine s_end (hK5 _ _ ?_)
    refine wpI_rs (by repeat' first | exact rndPost.calm | exact false.calm | refine Calm.then ?_ _ | refine Calm.block ?_ _) rfl fun K6 hK6 => ?_
    refine s_val hF (x_fa0 fa70_1 rfl) (by decide) fun a hF => ?_
    refine s_val hF (x_load rfl (m_load flat3 (m4.cell (j := 1) rfl))) (by decide) fun a hF => ?_
    refine s_val hF (x_move rfl) (by decide) fun a hF => ?_
    refine s_val hF (x_imax rfl rfl) (by decide) fun a hF => ?_
    refine s_val hF (x_fa0 fa70_1 rfl) (by decide) fun a hF => ?_
    refine s_put hF rfl rfl flat3 m4 (by first | (simp; done) | decide) rfl fun w14 m4 o15 => ?_
    have so15 := o15.size
    have hBr := hBr.trans (o15.below (by omega))
    have m2 := m2.only o15 (by omega)
    have m3 := m3.only o15 (by omega)
    have hM := hM.only o15 (by omega)
    refine s_end (hK6 _ _ ?_)
    rcases (show (((p.length : Int) + 1 ≤ 20000 ∧ max (mxd p) e1.1 ≤ 2000) ∨ ¬ ((p.length : Int) + 1 ≤ 20000 ∧ max (mxd p) e1.1 ≤ 2000)) by omega) with hk | hk
    · have hin := decide_eq_true hk
      refine wpI_rs (by repeat' first | exact rndPost.calm | exact false.calm | refine Calm.then ?_ _ | refine Calm.block ?_ _) rfl fun K8 hK8 => ?_
      refine s_val hF (x_ldW wide70 m4 rfl rfl) (by decide) fun a hF => ?_
      refine s_callB [_] hF (enters_of Try.func93 (by kernel_rfl) rfl) rfl (by decide) ((isIn105 _ _ _).mono fun en W' h => ⟨by rw [h.1, hin], h.2⟩) fun w20 a B20 hF => ?_
      have sB20 := B20.size
      have hBr := hBr.trans (B20.mono hBr.size)
      have m4 := m4.old B20
      have m2 := m2.old B20
      have m3 := m3.old B20
      have hM := hM.old B20
      refine s_val hF (x_not rfl) (by decide) fun a hF => ?_
      refine s_end (hK8 _ _ ?_)
      refine wpI_if hF rfl ?_
      refine wpIn_skip ?_
      exact ⟨hM, by rw [hpl]; omega, by rw [hmx]; omega, by rw [hpl, hmx]; simpa using m4, m2, m3⟩
    · have hin := decide_eq_false hk
      refine wpI_rs (by repeat' first | exact rndPost.calm | exact false.calm | refine Calm.then ?_ _ | refine Calm.block ?_ _) rfl fun K9 hK9 => ?_
      refine s_val hF (x_ldW wide70 m4 rfl rfl) (by decide) fun a hF => ?_
      refine s_callB [_] hF (enters_of Try.func93 (by kernel_rfl) rfl) rfl (by decide) ((isIn105 _ _ _).mono fun en W' h => ⟨by rw [h.1, hin], h.2⟩) fun w20 a B20 hF => ?_
      have sB20 := B20.size
      have hBr := hBr.trans (B20.mono hBr.size)
      have m4 := m4.old B20
      have m2 := m2.old B20
      have m3 := m3.old B20
      have hM := hM.old B20
      refine s_val hF (x_not rfl) (by decide) fun a hF => ?_
      refine s_end (hK9 _ _ ?_)
      refine wpI_if hF rfl ?_
      refine wpI_rs (by repeat' first | exact rndPost.calm | exact false.calm | refine Calm.then ?_ _ | refine Calm.block ?_ _) rfl fun K10 hK10 => ?_
      refine s_val hF (x_build (vs := []) rfl (b70_ _)) (by decide) fun a hF => ?_
      refine s_putW hF rfl rfl (size_wide wide70) m2 rfl (oneII _ _) fun w18 m2 o19 => ?_
      have so19 := o19.size
      have hBr := hBr.trans (o19.below (by omega))
      have m4 := m4.only o19 (by omega)
      have m3 := m3.only o19 (by omega)
      have hM := hM.only o19 (by omega)
      refine s_put hF rfl rfl flat4 m3 (by first | (simp; done) | decide) rfl fun w20 m3 o21 => ?_
      have so21 := o21.size
      have hBr := hBr.trans (o21.below (by omega))
      have m4 := m4.only o21 (by omega)
      have m2 := m2.only o21 (by omega)
      have hM := hM.only o21 (by omega)
      refine s_end (hK10 _ _ ?_)
      refine wpIn_ret ⟨hM, rfl, by rw [hpl, hmx]; omega, m2, m3⟩
  · rintro a W hI hM hD hF
    obtain ⟨hl, hd, m4, m2, m3⟩ := hI
    have sM := hM.size
    have hB := hB.trans (hM.below (by omega))
    have hsz := c.nodes_len 1
    have hdp := mxd_nodes c
    have hok : c.ok := ⟨by omega, by omega⟩
    obtain ⟨bD, hbD⟩ : ∃ bD, bD = w10.heap.size := ⟨_, rfl⟩
    rw [← hbD] at hD hF
    have hD : Dfr W bD := hD
    rw [hsz, hdp] at m4
    refine hK3 _ _ ?_
    refine wp_rs fun K11 hK11 => ?_
    refine s_val hF (x_ldW wide70 m4 rfl rfl) (by decide) fun a hF => ?_
    refine s_putW hF rfl rfl (size_wide wide70) m2 rfl (oneII _ _) fun w24 m2 o25 => ?_
    have so25 := o25.size
    have hB := hB.trans (o25.below (by omega))
    have m4 := m4.only o25 (by omega)
    have m3 := m3.only o25 (by omega)
    have hD := hD.only o25 (by omega)
    refine s_put hF rfl rfl flat4 m3 (by first | (simp; done) | decide) rfl fun w26 m3 o27 => ?_
    have so27 := o27.size
    have hB := hB.trans (o27.below (by omega))
    have m4 := m4.only o27 (by omega)
    have m2 := m2.only o27 (by omega)
    have hD := hD.only o27 (by omega)
    refine s_end (hK11 _ _ ?_)
    refine wp_ret (resM hF hD fun w9 o9 => ⟨run_cell2 hF rfl rfl rfl (m_loadW (cs := [_, _]) wide70 (m2.only o9 (by omega))) (m_load flat4 ((m3.only o9 (by omega)).cell (j := 0) rfl)), by rw [decide_eq_true hok, show c.mN = c.size from if_pos hok, show c.mD = c.dep from if_pos hok], hB.trans (o9.below (by omega))⟩)
  · rintro a c p W hp hI hM hD hF
    obtain ⟨rfl, hno, m2, m3⟩ := hI
    have hB := hB.trans (hM.below (by omega))
    have hok : ¬ c.ok := fun h => hno (prefix_ok hp h)
    refine wp_ret (inb_ret (then_ret (resM hF hD fun w9 o9 => ⟨run_cell2 hF rfl rfl rfl (m_loadW (cs := [_, _]) wide70 (m2.only o9 (by omega))) (m_load flat4 ((m3.only o9 (by omega)).cell (j := 0) rfl)), by rw [decide_eq_false hok, show c.mN = 0 from if_neg hok, show c.mD = 0 from if_neg hok]; rfl, hB.trans (o9.below (by omega))⟩)))
end Go.Proofs.Ytaclncmkdpjnlaa
