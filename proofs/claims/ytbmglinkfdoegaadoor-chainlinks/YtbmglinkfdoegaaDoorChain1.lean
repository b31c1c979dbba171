/- chain.sum, Link, Leaf, Node; the reference's. -/
import Derived.Test.YtbmglinkfdoegaaDoorDigC
namespace Go.Proofs.YtbmglinkfdoegaaDoor
open Go.RowKit Go.Shelf
set_option linter.unusedVariables false
set_option linter.unusedSimpArgs false

theorem flatten_snoc (ls : List (List UInt8)) (i : Nat) (h : i < ls.length) : (ls.take (i + 1)).flatten = (ls.take i).flatten ++ ls.getD i [] := by
  rw [take_snoc ls i [] h, List.flatten_append]
  simp
theorem flatten_take_le (ls : List (List UInt8)) (i : Nat) : (ls.take i).flatten.length ≤ ls.flatten.length := by
  conv => rhs; rw [← List.take_append_drop i ls]
  rw [List.flatten_append, List.length_append]
  omega
set_option maxRecDepth 100000 in
set_option maxHeartbeats 800000 in
/-- The digest of a kind and, one behind the other, rows. -/
theorem sum23 (kd : UInt8) (ls : List (List UInt8)) (v : Value) (w0 : World) (hM : RM w0 v ls) (hT : Tab w0) (hn : ls.length ≤ 9223372036854775807) (hlen : ls.flatten.length < 2305843009213693950) :
    Calls Tryd.prog 23 #[encB kd, v] w0 fun e w' => e = .returned (dig (shaL kTab (kd :: ls.flatten))) ∧ Below w0.heap.size w0 w' := by
  obtain ⟨av, cv, rfl, _⟩ := hM.form
  have h0 := hT.lt
  have hB := Below.refl w0.heap.size w0
  have hsl : (shaL kTab (kd :: ls.flatten)).length = 32 := shaL_length _ _
  refine calls_fs 25 [(0, encB kd), (1, .slice av ls.length cv)] Tryd.func23 rfl rfl rfl rfl rfl fun a hF => ?_
  refine wp_rs fun K1 hK1 => ?_
  refine s_alloc hF (by decide) zero24 fun w2 b4 a eb4 m4 B3 zb4 hF => ?_
  have sB3 := B3.size
  have hB := hB.trans (B3.mono hB.size)
  refine s_end (hK1 _ _ ?_)
  refine wp_rs fun K2 hK2 => ?_
  refine s_callR (R := fun v w' => ∃ bh, v = .pointer (some ⟨bh, 0, none⟩) ∧ bh = w2.heap.size ∧ HR w' bh []) [] hF (enters_of Tryd.func31 (by kernel_rfl) rfl) rfl (by decide) ((new15 w2).mono fun e w' h => by obtain ⟨b, h1, h2, h3, h4⟩ := h; exact ⟨_, h1, ⟨b, rfl, h2, h3⟩, h4⟩) ?_
  rintro _ w4 a ⟨bh, rfl, ebh, hH⟩ B5 hF
  have sB5 := B5.size
  have hB := hB.trans (B5.mono hB.size)
  have m4 := m4.old B5
  have hHl := hH.lt
  refine s_val hF (x_assign rfl) (by decide) fun a hF => ?_
  refine s_end (hK2 _ _ ?_)
  refine wp_rs fun K3 hK3 => ?_
  refine s_val hF (x_move rfl) (by decide) fun a hF => ?_
  refine s_val hF (x_move rfl) (by decide) fun a hF => ?_
  refine s_lit [kd] hF (by decide) rfl Tryd.underlying25 (size_flat flat5) zero5 rfl (by decide) (by decide) fun w6 bl a el ml B7 zl hF => ?_
  have hH := hH.below B7
  have sB7 := B7.size
  have hB := hB.trans (B7.mono hB.size)
  have m4 := m4.old B7
  refine s_call2 (R := fun v w' => HR w' bh ([] ++ [kd]) ∧ Kp bh w6 w') hF (enters_of Tryd.func32 (by kernel_rfl) rfl) rfl rfl (by decide) ((write16 bh ([]) ([kd]) _ w6 hH (RB.blk (ex := bh) ml (by omega)) (hT.old hB) (by omega) (by simp)).mono fun e w' h => ⟨_, h.1, h.2⟩) ?_
  rintro _ w8 a ⟨hH, Kp9⟩ hF
  have sKp9 := Kp9.size
  have hB := Kp9.young hB (by omega)
  have m4 := Kp9.blk m4 (by omega)
  refine s_end (hK3 _ _ ?_)
  refine wp_seq_k fun K4 hK4 => ?_
  refine wp_rs fun K5 hK5 => ?_
  refine s_val hF (x_move rfl) (by decide) fun a hF => ?_
  refine s_val hF (x_len Tryd.underlying24 rfl) (by decide) fun a hF => ?_
  refine s_val hF (x_move rfl) (by decide) fun a hF => ?_
  refine s_end (hK5 _ _ ?_)
  refine wp_block ?_
  refine wp_up ls.length (fun i a w => HR w bh ([kd] ++ (ls.take i).flatten) ∧ Blk w b4 23 (z32.map encB) ∧ Below w0.heap.size w0 w ∧ Fs 25 a [(15, .int .i64 (i : Int)), (14, .int .i64 (ls.length : Int)), (13, .slice av ls.length cv), (5, .pointer (some ⟨bh, 0, none⟩)), (4, .pointer (some ⟨b4, 0, none⟩))]) ⟨by simpa using hH, m4, hB, hF.sub _ rfl⟩ ?_
  clear hF hH hB m4
  rintro i a w hi ⟨hH, m4, hB, hF⟩ K' hK'
  have hfl := flatten_take_le ls i
  have sB := hB.size
  refine wp_rs fun K6 hK6 => ?_
  refine s_val hF (x_lss rfl rfl rfl) (by decide) fun a hF => ?_
  refine s_end (hK6 _ _ ?_)
  refine wp_seq_k fun K7 hK7 => ?_
  refine wp_iff hF rfl (fun hc16 => ?_) (fun hc16 => ?_)
  · obtain ⟨b, off, c, u, hve, hrow⟩ := hM.row (i := i) (by omega)
    cases hve
    refine wp_skip (hK7 _ _ ?_)
    refine wp_seq_k fun K8 hK8 => ?_
    refine wp_block ?_
    refine wp_rs fun K9 hK9 => ?_
    refine s_val hF (x_ixa rfl rfl (m_ixs i Tryd.underlying24 el24.size rfl (by omega))) (by decide) fun a hF => ?_
    refine s_val hF (x_load rfl (m_load flat25 (hrow _ hB).1)) (by decide) fun a hF => ?_
    refine s_val hF (x_assign rfl) (by decide) fun a hF => ?_
    refine s_end (hK9 _ _ ?_)
    refine wp_region_lit ?_
    refine s_val hF (x_move rfl) (by decide) fun a hF => ?_
    refine s_val hF (x_move rfl) (by decide) fun a hF => ?_
    refine s_call2 (R := fun v w' => HR w' bh (([kd] ++ (ls.take i).flatten) ++ ls.getD i []) ∧ Kp bh w w') hF (enters_of Tryd.func32 (by kernel_rfl) rfl) rfl rfl (by decide) ((write16 bh (([kd] ++ (ls.take i).flatten)) (ls.getD i []) _ w hH ((hrow _ hB).2 bh (by omega)) (hT.old hB) (by omega) (by have := flatten_snoc ls i (by omega); have h2 := flatten_take_le ls (i + 1); rw [this, List.length_append] at h2; simp only [List.length_append, List.length_singleton]; omega)).mono fun e w' h => ⟨_, h.1, h.2⟩) ?_
    rintro _ w10 a ⟨hH, Kp11⟩ hF
    have sKp11 := Kp11.size
    have hB := Kp11.young hB (by omega)
    have m4 := Kp11.blk m4 (by omega)
    refine s_end (hK8 _ _ ?_)
    refine wp_region_lit ?_
    refine s_val hF (x_addn (i + 1) (by omega) (by omega) rfl rfl) (by decide) fun a hF => ?_
    refine s_val hF (x_move rfl) (by decide) fun a hF => ?_
    refine s_end (hK' _ _ (by omega) ⟨by rw [flatten_snoc ls i (by omega), ← List.append_assoc]; exact hH, m4, hB, hF.sub _ rfl⟩)
  · obtain rfl : i = ls.length := by omega
    rw [List.take_length] at hH
    have hH : HR w bh (kd :: ls.flatten) := hH
    refine wp_exit (hK4 _ _ ?_)
    refine wp_rs fun K10 hK10 => ?_
    refine s_val hF (x_move rfl) (by decide) fun a hF => ?_
    refine s_callB [.pointer (some ⟨bh, 0, none⟩)] hF (enters_of Tryd.func33 (by kernel_rfl) rfl) rfl (by decide) (sum18 bh (kd :: ls.flatten) w hH (hT.old hB) (by simp only [List.length_cons]; omega)) fun w12 a B13 hF => ?_
    have sB13 := B13.size
    have hB := hB.trans (B13.mono hB.size)
    have m4 := m4.old B13
    refine s_putD z32l hsl m4 hF rfl rfl fun w90 m4 o90 => ?_
    have so90 := o90.size
    have hB := hB.trans (o90.below (by omega))
    refine s_end (hK10 _ _ ?_)
    refine wp_ret (res_D hF rfl rfl hsl m4 ⟨rfl, hB⟩)

/-- A literal of slices of bytes. -/
theorem rm_lit {w : World} {b : Nat} {vs : List Value} {ls : List (List UInt8)} (m : Blk w b 25 vs) (hl : vs.length = ls.length) (h : ∀ (i : Nat) u l, vs[i]? = some u → ls[i]? = some l → RB w.heap.size w u l) : RM w (.slice (some ⟨b, 0, none⟩) ls.length ls.length) ls :=
  ⟨vs, Rd.blk m (by rw [hl, Nat.mul_one]), h⟩
theorem rm_two {w : World} {b : Nat} {u1 u2 : Value} {l1 l2 : List UInt8} (m : Blk w b 25 [u1, u2]) (h1 : RB w.heap.size w u1 l1) (h2 : RB w.heap.size w u2 l2) : RM w (.slice (some ⟨b, 0, none⟩) 2 2) [l1, l2] := by
  refine rm_lit (ls := [l1, l2]) m rfl fun i u l hu hl => ?_
  rcases i with _ | _ | i <;> simp at hu hl
  · rw [← hu, ← hl]; exact h1
  · rw [← hu, ← hl]; exact h2
theorem rm_one {w : World} {b : Nat} {u1 : Value} {l1 : List UInt8} (m : Blk w b 25 [u1]) (h1 : RB w.heap.size w u1 l1) : RM w (.slice (some ⟨b, 0, none⟩) 1 1) [l1] := by
  refine rm_lit (ls := [l1]) m rfl fun i u l hu hl => ?_
  rcases i with _ | i <;> simp at hu hl
  rw [← hu, ← hl]; exact h1
theorem rb_blk {w : World} {b t : Nat} {ds : List UInt8} (h : ds.length = 32) (m : Blk w b t (ds.map encB)) : RB w.heap.size w (.slice (some ⟨b, 0, none⟩) 32 32) ds := by
  have := RB.blk (ex := w.heap.size) m (by have := m.lt; omega)
  rwa [h] at this
theorem own_lit {w : World} {b base e k n : Nat} {cs : List Value} (m : Blk w b e cs) (hl : cs.length = n * k) (hb : base ≤ b) (hn : n ≤ maxLen) : w.ownsRow base e k (.slice (some ⟨b, 0, none⟩) n n) n cs := by
  refine ⟨hl, .inr ⟨b, n, cs.toArray, rfl, hb, m, Nat.le_refl _, hn, by simpa using hl, ?_⟩⟩
  rw [← hl]
  simp

set_option maxRecDepth 100000 in
theorem link7 (ds : List UInt8) (hds : ds.length = 32) (ex : Nat) (bs : List UInt8) (v : Value) (w0 : World) (hR : RB ex w0 v bs) (hlen : bs.length < 2305843009213693900) (hT : Tab w0) : Calls Tryd.prog 7 #[dig ds, v] w0 fun e w' => e = .returned (dig (linkL kTab ds bs)) ∧ Below w0.heap.size w0 w' := by
  have h0 := hT.lt
  have hB := Below.refl w0.heap.size w0
  have sB := hB.size
  obtain ⟨av, cv, rfl, _, _⟩ := hR.form
  refine calls_fs 9 [(0, dig ds), (1, .slice av bs.length cv)] Tryd.func7 rfl rfl rfl rfl rfl fun a hF => ?_
  refine wp_rs fun K1 hK1 => ?_
  refine s_box (ds.map encB) hF (by decide) rfl rfl fun w2 b2 a eb2 m2 B3 zb2 hF => ?_
  have sB3 := B3.size
  have hB := hB.trans (B3.mono hB.size)
  refine s_alloc hF (by decide) zero24 fun w4 b4 a eb4 m4 B5 zb4 hF => ?_
  have sB5 := B5.size
  have hB := hB.trans (B5.mono hB.size)
  have m2 := m2.old B5
  refine s_end (hK1 _ _ ?_)
  refine wp_rs fun K2 hK2 => ?_
  refine s_val hF (x_slice (vlo := none) (vhi := none) (vmx := none) rfl rfl rfl rfl (m_sliceAll under24 (size_flat flat5))) (by decide) fun a hF => ?_
  refine s_val hF (x_move rfl) (by decide) fun a hF => ?_
  refine s_litG [.slice (some ⟨b2, 0, none⟩) 32 32, .slice av bs.length cv] el24 hF (by decide) rfl (by simp [Value.cells]) rfl (by decide) (by decide) fun w6 bl a ebl ml B7 zbl hF => ?_
  have sB7 := B7.size
  have hB := hB.trans (B7.mono hB.size)
  have m2 := m2.old B7
  have m4 := m4.old B7
  refine s_callB [encB 0, .slice (some ⟨bl, 0, none⟩) 2 2] hF (enters_of Tryd.func23 (by kernel_rfl) rfl) rfl (by decide) (sum23 0 [ds, bs] _ w6 (rm_two ml (rb_blk hds m2) ((hR.below hB).young (Nat.le_refl _))) (hT.old hB) (by simp) (by simp; omega)) fun w8 a B9 hF => ?_
  have sB9 := B9.size
  have hB := hB.trans (B9.mono hB.size)
  have m2 := m2.old B9
  have m4 := m4.old B9
  have ml := ml.old B9
  refine s_putD z32l (shaL_length _ _) m4 hF rfl rfl fun w10 m4 o11 => ?_
  have so11 := o11.size
  have hB := hB.trans (o11.below (by omega))
  have m2 := m2.only o11 (by omega)
  have ml := ml.only o11 (by omega)
  refine s_end (hK2 _ _ ?_)
  refine wp_ret (res_D hF rfl rfl (shaL_length _ _) m4 ⟨by simp [linkL], hB⟩)

set_option maxRecDepth 100000 in
theorem leaf9 (ex : Nat) (bs : List UInt8) (v : Value) (w0 : World) (hR : RB ex w0 v bs) (hlen : bs.length < 2305843009213693900) (hT : Tab w0) : Calls Tryd.prog 9 #[v] w0 fun e w' => e = .returned (dig (leafL kTab bs)) ∧ Below w0.heap.size w0 w' := by
  have h0 := hT.lt
  have hB := Below.refl w0.heap.size w0
  have sB := hB.size
  obtain ⟨av, cv, rfl, _, _⟩ := hR.form
  refine calls_fs 6 [(0, .slice av bs.length cv)] Tryd.func9 rfl rfl rfl rfl rfl fun a hF => ?_
  refine wp_rs fun K1 hK1 => ?_
  refine s_alloc hF (by decide) zero24 fun w2 b4 a eb4 m4 B3 zb4 hF => ?_
  have sB3 := B3.size
  have hB := hB.trans (B3.mono hB.size)
  refine s_end (hK1 _ _ ?_)
  refine wp_rs fun K2 hK2 => ?_
  refine s_val hF (x_move rfl) (by decide) fun a hF => ?_
  refine s_litG [.slice av bs.length cv] el24 hF (by decide) rfl (by simp [Value.cells]) rfl (by decide) (by decide) fun w4 bl a ebl ml B5 zbl hF => ?_
  have sB5 := B5.size
  have hB := hB.trans (B5.mono hB.size)
  have m4 := m4.old B5
  refine s_callB [encB 1, .slice (some ⟨bl, 0, none⟩) 1 1] hF (enters_of Tryd.func23 (by kernel_rfl) rfl) rfl (by decide) (sum23 1 [bs] _ w4 (rm_one ml ((hR.below hB).young (Nat.le_refl _))) (hT.old hB) (by simp) (by simp; omega)) fun w6 a B7 hF => ?_
  have sB7 := B7.size
  have hB := hB.trans (B7.mono hB.size)
  have m4 := m4.old B7
  have ml := ml.old B7
  refine s_putD z32l (shaL_length _ _) m4 hF rfl rfl fun w8 m4 o9 => ?_
  have so9 := o9.size
  have hB := hB.trans (o9.below (by omega))
  have ml := ml.only o9 (by omega)
  refine s_end (hK2 _ _ ?_)
  refine wp_ret (res_D hF rfl rfl (shaL_length _ _) m4 ⟨by simp [leafL], hB⟩)

set_option maxRecDepth 100000 in
theorem node11 (d1 d2 : List UInt8) (h1 : d1.length = 32) (h2 : d2.length = 32) (w0 : World)  (hT : Tab w0) : Calls Tryd.prog 11 #[dig d1, dig d2] w0 fun e w' => e = .returned (dig (nodeL kTab d1 d2)) ∧ Below w0.heap.size w0 w' := by
  have h0 := hT.lt
  have hB := Below.refl w0.heap.size w0
  have sB := hB.size
  refine calls_fs 9 [(0, dig d1), (1, dig d2)] Tryd.func11 rfl rfl rfl rfl rfl fun a hF => ?_
  refine wp_rs fun K1 hK1 => ?_
  refine s_box (d1.map encB) hF (by decide) rfl rfl fun w2 b2 a eb2 m2 B3 zb2 hF => ?_
  have sB3 := B3.size
  have hB := hB.trans (B3.mono hB.size)
  refine s_box (d2.map encB) hF (by decide) rfl rfl fun w4 b3 a eb3 m3 B5 zb3 hF => ?_
  have sB5 := B5.size
  have hB := hB.trans (B5.mono hB.size)
  have m2 := m2.old B5
  refine s_alloc hF (by decide) zero24 fun w6 b4 a eb4 m4 B7 zb4 hF => ?_
  have sB7 := B7.size
  have hB := hB.trans (B7.mono hB.size)
  have m2 := m2.old B7
  have m3 := m3.old B7
  refine s_end (hK1 _ _ ?_)
  refine dk_seq (b4) (ops := regOps Tryd.f11 1) (N := 5) (by kernel_rfl) wide_orders (by kernel_rfl) fun w8 hw8 B9 hS K2 hK2 => ?_
  have zw8 : w8.heap.size = w6.heap.size := by rw [hw8]
  have sB9 := B9.size
  have hB := hB.trans (B9.mono hB.size)
  have m2 := m2.old B9
  have m3 := m3.old B9
  have m4 := m4.old B9
  have m2_d := m2
  have m3_d := m3
  have m4_d := m4
  have hB_d := hB
  refine d_val 0 5 (op := (Go.Op.slice 23 (Go.Operand.tmp 2) none none none)) hF hS (by kernel_rfl) (fun W hW => x_slice (vlo := none) (vhi := none) (vmx := none) rfl rfl rfl rfl (m_sliceAll under24 (size_flat flat5))) (by kernel_rfl) (by decide) fun a hF => ?_
  refine d_val 1 6 (op := (Go.Op.slice 23 (Go.Operand.tmp 3) none none none)) hF hS (by kernel_rfl) (fun W hW => x_slice (vlo := none) (vhi := none) (vmx := none) rfl rfl rfl rfl (m_sliceAll under24 (size_flat flat5))) (by kernel_rfl) (by decide) fun a hF => ?_
  refine d_one 2 (some 7) (Go.Op.buildSlice 24 2 #[(0, (Go.Operand.tmp 5)), (1, (Go.Operand.tmp 6))]) (by kernel_rfl) (by kernel_rfl) fun ty pos af => ?_
  refine s_litG [.slice (some ⟨b2, 0, none⟩) 32 32, .slice (some ⟨b3, 0, none⟩) 32 32] el24 hF (by decide) rfl (by simp [Value.cells]) rfl (by decide) (by decide) fun w10 bl a ebl ml B11 zbl hF => ?_
  have sB11 := B11.size
  have hB := hB.trans (B11.mono hB.size)
  have m2 := m2.old B11
  have m3 := m3.old B11
  have m4 := m4.old B11
  have hS := hS.below B11
  refine s_end ⟨hS, ?_⟩
  refine d_one 3 (some 8) (Go.Op.call (Go.Call.mk (Go.Callee.value (Go.Operand.func 23)) #[(Go.Operand.const (Go.Value.int Go.IntKind.u8 2)), (Go.Operand.tmp 7)] #[5, 24])) (by kernel_rfl) (by kernel_rfl) fun ty pos af => ?_
  refine s_callB [encB 2, .slice (some ⟨bl, 0, none⟩) 2 2] hF (enters_of Tryd.func23 (by kernel_rfl) rfl) rfl (by decide) (sum23 2 [d1, d2] _ w10 (rm_two ml (rb_blk h1 m2) (rb_blk h2 m3)) (hT.old hB) (by simp) (by simp; omega)) fun w12 a B13 hF => ?_
  have sB13 := B13.size
  have hB := hB.trans (B13.mono hB.size)
  have m2 := m2.old B13
  have m3 := m3.old B13
  have m4 := m4.old B13
  have ml := ml.old B13
  have hS := hS.below B13
  refine s_end ⟨hS, ?_⟩
  refine d_one 4 none (Go.Op.store 23 (Go.Operand.tmp 4) (Go.Operand.tmp 8)) (by kernel_rfl) (by kernel_rfl) fun ty pos af => ?_
  refine s_putD z32l (shaL_length _ _) m4 hF rfl rfl fun w14 m4 o15 => ?_
  have so15 := o15.size
  have hB := hB.trans (o15.below (by omega))
  have m2 := m2.only o15 (by omega)
  have m3 := m3.only o15 (by omega)
  have ml := ml.only o15 (by omega)
  have hS := hS.only o15 (by omega)
  refine s_end ⟨hS, ?_⟩
  refine d_end (by kernel_rfl) (hK2 _ _ ?_)
  refine wp_ret (res_D hF rfl rfl (shaL_length _ _) m4 ⟨by simp [nodeL], hB⟩)

/-- Bytes that a call owns, from the block base on; where they lie they lie apart from the block r. -/
def OwB (base r : Nat) (w : World) (v : Value) (bs : List UInt8) : Prop := w.ownsRow base 5 1 v bs.length (bs.map encB) ∧ (∀ k, v.ownBlock = some k → r < k)
theorem OwB.rb {base r : Nat} {w : World} {v : Value} {bs : List UInt8} (h : OwB base r w v bs) : RB w.heap.size w v bs := (Rd.own h.1).rb (fun e => by have := (h.1.lt _ e).2; omega)
theorem OwB.lit {base r : Nat} {w : World} {b : Nat} {bs : List UInt8} (m : Blk w b 5 (bs.map encB)) (hb : base ≤ b) (hr : r < b) (hn : bs.length ≤ maxLen) : OwB base r w (.slice (some ⟨b, 0, none⟩) bs.length bs.length) bs :=
  ⟨own_lit m (by simp) hb hn, fun k hk => by cases hk; exact hr⟩
theorem OwB.below {base r : Nat} {w w' : World} {v : Value} {bs : List UInt8} (h : OwB base r w v bs) (hB : Below w.heap.size w w') : OwB base r w' v bs := ⟨own_below h.1 hB, h.2⟩
/-- An append of bytes to such ones. -/
theorem s_appB {n d : Nat} {l : List (Nat × Value)} {w : World} {a : Act} {ops : Array Oper} {Q : Exit → Act → World → Prop} {rest : List Oper} {ty : TypeId} {pos : String} {af : Array Edge} {x y : Operand} {v u : Value} {base r ex : Nat} {xs ys : List UInt8} (hF : Fs n a l) (hd : d < n) (hx : ov l x = some v) (hy : ov l y = some u) (hO : OwB base r w v xs) (hR : RB ex w u ys) (hlen : xs.length + ys.length ≤ 140737488355328) (hb : base ≤ w.heap.size) (hr : r < w.heap.size)
    (h : ∀ v' w' a', OwB base r w' v' (xs ++ ys) → Kq w.heap.size w w' ∨ (∃ c, v.ownBlock = some c ∧ Kq c w w') → (∀ k, k < w.heap.size → k ≤ r → w'.heap[k]? = w.heap[k]?) → w.heap.size ≤ w'.heap.size → Below base w w' → Fs n a' ((d, v') :: l) → wpList Tryd.prog ops Q rest a' w') :
    wpList Tryd.prog ops Q (⟨some d, .call { callee := .builtin .append, args := #[x, y], argTypes := #[25, 25] }, ty, pos, af, none⟩ :: rest) a w := by
  refine s_appG el25 hF hd hx hy hO.1 hR.rd (oneB _) (by omega) (by unfold maxLen; omega) hb fun v' w' a' hO' g hw hF' => ?_
  refine h v' w' a' ⟨by rw [List.length_append, List.map_append]; exact hO', fun k hk => ?_⟩ ?_ (fun k hk hkr => g.block k hk (fun e => by have := hO.2 k e.symm; omega)) g.size (grown_below g hb (fun k hk => (hO.1.lt k hk).1)) hF'
  · rcases hw k hk with h1 | h1
    · exact hO.2 k h1
    · omega
  · cases hv : v.ownBlock with
    | none => exact .inl ⟨g.os, g.tape, g.output, g.size, fun k hk hb => g.block k hk (by rw [hv]; simp)⟩
    | some c => exact .inr ⟨c, rfl, ⟨g.os, g.tape, g.output, g.size, fun k hk hb => g.block k hk (by rw [hv]; simpa using hb)⟩⟩

set_option maxRecDepth 100000 in
theorem rlink8 (ds : List UInt8) (hds : ds.length = 32) (ex : Nat) (bs : List UInt8) (v : Value) (w0 : World) (hR : RB ex w0 v bs) (hlen : bs.length + 256 ≤ 140737488355328) : Calls Tryd.prog 8 #[dig ds, v] w0 fun e w' => e = .returned (dig (linkL kTab ds bs)) ∧ Below w0.heap.size w0 w' := by
  have hB := Below.refl w0.heap.size w0
  have sB := hB.size
  obtain ⟨av, cv, rfl, _, _⟩ := hR.form
  refine calls_fs 11 [(0, dig ds), (1, .slice av bs.length cv)] Tryd.func8 rfl rfl rfl rfl rfl fun a hF => ?_
  refine wp_rs fun K1 hK1 => ?_
  refine s_box (ds.map encB) hF (by decide) rfl rfl fun w2 b2 a eb2 m2 B3 zb2 hF => ?_
  have sB3 := B3.size
  have hB := hB.trans (B3.mono hB.size)
  refine s_alloc hF (by decide) zero24 fun w4 b4 a eb4 m4 B5 zb4 hF => ?_
  have sB5 := B5.size
  have hB := hB.trans (B5.mono hB.size)
  have m2 := m2.old B5
  refine s_end (hK1 _ _ ?_)
  refine wp_rs fun K2 hK2 => ?_
  refine s_lit [0] hF (by decide) rfl Tryd.underlying25 (size_flat flat5) zero5 rfl (by decide) (by decide) fun w6 bt a ebt mt B7 zbt hF => ?_
  have hO := OwB.lit (base := w0.heap.size) (r := b4) mt (by omega) (by omega) (by decide)
  have sB7 := B7.size
  have hB := hB.trans (B7.mono hB.size)
  have m2 := m2.old B7
  have m4 := m4.old B7
  refine s_val hF (x_slice (vlo := none) (vhi := none) (vmx := none) rfl rfl rfl rfl (m_sliceAll under24 (size_flat flat5))) (by decide) fun a hF => ?_
  refine s_appB hF (by decide) rfl rfl hO (rb_blk hds m2) (by simp [hds]) (by omega) (by omega) fun vw8 w8 a hO _ kpG9 sG9 gG9 hF => ?_
  have hB := hB.trans gG9
  have m2 : Blk w8 _ _ _ := (kpG9 b2 m2.lt (by omega)).trans m2
  have m4 : Blk w8 _ _ _ := (kpG9 b4 m4.lt (by omega)).trans m4
  refine s_val hF (x_move rfl) (by decide) fun a hF => ?_
  refine s_appB hF (by decide) rfl rfl hO (hR.below hB) (by simp [hds]; omega) (by omega) (by omega) fun vw10 w10 a hO _ kpG11 sG11 gG11 hF => ?_
  have hB := hB.trans gG11
  have m2 : Blk w10 _ _ _ := (kpG11 b2 m2.lt (by omega)).trans m2
  have m4 : Blk w10 _ _ _ := (kpG11 b4 m4.lt (by omega)).trans m4
  refine s_callB [_] hF (enters_of Tryd.func24 (by kernel_rfl) rfl) rfl (by decide) (rsum11 _ (([0] ++ ds) ++ bs) _ w10 hO.rb (by simp; omega)) fun w12 a B13 hF => ?_
  have sB13 := B13.size
  have hB := hB.trans (B13.mono hB.size)
  have m2 := m2.old B13
  have m4 := m4.old B13
  refine s_putD z32l (shaL_length _ _) m4 hF rfl rfl fun w14 m4 o15 => ?_
  have so15 := o15.size
  have hB := hB.trans (o15.below (by omega))
  have m2 := m2.only o15 (by omega)
  refine s_end (hK2 _ _ ?_)
  refine wp_ret (res_D hF rfl rfl (shaL_length _ _) m4 ⟨by simp [linkL], hB⟩)

set_option maxRecDepth 100000 in
theorem rleaf10 (ex : Nat) (bs : List UInt8) (v : Value) (w0 : World) (hR : RB ex w0 v bs) (hlen : bs.length + 256 ≤ 140737488355328) : Calls Tryd.prog 10 #[v] w0 fun e w' => e = .returned (dig (leafL kTab bs)) ∧ Below w0.heap.size w0 w' := by
  have hB := Below.refl w0.heap.size w0
  have sB := hB.size
  obtain ⟨av, cv, rfl, _, _⟩ := hR.form
  refine calls_fs 7 [(0, .slice av bs.length cv)] Tryd.func10 rfl rfl rfl rfl rfl fun a hF => ?_
  refine wp_rs fun K1 hK1 => ?_
  refine s_alloc hF (by decide) zero24 fun w2 b4 a eb4 m4 B3 zb4 hF => ?_
  have sB3 := B3.size
  have hB := hB.trans (B3.mono hB.size)
  refine s_end (hK1 _ _ ?_)
  refine wp_rs fun K2 hK2 => ?_
  refine s_lit [1] hF (by decide) rfl Tryd.underlying25 (size_flat flat5) zero5 rfl (by decide) (by decide) fun w4 bt a ebt mt B5 zbt hF => ?_
  have hO := OwB.lit (base := w0.heap.size) (r := b4) mt (by omega) (by omega) (by decide)
  have sB5 := B5.size
  have hB := hB.trans (B5.mono hB.size)
  have m4 := m4.old B5
  refine s_val hF (x_move rfl) (by decide) fun a hF => ?_
  refine s_appB hF (by decide) rfl rfl hO (hR.below hB) (by simp; omega) (by omega) (by omega) fun vw6 w6 a hO _ kpG7 sG7 gG7 hF => ?_
  have hB := hB.trans gG7
  have m4 : Blk w6 _ _ _ := (kpG7 b4 m4.lt (by omega)).trans m4
  refine s_callB [_] hF (enters_of Tryd.func24 (by kernel_rfl) rfl) rfl (by decide) (rsum11 _ ([1] ++ bs) _ w6 hO.rb (by simp; omega)) fun w8 a B9 hF => ?_
  have sB9 := B9.size
  have hB := hB.trans (B9.mono hB.size)
  have m4 := m4.old B9
  refine s_putD z32l (shaL_length _ _) m4 hF rfl rfl fun w10 m4 o11 => ?_
  have so11 := o11.size
  have hB := hB.trans (o11.below (by omega))
  refine s_end (hK2 _ _ ?_)
  refine wp_ret (res_D hF rfl rfl (shaL_length _ _) m4 ⟨by simp [leafL], hB⟩)

set_option maxRecDepth 100000 in
theorem rnode12 (d1 d2 : List UInt8) (h1 : d1.length = 32) (h2 : d2.length = 32) (w0 : World)  : Calls Tryd.prog 12 #[dig d1, dig d2] w0 fun e w' => e = .returned (dig (nodeL kTab d1 d2)) ∧ Below w0.heap.size w0 w' := by
  have hB := Below.refl w0.heap.size w0
  have sB := hB.size
  refine calls_fs 11 [(0, dig d1), (1, dig d2)] Tryd.func12 rfl rfl rfl rfl rfl fun a hF => ?_
  refine wp_rs fun K1 hK1 => ?_
  refine s_box (d1.map encB) hF (by decide) rfl rfl fun w2 b2 a eb2 m2 B3 zb2 hF => ?_
  have sB3 := B3.size
  have hB := hB.trans (B3.mono hB.size)
  refine s_box (d2.map encB) hF (by decide) rfl rfl fun w4 b3 a eb3 m3 B5 zb3 hF => ?_
  have sB5 := B5.size
  have hB := hB.trans (B5.mono hB.size)
  have m2 := m2.old B5
  refine s_alloc hF (by decide) zero24 fun w6 b4 a eb4 m4 B7 zb4 hF => ?_
  have sB7 := B7.size
  have hB := hB.trans (B7.mono hB.size)
  have m2 := m2.old B7
  have m3 := m3.old B7
  refine s_end (hK1 _ _ ?_)
  refine dk_seq (b4) (ops := regOps Tryd.f12 1) (N := 7) (by kernel_rfl) wide_orders (by kernel_rfl) fun w8 hw8 B9 hS K2 hK2 => ?_
  have zw8 : w8.heap.size = w6.heap.size := by rw [hw8]
  have sB9 := B9.size
  have hB := hB.trans (B9.mono hB.size)
  have m2 := m2.old B9
  have m3 := m3.old B9
  have m4 := m4.old B9
  have m2_d := m2
  have m3_d := m3
  have m4_d := m4
  have hB_d := hB
  refine d_val 1 6 (op := (Go.Op.slice 23 (Go.Operand.tmp 2) none none none)) hF hS (by kernel_rfl) (fun W hW => x_slice (vlo := none) (vhi := none) (vmx := none) rfl rfl rfl rfl (m_sliceAll under24 (size_flat flat5))) (by kernel_rfl) (by decide) fun a hF => ?_
  refine d_val 3 8 (op := (Go.Op.slice 23 (Go.Operand.tmp 3) none none none)) hF hS (by kernel_rfl) (fun W hW => x_slice (vlo := none) (vhi := none) (vmx := none) rfl rfl rfl rfl (m_sliceAll under24 (size_flat flat5))) (by kernel_rfl) (by decide) fun a hF => ?_
  refine d_one 0 (some 5) (Go.Op.buildSlice 25 1 #[(0, (Go.Operand.const (Go.Value.int Go.IntKind.u8 2)))]) (by kernel_rfl) (by kernel_rfl) fun ty pos af => ?_
  refine s_lit [2] hF (by decide) rfl Tryd.underlying25 (size_flat flat5) zero5 rfl (by decide) (by decide) fun w10 bt a ebt mt B11 zbt hF => ?_
  have hO := OwB.lit (base := w0.heap.size) (r := b4) mt (by omega) (by omega) (by decide)
  have sB11 := B11.size
  have hB := hB.trans (B11.mono hB.size)
  have m2 := m2.old B11
  have m3 := m3.old B11
  have m4 := m4.old B11
  have hS := hS.below B11
  refine s_end ⟨hS, ?_⟩
  refine d_one 2 (some 7) (Go.Op.call (Go.Call.mk (Go.Callee.builtin Go.Builtin.append) #[(Go.Operand.tmp 5), (Go.Operand.tmp 6)] #[25, 25])) (by kernel_rfl) (by kernel_rfl) fun ty pos af => ?_
  refine s_appB hF (by decide) rfl rfl hO (rb_blk h1 m2) (by simp [h1]) (by omega) (by omega) fun vw12 w12 a hO _ kpG13 sG13 gG13 hF => ?_
  have hB := hB.trans gG13
  have m2 : Blk w12 _ _ _ := (kpG13 b2 m2.lt (by omega)).trans m2
  have m3 : Blk w12 _ _ _ := (kpG13 b3 m3.lt (by omega)).trans m3
  have m4 : Blk w12 _ _ _ := (kpG13 b4 m4.lt (by omega)).trans m4
  have hS : Kq b4 w8 w12 := ⟨gG13.os.trans hS.os, gG13.tape.trans hS.tape, gG13.output.trans hS.output, Nat.le_trans hS.size gG13.size, fun k hk hb => (kpG13 k (Nat.lt_of_lt_of_le hk hS.size) (by omega)).trans (hS.block k hk hb)⟩
  refine s_end ⟨hS, ?_⟩
  refine d_one 4 (some 9) (Go.Op.call (Go.Call.mk (Go.Callee.builtin Go.Builtin.append) #[(Go.Operand.tmp 7), (Go.Operand.tmp 8)] #[25, 25])) (by kernel_rfl) (by kernel_rfl) fun ty pos af => ?_
  refine s_appB hF (by decide) rfl rfl hO (rb_blk h2 m3) (by simp [h1, h2]) (by omega) (by omega) fun vw14 w14 a hO _ kpG15 sG15 gG15 hF => ?_
  have hB := hB.trans gG15
  have m2 : Blk w14 _ _ _ := (kpG15 b2 m2.lt (by omega)).trans m2
  have m3 : Blk w14 _ _ _ := (kpG15 b3 m3.lt (by omega)).trans m3
  have m4 : Blk w14 _ _ _ := (kpG15 b4 m4.lt (by omega)).trans m4
  have hS : Kq b4 w8 w14 := ⟨gG15.os.trans hS.os, gG15.tape.trans hS.tape, gG15.output.trans hS.output, Nat.le_trans hS.size gG15.size, fun k hk hb => (kpG15 k (Nat.lt_of_lt_of_le hk hS.size) (by omega)).trans (hS.block k hk hb)⟩
  refine s_end ⟨hS, ?_⟩
  refine d_one 5 (some 10) (Go.Op.call (Go.Call.mk (Go.Callee.value (Go.Operand.func 24)) #[(Go.Operand.tmp 9)] #[25])) (by kernel_rfl) (by kernel_rfl) fun ty pos af => ?_
  refine s_callB [_] hF (enters_of Tryd.func24 (by kernel_rfl) rfl) rfl (by decide) (rsum11 _ (([2] ++ d1) ++ d2) _ w14 hO.rb (by simp; omega)) fun w16 a B17 hF => ?_
  have sB17 := B17.size
  have hB := hB.trans (B17.mono hB.size)
  have m2 := m2.old B17
  have m3 := m3.old B17
  have m4 := m4.old B17
  have hS := hS.below B17
  refine s_end ⟨hS, ?_⟩
  refine d_one 6 none (Go.Op.store 23 (Go.Operand.tmp 4) (Go.Operand.tmp 10)) (by kernel_rfl) (by kernel_rfl) fun ty pos af => ?_
  refine s_putD z32l (shaL_length _ _) m4 hF rfl rfl fun w18 m4 o19 => ?_
  have so19 := o19.size
  have hB := hB.trans (o19.below (by omega))
  have m2 := m2.only o19 (by omega)
  have m3 := m3.only o19 (by omega)
  have hS := hS.only o19 (by omega)
  refine s_end ⟨hS, ?_⟩
  refine d_end (by kernel_rfl) (hK2 _ _ ?_)
  refine wp_ret (res_D hF rfl rfl (shaL_length _ _) m4 ⟨by simp [nodeL], hB⟩)
end Go.Proofs.YtbmglinkfdoegaaDoor
