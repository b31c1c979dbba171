/- sig.keyBytes, Sign, Valid; the reference's; awake; SigSigns. -/
import Derived.Test.YtefpenjcgplamaaDoorDigS
namespace Go.Proofs.YtefpenjcgplamaaDoor
open Go.RowKit Go.Shelf
set_option linter.unusedVariables false
set_option linter.unusedSimpArgs false

/-- The 64 bits of a number. -/
def kU (z : Int) : UInt64 := UInt64.ofNat (z % 18446744073709551616).toNat
theorem x_z2d {P : Program} {n : Nat} {l : List (Nat × Value)} {w : World} {s d : TypeId} {ds : TypeDesc} {z : Int} {x : Operand} (hs : P.underlying s = some ds) (hd : P.underlying d = some (.int .u64)) (hx : ov l x = some (.int .i64 z)) : Runs P n l w (.convert s d x) (encD (kU z)) :=
  x_conv hx (by
    rw [run_conv_int hs hd, wrap_u64]
    unfold encD kU
    rw [UInt64.toNat_ofNat']
    congr 2
    omega)
theorem x_subz {P : Program} {n : Nat} {l : List (Nat × Value)} {w : World} {t t' : TypeId} {x y : Operand} {p q : Int} (r : Int) (h : p - q = r) (h1 : -9223372036854775808 ≤ r) (h2 : r < 9223372036854775808) (hx : ov l x = some (.int .i64 p)) (hy : ov l y = some (.int .i64 q)) : Runs P n l w (.binOp .sub t x y t') (.int .i64 r) := by
  subst h
  exact x_sub h1 h2 hx hy
def signS (k : Int) (bs : List UInt8) : Sg := (k, shaL kTab (4 :: (tl (kU k) 8 ++ bs)))
theorem signS_good (k : Int) (bs : List UInt8) : goodS (signS k bs) := shaL_length _ _
theorem key_set (c : UInt64) (i : Nat) (h : i < 8) : (List.replicate (8 - i) (0 : UInt8) ++ tl c i).set (7 - i) (c >>> UInt64.ofNat (8 * i)).toUInt8 = List.replicate (8 - (i + 1)) 0 ++ tl c (i + 1) := by
  obtain ⟨j, hj⟩ : ∃ j, 8 - i = j + 1 := ⟨7 - i, by omega⟩
  rw [hj, show 7 - i = j by omega, show 8 - (i + 1) = j by omega, List.set_append_left _ _ (by simp), List.replicate_succ', List.set_append_right _ _ (by simp)]
  simp [tl]
set_option maxRecDepth 100000 in
set_option maxHeartbeats 800000 in
/-- A key's eight bytes. -/
theorem keyBytes19 (k : Int) (w0 : World) : Calls Tryd.prog 19 #[.int .i64 k] w0 fun e w' => ∃ v, e = .returned v ∧ (∃ b, v = .slice (some ⟨b, 0, none⟩) 8 8 ∧ b = w0.heap.size ∧ Blk w' b 5 ((tl (kU k) 8).map encB)) ∧ Below w0.heap.size w0 w' := by
  obtain ⟨i5, hi5, hz, hs, hb⟩ := info5
  have hB := Below.refl w0.heap.size w0
  refine calls_fs 23 [(0, .int .i64 k)] Tryd.func19 rfl rfl rfl rfl rfl fun a hF => ?_
  refine wp_rs fun K1 hK1 => ?_
  refine s_val hF (x_assign rfl) (by decide) fun a hF => ?_
  refine s_end (hK1 _ _ ?_)
  refine wp_rs fun K2 hK2 => ?_
  refine s_make 8 hF (by decide) rfl rfl Tryd.underlying22 hi5 hz hs rfl (by rw [hb]; omega) (by omega) rfl rfl fun w2 bb a ebb mb B3 zbb hF => ?_
  have sB3 := B3.size
  have hB := hB.trans (B3.mono hB.size)
  refine s_val hF (x_assign rfl) (by decide) fun a hF => ?_
  refine s_end (hK2 _ _ ?_)
  refine wp_seq_k fun K3 hK3 => ?_
  refine wp_rs fun K4 hK4 => ?_
  refine s_val hF (x_move rfl) (by decide) fun a hF => ?_
  refine s_val hF (x_len Tryd.underlying22 rfl) (by decide) fun a hF => ?_
  refine s_val hF (x_move rfl) (by decide) fun a hF => ?_
  refine s_end (hK4 _ _ ?_)
  refine wp_block ?_
  have mb : Blk w2 bb 5 ((List.replicate (8 - 0) (0 : UInt8) ++ tl (kU k) 0).map encB) := by simpa [tl] using mb
  refine wp_up 8 (fun i a w => Blk w bb 5 ((List.replicate (8 - i) (0 : UInt8) ++ tl (kU k) i).map encB) ∧ Below w0.heap.size w0 w ∧ Fs 23 a [(8, .int .i64 (i : Int)), (7, .int .i64 (8 : Nat)), (3, .slice (some ⟨bb, 0, none⟩) 8 8), (0, .int .i64 k)]) ⟨mb, hB, hF.sub _ rfl⟩ ?_
  clear hF hB mb
  rintro i a w hi ⟨mb, hB, hF⟩ K' hK'
  refine wp_rs fun K5 hK5 => ?_
  refine s_val hF (x_lss (b := decide (i < 8)) (decide_eq_decide.2 (by omega)) rfl rfl) (by decide) fun a hF => ?_
  refine s_end (hK5 _ _ ?_)
  refine wp_seq_k fun K6 hK6 => ?_
  refine wp_iff hF rfl (fun hc9 => ?_) (fun hc9 => ?_)
  · refine wp_skip (hK6 _ _ ?_)
    refine wp_seq_k fun K7 hK7 => ?_
    refine wp_block ?_
    refine wp_rs fun K8 hK8 => ?_
    refine s_val hF (x_move rfl) (by decide) fun a hF => ?_
    refine s_val hF (x_assign rfl) (by decide) fun a hF => ?_
    refine s_end (hK8 _ _ ?_)
    refine wp_region_lit ?_
    refine s_val hF (x_move rfl) (by decide) fun a hF => ?_
    refine s_val hF (x_move rfl) (by decide) fun a hF => ?_
    refine s_val hF (x_subn (7 - i) (by omega) (by omega) rfl rfl) (by decide) fun a hF => ?_
    refine s_val hF (x_move rfl) (by decide) fun a hF => ?_
    refine s_val hF (x_z2d Tryd.underlying3 Tryd.underlying47 rfl) (by decide) fun a hF => ?_
    refine s_val hF (x_move rfl) (by decide) fun a hF => ?_
    refine s_val hF (x_muln (8 * i) (by omega) (by omega) rfl rfl) (by decide) fun a hF => ?_
    refine s_val hF (x_shr64 (8 * i) rfl (by omega) rfl rfl) (by decide) fun a hF => ?_
    refine s_val hF (x_d2b Tryd.underlying47 Tryd.underlying5 rfl) (by decide) fun a hF => ?_
    refine s_val hF (x_ixa rfl rfl (m_ixs (7 - i) Tryd.underlying22 (size_flat flat5) rfl (by omega))) (by decide) fun a hF => ?_
    refine s_put hF rfl rfl flat5 mb (by simp [tl_length]; omega) rfl fun w4 mb o5 => ?_
    rw [Nat.zero_add, ← List.map_set, key_set _ _ (by omega)] at mb
    have so5 := o5.size
    have hB := hB.trans (o5.below (by omega))
    refine s_end (hK7 _ _ ?_)
    refine wp_region_lit ?_
    refine s_val hF (x_addn (i + 1) (by omega) (by omega) rfl rfl) (by decide) fun a hF => ?_
    refine s_val hF (x_move rfl) (by decide) fun a hF => ?_
    refine s_end (hK' _ _ (by omega) ⟨mb, hB, hF.sub _ rfl⟩)
  · obtain rfl : i = 8 := by omega
    refine wp_exit (hK3 _ _ ?_)
    refine wp_rs fun K9 hK9 => ?_
    refine s_val hF (x_move rfl) (by decide) fun a hF => ?_
    refine s_val hF (x_assign rfl) (by decide) fun a hF => ?_
    refine s_end (hK9 _ _ ?_)
    refine wp_ret (res_slot hF rfl rfl ⟨_, rfl, ⟨bb, rfl, ebb, by simpa using mb⟩, hB⟩)

set_option maxRecDepth 100000 in
set_option maxHeartbeats 800000 in
/-- A key's signature of a message. -/
theorem sign7 (k : Int) (ex : Nat) (bs : List UInt8) (v : Value) (w0 : World) (hR : RB ex w0 v bs) (hlen : bs.length < 2305843009213693900) (hT : Tab w0) : Calls Tryd.prog 7 #[.int .i64 k, v] w0 fun e w' => e = .returned (sigv (signS k bs)) ∧ Below w0.heap.size w0 w' := by
  have h0 := hT.lt
  have hB := Below.refl w0.heap.size w0
  have sB := hB.size
  have htl := tl_length (kU k) 8
  obtain ⟨av, cv, rfl, _, _⟩ := hR.form
  refine calls_fs 21 [(0, .int .i64 k), (1, .slice av bs.length cv)] Tryd.func7 rfl rfl rfl rfl rfl fun a hF => ?_
  refine wp_rs fun K1 hK1 => ?_
  refine s_alloc hF (by decide) zero26 fun w2 b4 a eb4 m4 B3 zb4 hF => ?_
  have sB3 := B3.size
  have hB := hB.trans (B3.mono hB.size)
  refine s_end (hK1 _ _ ?_)
  refine wp_rs fun K2 hK2 => ?_
  refine s_callR (R := fun v w' => ∃ bh, v = .pointer (some ⟨bh, 0, none⟩) ∧ bh = w2.heap.size ∧ HR w' bh []) [] hF (enters_of Tryd.func17 (by kernel_rfl) rfl) rfl (by decide) ((new15 w2).mono fun e w' h => by obtain ⟨b, h1, h2, h3, h4⟩ := h; exact ⟨_, h1, ⟨b, rfl, h2, h3⟩, h4⟩) ?_
  rintro _ w4 a ⟨bh, rfl, ebh, hH⟩ B5 hF
  have sB5 := B5.size
  have hB := hB.trans (B5.mono hB.size)
  have m4 := m4.old B5
  have hHl := hH.lt
  refine s_val hF (x_assign rfl) (by decide) fun a hF => ?_
  refine s_end (hK2 _ _ ?_)
  refine wp_rs fun K3 hK3 => ?_
  refine s_val hF (x_move rfl) (by decide) fun a hF => ?_
  refine s_lit [4] hF (by decide) rfl Tryd.underlying22 (size_flat flat5) zero5 rfl (by decide) (by decide) fun w6 bl a el ml B7 zl hF => ?_
  have hH := hH.below B7
  have sB7 := B7.size
  have hB := hB.trans (B7.mono hB.size)
  have m4 := m4.old B7
  refine s_call2 (R := fun v w' => HR w' bh ([] ++ [4]) ∧ Kp bh w6 w') hF (enters_of Tryd.func18 (by kernel_rfl) rfl) rfl rfl (by decide) ((write16 bh ([]) ([4]) _ w6 hH (RB.blk (ex := bh) ml (by omega)) (hT.old hB) (by omega) (by simp)).mono fun e w' h => ⟨_, h.1, h.2⟩) ?_
  rintro _ w8 a ⟨hH, Kp9⟩ hF
  have sKp9 := Kp9.size
  have hB := Kp9.young hB (by omega)
  have m4 := Kp9.blk m4 (by omega)
  refine s_end (hK3 _ _ ?_)
  refine wp_rs fun K4 hK4 => ?_
  refine s_val hF (x_move rfl) (by decide) fun a hF => ?_
  refine s_val hF (x_move rfl) (by decide) fun a hF => ?_
  refine s_callR (R := fun v w' => ∃ b, v = .slice (some ⟨b, 0, none⟩) 8 8 ∧ b = w8.heap.size ∧ Blk w' b 5 ((tl (kU k) 8).map encB)) [.int .i64 k] hF (enters_of Tryd.func19 (by kernel_rfl) rfl) rfl (by decide) (keyBytes19 k w8) ?_
  rintro _ w10 a ⟨bk, rfl, ebk, mk⟩ B11 hF
  have sB11 := B11.size
  have hB := hB.trans (B11.mono hB.size)
  have m4 := m4.old B11
  have hH := hH.below B11
  refine s_call2 (R := fun v w' => HR w' bh (([] ++ [4]) ++ (tl (kU k) 8)) ∧ Kp bh w10 w') hF (enters_of Tryd.func18 (by kernel_rfl) rfl) rfl rfl (by decide) ((write16 bh (([] ++ [4])) ((tl (kU k) 8)) _ w10 hH ((by have := RB.blk (ex := bh) mk (by omega); rwa [htl] at this)) (hT.old hB) (by omega) (by simp [htl])).mono fun e w' h => ⟨_, h.1, h.2⟩) ?_
  rintro _ w12 a ⟨hH, Kp13⟩ hF
  have sKp13 := Kp13.size
  have hB := Kp13.young hB (by omega)
  have m4 := Kp13.blk m4 (by omega)
  refine s_end (hK4 _ _ ?_)
  refine wp_rs fun K5 hK5 => ?_
  refine s_val hF (x_move rfl) (by decide) fun a hF => ?_
  refine s_val hF (x_move rfl) (by decide) fun a hF => ?_
  refine s_call2 (R := fun v w' => HR w' bh ((([] ++ [4]) ++ tl (kU k) 8) ++ bs) ∧ Kp bh w12 w') hF (enters_of Tryd.func18 (by kernel_rfl) rfl) rfl rfl (by decide) ((write16 bh ((([] ++ [4]) ++ tl (kU k) 8)) (bs) _ w12 hH ((hR.young (ex' := bh) (by omega)).below hB) (hT.old hB) (by omega) (by simp [htl]; omega)).mono fun e w' h => ⟨_, h.1, h.2⟩) ?_
  rintro _ w14 a ⟨hH, Kp15⟩ hF
  have sKp15 := Kp15.size
  have hB := Kp15.young hB (by omega)
  have m4 := Kp15.blk m4 (by omega)
  refine s_end (hK5 _ _ ?_)
  refine wp_rs fun K6 hK6 => ?_
  refine s_val hF (x_move rfl) (by decide) fun a hF => ?_
  refine s_val hF (x_move rfl) (by decide) fun a hF => ?_
  refine s_callB [.pointer (some ⟨bh, 0, none⟩)] hF (enters_of Tryd.func20 (by kernel_rfl) rfl) rfl (by decide) (sum18 bh (4 :: (tl (kU k) 8 ++ bs)) w14 hH (hT.old hB) (by simp [htl]; omega)) fun w16 a B17 hF => ?_
  have sB17 := B17.size
  have hB := hB.trans (B17.mono hB.size)
  have m4 := m4.old B17
  refine s_val hF (x_buildG (s := signS k bs) (signS_good _ _) rfl rfl) (by decide) fun a hF => ?_
  refine s_putG z0g (signS_good _ _) m4 hF rfl rfl fun w18 m4 o19 => ?_
  have so19 := o19.size
  have hB := hB.trans (o19.below (by omega))
  refine s_end (hK6 _ _ ?_)
  refine wp_ret (res_G hF rfl rfl (signS_good _ _) m4 ⟨rfl, hB⟩)

theorem own_lit {w : World} {b base e k n : Nat} {cs : List Value} (m : Blk w b e cs) (hl : cs.length = n * k) (hb : base ≤ b) (hn : n ≤ maxLen) : w.ownsRow base e k (.slice (some ⟨b, 0, none⟩) n n) n cs := by
  refine ⟨hl, .inr ⟨b, n, cs.toArray, rfl, hb, m, Nat.le_refl _, hn, by simpa using hl, ?_⟩⟩
  rw [← hl]
  simp
/-- Bytes that a call owns, from the block base on; where they lie they lie apart from the block r. -/
def OwB (base r : Nat) (w : World) (v : Value) (bs : List UInt8) : Prop := w.ownsRow base 5 1 v bs.length (bs.map encB) ∧ (∀ k, v.ownBlock = some k → r < k)
theorem OwB.rb {base r : Nat} {w : World} {v : Value} {bs : List UInt8} (h : OwB base r w v bs) : RB w.heap.size w v bs := (Rd.own h.1).rb (fun e => by have := (h.1.lt _ e).2; omega)
theorem OwB.lit {base r : Nat} {w : World} {b : Nat} {bs : List UInt8} (m : Blk w b 5 (bs.map encB)) (hb : base ≤ b) (hr : r < b) (hn : bs.length ≤ maxLen) : OwB base r w (.slice (some ⟨b, 0, none⟩) bs.length bs.length) bs :=
  ⟨own_lit m (by simp) hb hn, fun k hk => by cases hk; exact hr⟩
theorem OwB.below {base r : Nat} {w w' : World} {v : Value} {bs : List UInt8} (h : OwB base r w v bs) (hB : Below w.heap.size w w') : OwB base r w' v bs := ⟨own_below h.1 hB, h.2⟩
/-- An append of bytes to such ones. -/
theorem s_appB {n d : Nat} {l : List (Nat × Value)} {w : World} {a : Act} {ops : Array Oper} {Q : Exit → Act → World → Prop} {rest : List Oper} {ty : TypeId} {pos : String} {af : Array Edge} {x y : Operand} {v u : Value} {base r ex : Nat} {xs ys : List UInt8} (hF : Fs n a l) (hd : d < n) (hx : ov l x = some v) (hy : ov l y = some u) (hO : OwB base r w v xs) (hR : RB ex w u ys) (hlen : xs.length + ys.length ≤ 140737488355328) (hb : base ≤ w.heap.size) (hr : r < w.heap.size)
    (h : ∀ v' w' a', OwB base r w' v' (xs ++ ys) → Kq w.heap.size w w' ∨ (∃ c, v.ownBlock = some c ∧ Kq c w w') → (∀ k, k < w.heap.size → k ≤ r → w'.heap[k]? = w.heap[k]?) → w.heap.size ≤ w'.heap.size → Below base w w' → Fs n a' ((d, v') :: l) → wpList Tryd.prog ops Q rest a' w') :
    wpList Tryd.prog ops Q (⟨some d, .call { callee := .builtin .append, args := #[x, y], argTypes := #[22, 22] }, ty, pos, af, none⟩ :: rest) a w := by
  refine s_appG el22 hF hd hx hy hO.1 hR.rd (oneB _) (by omega) (by unfold maxLen; omega) hb fun v' w' a' hO' g hw hF' => ?_
  refine h v' w' a' ⟨by rw [List.length_append, List.map_append]; exact hO', fun k hk => ?_⟩ ?_ (fun k hk hkr => g.block k hk (fun e => by have := hO.2 k e.symm; omega)) g.size (grown_below g hb (fun k hk => (hO.1.lt k hk).1)) hF'
  · rcases hw k hk with h1 | h1
    · exact hO.2 k h1
    · omega
  · cases hv : v.ownBlock with
    | none => exact .inl ⟨g.os, g.tape, g.output, g.size, fun k hk hb => g.block k hk (by rw [hv]; simp)⟩
    | some c => exact .inr ⟨c, rfl, ⟨g.os, g.tape, g.output, g.size, fun k hk hb => g.block k hk (by rw [hv]; simpa using hb)⟩⟩

set_option maxRecDepth 100000 in
set_option maxHeartbeats 800000 in
theorem rsign8 (k : Int) (ex : Nat) (bs : List UInt8) (v : Value) (w0 : World) (hR : RB ex w0 v bs) (hlen : bs.length + 256 ≤ 140737488355328) : Calls Tryd.prog 8 #[.int .i64 k, v] w0 fun e w' => e = .returned (sigv (signS k bs)) ∧ Below w0.heap.size w0 w' := by
  have hB := Below.refl w0.heap.size w0
  have sB := hB.size
  have htl := tl_length (kU k) 8
  obtain ⟨av, cv, rfl, _, _⟩ := hR.form
  refine calls_fs 28 [(0, .int .i64 k), (1, .slice av bs.length cv)] Tryd.func8 rfl rfl rfl rfl rfl fun a hF => ?_
  refine wp_rs fun K1 hK1 => ?_
  refine s_alloc hF (by decide) zero26 fun w2 b4 a eb4 m4 B3 zb4 hF => ?_
  have sB3 := B3.size
  have hB := hB.trans (B3.mono hB.size)
  have hb4 : w0.heap.size ≤ b4 := by omega
  refine s_end (hK1 _ _ ?_)
  refine wp_rs fun K2 hK2 => ?_
  refine s_lit [4] hF (by decide) rfl Tryd.underlying22 (size_flat flat5) zero5 rfl (by decide) (by decide) fun w4 bt a ebt mt B5 zbt hF => ?_
  have hO := OwB.lit (base := w0.heap.size) (r := b4) mt (by omega) (by omega) (by decide)
  have sB5 := B5.size
  have hB := hB.trans (B5.mono hB.size)
  have m4 := m4.old B5
  refine s_val hF (x_assign rfl) (by decide) fun a hF => ?_
  refine s_end (hK2 _ _ ?_)
  refine wp_seq_k fun K3 hK3 => ?_
  refine wp_rs fun K4 hK4 => ?_
  refine s_val hF (x_assign rfl) (by decide) fun a hF => ?_
  refine s_end (hK4 _ _ ?_)
  refine wp_block ?_
  refine wp_up 8 (fun i a w => ∃ v, OwB w0.heap.size b4 w v ([4] ++ (tl (kU k) 8).take i) ∧ Blk w b4 26 (sigL z0) ∧ Below w0.heap.size w0 w ∧ Fs 28 a [(6, .int .i64 (7 - ((i : Nat) : Int))), (5, v), (4, .pointer (some ⟨b4, 0, none⟩)), (1, .slice av bs.length cv), (0, .int .i64 k)]) ⟨_, by simpa using hO, m4, hB, hF.sub _ rfl⟩ ?_
  clear hF hB m4 hO
  rintro i a w hi ⟨v, hO, m4, hB, hF⟩ K' hK'
  have sB := hB.size
  have hb4 : w0.heap.size ≤ b4 := hb4
  have hm4 := m4.lt
  refine wp_seq_k fun K5 hK5 => ?_
  refine wp_rs fun K6 hK6 => ?_
  refine s_val hF (x_move rfl) (by decide) fun a hF => ?_
  refine s_val hF (x_geq rfl rfl rfl) (by decide) fun a hF => ?_
  refine s_end (hK6 _ _ ?_)
  refine wp_iff hF rfl (fun hc9 => ?_) (fun hc9 => ?_)
  · refine wp_skip (hK5 _ _ ?_)
    refine wp_seq_k fun K7 hK7 => ?_
    refine wp_block ?_
    refine wp_region_lit ?_
    refine s_val hF (x_move rfl) (by decide) fun a hF => ?_
    refine s_val hF (x_move rfl) (by decide) fun a hF => ?_
    refine s_val hF (x_z2d Tryd.underlying3 Tryd.underlying47 rfl) (by decide) fun a hF => ?_
    refine s_val hF (x_move rfl) (by decide) fun a hF => ?_
    refine s_val hF (x_muln (8 * (7 - i)) (by omega) (by omega) rfl rfl) (by decide) fun a hF => ?_
    refine s_val hF (x_cvt Tryd.underlying3 Tryd.underlying48 (r := ((8 * (7 - i) : Nat) : Int)) (by first | (rw [wrap_u64]; omega) | (simp [IntKind.wrap, IntKind.bits, IntKind.signed]; omega)) rfl) (by decide) fun a hF => ?_
    refine s_val hF (x_shr64 (8 * (7 - i)) rfl (by omega) rfl rfl) (by decide) fun a hF => ?_
    refine s_val hF (x_d2b Tryd.underlying47 Tryd.underlying5 rfl) (by decide) fun a hF => ?_
    refine s_lit [(kU k >>> UInt64.ofNat (8 * (7 - i))).toUInt8] hF (by decide) rfl Tryd.underlying22 (size_flat flat5) zero5 rfl (by decide) (by decide) fun w6 bx a ebx mx B7 zbx hF => ?_
    have hO := hO.below B7
    have sB7 := B7.size
    have hB := hB.trans (B7.mono hB.size)
    have m4 := m4.old B7
    refine s_appB hF (by decide) rfl rfl hO (RB.blk (ex := bx + 1) mx (by omega)) (by simp [htl]; omega) (by omega) (by omega) fun vw8 w8 a hO _ kpG9 sG9 gG9 hF => ?_
    have hB := hB.trans gG9
    have m4 : Blk w8 _ _ _ := (kpG9 b4 m4.lt (by omega)).trans m4
    refine s_val hF (x_assign rfl) (by decide) fun a hF => ?_
    refine s_end (hK7 _ _ ?_)
    refine wp_region_lit ?_
    refine s_val hF (x_move rfl) (by decide) fun a hF => ?_
    refine s_val hF (x_subz (7 - ((i + 1 : Nat) : Int)) (by omega) (by omega) (by omega) rfl rfl) (by decide) fun a hF => ?_
    refine s_val hF (x_assign rfl) (by decide) fun a hF => ?_
    have hg := tl_get (kU k) 8 i (by omega)
    rw [show 8 - 1 - i = 7 - i by omega] at hg
    have hO := hO
    rw [← hg, List.append_assoc, ← take_snoc (tl (kU k) 8) i 0 (by omega)] at hO
    refine s_end (hK' _ _ (by omega) ⟨_, hO, m4, hB, hF.sub _ rfl⟩)
  · obtain rfl : i = 8 := by omega
    rw [List.take_of_length_le (by omega)] at hO
    refine wp_exit (hK3 _ _ ?_)
    refine wp_rs fun K8 hK8 => ?_
    refine s_val hF (x_move rfl) (by decide) fun a hF => ?_
    refine s_val hF (x_move rfl) (by decide) fun a hF => ?_
    refine s_val hF (x_move rfl) (by decide) fun a hF => ?_
    refine s_appB hF (by decide) rfl rfl hO (hR.below hB) (by simp [htl]; omega) (by omega) (by omega) fun vw10 w10 a hO _ kpG11 sG11 gG11 hF => ?_
    have hB := hB.trans gG11
    have m4 : Blk w10 _ _ _ := (kpG11 b4 m4.lt (by omega)).trans m4
    refine s_callB [_] hF (enters_of Tryd.func21 (by kernel_rfl) rfl) rfl (by decide) (rsum11 _ (([4] ++ tl (kU k) 8) ++ bs) _ w10 hO.rb (by simp [htl]; omega)) fun w12 a B13 hF => ?_
    have sB13 := B13.size
    have hB := hB.trans (B13.mono hB.size)
    have m4 := m4.old B13
    refine s_val hF (x_buildG (s := signS k bs) (signS_good _ _) rfl rfl) (by decide) fun a hF => ?_
    refine s_putG z0g (signS_good _ _) m4 hF rfl rfl fun w14 m4 o15 => ?_
    have so15 := o15.size
    have hB := hB.trans (o15.below (by omega))
    refine s_end (hK8 _ _ ?_)
    refine wp_ret (res_G hF rfl rfl (signS_good _ _) m4 ⟨rfl, hB⟩)

theorem and3 {p q r : Prop} [Decidable p] [Decidable q] [Decidable r] (hp : p) (hq : q) : decide (p ∧ q ∧ r) = decide r := by simp [hp, hq]

set_option maxRecDepth 100000 in
set_option maxHeartbeats 800000 in
theorem valid9 (s : Sg) (hs : goodS s) (ex : Nat) (bs : List UInt8) (v : Value) (n : Int) (w0 : World) (hR : RB ex w0 v bs) (hlen : bs.length < 2305843009213693900) (hT : Tab w0) : Calls Tryd.prog 9 #[sigv s, v, .int .i64 n] w0 fun e w' => e = .returned (.bool (decide (0 ≤ s.1 ∧ s.1 < n ∧ s = signS s.1 bs))) ∧ Below w0.heap.size w0 w' := by
  have hB := Below.refl w0.heap.size w0
  have sB := hB.size
  obtain ⟨av, cv, rfl, _, _⟩ := hR.form
  refine calls_fs 24 [(0, sigv s), (1, .slice av bs.length cv), (2, .int .i64 n)] Tryd.func9 rfl rfl rfl rfl rfl fun a hF => ?_
  refine wp_rs fun K1 hK1 => ?_
  refine s_box (sigL s) hF (by decide) rfl rfl fun w2 b3 a eb3 m3 B3 zb3 hF => ?_
  have sB3 := B3.size
  have hB := hB.trans (B3.mono hB.size)
  refine s_val hF (x_assign rfl) (by decide) fun a hF => ?_
  refine s_end (hK1 _ _ ?_)
  rcases Int.lt_or_le s.1 0 with hk | hk; rotate_left; rcases Int.lt_or_le s.1 n with hn | hn; rotate_right
  · skip
    refine dk_seq (w2.heap.size) (ops := regOps Tryd.f9 1) (N := 18) (by kernel_rfl) wide_orders (by kernel_rfl) fun w4 hw4 B5 hS K3 hK3 => ?_
    have zw4 : w4.heap.size = w2.heap.size := by rw [hw4]
    have sB5 := B5.size
    have hB := hB.trans (B5.mono hB.size)
    have m3 := m3.old B5
    have m3_d := m3
    have hB_d := hB
    refine d_val 0 7 (op := (Go.Op.fieldAddr 26 (Go.Operand.tmp 3) 0)) hF hS (by kernel_rfl) (fun W hW => x_key rfl) (by kernel_rfl) (by decide) fun a hF => ?_
    refine d_val 1 8 (op := (Go.Op.load 3 (Go.Operand.tmp 7))) hF hS (by kernel_rfl) (fun W hW => x_loadK (m3_d.kq hW (by omega)) rfl) (by kernel_rfl) (by decide) fun a hF => ?_
    refine d_val 2 9 (op := (Go.Op.binOp Go.BinOp.leq 3 (Go.Operand.const (Go.Value.int Go.IntKind.i64 0)) (Go.Operand.tmp 8) 3)) hF hS (by kernel_rfl) (fun W hW => x_leq (b := false) (decide_eq_false (by omega)) rfl rfl) (by kernel_rfl) (by decide) fun a hF => ?_
    refine d_val 3 10 (op := (Go.Op.move (Go.Operand.tmp 9))) hF hS (by kernel_rfl) (fun W hW => x_move rfl) (by kernel_rfl) (by decide) fun a hF => ?_
    refine d_skip 4 11 10 (j := 3) (want := true) (op := (Go.Op.fieldAddr 26 (Go.Operand.tmp 3) 0)) hF hS (by kernel_rfl) (by kernel_rfl) rfl (by kernel_rfl) (by decide) fun a hF => ?_
    refine d_skip 5 12 10 (j := 3) (want := true) (op := (Go.Op.load 3 (Go.Operand.tmp 11))) hF hS (by kernel_rfl) (by kernel_rfl) rfl (by kernel_rfl) (by decide) fun a hF => ?_
    refine d_skip 6 13 10 (j := 3) (want := true) (op := (Go.Op.move (Go.Operand.tmp 2))) hF hS (by kernel_rfl) (by kernel_rfl) rfl (by kernel_rfl) (by decide) fun a hF => ?_
    refine d_skip 7 14 10 (j := 3) (want := true) (op := (Go.Op.binOp Go.BinOp.lss 3 (Go.Operand.tmp 12) (Go.Operand.tmp 13) 3)) hF hS (by kernel_rfl) (by kernel_rfl) rfl (by kernel_rfl) (by decide) fun a hF => ?_
    refine d_val 8 15 (op := (Go.Op.pick (Go.Operand.tmp 10) (Go.Operand.tmp 14) (Go.Operand.const (Go.Value.bool false)))) hF hS (by kernel_rfl) (fun W hW => x_pick rfl rfl) (by kernel_rfl) (by decide) fun a hF => ?_
    refine d_val 9 16 (op := (Go.Op.move (Go.Operand.tmp 15))) hF hS (by kernel_rfl) (fun W hW => x_move rfl) (by kernel_rfl) (by decide) fun a hF => ?_
    refine d_skip 10 17 16 (j := 9) (want := true) (op := (Go.Op.load 26 (Go.Operand.tmp 3))) hF hS (by kernel_rfl) (by kernel_rfl) rfl (by kernel_rfl) (by decide) fun a hF => ?_
    refine d_skip 11 18 16 (j := 9) (want := true) (op := (Go.Op.fieldAddr 26 (Go.Operand.tmp 3) 0)) hF hS (by kernel_rfl) (by kernel_rfl) rfl (by kernel_rfl) (by decide) fun a hF => ?_
    refine d_skip 12 19 16 (j := 9) (want := true) (op := (Go.Op.load 3 (Go.Operand.tmp 18))) hF hS (by kernel_rfl) (by kernel_rfl) rfl (by kernel_rfl) (by decide) fun a hF => ?_
    refine d_skip 13 20 16 (j := 9) (want := true) (op := (Go.Op.move (Go.Operand.tmp 1))) hF hS (by kernel_rfl) (by kernel_rfl) rfl (by kernel_rfl) (by decide) fun a hF => ?_
    refine d_skip 14 21 16 (j := 9) (want := true) (op := (Go.Op.call (Go.Call.mk (Go.Callee.value (Go.Operand.func 7)) #[(Go.Operand.tmp 19), (Go.Operand.tmp 20)] #[3, 22]))) hF hS (by kernel_rfl) (by kernel_rfl) rfl (by kernel_rfl) (by decide) fun a hF => ?_
    refine d_skip 15 22 16 (j := 9) (want := true) (op := (Go.Op.binOp Go.BinOp.eql 26 (Go.Operand.tmp 17) (Go.Operand.tmp 21) 26)) hF hS (by kernel_rfl) (by kernel_rfl) rfl (by kernel_rfl) (by decide) fun a hF => ?_
    refine d_val 16 23 (op := (Go.Op.pick (Go.Operand.tmp 16) (Go.Operand.tmp 22) (Go.Operand.const (Go.Value.bool false)))) hF hS (by kernel_rfl) (fun W hW => x_pick rfl rfl) (by kernel_rfl) (by decide) fun a hF => ?_
    refine d_val 17 6 (op := (Go.Op.assign (Go.Operand.tmp 23))) hF hS (by kernel_rfl) (fun W hW => x_assign rfl) (by kernel_rfl) (by decide) fun a hF => ?_
    refine d_end (by kernel_rfl) (hK3 _ _ ?_)
    refine wp_ret (res_slot hF rfl rfl ⟨by first | (rw [and3 hk hn]) | (rw [decide_eq_false (fun h => by omega)]), hB⟩)
  · skip
    refine dk_seq (w2.heap.size) (ops := regOps Tryd.f9 1) (N := 18) (by kernel_rfl) wide_orders (by kernel_rfl) fun w6 hw6 B7 hS K4 hK4 => ?_
    have zw6 : w6.heap.size = w2.heap.size := by rw [hw6]
    have sB7 := B7.size
    have hB := hB.trans (B7.mono hB.size)
    have m3 := m3.old B7
    have m3_d := m3
    have hB_d := hB
    refine d_val 0 7 (op := (Go.Op.fieldAddr 26 (Go.Operand.tmp 3) 0)) hF hS (by kernel_rfl) (fun W hW => x_key rfl) (by kernel_rfl) (by decide) fun a hF => ?_
    refine d_val 1 8 (op := (Go.Op.load 3 (Go.Operand.tmp 7))) hF hS (by kernel_rfl) (fun W hW => x_loadK (m3_d.kq hW (by omega)) rfl) (by kernel_rfl) (by decide) fun a hF => ?_
    refine d_val 2 9 (op := (Go.Op.binOp Go.BinOp.leq 3 (Go.Operand.const (Go.Value.int Go.IntKind.i64 0)) (Go.Operand.tmp 8) 3)) hF hS (by kernel_rfl) (fun W hW => x_leq (b := true) (decide_eq_true (by omega)) rfl rfl) (by kernel_rfl) (by decide) fun a hF => ?_
    refine d_val 3 10 (op := (Go.Op.move (Go.Operand.tmp 9))) hF hS (by kernel_rfl) (fun W hW => x_move rfl) (by kernel_rfl) (by decide) fun a hF => ?_
    refine d_valg 4 11 10 (j := 3) (want := true) (op := (Go.Op.fieldAddr 26 (Go.Operand.tmp 3) 0)) hF hS (by kernel_rfl) (by kernel_rfl) rfl (fun W hW => x_key rfl) (by kernel_rfl) (by decide) fun a hF => ?_
    refine d_valg 5 12 10 (j := 3) (want := true) (op := (Go.Op.load 3 (Go.Operand.tmp 11))) hF hS (by kernel_rfl) (by kernel_rfl) rfl (fun W hW => x_loadK (m3_d.kq hW (by omega)) rfl) (by kernel_rfl) (by decide) fun a hF => ?_
    refine d_valg 6 13 10 (j := 3) (want := true) (op := (Go.Op.move (Go.Operand.tmp 2))) hF hS (by kernel_rfl) (by kernel_rfl) rfl (fun W hW => x_move rfl) (by kernel_rfl) (by decide) fun a hF => ?_
    refine d_valg 7 14 10 (j := 3) (want := true) (op := (Go.Op.binOp Go.BinOp.lss 3 (Go.Operand.tmp 12) (Go.Operand.tmp 13) 3)) hF hS (by kernel_rfl) (by kernel_rfl) rfl (fun W hW => x_lss (b := true) (decide_eq_true (by omega)) rfl rfl) (by kernel_rfl) (by decide) fun a hF => ?_
    refine d_val 8 15 (op := (Go.Op.pick (Go.Operand.tmp 10) (Go.Operand.tmp 14) (Go.Operand.const (Go.Value.bool false)))) hF hS (by kernel_rfl) (fun W hW => x_pick rfl rfl) (by kernel_rfl) (by decide) fun a hF => ?_
    refine d_val 9 16 (op := (Go.Op.move (Go.Operand.tmp 15))) hF hS (by kernel_rfl) (fun W hW => x_move rfl) (by kernel_rfl) (by decide) fun a hF => ?_
    refine d_valg 10 17 16 (j := 9) (want := true) (op := (Go.Op.load 26 (Go.Operand.tmp 3))) hF hS (by kernel_rfl) (by kernel_rfl) rfl (fun W hW => x_loadG hs (m3_d.kq hW (by omega)) rfl) (by kernel_rfl) (by decide) fun a hF => ?_
    refine d_valg 11 18 16 (j := 9) (want := true) (op := (Go.Op.fieldAddr 26 (Go.Operand.tmp 3) 0)) hF hS (by kernel_rfl) (by kernel_rfl) rfl (fun W hW => x_key rfl) (by kernel_rfl) (by decide) fun a hF => ?_
    refine d_valg 12 19 16 (j := 9) (want := true) (op := (Go.Op.load 3 (Go.Operand.tmp 18))) hF hS (by kernel_rfl) (by kernel_rfl) rfl (fun W hW => x_loadK (m3_d.kq hW (by omega)) rfl) (by kernel_rfl) (by decide) fun a hF => ?_
    refine d_valg 13 20 16 (j := 9) (want := true) (op := (Go.Op.move (Go.Operand.tmp 1))) hF hS (by kernel_rfl) (by kernel_rfl) rfl (fun W hW => x_move rfl) (by kernel_rfl) (by decide) fun a hF => ?_
    refine d_oneg 14 16 (some 21) (Go.Op.call (Go.Call.mk (Go.Callee.value (Go.Operand.func 7)) #[(Go.Operand.tmp 19), (Go.Operand.tmp 20)] #[3, 22])) (j := 9) (want := true) hF (by kernel_rfl) (by kernel_rfl) (by kernel_rfl) rfl fun ty pos af => ?_
    refine s_callB [.int .i64 s.1, .slice av bs.length cv] hF (enters_of Tryd.func7 (by kernel_rfl) rfl) rfl (by decide) (sign7 s.1 _ bs _ w6 (hR.below hB) hlen (hT.old hB)) fun w8 a B9 hF => ?_
    have sB9 := B9.size
    have hB := hB.trans (B9.mono hB.size)
    have m3 := m3.old B9
    have hS := hS.below B9
    refine s_end ⟨hS, ?_⟩
    refine d_valg 15 22 16 (j := 9) (want := true) (op := (Go.Op.binOp Go.BinOp.eql 26 (Go.Operand.tmp 17) (Go.Operand.tmp 21) 26)) hF hS (by kernel_rfl) (by kernel_rfl) rfl (fun W hW => x_eqG (b := decide (s = signS s.1 bs)) hs (signS_good _ _) rfl rfl rfl) (by kernel_rfl) (by decide) fun a hF => ?_
    refine d_val 16 23 (op := (Go.Op.pick (Go.Operand.tmp 16) (Go.Operand.tmp 22) (Go.Operand.const (Go.Value.bool false)))) hF hS (by kernel_rfl) (fun W hW => x_pick rfl rfl) (by kernel_rfl) (by decide) fun a hF => ?_
    refine d_val 17 6 (op := (Go.Op.assign (Go.Operand.tmp 23))) hF hS (by kernel_rfl) (fun W hW => x_assign rfl) (by kernel_rfl) (by decide) fun a hF => ?_
    refine d_end (by kernel_rfl) (hK4 _ _ ?_)
    refine wp_ret (res_slot hF rfl rfl ⟨by first | (rw [and3 hk hn]) | (rw [decide_eq_false (fun h => by omega)]), hB⟩)
  · skip
    refine dk_seq (w2.heap.size) (ops := regOps Tryd.f9 1) (N := 18) (by kernel_rfl) wide_orders (by kernel_rfl) fun w10 hw10 B11 hS K5 hK5 => ?_
    have zw10 : w10.heap.size = w2.heap.size := by rw [hw10]
    have sB11 := B11.size
    have hB := hB.trans (B11.mono hB.size)
    have m3 := m3.old B11
    have m3_d := m3
    have hB_d := hB
    refine d_val 0 7 (op := (Go.Op.fieldAddr 26 (Go.Operand.tmp 3) 0)) hF hS (by kernel_rfl) (fun W hW => x_key rfl) (by kernel_rfl) (by decide) fun a hF => ?_
    refine d_val 1 8 (op := (Go.Op.load 3 (Go.Operand.tmp 7))) hF hS (by kernel_rfl) (fun W hW => x_loadK (m3_d.kq hW (by omega)) rfl) (by kernel_rfl) (by decide) fun a hF => ?_
    refine d_val 2 9 (op := (Go.Op.binOp Go.BinOp.leq 3 (Go.Operand.const (Go.Value.int Go.IntKind.i64 0)) (Go.Operand.tmp 8) 3)) hF hS (by kernel_rfl) (fun W hW => x_leq (b := true) (decide_eq_true (by omega)) rfl rfl) (by kernel_rfl) (by decide) fun a hF => ?_
    refine d_val 3 10 (op := (Go.Op.move (Go.Operand.tmp 9))) hF hS (by kernel_rfl) (fun W hW => x_move rfl) (by kernel_rfl) (by decide) fun a hF => ?_
    refine d_valg 4 11 10 (j := 3) (want := true) (op := (Go.Op.fieldAddr 26 (Go.Operand.tmp 3) 0)) hF hS (by kernel_rfl) (by kernel_rfl) rfl (fun W hW => x_key rfl) (by kernel_rfl) (by decide) fun a hF => ?_
    refine d_valg 5 12 10 (j := 3) (want := true) (op := (Go.Op.load 3 (Go.Operand.tmp 11))) hF hS (by kernel_rfl) (by kernel_rfl) rfl (fun W hW => x_loadK (m3_d.kq hW (by omega)) rfl) (by kernel_rfl) (by decide) fun a hF => ?_
    refine d_valg 6 13 10 (j := 3) (want := true) (op := (Go.Op.move (Go.Operand.tmp 2))) hF hS (by kernel_rfl) (by kernel_rfl) rfl (fun W hW => x_move rfl) (by kernel_rfl) (by decide) fun a hF => ?_
    refine d_valg 7 14 10 (j := 3) (want := true) (op := (Go.Op.binOp Go.BinOp.lss 3 (Go.Operand.tmp 12) (Go.Operand.tmp 13) 3)) hF hS (by kernel_rfl) (by kernel_rfl) rfl (fun W hW => x_lss (b := false) (decide_eq_false (by omega)) rfl rfl) (by kernel_rfl) (by decide) fun a hF => ?_
    refine d_val 8 15 (op := (Go.Op.pick (Go.Operand.tmp 10) (Go.Operand.tmp 14) (Go.Operand.const (Go.Value.bool false)))) hF hS (by kernel_rfl) (fun W hW => x_pick rfl rfl) (by kernel_rfl) (by decide) fun a hF => ?_
    refine d_val 9 16 (op := (Go.Op.move (Go.Operand.tmp 15))) hF hS (by kernel_rfl) (fun W hW => x_move rfl) (by kernel_rfl) (by decide) fun a hF => ?_
    refine d_skip 10 17 16 (j := 9) (want := true) (op := (Go.Op.load 26 (Go.Operand.tmp 3))) hF hS (by kernel_rfl) (by kernel_rfl) rfl (by kernel_rfl) (by decide) fun a hF => ?_
    refine d_skip 11 18 16 (j := 9) (want := true) (op := (Go.Op.fieldAddr 26 (Go.Operand.tmp 3) 0)) hF hS (by kernel_rfl) (by kernel_rfl) rfl (by kernel_rfl) (by decide) fun a hF => ?_
    refine d_skip 12 19 16 (j := 9) (want := true) (op := (Go.Op.load 3 (Go.Operand.tmp 18))) hF hS (by kernel_rfl) (by kernel_rfl) rfl (by kernel_rfl) (by decide) fun a hF => ?_
    refine d_skip 13 20 16 (j := 9) (want := true) (op := (Go.Op.move (Go.Operand.tmp 1))) hF hS (by kernel_rfl) (by kernel_rfl) rfl (by kernel_rfl) (by decide) fun a hF => ?_
    refine d_skip 14 21 16 (j := 9) (want := true) (op := (Go.Op.call (Go.Call.mk (Go.Callee.value (Go.Operand.func 7)) #[(Go.Operand.tmp 19), (Go.Operand.tmp 20)] #[3, 22]))) hF hS (by kernel_rfl) (by kernel_rfl) rfl (by kernel_rfl) (by decide) fun a hF => ?_
    refine d_skip 15 22 16 (j := 9) (want := true) (op := (Go.Op.binOp Go.BinOp.eql 26 (Go.Operand.tmp 17) (Go.Operand.tmp 21) 26)) hF hS (by kernel_rfl) (by kernel_rfl) rfl (by kernel_rfl) (by decide) fun a hF => ?_
    refine d_val 16 23 (op := (Go.Op.pick (Go.Operand.tmp 16) (Go.Operand.tmp 22) (Go.Operand.const (Go.Value.bool false)))) hF hS (by kernel_rfl) (fun W hW => x_pick rfl rfl) (by kernel_rfl) (by decide) fun a hF => ?_
    refine d_val 17 6 (op := (Go.Op.assign (Go.Operand.tmp 23))) hF hS (by kernel_rfl) (fun W hW => x_assign rfl) (by kernel_rfl) (by decide) fun a hF => ?_
    refine d_end (by kernel_rfl) (hK5 _ _ ?_)
    refine wp_ret (res_slot hF rfl rfl ⟨by first | (rw [and3 hk hn]) | (rw [decide_eq_false (fun h => by omega)]), hB⟩)

set_option maxRecDepth 100000 in
set_option maxHeartbeats 800000 in
theorem rvalid10 (s : Sg) (hs : goodS s) (ex : Nat) (bs : List UInt8) (v : Value) (n : Int) (w0 : World) (hR : RB ex w0 v bs) (hlen : bs.length + 256 ≤ 140737488355328) : Calls Tryd.prog 10 #[sigv s, v, .int .i64 n] w0 fun e w' => e = .returned (.bool (decide (0 ≤ s.1 ∧ s.1 < n ∧ s = signS s.1 bs))) ∧ Below w0.heap.size w0 w' := by
  have hB := Below.refl w0.heap.size w0
  have sB := hB.size
  obtain ⟨av, cv, rfl, _, _⟩ := hR.form
  refine calls_fs 24 [(0, sigv s), (1, .slice av bs.length cv), (2, .int .i64 n)] Tryd.func10 rfl rfl rfl rfl rfl fun a hF => ?_
  refine wp_rs fun K1 hK1 => ?_
  refine s_box (sigL s) hF (by decide) rfl rfl fun w2 b3 a eb3 m3 B3 zb3 hF => ?_
  have sB3 := B3.size
  have hB := hB.trans (B3.mono hB.size)
  refine s_val hF (x_assign rfl) (by decide) fun a hF => ?_
  refine s_end (hK1 _ _ ?_)
  rcases Int.lt_or_le s.1 0 with hk | hk; rotate_left; rcases Int.lt_or_le s.1 n with hn | hn; rotate_right
  · skip
    refine dk_seq (w2.heap.size) (ops := regOps Tryd.f10 1) (N := 18) (by kernel_rfl) wide_orders (by kernel_rfl) fun w4 hw4 B5 hS K3 hK3 => ?_
    have zw4 : w4.heap.size = w2.heap.size := by rw [hw4]
    have sB5 := B5.size
    have hB := hB.trans (B5.mono hB.size)
    have m3 := m3.old B5
    have m3_d := m3
    have hB_d := hB
    refine d_val 0 7 (op := (Go.Op.fieldAddr 26 (Go.Operand.tmp 3) 0)) hF hS (by kernel_rfl) (fun W hW => x_key rfl) (by kernel_rfl) (by decide) fun a hF => ?_
    refine d_val 1 8 (op := (Go.Op.load 3 (Go.Operand.tmp 7))) hF hS (by kernel_rfl) (fun W hW => x_loadK (m3_d.kq hW (by omega)) rfl) (by kernel_rfl) (by decide) fun a hF => ?_
    refine d_val 2 9 (op := (Go.Op.binOp Go.BinOp.geq 3 (Go.Operand.tmp 8) (Go.Operand.const (Go.Value.int Go.IntKind.i64 0)) 3)) hF hS (by kernel_rfl) (fun W hW => x_geq (b := false) (decide_eq_false (by omega)) rfl rfl) (by kernel_rfl) (by decide) fun a hF => ?_
    refine d_val 3 10 (op := (Go.Op.move (Go.Operand.tmp 9))) hF hS (by kernel_rfl) (fun W hW => x_move rfl) (by kernel_rfl) (by decide) fun a hF => ?_
    refine d_skip 4 11 10 (j := 3) (want := true) (op := (Go.Op.fieldAddr 26 (Go.Operand.tmp 3) 0)) hF hS (by kernel_rfl) (by kernel_rfl) rfl (by kernel_rfl) (by decide) fun a hF => ?_
    refine d_skip 5 12 10 (j := 3) (want := true) (op := (Go.Op.load 3 (Go.Operand.tmp 11))) hF hS (by kernel_rfl) (by kernel_rfl) rfl (by kernel_rfl) (by decide) fun a hF => ?_
    refine d_skip 6 13 10 (j := 3) (want := true) (op := (Go.Op.move (Go.Operand.tmp 2))) hF hS (by kernel_rfl) (by kernel_rfl) rfl (by kernel_rfl) (by decide) fun a hF => ?_
    refine d_skip 7 14 10 (j := 3) (want := true) (op := (Go.Op.binOp Go.BinOp.lss 3 (Go.Operand.tmp 12) (Go.Operand.tmp 13) 3)) hF hS (by kernel_rfl) (by kernel_rfl) rfl (by kernel_rfl) (by decide) fun a hF => ?_
    refine d_val 8 15 (op := (Go.Op.pick (Go.Operand.tmp 10) (Go.Operand.tmp 14) (Go.Operand.const (Go.Value.bool false)))) hF hS (by kernel_rfl) (fun W hW => x_pick rfl rfl) (by kernel_rfl) (by decide) fun a hF => ?_
    refine d_val 9 16 (op := (Go.Op.move (Go.Operand.tmp 15))) hF hS (by kernel_rfl) (fun W hW => x_move rfl) (by kernel_rfl) (by decide) fun a hF => ?_
    refine d_skip 10 17 16 (j := 9) (want := true) (op := (Go.Op.load 26 (Go.Operand.tmp 3))) hF hS (by kernel_rfl) (by kernel_rfl) rfl (by kernel_rfl) (by decide) fun a hF => ?_
    refine d_skip 11 18 16 (j := 9) (want := true) (op := (Go.Op.fieldAddr 26 (Go.Operand.tmp 3) 0)) hF hS (by kernel_rfl) (by kernel_rfl) rfl (by kernel_rfl) (by decide) fun a hF => ?_
    refine d_skip 12 19 16 (j := 9) (want := true) (op := (Go.Op.load 3 (Go.Operand.tmp 18))) hF hS (by kernel_rfl) (by kernel_rfl) rfl (by kernel_rfl) (by decide) fun a hF => ?_
    refine d_skip 13 20 16 (j := 9) (want := true) (op := (Go.Op.move (Go.Operand.tmp 1))) hF hS (by kernel_rfl) (by kernel_rfl) rfl (by kernel_rfl) (by decide) fun a hF => ?_
    refine d_skip 14 21 16 (j := 9) (want := true) (op := (Go.Op.call (Go.Call.mk (Go.Callee.value (Go.Operand.func 8)) #[(Go.Operand.tmp 19), (Go.Operand.tmp 20)] #[3, 22]))) hF hS (by kernel_rfl) (by kernel_rfl) rfl (by kernel_rfl) (by decide) fun a hF => ?_
    refine d_skip 15 22 16 (j := 9) (want := true) (op := (Go.Op.binOp Go.BinOp.eql 26 (Go.Operand.tmp 17) (Go.Operand.tmp 21) 26)) hF hS (by kernel_rfl) (by kernel_rfl) rfl (by kernel_rfl) (by decide) fun a hF => ?_
    refine d_val 16 23 (op := (Go.Op.pick (Go.Operand.tmp 16) (Go.Operand.tmp 22) (Go.Operand.const (Go.Value.bool false)))) hF hS (by kernel_rfl) (fun W hW => x_pick rfl rfl) (by kernel_rfl) (by decide) fun a hF => ?_
    refine d_val 17 6 (op := (Go.Op.assign (Go.Operand.tmp 23))) hF hS (by kernel_rfl) (fun W hW => x_assign rfl) (by kernel_rfl) (by decide) fun a hF => ?_
    refine d_end (by kernel_rfl) (hK3 _ _ ?_)
    refine wp_ret (res_slot hF rfl rfl ⟨by first | (rw [and3 hk hn]) | (rw [decide_eq_false (fun h => by omega)]), hB⟩)
  · skip
    refine dk_seq (w2.heap.size) (ops := regOps Tryd.f10 1) (N := 18) (by kernel_rfl) wide_orders (by kernel_rfl) fun w6 hw6 B7 hS K4 hK4 => ?_
    have zw6 : w6.heap.size = w2.heap.size := by rw [hw6]
    have sB7 := B7.size
    have hB := hB.trans (B7.mono hB.size)
    have m3 := m3.old B7
    have m3_d := m3
    have hB_d := hB
    refine d_val 0 7 (op := (Go.Op.fieldAddr 26 (Go.Operand.tmp 3) 0)) hF hS (by kernel_rfl) (fun W hW => x_key rfl) (by kernel_rfl) (by decide) fun a hF => ?_
    refine d_val 1 8 (op := (Go.Op.load 3 (Go.Operand.tmp 7))) hF hS (by kernel_rfl) (fun W hW => x_loadK (m3_d.kq hW (by omega)) rfl) (by kernel_rfl) (by decide) fun a hF => ?_
    refine d_val 2 9 (op := (Go.Op.binOp Go.BinOp.geq 3 (Go.Operand.tmp 8) (Go.Operand.const (Go.Value.int Go.IntKind.i64 0)) 3)) hF hS (by kernel_rfl) (fun W hW => x_geq (b := true) (decide_eq_true (by omega)) rfl rfl) (by kernel_rfl) (by decide) fun a hF => ?_
    refine d_val 3 10 (op := (Go.Op.move (Go.Operand.tmp 9))) hF hS (by kernel_rfl) (fun W hW => x_move rfl) (by kernel_rfl) (by decide) fun a hF => ?_
    refine d_valg 4 11 10 (j := 3) (want := true) (op := (Go.Op.fieldAddr 26 (Go.Operand.tmp 3) 0)) hF hS (by kernel_rfl) (by kernel_rfl) rfl (fun W hW => x_key rfl) (by kernel_rfl) (by decide) fun a hF => ?_
    refine d_valg 5 12 10 (j := 3) (want := true) (op := (Go.Op.load 3 (Go.Operand.tmp 11))) hF hS (by kernel_rfl) (by kernel_rfl) rfl (fun W hW => x_loadK (m3_d.kq hW (by omega)) rfl) (by kernel_rfl) (by decide) fun a hF => ?_
    refine d_valg 6 13 10 (j := 3) (want := true) (op := (Go.Op.move (Go.Operand.tmp 2))) hF hS (by kernel_rfl) (by kernel_rfl) rfl (fun W hW => x_move rfl) (by kernel_rfl) (by decide) fun a hF => ?_
    refine d_valg 7 14 10 (j := 3) (want := true) (op := (Go.Op.binOp Go.BinOp.lss 3 (Go.Operand.tmp 12) (Go.Operand.tmp 13) 3)) hF hS (by kernel_rfl) (by kernel_rfl) rfl (fun W hW => x_lss (b := true) (decide_eq_true (by omega)) rfl rfl) (by kernel_rfl) (by decide) fun a hF => ?_
    refine d_val 8 15 (op := (Go.Op.pick (Go.Operand.tmp 10) (Go.Operand.tmp 14) (Go.Operand.const (Go.Value.bool false)))) hF hS (by kernel_rfl) (fun W hW => x_pick rfl rfl) (by kernel_rfl) (by decide) fun a hF => ?_
    refine d_val 9 16 (op := (Go.Op.move (Go.Operand.tmp 15))) hF hS (by kernel_rfl) (fun W hW => x_move rfl) (by kernel_rfl) (by decide) fun a hF => ?_
    refine d_valg 10 17 16 (j := 9) (want := true) (op := (Go.Op.load 26 (Go.Operand.tmp 3))) hF hS (by kernel_rfl) (by kernel_rfl) rfl (fun W hW => x_loadG hs (m3_d.kq hW (by omega)) rfl) (by kernel_rfl) (by decide) fun a hF => ?_
    refine d_valg 11 18 16 (j := 9) (want := true) (op := (Go.Op.fieldAddr 26 (Go.Operand.tmp 3) 0)) hF hS (by kernel_rfl) (by kernel_rfl) rfl (fun W hW => x_key rfl) (by kernel_rfl) (by decide) fun a hF => ?_
    refine d_valg 12 19 16 (j := 9) (want := true) (op := (Go.Op.load 3 (Go.Operand.tmp 18))) hF hS (by kernel_rfl) (by kernel_rfl) rfl (fun W hW => x_loadK (m3_d.kq hW (by omega)) rfl) (by kernel_rfl) (by decide) fun a hF => ?_
    refine d_valg 13 20 16 (j := 9) (want := true) (op := (Go.Op.move (Go.Operand.tmp 1))) hF hS (by kernel_rfl) (by kernel_rfl) rfl (fun W hW => x_move rfl) (by kernel_rfl) (by decide) fun a hF => ?_
    refine d_oneg 14 16 (some 21) (Go.Op.call (Go.Call.mk (Go.Callee.value (Go.Operand.func 8)) #[(Go.Operand.tmp 19), (Go.Operand.tmp 20)] #[3, 22])) (j := 9) (want := true) hF (by kernel_rfl) (by kernel_rfl) (by kernel_rfl) rfl fun ty pos af => ?_
    refine s_callB [.int .i64 s.1, .slice av bs.length cv] hF (enters_of Tryd.func8 (by kernel_rfl) rfl) rfl (by decide) (rsign8 s.1 _ bs _ w6 (hR.below hB) hlen) fun w8 a B9 hF => ?_
    have sB9 := B9.size
    have hB := hB.trans (B9.mono hB.size)
    have m3 := m3.old B9
    have hS := hS.below B9
    refine s_end ⟨hS, ?_⟩
    refine d_valg 15 22 16 (j := 9) (want := true) (op := (Go.Op.binOp Go.BinOp.eql 26 (Go.Operand.tmp 17) (Go.Operand.tmp 21) 26)) hF hS (by kernel_rfl) (by kernel_rfl) rfl (fun W hW => x_eqG (b := decide (s = signS s.1 bs)) hs (signS_good _ _) rfl rfl rfl) (by kernel_rfl) (by decide) fun a hF => ?_
    refine d_val 16 23 (op := (Go.Op.pick (Go.Operand.tmp 16) (Go.Operand.tmp 22) (Go.Operand.const (Go.Value.bool false)))) hF hS (by kernel_rfl) (fun W hW => x_pick rfl rfl) (by kernel_rfl) (by decide) fun a hF => ?_
    refine d_val 17 6 (op := (Go.Op.assign (Go.Operand.tmp 23))) hF hS (by kernel_rfl) (fun W hW => x_assign rfl) (by kernel_rfl) (by decide) fun a hF => ?_
    refine d_end (by kernel_rfl) (hK4 _ _ ?_)
    refine wp_ret (res_slot hF rfl rfl ⟨by first | (rw [and3 hk hn]) | (rw [decide_eq_false (fun h => by omega)]), hB⟩)
  · skip
    refine dk_seq (w2.heap.size) (ops := regOps Tryd.f10 1) (N := 18) (by kernel_rfl) wide_orders (by kernel_rfl) fun w10 hw10 B11 hS K5 hK5 => ?_
    have zw10 : w10.heap.size = w2.heap.size := by rw [hw10]
    have sB11 := B11.size
    have hB := hB.trans (B11.mono hB.size)
    have m3 := m3.old B11
    have m3_d := m3
    have hB_d := hB
    refine d_val 0 7 (op := (Go.Op.fieldAddr 26 (Go.Operand.tmp 3) 0)) hF hS (by kernel_rfl) (fun W hW => x_key rfl) (by kernel_rfl) (by decide) fun a hF => ?_
    refine d_val 1 8 (op := (Go.Op.load 3 (Go.Operand.tmp 7))) hF hS (by kernel_rfl) (fun W hW => x_loadK (m3_d.kq hW (by omega)) rfl) (by kernel_rfl) (by decide) fun a hF => ?_
    refine d_val 2 9 (op := (Go.Op.binOp Go.BinOp.geq 3 (Go.Operand.tmp 8) (Go.Operand.const (Go.Value.int Go.IntKind.i64 0)) 3)) hF hS (by kernel_rfl) (fun W hW => x_geq (b := true) (decide_eq_true (by omega)) rfl rfl) (by kernel_rfl) (by decide) fun a hF => ?_
    refine d_val 3 10 (op := (Go.Op.move (Go.Operand.tmp 9))) hF hS (by kernel_rfl) (fun W hW => x_move rfl) (by kernel_rfl) (by decide) fun a hF => ?_
    refine d_valg 4 11 10 (j := 3) (want := true) (op := (Go.Op.fieldAddr 26 (Go.Operand.tmp 3) 0)) hF hS (by kernel_rfl) (by kernel_rfl) rfl (fun W hW => x_key rfl) (by kernel_rfl) (by decide) fun a hF => ?_
    refine d_valg 5 12 10 (j := 3) (want := true) (op := (Go.Op.load 3 (Go.Operand.tmp 11))) hF hS (by kernel_rfl) (by kernel_rfl) rfl (fun W hW => x_loadK (m3_d.kq hW (by omega)) rfl) (by kernel_rfl) (by decide) fun a hF => ?_
    refine d_valg 6 13 10 (j := 3) (want := true) (op := (Go.Op.move (Go.Operand.tmp 2))) hF hS (by kernel_rfl) (by kernel_rfl) rfl (fun W hW => x_move rfl) (by kernel_rfl) (by decide) fun a hF => ?_
    refine d_valg 7 14 10 (j := 3) (want := true) (op := (Go.Op.binOp Go.BinOp.lss 3 (Go.Operand.tmp 12) (Go.Operand.tmp 13) 3)) hF hS (by kernel_rfl) (by kernel_rfl) rfl (fun W hW => x_lss (b := false) (decide_eq_false (by omega)) rfl rfl) (by kernel_rfl) (by decide) fun a hF => ?_
    refine d_val 8 15 (op := (Go.Op.pick (Go.Operand.tmp 10) (Go.Operand.tmp 14) (Go.Operand.const (Go.Value.bool false)))) hF hS (by kernel_rfl) (fun W hW => x_pick rfl rfl) (by kernel_rfl) (by decide) fun a hF => ?_
    refine d_val 9 16 (op := (Go.Op.move (Go.Operand.tmp 15))) hF hS (by kernel_rfl) (fun W hW => x_move rfl) (by kernel_rfl) (by decide) fun a hF => ?_
    refine d_skip 10 17 16 (j := 9) (want := true) (op := (Go.Op.load 26 (Go.Operand.tmp 3))) hF hS (by kernel_rfl) (by kernel_rfl) rfl (by kernel_rfl) (by decide) fun a hF => ?_
    refine d_skip 11 18 16 (j := 9) (want := true) (op := (Go.Op.fieldAddr 26 (Go.Operand.tmp 3) 0)) hF hS (by kernel_rfl) (by kernel_rfl) rfl (by kernel_rfl) (by decide) fun a hF => ?_
    refine d_skip 12 19 16 (j := 9) (want := true) (op := (Go.Op.load 3 (Go.Operand.tmp 18))) hF hS (by kernel_rfl) (by kernel_rfl) rfl (by kernel_rfl) (by decide) fun a hF => ?_
    refine d_skip 13 20 16 (j := 9) (want := true) (op := (Go.Op.move (Go.Operand.tmp 1))) hF hS (by kernel_rfl) (by kernel_rfl) rfl (by kernel_rfl) (by decide) fun a hF => ?_
    refine d_skip 14 21 16 (j := 9) (want := true) (op := (Go.Op.call (Go.Call.mk (Go.Callee.value (Go.Operand.func 8)) #[(Go.Operand.tmp 19), (Go.Operand.tmp 20)] #[3, 22]))) hF hS (by kernel_rfl) (by kernel_rfl) rfl (by kernel_rfl) (by decide) fun a hF => ?_
    refine d_skip 15 22 16 (j := 9) (want := true) (op := (Go.Op.binOp Go.BinOp.eql 26 (Go.Operand.tmp 17) (Go.Operand.tmp 21) 26)) hF hS (by kernel_rfl) (by kernel_rfl) rfl (by kernel_rfl) (by decide) fun a hF => ?_
    refine d_val 16 23 (op := (Go.Op.pick (Go.Operand.tmp 16) (Go.Operand.tmp 22) (Go.Operand.const (Go.Value.bool false)))) hF hS (by kernel_rfl) (fun W hW => x_pick rfl rfl) (by kernel_rfl) (by decide) fun a hF => ?_
    refine d_val 17 6 (op := (Go.Op.assign (Go.Operand.tmp 23))) hF hS (by kernel_rfl) (fun W hW => x_assign rfl) (by kernel_rfl) (by decide) fun a hF => ?_
    refine d_end (by kernel_rfl) (hK5 _ _ ?_)
    refine wp_ret (res_slot hF rfl rfl ⟨by first | (rw [and3 hk hn]) | (rw [decide_eq_false (fun h => by omega)]), hB⟩)

set_option maxRecDepth 100000 in
set_option maxHeartbeats 800000 in
theorem awake11 (w0 : World) (hT : Tab w0) : Calls Tryd.prog 11 #[] w0 fun e w' => e = .returned (.bool true) ∧ Below w0.heap.size w0 w' := by
  have hB := Below.refl w0.heap.size w0
  have sB := hB.size
  refine calls_fs (vs := []) 7 [] Tryd.func11 rfl rfl rfl rfl rfl fun a hF => ?_
  refine wp_rs fun K1 hK1 => ?_
  refine s_val hF (x_assign rfl) (by decide) fun a hF => ?_
  refine s_end (hK1 _ _ ?_)
  refine wp_rs fun K2 hK2 => ?_
  refine s_lit [109] hF (by decide) rfl Tryd.underlying22 (size_flat flat5) zero5 rfl (by decide) (by decide) fun w2 b1 a eb1 m1 B3 zb1 hF => ?_
  have sB3 := B3.size
  have hB := hB.trans (B3.mono hB.size)
  refine s_mark (bs := [109]) (b1 + 1) hF (by decide) rfl m1 (by omega) fun w4 a hR1 o5 hF => ?_
  have so5 := o5.size
  have hB := hB.trans (o5.below (by omega))
  refine s_callB [.int .i64 2, _] hF (enters_of Tryd.func7 (by kernel_rfl) rfl) rfl (by decide) (sign7 2 _ [109] _ w4 hR1 (by decide) (hT.old hB)) fun w6 a B7 hF => ?_
  have sB7 := B7.size
  have hB := hB.trans (B7.mono hB.size)
  refine s_lit [109] hF (by decide) rfl Tryd.underlying22 (size_flat flat5) zero5 rfl (by decide) (by decide) fun w8 b2 a eb2 m2 B9 zb2 hF => ?_
  have sB9 := B9.size
  have hB := hB.trans (B9.mono hB.size)
  refine s_mark (bs := [109]) (b2 + 1) hF (by decide) rfl m2 (by omega) fun w10 a hR2 o11 hF => ?_
  have so11 := o11.size
  have hB := hB.trans (o11.below (by omega))
  refine s_callB [sigv (signS 2 [109]), _, .int .i64 4] hF (enters_of Tryd.func9 (by kernel_rfl) rfl) rfl (by decide) (valid9 _ (signS_good _ _) _ [109] _ 4 w10 hR2 (by decide) (hT.old hB)) fun w12 a B13 hF => ?_
  have sB13 := B13.size
  have hB := hB.trans (B13.mono hB.size)
  refine s_val hF (x_assign rfl) (by decide) fun a hF => ?_
  refine s_end (hK2 _ _ ?_)
  refine wp_ret (res_slot hF rfl rfl ⟨by rw [decide_eq_true ⟨by show (0 : Int) ≤ 2; omega, by show (2 : Int) < 4; omega, rfl⟩], hB⟩)
end Go.Proofs.YtefpenjcgplamaaDoor
