/- assizeref3.Sum. -/
import Derived.Test.YtefpenjcgplamaaDoorBlock
namespace Go.Proofs.YtefpenjcgplamaaDoor
open Go.RowKit Go.Shelf
set_option linter.unusedVariables false
set_option linter.unusedSimpArgs false

theorem tl_get (c : UInt64) : ∀ n k, k < n → (tl c n).getD k 0 = (c >>> UInt64.ofNat (8 * (n - 1 - k))).toUInt8
  | 0, k, h => by omega
  | n + 1, 0, h => by simp [tl]
  | n + 1, k + 1, h => by
    have := tl_get c n k (by omega)
    simp only [tl, List.getD_cons_succ, this]
    rw [show n - 1 - k = n + 1 - 1 - (k + 1) by omega]
theorem RB.upto {ex : Nat} {W : World} {a : Option Addr} {N c : Nat} {bs : List UInt8} (h : RB ex W (.slice a N c) bs) {k : Nat} (hk : k ≤ bs.length) : RB ex W (.slice a k c) (bs.take k) := by
  rcases h with ⟨a', c', e, rfl, h⟩ | ⟨b, off, cap, e, h1, hx, hl, h2⟩
  · cases e
    obtain rfl : k = 0 := by simpa using hk
    exact .inl ⟨_, _, rfl, by simp, h⟩
  · cases e
    have e : (bs.take k).length = k := by simp; omega
    refine .inr ⟨b, off, c, by rw [e], by omega, hx, hl, fun j u hj => h2 j u ?_⟩
    rw [List.getElem?_take] at hj
    split at hj
    · exact hj
    · cases hj
/-- The message with its ending, as it is laid. -/
theorem full_is (bs : List UInt8) (j : Nat) (hj : (bs.length + 1 + j) % 64 = 56) (hm : ∀ i, i < j → (bs.length + 1 + i) % 64 ≠ 56) : ((bs ++ [128]) ++ List.replicate j 0) ++ tl (UInt64.ofNat bs.length * 8) 8 = bs ++ endingL bs.length := by
  have h := pad_end bs.length j hj hm
  rw [endingL, endW, show endLen bs.length - 1 - 8 = j by omega]
  simp

theorem splice_all (xs ys : List Value) (h : xs.length = ys.length) : xs.take 0 ++ ys ++ xs.drop (0 + ys.length) = ys := by simp [← h]

/-- What Sum keeps. -/
structure RsI (w0 w : World) (b2 b3 b6 : Nat) (us : List UInt32) : Prop where
  below : Below w0.heap.size w0 w
  o2 : w0.heap.size ≤ b2
  o6 : w0.heap.size ≤ b6
  n26 : b2 ≠ b6
  n36 : b3 ≠ b6
  m2 : Blk w b2 24 ((List.replicate 32 (0 : UInt8)).map encB)
  m3 : Blk w b3 66 (kTab.map encW)
  m6 : Blk w b6 58 (us.map encW)
theorem RsI.old {w0 w w' : World} {b2 b3 b6 : Nat} {us : List UInt32} (h : RsI w0 w b2 b3 b6 us) (hB : Below w.heap.size w w') : RsI w0 w' b2 b3 b6 us :=
  ⟨h.below.trans (hB.mono h.below.size), h.o2, h.o6, h.n26, h.n36, h.m2.old hB, h.m3.old hB, h.m6.old hB⟩
theorem RsI.gr {w0 w w' : World} {b2 b3 b6 : Nat} {us : List UInt32} {v : Value} {xs : List UInt8} (h : RsI w0 w b2 b3 b6 us) (hO : Own w0.heap.size w v xs) (G : Gr v w w') : RsI w0 w' b2 b3 b6 us :=
  ⟨h.below.trans (G.below h.below.size fun k hk => (hO.block_lt hk).1), h.o2, h.o6, h.n26, h.n36, G.blk h.m2 (hO.ne h.m2 (by decide)), G.blk h.m3 (hO.ne h.m3 (by decide)), G.blk h.m6 (hO.ne h.m6 (by decide))⟩
theorem RsI.put6 {w0 w w' : World} {b2 b3 b6 : Nat} {us vs : List UInt32} (h : RsI w0 w b2 b3 b6 us) (ho : Only b6 w w') (hB : Blk w' b6 58 (vs.map encW)) : RsI w0 w' b2 b3 b6 vs :=
  ⟨h.below.trans (ho.below h.o6), h.o2, h.o6, h.n26, h.n36, h.m2.only ho h.n26, h.m3.only ho h.n36, hB⟩
theorem RsI.drawn {w0 w : World} {b2 b3 b6 : Nat} {us : List UInt32} (h : RsI w0 w b2 b3 b6 us) : RsI w0 w.drew b2 b3 b6 us := ⟨h.below.drew, h.o2, h.o6, h.n26, h.n36, h.m2, h.m3, h.m6⟩

set_option maxRecDepth 100000 in
set_option maxHeartbeats 1600000 in
theorem rsum11 (ex : Nat) (bs : List UInt8) (v : Value) (w0 : World) (hR : RB ex w0 v bs) (hlen : bs.length + 128 ≤ 140737488355328) :
    Calls Tryd.prog 21 #[v] w0 fun e w' => e = .returned (.agg ((shaL kTab bs).map encB).toArray) ∧ Below w0.heap.size w0 w' := by
  obtain ⟨av, cv, rfl, _, _⟩ := hR.form
  have hp := primes310
  obtain ⟨cnt, hcnt⟩ : ∃ c, c = UInt64.ofNat bs.length * 8 := ⟨_, rfl⟩
  refine calls_fs 85 [(0, .slice av bs.length cv)] Tryd.func21 rfl rfl rfl rfl rfl fun a hF => ?_
  refine wp_rs fun K1 hK1 => ?_
  refine s_alloc hF (by decide) zero24 fun w1 b2 a e2 m2 B1 z1 hF => ?_
  refine s_end (hK1 _ _ ?_)
  refine wp_rs fun K2 hK2 => ?_
  refine s_alloc hF (by decide) zero49 fun w2 b3 a e3 m3 B2 z2 hF => ?_
  refine s_end (hK2 _ _ ?_)
  refine wp_seq_k fun K3 hK3 => ?_
  refine wp_rs fun K4 hK4 => ?_
  refine s_call0 (R := fun v w' => v = .agg ((primesL 310).map encD).toArray ∧ Below w2.heap.size w2 w') hF (enters_of Tryd.func27 (by kernel_rfl) rfl) (by decide) ((primes19 w2).mono fun e w' h => ⟨_, h.1, rfl, h.2⟩) ?_
  rintro _ w3 a ⟨rfl, B3⟩ hF
  refine s_val hF (x_move rfl) (by decide) fun a hF => ?_
  refine s_end (hK4 _ _ ?_)
  refine wp_block ?_
  refine wp_up 64 (fun i a w => Blk w b3 66 ((pad 64 0 (((primesL 310).take i).map rootL)).map encW) ∧ Blk w b2 24 ((List.replicate 32 (0 : UInt8)).map encB) ∧ Below w0.heap.size w0 w ∧ Fs 85 a [(15, .int .i64 (i : Int)), (14, .agg ((primesL 310).map encD).toArray), (0, .slice av bs.length cv), (2, .pointer (some ⟨b2, 0, none⟩)), (3, .pointer (some ⟨b3, 0, none⟩))]) ⟨by rw [List.take_zero, List.map_nil, pad_nil]; exact m3.old B3, (m2.old B2).old B3, by have h2 := B1.trans (B2.mono (by omega)); exact h2.trans (B3.mono h2.size), hF.sub _ rfl⟩ ?_
  clear hF m3 m2
  rintro i a w hi ⟨m3, m2, hB, hF⟩ K' hK'
  have hl : (((primesL 310).take i).map rootL).length = i := by rw [List.length_map, List.length_take]; omega
  refine wp_rs fun K5 hK5 => ?_
  refine s_val hF (x_lss rfl rfl rfl) (by decide) fun a hF => ?_
  refine s_end (hK5 _ _ ?_)
  refine wp_seq_k fun K6 hK6 => ?_
  refine wp_iff hF rfl (fun hc16 => ?_) (fun hc16 => ?_)
  · refine wp_skip (hK6 _ _ ?_)
    refine wp_seq_k fun K7 hK7 => ?_
    refine wp_block ?_
    refine wp_rs fun K8 hK8 => ?_
    refine s_val hF (x_move rfl) (by decide) fun a hF => ?_
    refine s_val hF (x_ix (v := encD ((primesL 310).getD i 0)) rfl rfl (m_ix i Tryd.underlying67 flat29 rfl (by rw [List.length_map, hp]) (by rw [List.getElem?_map, getD_get (primesL 310) i 0 (by omega)]; rfl))) (by decide) fun a hF => ?_
    refine s_val hF (x_assign rfl) (by decide) fun a hF => ?_
    refine s_val hF (x_assign rfl) (by decide) fun a hF => ?_
    refine s_end (hK8 _ _ ?_)
    refine wp_region_lit ?_
    refine s_val hF (x_move rfl) (by decide) fun a hF => ?_
    refine s_val hF (x_move rfl) (by decide) fun a hF => ?_
    refine s_tup1 hF (enters_of Tryd.func28 (by kernel_rfl) rfl) rfl (by decide) (root20 ((primesL 310).getD i 0) w) fun a hF => ?_
    refine s_val hF (x_ixa rfl rfl (m_ixa0 (i) Tryd.underlying66 (size_flat flat43) (by omega) (by omega))) (by decide) fun a hF => ?_
    refine s_put hF rfl rfl flat43 m3 (by rw [len_pad (by omega)]; omega) rfl fun w4 m4 o4 => ?_
    rw [set_pad _ i hl (by omega)] at m4
    have hnx : ((primesL 310).take (i + 1)).map rootL = ((primesL 310).take i).map rootL ++ [rootL ((primesL 310).getD i 0)] := by rw [take_snoc _ i 0 (by omega), List.map_append]; rfl
    refine s_end (hK7 _ _ ?_)
    refine wp_region_lit ?_
    refine s_val hF (x_addn (i + 1) (by omega) (by omega) rfl rfl) (by decide) fun a hF => ?_
    refine s_val hF (x_move rfl) (by decide) fun a hF => ?_
    refine s_end (hK' _ _ (by omega) ⟨by rw [hnx]; exact m4, m2.only o4 (by omega), hB.trans (o4.below (by omega)), hF.sub _ rfl⟩)
  · obtain rfl : i = 64 := by omega
    rw [show ((primesL 310).take 64).map rootL = kTab by rw [List.take_of_length_le (by omega), roots_are], pad_full 64 0 _ kTab_length] at m3
    refine wp_exit (hK3 _ _ ?_)
    refine wp_rs fun K9 hK9 => ?_
    refine s_val hF (x_build (vs := ivL.zipIdx.map fun p => (p.2, encW p.1)) rfl (run_build _ 58 _ (ivL.map encW).toArray (by kernel_rfl))) (by decide) fun a hF => ?_
    refine s_alloc hF (by decide) zero44 fun w5 b6 a e6 m6 B5 z5 hF => ?_
    refine s_putW hF rfl rfl (size_wide wide44) m6 rfl (oneW _) fun w6 m6 o6 => ?_
    have hI : RsI w0 w6 b2 b3 b6 ivL := ⟨(hB.trans (B5.mono hB.size)).trans (o6.below (by have := hB.size; omega)), by omega, by have := hB.size; omega, by have := m2.lt; omega, by have := m3.lt; omega, (m2.old B5).only o6 (by have := m2.lt; omega), (m3.old B5).only o6 (by have := m3.lt; omega), m6⟩
    refine s_end (hK9 _ _ ?_)
    refine wp_rs fun K10 hK10 => ?_
    refine s_val hF (x_move rfl) (by decide) fun a hF => ?_
    refine s_append hF (by decide) (v := .slice none 0 0) rfl rfl (Own.nil w0.heap.size w6) (hR.below hI.below) (by simp; omega) hI.below.size fun v7 w7 a hO7 G7 _ hF => ?_
    have hI7 := hI.gr (Own.nil _ _) G7
    rw [List.nil_append] at hO7
    refine s_lit [128] hF (by decide) rfl Tryd.underlying22 (size_flat flat5) zero5 rfl (by decide) (by decide) fun w8 b8 a e8 m8 B8 z8 hF => ?_
    have hI8 := hI7.old B8
    have hO8 := hO7.below B8
    refine s_append hF (by decide) rfl rfl hO8 (RB.blk (ex := b8 + 1) m8 (by omega)) (by simp; omega) hI8.below.size fun v9 w9 a hO9 G9 _ hF => ?_
    have hI9 := hI8.gr hO8 G9
    refine s_val hF (x_assign rfl) (by decide) fun a hF => ?_
    refine s_end (hK10 _ _ ?_)
    refine wp_seq_k fun K11 hK11 => ?_
    refine wp_block ?_
    refine wp_up 64 (fun j a w => ∃ vv, Own w0.heap.size w vv ((bs ++ [128]) ++ List.replicate j 0) ∧ (∀ i, i < j → (bs.length + 1 + i) % 64 ≠ 56) ∧ RsI w0 w b2 b3 b6 ivL ∧ Fs 85 a [(7, vv), (0, .slice av bs.length cv), (2, .pointer (some ⟨b2, 0, none⟩)), (3, .pointer (some ⟨b3, 0, none⟩)), (6, .pointer (some ⟨b6, 0, none⟩))]) ⟨_, by simpa using hO9, fun i hi => by omega, hI9, hF.sub _ rfl⟩ ?_
    clear hF hI9 hO9 hI
    rintro j a w hj ⟨vv, hO, hmin, hI, hF⟩ K' hK'
    have hL : ((bs ++ [128]) ++ List.replicate j 0).length = bs.length + 1 + j := by simp; omega
    obtain ⟨aw, cw, rfl⟩ := hO.form
    refine wp_seq_k fun K12 hK12 => ?_
    refine wp_rs fun K13 hK13 => ?_
    refine s_val hF (x_move rfl) (by decide) fun a hF => ?_
    refine s_val hF (x_len Tryd.underlying22 rfl) (by decide) fun a hF => ?_
    refine s_val hF (x_remn ((bs.length + 1 + j) % 64) (by decide) (by rw [Int.tmod_eq_emod_of_nonneg (by omega), hL]; omega) rfl rfl) (by decide) fun a hF => ?_
    refine s_val hF (x_neq (b := decide ((bs.length + 1 + j) % 64 ≠ 56)) (by congr 1; simp; omega) rfl rfl) (by decide) fun a hF => ?_
    refine s_end (hK13 _ _ ?_)
    refine wp_iff hF rfl (fun hc32 => ?_) (fun hc32 => ?_)
    · have hj64 : j < 64 := by
        rcases Nat.lt_or_ge j 64 with h | h
        · exact h
        · have := hmin ((56 + 64 - (bs.length + 1) % 64) % 64) (by omega)
          omega
      refine wp_skip (hK12 _ _ ?_)
      refine wp_block ?_
      refine wp_region_lit ?_
      refine s_val hF (x_move rfl) (by decide) fun a hF => ?_
      refine s_lit [0] hF (by decide) rfl Tryd.underlying22 (size_flat flat5) zero5 rfl (by decide) (by decide) fun w8 b8 a e8 m8 B8 z8 hF => ?_
      have hI8 := hI.old B8
      have hO8 := hO.below B8
      refine s_append hF (by decide) rfl rfl hO8 (RB.blk (ex := b8 + 1) m8 (by omega)) (by rw [hL]; simp; omega) hI8.below.size fun v9 w9 a hO9 G9 _ hF => ?_
      have hI9 := hI8.gr hO8 G9
      refine s_val hF (x_assign rfl) (by decide) fun a hF => ?_
      refine s_end (hK' _ _ (by omega) ⟨v9, by rw [List.replicate_succ', ← List.append_assoc]; exact hO9, ?_, hI9, hF.sub _ rfl⟩)
      intro i hi
      by_cases h : i < j
      · exact hmin i h
      · obtain rfl : i = j := by omega
        exact hc32
    · have h56 : (bs.length + 1 + j) % 64 = 56 := by omega
      refine wp_exit (hK11 _ _ ?_)
      refine wp_rs fun K14 hK14 => ?_
      refine s_val hF (x_move rfl) (by decide) fun a hF => ?_
      refine s_val hF (x_len Tryd.underlying22 rfl) (by decide) fun a hF => ?_
      refine s_val hF (x_i2d Tryd.underlying3 Tryd.underlying47 rfl) (by decide) fun a hF => ?_
      refine s_val hF (x_mul64 (q := 8) rfl rfl) (by decide) fun a hF => ?_
      refine s_val hF (x_assign rfl) (by decide) fun a hF => ?_
      refine s_end (hK14 _ _ ?_)
      refine wp_seq_k fun K15 hK15 => ?_
      refine wp_rs fun K16 hK16 => ?_
      refine s_val hF (x_assign (v := .int .i64 ((7 : Int) - ((0 : Nat) : Int))) rfl) (by decide) fun a hF => ?_
      refine s_end (hK16 _ _ ?_)
      refine wp_block ?_
      refine wp_up 8 (fun k a w => ∃ vv, Own w0.heap.size w vv (((bs ++ [128]) ++ List.replicate j 0) ++ (tl cnt 8).take k) ∧ RsI w0 w b2 b3 b6 ivL ∧ Fs 85 a [(9, .int .i64 ((7 : Int) - (k : Int))), (8, encD cnt), (7, vv), (0, .slice av bs.length cv), (2, .pointer (some ⟨b2, 0, none⟩)), (3, .pointer (some ⟨b3, 0, none⟩)), (6, .pointer (some ⟨b6, 0, none⟩))]) ⟨.slice aw ((bs ++ [128]) ++ List.replicate j 0).length cw, by rw [List.take_zero, List.append_nil]; exact hO, hI, by rw [hcnt]; exact hF.sub _ rfl⟩ ?_
      clear hF hI hO
      rintro k a w hk ⟨vv, hO, hI, hF⟩ K' hK'
      refine wp_seq_k fun K17 hK17 => ?_
      refine wp_rs fun K18 hK18 => ?_
      refine s_val hF (x_move rfl) (by decide) fun a hF => ?_
      refine s_val hF (x_geq (b := decide (k ≤ 7)) (by congr 1; simp; omega) rfl rfl) (by decide) fun a hF => ?_
      refine s_end (hK18 _ _ ?_)
      refine wp_iff hF rfl (fun hc41 => ?_) (fun hc41 => ?_)
      · refine wp_skip (hK17 _ _ ?_)
        refine wp_seq_k fun K19 hK19 => ?_
        refine wp_block ?_
        refine wp_region_lit ?_
        refine s_val hF (x_move rfl) (by decide) fun a hF => ?_
        refine s_val hF (x_move rfl) (by decide) fun a hF => ?_
        refine s_val hF (x_move rfl) (by decide) fun a hF => ?_
        refine s_val hF (x_muln (8 * (7 - k)) (by omega) (by omega) rfl rfl) (by decide) fun a hF => ?_
        refine s_val hF (x_cvt (k := .u64) (r := ((8 * (7 - k) : Nat) : Int)) Tryd.underlying3 Tryd.underlying48 (by rw [wrap_u64]; omega) rfl) (by decide) fun a hF => ?_
        refine s_val hF (x_shr64 (8 * (7 - k)) rfl (by omega) rfl rfl) (by decide) fun a hF => ?_
        refine s_val hF (x_d2b Tryd.underlying47 Tryd.underlying5 rfl) (by decide) fun a hF => ?_
        refine s_lit [(cnt >>> UInt64.ofNat (8 * (7 - k))).toUInt8] hF (by decide) rfl Tryd.underlying22 (size_flat flat5) zero5 rfl (by decide) (by decide) fun w8 b8 a e8 m8 B8 z8 hF => ?_
        have hI8 := hI.old B8
        have hO8 := hO.below B8
        refine s_append hF (by decide) rfl rfl hO8 (RB.blk (ex := b8 + 1) m8 (by omega)) (by rw [List.length_append, hL, List.length_take]; simp; omega) hI8.below.size fun v9 w9 a hO9 G9 _ hF => ?_
        have hI9 := hI8.gr hO8 G9
        refine s_val hF (x_assign rfl) (by decide) fun a hF => ?_
        refine s_end (hK19 _ _ ?_)
        refine wp_region_lit ?_
        refine s_val hF (x_move rfl) (by decide) fun a hF => ?_
        refine s_val hF (x_subi ((7 : Int) - ((k + 1 : Nat) : Int)) (by omega) (by omega) (by omega) rfl rfl) (by decide) fun a hF => ?_
        refine s_val hF (x_assign rfl) (by decide) fun a hF => ?_
        refine s_end (hK' _ _ (by omega) ⟨v9, ?_, hI9, hF.sub _ rfl⟩)
        rw [take_snoc (tl cnt 8) k 0 (by rw [tl_length]; omega), tl_get cnt 8 k (by omega), show 8 - 1 - k = 7 - k by omega, ← List.append_assoc]
        exact hO9
      · obtain rfl : k = 8 := by omega
        rw [List.take_of_length_le (by rw [tl_length]; omega), hcnt, full_is bs j h56 hmin] at hO
        obtain ⟨fl, hfl⟩ : ∃ fl, fl = bs ++ endingL bs.length := ⟨_, rfl⟩
        have hfl64 : fl.length % 64 = 0 := by rw [hfl, List.length_append, endingL_length]; exact endLen_mod _
        have hflen : fl.length ≤ bs.length + 72 := by rw [hfl, List.length_append, endingL_length]; have := endLen_le bs.length; omega
        rw [← hfl] at hO
        have hRf : RB b6 w vv fl := hO.rb (hO.ne hI.m6 (by decide))
        obtain ⟨af, cf, rfl, _, _⟩ := hRf.form
        refine wp_exit (hK15 _ _ ?_)
        refine wp_seq_k fun K20 hK20 => ?_
        refine wp_block ?_
        refine wp_up (fl.length / 64) (fun k a w => ∃ a1 c1, RB b6 w (.slice a1 (fl.drop (64 * k)).length c1) (fl.drop (64 * k)) ∧ RsI w0 w b2 b3 b6 (absorb kTab k fl) ∧ Fs 85 a [(7, .slice a1 (fl.drop (64 * k)).length c1), (0, .slice av bs.length cv), (2, .pointer (some ⟨b2, 0, none⟩)), (3, .pointer (some ⟨b3, 0, none⟩)), (6, .pointer (some ⟨b6, 0, none⟩))]) ⟨af, cf, by simpa using hRf, hI, by simpa using hF.sub _ rfl⟩ ?_
        clear hF hI hO hRf
        rintro k a w hk ⟨a1, c1, hRk, hI, hF⟩ K' hK'
        refine wp_seq_k fun K21 hK21 => ?_
        refine wp_rs fun K22 hK22 => ?_
        refine s_val hF (x_move rfl) (by decide) fun a hF => ?_
        refine s_val hF (x_len Tryd.underlying22 rfl) (by decide) fun a hF => ?_
        refine s_val hF (x_gtr (b := decide (64 * k < fl.length)) (by rw [List.length_drop]; congr 1; simp; omega) rfl rfl) (by decide) fun a hF => ?_
        refine s_end (hK22 _ _ ?_)
        refine wp_iff hF rfl (fun hc55 => ?_) (fun hc55 => ?_)
        · have hc64 : 64 ≤ c1 := by
            obtain ⟨_, _, e, h, _⟩ := hRk.form
            cases e
            rw [List.length_drop] at h
            omega
          refine wp_skip (hK21 _ _ ?_)
          refine wp_block ?_
          refine wp_seq_k fun K17 hK17 => ?_
          have hkey : ∀ a w2, RB b6 w2 (.slice a1 (fl.drop (64 * k)).length c1) (fl.drop (64 * k)) → RsI w0 w2 b2 b3 b6 (absorb kTab (k + 1) fl) → Fs 85 a [(7, .slice a1 (fl.drop (64 * k)).length c1), (0, .slice av bs.length cv), (2, .pointer (some ⟨b2, 0, none⟩)), (3, .pointer (some ⟨b3, 0, none⟩)), (6, .pointer (some ⟨b6, 0, none⟩))] → K17 a w2 := by
            intro a w2 hRk2 hI2 hF
            refine hK17 _ _ ?_
            refine wp_region_lit ?_
            refine s_val hF (x_move rfl) (by decide) fun a hF => ?_
            refine s_val hF (x_slice (vlo := some (.int .i64 64)) (vhi := none) (vmx := none) rfl rfl rfl rfl (m_sliceF 64 Tryd.underlying22 (size_flat flat5) rfl (by rw [List.length_drop]; omega))) (by decide) fun a hF => ?_
            refine s_val hF (x_assign rfl) (by decide) fun a hF => ?_
            have hRn := hRk2.from (k := 64) (by rw [List.length_drop]; omega)
            rw [List.drop_drop, show 64 * k + 64 = 64 * (k + 1) by omega, show (fl.drop (64 * k)).length - 64 = (fl.drop (64 * (k + 1))).length by simp only [List.length_drop]; omega] at hRn
            rw [show (fl.drop (64 * k)).length - 64 = (fl.drop (64 * (k + 1))).length by simp only [List.length_drop]; omega] at hF
            refine s_end (hK' _ _ (by omega) ⟨_, _, hRn, hI2, hF.sub _ rfl⟩)
          refine h_start (N := 5) (S := fun _ => True) (K := K17) wide_orders (by kernel_rfl) (fun _ _ h => h) ?_
          refine h_val 1 57 (op := .move (.tmp 7)) hF trivial (by kernel_rfl) (fun W _ => x_move rfl) (by kernel_rfl) (by decide) fun a hF => ?_
          refine h_val 2 58 (op := (Go.Op.slice 22 (Go.Operand.tmp 57) none (some (Go.Operand.const (Go.Value.int Go.IntKind.i64 64))) none)) hF trivial (by kernel_rfl) (fun W _ => x_slice (vlo := none) (vhi := some (.int .i64 64)) (vmx := none) rfl rfl rfl rfl (m_sliceU 64 Tryd.underlying22 (size_flat flat5) rfl hc64)) (by kernel_rfl) (by decide) fun a hF => ?_
          have hId := hI.drawn
          have hRd : RB b6 w.drew (.slice a1 (fl.drop (64 * k)).length c1) (fl.drop (64 * k)) := hRk.below (drawn_below w)
          have hl8 : (absorb kTab k fl).length = 8 := absorb_length _ _ _
          refine h_one 0 rfl rfl (by kernel_rfl) ?_
          refine s_val hF (x_load rfl (m_loadW (by rw [List.length_map, hl8]; exact wide44) hId.m6)) (by decide) fun a hF => ?_
          refine s_end ⟨trivial, ?_⟩
          have hR64 := hRd.upto (k := 64) (by rw [List.length_drop]; omega)
          refine h_call 3 59 [.agg ((absorb kTab k fl).map encW).toArray, .slice a1 64 c1, .pointer (some ⟨b3, 0, none⟩)] (R := fun v w' => v = .agg ((mixW kTab (absorb kTab k fl) ((fl.drop (64 * k)).take 64)).map encW).toArray ∧ Below w.drew.heap.size w.drew w') hF (xs := [.tmp 56, .tmp 58, .tmp 3]) (ts := #[58, 22, 71]) (by kernel_rfl) (by kernel_rfl) (by decide) (enters_of Tryd.func29 (by kernel_rfl) rfl) rfl ((block21 b6 b3 _ _ _ hl8 (by rw [List.length_take, List.length_drop]; omega) _ hR64 hId.m3).mono fun e w' h => ⟨_, h.1, rfl, h.2⟩) ?_
          rintro _ w3 a ⟨rfl, B3⟩ hF
          refine ⟨trivial, ?_⟩
          have hI3 := hId.old B3
          have hm8 : (mixW kTab (absorb kTab k fl) ((fl.drop (64 * k)).take 64)).length = 8 := by rw [mixW_length, hl8]
          refine h_sto 4 (t := 58) (x := .tmp 6) (y := .tmp 59) hF (by kernel_rfl) (by kernel_rfl) rfl rfl (m_store hI3.m6 rfl (by rw [List.length_map, hm8]; exact size_wide wide44) (by simp [hm8, hl8]) (oneW _)) ⟨trivial, ?_⟩
          have e9 : ((absorb kTab k fl).map encW).take 0 ++ (mixW kTab (absorb kTab k fl) ((fl.drop (64 * k)).take 64)).map encW ++ ((absorb kTab k fl).map encW).drop (0 + ((mixW kTab (absorb kTab k fl) ((fl.drop (64 * k)).take 64)).map encW).length) = (absorb kTab (k + 1) fl).map encW := by
            rw [absorb]
            exact splice_all _ _ (by simp [hm8, hl8])
          rw [e9]
          have m9 := blk_setRow hI3.m6 ((absorb kTab (k + 1) fl).map encW)
          have o9 := only_setRow (w := w3) (b := b6) ((absorb kTab (k + 1) fl).map encW).toArray
          refine h_end (by kernel_rfl) (hkey _ _ ((hRd.below B3).only o9) (hI3.put6 o9 m9) (hF.sub _ rfl))
        · have hkN : k = fl.length / 64 := by omega
          refine wp_exit (hK20 _ _ ?_)
          refine wp_rs fun K23 hK23 => ?_
          refine s_alloc hF (by decide) zero24 fun w9 b10 a e10 m10 B9 z9 hF => ?_
          have hI9 := hI.old B9
          have hn10 : b2 ≠ b10 ∧ b6 ≠ b10 ∧ w0.heap.size ≤ b10 := ⟨by have := hI.m2.lt; omega, by have := hI.m6.lt; omega, by have := hI.below.size; omega⟩
          obtain ⟨us, hus⟩ : ∃ us, us = absorb kTab k fl := ⟨_, rfl⟩
          rw [← hus] at hI hI9
          have hus8 : us.length = 8 := by rw [hus, absorb_length]
          refine s_end (hK23 _ _ ?_)
          refine wp_seq_k fun K24 hK24 => ?_
          refine wp_rs fun K25 hK25 => ?_
          refine s_val hF (x_load rfl (m_loadW (by rw [List.length_map, hus8]; exact wide44) hI9.m6)) (by decide) fun a hF => ?_
          refine s_val hF (x_move rfl) (by decide) fun a hF => ?_
          refine s_end (hK25 _ _ ?_)
          refine wp_block ?_
          refine wp_up 8 (fun i a w => (∃ ds, ds.length = 4 * i + 0 ∧ grow (jb us) (32 - (4 * i + 0)) ds = joinL us ∧ Blk w b10 24 ((pad 32 0 ds).map encB) ∧ Blk w b2 24 ((List.replicate 32 (0 : UInt8)).map encB) ∧ Below w0.heap.size w0 w) ∧ Fs 85 a [(63, .int .i64 (i : Int)), (62, .agg (us.map encW).toArray), (2, .pointer (some ⟨b2, 0, none⟩)), (10, .pointer (some ⟨b10, 0, none⟩))]) ⟨⟨[], rfl, by rw [joinL], by rw [pad_nil]; exact m10, hI9.m2, hI9.below⟩, hF.sub _ rfl⟩ ?_
          clear hF m10
          rintro i a w hi ⟨⟨ds, hl, hg, m10, m2, hB⟩, hF⟩ K' hK'
          refine wp_rs fun K26 hK26 => ?_
          refine s_val hF (x_lss rfl rfl rfl) (by decide) fun a hF => ?_
          refine s_end (hK26 _ _ ?_)
          refine wp_seq_k fun K27 hK27 => ?_
          refine wp_iff hF rfl (fun hc64 => ?_) (fun hc64 => ?_)
          · refine wp_skip (hK27 _ _ ?_)
            refine wp_seq_k fun K28 hK28 => ?_
            refine wp_block ?_
            refine wp_rs fun K29 hK29 => ?_
            refine s_val hF (x_move rfl) (by decide) fun a hF => ?_
            refine s_val hF (x_ix (v := encW (us.getD i 0)) rfl rfl (m_ix i Tryd.underlying58 flat43 rfl (by rw [List.length_map, hus8]) (by rw [List.getElem?_map, getD_get us i 0 (by omega)]; rfl))) (by decide) fun a hF => ?_
            refine s_val hF (x_assign rfl) (by decide) fun a hF => ?_
            refine s_val hF (x_assign rfl) (by decide) fun a hF => ?_
            refine s_end (hK29 _ _ ?_)
            refine wp_rs fun K30 hK30 => ?_
            refine s_val hF (x_move rfl) (by decide) fun a hF => ?_
            refine s_end (hK30 _ _ ?_)
            refine wp_block ?_
            refine wp_up 4 (fun j2 a w => (∃ ds, ds.length = 4 * i + j2 ∧ grow (jb us) (32 - (4 * i + j2)) ds = joinL us ∧ Blk w b10 24 ((pad 32 0 ds).map encB) ∧ Blk w b2 24 ((List.replicate 32 (0 : UInt8)).map encB) ∧ Below w0.heap.size w0 w) ∧ Fs 85 a [(67, .int .i64 (j2 : Int)), (11, .int .i64 (i : Int)), (12, encW (us.getD i 0)), (63, .int .i64 (i : Int)), (62, .agg (us.map encW).toArray), (2, .pointer (some ⟨b2, 0, none⟩)), (10, .pointer (some ⟨b10, 0, none⟩))]) ⟨⟨ds, hl, hg, m10, m2, hB⟩, hF.sub _ rfl⟩ ?_
            clear hF m10 m2 hB hl hg
            clear ds
            rintro j2 a w hj2 ⟨⟨ds, hl, hg, m10, m2, hB⟩, hF⟩ K2' hK2'
            refine wp_rs fun K31 hK31 => ?_
            refine s_val hF (x_lss rfl rfl rfl) (by decide) fun a hF => ?_
            refine s_end (hK31 _ _ ?_)
            refine wp_seq_k fun K32 hK32 => ?_
            refine wp_iff hF rfl (fun hc68 => ?_) (fun hc68 => ?_)
            · refine wp_skip (hK32 _ _ ?_)
              refine wp_seq_k fun K33 hK33 => ?_
              refine wp_block ?_
              refine wp_rs fun K34 hK34 => ?_
              refine s_val hF (x_move rfl) (by decide) fun a hF => ?_
              refine s_val hF (x_assign rfl) (by decide) fun a hF => ?_
              refine s_end (hK34 _ _ ?_)
              refine wp_region_lit ?_
              refine s_val hF (x_move rfl) (by decide) fun a hF => ?_
              refine s_val hF (x_muln (4 * i) (by omega) (by omega) rfl rfl) (by decide) fun a hF => ?_
              refine s_val hF (x_move rfl) (by decide) fun a hF => ?_
              refine s_val hF (x_addn (4 * i + j2) (by omega) (by omega) rfl rfl) (by decide) fun a hF => ?_
              refine s_val hF (x_move rfl) (by decide) fun a hF => ?_
              refine s_val hF (x_move rfl) (by decide) fun a hF => ?_
              refine s_val hF (x_muln (8 * j2) (by omega) (by omega) rfl rfl) (by decide) fun a hF => ?_
              refine s_val hF (x_subn (24 - 8 * j2) (by omega) (by omega) rfl rfl) (by decide) fun a hF => ?_
              refine s_val hF (x_cvt (k := .u64) (r := ((24 - 8 * j2 : Nat) : Int)) Tryd.underlying3 Tryd.underlying48 (by rw [wrap_u64]; omega) rfl) (by decide) fun a hF => ?_
              refine s_val hF (x_shr32 (24 - 8 * j2) rfl (by omega) rfl rfl) (by decide) fun a hF => ?_
              refine s_val hF (x_w2b Tryd.underlying57 Tryd.underlying5 rfl) (by decide) fun a hF => ?_
              refine s_val hF (x_ixa rfl rfl (m_ixa0 (4 * i + j2) under24 (size_flat flat5) (by omega) (by omega))) (by decide) fun a hF => ?_
              refine s_put hF rfl rfl flat5 m10 (by rw [len_padB (by omega)]; omega) rfl fun w4 m4 o4 => ?_
              rw [set_padB _ _ hl (by omega)] at m4
              refine s_end (hK33 _ _ ?_)
              refine wp_region_lit ?_
              refine s_val hF (x_addn (j2 + 1) (by omega) (by omega) rfl rfl) (by decide) fun a hF => ?_
              refine s_val hF (x_move rfl) (by decide) fun a hF => ?_
              refine s_end (hK2' _ _ (by omega) ⟨⟨ds ++ [jb us ds], by simp [hl]; omega, ?_, ?_, m2.only o4 hn10.1, hB.trans (o4.below hn10.2.2)⟩, hF.sub _ rfl⟩)
              · rw [← hg, show 32 - (4 * i + j2) = (32 - (4 * i + (j2 + 1))) + 1 by omega, grow]
              · have e1 : ds.length / 4 = i := by omega
                have e2 : ds.length % 4 = j2 := by omega
                rw [jb, e1, e2]
                exact m4
            · obtain rfl : j2 = 4 := by omega
              refine wp_exit (hK28 _ _ ?_)
              refine wp_region_lit ?_
              refine s_val hF (x_addn (i + 1) (by omega) (by omega) rfl rfl) (by decide) fun a hF => ?_
              refine s_val hF (x_move rfl) (by decide) fun a hF => ?_
              refine s_end (hK' _ _ (by omega) ⟨⟨ds, by omega, hg, m10, m2, hB⟩, hF.sub _ rfl⟩)
          · obtain rfl : i = 8 := by omega
            rw [show 32 - (4 * 8 + 0) = 0 from rfl, grow] at hg
            subst hg
            rw [pad_full 32 0 _ (joinL_length us)] at m10
            refine wp_exit (hK24 _ _ ?_)
            refine wp_rs fun K35 hK35 => ?_
            refine s_val hF (x_load rfl (m_loadW (by rw [List.length_map, joinL_length]; exact wide24) m10)) (by decide) fun a hF => ?_
            refine s_putW hF rfl rfl (by rw [List.length_map, joinL_length]; exact size_wide wide24) m2 (by simp [joinL_length]) (oneB _) fun w5 m5 o5 => ?_
            refine s_end (hK35 _ _ ?_)
            have hsh : joinL us = shaL kTab bs := by rw [shaL, hus, hkN, hfl, List.length_append, endingL_length]
            refine wp_ret (res_cell hF rfl rfl m5 (by rw [List.length_map, joinL_length]; exact wide24) ⟨by rw [hsh], hB.trans (o5.below (by have := hI9.o2; omega))⟩)
end Go.Proofs.YtefpenjcgplamaaDoor
