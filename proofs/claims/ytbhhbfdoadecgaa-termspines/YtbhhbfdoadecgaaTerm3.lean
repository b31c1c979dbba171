/- raiseVar, raise, slices.Max, slices.Equal, SameInts, settle. -/
import Derived.Test.YtbhhbfdoadecgaaLevC
import Derived.Test.YtbhhbfdoadecgaaLev1
import Derived.RangeFuncNested
import Derived.RangeFuncBound
import Derived.RangeFuncCalls
import Derived.RangeFuncLeaves
import Derived.TacticsInMore
namespace Go.Proofs.Ytbhhbfdoadecgaa
open Go.RowKit Go.Shelf
set_option linter.unusedVariables false
set_option linter.unusedSimpArgs false

set_option maxRecDepth 100000 in
set_option maxHeartbeats 1600000 in
theorem raiseVar48 (base g o : Nat) (v : Value) (c : Int) (ks : List Int) (i : Nat) (k : Int) (w1 : World) (hA : FA 126 base w1 g o v c ks) (hi : i ≤ 2000) (hks : ks.length ≤ 3000) :
  Calls Try.prog 107 #[.pointer (some ⟨g, 0, none⟩), .int .i64 (i : Int), .int .i64 k] w1 fun e w' => ∃ u, e = .returned u ∧ (u = .tuple #[] ∧ ∃ v' o', FA 126 base w' g o' v' c (up ks i k) ∧ (o' = o ∨ w1.heap.size ≤ o')) ∧ Ktw g o w1 w' := by
 have hK := Ktw.refl g o w1
 refine calls_fs 37 [(0, .pointer (some ⟨g, 0, none⟩)), (1, .int .i64 (i : Int)), (2, .int .i64 k)] Try.func107 rfl rfl rfl rfl rfl fun a hF => ?_
 refine wp_seq_k fun K1 hK1 => ?_
 refine wp_block ?_
 refine wp_up (i + 1 - ks.length) (fun j a w => ∃ v' o', FA 126 base w g o' v' c (ks ++ List.replicate j (-1)) ∧ (o' = o ∨ w1.heap.size ≤ o') ∧ Ktw g o w1 w ∧ Fs 37 a [(0, .pointer (some ⟨g, 0, none⟩)), (1, .int .i64 (i : Int)), (2, .int .i64 k)]) ⟨v, o, by simpa using hA, .inl rfl, hK, hF.sub _ rfl⟩ ?_
 clear hF hK hA
 rintro j a w hj ⟨v2, o2, hA, ho2, hK, hF⟩ K' hK'
 have sK := hK.size
 obtain ⟨L, hL⟩ : ∃ L, L = ks ++ List.replicate j (-1) := ⟨_, rfl⟩
 rw [← hL] at hA
 have hLl : L.length = ks.length + j := by rw [hL]; simp
 obtain ⟨av, cv, rfl, hcv⟩ := hA.form
 have mg := hA.blk
 have hO := hA.own
 have hat := hA.at'
 have hne := hA.ne
 have hlo := hA.lo
 have hgl := mg.lt
 refine wp_seq_k fun K2 hK2 => ?_
 refine wp_rs fun K3 hK3 => ?_
 refine hF.v (x_move rfl) fun a hF => ?_
 refine hF.v (x_nil rfl) fun a hF => ?_
 refine hF.v (x_fa0 fa59_1 rfl) fun a hF => ?_
 refine hF.v (x_load rfl (m_load flat29 (mg.cell (j := 1) rfl))) fun a hF => ?_
 refine hF.v (x_len Try.underlying92 rfl) fun a hF => ?_
 refine hF.v (x_move rfl) fun a hF => ?_
 refine hF.v (x_leq (b := decide (L.length ≤ i)) (decide_eq_decide.2 (by omega)) rfl rfl) fun a hF => ?_
 refine s_end (hK3 _ _ ?_)
 refine wp_iff hF rfl (fun hc12 => ?_) (fun hc12 => ?_)
 ·
  refine wp_skip (hK2 _ _ ?_)
  refine wp_block ?_
  refine wp_region_lit ?_
  refine hF.v (x_move rfl) fun a hF => ?_
  refine hF.v (x_move rfl) fun a hF => ?_
  refine hF.v (x_nil rfl) fun a hF => ?_
  refine hF.v (x_fa0 fa59_1 rfl) fun a hF => ?_
  refine hF.v (x_load rfl (m_load flat29 (mg.cell (j := 1) rfl))) fun a hF => ?_
  refine s_litG [.int .i64 (-1)] el29 hF (by decide) rfl (by simp [Value.cells]) rfl (by decide) (by decide) fun w2 bl a ebl ml B3 zbl hF => ?_
  have sB3 := B3.size
  have hK := hK.below B3
  have mg := mg.old B3
  have hO := own_below hO B3
  have ml : Blk w2 bl 3 [.int .i64 (-1)] := by simpa [Value.cells] using ml
  refine s_app1 (o := o2) el29 hF (by decide) rfl rfl hO ml rfl (by simp [Value.oneCell']) hat (by omega) (by omega) (by decide) (by omega) fun v3 w4 a o3 hOn hOatn how hsrc k5 hkeep hF => ?_
  have sk5 := k5.size
  have hK := hK.trans k5 (by omega)
  have mg := (hkeep _ mg.lt hne).trans mg
  have hO := hOn
  have hO_at := hOatn
  have hneg : v3.ownBlock ≠ some g := fun h => by rcases hsrc g h with h | h; exact hne h; omega
  refine hF.v (x_nil rfl) fun a hF => ?_
  refine hF.v (x_fa0 fa59_1 rfl) fun a hF => ?_
  refine s_put hF rfl rfl flat29 mg (by simp) (Rd.own hO).one fun w6 mg o7 => ?_
  have so7 := o7.size
  have hK := hK.only o7 (by omega)
  have hO := own_only hO o7 (hneg)
  have hL2 : ks ++ List.replicate (j + 1) (-1) = L ++ [-1] := by rw [hL, List.append_assoc, ← List.replicate_succ']
  refine s_end (hK' _ _ (by omega) ⟨v3, o3, ⟨mg, by rw [hL2, ints_app]; simpa using hO, hO_at, hneg, by omega⟩, by omega, hK, hF.sub _ rfl⟩)
 ·
  have hjj : j = i + 1 - ks.length := by omega
  obtain ⟨o4, cap, cur, hve, hb4, mo, hc1, hc2, hc3, hc4⟩ := own_blk hO (by omega)
  cases hve
  obtain rfl : o4 = o2 := hat _ rfl
  have hgo : g ≠ o4 := fun e => hne (by rw [e]; rfl)
  rw [Nat.mul_one] at hc3 hc4
  have hcur : cur[i]? = some (.int .i64 (gt L i)) := by
   have : (cur.take L.length)[i]? = some (.int .i64 (gt L i)) := by rw [hc4, List.getElem?_map, List.getElem?_eq_getElem (by omega), gt_lt (by omega)]; rfl
   rwa [List.getElem?_take, if_pos (by omega)] at this
  have hLp : L = padL ks (i + 1) := by rw [hL, hjj]; rfl
  have mol := mo.lt
  refine wp_exit (hK1 _ _ ?_)
  refine dk2_one (o4) (o4) (ops := regOps Try.f107 2) (N := 16) (by kernel_rfl) wide_orders (by kernel_rfl) fun w8 hw8 B9 hS K4 hK4 => ?_
  have zw8 : w8.heap.size = w.heap.size := by rw [hw8]
  have sB9 := B9.size
  have hK := hK.below B9
  have mg := mg.old B9
  have mo := mo.old B9
  have mg_d := mg
  have mo_d := mo
  have hK_d := hK
  refine hF.d 0 22 (.move (.tmp 0)) hS (fun W hW => x_move rfl) fun a hF => ?_
  refine hF.d 1 23 (.nilCheck (.tmp 22)) hS (fun W hW => x_nil rfl) fun a hF => ?_
  refine hF.d 2 24 (.fieldAddr 126 (.tmp 23) 1) hS (fun W hW => x_fa0 fa59_1 rfl) fun a hF => ?_
  refine hF.d 3 25 (.load 92 (.tmp 24)) hS (fun W hW => x_load rfl (m_load flat29 ((mg_d.k2 hW (by omega)).cell (j := 1) rfl))) fun a hF => ?_
  refine hF.d 4 26 (.move (.tmp 1)) hS (fun W hW => x_move rfl) fun a hF => ?_
  refine hF.d 5 27 (.move (.tmp 0)) hS (fun W hW => x_move rfl) fun a hF => ?_
  refine hF.d 6 28 (.nilCheck (.tmp 27)) hS (fun W hW => x_nil rfl) fun a hF => ?_
  refine hF.d 7 29 (.fieldAddr 126 (.tmp 28) 1) hS (fun W hW => x_fa0 fa59_1 rfl) fun a hF => ?_
  refine hF.d 8 30 (.load 92 (.tmp 29)) hS (fun W hW => x_load rfl (m_load flat29 ((mg_d.k2 hW (by omega)).cell (j := 1) rfl))) fun a hF => ?_
  refine hF.d 9 31 (.move (.tmp 1)) hS (fun W hW => x_move rfl) fun a hF => ?_
  refine hF.d 10 32 (.indexAddr 92 (.tmp 30) (.tmp 31)) hS (fun W hW => x_ixa rfl rfl (m_ixs0 i Try.underlying92 el29.size rfl (by omega))) fun a hF => ?_
  refine hF.d 12 34 (.move (.tmp 2)) hS (fun W hW => x_move rfl) fun a hF => ?_
  refine d1 11 (some 33) (.load 3 (.tmp 32)) fun ty pos af => ?_
  refine hF.v (x_load rfl (m_load flat3 (mo.cell (j := i) hcur))) fun a hF => ?_
  refine s_end ⟨hS, ?_⟩
  refine hF.d 13 35 (.call (.mk (.builtin .max) #[(.tmp 33), (.tmp 34)] #[3, 3])) hS (fun W hW => x_imax rfl rfl) fun a hF => ?_
  refine hF.d 14 36 (.indexAddr 92 (.tmp 25) (.tmp 26)) hS (fun W hW => x_ixa rfl rfl (m_ixs0 i Try.underlying92 el29.size rfl (by omega))) fun a hF => ?_
  refine d1 15 none (.store 3 (.tmp 36) (.tmp 35)) fun ty pos af => ?_
  refine s_put hF rfl rfl flat3 mo (by omega) rfl fun wz mo oz => ?_
  have hK := hK.only oz (by omega)
  have mg := mg.only oz (by omega)
  have hS := hS.only oz (by omega)
  have szz := oz.size
  clear hO
  refine s_end ⟨hS, ?_⟩
  refine d_end (by kernel_rfl) (hK4 _ _ ?_)
  show bodyPost Try.prog Try.f107 (_) .normal a wz
  refine post_normal (res_none hF rfl ⟨_, rfl, ⟨rfl, .slice (some ⟨o4, 0, none⟩) L.length cv, o4, ⟨mg, ?_, fun j h => (Option.some.inj h).symm, fun h => hgo (Option.some.inj h).symm, by omega⟩, ho2⟩, hK⟩)
  have hup : up ks i k = L.set i (max (gt L i) k) := by rw [up, hLp, gt_pad]
  have hul : (up ks i k).length = L.length := by rw [hup, List.length_set]
  have := own_of (k := 1) (n := L.length) (xs := ints (up ks i k)) hb4 mo hc1 hc2 (by rw [List.length_set]; omega) (by rw [Nat.mul_one, List.take_set, hc4, hup, ints_set])
  rw [hul]
  exact this

set_option maxRecDepth 100000 in
set_option maxHeartbeats 1600000 in
theorem raise59 (w0 : World) (g : Nat) : ∀ (s : SL) (x : C3), RS w0 s x → s.nums 1099511627776 1001 → ∀ (n : Int) (o : Nat) (v : Value) (c : Int) (ks : List Int) (w1 : World), 0 ≤ n → n ≤ 1099511627776 → 0 ≤ c → c ≤ 1099511627776 → ks.length ≤ 1001 → Below w0.heap.size w0 w1 → FA 126 w0.heap.size w1 g o v c ks →
  Calls Try.prog 137 #[.pointer (some ⟨g, 0, none⟩), lv x, .int .i64 n] w1 fun e w' => ∃ u, e = .returned u ∧ (u = .tuple #[] ∧ ∃ v' o', FA 126 w0.heap.size w' g o' v' (rc s n c) (rk s n ks) ∧ (o' = o ∨ w1.heap.size ≤ o')) ∧ Ktw g o w1 w' := by
 intro s
 induction s with
 | num p =>
  rintro ⟨k, m, vx⟩ hS0 hnm n o v c ks w1 hn0 hn1 hc0 hc1 hkl hB hA
  have hK := Ktw.refl g o w1
  have sB := hB.size
  have hlo := hA.lo
  have hgl := hA.lt
  obtain ⟨h1, h2, h3⟩ := hS0
  simp only at h1 h2
  subst h1 h2
  have hp : p ≤ 1099511627776 := hnm
  have mg := hA.blk
  have hO := hA.own
  have hat := hA.at'
  have hne := hA.ne
  refine calls_fs 57 [(0, .pointer (some ⟨g, 0, none⟩)), (1, .agg [.int .i64 1, .int .i64 (p : Int), vx].toArray), (2, .int .i64 n)] Try.func137 rfl rfl rfl rfl rfl fun a hF => ?_
  refine wp_rs fun K1 hK1 => ?_
  refine s_box ([.int .i64 1, .int .i64 (p : Int), vx]) hF (by decide) rfl rfl fun w2 b4 a eb4 m4 B3 zb4 hF => ?_
  have sB3 := B3.size
  have hB := bt hB B3
  have hK := hK.below B3
  have mg := mg.old B3
  have hO := own_below hO B3
  refine s_end (hK1 _ _ ?_)
  refine wp_rs fun K2 hK2 => ?_
  refine hF.v (x_fa0 fa24_0 rfl) fun a hF => ?_
  refine hF.v (x_load rfl (m_load flat3 (m4.cell (j := 0) rfl))) fun a hF => ?_
  refine s_end (hK2 _ _ ?_)
  refine wp_block ?_
  refine wp_rs fun K3 hK3 => ?_
  refine hF.v (eqlT (by omega) rfl rfl) fun a hF => ?_
  refine hF.v (x_assign rfl) fun a hF => ?_
  refine s_end (hK3 _ _ ?_)
  refine wp_if hF rfl ?_
  refine dk2_one (g) (g) (ops := regOps Try.f137 3) (N := 13) (by kernel_rfl) wide_orders (by kernel_rfl) fun w4 hw4 B5 hS K4 hK4 => ?_
  have zw4 : w4.heap.size = w2.heap.size := by rw [hw4]
  have sB5 := B5.size
  have hB := bt hB B5
  have hK := hK.below B5
  have mg := mg.old B5
  have hO := own_below hO B5
  have m4 := m4.old B5
  have mg_d := mg
  have hO_d := hO
  have m4_d := m4
  have hB_d := hB
  have hK_d := hK
  refine hF.d 0 10 (.move (.tmp 0)) hS (fun W hW => x_move rfl) fun a hF => ?_
  refine hF.d 1 11 (.move (.tmp 0)) hS (fun W hW => x_move rfl) fun a hF => ?_
  refine hF.d 2 12 (.nilCheck (.tmp 11)) hS (fun W hW => x_nil rfl) fun a hF => ?_
  refine hF.d 3 13 (.fieldAddr 126 (.tmp 12) 0) hS (fun W hW => x_fa0 fa59_0 rfl) fun a hF => ?_
  refine hF.d 5 15 (.move (.tmp 2)) hS (fun W hW => x_move rfl) fun a hF => ?_
  refine hF.d 6 16 (.fieldAddr 24 (.tmp 4) 1) hS (fun W hW => x_fa0 fa24_1 rfl) fun a hF => ?_
  refine hF.d 7 17 (.load 3 (.tmp 16)) hS (fun W hW => x_load rfl (m_load flat3 ((m4_d.k2 hW (by omega)).cell (j := 1) rfl))) fun a hF => ?_
  refine d_two 4 8 (by kernel_rfl) ?_ ?_
  ·
   refine d_op 4 (some 14) (.load 3 (.tmp 13)) (by kernel_rfl) fun ty pos af => ?_
   refine hF.v (x_load rfl (m_load flat3 (mg.cell (j := 0) rfl))) fun a hF => ?_
   refine s_end ⟨hS, ?_⟩
   refine d1 8 (some 18) (.call (.mk (.value (.func 138)) #[(.tmp 15), (.tmp 17)] #[3, 3])) fun ty pos af => ?_
   refine s_callS [_, _] hF E138 rfl (by decide) (sum54 _ _ (by omega) (by omega) (by omega) (by omega) _) fun a hF => ?_
   refine s_end ⟨hS, ?_⟩
   refine hF.d 9 19 (.call (.mk (.builtin .max) #[(.tmp 14), (.tmp 18)] #[3, 3])) hS (fun W hW => x_imax rfl rfl) fun a hF => ?_
   refine hF.d 10 20 (.nilCheck (.tmp 10)) hS (fun W hW => x_nil rfl) fun a hF => ?_
   refine hF.d 11 21 (.fieldAddr 126 (.tmp 20) 0) hS (fun W hW => x_fa0 fa59_0 rfl) fun a hF => ?_
   refine d1 12 none (.store 3 (.tmp 21) (.tmp 19)) fun ty pos af => ?_
   refine s_put hF rfl rfl flat3 mg (by simp) rfl fun w6 mg o7 => ?_
   have so7 := o7.size
   have hK := hK.only o7 (by omega)
   have hO := own_only hO o7 (hne)
   have hS := hS.only o7 (by omega)
   refine s_end ⟨hS, ?_⟩
   refine d_end (by kernel_rfl) (hK4 _ _ ?_)
   show bodyPost Try.prog Try.f137 (fun e w' => ∃ u, e = .returned u ∧ (u = .tuple #[] ∧ ∃ v' o', FA 126 w0.heap.size w' g o' v' (rc (SL.num p) n c) (rk (SL.num p) n ks) ∧ (o' = o ∨ w1.heap.size ≤ o')) ∧ Ktw g o w1 w') .normal a w6
   refine post_normal (res_none hF rfl ⟨_, rfl, ⟨rfl, _, _, ⟨mg, hO, hat, hne, by omega⟩, .inl rfl⟩, hK⟩)
  ·
   refine d_op 8 (some 18) (.call (.mk (.value (.func 138)) #[(.tmp 15), (.tmp 17)] #[3, 3])) (by kernel_rfl) fun ty pos af => ?_
   refine s_callS [_, _] hF E138 rfl (by decide) (sum54 _ _ (by omega) (by omega) (by omega) (by omega) _) fun a hF => ?_
   refine s_end ⟨hS, ?_⟩
   refine d1 4 (some 14) (.load 3 (.tmp 13)) fun ty pos af => ?_
   refine hF.v (x_load rfl (m_load flat3 (mg.cell (j := 0) rfl))) fun a hF => ?_
   refine s_end ⟨hS, ?_⟩
   refine hF.d 9 19 (.call (.mk (.builtin .max) #[(.tmp 14), (.tmp 18)] #[3, 3])) hS (fun W hW => x_imax rfl rfl) fun a hF => ?_
   refine hF.d 10 20 (.nilCheck (.tmp 10)) hS (fun W hW => x_nil rfl) fun a hF => ?_
   refine hF.d 11 21 (.fieldAddr 126 (.tmp 20) 0) hS (fun W hW => x_fa0 fa59_0 rfl) fun a hF => ?_
   refine d1 12 none (.store 3 (.tmp 21) (.tmp 19)) fun ty pos af => ?_
   refine s_put hF rfl rfl flat3 mg (by simp) rfl fun w8 mg o9 => ?_
   have so9 := o9.size
   have hK := hK.only o9 (by omega)
   have hO := own_only hO o9 (hne)
   have hS := hS.only o9 (by omega)
   refine s_end ⟨hS, ?_⟩
   refine d_end (by kernel_rfl) (hK4 _ _ ?_)
   show bodyPost Try.prog Try.f137 (fun e w' => ∃ u, e = .returned u ∧ (u = .tuple #[] ∧ ∃ v' o', FA 126 w0.heap.size w' g o' v' (rc (SL.num p) n c) (rk (SL.num p) n ks) ∧ (o' = o ∨ w1.heap.size ≤ o')) ∧ Ktw g o w1 w') .normal a w8
   refine post_normal (res_none hF rfl ⟨_, rfl, ⟨rfl, _, _, ⟨mg, hO, hat, hne, by omega⟩, .inl rfl⟩, hK⟩)
 | var i =>
  rintro ⟨k, m, vx⟩ hS0 hnm n o v c ks w1 hn0 hn1 hc0 hc1 hkl hB hA
  have hK := Ktw.refl g o w1
  have sB := hB.size
  have hlo := hA.lo
  have hgl := hA.lt
  obtain ⟨h1, h2, h3⟩ := hS0
  simp only at h1 h2
  subst h1 h2
  have hi : i < 1001 := hnm
  refine calls_fs 57 [(0, .pointer (some ⟨g, 0, none⟩)), (1, .agg [.int .i64 2, .int .i64 (i : Int), vx].toArray), (2, .int .i64 n)] Try.func137 rfl rfl rfl rfl rfl fun a hF => ?_
  refine wp_rs fun K1 hK1 => ?_
  refine s_box ([.int .i64 2, .int .i64 (i : Int), vx]) hF (by decide) rfl rfl fun w2 b4 a eb4 m4 B3 zb4 hF => ?_
  have sB3 := B3.size
  have hK := hK.below B3
  have hA := hA.below B3
  refine s_end (hK1 _ _ ?_)
  refine wp_rs fun K2 hK2 => ?_
  refine hF.v (x_fa0 fa24_0 rfl) fun a hF => ?_
  refine hF.v (x_load rfl (m_load flat3 (m4.cell (j := 0) rfl))) fun a hF => ?_
  refine s_end (hK2 _ _ ?_)
  refine wp_block ?_
  refine wp_rs fun K3 hK3 => ?_
  refine hF.v (eqlF (by omega) rfl rfl) fun a hF => ?_
  refine hF.v (x_assign rfl) fun a hF => ?_
  refine s_end (hK3 _ _ ?_)
  refine wp_if hF rfl ?_
  refine wp_rs fun K4 hK4 => ?_
  refine hF.v (eqlT (by omega) rfl rfl) fun a hF => ?_
  refine hF.v (x_assign rfl) fun a hF => ?_
  refine s_end (hK4 _ _ ?_)
  refine wp_if hF rfl ?_
  refine wp_region_lit ?_
  refine hF.v (x_move rfl) fun a hF => ?_
  refine hF.v (x_fa0 fa24_1 rfl) fun a hF => ?_
  refine hF.v (x_load rfl (m_load flat3 (m4.cell (j := 1) rfl))) fun a hF => ?_
  refine hF.v (x_move rfl) fun a hF => ?_
  refine s_call (R := fun u w' => (u = .tuple #[] ∧ ∃ v' o', FA 126 w0.heap.size w' g o' v' c (up ks i n) ∧ (o' = o ∨ w2.heap.size ≤ o')) ∧ Ktw g o w2 w') hF [_, _, _] E107 rfl (by decide) (raiseVar48 w0.heap.size g o v c ks i n w2 hA (by omega) (by omega)) ?_
  rintro _ w4 a ⟨⟨rfl, v2, o2, hA, ho2⟩, k5⟩ hF
  have sk5 := k5.size
  have hK := hK.trans k5 (by omega)
  refine s_end ?_
  show bodyPost Try.prog Try.f137 (fun e w' => ∃ u, e = .returned u ∧ (u = .tuple #[] ∧ ∃ v' o', FA 126 w0.heap.size w' g o' v' (rc (SL.var i) n c) (rk (SL.var i) n ks) ∧ (o' = o ∨ w1.heap.size ≤ o')) ∧ Ktw g o w1 w') .normal a w4
  refine post_normal (res_none hF rfl ⟨_, rfl, ⟨rfl, _, _, hA, by omega⟩, hK⟩)
 | succ p sa iha =>
  rintro ⟨k, m, vx⟩ hS0 hnm n o v c ks w1 hn0 hn1 hc0 hc1 hkl hB hA
  have hK := Ktw.refl g o w1
  have sB := hB.size
  have hlo := hA.lo
  have hgl := hA.lt
  obtain ⟨h1, h2, y, h3, hy⟩ := hS0
  simp only at h1 h2 h3
  subst h1 h2
  have hp1 := hnm.1
  have hp2 := hnm.2.1
  obtain ⟨b, off, cp, rfl, hrow⟩ := rd_row1 h3
  refine calls_fs 57 [(0, .pointer (some ⟨g, 0, none⟩)), (1, .agg [.int .i64 3, .int .i64 (p : Int), .slice (some ⟨b, off, none⟩) 1 cp].toArray), (2, .int .i64 n)] Try.func137 rfl rfl rfl rfl rfl fun a hF => ?_
  refine wp_rs fun K1 hK1 => ?_
  refine s_box ([.int .i64 3, .int .i64 (p : Int), .slice (some ⟨b, off, none⟩) 1 cp]) hF (by decide) rfl rfl fun w2 b4 a eb4 m4 B3 zb4 hF => ?_
  have sB3 := B3.size
  have hB := bt hB B3
  have hK := hK.below B3
  have hA := hA.below B3
  refine s_end (hK1 _ _ ?_)
  refine wp_rs fun K2 hK2 => ?_
  refine hF.v (x_fa0 fa24_0 rfl) fun a hF => ?_
  refine hF.v (x_load rfl (m_load flat3 (m4.cell (j := 0) rfl))) fun a hF => ?_
  refine s_end (hK2 _ _ ?_)
  refine wp_block ?_
  refine wp_rs fun K3 hK3 => ?_
  refine hF.v (eqlF (by omega) rfl rfl) fun a hF => ?_
  refine hF.v (x_assign rfl) fun a hF => ?_
  refine s_end (hK3 _ _ ?_)
  refine wp_if hF rfl ?_
  refine wp_rs fun K4 hK4 => ?_
  refine hF.v (eqlF (by omega) rfl rfl) fun a hF => ?_
  refine hF.v (x_assign rfl) fun a hF => ?_
  refine s_end (hK4 _ _ ?_)
  refine wp_if hF rfl ?_
  refine wp_rs fun K5 hK5 => ?_
  refine hF.v (eqlT (by omega) rfl rfl) fun a hF => ?_
  refine hF.v (x_assign rfl) fun a hF => ?_
  refine s_end (hK5 _ _ ?_)
  refine wp_if hF rfl ?_
  refine dk2_one (g) (o) (ops := regOps Try.f137 7) (N := 10) (by kernel_rfl) wide_orders (by kernel_rfl) fun w4 hw4 B5 hS K6 hK6 => ?_
  have zw4 : w4.heap.size = w2.heap.size := by rw [hw4]
  have sB5 := B5.size
  have hB := bt hB B5
  have hK := hK.below B5
  have hA := hA.below B5
  have m4 := m4.old B5
  have hA_d := hA
  have m4_d := m4
  have hB_d := hB
  have hK_d := hK
  refine hF.d 0 31 (.move (.tmp 0)) hS (fun W hW => x_move rfl) fun a hF => ?_
  refine hF.d 1 32 (.fieldAddr 24 (.tmp 4) 2) hS (fun W hW => x_fa0 fa24_2 rfl) fun a hF => ?_
  refine hF.d 2 33 (.load 22 (.tmp 32)) hS (fun W hW => x_load rfl (m_load flat22 ((m4_d.k2 hW (by omega)).cell (j := 2) rfl))) fun a hF => ?_
  refine hF.d 3 34 (.indexAddr 22 (.tmp 33) (.const (.int .i64 0))) hS (fun W hW => x_ixa rfl rfl (m_ixsK 0 Try.underlying22 el22.size rfl (by omega))) fun a hF => ?_
  refine hF.d 4 35 (.load 24 (.tmp 34)) hS (fun W hW => x_ldA wide24 (hrow _ (hW.under hB_d (by omega))) rfl rfl) fun a hF => ?_
  refine hF.d 5 36 (.move (.tmp 2)) hS (fun W hW => x_move rfl) fun a hF => ?_
  refine hF.d 6 37 (.fieldAddr 24 (.tmp 4) 1) hS (fun W hW => x_fa0 fa24_1 rfl) fun a hF => ?_
  refine hF.d 7 38 (.load 3 (.tmp 37)) hS (fun W hW => x_load rfl (m_load flat3 ((m4_d.k2 hW (by omega)).cell (j := 1) rfl))) fun a hF => ?_
  refine d1 8 (some 39) (.call (.mk (.value (.func 138)) #[(.tmp 36), (.tmp 38)] #[3, 3])) fun ty pos af => ?_
  refine s_callS [_, _] hF E138 rfl (by decide) (sum54 _ _ (by omega) (by omega) (by omega) (by omega) _) fun a hF => ?_
  refine s_end ⟨hS, ?_⟩
  refine d1 9 (some 40) (.call (.mk (.value (.func 137)) #[(.tmp 31), (.tmp 35), (.tmp 39)] #[153, 24, 3])) fun ty pos af => ?_
  refine s_call (R := fun u w' => (u = .tuple #[] ∧ ∃ v' o', FA 126 w0.heap.size w' g o' v' (rc sa (cut (n + (p : Int))) (c)) (rk sa (cut (n + (p : Int))) (ks)) ∧ (o' = o ∨ w4.heap.size ≤ o')) ∧ Ktw g o w4 w') hF [_, _, _] E137 rfl (by decide) (iha _ hy hnm.2.2 (cut (n + (p : Int))) _ _ (c) (ks) w4 (cut_nn (by omega)) (cut_le _) hc0 hc1 hkl hB hA) ?_
  rintro _ w6 a ⟨⟨rfl, v2, o2, hA, ho2⟩, k7⟩ hF
  have sk7 := k7.size
  have hK := hK.trans k7 (by omega)
  have hS := hS.trans k7 (by omega)
  refine s_end ⟨hS, ?_⟩
  refine d_end (by kernel_rfl) (hK6 _ _ ?_)
  show bodyPost Try.prog Try.f137 (fun e w' => ∃ u, e = .returned u ∧ (u = .tuple #[] ∧ ∃ v' o', FA 126 w0.heap.size w' g o' v' (rc (SL.succ p sa) n c) (rk (SL.succ p sa) n ks) ∧ (o' = o ∨ w1.heap.size ≤ o')) ∧ Ktw g o w1 w') .normal a w6
  refine post_normal (res_none hF rfl ⟨_, rfl, ⟨rfl, _, _, hA, by omega⟩, hK⟩)
 | mx sa sb iha ihb =>
  rintro ⟨k, m, vx⟩ hS0 hnm n o v c ks w1 hn0 hn1 hc0 hc1 hkl hB hA
  have hK := Ktw.refl g o w1
  have sB := hB.size
  have hlo := hA.lo
  have hgl := hA.lt
  obtain ⟨h1, y, z, h3, hy, hz⟩ := hS0
  simp only at h1 h3
  subst h1
  obtain ⟨b, off, cp, rfl, hrow1, hrow2⟩ := rd_row2 h3
  refine calls_fs 57 [(0, .pointer (some ⟨g, 0, none⟩)), (1, .agg [.int .i64 4, .int .i64 m, .slice (some ⟨b, off, none⟩) 2 cp].toArray), (2, .int .i64 n)] Try.func137 rfl rfl rfl rfl rfl fun a hF => ?_
  refine wp_rs fun K1 hK1 => ?_
  refine s_box ([.int .i64 4, .int .i64 m, .slice (some ⟨b, off, none⟩) 2 cp]) hF (by decide) rfl rfl fun w2 b4 a eb4 m4 B3 zb4 hF => ?_
  have sB3 := B3.size
  have hB := bt hB B3
  have hK := hK.below B3
  have hA := hA.below B3
  refine s_end (hK1 _ _ ?_)
  refine wp_rs fun K2 hK2 => ?_
  refine hF.v (x_fa0 fa24_0 rfl) fun a hF => ?_
  refine hF.v (x_load rfl (m_load flat3 (m4.cell (j := 0) rfl))) fun a hF => ?_
  refine s_end (hK2 _ _ ?_)
  refine wp_block ?_
  refine wp_rs fun K3 hK3 => ?_
  refine hF.v (eqlF (by omega) rfl rfl) fun a hF => ?_
  refine hF.v (x_assign rfl) fun a hF => ?_
  refine s_end (hK3 _ _ ?_)
  refine wp_if hF rfl ?_
  refine wp_rs fun K4 hK4 => ?_
  refine hF.v (eqlF (by omega) rfl rfl) fun a hF => ?_
  refine hF.v (x_assign rfl) fun a hF => ?_
  refine s_end (hK4 _ _ ?_)
  refine wp_if hF rfl ?_
  refine wp_rs fun K5 hK5 => ?_
  refine hF.v (eqlF (by omega) rfl rfl) fun a hF => ?_
  refine hF.v (x_assign rfl) fun a hF => ?_
  refine s_end (hK5 _ _ ?_)
  refine wp_if hF rfl ?_
  refine wp_rs fun K6 hK6 => ?_
  refine hF.v (eqlT (by omega) rfl rfl) fun a hF => ?_
  refine hF.v (x_assign rfl) fun a hF => ?_
  refine s_end (hK6 _ _ ?_)
  refine wp_if hF rfl ?_
  refine wp_rs fun K7 hK7 => ?_
  refine hF.v (x_move rfl) fun a hF => ?_
  refine hF.v (x_fa0 fa24_2 rfl) fun a hF => ?_
  refine hF.v (x_load rfl (m_load flat22 (m4.cell (j := 2) rfl))) fun a hF => ?_
  refine hF.v (x_ixa rfl rfl (m_ixsK 0 Try.underlying22 el22.size rfl (by omega))) fun a hF => ?_
  refine hF.v (x_ldA wide24 (hrow1 _ hB) rfl rfl) fun a hF => ?_
  refine hF.v (x_move rfl) fun a hF => ?_
  refine s_call (R := fun u w' => (u = .tuple #[] ∧ ∃ v' o', FA 126 w0.heap.size w' g o' v' (rc sa (n) (c)) (rk sa (n) (ks)) ∧ (o' = o ∨ w2.heap.size ≤ o')) ∧ Ktw g o w2 w') hF [_, _, _] E137 rfl (by decide) (iha _ hy hnm.1 (n) _ _ (c) (ks) w2 hn0 hn1 hc0 hc1 hkl hB hA) ?_
  rintro _ w4 a ⟨⟨rfl, v2, o2, hA, ho2⟩, k5⟩ hF
  have sk5 := k5.size
  have hB := k5.under hB (by omega)
  have hK := hK.trans k5 (by omega)
  have m4 := m4.k2 k5 (by omega)
  have hlo2 := hA.lo
  have hgl2 := hA.lt
  have hbd := rc_bd (s := sa) hn0 hn1 hc0 hc1
  refine s_end (hK7 _ _ ?_)
  refine wp_region_lit ?_
  refine hF.v (x_move rfl) fun a hF => ?_
  refine hF.v (x_fa0 fa24_2 rfl) fun a hF => ?_
  refine hF.v (x_load rfl (m_load flat22 (m4.cell (j := 2) rfl))) fun a hF => ?_
  refine hF.v (x_ixa rfl rfl (m_ixsK 1 Try.underlying22 el22.size rfl (by omega))) fun a hF => ?_
  refine hF.v (x_ldA wide24 (hrow2 _ hB) rfl rfl) fun a hF => ?_
  refine hF.v (x_move rfl) fun a hF => ?_
  refine s_call (R := fun u w' => (u = .tuple #[] ∧ ∃ v' o', FA 126 w0.heap.size w' g o' v' (rc sb (n) (rc sa n c)) (rk sb (n) (rk sa n ks)) ∧ (o' = o2 ∨ w4.heap.size ≤ o')) ∧ Ktw g o2 w4 w') hF [_, _, _] E137 rfl (by decide) (ihb _ hz hnm.2 (n) _ _ (rc sa n c) (rk sa n ks) w4 hn0 hn1 hbd.1 hbd.2 (rk_len sa n ks 1001 hnm.1 hkl) hB hA) ?_
  rintro _ w6 a ⟨⟨rfl, v3, o3, hA, ho3⟩, k7⟩ hF
  have sk7 := k7.size
  have hK := hK.trans k7 (by omega)
  refine s_end ?_
  show bodyPost Try.prog Try.f137 (fun e w' => ∃ u, e = .returned u ∧ (u = .tuple #[] ∧ ∃ v' o', FA 126 w0.heap.size w' g o' v' (rc (SL.mx sa sb) n c) (rk (SL.mx sa sb) n ks) ∧ (o' = o ∨ w1.heap.size ≤ o')) ∧ Ktw g o w1 w') .normal a w6
  refine post_normal (res_none hF rfl ⟨_, rfl, ⟨rfl, _, _, hA, by omega⟩, hK⟩)

set_option maxRecDepth 100000 in
set_option maxHeartbeats 1600000 in
theorem max63 (ks : List Int) (v : Value) (w0 : World) (hn : 0 < ks.length) (hl : ks.length ≤ 9223372036854775807) (hLo : Lo ks) (hV : Rd w0 v 1 ks.length (ints ks)) : Calls Try.prog 139 #[v] w0 fun e w' => e = .returned (.int .i64 (mxl ks)) ∧ w' = w0 := by
 obtain ⟨b, off, cv, hve, hrow0⟩ := rd_rowI hV (i := 0) hn
 subst hve
 have hBr := Below.refl w0.heap.size w0
 have h0 := hLo.gt 0
 refine calls_fs 25 [(0, .slice (some ⟨b, off, none⟩) ks.length cv)] Try.func139 rfl rfl rfl rfl rfl fun a hF => ?_
 refine wp_rs fun K1 hK1 => ?_
 refine hF.v (x_assign rfl) fun a hF => ?_
 refine s_end (hK1 _ _ ?_)
 refine wp_seq_k fun K2 hK2 => ?_
 refine wp_rs fun K3 hK3 => ?_
 refine hF.v (x_move rfl) fun a hF => ?_
 refine hF.v (x_len Try.underlying92 rfl) fun a hF => ?_
 refine hF.v (lssF (by omega) rfl rfl) fun a hF => ?_
 refine s_end (hK3 _ _ ?_)
 refine wp_if hF rfl ?_
 refine wp_skip (hK2 _ _ ?_)
 refine wp_rs fun K4 hK4 => ?_
 refine hF.v (x_move rfl) fun a hF => ?_
 refine hF.v (x_ixa rfl rfl (m_ixs 0 Try.underlying92 el29.size rfl (by omega))) fun a hF => ?_
 refine hF.v (x_load rfl (m_load flat3 (hrow0 _ hBr))) fun a hF => ?_
 refine hF.v (x_assign rfl) fun a hF => ?_
 refine s_end (hK4 _ _ ?_)
 refine wp_seq_k fun K5 hK5 => ?_
 refine wp_rs fun K6 hK6 => ?_
 refine hF.v (x_assign rfl) fun a hF => ?_
 refine s_end (hK6 _ _ ?_)
 refine wp_block ?_
 refine wp_up (ks.length - 1) (fun j a w => w = w0 ∧ Fs 25 a [(3, .int .i64 ((ks.take (j + 1)).foldl max (-1))), (4, .int .i64 ((j + 1 : Nat) : Int)), (0, .slice (some ⟨b, off, none⟩) ks.length cv)]) ⟨rfl, ?_⟩ ?_
 ·
  have e1 : (ks.take 1).foldl max (-1) = gt ks 0 := by rw [List.take_one, List.head?_eq_getElem?, List.getElem?_eq_getElem hn, gt_lt hn]; simp only [Option.toList_some, List.foldl_cons, List.foldl_nil]; rw [gt_lt hn] at h0; omega
  refine hF.sub _ ?_
  show [_, _, _] = [_, _, _]
  rw [show (0 + 1 : Nat) = 1 from rfl, e1]
  rfl
 clear hF
 rintro j a w hj ⟨rfl, hF⟩ K' hK'
 refine wp_seq_k fun K7 hK7 => ?_
 refine wp_rs fun K8 hK8 => ?_
 refine hF.v (x_move rfl) fun a hF => ?_
 refine hF.v (x_move rfl) fun a hF => ?_
 refine hF.v (x_len Try.underlying92 rfl) fun a hF => ?_
 refine hF.v (x_lss (b := decide (j + 1 < ks.length)) (decide_eq_decide.2 (by omega)) rfl rfl) fun a hF => ?_
 refine s_end (hK8 _ _ ?_)
 refine wp_iff hF rfl (fun hc15 => ?_) (fun hc15 => ?_)
 ·
  obtain ⟨b2, off2, cv2, hve, hrow⟩ := rd_rowI hV (i := j + 1) (by omega)
  cases hve
  refine wp_skip (hK7 _ _ ?_)
  refine wp_seq_k fun K9 hK9 => ?_
  refine wp_block ?_
  refine wp_region_lit ?_
  refine hF.v (x_move rfl) fun a hF => ?_
  refine hF.v (x_move rfl) fun a hF => ?_
  refine hF.v (x_move rfl) fun a hF => ?_
  refine hF.v (x_ixa rfl rfl (m_ixs (j + 1) Try.underlying92 el29.size rfl (by omega))) fun a hF => ?_
  refine hF.v (x_load rfl (m_load flat3 (hrow _ hBr))) fun a hF => ?_
  refine hF.v (x_imax rfl rfl) fun a hF => ?_
  refine hF.v (x_assign rfl) fun a hF => ?_
  refine s_end (hK9 _ _ ?_)
  refine wp_region_lit ?_
  refine hF.v (x_move rfl) fun a hF => ?_
  refine hF.v (x_addn (j + 1 + 1) (by omega) (by omega) rfl rfl) fun a hF => ?_
  refine hF.v (x_assign rfl) fun a hF => ?_
  have e1 : (ks.take (j + 1 + 1)).foldl max (-1) = max ((ks.take (j + 1)).foldl max (-1)) (gt ks (j + 1)) := by rw [List.take_add_one, List.getElem?_eq_getElem (by omega), gt_lt (by omega), List.foldl_append]; rfl
  refine s_end (hK' _ _ (by omega) ⟨rfl, hF.sub _ (by rw [e1]; rfl)⟩)
 ·
  refine wp_exit (hK5 _ _ ?_)
  refine wp_rs fun K10 hK10 => ?_
  refine hF.v (x_move rfl) fun a hF => ?_
  refine hF.v (x_assign rfl) fun a hF => ?_
  refine s_end (hK10 _ _ ?_)
  refine wp_ret (res_slot hF rfl rfl ⟨by rw [mxl, List.take_of_length_le (by omega)], rfl⟩)

set_option maxRecDepth 100000 in
set_option maxHeartbeats 1600000 in
theorem equal62 (ks ls : List Int) (v u : Value) (w0 : World) (hl : ks.length ≤ 9223372036854775807) (hV : Rd w0 v 1 ks.length (ints ks)) (hU : Rd w0 u 1 ls.length (ints ls)) : Calls Try.prog 159 #[v, u] w0 fun e w' => e = .returned (.bool (decide (ks = ls))) ∧ Below w0.heap.size w0 w' := by
 obtain ⟨av, cv, hve, _⟩ := hV.form
 obtain ⟨au, cu, hue, _⟩ := hU.form
 subst hve hue
 have hB := Below.refl w0.heap.size w0
 have sB := hB.size
 refine calls_fs 26 [(0, .slice av ks.length cv), (1, .slice au ls.length cu)] Try.func159 rfl rfl rfl rfl rfl fun a hF => ?_
 refine wp_rs fun K1 hK1 => ?_
 refine hF.v (x_assign rfl) fun a hF => ?_
 refine s_end (hK1 _ _ ?_)
 refine wp_seq_k fun K2 hK2 => ?_
 rcases (show ks.length ≠ ls.length ∨ ks.length = ls.length by omega) with hq | hq
 ·
  skip
  refine wp_rs fun K4 hK4 => ?_
  refine hF.v (x_move rfl) fun a hF => ?_
  refine hF.v (x_len Try.underlying92 rfl) fun a hF => ?_
  refine hF.v (x_move rfl) fun a hF => ?_
  refine hF.v (x_len Try.underlying92 rfl) fun a hF => ?_
  refine hF.v (neqT (by omega) rfl rfl) fun a hF => ?_
  refine s_end (hK4 _ _ ?_)
  refine wp_if hF rfl ?_
  refine wp_rs fun K5 hK5 => ?_
  refine hF.v (x_assign rfl) fun a hF => ?_
  refine s_end (hK5 _ _ ?_)
  refine wp_ret (then_ret (res_slot hF rfl rfl ⟨by rw [decide_eq_false (fun h => hq (by rw [h]))], hB⟩))
 ·
  skip
  refine wp_rs fun K6 hK6 => ?_
  refine hF.v (x_move rfl) fun a hF => ?_
  refine hF.v (x_len Try.underlying92 rfl) fun a hF => ?_
  refine hF.v (x_move rfl) fun a hF => ?_
  refine hF.v (x_len Try.underlying92 rfl) fun a hF => ?_
  refine hF.v (neqF (by omega) rfl rfl) fun a hF => ?_
  refine s_end (hK6 _ _ ?_)
  refine wp_if hF rfl ?_
  refine wp_skip (hK2 _ _ ?_)
  refine wp_seq_k fun K7 hK7 => ?_
  refine wp_rs fun K8 hK8 => ?_
  refine hF.v (x_move rfl) fun a hF => ?_
  refine hF.v (x_len Try.underlying92 rfl) fun a hF => ?_
  refine hF.v (x_move rfl) fun a hF => ?_
  refine s_end (hK8 _ _ ?_)
  refine wp_block ?_
  refine wp_up ks.length (fun i a w => ks.take i = ls.take i ∧ Below w0.heap.size w0 w ∧ Fs 26 a [(13, .int .i64 (i : Int)), (12, .int .i64 (ks.length : Int)), (0, .slice av ks.length cv), (1, .slice au ls.length cu)]) ⟨by simp, hB, hF.sub _ rfl⟩ ?_
  clear hF hB
  rintro i a w hi ⟨heq, hB, hF⟩ K' hK'
  have sB := hB.size
  refine wp_rs fun K9 hK9 => ?_
  refine hF.v (x_lss rfl rfl rfl) fun a hF => ?_
  refine s_end (hK9 _ _ ?_)
  refine wp_seq_k fun K10 hK10 => ?_
  refine wp_iff hF rfl (fun hc14 => ?_) (fun hc14 => ?_)
  ·
   obtain ⟨b1, off1, c1, hve, hrow1⟩ := rd_rowI hV (i := i) (by omega)
   cases hve
   obtain ⟨b2, off2, c2, hve, hrow2⟩ := rd_rowI hU (i := i) (by omega)
   cases hve
   refine wp_skip (hK10 _ _ ?_)
   refine wp_seq_k fun K11 hK11 => ?_
   refine wp_block ?_
   refine wp_rs fun K12 hK12 => ?_
   refine hF.v (x_move rfl) fun a hF => ?_
   refine hF.v (x_assign rfl) fun a hF => ?_
   refine s_end (hK12 _ _ ?_)
   refine dk2_seq (w.heap.size) (w.heap.size) (ops := regOps Try.f159 6) (N := 9) (by kernel_rfl) wide_orders (by kernel_rfl) fun w2 hw2 B3 hS K13 hK13 => ?_
   have zw2 : w2.heap.size = w.heap.size := by rw [hw2]
   have sB3 := B3.size
   have hB := bt hB B3
   have hB_d := hB
   refine hF.d 0 16 (.move (.tmp 0)) hS (fun W hW => x_move rfl) fun a hF => ?_
   refine hF.d 1 17 (.move (.tmp 5)) hS (fun W hW => x_move rfl) fun a hF => ?_
   refine hF.d 2 18 (.indexAddr 92 (.tmp 16) (.tmp 17)) hS (fun W hW => x_ixa rfl rfl (m_ixs i Try.underlying92 el29.size rfl (by omega))) fun a hF => ?_
   refine hF.d 3 19 (.load 3 (.tmp 18)) hS (fun W hW => x_load rfl (m_load flat3 (hrow1 _ (hW.under hB_d (by omega))))) fun a hF => ?_
   refine hF.d 4 20 (.move (.tmp 1)) hS (fun W hW => x_move rfl) fun a hF => ?_
   refine hF.d 5 21 (.move (.tmp 5)) hS (fun W hW => x_move rfl) fun a hF => ?_
   refine hF.d 6 22 (.indexAddr 92 (.tmp 20) (.tmp 21)) hS (fun W hW => x_ixa rfl rfl (m_ixs i Try.underlying92 el29.size rfl (by omega))) fun a hF => ?_
   refine hF.d 7 23 (.load 3 (.tmp 22)) hS (fun W hW => x_load rfl (m_load flat3 (hrow2 _ (hW.under hB_d (by omega))))) fun a hF => ?_
   refine hF.d 8 24 (.binOp .neq 3 (.tmp 19) (.tmp 23) 3) hS (fun W hW => x_neq rfl rfl rfl) fun a hF => ?_
   refine d_end (by kernel_rfl) (hK13 _ _ ?_)
   refine wp_iff hF rfl (fun hc24 => ?_) (fun hc24 => ?_)
   ·
    refine wp_rs fun K14 hK14 => ?_
    refine hF.v (x_assign rfl) fun a hF => ?_
    refine s_end (hK14 _ _ ?_)
    refine wp_ret (inb_ret (then_ret (then_ret (inb_ret (then_ret (res_slot hF rfl rfl ⟨by rw [decide_eq_false (fun h => hc24 (by rw [h]))], hB⟩))))))
   ·
    refine wp_skip (hK11 _ _ ?_)
    refine wp_region_lit ?_
    refine hF.v (x_addn (i + 1) (by omega) (by omega) rfl rfl) fun a hF => ?_
    refine hF.v (x_move rfl) fun a hF => ?_
    have heq2 : ks.take (i + 1) = ls.take (i + 1) := by rw [List.take_add_one, List.take_add_one, heq, List.getElem?_eq_getElem (by omega), List.getElem?_eq_getElem (by omega)]; rw [gt_lt (by omega), gt_lt (by omega)] at hc24; rw [show ks[i] = ls[i] by omega]
    refine s_end (hK' _ _ (by omega) ⟨heq2, hB, hF.sub _ rfl⟩)
  ·
   refine wp_exit (hK7 _ _ ?_)
   refine wp_rs fun K15 hK15 => ?_
   refine hF.v (x_assign rfl) fun a hF => ?_
   refine s_end (hK15 _ _ ?_)
   refine wp_ret (res_slot hF rfl rfl ⟨by rw [decide_eq_true (show ks = ls by rw [← List.take_of_length_le (l := ks) (i := i) (by omega), ← List.take_of_length_le (l := ls) (i := i) (by omega)]; exact heq)], hB⟩)

set_option maxRecDepth 100000 in
set_option maxHeartbeats 1600000 in
theorem settle47 (base g o : Nat) (v : Value) (c : Int) (ks : List Int) (w1 : World) (hA : FA 126 base w1 g o v c ks) (hks : ks.length ≤ 3000) (hLo : Lo ks) (hc : 0 ≤ c) :
  Calls Try.prog 109 #[.pointer (some ⟨g, 0, none⟩)] w1 fun e w' => ∃ u, e = .returned u ∧ (u = .tuple #[] ∧ FA 126 base w' g o v (setl c ks) ks) ∧ Ktw g o w1 w' := by
 have hK := Ktw.refl g o w1
 have hlo := hA.lo
 obtain ⟨av, cv, rfl, hcv⟩ := hA.form
 have mg := hA.blk
 have hO := hA.own
 have hat := hA.at'
 have hne := hA.ne
 have hgl := mg.lt
 refine calls_fs 23 [(0, .pointer (some ⟨g, 0, none⟩))] Try.func109 rfl rfl rfl rfl rfl fun a hF => ?_
 rcases (show ks.length = 0 ∨ (0 < ks.length ∧ c ≤ mxl ks) ∨ (0 < ks.length ∧ mxl ks < c) by omega) with hq | hq | hq
 ·
  have hz : setl c ks = c := by rw [List.eq_nil_of_length_eq_zero hq]; have := setl_is c []; have h2 : mxl [] = -1 := rfl; omega
  refine dk2_seq (w1.heap.size) (w1.heap.size) (ops := regOps Try.f109 0) (N := 18) (by kernel_rfl) wide_orders (by kernel_rfl) fun w2 hw2 B3 hS K2 hK2 => ?_
  have zw2 : w2.heap.size = w1.heap.size := by rw [hw2]
  have sB3 := B3.size
  have hK := hK.below B3
  have mg := mg.old B3
  have hO := own_below hO B3
  have mg_d := mg
  have hO_d := hO
  have hK_d := hK
  refine hF.d 0 2 (.move (.tmp 0)) hS (fun W hW => x_move rfl) fun a hF => ?_
  refine hF.d 1 3 (.nilCheck (.tmp 2)) hS (fun W hW => x_nil rfl) fun a hF => ?_
  refine hF.d 2 4 (.fieldAddr 126 (.tmp 3) 1) hS (fun W hW => x_fa0 fa59_1 rfl) fun a hF => ?_
  refine hF.d 3 5 (.load 92 (.tmp 4)) hS (fun W hW => x_load rfl (m_load flat29 ((mg_d.k2 hW (by omega)).cell (j := 1) rfl))) fun a hF => ?_
  refine hF.d 4 6 (.call (.mk (.builtin .len) #[(.tmp 5)] #[92])) hS (fun W hW => x_len Try.underlying92 rfl) fun a hF => ?_
  refine hF.d 5 7 (.binOp .gtr 3 (.tmp 6) (.const (.int .i64 0)) 3) hS (fun W hW => gtrF (by omega) rfl rfl) fun a hF => ?_
  refine hF.d 6 8 (.move (.tmp 7)) hS (fun W hW => x_move rfl) fun a hF => ?_
  refine d_skip 7 9 8 (j := 6) (want := true) (op := (.move (.tmp 0))) hF hS (by kernel_rfl) (by kernel_rfl) rfl (by kernel_rfl) (by decide) fun a hF => ?_
  refine d_skip 8 10 8 (j := 6) (want := true) (op := (.nilCheck (.tmp 9))) hF hS (by kernel_rfl) (by kernel_rfl) rfl (by kernel_rfl) (by decide) fun a hF => ?_
  refine d_skip 9 11 8 (j := 6) (want := true) (op := (.fieldAddr 126 (.tmp 10) 1)) hF hS (by kernel_rfl) (by kernel_rfl) rfl (by kernel_rfl) (by decide) fun a hF => ?_
  refine d_skip 10 12 8 (j := 6) (want := true) (op := (.load 92 (.tmp 11))) hF hS (by kernel_rfl) (by kernel_rfl) rfl (by kernel_rfl) (by decide) fun a hF => ?_
  refine d_skip 11 13 8 (j := 6) (want := true) (op := (.call (.mk (.value (.func 139)) #[(.tmp 12)] #[92]))) hF hS (by kernel_rfl) (by kernel_rfl) rfl (by kernel_rfl) (by decide) fun a hF => ?_
  refine d_skip 12 14 8 (j := 6) (want := true) (op := (.move (.tmp 0))) hF hS (by kernel_rfl) (by kernel_rfl) rfl (by kernel_rfl) (by decide) fun a hF => ?_
  refine d_skip 13 15 8 (j := 6) (want := true) (op := (.nilCheck (.tmp 14))) hF hS (by kernel_rfl) (by kernel_rfl) rfl (by kernel_rfl) (by decide) fun a hF => ?_
  refine d_skip 14 16 8 (j := 6) (want := true) (op := (.fieldAddr 126 (.tmp 15) 0)) hF hS (by kernel_rfl) (by kernel_rfl) rfl (by kernel_rfl) (by decide) fun a hF => ?_
  refine d_skip 15 17 8 (j := 6) (want := true) (op := (.load 3 (.tmp 16))) hF hS (by kernel_rfl) (by kernel_rfl) rfl (by kernel_rfl) (by decide) fun a hF => ?_
  refine d_skip 16 18 8 (j := 6) (want := true) (op := (.binOp .geq 3 (.tmp 13) (.tmp 17) 3)) hF hS (by kernel_rfl) (by kernel_rfl) rfl (by kernel_rfl) (by decide) fun a hF => ?_
  refine hF.d 17 19 (.pick (.tmp 8) (.tmp 18) (.const (.bool false))) hS (fun W hW => x_pick (b := false) rfl rfl) fun a hF => ?_
  refine d_end (by kernel_rfl) (hK2 _ _ ?_)
  refine wp_if hF rfl ?_
  refine wp_skip ?_
  show bodyPost Try.prog Try.f109 (_) .normal a w2
  refine post_normal (res_none hF rfl ⟨_, rfl, ⟨rfl, ⟨by rw [hz]; exact mg, hO, hat, hne, by have := hK.size; omega⟩⟩, hK⟩)
 ·
  have hz : setl c ks = 0 := by have := setl_is c ks; omega
  refine dk2_seq (w1.heap.size) (w1.heap.size) (ops := regOps Try.f109 0) (N := 18) (by kernel_rfl) wide_orders (by kernel_rfl) fun w4 hw4 B5 hS K3 hK3 => ?_
  have zw4 : w4.heap.size = w1.heap.size := by rw [hw4]
  have sB5 := B5.size
  have hK := hK.below B5
  have mg := mg.old B5
  have hO := own_below hO B5
  have mg_d := mg
  have hO_d := hO
  have hK_d := hK
  refine hF.d 0 2 (.move (.tmp 0)) hS (fun W hW => x_move rfl) fun a hF => ?_
  refine hF.d 1 3 (.nilCheck (.tmp 2)) hS (fun W hW => x_nil rfl) fun a hF => ?_
  refine hF.d 2 4 (.fieldAddr 126 (.tmp 3) 1) hS (fun W hW => x_fa0 fa59_1 rfl) fun a hF => ?_
  refine hF.d 3 5 (.load 92 (.tmp 4)) hS (fun W hW => x_load rfl (m_load flat29 ((mg_d.k2 hW (by omega)).cell (j := 1) rfl))) fun a hF => ?_
  refine hF.d 4 6 (.call (.mk (.builtin .len) #[(.tmp 5)] #[92])) hS (fun W hW => x_len Try.underlying92 rfl) fun a hF => ?_
  refine hF.d 5 7 (.binOp .gtr 3 (.tmp 6) (.const (.int .i64 0)) 3) hS (fun W hW => gtrT (by omega) rfl rfl) fun a hF => ?_
  refine hF.d 6 8 (.move (.tmp 7)) hS (fun W hW => x_move rfl) fun a hF => ?_
  refine hF.g 7 9 8 6 true (.move (.tmp 0)) hS rfl (fun W hW => x_move rfl) fun a hF => ?_
  refine hF.g 8 10 8 6 true (.nilCheck (.tmp 9)) hS rfl (fun W hW => x_nil rfl) fun a hF => ?_
  refine hF.g 9 11 8 6 true (.fieldAddr 126 (.tmp 10) 1) hS rfl (fun W hW => x_fa0 fa59_1 rfl) fun a hF => ?_
  refine hF.g 10 12 8 6 true (.load 92 (.tmp 11)) hS rfl (fun W hW => x_load rfl (m_load flat29 ((mg_d.k2 hW (by omega)).cell (j := 1) rfl))) fun a hF => ?_
  refine hF.g 12 14 8 6 true (.move (.tmp 0)) hS rfl (fun W hW => x_move rfl) fun a hF => ?_
  refine hF.g 13 15 8 6 true (.nilCheck (.tmp 14)) hS rfl (fun W hW => x_nil rfl) fun a hF => ?_
  refine hF.g 14 16 8 6 true (.fieldAddr 126 (.tmp 15) 0) hS rfl (fun W hW => x_fa0 fa59_0 rfl) fun a hF => ?_
  refine hF.g 15 17 8 6 true (.load 3 (.tmp 16)) hS rfl (fun W hW => x_load rfl (m_load flat3 ((mg_d.k2 hW (by omega)).cell (j := 0) rfl))) fun a hF => ?_
  refine d_oneg 11 8 (some 13) (.call (.mk (.value (.func 139)) #[(.tmp 12)] #[92])) (j := 6) (want := true) hF (by kernel_rfl) (by kernel_rfl) (by kernel_rfl) rfl fun ty pos af => ?_
  refine s_callS [_] hF E139 rfl (by decide) (max63 ks _ _ (by omega) (by omega) hLo (Rd.own hO)) fun a hF => ?_
  refine s_end ⟨hS, ?_⟩
  refine hF.g 16 18 8 6 true (.binOp .geq 3 (.tmp 13) (.tmp 17) 3) hS rfl (fun W hW => geqT (by omega) rfl rfl) fun a hF => ?_
  refine hF.d 17 19 (.pick (.tmp 8) (.tmp 18) (.const (.bool false))) hS (fun W hW => x_pick (b := true) rfl rfl) fun a hF => ?_
  refine d_end (by kernel_rfl) (hK3 _ _ ?_)
  refine wp_if hF rfl ?_
  refine wp_region_lit ?_
  refine hF.v (x_move rfl) fun a hF => ?_
  refine hF.v (x_nil rfl) fun a hF => ?_
  refine hF.v (x_fa0 fa59_0 rfl) fun a hF => ?_
  refine s_put hF rfl rfl flat3 mg (by simp) rfl fun w6 mg o7 => ?_
  have so7 := o7.size
  have hK := hK.only o7 (by omega)
  have hO := own_only hO o7 (hne)
  refine s_end ?_
  show bodyPost Try.prog Try.f109 (_) .normal a w6
  refine post_normal (res_none hF rfl ⟨_, rfl, ⟨rfl, ⟨by rw [hz]; exact mg, hO, hat, hne, by have := hK.size; omega⟩⟩, hK⟩)
 ·
  have hz : setl c ks = c := by have := setl_is c ks; omega
  refine dk2_seq (w1.heap.size) (w1.heap.size) (ops := regOps Try.f109 0) (N := 18) (by kernel_rfl) wide_orders (by kernel_rfl) fun w8 hw8 B9 hS K4 hK4 => ?_
  have zw8 : w8.heap.size = w1.heap.size := by rw [hw8]
  have sB9 := B9.size
  have hK := hK.below B9
  have mg := mg.old B9
  have hO := own_below hO B9
  have mg_d := mg
  have hO_d := hO
  have hK_d := hK
  refine hF.d 0 2 (.move (.tmp 0)) hS (fun W hW => x_move rfl) fun a hF => ?_
  refine hF.d 1 3 (.nilCheck (.tmp 2)) hS (fun W hW => x_nil rfl) fun a hF => ?_
  refine hF.d 2 4 (.fieldAddr 126 (.tmp 3) 1) hS (fun W hW => x_fa0 fa59_1 rfl) fun a hF => ?_
  refine hF.d 3 5 (.load 92 (.tmp 4)) hS (fun W hW => x_load rfl (m_load flat29 ((mg_d.k2 hW (by omega)).cell (j := 1) rfl))) fun a hF => ?_
  refine hF.d 4 6 (.call (.mk (.builtin .len) #[(.tmp 5)] #[92])) hS (fun W hW => x_len Try.underlying92 rfl) fun a hF => ?_
  refine hF.d 5 7 (.binOp .gtr 3 (.tmp 6) (.const (.int .i64 0)) 3) hS (fun W hW => gtrT (by omega) rfl rfl) fun a hF => ?_
  refine hF.d 6 8 (.move (.tmp 7)) hS (fun W hW => x_move rfl) fun a hF => ?_
  refine hF.g 7 9 8 6 true (.move (.tmp 0)) hS rfl (fun W hW => x_move rfl) fun a hF => ?_
  refine hF.g 8 10 8 6 true (.nilCheck (.tmp 9)) hS rfl (fun W hW => x_nil rfl) fun a hF => ?_
  refine hF.g 9 11 8 6 true (.fieldAddr 126 (.tmp 10) 1) hS rfl (fun W hW => x_fa0 fa59_1 rfl) fun a hF => ?_
  refine hF.g 10 12 8 6 true (.load 92 (.tmp 11)) hS rfl (fun W hW => x_load rfl (m_load flat29 ((mg_d.k2 hW (by omega)).cell (j := 1) rfl))) fun a hF => ?_
  refine hF.g 12 14 8 6 true (.move (.tmp 0)) hS rfl (fun W hW => x_move rfl) fun a hF => ?_
  refine hF.g 13 15 8 6 true (.nilCheck (.tmp 14)) hS rfl (fun W hW => x_nil rfl) fun a hF => ?_
  refine hF.g 14 16 8 6 true (.fieldAddr 126 (.tmp 15) 0) hS rfl (fun W hW => x_fa0 fa59_0 rfl) fun a hF => ?_
  refine hF.g 15 17 8 6 true (.load 3 (.tmp 16)) hS rfl (fun W hW => x_load rfl (m_load flat3 ((mg_d.k2 hW (by omega)).cell (j := 0) rfl))) fun a hF => ?_
  refine d_oneg 11 8 (some 13) (.call (.mk (.value (.func 139)) #[(.tmp 12)] #[92])) (j := 6) (want := true) hF (by kernel_rfl) (by kernel_rfl) (by kernel_rfl) rfl fun ty pos af => ?_
  refine s_callS [_] hF E139 rfl (by decide) (max63 ks _ _ (by omega) (by omega) hLo (Rd.own hO)) fun a hF => ?_
  refine s_end ⟨hS, ?_⟩
  refine hF.g 16 18 8 6 true (.binOp .geq 3 (.tmp 13) (.tmp 17) 3) hS rfl (fun W hW => geqF (by omega) rfl rfl) fun a hF => ?_
  refine hF.d 17 19 (.pick (.tmp 8) (.tmp 18) (.const (.bool false))) hS (fun W hW => x_pick (b := true) rfl rfl) fun a hF => ?_
  refine d_end (by kernel_rfl) (hK4 _ _ ?_)
  refine wp_if hF rfl ?_
  refine wp_skip ?_
  show bodyPost Try.prog Try.f109 (_) .normal a w8
  refine post_normal (res_none hF rfl ⟨_, rfl, ⟨rfl, ⟨by rw [hz]; exact mg, hO, hat, hne, by have := hK.size; omega⟩⟩, hK⟩)
end Go.Proofs.Ytbhhbfdoadecgaa

namespace Go.Proofs.Ytbhhbfdoadecgaa
open Go.RowKit Go.Shelf
set_option linter.unusedVariables false
set_option linter.unusedSimpArgs false

/-- x reads as s, and its memory lies in blocks of A alone. -/
def RSn (W : World) (A : Nat → Prop) : SL → C3 → Prop
 | .num n, x => x.1 = 1 ∧ x.2.1 = (n : Int) ∧ Rd W x.2.2 3 0 []
 | .var i, x => x.1 = 2 ∧ x.2.1 = (i : Int) ∧ Rd W x.2.2 3 0 []
 | .succ n a, x => x.1 = 3 ∧ x.2.1 = (n : Int) ∧ ∃ y, Rd W x.2.2 3 1 (lc y) ∧ (∀ j, x.2.2.ownBlock = some j → A j) ∧ RSn W A a y
 | .mx a b, x => x.1 = 4 ∧ ∃ y z, Rd W x.2.2 3 2 (lc y ++ lc z) ∧ (∀ j, x.2.2.ownBlock = some j → A j) ∧ RSn W A a y ∧ RSn W A b z
section
variable {W W' : World} {A B : Nat → Prop}
theorem RSn.rs : ∀ {s : SL} {x : C3}, RSn W A s x → RS W s x
 | .num _, _, h => h
 | .var _, _, h => h
 | .succ _ _, _, ⟨h1, h2, y, h3, _, h5⟩ => ⟨h1, h2, y, h3, RSn.rs h5⟩
 | .mx _ _, _, ⟨h1, y, z, h3, _, h5, h6⟩ => ⟨h1, y, z, h3, RSn.rs h5, RSn.rs h6⟩
theorem RS.n : ∀ {s : SL} {x : C3}, RS W s x → RSn W (fun k => k < W.heap.size) s x
 | .num _, _, h => h
 | .var _, _, h => h
 | .succ _ _, _, ⟨h1, h2, y, h3, h5⟩ => ⟨h1, h2, y, h3, fun j hj => h3.lt (by decide) hj, RS.n h5⟩
 | .mx _ _, _, ⟨h1, y, z, h3, h5, h6⟩ => ⟨h1, y, z, h3, fun j hj => h3.lt (by decide) hj, RS.n h5, RS.n h6⟩
theorem RSn.mono (h : ∀ k, A k → B k) : ∀ {s : SL} {x : C3}, RSn W A s x → RSn W B s x
 | .num _, _, h => h
 | .var _, _, h => h
 | .succ _ _, _, ⟨h1, h2, y, h3, h4, h5⟩ => ⟨h1, h2, y, h3, fun j hj => h j (h4 j hj), RSn.mono h h5⟩
 | .mx _ _, _, ⟨h1, y, z, h3, h4, h5, h6⟩ => ⟨h1, y, z, h3, fun j hj => h j (h4 j hj), RSn.mono h h5, RSn.mono h h6⟩
theorem RSn.valid : ∀ {s : SL} {x : C3}, RSn W A s x → RSn W (fun k => A k ∧ k < W.heap.size) s x
 | .num _, _, h => h
 | .var _, _, h => h
 | .succ _ _, _, ⟨h1, h2, y, h3, h4, h5⟩ => ⟨h1, h2, y, h3, fun j hj => ⟨h4 j hj, h3.lt (by decide) hj⟩, RSn.valid h5⟩
 | .mx _ _, _, ⟨h1, y, z, h3, h4, h5, h6⟩ => ⟨h1, y, z, h3, fun j hj => ⟨h4 j hj, h3.lt (by decide) hj⟩, RSn.valid h5, RSn.valid h6⟩
theorem rd0_any {v : Value} {cs : List Value} (h : Rd W v 3 0 cs) : Rd W' v 3 0 cs := by
 refine ⟨h.1, ?_⟩
 obtain ⟨a, c, rfl, _, h0⟩ := h.form
 exact .inl ⟨a, c, rfl, rfl, h0⟩
theorem RSn.keep (hs : W.heap.size ≤ W'.heap.size) (hk : ∀ k, A k → k < W.heap.size → W'.heap[k]? = W.heap[k]?) : ∀ {s : SL} {x : C3}, RSn W A s x → RSn W' A s x
 | .num _, _, ⟨h1, h2, h3⟩ => ⟨h1, h2, rd0_any h3⟩
 | .var _, _, ⟨h1, h2, h3⟩ => ⟨h1, h2, rd0_any h3⟩
 | .succ _ _, _, ⟨h1, h2, y, h3, h4, h5⟩ => ⟨h1, h2, y, h3.keep hs (fun b hb hl => hk b (h4 b hb) hl), h4, RSn.keep hs hk h5⟩
 | .mx _ _, _, ⟨h1, y, z, h3, h4, h5, h6⟩ => ⟨h1, y, z, h3.keep hs (fun b hb hl => hk b (h4 b hb) hl), h4, RSn.keep hs hk h5, RSn.keep hs hk h6⟩
theorem RSn.below {s : SL} {x : C3} (h : RSn W A s x) (hB : Below W.heap.size W W') : RSn W' A s x := RSn.keep hB.size (fun k _ hk => hB.block k hk) h
theorem RSn.only {s : SL} {x : C3} {c : Nat} (h : RSn W A s x) (o : Only c W W') (hc : ∀ k, A k → k ≠ c) : RSn W' A s x := RSn.keep (Nat.le_of_eq o.size.symm) (fun k ha _ => o.block k (hc k ha)) h
theorem RSn.k2 {s : SL} {x : C3} {a b : Nat} (h : RSn W A s x) (hK : Ktw a b W W') (hc : ∀ k, A k → k ≠ a ∧ k ≠ b) : RSn W' A s x := RSn.keep hK.size (fun k ha hk => hK.block k hk (hc k ha)) h
end
/-- Rows of levels. -/
def PL (W : World) (A : Nat → Prop) (zs : List C3) (ps : List SL) : Prop := zs.length = ps.length ∧ ∀ (j : Nat) z p, zs[j]? = some z → ps[j]? = some p → RSn W A p z
section
variable {W W' : World} {A B : Nat → Prop} {zs : List C3} {ps : List SL}
theorem PL.nil : PL W A [] [] := ⟨rfl, fun j z p h => by simp at h⟩
theorem PL.mono (h : PL W A zs ps) (hm : ∀ k, A k → B k) : PL W B zs ps := ⟨h.1, fun j z p h1 h2 => (h.2 j z p h1 h2).mono hm⟩
theorem PL.valid (h : PL W A zs ps) : PL W (fun k => A k ∧ k < W.heap.size) zs ps := ⟨h.1, fun j z p h1 h2 => (h.2 j z p h1 h2).valid⟩
theorem PL.keep (h : PL W A zs ps) (hs : W.heap.size ≤ W'.heap.size) (hk : ∀ k, A k → k < W.heap.size → W'.heap[k]? = W.heap[k]?) : PL W' A zs ps := ⟨h.1, fun j z p h1 h2 => RSn.keep hs hk (h.2 j z p h1 h2)⟩
theorem PL.below (h : PL W A zs ps) (hB : Below W.heap.size W W') : PL W' A zs ps := h.keep hB.size fun k _ hk => hB.block k hk
theorem PL.only {c : Nat} (h : PL W A zs ps) (o : Only c W W') (hc : ∀ k, A k → k ≠ c) : PL W' A zs ps := h.keep (Nat.le_of_eq o.size.symm) fun k ha _ => o.block k (hc k ha)
theorem PL.k2 {a b : Nat} (h : PL W A zs ps) (hK : Ktw a b W W') (hc : ∀ k, A k → k ≠ a ∧ k ≠ b) : PL W' A zs ps := h.keep hK.size fun k ha hk => hK.block k hk (hc k ha)
theorem PL.snoc {z : C3} {p : SL} (h : PL W A zs ps) (hz : RSn W A p z) : PL W A (zs ++ [z]) (ps ++ [p]) := by
 refine ⟨by simp [h.1], fun j z' p' h1 h2 => ?_⟩
 have hl := h.1
 rw [List.getElem?_append] at h1 h2
 by_cases hj : j < zs.length
 ·
  rw [if_pos hj] at h1
  rw [if_pos (by omega)] at h2
  exact h.2 j z' p' h1 h2
 ·
  rw [if_neg hj] at h1
  rw [if_neg (by omega)] at h2
  have e : j - zs.length = 0 := by
   have := (List.getElem?_eq_some_iff.1 h1).1
   simp at this
   omega
  rw [e] at h1
  rw [← hl, e] at h2
  simp at h1 h2
  subst h1 h2
  exact hz
theorem PL.at {j : Nat} {z : C3} (h : PL W A zs ps) (hz : zs[j]? = some z) : ∃ p, ps[j]? = some p ∧ RSn W A p z := by
 have hj := (List.getElem?_eq_some_iff.1 hz).1
 have hl := h.1
 exact ⟨ps[j]'(by omega), List.getElem?_eq_getElem (by omega), h.2 j z _ hz (List.getElem?_eq_getElem (by omega))⟩
end
theorem fm3_app (xs : List C3) (y : C3) : (xs ++ [y]).flatMap lc = xs.flatMap lc ++ lc y := by simp

/-! ### A form as a level -/
def part1 (i : Nat) (k : Int) : List SL := if k < 0 then [] else if k = 0 then [.var i] else [.succ k.toNat (.var i)]
def pts (c : Int) (ks : List Int) : Nat → List SL
 | 0 => if c ≠ 0 ∨ ks = [] then [.num c.toNat] else []
 | i + 1 => pts c ks i ++ part1 i (gt ks i)
def levF (c : Int) (ks : List Int) : SL := match pts c ks ks.length with
 | [] => .num 0
 | p :: ps => ps.foldl .mx p
theorem pts_le (c : Int) (ks : List Int) : ∀ i, (pts c ks i).length ≤ i + 1
 | 0 => by unfold pts; split <;> simp
 | i + 1 => by
  have := pts_le c ks i
  have h1 : (part1 i (gt ks i)).length ≤ 1 := by unfold part1; split; simp; split <;> simp
  rw [pts, List.length_append]
  omega
theorem pts_mono (c : Int) (ks : List Int) : ∀ i d, (pts c ks i).length ≤ (pts c ks (i + d)).length
 | i, 0 => Nat.le_refl _
 | i, d + 1 => by
  have := pts_mono c ks i d
  rw [← Nat.add_assoc, pts, List.length_append]
  omega
theorem pts_pos {c : Int} {ks : List Int} (hT : Tm ks) : 0 < (pts c ks ks.length).length := by
 by_cases h : c ≠ 0 ∨ ks = []
 ·
  have := pts_mono c ks 0 ks.length
  rw [Nat.zero_add] at this
  have h0 : (pts c ks 0).length = 1 := by rw [pts, if_pos h]; rfl
  omega
 ·
  have hp : 0 < ks.length := List.length_pos_iff.2 (fun e => h (.inr e))
  have hl := hT.last hp
  obtain ⟨n, hn⟩ : ∃ n, ks.length = n + 1 := ⟨ks.length - 1, by omega⟩
  rw [hn, show n + 1 - 1 = n by omega] at hl
  rw [hn, pts, List.length_append]
  have : (part1 n (gt ks n)).length = 1 := by
   unfold part1
   rw [if_neg (by omega)]
   split <;> rfl
  omega
end Go.Proofs.Ytbhhbfdoadecgaa

namespace Go.Proofs.Ytbhhbfdoadecgaa
open Go.RowKit Go.Shelf
set_option linter.unusedVariables false
set_option linter.unusedSimpArgs false

/-- Of what lay, no block below lo and none from hi on has turned. -/
structure Mid (lo hi : Nat) (w w' : World) : Prop where
 os : w'.os = w.os
 tape : w'.tape = w.tape
 output : w'.output = w.output
 size : w.heap.size ≤ w'.heap.size
 block : ∀ k, k < w.heap.size → (k < lo ∨ hi ≤ k) → w'.heap[k]? = w.heap[k]?
section
variable {lo hi : Nat} {w w' w'' : World}
theorem Mid.refl (lo hi : Nat) (w : World) : Mid lo hi w w := ⟨rfl, rfl, rfl, Nat.le_refl _, fun _ _ _ => rfl⟩
theorem Mid.trans (h : Mid lo hi w w') (k : Mid lo hi w' w'') : Mid lo hi w w'' :=
 ⟨k.os.trans h.os, k.tape.trans h.tape, k.output.trans h.output, Nat.le_trans h.size k.size, fun i hi hn => (k.block i (Nat.lt_of_lt_of_le hi h.size) hn).trans (h.block i hi hn)⟩
theorem Mid.mono {lo' hi' : Nat} (h : Mid lo hi w w') (h1 : lo' ≤ lo) (h2 : hi ≤ hi') : Mid lo' hi' w w' := ⟨h.os, h.tape, h.output, h.size, fun i hi hn => h.block i hi (by omega)⟩
theorem Mid.of_below {B : Nat} (h : Below B w w') (hB : lo ≤ B) (hs : w.heap.size ≤ hi) : Mid lo hi w w' := ⟨h.os, h.tape, h.output, h.size, fun i hi hn => h.block i (by omega)⟩
theorem Mid.of_old (h : Below w.heap.size w w') : Mid lo hi w w' := ⟨h.os, h.tape, h.output, h.size, fun i hi hn => h.block i hi⟩
theorem Mid.below (h : Mid lo hi w w') (hl : lo ≤ w.heap.size) : Below lo w w' := ⟨h.os, h.tape, h.output, h.size, fun i hi => h.block i (by omega) (.inl hi)⟩
/-- Behind a step of one's own, in a block that did not lie. -/
theorem Mid.only {b : Nat} (h : Mid lo hi w w') (o : Only b w' w'') (hb : (lo ≤ b ∧ b < hi) ∨ w.heap.size ≤ b) : Mid lo hi w w'' :=
 ⟨o.os.trans h.os, o.tape.trans h.tape, o.output.trans h.output, by rw [o.size]; exact h.size, fun i hi hn => (o.block i (by omega)).trans (h.block i hi hn)⟩
theorem Mid.old (h : Mid lo hi w w') (o : Below w'.heap.size w' w'') : Mid lo hi w w'' := h.trans (Mid.of_old o)
theorem Blk.mid {b t : Nat} {cs : List Value} (m : Blk w b t cs) (h : Mid lo hi w w') (hb : b < lo ∨ hi ≤ b) : Blk w' b t cs := (h.block b m.lt hb).trans m
end

/-! ### Operations -/
section
variable {P : Program} {n d : Nat} {l : List (Nat × Value)} {w : World}
/-- A closure. -/
theorem x_mkf {f : FuncId} {xs : List Operand} (vals : List Value) (hx : xs.map (ov l) = vals.map some) : Runs P n l w (.makeFunc (.func f) #[] xs.toArray) (.func (.func f) #[] vals.toArray) := fun ds a hF o ho => by
 have hv : xs.toArray.map a.eval = vals.toArray := by
  rw [← ov_args hF xs vals hx]
  simp
 simp [execOp, ho, hv, Instr.makeFunc]
end

section
variable {P : Program} {n d : Nat} {l : List (Nat × Value)} {w : World} {a : Act} {ops : Array Oper} {Q : Exit → Act → World → Prop} {rest : List Oper} {ty : TypeId} {pos : String} {af : Array Edge} {ds : List Deferred}
theorem run_callV (hF : Fs n a l (ds := ds)) {g : Operand} {fn : Fn} {lb : Array Value} {xs : List Operand} {ts : Array TypeId} {vals : List Value} (hg : ov l g = some (.func fn #[] lb)) (hargs : xs.map (ov l) = vals.map some) (o : Oper) (ho : o.op = .call { callee := .value g, args := xs.toArray, argTypes := ts }) :
  (execOp a.eval o).run P w = (invoke (.fn fn lb) vals.toArray).run P w := by
 have hv : xs.toArray.map a.eval = vals.toArray := by
  rw [← ov_args hF xs vals hargs]
  simp
 obtain ⟨dst, op, type, pos, after, guard⟩ := o
 simp only at ho
 subst ho
 have h1 : execOp a.eval { dst, op := .call { callee := .value g, args := xs.toArray, argTypes := ts }, type, pos, after, guard } =
  (do let d ← Deferred.ofValue (a.eval g) (xs.toArray.map a.eval); invoke d.target d.args) := rfl
 rw [h1, hF.ov hg, hv]
 have h2 : Deferred.ofValue (.func fn #[] lb) vals.toArray = pure { target := .fn fn lb, args := #[] ++ vals.toArray } := rfl
 rw [h2]
 simp only [Sem.run_bind, Sem.run_pure, Result.andThen, Array.empty_append]
/-- A call of a closure. -/
theorem s_callC (hF : Fs n a l (ds := ds)) {g : Operand} {f : FuncId} {lb : List Value} {xs : List Operand} {ts : Array TypeId} (vals : List Value) {R : Value → World → Prop} (hg : ov l g = some (.func (.func f) #[] lb.toArray)) (hent : Enters P f) (hargs : xs.map (ov l) = vals.map some) (hd : d < n)
  (hC : Calls P f (vals ++ lb).toArray w fun e w' => ∃ v, e = .returned v ∧ R v w')
  (h : ∀ v w' a', R v w' → Fs n a' ((d, v) :: l) (ds := ds) → wpList P ops Q rest a' w') : wpList P ops Q (⟨some d, .call { callee := .value g, args := xs.toArray, argTypes := ts }, ty, pos, af, none⟩ :: rest) a w := by
 unfold wpList
 rw [if_pos (wanted_none _ rfl _)]
 refine .inl ?_
 unfold Oper.wp
 rw [run_callV hF hg hargs _ rfl]
 have := hent (vals.toArray ++ lb.toArray) w
 simp only [invoke] at this ⊢
 rw [this]
 rw [List.append_toArray]
 refine Calls.mono hC ?_
 rintro e w' ⟨v, rfl, hR⟩
 exact h v w' _ hR (hF.put d hd v)
end

/-- The fence that lets everything in, in a round or not. -/
def Fw (r : Option Nat) : Fence := { fn := fun _ => True, depth := none, alive := false, round := r }
def noDefer (o : Oper) : Bool := match o.op with | .defer _ => false | _ => true
theorem callsIn_Fw {r : Option Nat} {m : Nat} {P : Program} {f : FuncId} {args : Array Value} {w : World} {R : Ending → World → Prop} (h : Calls P f args w R) : CallsIn (Fw r) m P f args w R := (callsIn_wide (n := m)).2 h

/-- A walk of a list holds within a round, too. -/
theorem listIn {r : Option Nat} {m : Nat} {P : Program} {ops : Array Oper} {Q : Exit → Act → World → Prop} (hQ : ∀ c a w, ¬ Q (.panic c) a w) (hO : ∀ a w, ¬ Q .outgrown a w) : ∀ (l : List Oper) (a : Act) (w : World), (l.all noDefer) = true → wpList P ops Q l a w → wpListIn (Fw r) m P ops Q l a w
 | [], a, w, _, h => h
 | o :: rest, a, w, hn, h => by
  simp only [List.all_cons, Bool.and_eq_true] at hn
  obtain ⟨hn1, hn2⟩ := hn
  have hnd : ∀ c, o.op ≠ .defer c := by
   intro c e
   simp [noDefer, e] at hn1
  unfold wpList at h
  unfold wpListIn
  split
  ·
   next hw =>
   rw [if_pos hw] at h
   rcases h with h | ⟨_, a', w', h⟩
   ·
    refine ⟨fun _ _ => trivial, ?_⟩
    rw [Oper.semAt_eq _ _ _ hnd]
    unfold Oper.wp at h
    cases hr : (execOp a.eval o).run P w with
    | ok x w' =>
     rw [hr] at h
     cases x with
     | value v => exact listIn hQ hO rest _ _ hn2 h
     | skip => exact listIn hQ hO rest _ _ hn2 h
     | defer d => exact listIn hQ hO rest _ _ hn2 h
     | enter f args =>
      refine ⟨fun h => absurd h (by simp [Fw]), callsIn_Fw (h.mono ?_)⟩
      intro e w'' he
      cases e with
      | returned v => exact listIn hQ hO rest _ _ hn2 he
      | panicked c => exact he
      | outgrown => exact he
     | row nm args =>
      refine ⟨fun h => absurd h (by simp [Fw]), ?_⟩
      exact fun c cs _ => let ⟨v, w', q, st⟩ := Rows.mono h (fun v w'' he => listIn hQ hO rest _ _ hn2 he) c cs; ⟨v, w', q, stepsIn_wide.2 st⟩
     | _ => exact (h : False).elim
    | halt x w' =>
     rw [hr] at h
     cases x with
     | panic v => exact h
     | _ => exact (h : False).elim
   ·
    exact absurd h (hO _ _)
  ·
   next hw =>
   rw [if_neg hw] at h
   exact ⟨fun _ _ => trivial, listIn hQ hO rest _ _ hn2 h⟩

/-! ### Code, in a round or not -/
section
variable {r : Option Nat} {m : Nat} {P : Program} {Q : Exit → Act → World → Prop} {a : Act} {w : World} {x y : Code} {n : Nat} {l : List (Nat × Value)} {ds : List Deferred}
/-- A way out that is a panic, or none at all, is not asked for. -/
structure Calm (Q : Exit → Act → World → Prop) : Prop where
 panic : ∀ c a w, ¬ Q (.panic c) a w
 outgrown : ∀ a w, ¬ Q .outgrown a w
theorem Calm.then (h : Calm Q) (K : Act → World → Prop) : Calm (Exit.then K Q) := ⟨h.panic, h.outgrown⟩
theorem Calm.block (h : Calm Q) (id : Nat) : Calm (Exit.inBlock id Q) := ⟨h.panic, h.outgrown⟩
theorem wpI_rs {id : Nat} {l : List Oper} (hQ : Calm Q) (hn : (l.all noDefer) = true) (h : ∀ K : Act → World → Prop, (∀ a w, y.wpIn (Fw r) m P Q a w → K a w) → wpList P l.toArray (Exit.then K Q) l a w) : (Code.seq (.region id l.toArray false) y).wpIn (Fw r) m P Q a w :=
 wpIn_seq_k fun K hK => wpIn_region_lit (listIn (hQ.then K).panic (hQ.then K).outgrown _ _ _ hn (h K hK))
theorem wpI_r {id : Nat} {l : List Oper} (hQ : Calm Q) (hn : (l.all noDefer) = true) (h : wpList P l.toArray Q l a w) : (Code.region id l.toArray false).wpIn (Fw r) m P Q a w :=
 wpIn_region_lit (listIn hQ.panic hQ.outgrown _ _ _ hn h)
theorem wpI_if {c : Operand} {b : Bool} (hF : Fs n a l (ds := ds)) (hc : ov l c = some (.bool b)) (h : (bif b then x else y).wpIn (Fw r) m P Q a w) : (Code.cond c x y).wpIn (Fw r) m P Q a w := by
 refine wpIn_cond (hF.ov hc) ?_
 cases b <;> exact h
theorem wpI_iff {c : Operand} {p : Prop} [Decidable p] (hF : Fs n a l (ds := ds)) (hc : ov l c = some (.bool (decide p))) (h1 : p → x.wpIn (Fw r) m P Q a w) (h2 : ¬ p → y.wpIn (Fw r) m P Q a w) : (Code.cond c x y).wpIn (Fw r) m P Q a w := by
 refine wpIn_cond (hF.ov hc) ?_
 by_cases hp : p
 ·
  simpa [hp] using h1 hp
 ·
  simpa [hp] using h2 hp
/-- A region that is walked within the fence. -/
theorem wp_rsI {id : Nat} {l : List Oper} (h : ∀ K : Act → World → Prop, (∀ a w, y.wp P Q a w → K a w) → wpListIn (Fw none) 0 P l.toArray (Exit.then K Q) l a w) : (Code.seq (.region id l.toArray false) y).wp P Q a w :=
 wp_seq_k fun K hK => (wpIn_wide (n := 0)).1 (wpIn_region_lit (h K hK))
end

/-! ### Yields -/
section
variable {P : Program} {n d : Nat} {l : List (Nat × Value)} {w : World} {a : Act} {ops : Array Oper} {Q : Exit → Act → World → Prop} {rest : List Oper} {ty : TypeId} {pos : String} {af : Array Edge} {ds : List Deferred} {op : Op} {v : Value} {r : Option Nat} {m : Nat}
theorem roundIn_wide' {n m : Nat} {P : Program} {l : Nat} {f : FuncId} {tmps : Array Value} {assign body : Code} {w : World} {R : Ending → World → Prop}
  (h : RoundIn Fence.wide n P l f tmps assign body w R) : RoundIn Fence.wide m P l f tmps assign body w R :=
 ⟨h.1, fun c cs _ => h.2 c cs (room_wide _)⟩
theorem i_val (hF : Fs n a l (ds := ds)) (hr : Runs P n l w op v) (hnd : noDefer ⟨some d, op, ty, pos, af, none⟩ = true) (hd : d < n) (h : ∀ a', Fs n a' ((d, v) :: l) (ds := ds) → wpListIn (Fw r) m P ops Q rest a' w) : wpListIn (Fw r) m P ops Q (⟨some d, op, ty, pos, af, none⟩ :: rest) a w := by
 unfold wpListIn
 rw [if_pos (wanted_none _ rfl _)]
 refine ⟨fun _ _ => trivial, ?_⟩
 rw [Oper.semAt_eq _ _ _ (by intro c e; simp only at e; subst e; cases hnd), hr _ a hF _ rfl]
 exact h _ (hF.put d hd v)
/-- The yield of a loop is called. -/
theorem i_yield (hF : Fs n a l (ds := ds)) {g : Operand} {L : Nat} {xs : List Operand} {ts : Array TypeId} (vals : List Value) {R : Value → World → Prop} (hg : ov l g = some (.func (.yield L) #[] #[])) (hargs : xs.map (ov l) = vals.map some) (hd : d < n)
  (hC : YieldAt Fence.wide 0 P L vals.toArray w fun e w' => ∃ v, e = .returned v ∧ R v w')
  (h : ∀ v w' a', R v w' → Fs n a' ((d, v) :: l) (ds := ds) → wpListIn (Fw r) m P ops Q rest a' w') : wpListIn (Fw r) m P ops Q (⟨some d, .call { callee := .value g, args := xs.toArray, argTypes := ts }, ty, pos, af, none⟩ :: rest) a w := by
 unfold wpListIn
 rw [if_pos (wanted_none _ rfl _)]
 refine ⟨fun _ _ => trivial, ?_⟩
 rw [Oper.semAt_eq _ _ _ (by intro c; simp), run_callV hF hg hargs _ rfl]
 obtain ⟨fn, tmps, assign, body, hy, hc⟩ := hC
 have hrun : (invoke (.fn (.yield L) #[]) vals.toArray).run P w = .ok (.round L fn tmps assign body) w := hy
 rw [hrun]
 refine ⟨fun h => absurd h (by simp [Fw]), ?_⟩
 refine RoundIn.mono (F := Fence.wide) (roundIn_wide' hc) ?_
 rintro e w' ⟨v, rfl, hR⟩
 exact h v w' _ hR (hF.put d hd v)
theorem i_end (h : Q .normal a w) : wpListIn (Fw r) m P ops Q [] a w := h
end

/-! ### 'for .. := range f' -/
/-- THE FUNCTION g (with what it holds, lb) HANDS evs ON, one by one, till it is told no. -/
def Hands (P : Program) (g : FuncId) (lb : Array Value) (lo hi : Nat) (w0 : World) (S : World → Prop) {E : Type} (Bd : E → Prop) (enc : E → List Value → Prop) (evs : List E) : Prop :=
 ∀ (L : Nat) (J Jx : List E → World → Prop), (∀ p W W', J p W → Below hi W W' → J p W') → (∀ p W W', Jx p W → Below hi W W' → Jx p W') → (∀ p e W, J (p ++ [e]) W → Bd e) →
  (∀ p e rest W vs, evs = p ++ e :: rest → enc e vs → J p W → hi ≤ W.heap.size → Below lo w0 W → YieldAt Fence.wide 0 P L vs.toArray W fun en W' => Mid lo hi W W' ∧ ((en = .returned (.bool true) ∧ J (p ++ [e]) W') ∨ (en = .returned (.bool false) ∧ Jx (p ++ [e]) W'))) →
  ∀ W, S W → J [] W → hi ≤ W.heap.size → Below lo w0 W → Calls P g (#[.func (.yield L) #[] #[]] ++ lb) W fun en W' => (∃ v, en = .returned v) ∧ Mid lo hi W W' ∧ (J evs W' ∨ ∃ p, p <+: evs ∧ Jx p W')

theorem only_putObj {l : Nat} {w : World} (o : Obj) : Only l w (w.putObj l o) := ⟨rfl, rfl, rfl, by simp, fun k hk => World.putObj_heap_other hk⟩

/-- How a round's body may be left. -/
def rndPost {E : Type} (lo hi : Nat) (I : List E → World → Prop) (Ix : Code → List E → World → Prop) (q : List E) (W : World) : Exit → Act → World → Prop
 | .normal, _, W' => Mid lo hi W W' ∧ I q W'
 | .ret, _, W' => Mid lo hi W W' ∧ Ix .ret q W'
 | .exit id, _, W' => Mid lo hi W W' ∧ Ix (.exit id) q W'
 | .goto t, _, W' => Mid lo hi W W' ∧ Ix (.goto t) q W'
 | .panic _, _, _ => False
 | .outgrown, _, _ => False
theorem rndPost.calm {E : Type} {lo hi : Nat} {I : List E → World → Prop} {Ix : Code → List E → World → Prop} {q : List E} {W : World} : Calm (rndPost lo hi I Ix q W) := ⟨fun _ _ _ h => h, fun _ _ h => h⟩
theorem false.calm : Calm (fun _ _ _ => False) := ⟨fun _ _ _ h => h, fun _ _ h => h⟩

theorem fold_put {n : Nat} {a : Act} {l : List (Nat × Value)} {ds : List Deferred} (hF : Fs n a l (ds := ds)) : ∀ (ps : List Nat) (vs : List Value), (∀ p ∈ ps, p < n) →
  Fs n { tmps := (ps.zip vs).foldl (fun t (p : Nat × Value) => t.setIfInBounds p.1 p.2) a.tmps, defers := [] } ((ps.zip vs).reverse ++ l) := by
 intro ps
 suffices H : ∀ (ps : List Nat) (vs : List Value) (a : Act) (l : List (Nat × Value)), Fs n a l → (∀ p ∈ ps, p < n) →
   Fs n { tmps := (ps.zip vs).foldl (fun t (p : Nat × Value) => t.setIfInBounds p.1 p.2) a.tmps, defers := [] } ((ps.zip vs).reverse ++ l) from
  fun vs hp => H ps vs { tmps := a.tmps, defers := [] } l ⟨hF.size, rfl, hF.slot⟩ hp
 intro ps
 induction ps with
 | nil => intro vs a l hF _; exact ⟨hF.size, rfl, hF.slot⟩
 | cons p ps ih =>
  intro vs a l hF hp
  cases vs with
  | nil => exact ⟨hF.size, rfl, hF.slot⟩
  | cons v vs =>
   have h1 := hF.put p (hp p (by simp)) v
   have h2 := ih vs _ _ h1 (fun q hq => hp q (by simp [hq]))
   simp only [List.zip_cons_cons, List.foldl_cons, List.reverse_cons, List.append_assoc, List.singleton_append]
   exact h2

/-- **'for p, .. := range g { .. }'**, outside every other such loop. -/
theorem wp_range {E : Type} {P : Program} {n : Nat} {g : Operand} {ps : List Nat} {assign body : Code} {Q : Exit → Act → World → Prop} {a : Act} {w w0 : World} {l : List (Nat × Value)}
  {gf : FuncId} {lb : Array Value} {enc : E → List Value → Prop} {evs : List E} (hF : Fs n a l) (hg : ov l g = some (.func (.func gf) #[] lb)) (hent : Enters P gf)
  (hi : Nat) (hhi : hi = w.heap.size) (h0w : Below w0.heap.size w0 w) {S : World → Prop} {Bd : E → Prop} (hH : Hands P gf lb w0.heap.size (w.heap.size + 2) w0 S Bd enc evs) (hS : ∀ W', Below w.heap.size w W' → S W') (hps : ∀ p ∈ ps, p < n) (hlen : ∀ e vs, enc e vs → vs.length = ps.length)
  (I : List E → World → Prop) (Ix : Code → List E → World → Prop) (hI : ∀ p W W', I p W → Below w.heap.size W W' → I p W') (hIx : ∀ c p W W', Ix c p W → Below w.heap.size W W' → Ix c p W') (hBd : ∀ p e W, I (p ++ [e]) W → Bd e) (h0 : I [] w)
  (round : ∀ (L : Nat) p e rest W a₁ vs, L = w.heap.size + 1 → evs = p ++ e :: rest → enc e vs → I p W → w.heap.size + 2 ≤ W.heap.size → Below w0.heap.size w0 W → Fs n a₁ ((ps.zip vs).reverse ++ l) →
   ∀ K : Act → World → Prop, (∀ a₂ W₂, Mid w0.heap.size w.heap.size W W₂ → (∀ W₃, Only L W₂ W₃ → body.wpIn (Fw (some L)) 0 P (rndPost w0.heap.size w.heap.size I Ix (p ++ [e]) W₃) a₂ W₃) → K a₂ W₂) →
   assign.wpIn (Fw (some L)) 0 P (Exit.then K (fun _ _ _ => False)) a₁ W)
  (done : ∀ a' W, I evs W → Mid w0.heap.size (w.heap.size + 2) w W → W.heap[w.heap.size]? = some (.deferred (some [])) → Fs n a' l (ds := [{ target := .collected w.heap.size, args := #[] }]) → Q .normal a' W)
  (stop : ∀ a' c p W, p <+: evs → Ix c p W → Mid w0.heap.size (w.heap.size + 2) w W → W.heap[w.heap.size]? = some (.deferred (some [])) → Fs n a' l (ds := [{ target := .collected w.heap.size, args := #[] }]) → c.wp P Q a' W) :
  (Code.rangeFunc g ps.toArray assign body).wp P Q a w := by
 refine (wpIn_wide (n := 0)).1 (wpIn_rangeFunc ?_)
 intro fn hfn
 obtain ⟨rec, hrec⟩ : ∃ rec : LoopState → Option Code → Loop, rec = fun st pe => { state := st, pending := pe, fn, tmps := a.tmps, params := ps.toArray, assign, body, defers := w.heap.size } := ⟨_, rfl⟩
 obtain ⟨W1, hW1⟩ : ∃ W1, (w.alloc (.deferred (some []))).alloc (.loop (rec .ready none)) = W1 := ⟨_, rfl⟩
 have hL1 : W1.heap[w.heap.size + 1]? = some (.loop (rec .ready none)) := by
  rw [← hW1]; have := World.alloc_heap_new (w.alloc (.deferred (some []))) (.loop (rec .ready none)); rwa [World.size_alloc] at this
 have hK1 : W1.heap[w.heap.size]? = some (.deferred (some [])) := by
  rw [← hW1]; exact (Below.heap_alloc _ _ _ (by simp)).trans (World.alloc_heap_new w _)
 have hsz : W1.heap.size = w.heap.size + 2 := by rw [← hW1]; simp
 have hB1 : Below w.heap.size w W1 := by rw [← hW1]; exact ((Below.refl _ _).alloc (Nat.le_refl _) _).alloc (by simp) _
 have hlo : w0.heap.size ≤ w.heap.size := h0w.size
 -- what holds between rounds
 let J : List E → World → Prop := fun p W => I p W ∧ W.heap[w.heap.size + 1]? = some (.loop (rec .ready none)) ∧ W.heap[w.heap.size]? = some (.deferred (some []))
 let Jx : List E → World → Prop := fun p W => ∃ c, Ix c p W ∧ W.heap[w.heap.size + 1]? = some (.loop (rec .done (some c))) ∧ W.heap[w.heap.size]? = some (.deferred (some []))
 have hJ : ∀ p W W', J p W → Below (w.heap.size + 2) W W' → J p W' := fun p W W' h hB => ⟨hI p W W' h.1 (hB.mono (by omega)), (hB.block _ (by omega)).trans h.2.1, (hB.block _ (by omega)).trans h.2.2⟩
 have hJx : ∀ p W W', Jx p W → Below (w.heap.size + 2) W W' → Jx p W' := fun p W W' ⟨c, h⟩ hB => ⟨c, hIx c p W W' h.1 (hB.mono (by omega)), (hB.block _ (by omega)).trans h.2.1, (hB.block _ (by omega)).trans h.2.2⟩
 have hc := hH (w.heap.size + 1) J Jx hJ hJx (fun p e W h => hBd p e W h.1) (by
  rintro p e rest W vs he hvs ⟨hi1, hl1, hd1⟩ hWs hW0
  have hlt : w.heap.size + 1 < W.heap.size := by omega
  have hy := run_yield (P := P) (args := vs.toArray) hl1 (by rw [hrec]; simp [hlen e vs hvs])
  rw [hrec] at hy
  refine ⟨fn, _, assign, body, hy, roundIn_wide' (n := 0) (roundIn_of_wpIn trivial ?_)⟩
  have hFa := fold_put hF ps vs hps
  have hz : (ps.toArray.zip vs.toArray) = (ps.zip vs).toArray := by simp
  rw [hz]
  simp only [List.foldl_toArray]
  refine round (w.heap.size + 1) p e rest W _ vs rfl he hvs hi1 hWs hW0 hFa _ ?_
  intro a₂ W₂ hM hb
  have hl2 : W₂.heap[w.heap.size + 1]? = some (.loop (rec .ready none)) := (hM.block _ (by omega) (.inr (by omega))).trans hl1
  have hd2 : W₂.heap[w.heap.size]? = some (.deferred (some [])) := (hM.block _ (by omega) (.inr (by omega))).trans hd1
  have hlt2 : w.heap.size + 1 < W₂.heap.size := Nat.lt_of_lt_of_le hlt hM.size
  refine ⟨_, run_beginRound hl2 (by rw [hrec]), ?_⟩
  have ho3 := only_putObj (l := w.heap.size + 1) (w := W₂) (.loop { rec .ready none with state := .busy })
  have hl3 : (W₂.putObj (w.heap.size + 1) (.loop { rec .ready none with state := .busy })).heap[w.heap.size + 1]? = some (.loop { rec .ready none with state := .busy }) := World.putObj_heap_same hlt2
  refine wpIn_mono (hb _ ho3) ?_
  have fin : ∀ (jump : Option Code) (W4 : World), Mid w0.heap.size w.heap.size (W₂.putObj (w.heap.size + 1) (.loop { rec .ready none with state := .busy })) W4 →
    (Instr.endRound (w.heap.size + 1) jump).run P W4 = .ok (.bool jump.isNone) (W4.putObj (w.heap.size + 1) (.loop (rec (if jump.isNone then .ready else .done) jump))) ∧
    (W4.putObj (w.heap.size + 1) (.loop (rec (if jump.isNone then .ready else .done) jump))).heap[w.heap.size + 1]? = some (.loop (rec (if jump.isNone then .ready else .done) jump)) ∧
    (W4.putObj (w.heap.size + 1) (.loop (rec (if jump.isNone then .ready else .done) jump))).heap[w.heap.size]? = some (.deferred (some [])) ∧
    Mid w0.heap.size (w.heap.size + 2) W (W4.putObj (w.heap.size + 1) (.loop (rec (if jump.isNone then .ready else .done) jump))) := by
   intro jump W4 h4
   have hsz3 := ho3.size
   have hl4 := (h4.block (w.heap.size + 1) (by omega) (.inr (by omega))).trans hl3
   have hd4 := (h4.block w.heap.size (by omega) (.inr (by omega))).trans ((ho3.block w.heap.size (by omega)).trans hd2)
   have hr := run_endRound (P := P) jump hl4
   refine ⟨?_, World.putObj_heap_same (Array.getElem?_eq_some_iff.1 hl4).1, (World.putObj_heap_other (by omega)).trans hd4, ?_⟩
   ·
    rw [hrec] at hr ⊢; exact hr
   ·
    have m1 := hM.mono (lo' := w0.heap.size) (hi' := w.heap.size + 2) (Nat.le_refl _) (by omega)
    have m2 := m1.only ho3 (.inl ⟨by omega, by omega⟩)
    have m3 := m2.trans (h4.mono (lo' := w0.heap.size) (hi' := w.heap.size + 2) (Nat.le_refl _) (by omega))
    exact m3.only (only_putObj _) (.inl ⟨by omega, by omega⟩)
  have keepI : ∀ q W4 o, I q W4 → I q (W4.putObj (w.heap.size + 1) o) := fun q W4 o h => hI _ _ _ h ((only_putObj o).below (by omega))
  have keepIx : ∀ c q W4 o, Ix c q W4 → Ix c q (W4.putObj (w.heap.size + 1) o) := fun c q W4 o h => hIx _ _ _ _ h ((only_putObj o).below (by omega))
  rintro ex a3 W4 hp
  cases ex with
  | normal =>
   obtain ⟨h4, hi4⟩ := hp
   obtain ⟨hr, e1, e2, e3⟩ := fin none W4 h4
   exact ⟨_, _, hr, e3, .inl ⟨rfl, keepI _ _ _ hi4, e1, e2⟩⟩
  | ret =>
   obtain ⟨h4, hi4⟩ := hp
   obtain ⟨hr, e1, e2, e3⟩ := fin (some .ret) W4 h4
   exact ⟨_, _, hr, e3, .inr ⟨rfl, .ret, keepIx _ _ _ _ hi4, e1, e2⟩⟩
  | exit id =>
   obtain ⟨h4, hi4⟩ := hp
   obtain ⟨hr, e1, e2, e3⟩ := fin (some (.exit id)) W4 h4
   exact ⟨_, _, hr, e3, .inr ⟨rfl, .exit id, keepIx _ _ _ _ hi4, e1, e2⟩⟩
  | goto t =>
   obtain ⟨h4, hi4⟩ := hp
   obtain ⟨hr, e1, e2, e3⟩ := fin (some (.goto t)) W4 h4
   exact ⟨_, _, hr, e3, .inr ⟨rfl, .goto t, keepIx _ _ _ _ hi4, e1, e2⟩⟩
  | panic ch => exact hp.elim
  | outgrown => exact hp.elim) W1 (hS W1 hB1) ⟨hI _ _ _ h0 hB1, hL1, hK1⟩ (by omega) (h0w.trans (hB1.mono hlo))
 have hpost : ∀ en W2, ((∃ v, en = .returned v) ∧ Mid w0.heap.size (w.heap.size + 2) W1 W2 ∧ (J evs W2 ∨ ∃ p, p <+: evs ∧ Jx p W2)) →
   rangePost Fence.wide 0 P (w.heap.size + 1) Q { a with defers := [{ target := .collected w.heap.size, args := #[] }] ++ a.defers } en W2 := by
  rintro en W2 ⟨⟨v, rfl⟩, hM, hend⟩
  have hM0 : Mid w0.heap.size (w.heap.size + 2) w W2 := (Mid.of_below (hi := w.heap.size + 2) hB1 hlo (by omega)).trans hM
  have hFs : Fs n { a with defers := [{ target := .collected w.heap.size, args := #[] }] ++ a.defers } l (ds := [{ target := .collected w.heap.size, args := #[] }]) := ⟨hF.size, by simp [hF.defers], hF.slot⟩
  rcases hend with ⟨hi2, hl2, hd2⟩ | ⟨p, hp, c, hi2, hl2, hd2⟩
  ·
   refine ⟨none, _, by have := run_endLoop (P := P) hl2 (by rw [hrec]; simp); rw [hrec] at this; exact this, ?_⟩
   exact done _ _ (hI _ _ _ hi2 ((only_putObj _).below (by omega))) (hM0.only (only_putObj _) (.inl ⟨by omega, by omega⟩)) ((World.putObj_heap_other (by omega)).trans hd2) hFs
  ·
   refine ⟨some c, _, by have := run_endLoop (P := P) hl2 (by rw [hrec]; simp); rw [hrec] at this; exact this, ?_⟩
   exact (wpIn_wide (n := 0)).2 (stop _ c p _ hp (hIx _ _ _ _ hi2 ((only_putObj _).below (by omega))) (hM0.only (only_putObj _) (.inl ⟨by omega, by omega⟩)) ((World.putObj_heap_other (by omega)).trans hd2) hFs)
 refine ⟨w.heap.size + 1, [{ target := .collected w.heap.size, args := #[] }], W1, { target := .fn (.func gf) lb, args := #[.func (.yield (w.heap.size + 1)) #[] #[]] }, W1, gf,
  #[.func (.yield (w.heap.size + 1)) #[] #[]] ++ lb, W1, ?_, ?_, fun _ _ => trivial, ?_, (fun h => by simp [Fence.wide] at h), ?_⟩
 ·
  rw [← hW1, hrec]; exact run_enterLoop_outer _ _ _ _ _
 ·
  simp only [resolve, hF.ov hg]
  simp [go_sem]
 ·
  simp [invoke, go_sem, hent _ _]
 ·
  exact ((callsIn_wide (n := 0 - 1)).2 hc).mono hpost

/-! ### A function that holds such a loop -/
theorem calls_fsM {P : Program} {f : FuncId} {fn : Func} {c : Code} {w : World} {R : Ending → World → Prop} (n : Nat) (L : List (Nat × Value)) {vs : List Value}
  (hf : P.funcs[f]? = some fn) (hb : fn.body = some c) (hn : fn.ntmps = n) (hl : L.map (·.2) = vs) (hi : L.map (·.1) = List.range L.length) (hm : Nat.ble L.length n = true)
  (h : ∀ a, Fs n a L → c.wp P (bodyPostM Fence.wide 0 P fn R) a w) : Calls P f vs.toArray w R := by
 refine (callsIn_wide (n := 0)).1 (callsIn_of_wp_marks hf hb trivial ((wpIn_wide (n := 0)).2 (h _ ?_)) rfl)
 have hlen : vs.length = L.length := by rw [← hl]; simp
 have hm := Nat.le_of_ble_eq_true hm
 have hL : (vs.zipIdx 0 |>.map fun p => (p.2, p.1)) = L := by
  rw [← hl]
  apply List.ext_getElem?
  intro j
  simp only [List.getElem?_map, List.getElem?_zipIdx, Option.map_map]
  have := congrArg (·[j]?) hi
  simp only [List.getElem?_map] at this
  cases hj : L[j]? with
  | none => simp
  | some p =>
   have hlt : j < L.length := by
    rcases Nat.lt_or_ge j L.length with h | h
    ·
     exact h
    ·
     rw [List.getElem?_eq_none h] at hj; cases hj
   rw [hj, List.getElem?_range hlt] at this
   simp at this
   simp [← this]
 rw [hn]
 have := Fs.start vs (n - vs.length)
 rw [hL, show vs.length + (n - vs.length) = n by omega] at this
 simpa using this
section
variable {P : Program} {n : Nat} {l : List (Nat × Value)} {w : World} {a : Act} {fn : Func} {R : Ending → World → Prop}
/-- It returns, behind the loop. -/
theorem resM {D : Nat} {v : Value} (hF : Fs n a l (ds := [{ target := .collected D, args := #[] }])) (hD : w.heap[D]? = some (.deferred (some []))) (h : ∀ w', Only D w w' → (results fn a.tmps).run P w' = .ok v w' ∧ R (.returned v) w') : bodyPostM Fence.wide 0 P fn R .ret a w := by
 show LeavesInM Fence.wide 0 P fn a.tmps R a.defers .returning w
 rw [hF.defers]
 refine ⟨by simp, .inl ⟨_, _, rfl, run_takeDeferred hD, ?_⟩⟩
 exact ⟨v, h _ (only_putObj _)⟩
variable {ds : List Deferred}
theorem run_cell2 {t r b t' r' b' : Nat} {v v' : Value} (hF : Fs n a l (ds := ds)) (hr : fn.results = #[.cell r t, .cell r' t']) (hl : lk l r = some (.pointer (some ⟨b, 0, none⟩))) (hl' : lk l r' = some (.pointer (some ⟨b', 0, none⟩))) (hL : (Instr.loadAt t (.pointer (some ⟨b, 0, none⟩))).run P w = .ok v w) (hL' : (Instr.loadAt t' (.pointer (some ⟨b', 0, none⟩))).run P w = .ok v' w) : (results fn a.tmps).run P w = .ok (.tuple #[v, v']) w := by
 have h1 := hF.slot r _ hl
 have h2 := hF.slot r' _ hl'
 simp [Instr.loadAt, Instr.sureAddr] at hL hL'
 simp [results, hr, h1, h2, asAddr, hL, hL']
theorem run_cellt {t r b r' : Nat} {v v' : Value} (hF : Fs n a l (ds := ds)) (hr : fn.results = #[.cell r t, .tmp r']) (hl : lk l r = some (.pointer (some ⟨b, 0, none⟩))) (hl' : lk l r' = some v') (hL : (Instr.loadAt t (.pointer (some ⟨b, 0, none⟩))).run P w = .ok v w) : (results fn a.tmps).run P w = .ok (.tuple #[v, v']) w := by
 have h1 := hF.slot r _ hl
 have h2 := hF.slot r' _ hl'
 simp [Instr.loadAt, Instr.sureAddr] at hL
 simp [results, hr, h1, h2, asAddr, hL]
end
end Go.Proofs.Ytbhhbfdoadecgaa

namespace Go.Proofs.Ytbhhbfdoadecgaa
open Go.RowKit Go.Shelf
set_option linter.unusedVariables false
set_option linter.unusedSimpArgs false

theorem flat4 : Flat Try.prog 4 = true := by kernel_rfl
theorem flat9 : Flat Try.prog 9 = true := by kernel_rfl
theorem flat25 : Flat Try.prog 25 = true := by kernel_rfl
theorem flat64 : Flat Try.prog 66 = true := by kernel_rfl
theorem wide27 : Wide Try.prog 27 8 = true := by kernel_rfl
theorem wide70 : Wide Try.prog 72 2 = true := by kernel_rfl
theorem wide93 : Wide Try.prog 81 2 = true := by kernel_rfl
theorem el25 : Elem Try.prog 25 27 8 120 := elem_of (by kernel_rfl)
theorem el122 : Elem Try.prog 119 81 2 16 := elem_of (by kernel_rfl)
abbrev nilS : Value := .slice none 0 0
abbrev z8 : List Value := [.int .i64 0, .int .i64 0, .string (ByteArray.mk #[]), .int .i64 0, .int .i64 0, nilS, nilS, nilS]
theorem zero4 : (Try.prog.info? 4).bind (·.zero) = some (.bool false) := by kernel_rfl
theorem zero25 : (Try.prog.info? 25).bind (·.zero) = some nilS := by kernel_rfl
theorem zero64 : (Try.prog.info? 66).bind (·.zero) = some (.pointer none) := by kernel_rfl
theorem zero27 : (Try.prog.info? 27).bind (·.zero) = some (.agg z8.toArray) := by kernel_rfl
theorem zero70 : (Try.prog.info? 72).bind (·.zero) = some (.agg [Value.int .i64 0, Value.int .i64 0].toArray) := by kernel_rfl
theorem zero93 : (Try.prog.info? 81).bind (·.zero) = some (.agg [Value.int .i64 0, Value.int .i64 0].toArray) := by kernel_rfl
theorem fa27_0 : fldB Try.prog 27 0 0 = true := by kernel_rfl
theorem fa27_1 : fldB Try.prog 27 1 1 = true := by kernel_rfl
theorem fa27_2 : fldB Try.prog 27 2 2 = true := by kernel_rfl
theorem fa27_3 : fldB Try.prog 27 3 3 = true := by kernel_rfl
theorem fa27_4 : fldB Try.prog 27 4 6 = true := by kernel_rfl
theorem fa27_5 : fldB Try.prog 27 5 7 = true := by kernel_rfl
theorem fa70_0 : fldB Try.prog 72 0 0 = true := by kernel_rfl
theorem fa70_1 : fldB Try.prog 72 1 1 = true := by kernel_rfl
theorem fa93_0 : fldB Try.prog 81 0 0 = true := by kernel_rfl
theorem fa93_1 : fldB Try.prog 81 1 1 = true := by kernel_rfl
theorem fa110_0 : fldB Try.prog 110 0 0 = true := by kernel_rfl

/-- A term's eight cells. -/
structure C8 where
 k : Int
 n : Int
 s : ByteArray
 l : C3
 ls : Value
 ts : Value
def tc (x : C8) : List Value := [.int .i64 x.k, .int .i64 x.n, .string x.s, .int .i64 x.l.1, .int .i64 x.l.2.1, x.l.2.2, x.ls, x.ts]
abbrev tv (x : C8) : Value := .agg (tc x).toArray
theorem tc_len (x : C8) : (tc x).length = 8 := rfl
theorem fm8_get : ∀ (xs : List C8) (i j : Nat) (x : C8) (u : Value), xs[i]? = some x → (tc x)[j]? = some u → (xs.flatMap tc)[i * 8 + j]? = some u
 | [], i, j, x, u, h1, _ => by simp at h1
 | y :: xs, 0, j, x, u, h1, h2 => by
  simp at h1
  subst h1
  have hj : j < 8 := (List.getElem?_eq_some_iff.1 h2).1
  rw [List.flatMap_cons, List.getElem?_append_left (by simp [tc]; omega), Nat.zero_mul, Nat.zero_add, h2]
 | y :: xs, i + 1, j, x, u, h1, h2 => by
  rw [List.flatMap_cons, List.getElem?_append_right (by simp [tc]; omega), show (i + 1) * 8 + j - (tc y).length = i * 8 + j by simp [tc]; omega]
  exact fm8_get xs i j x u (by simpa using h1) h2
theorem fm8_len (xs : List C8) : (xs.flatMap tc).length = xs.length * 8 := by
 induction xs with
 | nil => rfl
 | cons x xs ih => rw [List.flatMap_cons, List.length_append, ih, tc_len, List.length_cons]; omega

theorem own_slice (a : Option Addr) (n c m d : Nat) : (Value.slice a n c).ownBlock = (Value.slice a m d).ownBlock := by cases a <;> rfl
/-- A slice of n elements of k cells; its block, if it has elements, is one of A. -/
def Rn (W : World) (A : Nat → Prop) (v : Value) (k n : Nat) (cs : List Value) : Prop := Rd W v k n cs ∧ (0 < n → ∀ b, v.ownBlock = some b → A b)
section
variable {W W' : World} {A B : Nat → Prop} {v : Value} {k n : Nat} {cs : List Value}
theorem Rn.keep (h : Rn W A v k n cs) (hs : W.heap.size ≤ W'.heap.size) (hk : ∀ k, A k → k < W.heap.size → W'.heap[k]? = W.heap[k]?) : Rn W' A v k n cs := by
 rcases Nat.eq_zero_or_pos n with hn | hn
 ·
  refine ⟨⟨h.1.1, ?_⟩, h.2⟩
  obtain ⟨a, c, h1, h2, h3⟩ := h.1.form
  exact .inl ⟨a, c, by rw [h1, hn], hn, h3⟩
 ·
  exact ⟨h.1.keep hs (fun b hb hl => hk b (h.2 hn b hb) hl), h.2⟩
theorem Rn.mono (hAB : ∀ k, A k → B k) (h : Rn W A v k n cs) : Rn W B v k n cs := ⟨h.1, fun hn b hb => hAB b (h.2 hn b hb)⟩
theorem Rn.nil (W : World) (A : Nat → Prop) (k : Nat) : Rn W A nilS k 0 [] := ⟨Rd.nil W k, fun h => by omega⟩
theorem Rn.lt (h : Rn W A v k n cs) : Rn W (fun k => A k ∧ k < W.heap.size) v k n cs := ⟨h.1, fun hn b hb => ⟨h.2 hn b hb, h.1.lt hn hb⟩⟩
end
theorem Rd.n {W : World} {v : Value} {k m : Nat} {cs : List Value} (h : Rd W v k m cs) : Rn W (fun k => k < W.heap.size) v k m cs := ⟨h, fun hn b hb => h.lt hn hb⟩

/-- x reads as the level l, in blocks of A. -/
inductive RLn (W : World) (A : Nat → Prop) : C3 → Lv → Prop where
 | mk {k n : Int} {v : Value} {xs : List C3} {ls : List Lv} (hR : Rn W A v 3 xs.length (xs.flatMap lc)) (hl : xs.length = ls.length) (hk : ∀ (i : Nat) x l, xs[i]? = some x → ls[i]? = some l → RLn W A x l) (hbd9 : ls.length ≤ 9223372036854775807 := by first | (simp; done) | assumption | omega) : RLn W A (k, n, v) (.mk k n ls)
section
variable {W W' : World} {A B : Nat → Prop} {x : C3} {l : Lv}
theorem RLn.rl (h : RLn W A x l) : RL W x l := by
 induction h with
 | mk hR hl hk hbd9 ih => exact .mk hR.1 hl ih hbd9
theorem RL.n (h : RL W x l) : RLn W (fun k => k < W.heap.size) x l := by
 induction h with
 | mk hR hl hk hbd9 ih => exact .mk hR.n hl ih hbd9
theorem RLn.keep (hs : W.heap.size ≤ W'.heap.size) (hk : ∀ k, A k → k < W.heap.size → W'.heap[k]? = W.heap[k]?) (h : RLn W A x l) : RLn W' A x l := by
 induction h with
 | mk hR hl _ hbd9 ih => exact .mk (hR.keep hs hk) hl ih hbd9
theorem RLn.mono (hAB : ∀ k, A k → B k) (h : RLn W A x l) : RLn W B x l := by
 induction h with
 | mk hR hl _ hbd9 ih => exact .mk (hR.mono hAB) hl ih hbd9
theorem RLn.slice (h : RLn W A x l) : ∃ n cs, Rd W x.2.2 3 n cs := h.rl.slice
end
/-- A slice of levels. -/
def RVn (W : World) (A : Nat → Prop) (v : Value) (ls : List Lv) : Prop := ∃ xs : List C3, Rn W A v 3 xs.length (xs.flatMap lc) ∧ xs.length = ls.length ∧ ∀ (i : Nat) x l, xs[i]? = some x → ls[i]? = some l → RLn W A x l
section
variable {W W' : World} {A B : Nat → Prop} {v : Value} {ls : List Lv}
theorem RVn.keep (hs : W.heap.size ≤ W'.heap.size) (hk : ∀ k, A k → k < W.heap.size → W'.heap[k]? = W.heap[k]?) : RVn W A v ls → RVn W' A v ls :=
 fun ⟨xs, h1, h2, h3⟩ => ⟨xs, h1.keep hs hk, h2, fun i x l e1 e2 => (h3 i x l e1 e2).keep hs hk⟩
theorem RVn.mono (hAB : ∀ k, A k → B k) : RVn W A v ls → RVn W B v ls := fun ⟨xs, h1, h2, h3⟩ => ⟨xs, h1.mono hAB, h2, fun i x l e1 e2 => (h3 i x l e1 e2).mono hAB⟩
theorem RVn.nil (W : World) (A : Nat → Prop) : RVn W A nilS [] := ⟨[], Rn.nil W A 3, rfl, fun i x l h => by simp at h⟩
theorem RVn.form (h : RVn W A v ls) : ∃ a c, v = .slice a ls.length c ∧ ls.length ≤ c ∧ (a = none → c = 0) := by
 obtain ⟨xs, h1, h2, _⟩ := h
 rw [← h2]
 exact h1.1.form
theorem RVn.one (h : RVn W A v ls) : v.oneCell' = true := by
 obtain ⟨a, c, rfl, _⟩ := h.form
 rfl
end

/-- A term, as far as it is looked at; m: how many kids more there are (of an odd one: how many there are). -/
inductive CT where
 | var (n : Int) (m : Nat)
 | sort (l : Lv) (m : Nat)
 | cst (s : ByteArray) (ls : List Lv) (m : Nat)
 | odd (k : Int) (m : Nat)
 | two (k : Int) (a b : CT) (m : Nat)
 | lt (a b c : CT) (m : Nat)
def arT (k : Int) : Int := if k = 1 ∨ k = 2 ∨ k = 7 then 0 else if k = 3 ∨ k = 4 ∨ k = 6 then 2 else if k = 5 then 3 else -1
def CT.size : CT → Nat
 | .two _ a b _ => a.size + b.size + 1
 | .lt a b c _ => a.size + b.size + c.size + 1
 | _ => 1
def CT.dep : CT → Nat
 | .two _ a b _ => max a.dep b.dep + 1
 | .lt a b c _ => max a.dep (max b.dep c.dep) + 1
 | _ => 1
def CT.kids : CT → List CT
 | .two _ a b _ => [a, b]
 | .lt a b c _ => [a, b, c]
 | _ => []
def CT.kd : CT → Int
 | .var .. => 1
 | .sort .. => 2
 | .cst .. => 7
 | .odd k _ => k
 | .two k .. => k
 | .lt .. => 5
/-- How many kids its list has. -/
def CT.len : CT → Nat
 | .var _ m => m
 | .sort _ m => m
 | .cst _ _ m => m
 | .odd _ m => m
 | .two _ _ _ m => m + 2
 | .lt _ _ _ m => m + 3
/-- How many binders of its own its kid i stands beneath. -/
def CT.bnd : CT → Nat → Int
 | .two k _ _ _, i => if (k = 3 ∨ k = 4) ∧ i = 1 then 1 else 0
 | .lt .., i => if i = 2 then 1 else 0
 | _, _ => 0
def in64 (z : Int) : Prop := -9223372036854775808 ≤ z ∧ z < 9223372036854775808
/-- What every term's cells are. -/
def Ok (W : World) (A : Nat → Prop) (x : C8) : Prop := (∃ l, RLn W A x.l l) ∧ (∃ ls, RVn W A x.ls ls)
def RC (W : World) (A : Nat → Prop) : CT → C8 → Prop
 | .var n m, x => x.k = 1 ∧ x.n = n ∧ in64 n ∧ (∃ cs, Rn W A x.ts 8 m cs) ∧ Ok W A x
 | .sort l m, x => x.k = 2 ∧ RLn W A x.l l ∧ (∃ cs, Rn W A x.ts 8 m cs) ∧ Ok W A x
 | .cst s ls m, x => x.k = 7 ∧ x.s = s ∧ RVn W A x.ls ls ∧ (∃ cs, Rn W A x.ts 8 m cs) ∧ Ok W A x
 | .odd k m, x => x.k = k ∧ (arT k < 0 ∨ (m : Int) < arT k) ∧ (∃ cs, Rn W A x.ts 8 m cs) ∧ Ok W A x
 | .two k a b m, x => x.k = k ∧ (k = 3 ∨ k = 4 ∨ k = 6) ∧ (∃ y z cs, Rn W A x.ts 8 (m + 2) (tc y ++ (tc z ++ cs)) ∧ RC W A a y ∧ RC W A b z) ∧ Ok W A x
 | .lt a b c m, x => x.k = 5 ∧ (∃ y z u cs, Rn W A x.ts 8 (m + 3) (tc y ++ (tc z ++ (tc u ++ cs))) ∧ RC W A a y ∧ RC W A b z ∧ RC W A c u) ∧ Ok W A x
section
variable {W W' : World} {A B : Nat → Prop}
theorem Ok.keep (hs : W.heap.size ≤ W'.heap.size) (hk : ∀ k, A k → k < W.heap.size → W'.heap[k]? = W.heap[k]?) {x : C8} : Ok W A x → Ok W' A x := fun ⟨⟨l, h1⟩, ls, h2⟩ => ⟨⟨l, h1.keep hs hk⟩, ls, h2.keep hs hk⟩
theorem Ok.mono (hAB : ∀ k, A k → B k) {x : C8} : Ok W A x → Ok W B x := fun ⟨⟨l, h1⟩, ls, h2⟩ => ⟨⟨l, h1.mono hAB⟩, ls, h2.mono hAB⟩
theorem RC.keep (hs : W.heap.size ≤ W'.heap.size) (hk : ∀ k, A k → k < W.heap.size → W'.heap[k]? = W.heap[k]?) : ∀ {c : CT} {x : C8}, RC W A c x → RC W' A c x
 | .var .., x, ⟨h1, h2, h3, ⟨cs, h4⟩, h5⟩ => ⟨h1, h2, h3, ⟨cs, h4.keep hs hk⟩, h5.keep hs hk⟩
 | .sort .., x, ⟨h1, h2, ⟨cs, h4⟩, h5⟩ => ⟨h1, h2.keep hs hk, ⟨cs, h4.keep hs hk⟩, h5.keep hs hk⟩
 | .cst .., x, ⟨h1, h2, h3, ⟨cs, h4⟩, h5⟩ => ⟨h1, h2, h3.keep hs hk, ⟨cs, h4.keep hs hk⟩, h5.keep hs hk⟩
 | .odd .., x, ⟨h1, h2, ⟨cs, h4⟩, h5⟩ => ⟨h1, h2, ⟨cs, h4.keep hs hk⟩, h5.keep hs hk⟩
 | .two .., x, ⟨h1, h2, ⟨y, z, cs, h3, h4, h5⟩, h6⟩ => ⟨h1, h2, ⟨y, z, cs, h3.keep hs hk, RC.keep hs hk h4, RC.keep hs hk h5⟩, h6.keep hs hk⟩
 | .lt .., x, ⟨h1, ⟨y, z, u, cs, h3, h4, h5, h7⟩, h6⟩ => ⟨h1, ⟨y, z, u, cs, h3.keep hs hk, RC.keep hs hk h4, RC.keep hs hk h5, RC.keep hs hk h7⟩, h6.keep hs hk⟩
theorem RC.mono (hAB : ∀ k, A k → B k) : ∀ {c : CT} {x : C8}, RC W A c x → RC W B c x
 | .var .., x, ⟨h1, h2, h3, ⟨cs, h4⟩, h5⟩ => ⟨h1, h2, h3, ⟨cs, h4.mono hAB⟩, h5.mono hAB⟩
 | .sort .., x, ⟨h1, h2, ⟨cs, h4⟩, h5⟩ => ⟨h1, h2.mono hAB, ⟨cs, h4.mono hAB⟩, h5.mono hAB⟩
 | .cst .., x, ⟨h1, h2, h3, ⟨cs, h4⟩, h5⟩ => ⟨h1, h2, h3.mono hAB, ⟨cs, h4.mono hAB⟩, h5.mono hAB⟩
 | .odd .., x, ⟨h1, h2, ⟨cs, h4⟩, h5⟩ => ⟨h1, h2, ⟨cs, h4.mono hAB⟩, h5.mono hAB⟩
 | .two .., x, ⟨h1, h2, ⟨y, z, cs, h3, h4, h5⟩, h6⟩ => ⟨h1, h2, ⟨y, z, cs, h3.mono hAB, RC.mono hAB h4, RC.mono hAB h5⟩, h6.mono hAB⟩
 | .lt .., x, ⟨h1, ⟨y, z, u, cs, h3, h4, h5, h7⟩, h6⟩ => ⟨h1, ⟨y, z, u, cs, h3.mono hAB, RC.mono hAB h4, RC.mono hAB h5, RC.mono hAB h7⟩, h6.mono hAB⟩
theorem RC.ok : ∀ {c : CT} {x : C8}, RC W A c x → Ok W A x
 | .var .., x, h => h.2.2.2.2
 | .sort .., x, h => h.2.2.2
 | .cst .., x, h => h.2.2.2.2
 | .odd .., x, h => h.2.2.2
 | .two .., x, h => h.2.2.2
 | .lt .., x, h => h.2.2
theorem RC.kd : ∀ {c : CT} {x : C8}, RC W A c x → x.k = c.kd
 | .var .., x, h => h.1
 | .sort .., x, h => h.1
 | .cst .., x, h => h.1
 | .odd .., x, h => h.1
 | .two .., x, h => h.1
 | .lt .., x, h => h.1
theorem RC.ts : ∀ {c : CT} {x : C8}, RC W A c x → ∃ cs, Rn W A x.ts 8 c.len cs
 | .var .., x, h => h.2.2.2.1
 | .sort .., x, h => h.2.2.1
 | .cst .., x, h => h.2.2.2.1
 | .odd .., x, h => h.2.2.1
 | .two .., x, ⟨_, _, ⟨y, z, cs, h, _⟩, _⟩ => ⟨_, h⟩
 | .lt .., x, ⟨_, ⟨y, z, u, cs, h, _⟩, _⟩ => ⟨_, h⟩
theorem RC.below {c : CT} {x : C8} (h : RC W A c x) (hB : Below W.heap.size W W') : RC W' A c x := h.keep hB.size (fun k _ hk => hB.block k hk)
theorem RC.only {c : CT} {x : C8} {b : Nat} (h : RC W A c x) (o : Only b W W') (hb : ¬ A b) : RC W' A c x := h.keep (Nat.le_of_eq o.size.symm) (fun k ha _ => o.block k (fun e => hb (e ▸ ha)))
theorem RC.k2 {c : CT} {x : C8} {a b : Nat} (h : RC W A c x) (hK : Ktw a b W W') (ha : ¬ A a) (hb : ¬ A b) : RC W' A c x := h.keep hK.size (fun k hA hk => hK.block k hk ⟨fun e => ha (e ▸ hA), fun e => hb (e ▸ hA)⟩)
/-- Each cell of it is one. -/
theorem RC.one {c : CT} {x : C8} (h : RC W A c x) : ∀ u ∈ tc x, u.oneCell' = true := by
 obtain ⟨⟨l, hl⟩, ls, hls⟩ := h.ok
 obtain ⟨cs, ht⟩ := h.ts
 obtain ⟨n, cs', hs⟩ := hl.slice
 intro u hu
 simp only [tc, List.mem_cons, List.not_mem_nil, or_false] at hu
 rcases hu with rfl | rfl | rfl | rfl | rfl | rfl | rfl | rfl
 ·
  rfl
 ·
  rfl
 ·
  rfl
 ·
  rfl
 ·
  rfl
 ·
  exact hs.one
 ·
  exact hls.one
 ·
  exact ht.1.one
end
/-- A slice of terms. -/
def RK (W : World) (A : Nat → Prop) (v : Value) (cs : List CT) : Prop := ∃ xs : List C8, Rn W A v 8 xs.length (xs.flatMap tc) ∧ xs.length = cs.length ∧ ∀ (i : Nat) x c, xs[i]? = some x → cs[i]? = some c → RC W A c x
section
variable {W W' : World} {A B : Nat → Prop} {v : Value} {cs : List CT}
theorem RK.keep (hs : W.heap.size ≤ W'.heap.size) (hk : ∀ k, A k → k < W.heap.size → W'.heap[k]? = W.heap[k]?) : RK W A v cs → RK W' A v cs :=
 fun ⟨xs, h1, h2, h3⟩ => ⟨xs, h1.keep hs hk, h2, fun i x l e1 e2 => (h3 i x l e1 e2).keep hs hk⟩
theorem RK.mono (hAB : ∀ k, A k → B k) : RK W A v cs → RK W B v cs := fun ⟨xs, h1, h2, h3⟩ => ⟨xs, h1.mono hAB, h2, fun i x l e1 e2 => (h3 i x l e1 e2).mono hAB⟩
theorem RK.below (h : RK W A v cs) (hB : Below W.heap.size W W') : RK W' A v cs := h.keep hB.size (fun k _ hk => hB.block k hk)
theorem RK.nil (W : World) (A : Nat → Prop) : RK W A nilS [] := ⟨[], Rn.nil W A 8, rfl, fun i x l h => by simp at h⟩
theorem RK.form (h : RK W A v cs) : ∃ a c, v = .slice a cs.length c ∧ cs.length ≤ c ∧ (a = none → c = 0) := by
 obtain ⟨xs, h1, h2, _⟩ := h
 rw [← h2]
 exact h1.1.form
theorem RK.one (h : RK W A v cs) : v.oneCell' = true := by
 obtain ⟨a, c, rfl, _⟩ := h.form
 rfl
/-- An element, read. -/
theorem RK.row (h : RK W A v cs) {i : Nat} (hi : i < cs.length) :
  ∃ b off c x y, v = .slice (some ⟨b, off, none⟩) cs.length c ∧ cs[i]? = some y ∧ RC W A y x ∧ A b ∧ b < W.heap.size ∧ ∀ W' : World, W'.heap[b]? = W.heap[b]? → ∀ j u, (tc x)[j]? = some u → W'.cell? ((⟨b, off + i * 8, none⟩ : Addr).add j) = some u := by
 obtain ⟨xs, h1, h2, h3⟩ := h
 obtain ⟨b, off, c, rfl, hb⟩ := h1.1.some (by omega)
 refine ⟨b, off, c, xs[i]'(by omega), cs[i], by rw [h2], List.getElem?_eq_getElem hi, h3 i _ _ (List.getElem?_eq_getElem (by omega)) (List.getElem?_eq_getElem hi), h1.2 (by omega) b rfl, hb, fun W' hB j u hj => ?_⟩
 rw [addr_addn, Nat.add_assoc]
 exact (World.cell?_of_block (w := W) (a := ⟨b, off + (i * 8 + j), none⟩) hB).trans (h1.1.cell (fm8_get xs i j _ u (List.getElem?_eq_getElem (by omega)) hj))
/-- A term's kids. -/
theorem RC.kids : ∀ {c : CT} {x : C8}, RC W A c x → ∃ a n cap, x.ts = .slice a n cap ∧ c.kids.length ≤ n ∧ n = c.len ∧ c.kids.length ≤ cap ∧ RK W A (.slice a c.kids.length cap) c.kids
 | .var n m, x, ⟨_, _, _, ⟨cs, h⟩, _⟩ => by
  obtain ⟨a, c, h1, h2, h3⟩ := h.1.form
  exact ⟨a, m, c, h1, Nat.zero_le _, rfl, Nat.zero_le _, [], ⟨⟨by simp, .inl ⟨_, _, rfl, rfl, h3⟩⟩, fun h => by simp at h⟩, rfl, fun i x l h => by simp at h⟩
 | .sort n m, x, ⟨_, _, ⟨cs, h⟩, _⟩ => by
  obtain ⟨a, c, h1, h2, h3⟩ := h.1.form
  exact ⟨a, m, c, h1, Nat.zero_le _, rfl, Nat.zero_le _, [], ⟨⟨by simp, .inl ⟨_, _, rfl, rfl, h3⟩⟩, fun h => by simp at h⟩, rfl, fun i x l h => by simp at h⟩
 | .cst _ n m, x, ⟨_, _, _, ⟨cs, h⟩, _⟩ => by
  obtain ⟨a, c, h1, h2, h3⟩ := h.1.form
  exact ⟨a, m, c, h1, Nat.zero_le _, rfl, Nat.zero_le _, [], ⟨⟨by simp, .inl ⟨_, _, rfl, rfl, h3⟩⟩, fun h => by simp at h⟩, rfl, fun i x l h => by simp at h⟩
 | .odd n m, x, ⟨_, _, ⟨cs, h⟩, _⟩ => by
  obtain ⟨a, c, h1, h2, h3⟩ := h.1.form
  exact ⟨a, m, c, h1, Nat.zero_le _, rfl, Nat.zero_le _, [], ⟨⟨by simp, .inl ⟨_, _, rfl, rfl, h3⟩⟩, fun h => by simp at h⟩, rfl, fun i x l h => by simp at h⟩
 | .two k p q m, x, ⟨_, _, ⟨y, z, cs, h, hp, hq⟩, _⟩ => by
  obtain ⟨a, c, h1, h2, h3⟩ := h.1.form
  have hu := (h1 ▸ h.1).upto 2 (by omega)
  rw [show (tc y ++ (tc z ++ cs)).take (2 * 8) = [y, z].flatMap tc by simp [tc]] at hu
  refine ⟨a, m + 2, c, h1, by simp [CT.kids], rfl, by simp [CT.kids]; omega, [y, z], ⟨hu, fun _ b hb => h.2 (by omega) b (by rw [h1, own_slice _ _ _ _ c]; exact hb)⟩, rfl, fun i x l e1 e2 => ?_⟩
  rcases i with _ | _ | i
  ·
   simp [CT.kids] at e1 e2; subst e1 e2; exact hp
  ·
   simp [CT.kids] at e1 e2; subst e1 e2; exact hq
  ·
   simp at e1
 | .lt p q r m, x, ⟨_, ⟨y, z, u, cs, h, hp, hq, hr⟩, _⟩ => by
  obtain ⟨a, c, h1, h2, h3⟩ := h.1.form
  have hu := (h1 ▸ h.1).upto 3 (by omega)
  rw [show (tc y ++ (tc z ++ (tc u ++ cs))).take (3 * 8) = [y, z, u].flatMap tc by simp [tc]] at hu
  refine ⟨a, m + 3, c, h1, by simp [CT.kids], rfl, by simp [CT.kids]; omega, [y, z, u], ⟨hu, fun _ b hb => h.2 (by omega) b (by rw [h1, own_slice _ _ _ _ c]; exact hb)⟩, rfl, fun i x l e1 e2 => ?_⟩
  rcases i with _ | _ | _ | i
  ·
   simp [CT.kids] at e1 e2; subst e1 e2; exact hp
  ·
   simp [CT.kids] at e1 e2; subst e1 e2; exact hq
  ·
   simp [CT.kids] at e1 e2; subst e1 e2; exact hr
  ·
   simp at e1
end
theorem CT.kids_arT {W : World} {A : Nat → Prop} : ∀ {c : CT} {x : C8}, RC W A c x → (c.kids.length : Int) = max 0 (arT c.kd) ∧ arT c.kd ≤ c.len ∨ (c.kids.length = 0 ∧ (arT c.kd < 0 ∨ (c.len : Int) < arT c.kd))
 | .var n m, x, _ => .inl (by simp [CT.kids, CT.kd, CT.len, arT])
 | .sort n m, x, _ => .inl (by simp [CT.kids, CT.kd, CT.len, arT])
 | .cst _ n m, x, _ => .inl (by simp [CT.kids, CT.kd, CT.len, arT])
 | .odd k m, x, ⟨_, h, _⟩ => .inr ⟨rfl, h⟩
 | .two k p q m, x, ⟨_, h, _⟩ => .inl (by rcases h with rfl | rfl | rfl <;> simp [CT.kids, CT.kd, CT.len, arT] <;> omega)
 | .lt p q r m, x, _ => .inl (by simp [CT.kids, CT.kd, CT.len, arT]; omega)
theorem CT.kid_size : ∀ {c k : CT} {i : Nat}, c.kids[i]? = some k → k.size < c.size ∧ k.dep < c.dep
 | .two _ a b _, k, i, h => by
  rcases i with _ | _ | i
  ·
   simp [CT.kids] at h; subst h; simp only [CT.size, CT.dep]; omega
  ·
   simp [CT.kids] at h; subst h; simp only [CT.size, CT.dep]; omega
  ·
   simp [CT.kids] at h
 | .lt a b c _, k, i, h => by
  rcases i with _ | _ | _ | i
  ·
   simp [CT.kids] at h; subst h; simp only [CT.size, CT.dep]; omega
  ·
   simp [CT.kids] at h; subst h; simp only [CT.size, CT.dep]; omega
  ·
   simp [CT.kids] at h; subst h; simp only [CT.size, CT.dep]; omega
  ·
   simp [CT.kids] at h
 | .var .., k, i, h => by simp [CT.kids] at h
 | .sort .., k, i, h => by simp [CT.kids] at h
 | .cst .., k, i, h => by simp [CT.kids] at h
 | .odd .., k, i, h => by simp [CT.kids] at h
theorem CT.kids_le (c : CT) : c.kids.length ≤ 3 := by cases c <;> simp [CT.kids]
theorem CT.bnd_is (c : CT) (i : Nat) : c.bnd i = 0 ∨ c.bnd i = 1 := by
 cases c <;> simp only [CT.bnd] <;> (try split) <;> simp
theorem CT.size_pos (c : CT) : 0 < c.size := by cases c <;> simp [CT.size]
theorem CT.dep_pos (c : CT) : 0 < c.dep := by cases c <;> simp [CT.dep]
end Go.Proofs.Ytbhhbfdoadecgaa

namespace Go.Proofs.Ytbhhbfdoadecgaa
open Go.RowKit Go.Shelf
set_option linter.unusedVariables false
set_option linter.unusedSimpArgs false
abbrev emptyB : ByteArray := ByteArray.mk #[]
theorem b70_01 (k n : Int) (w : World) : (Instr.build 72 [(0, Value.int .i64 k), (1, Value.int .i64 n)].toArray).run Try.prog w = .ok (.agg [Value.int .i64 k, Value.int .i64 n].toArray) w := run_build w 72 _ _ (by kernel_rfl)
theorem b70_ (w : World) : (Instr.build 72 [].toArray).run Try.prog w = .ok (.agg [Value.int .i64 0, Value.int .i64 0].toArray) w := run_build w 72 _ _ (by kernel_rfl)
theorem b93_01 (k n : Int) (w : World) : (Instr.build 81 [(0, Value.int .i64 k), (1, Value.int .i64 n)].toArray).run Try.prog w = .ok (.agg [Value.int .i64 k, Value.int .i64 n].toArray) w := run_build w 81 _ _ (by kernel_rfl)
theorem b110_0 (k : Int) (w : World) : (Instr.build 110 [(0, Value.int .i64 k)].toArray).run Try.prog w = .ok (.agg [Value.int .i64 k].toArray) w := run_build w 110 _ _ (by kernel_rfl)
theorem b27_ (w : World) : (Instr.build 27 [].toArray).run Try.prog w = .ok (.agg z8.toArray) w := run_build w 27 _ _ (by kernel_rfl)
theorem b27_01 (k n : Int) (w : World) : (Instr.build 27 [(0, Value.int .i64 k), (1, Value.int .i64 n)].toArray).run Try.prog w = .ok (tv ⟨k, n, emptyB, (0, 0, nilS), nilS, nilS⟩) w := run_build w 27 _ _ (by kernel_rfl)
theorem b27_05 (k : Int) (a : Option Addr) (m c : Nat) (w : World) : (Instr.build 27 [(0, Value.int .i64 k), (5, Value.slice a m c)].toArray).run Try.prog w = .ok (tv ⟨k, 0, emptyB, (0, 0, nilS), nilS, .slice a m c⟩) w := run_build w 27 _ _ (by kernel_rfl)
theorem b27_03 (k p q : Int) (a : Option Addr) (m c : Nat) (w : World) : (Instr.build 27 [(0, Value.int .i64 k), (3, lv (p, q, .slice a m c))].toArray).run Try.prog w = .ok (tv ⟨k, 0, emptyB, (p, q, .slice a m c), nilS, nilS⟩) w := run_build w 27 _ _ (by kernel_rfl)
theorem b27_024 (k : Int) (s : ByteArray) (a : Option Addr) (m c : Nat) (w : World) : (Instr.build 27 [(0, Value.int .i64 k), (2, Value.string s), (4, Value.slice a m c)].toArray).run Try.prog w = .ok (tv ⟨k, 0, s, (0, 0, nilS), .slice a m c, nilS⟩) w := run_build w 27 _ _ (by kernel_rfl)
theorem oneII (z y : Int) : ∀ u ∈ [Value.int .i64 z, Value.int .i64 y], u.oneCell' = true := by simp [Value.oneCell']
theorem one8 : ∀ u ∈ z8, u.oneCell' = true := by simp [Value.oneCell']
theorem one_tc0 (k n : Int) (s : ByteArray) (ts : Value) (h : ts.oneCell' = true) : ∀ u ∈ tc ⟨k, n, s, (0, 0, nilS), nilS, ts⟩, u.oneCell' = true := by
 intro u hu
 simp only [tc, List.mem_cons, List.not_mem_nil, or_false] at hu
 rcases hu with rfl | rfl | rfl | rfl | rfl | rfl | rfl | rfl <;> first | rfl | exact h
theorem ok0 (W : World) (A : Nat → Prop) (k n : Int) (s : ByteArray) (ts : Value) : Ok W A ⟨k, n, s, (0, 0, nilS), nilS, ts⟩ := ⟨⟨.mk 0 0 [], .mk (xs := []) (Rn.nil W A 3) rfl (fun i x l h => by simp at h)⟩, [], RVn.nil W A⟩
end Go.Proofs.Ytbhhbfdoadecgaa

namespace Go.Proofs.Ytbhhbfdoadecgaa
open Go.RowKit Go.Shelf
set_option linter.unusedVariables false
set_option linter.unusedSimpArgs false

theorem arT_rng (k : Int) : -1 ≤ arT k ∧ arT k ≤ 3 := by
 unfold arT
 split
 ·
  omega
 ·
  split
  ·
   omega
  ·
   split <;> omega
theorem CT.bnd_eq {W : World} {A : Nat → Prop} : ∀ {c : CT} {x : C8} {i : Nat}, RC W A c x → i < c.kids.length → (c.bnd i = 1 ∧ (c.kd = 3 ∨ c.kd = 4 ∨ c.kd = 5) ∧ i + 1 = c.kids.length) ∨ (c.bnd i = 0 ∧ ¬ ((c.kd = 3 ∨ c.kd = 4 ∨ c.kd = 5) ∧ i + 1 = c.kids.length))
 | .two k a b m, x, i, h, hi => by
  have hk := h.2.1
  have e1 : (CT.two k a b m).kids.length = 2 := rfl
  have e2 : (CT.two k a b m).kd = k := rfl
  rw [e1] at hi ⊢
  rw [e2]
  simp only [CT.bnd]
  split <;> omega
 | .lt a b c m, x, i, h, hi => by
  have e1 : (CT.lt a b c m).kids.length = 3 := rfl
  have e2 : (CT.lt a b c m).kd = 5 := rfl
  rw [e1] at hi ⊢
  rw [e2]
  have e3 : (CT.lt a b c m).bnd i = if i = 2 then 1 else 0 := rfl
  rw [e3]
  split
  ·
   next h => exact .inl ⟨rfl, .inr (.inr rfl), by omega⟩
  ·
   next h => exact .inr ⟨rfl, fun h' => h (by omega)⟩
 | .var .., x, i, h, hi => by simp [CT.kids] at hi
 | .sort .., x, i, h, hi => by simp [CT.kids] at hi
 | .cst .., x, i, h, hi => by simp [CT.kids] at hi
 | .odd .., x, i, h, hi => by simp [CT.kids] at hi
/-- Is it the variable that is d? -/
def CT.isV : CT → Int → Bool
 | .var n _, d => decide (n = d)
 | _, _ => false
theorem CT.isV_eq {W : World} {A : Nat → Prop} {c : CT} {x : C8} (h : RC W A c x) (d : Int) : c.isV d = (decide (x.k = 1) && decide (x.n = d)) := by
 cases c with
 | var n m => simp [CT.isV, h.1, h.2.1]
 | sort l m => simp [CT.isV, h.1]
 | cst s ls m => simp [CT.isV, h.1]
 | odd k m =>
  have h1 := h.1
  have h2 := h.2.1
  simp only [CT.isV]
  rw [decide_eq_false]
  ·
   rfl
  ·
   intro e; rw [e] at h1; subst h1; simp [arT] at h2; omega
 | two k a b m =>
  have h1 := h.1
  have h2 := h.2.1
  simp only [CT.isV]
  rw [decide_eq_false]
  ·
   rfl
  ·
   omega
 | lt a b c m => simp [CT.isV, h.1]

set_option maxRecDepth 100000 in
set_option maxHeartbeats 1600000 in
theorem arity109 (k : Int) (w0 : World) : Calls Try.prog 129 #[.int .i64 k] w0 fun e w' => e = .returned (.tuple #[.int .i64 (max 0 (arT k)), .bool (decide (0 ≤ arT k))]) ∧ w' = w0 := by
 refine calls_fs 15 [(0, .int .i64 k)] Try.func129 rfl rfl rfl rfl rfl fun a hF => ?_
 rcases (show k = 1 ∨ k = 2 ∨ k = 7 ∨ k = 3 ∨ k = 4 ∨ k = 6 ∨ k = 5 ∨ (k ≠ 1 ∧ k ≠ 2 ∧ k ≠ 7 ∧ k ≠ 3 ∧ k ≠ 4 ∧ k ≠ 6 ∧ k ≠ 5) by omega) with hk | hk | hk | hk | hk | hk | hk | hk
 ·
  skip
  refine wp_rs fun K2 hK2 => ?_
  refine hF.v (x_assign rfl) fun a hF => ?_
  refine hF.v (x_assign rfl) fun a hF => ?_
  refine s_end (hK2 _ _ ?_)
  refine wp_seq_k fun K3 hK3 => ?_
  refine wp_rs fun K4 hK4 => ?_
  refine hF.v (x_move rfl) fun a hF => ?_
  refine s_end (hK4 _ _ ?_)
  refine wp_block ?_
  refine wp_seq_k fun K5 hK5 => ?_
  refine wp_rs fun K6 hK6 => ?_
  refine hF.v (eqlT (by omega) rfl rfl) fun a hF => ?_
  refine hF.v (x_assign rfl) fun a hF => ?_
  refine s_end (hK6 _ _ ?_)
  refine wp_if hF rfl ?_
  refine wp_skip (hK5 _ _ ?_)
  refine wp_if hF rfl ?_
  refine wp_rs fun K7 hK7 => ?_
  refine hF.v (x_assign rfl) fun a hF => ?_
  refine hF.v (x_assign rfl) fun a hF => ?_
  refine s_end (hK7 _ _ ?_)
  refine wp_ret (inb_ret (then_ret (res_two hF rfl rfl rfl ⟨by first | (rw [show arT k = 0 by simp [arT, hk]]; rfl) | (rw [show arT k = 2 by simp [arT, hk]]; rfl) | (rw [show arT k = 3 by simp [arT, hk]]; rfl) | (rw [show arT k = -1 by simp [arT, hk]]; rfl), rfl⟩)))
 ·
  skip
  refine wp_rs fun K8 hK8 => ?_
  refine hF.v (x_assign rfl) fun a hF => ?_
  refine hF.v (x_assign rfl) fun a hF => ?_
  refine s_end (hK8 _ _ ?_)
  refine wp_seq_k fun K9 hK9 => ?_
  refine wp_rs fun K10 hK10 => ?_
  refine hF.v (x_move rfl) fun a hF => ?_
  refine s_end (hK10 _ _ ?_)
  refine wp_block ?_
  refine wp_seq_k fun K11 hK11 => ?_
  refine wp_rs fun K12 hK12 => ?_
  refine hF.v (eqlF (by omega) rfl rfl) fun a hF => ?_
  refine hF.v (x_assign rfl) fun a hF => ?_
  refine s_end (hK12 _ _ ?_)
  refine wp_if hF rfl ?_
  refine wp_rs fun K13 hK13 => ?_
  refine hF.v (eqlT (by omega) rfl rfl) fun a hF => ?_
  refine hF.v (x_assign rfl) fun a hF => ?_
  refine s_end (hK13 _ _ ?_)
  refine wp_if hF rfl ?_
  refine wp_skip (hK11 _ _ ?_)
  refine wp_if hF rfl ?_
  refine wp_rs fun K14 hK14 => ?_
  refine hF.v (x_assign rfl) fun a hF => ?_
  refine hF.v (x_assign rfl) fun a hF => ?_
  refine s_end (hK14 _ _ ?_)
  refine wp_ret (inb_ret (then_ret (res_two hF rfl rfl rfl ⟨by first | (rw [show arT k = 0 by simp [arT, hk]]; rfl) | (rw [show arT k = 2 by simp [arT, hk]]; rfl) | (rw [show arT k = 3 by simp [arT, hk]]; rfl) | (rw [show arT k = -1 by simp [arT, hk]]; rfl), rfl⟩)))
 ·
  skip
  refine wp_rs fun K15 hK15 => ?_
  refine hF.v (x_assign rfl) fun a hF => ?_
  refine hF.v (x_assign rfl) fun a hF => ?_
  refine s_end (hK15 _ _ ?_)
  refine wp_seq_k fun K16 hK16 => ?_
  refine wp_rs fun K17 hK17 => ?_
  refine hF.v (x_move rfl) fun a hF => ?_
  refine s_end (hK17 _ _ ?_)
  refine wp_block ?_
  refine wp_seq_k fun K18 hK18 => ?_
  refine wp_rs fun K19 hK19 => ?_
  refine hF.v (eqlF (by omega) rfl rfl) fun a hF => ?_
  refine hF.v (x_assign rfl) fun a hF => ?_
  refine s_end (hK19 _ _ ?_)
  refine wp_if hF rfl ?_
  refine wp_rs fun K20 hK20 => ?_
  refine hF.v (eqlF (by omega) rfl rfl) fun a hF => ?_
  refine hF.v (x_assign rfl) fun a hF => ?_
  refine s_end (hK20 _ _ ?_)
  refine wp_if hF rfl ?_
  refine wp_region_lit ?_
  refine hF.v (eqlT (by omega) rfl rfl) fun a hF => ?_
  refine hF.v (x_assign rfl) fun a hF => ?_
  refine s_end (hK18 _ _ ?_)
  refine wp_if hF rfl ?_
  refine wp_rs fun K21 hK21 => ?_
  refine hF.v (x_assign rfl) fun a hF => ?_
  refine hF.v (x_assign rfl) fun a hF => ?_
  refine s_end (hK21 _ _ ?_)
  refine wp_ret (inb_ret (then_ret (res_two hF rfl rfl rfl ⟨by first | (rw [show arT k = 0 by simp [arT, hk]]; rfl) | (rw [show arT k = 2 by simp [arT, hk]]; rfl) | (rw [show arT k = 3 by simp [arT, hk]]; rfl) | (rw [show arT k = -1 by simp [arT, hk]]; rfl), rfl⟩)))
 ·
  skip
  refine wp_rs fun K22 hK22 => ?_
  refine hF.v (x_assign rfl) fun a hF => ?_
  refine hF.v (x_assign rfl) fun a hF => ?_
  refine s_end (hK22 _ _ ?_)
  refine wp_seq_k fun K23 hK23 => ?_
  refine wp_rs fun K24 hK24 => ?_
  refine hF.v (x_move rfl) fun a hF => ?_
  refine s_end (hK24 _ _ ?_)
  refine wp_block ?_
  refine wp_seq_k fun K25 hK25 => ?_
  refine wp_rs fun K26 hK26 => ?_
  refine hF.v (eqlF (by omega) rfl rfl) fun a hF => ?_
  refine hF.v (x_assign rfl) fun a hF => ?_
  refine s_end (hK26 _ _ ?_)
  refine wp_if hF rfl ?_
  refine wp_rs fun K27 hK27 => ?_
  refine hF.v (eqlF (by omega) rfl rfl) fun a hF => ?_
  refine hF.v (x_assign rfl) fun a hF => ?_
  refine s_end (hK27 _ _ ?_)
  refine wp_if hF rfl ?_
  refine wp_region_lit ?_
  refine hF.v (eqlF (by omega) rfl rfl) fun a hF => ?_
  refine hF.v (x_assign rfl) fun a hF => ?_
  refine s_end (hK25 _ _ ?_)
  refine wp_if hF rfl ?_
  refine wp_seq_k fun K28 hK28 => ?_
  refine wp_rs fun K29 hK29 => ?_
  refine hF.v (eqlT (by omega) rfl rfl) fun a hF => ?_
  refine hF.v (x_assign rfl) fun a hF => ?_
  refine s_end (hK29 _ _ ?_)
  refine wp_if hF rfl ?_
  refine wp_skip (hK28 _ _ ?_)
  refine wp_if hF rfl ?_
  refine wp_rs fun K30 hK30 => ?_
  refine hF.v (x_assign rfl) fun a hF => ?_
  refine hF.v (x_assign rfl) fun a hF => ?_
  refine s_end (hK30 _ _ ?_)
  refine wp_ret (inb_ret (then_ret (res_two hF rfl rfl rfl ⟨by first | (rw [show arT k = 0 by simp [arT, hk]]; rfl) | (rw [show arT k = 2 by simp [arT, hk]]; rfl) | (rw [show arT k = 3 by simp [arT, hk]]; rfl) | (rw [show arT k = -1 by simp [arT, hk]]; rfl), rfl⟩)))
 ·
  skip
  refine wp_rs fun K31 hK31 => ?_
  refine hF.v (x_assign rfl) fun a hF => ?_
  refine hF.v (x_assign rfl) fun a hF => ?_
  refine s_end (hK31 _ _ ?_)
  refine wp_seq_k fun K32 hK32 => ?_
  refine wp_rs fun K33 hK33 => ?_
  refine hF.v (x_move rfl) fun a hF => ?_
  refine s_end (hK33 _ _ ?_)
  refine wp_block ?_
  refine wp_seq_k fun K34 hK34 => ?_
  refine wp_rs fun K35 hK35 => ?_
  refine hF.v (eqlF (by omega) rfl rfl) fun a hF => ?_
  refine hF.v (x_assign rfl) fun a hF => ?_
  refine s_end (hK35 _ _ ?_)
  refine wp_if hF rfl ?_
  refine wp_rs fun K36 hK36 => ?_
  refine hF.v (eqlF (by omega) rfl rfl) fun a hF => ?_
  refine hF.v (x_assign rfl) fun a hF => ?_
  refine s_end (hK36 _ _ ?_)
  refine wp_if hF rfl ?_
  refine wp_region_lit ?_
  refine hF.v (eqlF (by omega) rfl rfl) fun a hF => ?_
  refine hF.v (x_assign rfl) fun a hF => ?_
  refine s_end (hK34 _ _ ?_)
  refine wp_if hF rfl ?_
  refine wp_seq_k fun K37 hK37 => ?_
  refine wp_rs fun K38 hK38 => ?_
  refine hF.v (eqlF (by omega) rfl rfl) fun a hF => ?_
  refine hF.v (x_assign rfl) fun a hF => ?_
  refine s_end (hK38 _ _ ?_)
  refine wp_if hF rfl ?_
  refine wp_rs fun K39 hK39 => ?_
  refine hF.v (eqlT (by omega) rfl rfl) fun a hF => ?_
  refine hF.v (x_assign rfl) fun a hF => ?_
  refine s_end (hK39 _ _ ?_)
  refine wp_if hF rfl ?_
  refine wp_skip (hK37 _ _ ?_)
  refine wp_if hF rfl ?_
  refine wp_rs fun K40 hK40 => ?_
  refine hF.v (x_assign rfl) fun a hF => ?_
  refine hF.v (x_assign rfl) fun a hF => ?_
  refine s_end (hK40 _ _ ?_)
  refine wp_ret (inb_ret (then_ret (res_two hF rfl rfl rfl ⟨by first | (rw [show arT k = 0 by simp [arT, hk]]; rfl) | (rw [show arT k = 2 by simp [arT, hk]]; rfl) | (rw [show arT k = 3 by simp [arT, hk]]; rfl) | (rw [show arT k = -1 by simp [arT, hk]]; rfl), rfl⟩)))
 ·
  skip
  refine wp_rs fun K41 hK41 => ?_
  refine hF.v (x_assign rfl) fun a hF => ?_
  refine hF.v (x_assign rfl) fun a hF => ?_
  refine s_end (hK41 _ _ ?_)
  refine wp_seq_k fun K42 hK42 => ?_
  refine wp_rs fun K43 hK43 => ?_
  refine hF.v (x_move rfl) fun a hF => ?_
  refine s_end (hK43 _ _ ?_)
  refine wp_block ?_
  refine wp_seq_k fun K44 hK44 => ?_
  refine wp_rs fun K45 hK45 => ?_
  refine hF.v (eqlF (by omega) rfl rfl) fun a hF => ?_
  refine hF.v (x_assign rfl) fun a hF => ?_
  refine s_end (hK45 _ _ ?_)
  refine wp_if hF rfl ?_
  refine wp_rs fun K46 hK46 => ?_
  refine hF.v (eqlF (by omega) rfl rfl) fun a hF => ?_
  refine hF.v (x_assign rfl) fun a hF => ?_
  refine s_end (hK46 _ _ ?_)
  refine wp_if hF rfl ?_
  refine wp_region_lit ?_
  refine hF.v (eqlF (by omega) rfl rfl) fun a hF => ?_
  refine hF.v (x_assign rfl) fun a hF => ?_
  refine s_end (hK44 _ _ ?_)
  refine wp_if hF rfl ?_
  refine wp_seq_k fun K47 hK47 => ?_
  refine wp_rs fun K48 hK48 => ?_
  refine hF.v (eqlF (by omega) rfl rfl) fun a hF => ?_
  refine hF.v (x_assign rfl) fun a hF => ?_
  refine s_end (hK48 _ _ ?_)
  refine wp_if hF rfl ?_
  refine wp_rs fun K49 hK49 => ?_
  refine hF.v (eqlF (by omega) rfl rfl) fun a hF => ?_
  refine hF.v (x_assign rfl) fun a hF => ?_
  refine s_end (hK49 _ _ ?_)
  refine wp_if hF rfl ?_
  refine wp_region_lit ?_
  refine hF.v (eqlT (by omega) rfl rfl) fun a hF => ?_
  refine hF.v (x_assign rfl) fun a hF => ?_
  refine s_end (hK47 _ _ ?_)
  refine wp_if hF rfl ?_
  refine wp_rs fun K50 hK50 => ?_
  refine hF.v (x_assign rfl) fun a hF => ?_
  refine hF.v (x_assign rfl) fun a hF => ?_
  refine s_end (hK50 _ _ ?_)
  refine wp_ret (inb_ret (then_ret (res_two hF rfl rfl rfl ⟨by first | (rw [show arT k = 0 by simp [arT, hk]]; rfl) | (rw [show arT k = 2 by simp [arT, hk]]; rfl) | (rw [show arT k = 3 by simp [arT, hk]]; rfl) | (rw [show arT k = -1 by simp [arT, hk]]; rfl), rfl⟩)))
 ·
  skip
  refine wp_rs fun K51 hK51 => ?_
  refine hF.v (x_assign rfl) fun a hF => ?_
  refine hF.v (x_assign rfl) fun a hF => ?_
  refine s_end (hK51 _ _ ?_)
  refine wp_seq_k fun K52 hK52 => ?_
  refine wp_rs fun K53 hK53 => ?_
  refine hF.v (x_move rfl) fun a hF => ?_
  refine s_end (hK53 _ _ ?_)
  refine wp_block ?_
  refine wp_seq_k fun K54 hK54 => ?_
  refine wp_rs fun K55 hK55 => ?_
  refine hF.v (eqlF (by omega) rfl rfl) fun a hF => ?_
  refine hF.v (x_assign rfl) fun a hF => ?_
  refine s_end (hK55 _ _ ?_)
  refine wp_if hF rfl ?_
  refine wp_rs fun K56 hK56 => ?_
  refine hF.v (eqlF (by omega) rfl rfl) fun a hF => ?_
  refine hF.v (x_assign rfl) fun a hF => ?_
  refine s_end (hK56 _ _ ?_)
  refine wp_if hF rfl ?_
  refine wp_region_lit ?_
  refine hF.v (eqlF (by omega) rfl rfl) fun a hF => ?_
  refine hF.v (x_assign rfl) fun a hF => ?_
  refine s_end (hK54 _ _ ?_)
  refine wp_if hF rfl ?_
  refine wp_seq_k fun K57 hK57 => ?_
  refine wp_rs fun K58 hK58 => ?_
  refine hF.v (eqlF (by omega) rfl rfl) fun a hF => ?_
  refine hF.v (x_assign rfl) fun a hF => ?_
  refine s_end (hK58 _ _ ?_)
  refine wp_if hF rfl ?_
  refine wp_rs fun K59 hK59 => ?_
  refine hF.v (eqlF (by omega) rfl rfl) fun a hF => ?_
  refine hF.v (x_assign rfl) fun a hF => ?_
  refine s_end (hK59 _ _ ?_)
  refine wp_if hF rfl ?_
  refine wp_region_lit ?_
  refine hF.v (eqlF (by omega) rfl rfl) fun a hF => ?_
  refine hF.v (x_assign rfl) fun a hF => ?_
  refine s_end (hK57 _ _ ?_)
  refine wp_if hF rfl ?_
  refine wp_rs fun K60 hK60 => ?_
  refine hF.v (eqlT (by omega) rfl rfl) fun a hF => ?_
  refine hF.v (x_assign rfl) fun a hF => ?_
  refine s_end (hK60 _ _ ?_)
  refine wp_if hF rfl ?_
  refine wp_rs fun K61 hK61 => ?_
  refine hF.v (x_assign rfl) fun a hF => ?_
  refine hF.v (x_assign rfl) fun a hF => ?_
  refine s_end (hK61 _ _ ?_)
  refine wp_ret (inb_ret (then_ret (res_two hF rfl rfl rfl ⟨by first | (rw [show arT k = 0 by simp [arT, hk]]; rfl) | (rw [show arT k = 2 by simp [arT, hk]]; rfl) | (rw [show arT k = 3 by simp [arT, hk]]; rfl) | (rw [show arT k = -1 by simp [arT, hk]]; rfl), rfl⟩)))
 ·
  skip
  refine wp_rs fun K62 hK62 => ?_
  refine hF.v (x_assign rfl) fun a hF => ?_
  refine hF.v (x_assign rfl) fun a hF => ?_
  refine s_end (hK62 _ _ ?_)
  refine wp_seq_k fun K63 hK63 => ?_
  refine wp_rs fun K64 hK64 => ?_
  refine hF.v (x_move rfl) fun a hF => ?_
  refine s_end (hK64 _ _ ?_)
  refine wp_block ?_
  refine wp_seq_k fun K65 hK65 => ?_
  refine wp_rs fun K66 hK66 => ?_
  refine hF.v (eqlF (by omega) rfl rfl) fun a hF => ?_
  refine hF.v (x_assign rfl) fun a hF => ?_
  refine s_end (hK66 _ _ ?_)
  refine wp_if hF rfl ?_
  refine wp_rs fun K67 hK67 => ?_
  refine hF.v (eqlF (by omega) rfl rfl) fun a hF => ?_
  refine hF.v (x_assign rfl) fun a hF => ?_
  refine s_end (hK67 _ _ ?_)
  refine wp_if hF rfl ?_
  refine wp_region_lit ?_
  refine hF.v (eqlF (by omega) rfl rfl) fun a hF => ?_
  refine hF.v (x_assign rfl) fun a hF => ?_
  refine s_end (hK65 _ _ ?_)
  refine wp_if hF rfl ?_
  refine wp_seq_k fun K68 hK68 => ?_
  refine wp_rs fun K69 hK69 => ?_
  refine hF.v (eqlF (by omega) rfl rfl) fun a hF => ?_
  refine hF.v (x_assign rfl) fun a hF => ?_
  refine s_end (hK69 _ _ ?_)
  refine wp_if hF rfl ?_
  refine wp_rs fun K70 hK70 => ?_
  refine hF.v (eqlF (by omega) rfl rfl) fun a hF => ?_
  refine hF.v (x_assign rfl) fun a hF => ?_
  refine s_end (hK70 _ _ ?_)
  refine wp_if hF rfl ?_
  refine wp_region_lit ?_
  refine hF.v (eqlF (by omega) rfl rfl) fun a hF => ?_
  refine hF.v (x_assign rfl) fun a hF => ?_
  refine s_end (hK68 _ _ ?_)
  refine wp_if hF rfl ?_
  refine wp_rs fun K71 hK71 => ?_
  refine hF.v (eqlF (by omega) rfl rfl) fun a hF => ?_
  refine hF.v (x_assign rfl) fun a hF => ?_
  refine s_end (hK71 _ _ ?_)
  refine wp_if hF rfl ?_
  refine wp_skip (hK63 _ _ ?_)
  refine wp_rs fun K72 hK72 => ?_
  refine hF.v (x_assign rfl) fun a hF => ?_
  refine hF.v (x_assign rfl) fun a hF => ?_
  refine s_end (hK72 _ _ ?_)
  refine wp_ret (res_two hF rfl rfl rfl ⟨by first | (rw [show arT k = 0 by simp [arT, hk]]; rfl) | (rw [show arT k = 2 by simp [arT, hk]]; rfl) | (rw [show arT k = 3 by simp [arT, hk]]; rfl) | (rw [show arT k = -1 by simp [arT, hk]]; rfl), rfl⟩)

set_option maxRecDepth 100000 in
set_option maxHeartbeats 1600000 in
theorem kids54 (k : Int) (w0 : World) : Calls Try.prog 86 #[.int .i64 k] w0 fun e w' => e = .returned (.int .i64 (arT k)) ∧ w' = w0 := by
 refine calls_fs 14 [(0, .int .i64 k)] Try.func86 rfl rfl rfl rfl rfl fun a hF => ?_
 rcases (show k = 1 ∨ k = 2 ∨ k = 7 ∨ k = 3 ∨ k = 4 ∨ k = 6 ∨ k = 5 ∨ (k ≠ 1 ∧ k ≠ 2 ∧ k ≠ 7 ∧ k ≠ 3 ∧ k ≠ 4 ∧ k ≠ 6 ∧ k ≠ 5) by omega) with hk | hk | hk | hk | hk | hk | hk | hk
 ·
  skip
  refine wp_rs fun K2 hK2 => ?_
  refine hF.v (x_assign rfl) fun a hF => ?_
  refine s_end (hK2 _ _ ?_)
  refine wp_seq_k fun K3 hK3 => ?_
  refine wp_rs fun K4 hK4 => ?_
  refine hF.v (x_move rfl) fun a hF => ?_
  refine s_end (hK4 _ _ ?_)
  refine wp_block ?_
  refine wp_seq_k fun K5 hK5 => ?_
  refine wp_rs fun K6 hK6 => ?_
  refine hF.v (eqlT (by omega) rfl rfl) fun a hF => ?_
  refine hF.v (x_assign rfl) fun a hF => ?_
  refine s_end (hK6 _ _ ?_)
  refine wp_if hF rfl ?_
  refine wp_skip (hK5 _ _ ?_)
  refine wp_if hF rfl ?_
  refine wp_rs fun K7 hK7 => ?_
  refine hF.v (x_assign rfl) fun a hF => ?_
  refine s_end (hK7 _ _ ?_)
  refine wp_ret (inb_ret (then_ret (res_slot hF rfl rfl ⟨by simp [arT, hk], rfl⟩)))
 ·
  skip
  refine wp_rs fun K8 hK8 => ?_
  refine hF.v (x_assign rfl) fun a hF => ?_
  refine s_end (hK8 _ _ ?_)
  refine wp_seq_k fun K9 hK9 => ?_
  refine wp_rs fun K10 hK10 => ?_
  refine hF.v (x_move rfl) fun a hF => ?_
  refine s_end (hK10 _ _ ?_)
  refine wp_block ?_
  refine wp_seq_k fun K11 hK11 => ?_
  refine wp_rs fun K12 hK12 => ?_
  refine hF.v (eqlF (by omega) rfl rfl) fun a hF => ?_
  refine hF.v (x_assign rfl) fun a hF => ?_
  refine s_end (hK12 _ _ ?_)
  refine wp_if hF rfl ?_
  refine wp_rs fun K13 hK13 => ?_
  refine hF.v (eqlT (by omega) rfl rfl) fun a hF => ?_
  refine hF.v (x_assign rfl) fun a hF => ?_
  refine s_end (hK13 _ _ ?_)
  refine wp_if hF rfl ?_
  refine wp_skip (hK11 _ _ ?_)
  refine wp_if hF rfl ?_
  refine wp_rs fun K14 hK14 => ?_
  refine hF.v (x_assign rfl) fun a hF => ?_
  refine s_end (hK14 _ _ ?_)
  refine wp_ret (inb_ret (then_ret (res_slot hF rfl rfl ⟨by simp [arT, hk], rfl⟩)))
 ·
  skip
  refine wp_rs fun K15 hK15 => ?_
  refine hF.v (x_assign rfl) fun a hF => ?_
  refine s_end (hK15 _ _ ?_)
  refine wp_seq_k fun K16 hK16 => ?_
  refine wp_rs fun K17 hK17 => ?_
  refine hF.v (x_move rfl) fun a hF => ?_
  refine s_end (hK17 _ _ ?_)
  refine wp_block ?_
  refine wp_seq_k fun K18 hK18 => ?_
  refine wp_rs fun K19 hK19 => ?_
  refine hF.v (eqlF (by omega) rfl rfl) fun a hF => ?_
  refine hF.v (x_assign rfl) fun a hF => ?_
  refine s_end (hK19 _ _ ?_)
  refine wp_if hF rfl ?_
  refine wp_rs fun K20 hK20 => ?_
  refine hF.v (eqlF (by omega) rfl rfl) fun a hF => ?_
  refine hF.v (x_assign rfl) fun a hF => ?_
  refine s_end (hK20 _ _ ?_)
  refine wp_if hF rfl ?_
  refine wp_region_lit ?_
  refine hF.v (eqlT (by omega) rfl rfl) fun a hF => ?_
  refine hF.v (x_assign rfl) fun a hF => ?_
  refine s_end (hK18 _ _ ?_)
  refine wp_if hF rfl ?_
  refine wp_rs fun K21 hK21 => ?_
  refine hF.v (x_assign rfl) fun a hF => ?_
  refine s_end (hK21 _ _ ?_)
  refine wp_ret (inb_ret (then_ret (res_slot hF rfl rfl ⟨by simp [arT, hk], rfl⟩)))
 ·
  skip
  refine wp_rs fun K22 hK22 => ?_
  refine hF.v (x_assign rfl) fun a hF => ?_
  refine s_end (hK22 _ _ ?_)
  refine wp_seq_k fun K23 hK23 => ?_
  refine wp_rs fun K24 hK24 => ?_
  refine hF.v (x_move rfl) fun a hF => ?_
  refine s_end (hK24 _ _ ?_)
  refine wp_block ?_
  refine wp_seq_k fun K25 hK25 => ?_
  refine wp_rs fun K26 hK26 => ?_
  refine hF.v (eqlF (by omega) rfl rfl) fun a hF => ?_
  refine hF.v (x_assign rfl) fun a hF => ?_
  refine s_end (hK26 _ _ ?_)
  refine wp_if hF rfl ?_
  refine wp_rs fun K27 hK27 => ?_
  refine hF.v (eqlF (by omega) rfl rfl) fun a hF => ?_
  refine hF.v (x_assign rfl) fun a hF => ?_
  refine s_end (hK27 _ _ ?_)
  refine wp_if hF rfl ?_
  refine wp_region_lit ?_
  refine hF.v (eqlF (by omega) rfl rfl) fun a hF => ?_
  refine hF.v (x_assign rfl) fun a hF => ?_
  refine s_end (hK25 _ _ ?_)
  refine wp_if hF rfl ?_
  refine wp_seq_k fun K28 hK28 => ?_
  refine wp_rs fun K29 hK29 => ?_
  refine hF.v (eqlT (by omega) rfl rfl) fun a hF => ?_
  refine hF.v (x_assign rfl) fun a hF => ?_
  refine s_end (hK29 _ _ ?_)
  refine wp_if hF rfl ?_
  refine wp_skip (hK28 _ _ ?_)
  refine wp_if hF rfl ?_
  refine wp_rs fun K30 hK30 => ?_
  refine hF.v (x_assign rfl) fun a hF => ?_
  refine s_end (hK30 _ _ ?_)
  refine wp_ret (inb_ret (then_ret (res_slot hF rfl rfl ⟨by simp [arT, hk], rfl⟩)))
 ·
  skip
  refine wp_rs fun K31 hK31 => ?_
  refine hF.v (x_assign rfl) fun a hF => ?_
  refine s_end (hK31 _ _ ?_)
  refine wp_seq_k fun K32 hK32 => ?_
  refine wp_rs fun K33 hK33 => ?_
  refine hF.v (x_move rfl) fun a hF => ?_
  refine s_end (hK33 _ _ ?_)
  refine wp_block ?_
  refine wp_seq_k fun K34 hK34 => ?_
  refine wp_rs fun K35 hK35 => ?_
  refine hF.v (eqlF (by omega) rfl rfl) fun a hF => ?_
  refine hF.v (x_assign rfl) fun a hF => ?_
  refine s_end (hK35 _ _ ?_)
  refine wp_if hF rfl ?_
  refine wp_rs fun K36 hK36 => ?_
  refine hF.v (eqlF (by omega) rfl rfl) fun a hF => ?_
  refine hF.v (x_assign rfl) fun a hF => ?_
  refine s_end (hK36 _ _ ?_)
  refine wp_if hF rfl ?_
  refine wp_region_lit ?_
  refine hF.v (eqlF (by omega) rfl rfl) fun a hF => ?_
  refine hF.v (x_assign rfl) fun a hF => ?_
  refine s_end (hK34 _ _ ?_)
  refine wp_if hF rfl ?_
  refine wp_seq_k fun K37 hK37 => ?_
  refine wp_rs fun K38 hK38 => ?_
  refine hF.v (eqlF (by omega) rfl rfl) fun a hF => ?_
  refine hF.v (x_assign rfl) fun a hF => ?_
  refine s_end (hK38 _ _ ?_)
  refine wp_if hF rfl ?_
  refine wp_rs fun K39 hK39 => ?_
  refine hF.v (eqlT (by omega) rfl rfl) fun a hF => ?_
  refine hF.v (x_assign rfl) fun a hF => ?_
  refine s_end (hK39 _ _ ?_)
  refine wp_if hF rfl ?_
  refine wp_skip (hK37 _ _ ?_)
  refine wp_if hF rfl ?_
  refine wp_rs fun K40 hK40 => ?_
  refine hF.v (x_assign rfl) fun a hF => ?_
  refine s_end (hK40 _ _ ?_)
  refine wp_ret (inb_ret (then_ret (res_slot hF rfl rfl ⟨by simp [arT, hk], rfl⟩)))
 ·
  skip
  refine wp_rs fun K41 hK41 => ?_
  refine hF.v (x_assign rfl) fun a hF => ?_
  refine s_end (hK41 _ _ ?_)
  refine wp_seq_k fun K42 hK42 => ?_
  refine wp_rs fun K43 hK43 => ?_
  refine hF.v (x_move rfl) fun a hF => ?_
  refine s_end (hK43 _ _ ?_)
  refine wp_block ?_
  refine wp_seq_k fun K44 hK44 => ?_
  refine wp_rs fun K45 hK45 => ?_
  refine hF.v (eqlF (by omega) rfl rfl) fun a hF => ?_
  refine hF.v (x_assign rfl) fun a hF => ?_
  refine s_end (hK45 _ _ ?_)
  refine wp_if hF rfl ?_
  refine wp_rs fun K46 hK46 => ?_
  refine hF.v (eqlF (by omega) rfl rfl) fun a hF => ?_
  refine hF.v (x_assign rfl) fun a hF => ?_
  refine s_end (hK46 _ _ ?_)
  refine wp_if hF rfl ?_
  refine wp_region_lit ?_
  refine hF.v (eqlF (by omega) rfl rfl) fun a hF => ?_
  refine hF.v (x_assign rfl) fun a hF => ?_
  refine s_end (hK44 _ _ ?_)
  refine wp_if hF rfl ?_
  refine wp_seq_k fun K47 hK47 => ?_
  refine wp_rs fun K48 hK48 => ?_
  refine hF.v (eqlF (by omega) rfl rfl) fun a hF => ?_
  refine hF.v (x_assign rfl) fun a hF => ?_
  refine s_end (hK48 _ _ ?_)
  refine wp_if hF rfl ?_
  refine wp_rs fun K49 hK49 => ?_
  refine hF.v (eqlF (by omega) rfl rfl) fun a hF => ?_
  refine hF.v (x_assign rfl) fun a hF => ?_
  refine s_end (hK49 _ _ ?_)
  refine wp_if hF rfl ?_
  refine wp_region_lit ?_
  refine hF.v (eqlT (by omega) rfl rfl) fun a hF => ?_
  refine hF.v (x_assign rfl) fun a hF => ?_
  refine s_end (hK47 _ _ ?_)
  refine wp_if hF rfl ?_
  refine wp_rs fun K50 hK50 => ?_
  refine hF.v (x_assign rfl) fun a hF => ?_
  refine s_end (hK50 _ _ ?_)
  refine wp_ret (inb_ret (then_ret (res_slot hF rfl rfl ⟨by simp [arT, hk], rfl⟩)))
 ·
  skip
  refine wp_rs fun K51 hK51 => ?_
  refine hF.v (x_assign rfl) fun a hF => ?_
  refine s_end (hK51 _ _ ?_)
  refine wp_seq_k fun K52 hK52 => ?_
  refine wp_rs fun K53 hK53 => ?_
  refine hF.v (x_move rfl) fun a hF => ?_
  refine s_end (hK53 _ _ ?_)
  refine wp_block ?_
  refine wp_seq_k fun K54 hK54 => ?_
  refine wp_rs fun K55 hK55 => ?_
  refine hF.v (eqlF (by omega) rfl rfl) fun a hF => ?_
  refine hF.v (x_assign rfl) fun a hF => ?_
  refine s_end (hK55 _ _ ?_)
  refine wp_if hF rfl ?_
  refine wp_rs fun K56 hK56 => ?_
  refine hF.v (eqlF (by omega) rfl rfl) fun a hF => ?_
  refine hF.v (x_assign rfl) fun a hF => ?_
  refine s_end (hK56 _ _ ?_)
  refine wp_if hF rfl ?_
  refine wp_region_lit ?_
  refine hF.v (eqlF (by omega) rfl rfl) fun a hF => ?_
  refine hF.v (x_assign rfl) fun a hF => ?_
  refine s_end (hK54 _ _ ?_)
  refine wp_if hF rfl ?_
  refine wp_seq_k fun K57 hK57 => ?_
  refine wp_rs fun K58 hK58 => ?_
  refine hF.v (eqlF (by omega) rfl rfl) fun a hF => ?_
  refine hF.v (x_assign rfl) fun a hF => ?_
  refine s_end (hK58 _ _ ?_)
  refine wp_if hF rfl ?_
  refine wp_rs fun K59 hK59 => ?_
  refine hF.v (eqlF (by omega) rfl rfl) fun a hF => ?_
  refine hF.v (x_assign rfl) fun a hF => ?_
  refine s_end (hK59 _ _ ?_)
  refine wp_if hF rfl ?_
  refine wp_region_lit ?_
  refine hF.v (eqlF (by omega) rfl rfl) fun a hF => ?_
  refine hF.v (x_assign rfl) fun a hF => ?_
  refine s_end (hK57 _ _ ?_)
  refine wp_if hF rfl ?_
  refine wp_rs fun K60 hK60 => ?_
  refine hF.v (eqlT (by omega) rfl rfl) fun a hF => ?_
  refine hF.v (x_assign rfl) fun a hF => ?_
  refine s_end (hK60 _ _ ?_)
  refine wp_if hF rfl ?_
  refine wp_rs fun K61 hK61 => ?_
  refine hF.v (x_assign rfl) fun a hF => ?_
  refine s_end (hK61 _ _ ?_)
  refine wp_ret (inb_ret (then_ret (res_slot hF rfl rfl ⟨by simp [arT, hk], rfl⟩)))
 ·
  skip
  refine wp_rs fun K62 hK62 => ?_
  refine hF.v (x_assign rfl) fun a hF => ?_
  refine s_end (hK62 _ _ ?_)
  refine wp_seq_k fun K63 hK63 => ?_
  refine wp_rs fun K64 hK64 => ?_
  refine hF.v (x_move rfl) fun a hF => ?_
  refine s_end (hK64 _ _ ?_)
  refine wp_block ?_
  refine wp_seq_k fun K65 hK65 => ?_
  refine wp_rs fun K66 hK66 => ?_
  refine hF.v (eqlF (by omega) rfl rfl) fun a hF => ?_
  refine hF.v (x_assign rfl) fun a hF => ?_
  refine s_end (hK66 _ _ ?_)
  refine wp_if hF rfl ?_
  refine wp_rs fun K67 hK67 => ?_
  refine hF.v (eqlF (by omega) rfl rfl) fun a hF => ?_
  refine hF.v (x_assign rfl) fun a hF => ?_
  refine s_end (hK67 _ _ ?_)
  refine wp_if hF rfl ?_
  refine wp_region_lit ?_
  refine hF.v (eqlF (by omega) rfl rfl) fun a hF => ?_
  refine hF.v (x_assign rfl) fun a hF => ?_
  refine s_end (hK65 _ _ ?_)
  refine wp_if hF rfl ?_
  refine wp_seq_k fun K68 hK68 => ?_
  refine wp_rs fun K69 hK69 => ?_
  refine hF.v (eqlF (by omega) rfl rfl) fun a hF => ?_
  refine hF.v (x_assign rfl) fun a hF => ?_
  refine s_end (hK69 _ _ ?_)
  refine wp_if hF rfl ?_
  refine wp_rs fun K70 hK70 => ?_
  refine hF.v (eqlF (by omega) rfl rfl) fun a hF => ?_
  refine hF.v (x_assign rfl) fun a hF => ?_
  refine s_end (hK70 _ _ ?_)
  refine wp_if hF rfl ?_
  refine wp_region_lit ?_
  refine hF.v (eqlF (by omega) rfl rfl) fun a hF => ?_
  refine hF.v (x_assign rfl) fun a hF => ?_
  refine s_end (hK68 _ _ ?_)
  refine wp_if hF rfl ?_
  refine wp_rs fun K71 hK71 => ?_
  refine hF.v (eqlF (by omega) rfl rfl) fun a hF => ?_
  refine hF.v (x_assign rfl) fun a hF => ?_
  refine s_end (hK71 _ _ ?_)
  refine wp_if hF rfl ?_
  refine wp_skip (hK63 _ _ ?_)
  refine wp_rs fun K72 hK72 => ?_
  refine hF.v (x_assign rfl) fun a hF => ?_
  refine s_end (hK72 _ _ ?_)
  refine wp_ret (res_slot hF rfl rfl ⟨by simp [arT, hk], rfl⟩)

set_option maxRecDepth 100000 in
set_option maxHeartbeats 1600000 in
theorem kidsOf101 (c : CT) (x : C8) (A : Nat → Prop) (wa w0 : World) (hx : RC wa A c x) : Calls Try.prog 88 #[tv x] w0 fun e w' => ∃ v, e = .returned v ∧ RK wa A v c.kids ∧ Below w0.heap.size w0 w' := by
 obtain ⟨av, nv, cv, hts, hle, hlen, hcap, hkid⟩ := hx.kids
 obtain ⟨xk, xn, xs, xl, xls, xts⟩ := x
 simp only at hts
 subst hts
 have hkd : xk = c.kd := hx.kd
 have hone := hx.one
 have hB := Below.refl w0.heap.size w0
 have sB := hB.size
 refine calls_fs 20 [(0, tv ⟨xk, xn, xs, xl, xls, .slice av nv cv⟩)] Try.func88 rfl rfl rfl rfl rfl fun a hF => ?_
 rcases (show (arT xk ≤ nv ∧ (c.kids.length : Int) = max 0 (arT xk)) ∨ ((nv : Int) < arT xk ∧ c.kids.length = 0) by rw [hkd, hlen]; rcases CT.kids_arT hx with h | h <;> omega) with hk | hk
 ·
  skip
  refine wp_rs fun K2 hK2 => ?_
  refine s_box ([.int .i64 xk, .int .i64 xn, .string xs, .int .i64 xl.1, .int .i64 xl.2.1, xl.2.2, xls, .slice av nv cv]) hF (by decide) rfl rfl fun w2 b1 a eb1 m1 B3 zb1 hF => ?_
  have sB3 := B3.size
  have hB := bt hB B3
  refine hF.v (x_assign rfl) fun a hF => ?_
  refine s_end (hK2 _ _ ?_)
  refine wp_rs fun K3 hK3 => ?_
  refine hF.v (x_fa0 fa27_0 rfl) fun a hF => ?_
  refine hF.v (x_load rfl (m_load flat3 (m1.cell (j := 0) rfl))) fun a hF => ?_
  refine s_callS [_] hF E129 rfl (by decide) (arity109 xk w2) fun a hF => ?_
  refine hF.v (x_move rfl) fun a hF => ?_
  refine hF.v (x_ext rfl rfl) fun a hF => ?_
  refine hF.v (x_ext rfl rfl) fun a hF => ?_
  refine hF.v (x_assign rfl) fun a hF => ?_
  refine hF.v (x_assign rfl) fun a hF => ?_
  refine s_end (hK3 _ _ ?_)
  refine wp_seq_k fun K4 hK4 => ?_
  refine wp_rs fun K5 hK5 => ?_
  refine hF.v (x_fa0 fa27_5 rfl) fun a hF => ?_
  refine hF.v (x_load rfl (m_load flat25 (m1.cell (j := 7) rfl))) fun a hF => ?_
  refine hF.v (x_len Try.underlying25 rfl) fun a hF => ?_
  refine hF.v (x_move rfl) fun a hF => ?_
  refine hF.v (lssF (by omega) rfl rfl) fun a hF => ?_
  refine s_end (hK5 _ _ ?_)
  refine wp_if hF rfl ?_
  refine wp_skip (hK4 _ _ ?_)
  refine wp_rs fun K6 hK6 => ?_
  refine hF.v (x_fa0 fa27_5 rfl) fun a hF => ?_
  refine hF.v (x_load rfl (m_load flat25 (m1.cell (j := 7) rfl))) fun a hF => ?_
  refine hF.v (x_move rfl) fun a hF => ?_
  refine hF.v (x_slice (vlo := none) (vhi := some _) (vmx := none) rfl rfl rfl rfl (m_sliceUK c.kids.length Try.underlying25 el25.size (by omega) (by omega))) fun a hF => ?_
  refine hF.v (x_assign rfl) fun a hF => ?_
  refine s_end (hK6 _ _ ?_)
  refine wp_ret (res_slot hF rfl rfl ⟨_, rfl, hkid, hB⟩)
 ·
  skip
  refine wp_rs fun K7 hK7 => ?_
  refine s_box ([.int .i64 xk, .int .i64 xn, .string xs, .int .i64 xl.1, .int .i64 xl.2.1, xl.2.2, xls, .slice av nv cv]) hF (by decide) rfl rfl fun w4 b1 a eb1 m1 B5 zb1 hF => ?_
  have sB5 := B5.size
  have hB := bt hB B5
  refine hF.v (x_assign rfl) fun a hF => ?_
  refine s_end (hK7 _ _ ?_)
  refine wp_rs fun K8 hK8 => ?_
  refine hF.v (x_fa0 fa27_0 rfl) fun a hF => ?_
  refine hF.v (x_load rfl (m_load flat3 (m1.cell (j := 0) rfl))) fun a hF => ?_
  refine s_callS [_] hF E129 rfl (by decide) (arity109 xk w4) fun a hF => ?_
  refine hF.v (x_move rfl) fun a hF => ?_
  refine hF.v (x_ext rfl rfl) fun a hF => ?_
  refine hF.v (x_ext rfl rfl) fun a hF => ?_
  refine hF.v (x_assign rfl) fun a hF => ?_
  refine hF.v (x_assign rfl) fun a hF => ?_
  refine s_end (hK8 _ _ ?_)
  refine wp_seq_k fun K9 hK9 => ?_
  refine wp_rs fun K10 hK10 => ?_
  refine hF.v (x_fa0 fa27_5 rfl) fun a hF => ?_
  refine hF.v (x_load rfl (m_load flat25 (m1.cell (j := 7) rfl))) fun a hF => ?_
  refine hF.v (x_len Try.underlying25 rfl) fun a hF => ?_
  refine hF.v (x_move rfl) fun a hF => ?_
  refine hF.v (lssT (by omega) rfl rfl) fun a hF => ?_
  refine s_end (hK10 _ _ ?_)
  refine wp_if hF rfl ?_
  refine wp_rs fun K11 hK11 => ?_
  refine hF.v (x_assign rfl) fun a hF => ?_
  refine s_end (hK11 _ _ ?_)
  refine wp_ret (then_ret (res_slot hF rfl rfl ⟨_, rfl, (by rw [List.eq_nil_of_length_eq_zero hk.2]; exact RK.nil _ _), hB⟩))

set_option maxRecDepth 100000 in
set_option maxHeartbeats 1600000 in
theorem binds112 (c : CT) (x : C8) (A : Nat → Prop) (i : Nat) (wa w0 : World) (hx : RC wa A c x) (hi : i < c.kids.length) : Calls Try.prog 105 #[tv x, .int .i64 (i : Int)] w0 fun e w' => e = .returned (.int .i64 (c.bnd i)) ∧ Below w0.heap.size w0 w' := by
 have hx0 := hx
 have hbd := CT.bnd_eq hx hi
 have h3 := c.kids_le
 obtain ⟨av, nv, cv, hts, hle, hlen, hcap, hkid⟩ := hx.kids
 obtain ⟨xk, xn, xs, xl, xls, xts⟩ := x
 simp only at hts
 subst hts
 have hkd : xk = c.kd := hx.kd
 have hone := hx.one
 have hB := Below.refl w0.heap.size w0
 have sB := hB.size
 refine calls_fs 17 [(0, tv ⟨xk, xn, xs, xl, xls, .slice av nv cv⟩), (1, .int .i64 (i : Int))] Try.func105 rfl rfl rfl rfl rfl fun a hF => ?_
 rcases (show xk = 3 ∧ i + 1 = c.kids.length ∨ xk = 3 ∧ i + 1 ≠ c.kids.length ∨ xk = 4 ∧ i + 1 = c.kids.length ∨ xk = 4 ∧ i + 1 ≠ c.kids.length ∨ xk = 5 ∧ i + 1 = c.kids.length ∨ xk = 5 ∧ i + 1 ≠ c.kids.length ∨ xk ≠ 3 ∧ xk ≠ 4 ∧ xk ≠ 5 by omega) with hk | hk | hk | hk | hk | hk | hk
 ·
  have hb9 : c.bnd i = 1 := by omega
  refine wp_rs fun K2 hK2 => ?_
  refine s_box ([.int .i64 xk, .int .i64 xn, .string xs, .int .i64 xl.1, .int .i64 xl.2.1, xl.2.2, xls, .slice av nv cv]) hF (by decide) rfl rfl fun w2 b2 a eb2 m2 B3 zb2 hF => ?_
  have sB3 := B3.size
  have hB := bt hB B3
  refine hF.v (x_assign rfl) fun a hF => ?_
  refine s_end (hK2 _ _ ?_)
  refine wp_seq_k fun K3 hK3 => ?_
  refine wp_rs fun K4 hK4 => ?_
  refine hF.v (x_fa0 fa27_0 rfl) fun a hF => ?_
  refine hF.v (x_load rfl (m_load flat3 (m2.cell (j := 0) rfl))) fun a hF => ?_
  refine s_end (hK4 _ _ ?_)
  refine wp_block ?_
  refine wp_seq_k fun K5 hK5 => ?_
  refine wp_rs fun K6 hK6 => ?_
  refine hF.v (eqlT (by omega) rfl rfl) fun a hF => ?_
  refine hF.v (x_assign rfl) fun a hF => ?_
  refine s_end (hK6 _ _ ?_)
  refine wp_if hF rfl ?_
  refine wp_skip (hK5 _ _ ?_)
  refine wp_if hF rfl ?_
  refine wp_rs fun K7 hK7 => ?_
  refine hF.v (x_move rfl) fun a hF => ?_
  refine hF.v (x_ldW wide27 m2 rfl rfl) fun a hF => ?_
  refine s_callR (R := fun v w' => RK wa A v c.kids) [_] hF E88 rfl (by decide) (kidsOf101 c ⟨xk, xn, xs, xl, xls, .slice av nv cv⟩ A wa w2 hx) ?_
  rintro v13 w4 a hv13 B5 hF
  have sB5 := B5.size
  have hB := bt hB B5
  obtain ⟨a13, c13, hve, _⟩ := hv13.form
  subst hve
  refine hF.v (x_len Try.underlying25 rfl) fun a hF => ?_
  refine hF.v (x_sub (by omega) (by omega) rfl rfl) fun a hF => ?_
  refine hF.v (eqlT (by omega) rfl rfl) fun a hF => ?_
  refine s_end (hK7 _ _ ?_)
  refine wp_if hF rfl ?_
  refine wp_rs fun K8 hK8 => ?_
  refine hF.v (x_assign rfl) fun a hF => ?_
  refine s_end (hK8 _ _ ?_)
  refine wp_ret (inb_ret (then_ret (res_slot hF rfl rfl ⟨by rw [hb9], hB⟩)))
 ·
  have hb9 : c.bnd i = 0 := by omega
  refine wp_rs fun K9 hK9 => ?_
  refine s_box ([.int .i64 xk, .int .i64 xn, .string xs, .int .i64 xl.1, .int .i64 xl.2.1, xl.2.2, xls, .slice av nv cv]) hF (by decide) rfl rfl fun w6 b2 a eb2 m2 B7 zb2 hF => ?_
  have sB7 := B7.size
  have hB := bt hB B7
  refine hF.v (x_assign rfl) fun a hF => ?_
  refine s_end (hK9 _ _ ?_)
  refine wp_seq_k fun K10 hK10 => ?_
  refine wp_rs fun K11 hK11 => ?_
  refine hF.v (x_fa0 fa27_0 rfl) fun a hF => ?_
  refine hF.v (x_load rfl (m_load flat3 (m2.cell (j := 0) rfl))) fun a hF => ?_
  refine s_end (hK11 _ _ ?_)
  refine wp_block ?_
  refine wp_seq_k fun K12 hK12 => ?_
  refine wp_rs fun K13 hK13 => ?_
  refine hF.v (eqlT (by omega) rfl rfl) fun a hF => ?_
  refine hF.v (x_assign rfl) fun a hF => ?_
  refine s_end (hK13 _ _ ?_)
  refine wp_if hF rfl ?_
  refine wp_skip (hK12 _ _ ?_)
  refine wp_if hF rfl ?_
  refine wp_rs fun K14 hK14 => ?_
  refine hF.v (x_move rfl) fun a hF => ?_
  refine hF.v (x_ldW wide27 m2 rfl rfl) fun a hF => ?_
  refine s_callR (R := fun v w' => RK wa A v c.kids) [_] hF E88 rfl (by decide) (kidsOf101 c ⟨xk, xn, xs, xl, xls, .slice av nv cv⟩ A wa w6 hx) ?_
  rintro v13 w8 a hv13 B9 hF
  have sB9 := B9.size
  have hB := bt hB B9
  obtain ⟨a13, c13, hve, _⟩ := hv13.form
  subst hve
  refine hF.v (x_len Try.underlying25 rfl) fun a hF => ?_
  refine hF.v (x_sub (by omega) (by omega) rfl rfl) fun a hF => ?_
  refine hF.v (eqlF (by omega) rfl rfl) fun a hF => ?_
  refine s_end (hK14 _ _ ?_)
  refine wp_if hF rfl ?_
  refine wp_skip (hK10 _ _ ?_)
  refine wp_rs fun K15 hK15 => ?_
  refine hF.v (x_assign rfl) fun a hF => ?_
  refine s_end (hK15 _ _ ?_)
  refine wp_ret (res_slot hF rfl rfl ⟨by rw [hb9], hB⟩)
 ·
  have hb9 : c.bnd i = 1 := by omega
  refine wp_rs fun K16 hK16 => ?_
  refine s_box ([.int .i64 xk, .int .i64 xn, .string xs, .int .i64 xl.1, .int .i64 xl.2.1, xl.2.2, xls, .slice av nv cv]) hF (by decide) rfl rfl fun w10 b2 a eb2 m2 B11 zb2 hF => ?_
  have sB11 := B11.size
  have hB := bt hB B11
  refine hF.v (x_assign rfl) fun a hF => ?_
  refine s_end (hK16 _ _ ?_)
  refine wp_seq_k fun K17 hK17 => ?_
  refine wp_rs fun K18 hK18 => ?_
  refine hF.v (x_fa0 fa27_0 rfl) fun a hF => ?_
  refine hF.v (x_load rfl (m_load flat3 (m2.cell (j := 0) rfl))) fun a hF => ?_
  refine s_end (hK18 _ _ ?_)
  refine wp_block ?_
  refine wp_seq_k fun K19 hK19 => ?_
  refine wp_rs fun K20 hK20 => ?_
  refine hF.v (eqlF (by omega) rfl rfl) fun a hF => ?_
  refine hF.v (x_assign rfl) fun a hF => ?_
  refine s_end (hK20 _ _ ?_)
  refine wp_if hF rfl ?_
  refine wp_rs fun K21 hK21 => ?_
  refine hF.v (eqlT (by omega) rfl rfl) fun a hF => ?_
  refine hF.v (x_assign rfl) fun a hF => ?_
  refine s_end (hK21 _ _ ?_)
  refine wp_if hF rfl ?_
  refine wp_skip (hK19 _ _ ?_)
  refine wp_if hF rfl ?_
  refine wp_rs fun K22 hK22 => ?_
  refine hF.v (x_move rfl) fun a hF => ?_
  refine hF.v (x_ldW wide27 m2 rfl rfl) fun a hF => ?_
  refine s_callR (R := fun v w' => RK wa A v c.kids) [_] hF E88 rfl (by decide) (kidsOf101 c ⟨xk, xn, xs, xl, xls, .slice av nv cv⟩ A wa w10 hx) ?_
  rintro v13 w12 a hv13 B13 hF
  have sB13 := B13.size
  have hB := bt hB B13
  obtain ⟨a13, c13, hve, _⟩ := hv13.form
  subst hve
  refine hF.v (x_len Try.underlying25 rfl) fun a hF => ?_
  refine hF.v (x_sub (by omega) (by omega) rfl rfl) fun a hF => ?_
  refine hF.v (eqlT (by omega) rfl rfl) fun a hF => ?_
  refine s_end (hK22 _ _ ?_)
  refine wp_if hF rfl ?_
  refine wp_rs fun K23 hK23 => ?_
  refine hF.v (x_assign rfl) fun a hF => ?_
  refine s_end (hK23 _ _ ?_)
  refine wp_ret (inb_ret (then_ret (res_slot hF rfl rfl ⟨by rw [hb9], hB⟩)))
 ·
  have hb9 : c.bnd i = 0 := by omega
  refine wp_rs fun K24 hK24 => ?_
  refine s_box ([.int .i64 xk, .int .i64 xn, .string xs, .int .i64 xl.1, .int .i64 xl.2.1, xl.2.2, xls, .slice av nv cv]) hF (by decide) rfl rfl fun w14 b2 a eb2 m2 B15 zb2 hF => ?_
  have sB15 := B15.size
  have hB := bt hB B15
  refine hF.v (x_assign rfl) fun a hF => ?_
  refine s_end (hK24 _ _ ?_)
  refine wp_seq_k fun K25 hK25 => ?_
  refine wp_rs fun K26 hK26 => ?_
  refine hF.v (x_fa0 fa27_0 rfl) fun a hF => ?_
  refine hF.v (x_load rfl (m_load flat3 (m2.cell (j := 0) rfl))) fun a hF => ?_
  refine s_end (hK26 _ _ ?_)
  refine wp_block ?_
  refine wp_seq_k fun K27 hK27 => ?_
  refine wp_rs fun K28 hK28 => ?_
  refine hF.v (eqlF (by omega) rfl rfl) fun a hF => ?_
  refine hF.v (x_assign rfl) fun a hF => ?_
  refine s_end (hK28 _ _ ?_)
  refine wp_if hF rfl ?_
  refine wp_rs fun K29 hK29 => ?_
  refine hF.v (eqlT (by omega) rfl rfl) fun a hF => ?_
  refine hF.v (x_assign rfl) fun a hF => ?_
  refine s_end (hK29 _ _ ?_)
  refine wp_if hF rfl ?_
  refine wp_skip (hK27 _ _ ?_)
  refine wp_if hF rfl ?_
  refine wp_rs fun K30 hK30 => ?_
  refine hF.v (x_move rfl) fun a hF => ?_
  refine hF.v (x_ldW wide27 m2 rfl rfl) fun a hF => ?_
  refine s_callR (R := fun v w' => RK wa A v c.kids) [_] hF E88 rfl (by decide) (kidsOf101 c ⟨xk, xn, xs, xl, xls, .slice av nv cv⟩ A wa w14 hx) ?_
  rintro v13 w16 a hv13 B17 hF
  have sB17 := B17.size
  have hB := bt hB B17
  obtain ⟨a13, c13, hve, _⟩ := hv13.form
  subst hve
  refine hF.v (x_len Try.underlying25 rfl) fun a hF => ?_
  refine hF.v (x_sub (by omega) (by omega) rfl rfl) fun a hF => ?_
  refine hF.v (eqlF (by omega) rfl rfl) fun a hF => ?_
  refine s_end (hK30 _ _ ?_)
  refine wp_if hF rfl ?_
  refine wp_skip (hK25 _ _ ?_)
  refine wp_rs fun K31 hK31 => ?_
  refine hF.v (x_assign rfl) fun a hF => ?_
  refine s_end (hK31 _ _ ?_)
  refine wp_ret (res_slot hF rfl rfl ⟨by rw [hb9], hB⟩)
 ·
  have hb9 : c.bnd i = 1 := by omega
  refine wp_rs fun K32 hK32 => ?_
  refine s_box ([.int .i64 xk, .int .i64 xn, .string xs, .int .i64 xl.1, .int .i64 xl.2.1, xl.2.2, xls, .slice av nv cv]) hF (by decide) rfl rfl fun w18 b2 a eb2 m2 B19 zb2 hF => ?_
  have sB19 := B19.size
  have hB := bt hB B19
  refine hF.v (x_assign rfl) fun a hF => ?_
  refine s_end (hK32 _ _ ?_)
  refine wp_seq_k fun K33 hK33 => ?_
  refine wp_rs fun K34 hK34 => ?_
  refine hF.v (x_fa0 fa27_0 rfl) fun a hF => ?_
  refine hF.v (x_load rfl (m_load flat3 (m2.cell (j := 0) rfl))) fun a hF => ?_
  refine s_end (hK34 _ _ ?_)
  refine wp_block ?_
  refine wp_seq_k fun K35 hK35 => ?_
  refine wp_rs fun K36 hK36 => ?_
  refine hF.v (eqlF (by omega) rfl rfl) fun a hF => ?_
  refine hF.v (x_assign rfl) fun a hF => ?_
  refine s_end (hK36 _ _ ?_)
  refine wp_if hF rfl ?_
  refine wp_rs fun K37 hK37 => ?_
  refine hF.v (eqlF (by omega) rfl rfl) fun a hF => ?_
  refine hF.v (x_assign rfl) fun a hF => ?_
  refine s_end (hK37 _ _ ?_)
  refine wp_if hF rfl ?_
  refine wp_region_lit ?_
  refine hF.v (eqlT (by omega) rfl rfl) fun a hF => ?_
  refine hF.v (x_assign rfl) fun a hF => ?_
  refine s_end (hK35 _ _ ?_)
  refine wp_if hF rfl ?_
  refine wp_rs fun K38 hK38 => ?_
  refine hF.v (x_move rfl) fun a hF => ?_
  refine hF.v (x_ldW wide27 m2 rfl rfl) fun a hF => ?_
  refine s_callR (R := fun v w' => RK wa A v c.kids) [_] hF E88 rfl (by decide) (kidsOf101 c ⟨xk, xn, xs, xl, xls, .slice av nv cv⟩ A wa w18 hx) ?_
  rintro v13 w20 a hv13 B21 hF
  have sB21 := B21.size
  have hB := bt hB B21
  obtain ⟨a13, c13, hve, _⟩ := hv13.form
  subst hve
  refine hF.v (x_len Try.underlying25 rfl) fun a hF => ?_
  refine hF.v (x_sub (by omega) (by omega) rfl rfl) fun a hF => ?_
  refine hF.v (eqlT (by omega) rfl rfl) fun a hF => ?_
  refine s_end (hK38 _ _ ?_)
  refine wp_if hF rfl ?_
  refine wp_rs fun K39 hK39 => ?_
  refine hF.v (x_assign rfl) fun a hF => ?_
  refine s_end (hK39 _ _ ?_)
  refine wp_ret (inb_ret (then_ret (res_slot hF rfl rfl ⟨by rw [hb9], hB⟩)))
 ·
  have hb9 : c.bnd i = 0 := by omega
  refine wp_rs fun K40 hK40 => ?_
  refine s_box ([.int .i64 xk, .int .i64 xn, .string xs, .int .i64 xl.1, .int .i64 xl.2.1, xl.2.2, xls, .slice av nv cv]) hF (by decide) rfl rfl fun w22 b2 a eb2 m2 B23 zb2 hF => ?_
  have sB23 := B23.size
  have hB := bt hB B23
  refine hF.v (x_assign rfl) fun a hF => ?_
  refine s_end (hK40 _ _ ?_)
  refine wp_seq_k fun K41 hK41 => ?_
  refine wp_rs fun K42 hK42 => ?_
  refine hF.v (x_fa0 fa27_0 rfl) fun a hF => ?_
  refine hF.v (x_load rfl (m_load flat3 (m2.cell (j := 0) rfl))) fun a hF => ?_
  refine s_end (hK42 _ _ ?_)
  refine wp_block ?_
  refine wp_seq_k fun K43 hK43 => ?_
  refine wp_rs fun K44 hK44 => ?_
  refine hF.v (eqlF (by omega) rfl rfl) fun a hF => ?_
  refine hF.v (x_assign rfl) fun a hF => ?_
  refine s_end (hK44 _ _ ?_)
  refine wp_if hF rfl ?_
  refine wp_rs fun K45 hK45 => ?_
  refine hF.v (eqlF (by omega) rfl rfl) fun a hF => ?_
  refine hF.v (x_assign rfl) fun a hF => ?_
  refine s_end (hK45 _ _ ?_)
  refine wp_if hF rfl ?_
  refine wp_region_lit ?_
  refine hF.v (eqlT (by omega) rfl rfl) fun a hF => ?_
  refine hF.v (x_assign rfl) fun a hF => ?_
  refine s_end (hK43 _ _ ?_)
  refine wp_if hF rfl ?_
  refine wp_rs fun K46 hK46 => ?_
  refine hF.v (x_move rfl) fun a hF => ?_
  refine hF.v (x_ldW wide27 m2 rfl rfl) fun a hF => ?_
  refine s_callR (R := fun v w' => RK wa A v c.kids) [_] hF E88 rfl (by decide) (kidsOf101 c ⟨xk, xn, xs, xl, xls, .slice av nv cv⟩ A wa w22 hx) ?_
  rintro v13 w24 a hv13 B25 hF
  have sB25 := B25.size
  have hB := bt hB B25
  obtain ⟨a13, c13, hve, _⟩ := hv13.form
  subst hve
  refine hF.v (x_len Try.underlying25 rfl) fun a hF => ?_
  refine hF.v (x_sub (by omega) (by omega) rfl rfl) fun a hF => ?_
  refine hF.v (eqlF (by omega) rfl rfl) fun a hF => ?_
  refine s_end (hK46 _ _ ?_)
  refine wp_if hF rfl ?_
  refine wp_skip (hK41 _ _ ?_)
  refine wp_rs fun K47 hK47 => ?_
  refine hF.v (x_assign rfl) fun a hF => ?_
  refine s_end (hK47 _ _ ?_)
  refine wp_ret (res_slot hF rfl rfl ⟨by rw [hb9], hB⟩)
 ·
  have hb9 : c.bnd i = 0 := by omega
  refine wp_rs fun K48 hK48 => ?_
  refine s_box ([.int .i64 xk, .int .i64 xn, .string xs, .int .i64 xl.1, .int .i64 xl.2.1, xl.2.2, xls, .slice av nv cv]) hF (by decide) rfl rfl fun w26 b2 a eb2 m2 B27 zb2 hF => ?_
  have sB27 := B27.size
  have hB := bt hB B27
  refine hF.v (x_assign rfl) fun a hF => ?_
  refine s_end (hK48 _ _ ?_)
  refine wp_seq_k fun K49 hK49 => ?_
  refine wp_rs fun K50 hK50 => ?_
  refine hF.v (x_fa0 fa27_0 rfl) fun a hF => ?_
  refine hF.v (x_load rfl (m_load flat3 (m2.cell (j := 0) rfl))) fun a hF => ?_
  refine s_end (hK50 _ _ ?_)
  refine wp_block ?_
  refine wp_seq_k fun K51 hK51 => ?_
  refine wp_rs fun K52 hK52 => ?_
  refine hF.v (eqlF (by omega) rfl rfl) fun a hF => ?_
  refine hF.v (x_assign rfl) fun a hF => ?_
  refine s_end (hK52 _ _ ?_)
  refine wp_if hF rfl ?_
  refine wp_rs fun K53 hK53 => ?_
  refine hF.v (eqlF (by omega) rfl rfl) fun a hF => ?_
  refine hF.v (x_assign rfl) fun a hF => ?_
  refine s_end (hK53 _ _ ?_)
  refine wp_if hF rfl ?_
  refine wp_region_lit ?_
  refine hF.v (eqlF (by omega) rfl rfl) fun a hF => ?_
  refine hF.v (x_assign rfl) fun a hF => ?_
  refine s_end (hK51 _ _ ?_)
  refine wp_if hF rfl ?_
  refine wp_skip (hK49 _ _ ?_)
  refine wp_rs fun K54 hK54 => ?_
  refine hF.v (x_assign rfl) fun a hF => ?_
  refine s_end (hK54 _ _ ?_)
  refine wp_ret (res_slot hF rfl rfl ⟨by rw [hb9], hB⟩)

set_option maxRecDepth 100000 in
set_option maxHeartbeats 1600000 in
theorem isApplied68 (c : CT) (x : C8) (A : Nat → Prop) (wa w0 : World) (hx : RC wa A c x) : Calls Try.prog 54 #[tv x] w0 fun e w' => e = .returned (.bool (decide (c.kd = 6 ∧ 0 < c.kids.length))) ∧ Below w0.heap.size w0 w' := by
 have h3 := c.kids_le
 obtain ⟨av, nv, cv, hts, hle, hlen, hcap, hkid⟩ := hx.kids
 obtain ⟨xk, xn, xs, xl, xls, xts⟩ := x
 simp only at hts
 subst hts
 have hkd : xk = c.kd := hx.kd
 have hone := hx.one
 have hB := Below.refl w0.heap.size w0
 have sB := hB.size
 refine calls_fs 12 [(0, tv ⟨xk, xn, xs, xl, xls, .slice av nv cv⟩)] Try.func54 rfl rfl rfl rfl rfl fun a hF => ?_
 rcases (show (xk = 6 ∧ 0 < c.kids.length) ∨ (xk = 6 ∧ ¬ 0 < c.kids.length) ∨ xk ≠ 6 by omega) with hk | hk | hk
 ·
  skip
  refine wp_rs fun K2 hK2 => ?_
  refine s_box ([.int .i64 xk, .int .i64 xn, .string xs, .int .i64 xl.1, .int .i64 xl.2.1, xl.2.2, xls, .slice av nv cv]) hF (by decide) rfl rfl fun w2 b1 a eb1 m1 B3 zb1 hF => ?_
  have sB3 := B3.size
  have hB := bt hB B3
  refine hF.v (x_assign rfl) fun a hF => ?_
  refine s_end (hK2 _ _ ?_)
  refine wp_rs fun K3 hK3 => ?_
  refine hF.v (x_fa0 fa27_0 rfl) fun a hF => ?_
  refine hF.v (x_load rfl (m_load flat3 (m1.cell (j := 0) rfl))) fun a hF => ?_
  refine hF.v (eqlT (by omega) rfl rfl) fun a hF => ?_
  refine hF.v (x_move rfl) fun a hF => ?_
  refine s_grd 6 hF rfl rfl rfl ?_
  refine hF.v (x_ldW wide27 m1 rfl rfl) fun a hF => ?_
  refine s_grd 6 hF rfl rfl rfl ?_
  refine s_callR (R := fun v w' => RK wa A v c.kids) [_] hF E88 rfl (by decide) (kidsOf101 c ⟨xk, xn, xs, xl, xls, .slice av nv cv⟩ A wa w2 hx) ?_
  rintro v13 w4 a hv13 B5 hF
  have sB5 := B5.size
  have hB := bt hB B5
  obtain ⟨a13, c13, hve, _⟩ := hv13.form
  subst hve
  refine s_grd 6 hF rfl rfl rfl ?_
  refine hF.v (x_len Try.underlying25 rfl) fun a hF => ?_
  refine s_grd 6 hF rfl rfl rfl ?_
  refine hF.v (gtrT (by omega) rfl rfl) fun a hF => ?_
  refine hF.v (x_pick (b := true) rfl rfl) fun a hF => ?_
  refine hF.v (x_assign rfl) fun a hF => ?_
  refine s_end (hK3 _ _ ?_)
  refine wp_ret (res_slot hF rfl rfl ⟨by rw [← hkd, decide_eq_true (by omega)], hB⟩)
 ·
  skip
  refine wp_rs fun K4 hK4 => ?_
  refine s_box ([.int .i64 xk, .int .i64 xn, .string xs, .int .i64 xl.1, .int .i64 xl.2.1, xl.2.2, xls, .slice av nv cv]) hF (by decide) rfl rfl fun w6 b1 a eb1 m1 B7 zb1 hF => ?_
  have sB7 := B7.size
  have hB := bt hB B7
  refine hF.v (x_assign rfl) fun a hF => ?_
  refine s_end (hK4 _ _ ?_)
  refine wp_rs fun K5 hK5 => ?_
  refine hF.v (x_fa0 fa27_0 rfl) fun a hF => ?_
  refine hF.v (x_load rfl (m_load flat3 (m1.cell (j := 0) rfl))) fun a hF => ?_
  refine hF.v (eqlT (by omega) rfl rfl) fun a hF => ?_
  refine hF.v (x_move rfl) fun a hF => ?_
  refine s_grd 6 hF rfl rfl rfl ?_
  refine hF.v (x_ldW wide27 m1 rfl rfl) fun a hF => ?_
  refine s_grd 6 hF rfl rfl rfl ?_
  refine s_callR (R := fun v w' => RK wa A v c.kids) [_] hF E88 rfl (by decide) (kidsOf101 c ⟨xk, xn, xs, xl, xls, .slice av nv cv⟩ A wa w6 hx) ?_
  rintro v13 w8 a hv13 B9 hF
  have sB9 := B9.size
  have hB := bt hB B9
  obtain ⟨a13, c13, hve, _⟩ := hv13.form
  subst hve
  refine s_grd 6 hF rfl rfl rfl ?_
  refine hF.v (x_len Try.underlying25 rfl) fun a hF => ?_
  refine s_grd 6 hF rfl rfl rfl ?_
  refine hF.v (gtrF (by omega) rfl rfl) fun a hF => ?_
  refine hF.v (x_pick (b := true) rfl rfl) fun a hF => ?_
  refine hF.v (x_assign rfl) fun a hF => ?_
  refine s_end (hK5 _ _ ?_)
  refine wp_ret (res_slot hF rfl rfl ⟨by rw [← hkd, decide_eq_false (by omega)], hB⟩)
 ·
  skip
  refine wp_rs fun K6 hK6 => ?_
  refine s_box ([.int .i64 xk, .int .i64 xn, .string xs, .int .i64 xl.1, .int .i64 xl.2.1, xl.2.2, xls, .slice av nv cv]) hF (by decide) rfl rfl fun w10 b1 a eb1 m1 B11 zb1 hF => ?_
  have sB11 := B11.size
  have hB := bt hB B11
  refine hF.v (x_assign rfl) fun a hF => ?_
  refine s_end (hK6 _ _ ?_)
  refine wp_rs fun K7 hK7 => ?_
  refine hF.v (x_fa0 fa27_0 rfl) fun a hF => ?_
  refine hF.v (x_load rfl (m_load flat3 (m1.cell (j := 0) rfl))) fun a hF => ?_
  refine hF.v (eqlF (by omega) rfl rfl) fun a hF => ?_
  refine hF.v (x_move rfl) fun a hF => ?_
  refine s_grdn 6 hF rfl rfl (by decide) fun a hF => ?_
  refine s_grdn 6 hF rfl rfl (by decide) fun a hF => ?_
  refine s_grdn 6 hF rfl rfl (by decide) fun a hF => ?_
  refine s_grdn 6 hF rfl rfl (by decide) fun a hF => ?_
  refine hF.v (x_pick (b := false) rfl rfl) fun a hF => ?_
  refine hF.v (x_assign rfl) fun a hF => ?_
  refine s_end (hK7 _ _ ?_)
  refine wp_ret (res_slot hF rfl rfl ⟨by rw [← hkd, decide_eq_false (by omega)], hB⟩)

set_option maxRecDepth 100000 in
set_option maxHeartbeats 1600000 in
theorem isIn105 (n d : Int) (w0 : World) : Calls Try.prog 93 #[.agg [.int .i64 n, .int .i64 d].toArray] w0 fun e w' => e = .returned (.bool (decide (n ≤ 20000 ∧ d ≤ 2000))) ∧ Below w0.heap.size w0 w' := by
 have hB := Below.refl w0.heap.size w0
 have sB := hB.size
 refine calls_fs 11 [(0, .agg [.int .i64 n, .int .i64 d].toArray)] Try.func93 rfl rfl rfl rfl rfl fun a hF => ?_
 rcases (show (n ≤ 20000 ∧ d ≤ 2000) ∨ (n ≤ 20000 ∧ ¬ d ≤ 2000) ∨ ¬ n ≤ 20000 by omega) with hk | hk | hk
 ·
  skip
  refine wp_rs fun K2 hK2 => ?_
  refine s_box ([.int .i64 n, .int .i64 d]) hF (by decide) rfl rfl fun w2 b1 a eb1 m1 B3 zb1 hF => ?_
  have sB3 := B3.size
  have hB := bt hB B3
  refine hF.v (x_assign rfl) fun a hF => ?_
  refine s_end (hK2 _ _ ?_)
  refine wp_rs fun K3 hK3 => ?_
  refine hF.v (x_fa0 fa70_0 rfl) fun a hF => ?_
  refine hF.v (x_load rfl (m_load flat3 (m1.cell (j := 0) rfl))) fun a hF => ?_
  refine hF.v (leqT (by omega) rfl rfl) fun a hF => ?_
  refine hF.v (x_move rfl) fun a hF => ?_
  refine s_grd 6 hF rfl rfl rfl ?_
  refine hF.v (x_fa0 fa70_1 rfl) fun a hF => ?_
  refine s_grd 6 hF rfl rfl rfl ?_
  refine hF.v (x_load rfl (m_load flat3 (m1.cell (j := 1) rfl))) fun a hF => ?_
  refine s_grd 6 hF rfl rfl rfl ?_
  refine hF.v (leqT (by omega) rfl rfl) fun a hF => ?_
  refine hF.v (x_pick (b := true) rfl rfl) fun a hF => ?_
  refine hF.v (x_assign rfl) fun a hF => ?_
  refine s_end (hK3 _ _ ?_)
  refine wp_ret (res_slot hF rfl rfl ⟨by rw [decide_eq_true (by omega)], hB⟩)
 ·
  skip
  refine wp_rs fun K4 hK4 => ?_
  refine s_box ([.int .i64 n, .int .i64 d]) hF (by decide) rfl rfl fun w4 b1 a eb1 m1 B5 zb1 hF => ?_
  have sB5 := B5.size
  have hB := bt hB B5
  refine hF.v (x_assign rfl) fun a hF => ?_
  refine s_end (hK4 _ _ ?_)
  refine wp_rs fun K5 hK5 => ?_
  refine hF.v (x_fa0 fa70_0 rfl) fun a hF => ?_
  refine hF.v (x_load rfl (m_load flat3 (m1.cell (j := 0) rfl))) fun a hF => ?_
  refine hF.v (leqT (by omega) rfl rfl) fun a hF => ?_
  refine hF.v (x_move rfl) fun a hF => ?_
  refine s_grd 6 hF rfl rfl rfl ?_
  refine hF.v (x_fa0 fa70_1 rfl) fun a hF => ?_
  refine s_grd 6 hF rfl rfl rfl ?_
  refine hF.v (x_load rfl (m_load flat3 (m1.cell (j := 1) rfl))) fun a hF => ?_
  refine s_grd 6 hF rfl rfl rfl ?_
  refine hF.v (leqF (by omega) rfl rfl) fun a hF => ?_
  refine hF.v (x_pick (b := true) rfl rfl) fun a hF => ?_
  refine hF.v (x_assign rfl) fun a hF => ?_
  refine s_end (hK5 _ _ ?_)
  refine wp_ret (res_slot hF rfl rfl ⟨by rw [decide_eq_false (by omega)], hB⟩)
 ·
  skip
  refine wp_rs fun K6 hK6 => ?_
  refine s_box ([.int .i64 n, .int .i64 d]) hF (by decide) rfl rfl fun w6 b1 a eb1 m1 B7 zb1 hF => ?_
  have sB7 := B7.size
  have hB := bt hB B7
  refine hF.v (x_assign rfl) fun a hF => ?_
  refine s_end (hK6 _ _ ?_)
  refine wp_rs fun K7 hK7 => ?_
  refine hF.v (x_fa0 fa70_0 rfl) fun a hF => ?_
  refine hF.v (x_load rfl (m_load flat3 (m1.cell (j := 0) rfl))) fun a hF => ?_
  refine hF.v (leqF (by omega) rfl rfl) fun a hF => ?_
  refine hF.v (x_move rfl) fun a hF => ?_
  refine s_grdn 6 hF rfl rfl (by decide) fun a hF => ?_
  refine s_grdn 6 hF rfl rfl (by decide) fun a hF => ?_
  refine s_grdn 6 hF rfl rfl (by decide) fun a hF => ?_
  refine hF.v (x_pick (b := false) rfl rfl) fun a hF => ?_
  refine hF.v (x_assign rfl) fun a hF => ?_
  refine s_end (hK7 _ _ ?_)
  refine wp_ret (res_slot hF rfl rfl ⟨by rw [decide_eq_false (by omega)], hB⟩)

set_option maxRecDepth 100000 in
set_option maxHeartbeats 1600000 in
theorem isPlace121 (c : CT) (x : C8) (A : Nat → Prop) (d : Int) (wa w0 : World) (hx : RC wa A c x) : Calls Try.prog 98 #[tv x, .int .i64 d] w0 fun e w' => e = .returned (.bool (c.isV d)) ∧ Below w0.heap.size w0 w' := by
 have hV := CT.isV_eq hx d
 have hB := Below.refl w0.heap.size w0
 have sB := hB.size
 refine calls_fs 14 [(0, tv x), (1, .int .i64 d)] Try.func98 rfl rfl rfl rfl rfl fun a hF => ?_
 rcases (show (x.k = 1 ∧ x.n = d) ∨ (x.k = 1 ∧ x.n ≠ d) ∨ x.k ≠ 1 by omega) with hk | hk | hk
 ·
  skip
  refine wp_rs fun K2 hK2 => ?_
  refine s_box ([.int .i64 x.k, .int .i64 x.n, .string x.s, .int .i64 x.l.1, .int .i64 x.l.2.1, x.l.2.2, x.ls, x.ts]) hF (by decide) rfl rfl fun w2 b2 a eb2 m2 B3 zb2 hF => ?_
  have sB3 := B3.size
  have hB := bt hB B3
  refine hF.v (x_assign rfl) fun a hF => ?_
  refine s_end (hK2 _ _ ?_)
  refine wp_rs fun K3 hK3 => ?_
  refine hF.v (x_fa0 fa27_0 rfl) fun a hF => ?_
  refine hF.v (x_load rfl (m_load flat3 (m2.cell (j := 0) rfl))) fun a hF => ?_
  refine hF.v (eqlT (by omega) rfl rfl) fun a hF => ?_
  refine hF.v (x_move rfl) fun a hF => ?_
  refine s_grd 8 hF rfl rfl rfl ?_
  refine hF.v (x_fa0 fa27_1 rfl) fun a hF => ?_
  refine s_grd 8 hF rfl rfl rfl ?_
  refine hF.v (x_load rfl (m_load flat3 (m2.cell (j := 1) rfl))) fun a hF => ?_
  refine s_grd 8 hF rfl rfl rfl ?_
  refine hF.v (x_move rfl) fun a hF => ?_
  refine s_grd 8 hF rfl rfl rfl ?_
  refine hF.v (eqlT (by omega) rfl rfl) fun a hF => ?_
  refine hF.v (x_pick (b := true) rfl rfl) fun a hF => ?_
  refine hF.v (x_assign rfl) fun a hF => ?_
  refine s_end (hK3 _ _ ?_)
  refine wp_ret (res_slot hF rfl rfl ⟨by rw [hV]; simp [hk], hB⟩)
 ·
  skip
  refine wp_rs fun K4 hK4 => ?_
  refine s_box ([.int .i64 x.k, .int .i64 x.n, .string x.s, .int .i64 x.l.1, .int .i64 x.l.2.1, x.l.2.2, x.ls, x.ts]) hF (by decide) rfl rfl fun w4 b2 a eb2 m2 B5 zb2 hF => ?_
  have sB5 := B5.size
  have hB := bt hB B5
  refine hF.v (x_assign rfl) fun a hF => ?_
  refine s_end (hK4 _ _ ?_)
  refine wp_rs fun K5 hK5 => ?_
  refine hF.v (x_fa0 fa27_0 rfl) fun a hF => ?_
  refine hF.v (x_load rfl (m_load flat3 (m2.cell (j := 0) rfl))) fun a hF => ?_
  refine hF.v (eqlT (by omega) rfl rfl) fun a hF => ?_
  refine hF.v (x_move rfl) fun a hF => ?_
  refine s_grd 8 hF rfl rfl rfl ?_
  refine hF.v (x_fa0 fa27_1 rfl) fun a hF => ?_
  refine s_grd 8 hF rfl rfl rfl ?_
  refine hF.v (x_load rfl (m_load flat3 (m2.cell (j := 1) rfl))) fun a hF => ?_
  refine s_grd 8 hF rfl rfl rfl ?_
  refine hF.v (x_move rfl) fun a hF => ?_
  refine s_grd 8 hF rfl rfl rfl ?_
  refine hF.v (eqlF (by omega) rfl rfl) fun a hF => ?_
  refine hF.v (x_pick (b := true) rfl rfl) fun a hF => ?_
  refine hF.v (x_assign rfl) fun a hF => ?_
  refine s_end (hK5 _ _ ?_)
  refine wp_ret (res_slot hF rfl rfl ⟨by rw [hV]; simp [hk], hB⟩)
 ·
  skip
  refine wp_rs fun K6 hK6 => ?_
  refine s_box ([.int .i64 x.k, .int .i64 x.n, .string x.s, .int .i64 x.l.1, .int .i64 x.l.2.1, x.l.2.2, x.ls, x.ts]) hF (by decide) rfl rfl fun w6 b2 a eb2 m2 B7 zb2 hF => ?_
  have sB7 := B7.size
  have hB := bt hB B7
  refine hF.v (x_assign rfl) fun a hF => ?_
  refine s_end (hK6 _ _ ?_)
  refine wp_rs fun K7 hK7 => ?_
  refine hF.v (x_fa0 fa27_0 rfl) fun a hF => ?_
  refine hF.v (x_load rfl (m_load flat3 (m2.cell (j := 0) rfl))) fun a hF => ?_
  refine hF.v (eqlF (by omega) rfl rfl) fun a hF => ?_
  refine hF.v (x_move rfl) fun a hF => ?_
  refine s_grdn 8 hF rfl rfl (by decide) fun a hF => ?_
  refine s_grdn 8 hF rfl rfl (by decide) fun a hF => ?_
  refine s_grdn 8 hF rfl rfl (by decide) fun a hF => ?_
  refine s_grdn 8 hF rfl rfl (by decide) fun a hF => ?_
  refine hF.v (x_pick (b := false) rfl rfl) fun a hF => ?_
  refine hF.v (x_assign rfl) fun a hF => ?_
  refine s_end (hK7 _ _ ?_)
  refine wp_ret (res_slot hF rfl rfl ⟨by rw [hV]; simp [hk], hB⟩)

set_option maxRecDepth 100000 in
set_option maxHeartbeats 1600000 in
theorem plus78 (n b : Int) (w0 : World) (hn : 0 ≤ n) (hn2 : n < 9223372036854775808) (hb : -9223372036854775808 ≤ b) : Calls Try.prog 133 #[.int .i64 n, .int .i64 b] w0 fun e w' => e = .returned (.int .i64 (min (n + b) 9223372036854775807)) ∧ w' = w0 := by
 refine calls_fs 12 [(0, .int .i64 n), (1, .int .i64 b)] Try.func133 rfl rfl rfl rfl rfl fun a hF => ?_
 rcases (show 9223372036854775807 - n < b ∨ ¬ 9223372036854775807 - n < b by omega) with hk | hk
 ·
  skip
  refine wp_rs fun K2 hK2 => ?_
  refine hF.v (x_assign rfl) fun a hF => ?_
  refine s_end (hK2 _ _ ?_)
  refine wp_seq_k fun K3 hK3 => ?_
  refine wp_rs fun K4 hK4 => ?_
  refine hF.v (x_move rfl) fun a hF => ?_
  refine hF.v (x_move rfl) fun a hF => ?_
  refine hF.v (x_sub (by omega) (by omega) rfl rfl) fun a hF => ?_
  refine hF.v (gtrT (by omega) rfl rfl) fun a hF => ?_
  refine s_end (hK4 _ _ ?_)
  refine wp_if hF rfl ?_
  refine wp_rs fun K5 hK5 => ?_
  refine hF.v (x_assign rfl) fun a hF => ?_
  refine s_end (hK5 _ _ ?_)
  refine wp_ret (then_ret (res_slot hF rfl rfl ⟨by rw [show min (n + b) 9223372036854775807 = 9223372036854775807 by omega], rfl⟩))
 ·
  skip
  refine wp_rs fun K6 hK6 => ?_
  refine hF.v (x_assign rfl) fun a hF => ?_
  refine s_end (hK6 _ _ ?_)
  refine wp_seq_k fun K7 hK7 => ?_
  refine wp_rs fun K8 hK8 => ?_
  refine hF.v (x_move rfl) fun a hF => ?_
  refine hF.v (x_move rfl) fun a hF => ?_
  refine hF.v (x_sub (by omega) (by omega) rfl rfl) fun a hF => ?_
  refine hF.v (gtrF (by omega) rfl rfl) fun a hF => ?_
  refine s_end (hK8 _ _ ?_)
  refine wp_if hF rfl ?_
  refine wp_skip (hK7 _ _ ?_)
  refine wp_rs fun K9 hK9 => ?_
  refine hF.v (x_move rfl) fun a hF => ?_
  refine hF.v (x_move rfl) fun a hF => ?_
  refine hF.v (x_add (by omega) (by omega) rfl rfl) fun a hF => ?_
  refine hF.v (x_assign rfl) fun a hF => ?_
  refine s_end (hK9 _ _ ?_)
  refine wp_ret (res_slot hF rfl rfl ⟨by rw [show min (n + b) 9223372036854775807 = n + b by omega], rfl⟩)

set_option maxRecDepth 100000 in
set_option maxHeartbeats 1600000 in
theorem var16 (n : Int) (w0 : World) (hn : in64 n) : Calls Try.prog 10 #[.int .i64 n] w0 fun e w' => ∃ v, e = .returned v ∧ (∃ y, v = tv y ∧ RC w' (fun _ => False) (.var n 0) y) ∧ Below w0.heap.size w0 w' := by
 have hB := Below.refl w0.heap.size w0
 have sB := hB.size
 refine calls_fs 5 [(0, .int .i64 n)] Try.func10 rfl rfl rfl rfl rfl fun a hF => ?_
 refine wp_rs fun K1 hK1 => ?_
 refine s_alloc hF (by decide) zero27 fun w2 b2 a eb2 m2 B3 zb2 hF => ?_
 have sB3 := B3.size
 have hB := bt hB B3
 refine s_end (hK1 _ _ ?_)
 refine wp_rs fun K2 hK2 => ?_
 refine hF.v (x_move rfl) fun a hF => ?_
 refine hF.v (x_build (vs := [(0, _), (1, _)]) rfl (b27_01 _ _ _)) fun a hF => ?_
 refine s_putW hF rfl rfl (size_wide wide27) m2 rfl (one_tc0 _ _ _ _ rfl) fun w6 m2 o7 => ?_
 have so7 := o7.size
 have hB := hB.trans (o7.below (by omega))
 refine s_end (hK2 _ _ ?_)
 refine wp_ret (res_cell hF rfl rfl m2 wide27 ⟨_, rfl, ⟨⟨1, n, emptyB, (0, 0, nilS), nilS, nilS⟩, rfl, rfl, rfl, hn, ⟨[], Rn.nil _ _ _⟩, ok0 _ _ _ _ _ _⟩, hB⟩)

set_option maxRecDepth 100000 in
set_option maxHeartbeats 1600000 in
theorem newRoom56 (w0 : World) : Calls Try.prog 42 #[] w0 fun e w' => ∃ v, e = .returned v ∧ (∃ br, v = .pointer (some ⟨br, 0, none⟩) ∧ w0.heap.size ≤ br ∧ Blk w' br 110 [.int .i64 2147483647]) ∧ Below w0.heap.size w0 w' := by
 have hB := Below.refl w0.heap.size w0
 have sB := hB.size
 refine calls_fs 3 [] Try.func42 rfl rfl rfl rfl rfl fun a hF => ?_
 refine wp_rs fun K1 hK1 => ?_
 refine hF.v (x_assign rfl) fun a hF => ?_
 refine s_end (hK1 _ _ ?_)
 refine wp_rs fun K2 hK2 => ?_
 refine hF.v (x_build (vs := [(0, _)]) rfl (b110_0 _ _)) fun a hF => ?_
 refine s_box ([.int .i64 2147483647]) hF (by decide) rfl rfl fun w2 b2 a eb2 m2 B3 zb2 hF => ?_
 have sB3 := B3.size
 have hB := bt hB B3
 refine hF.v (x_assign rfl) fun a hF => ?_
 refine s_end (hK2 _ _ ?_)
 refine wp_ret (res_slot hF rfl rfl ⟨_, rfl, ⟨b2, rfl, by omega, m2⟩, hB⟩)
end Go.Proofs.Ytbhhbfdoadecgaa

namespace Go.Proofs.Ytbhhbfdoadecgaa
open Go.RowKit Go.Shelf
set_option linter.unusedVariables false
set_option linter.unusedSimpArgs false

/-- A term's nodes, with their depths. -/
def CT.nodes : CT → Int → List (Int × CT)
 | .two k a b m, d => (d, .two k a b m) :: (a.nodes (d + 1) ++ b.nodes (d + 1))
 | .lt a b c m, d => (d, .lt a b c m) :: (a.nodes (d + 1) ++ (b.nodes (d + 1) ++ c.nodes (d + 1)))
 | c, d => [(d, c)]
theorem CT.nodes_eq (c : CT) (d : Int) : c.nodes d = (d, c) :: c.kids.flatMap (·.nodes (d + 1)) := by
 cases c <;> simp [CT.nodes, CT.kids]
theorem take_at {α β : Type} {l : List α} {i : Nat} {x : α} (h : l[i]? = some x) (f : α → List β) : (l.take (i + 1)).flatMap f = (l.take i).flatMap f ++ f x := by
 rw [List.take_add_one, h, List.flatMap_append]; simp
theorem split_at {α : Type} {l : List α} {i : Nat} {x : α} (h : l[i]? = some x) : l = l.take i ++ x :: l.drop (i + 1) := by
 have hi : i < l.length := (List.getElem?_eq_some_iff.1 h).1
 have : l[i] = x := (List.getElem?_eq_some_iff.1 h).2
 rw [← this, List.getElem_cons_drop, List.take_append_drop]
theorem CT.nodes_split {c k : CT} {i : Nat} (d : Int) (h : c.kids[i]? = some k) : c.nodes d = ((d, c) :: (c.kids.take i).flatMap (·.nodes (d + 1))) ++ (k.nodes (d + 1) ++ (c.kids.drop (i + 1)).flatMap (·.nodes (d + 1))) := by
 rw [c.nodes_eq d]
 conv => lhs; rw [split_at h]
 simp
/-- What is handed on of a node. -/
def encN (w0 : World) (e : Int × CT) (vs : List Value) : Prop := ∃ y, vs = [.int .i64 e.1, tv y] ∧ RC w0 (fun k => k < w0.heap.size) e.2 y

set_option maxRecDepth 100000 in
set_option maxHeartbeats 1600000 in
theorem walk108 (w0 : World) : ∀ (N : Nat) (c : CT) (x : C8) (d : Int), c.size < N → RC w0 (fun k => k < w0.heap.size) c x → 0 ≤ d → d ≤ 4611686018427387905 →
  ∀ (hi L : Nat) (J Jx : List (Int × CT) → World → Prop), w0.heap.size ≤ hi → (∀ p W W', J p W → Below hi W W' → J p W') → (∀ p W W', Jx p W → Below hi W W' → Jx p W') → (∀ p e W, J (p ++ [e]) W → e.1 ≤ 4611686018427387904) →
  (∀ p e rest W vs, c.nodes d = p ++ e :: rest → encN w0 e vs → J p W → hi ≤ W.heap.size → Below w0.heap.size w0 W → YieldAt Fence.wide 0 Try.prog L vs.toArray W fun en W' => Mid w0.heap.size hi W W' ∧ ((en = .returned (.bool true) ∧ J (p ++ [e]) W') ∨ (en = .returned (.bool false) ∧ Jx (p ++ [e]) W'))) →
  ∀ W, J [] W → hi ≤ W.heap.size → Below w0.heap.size w0 W → Calls Try.prog 131 #[tv x, .int .i64 d, .func (.yield L) #[] #[]] W fun en W' => ∃ b, en = .returned (.bool b) ∧ Mid w0.heap.size hi W W' ∧ ((b = true ∧ J (c.nodes d) W') ∨ (b = false ∧ ∃ p, p <+: c.nodes d ∧ Jx p W')) := by
 intro N
 induction N with
 | zero => intro c x d h; omega
 | succ N ih =>
 intro c x d hN hx hd0 hd1 hi L J Jx hlo hJs hJxs hJb hY W hJ hWs hB
 obtain ⟨xk, xn, xs, xl, xls, xts⟩ := x
 have h3 := c.kids_le
 have hM := Mid.refl w0.heap.size hi W
 have sB := hB.size
 refine calls_fs 28 [(0, tv ⟨xk, xn, xs, xl, xls, xts⟩), (1, .int .i64 d), (2, .func (.yield L) #[] #[])] Try.func131 rfl rfl rfl rfl rfl fun a hF => ?_
 refine wp_rs fun K1 hK1 => ?_
 refine s_box ([.int .i64 xk, .int .i64 xn, .string xs, .int .i64 xl.1, .int .i64 xl.2.1, xl.2.2, xls, xts]) hF (by decide) rfl rfl fun w2 b3 a eb3 m3 B3 zb3 hF => ?_
 have sB3 := B3.size
 have hB := bt hB B3
 have hM := hM.old B3
 have hJ := hJs _ _ _ hJ (B3.mono (by omega))
 refine hF.v (x_assign rfl) fun a hF => ?_
 refine s_end (hK1 _ _ ?_)
 refine wp_seq_k fun K2 hK2 => ?_
 refine wp_rsI fun K3 hK3 => ?_
 refine i_val hF (x_move rfl) rfl (by decide) fun a hF => ?_
 refine i_val hF (x_move rfl) rfl (by decide) fun a hF => ?_
 refine i_val hF (x_ldW wide27 m3 rfl rfl) rfl (by decide) fun a hF => ?_
 refine i_yield (R := fun v W' => ∃ b, v = .bool b ∧ Mid w0.heap.size hi w2 W' ∧ ((b = true ∧ J [(d, c)] W') ∨ (b = false ∧ Jx [(d, c)] W'))) hF [_, _] rfl rfl (by decide) ?_ ?_
 ·
  refine YieldAt.mono (hY [] (d, c) _ w2 _ (by rw [c.nodes_eq]; rfl) ⟨⟨xk, xn, xs, xl, xls, xts⟩, rfl, hx⟩ hJ (by omega) hB) ?_
  rintro en W' ⟨h1, ⟨rfl, h2⟩ | ⟨rfl, h2⟩⟩
  ·
   exact ⟨_, rfl, true, rfl, h1, .inl ⟨rfl, h2⟩⟩
  ·
   exact ⟨_, rfl, false, rfl, h1, .inr ⟨rfl, h2⟩⟩
 rintro _ w4 a ⟨b12, rfl, hm12, h12⟩ hF
 have shm12 := hm12.size
 have hB := hB.trans (hm12.below (by omega))
 have hM := hM.trans hm12
 have m3 := m3.mid hm12 (.inr (by omega))
 refine i_val hF (x_not rfl) rfl (by decide) fun a hF => ?_
 refine i_end (hK3 _ _ ?_)
 refine wp_ifb hF rfl (fun hc13 => ?_) (fun hc13 => ?_)
 ·
  obtain ⟨rfl, h12x⟩ : b12 = false ∧ Jx [(d, c)] _ := by rcases h12 with ⟨rfl, _⟩ | h; (· cases hc13); exact h
  refine wp_rs fun K4 hK4 => ?_
  refine hF.v (x_assign rfl) fun a hF => ?_
  refine s_end (hK4 _ _ ?_)
  refine wp_ret (then_ret (res_slot hF rfl rfl ⟨false, rfl, hM, .inr ⟨rfl, [(d, c)], by rw [c.nodes_eq]; exact ⟨_, rfl⟩, h12x⟩⟩))
 ·
  obtain ⟨rfl, hJ⟩ : b12 = true ∧ J [(d, c)] _ := by rcases h12 with h | ⟨rfl, _⟩; (· exact h); cases hc13
  have hdd := hJb [] (d, c) _ hJ
  simp only at hdd
  refine wp_skip (hK2 _ _ ?_)
  refine wp_seq_k fun K5 hK5 => ?_
  refine wp_rs fun K6 hK6 => ?_
  refine hF.v (x_ldW wide27 m3 rfl rfl) fun a hF => ?_
  refine s_callR (R := fun v w' => RK w0 (fun k => k < w0.heap.size) v c.kids) [_] hF E88 rfl (by decide) (kidsOf101 c ⟨xk, xn, xs, xl, xls, xts⟩ _ w0 w4 hx) ?_
  rintro v15 w5 a hv15 B6 hF
  have sB6 := B6.size
  have hB := bt hB B6
  have hM := hM.old B6
  have hJ := hJs _ _ _ hJ (B6.mono (by omega))
  obtain ⟨a15, c15, hve, _⟩ := hv15.form
  subst hve
  refine hF.v (x_len Try.underlying25 rfl) fun a hF => ?_
  refine hF.v (x_move rfl) fun a hF => ?_
  refine s_end (hK6 _ _ ?_)
  refine wp_block ?_
  refine wp_up c.kids.length (fun i a w => J ((d, c) :: (c.kids.take i).flatMap (·.nodes (d + 1))) w ∧ Mid w0.heap.size hi W w ∧ Below w0.heap.size w0 w ∧ Fs 28 a [(17, .int .i64 (i : Int)), (16, .int .i64 (c.kids.length : Int)), (15, .slice a15 c.kids.length c15), (1, .int .i64 d), (2, .func (.yield L) #[] #[])]) ⟨by simpa using hJ, hM, hB, hF.sub _ rfl⟩ ?_
  repeat clear hF
  clear hJ hM hB
  rintro i a w hi2 ⟨hJ, hM, hB, hF⟩ K' hK'
  have sB := hB.size
  have sM := hM.size
  refine wp_rs fun K7 hK7 => ?_
  refine hF.v (x_lss (b := decide (i < c.kids.length)) (decide_eq_decide.2 (by omega)) rfl rfl) fun a hF => ?_
  refine s_end (hK7 _ _ ?_)
  refine wp_seq_k fun K8 hK8 => ?_
  refine wp_iff hF rfl (fun hc18 => ?_) (fun hc18 => ?_)
  ·
   obtain ⟨b9, off9, c9, y, kd, hve, hyk, hry, hAb, hbl, hrow⟩ := hv15.row (i := i) (by omega)
   cases hve
   have hks := CT.kid_size hyk
   refine wp_skip (hK8 _ _ ?_)
   refine wp_seq_k fun K9 hK9 => ?_
   refine wp_block ?_
   refine wp_rs fun K10 hK10 => ?_
   refine hF.v (x_ixa rfl rfl (m_ixsK i Try.underlying25 el25.size rfl (by omega))) fun a hF => ?_
   refine hF.v (x_ldA wide27 (hrow _ (hB.block _ hbl)) rfl rfl) fun a hF => ?_
   refine s_alloc hF (by decide) zero27 fun w7 b8 a eb8 m8 B8 zb8 hF => ?_
   have sB8 := B8.size
   have hB := bt hB B8
   have hM := hM.old B8
   have hJ := hJs _ _ _ hJ (B8.mono (by omega))
   refine s_putW hF rfl rfl (size_wide wide27) m8 rfl hry.one fun w11 m8 o12 => ?_
   have so12 := o12.size
   have hB := hB.trans (o12.below (by omega))
   have hM := hM.only o12 (by omega)
   have hJ := hJs _ _ _ hJ (o12.below (by omega))
   refine s_end (hK10 _ _ ?_)
   refine wp_rs fun K11 hK11 => ?_
   refine hF.v (x_ldW wide27 m8 rfl rfl) fun a hF => ?_
   refine hF.v (x_move rfl) fun a hF => ?_
   refine hF.v (x_add (by omega) (by omega) rfl rfl) fun a hF => ?_
   refine hF.v (x_move rfl) fun a hF => ?_
   refine s_call (R := fun v W' => ∃ b, v = .bool b ∧ Mid w0.heap.size hi w11 W' ∧ ((b = true ∧ J ((d, c) :: (c.kids.take (i + 1)).flatMap (·.nodes (d + 1))) W') ∨ (b = false ∧ ∃ p, p <+: c.nodes d ∧ Jx p W'))) hF [_, _, _] E131 rfl (by decide) ?_ ?_
   ·
    refine Calls.mono (ih kd y (d + 1) (by omega) hry (by omega) (by omega) hi L (fun p W => J (((d, c) :: (c.kids.take i).flatMap (·.nodes (d + 1))) ++ p) W) (fun p W => Jx (((d, c) :: (c.kids.take i).flatMap (·.nodes (d + 1))) ++ p) W) hlo (fun p => hJs _) (fun p => hJxs _) (fun p e W h => hJb _ e W (by rw [List.append_assoc]; exact h)) ?_ w11 (by rw [List.append_nil]; exact hJ) (by omega) hB) ?_
    ·
     intro p e rest W vs he hv hj h1 h2
     have := hY (((d, c) :: (c.kids.take i).flatMap (·.nodes (d + 1))) ++ p) e (rest ++ (c.kids.drop (i + 1)).flatMap (·.nodes (d + 1))) W vs (by rw [CT.nodes_split d hyk, he]; simp) hv hj h1 h2
     rw [List.append_assoc] at this
     exact this
    ·
     rintro en W' ⟨b, rfl, h1, ⟨rfl, h2⟩ | ⟨rfl, p, h2, h4⟩⟩
     ·
      exact ⟨_, rfl, true, rfl, h1, .inl ⟨rfl, by rw [take_at hyk]; exact h2⟩⟩
     ·
      exact ⟨_, rfl, false, rfl, h1, .inr ⟨rfl, _, by rw [CT.nodes_split d hyk]; exact List.prefix_append_right_inj _ |>.2 (h2.trans (List.prefix_append _ _)), h4⟩⟩
   rintro _ w13 a ⟨b25, rfl, hm25, h25⟩ hF
   have shm25 := hm25.size
   have hB := hB.trans (hm25.below (by omega))
   have hM := hM.trans hm25
   refine hF.v (x_not rfl) fun a hF => ?_
   refine s_end (hK11 _ _ ?_)
   refine wp_ifb hF rfl (fun hc26 => ?_) (fun hc26 => ?_)
   ·
    obtain ⟨rfl, p25, hp25, h25x⟩ : b25 = false ∧ ∃ p, p <+: c.nodes d ∧ Jx p _ := by rcases h25 with ⟨rfl, _⟩ | h; (· cases hc26); exact h
    refine wp_rs fun K12 hK12 => ?_
    refine hF.v (x_assign rfl) fun a hF => ?_
    refine s_end (hK12 _ _ ?_)
    refine wp_ret (inb_ret (then_ret (then_ret (inb_ret (then_ret (res_slot hF rfl rfl ⟨false, rfl, hM, .inr ⟨rfl, p25, hp25, h25x⟩⟩))))))
   ·
    obtain ⟨rfl, hJ⟩ : b25 = true ∧ J ((d, c) :: (c.kids.take (i + 1)).flatMap (·.nodes (d + 1))) _ := by rcases h25 with h | ⟨rfl, _⟩; (· exact h); cases hc26
    refine wp_skip (hK9 _ _ ?_)
    refine wp_region_lit ?_
    refine hF.v (x_add (by omega) (by omega) rfl rfl) fun a hF => ?_
    refine hF.v (x_move rfl) fun a hF => ?_
    refine s_end (hK' _ _ (by omega) ⟨hJ, hM, hB, hF.sub _ rfl⟩)
  ·
   obtain rfl : i = c.kids.length := by omega
   rw [List.take_length] at hJ
   refine wp_exit (hK5 _ _ ?_)
   refine wp_rs fun K13 hK13 => ?_
   refine hF.v (x_assign rfl) fun a hF => ?_
   refine s_end (hK13 _ _ ?_)
   refine wp_ret (res_slot hF rfl rfl ⟨true, rfl, hM, .inl ⟨rfl, by rw [c.nodes_eq]; exact hJ⟩⟩)

set_option maxRecDepth 100000 in
set_option maxHeartbeats 1600000 in
theorem nodes107 (w0 : World) (c : CT) (x : C8) (b1 hi : Nat) (hx : RC w0 (fun k => k < w0.heap.size) c x) (h1 : w0.heap.size ≤ b1) (h2 : b1 < hi) (w1 : World) (m1 : Blk w1 b1 27 (tc x)) (h3 : w0.heap.size ≤ hi) (J Jx : List (Int × CT) → World → Prop) (L : Nat)
  (hJs : ∀ p W W', J p W → Below hi W W' → J p W') (hJxs : ∀ p W W', Jx p W → Below hi W W' → Jx p W') (hJb : ∀ p e W, J (p ++ [e]) W → e.1 ≤ 4611686018427387904)
  (hY : ∀ p e rest W vs, c.nodes 1 = p ++ e :: rest → encN w0 e vs → J p W → hi ≤ W.heap.size → Below w0.heap.size w0 W → YieldAt Fence.wide 0 Try.prog L vs.toArray W fun en W' => Mid w0.heap.size hi W W' ∧ ((en = .returned (.bool true) ∧ J (p ++ [e]) W') ∨ (en = .returned (.bool false) ∧ Jx (p ++ [e]) W')))
  (W : World) (hJ : J [] W) (hWs : hi ≤ W.heap.size) (hB : Below w0.heap.size w0 W) (hb : Blk W b1 27 (tc x)) :
  Calls Try.prog 130 #[.func (.yield L) #[] #[], .pointer (some ⟨b1, 0, none⟩)] W fun en W' => (∃ v, en = .returned v) ∧ Mid w0.heap.size hi W W' ∧ (J (c.nodes 1) W' ∨ ∃ p, p <+: c.nodes 1 ∧ Jx p W') := by
 refine calls_fs 6 [(0, .func (.yield L) #[] #[]), (1, .pointer (some ⟨b1, 0, none⟩))] Try.func130 rfl rfl rfl rfl rfl fun a hF => ?_
 refine wp_region_lit ?_
 refine hF.v (x_ldW wide27 hb rfl rfl) fun a hF => ?_
 refine hF.v (x_move rfl) fun a hF => ?_
 refine s_call (R := fun v W' => ∃ b, v = .bool b ∧ Mid w0.heap.size hi W W' ∧ ((b = true ∧ J (c.nodes 1) W') ∨ (b = false ∧ ∃ p, p <+: c.nodes 1 ∧ Jx p W'))) hF [_, _, _] E131 rfl (by decide) ((walk108 w0 (c.size + 1) c x 1 (by omega) hx (by decide) (by decide) hi L J Jx h3 hJs hJxs hJb hY W hJ hWs hB).mono fun en W' ⟨b, h, h'⟩ => ⟨_, h, b, rfl, h'⟩) ?_
 rintro _ w9 a ⟨b9, rfl, hm9, h9⟩ hF
 refine s_end ?_
 show bodyPost Try.prog Try.f130 (fun en W' => (∃ v, en = .returned v) ∧ Mid w0.heap.size hi W W' ∧ (J (c.nodes 1) W' ∨ ∃ p, p <+: c.nodes 1 ∧ Jx p W')) .normal a w9
 refine post_normal (res_none hF rfl ⟨⟨_, rfl⟩, hm9, ?_⟩)
 rcases h9 with ⟨_, h⟩ | ⟨_, h⟩
 ·
  exact .inl h
 ·
  exact .inr h
end Go.Proofs.Ytbhhbfdoadecgaa

namespace Go.Proofs.Ytbhhbfdoadecgaa
open Go.RowKit Go.Shelf
set_option linter.unusedVariables false
set_option linter.unusedSimpArgs false

/-- The block of what is deferred. -/
def Dfr (w : World) (b : Nat) : Prop := w.heap[b]? = some (.deferred (some []))
section
variable {w w' : World} {b : Nat}
theorem Dfr.lt (h : Dfr w b) : b < w.heap.size := (Array.getElem?_eq_some_iff.1 h).1
theorem Dfr.old (h : Dfr w b) (hB : Below w.heap.size w w') : Dfr w' b := (hB.block b h.lt).trans h
theorem Dfr.only {k : Nat} (h : Dfr w b) (ho : Only k w w') (hb : b ≠ k) : Dfr w' b := (ho.block b hb).trans h
theorem Dfr.k2 {a c : Nat} (h : Dfr w b) (hK : Ktw a c w w') (hb : b ≠ a ∧ b ≠ c) : Dfr w' b := (hK.block b h.lt hb).trans h
theorem Dfr.mid {lo hi : Nat} (h : Dfr w b) (hM : Mid lo hi w w') (hb : b < lo ∨ hi ≤ b) : Dfr w' b := (hM.block b h.lt hb).trans h
end
/-- It is not too great. -/
def CT.ok (c : CT) : Prop := c.size ≤ 20000 ∧ c.dep ≤ 2000
instance (c : CT) : Decidable c.ok := inferInstanceAs (Decidable (_ ∧ _))
def CT.mN (c : CT) : Nat := if c.ok then c.size else 0
def CT.mD (c : CT) : Nat := if c.ok then c.dep else 0
def mxd (p : List (Int × CT)) : Int := p.foldl (fun d e => max d e.1) 0
theorem mxd_app (p : List (Int × CT)) (e : Int × CT) : mxd (p ++ [e]) = max (mxd p) e.1 := by simp [mxd]
mutual
theorem CT.nodes_len : ∀ (c : CT) (d : Int), (c.nodes d).length = c.size
 | .two k a b m, d => by simp [CT.nodes, CT.size, a.nodes_len, b.nodes_len]
 | .lt a b c m, d => by simp [CT.nodes, CT.size, a.nodes_len, b.nodes_len, c.nodes_len]; omega
 | .var .., d => rfl
 | .sort .., d => rfl
 | .cst .., d => rfl
 | .odd .., d => rfl
end
theorem CT.nodes_dep : ∀ (c : CT) (d : Int), (∀ e ∈ c.nodes d, d ≤ e.1 ∧ e.1 ≤ d + c.dep - 1) ∧ ∃ e ∈ c.nodes d, e.1 = d + c.dep - 1
 | .two k a b m, d => by
  obtain ⟨h1, e1, h2, h3⟩ := a.nodes_dep (d + 1)
  obtain ⟨h4, e2, h5, h6⟩ := b.nodes_dep (d + 1)
  have := a.dep_pos
  have := b.dep_pos
  refine ⟨?_, ?_⟩
  ·
   intro e he
   simp only [CT.nodes, List.mem_cons, List.mem_append] at he
   simp only [CT.dep]
   rcases he with rfl | he | he
   ·
    simp only; omega
   ·
    have := h1 e he; omega
   ·
    have := h4 e he; omega
  ·
   simp only [CT.nodes, List.mem_cons, List.mem_append, CT.dep]
   rcases Nat.le_total a.dep b.dep with h | h
   ·
    exact ⟨e2, .inr (.inr h5), by omega⟩
   ·
    exact ⟨e1, .inr (.inl h2), by omega⟩
 | .lt a b c m, d => by
  obtain ⟨h1, e1, h2, h3⟩ := a.nodes_dep (d + 1)
  obtain ⟨h4, e2, h5, h6⟩ := b.nodes_dep (d + 1)
  obtain ⟨h7, e3, h8, h9⟩ := c.nodes_dep (d + 1)
  have := a.dep_pos
  have := b.dep_pos
  have := c.dep_pos
  refine ⟨?_, ?_⟩
  ·
   intro e he
   simp only [CT.nodes, List.mem_cons, List.mem_append] at he
   simp only [CT.dep]
   rcases he with rfl | he | he | he
   ·
    simp only; omega
   ·
    have := h1 e he; omega
   ·
    have := h4 e he; omega
   ·
    have := h7 e he; omega
  ·
   simp only [CT.nodes, List.mem_cons, List.mem_append, CT.dep]
   rcases (show (b.dep ≤ a.dep ∧ c.dep ≤ a.dep) ∨ (a.dep ≤ b.dep ∧ c.dep ≤ b.dep) ∨ (a.dep ≤ c.dep ∧ b.dep ≤ c.dep) by omega) with h | h | h
   ·
    exact ⟨e1, .inr (.inl h2), by omega⟩
   ·
    exact ⟨e2, .inr (.inr (.inl h5)), by omega⟩
   ·
    exact ⟨e3, .inr (.inr (.inr h8)), by omega⟩
 | .var n m, d => ⟨by simp [CT.nodes, CT.dep], _, List.mem_singleton.2 rfl, by simp [CT.dep]⟩
 | .sort n m, d => ⟨by simp [CT.nodes, CT.dep], _, List.mem_singleton.2 rfl, by simp [CT.dep]⟩
 | .cst s n m, d => ⟨by simp [CT.nodes, CT.dep], _, List.mem_singleton.2 rfl, by simp [CT.dep]⟩
 | .odd n m, d => ⟨by simp [CT.nodes, CT.dep], _, List.mem_singleton.2 rfl, by simp [CT.dep]⟩
theorem mxd_ge : ∀ (p : List (Int × CT)), 0 ≤ mxd p ∧ ∀ e ∈ p, e.1 ≤ mxd p := by
 intro p
 suffices H : ∀ (p : List (Int × CT)) (z : Int), z ≤ p.foldl (fun d e => max d e.1) z ∧ ∀ e ∈ p, e.1 ≤ p.foldl (fun d e => max d e.1) z from H p 0
 intro p
 induction p with
 | nil => intro z; simp
 | cons u p ih =>
  intro z
  simp only [List.foldl_cons]
  obtain ⟨h1, h2⟩ := ih (max z u.1)
  refine ⟨by omega, ?_⟩
  intro e he
  rcases List.mem_cons.1 he with rfl | he
  ·
   omega
  ·
   exact h2 e he
theorem mxd_le : ∀ (p : List (Int × CT)) (M : Int), 0 ≤ M → (∀ e ∈ p, e.1 ≤ M) → mxd p ≤ M := by
 intro p M
 suffices H : ∀ (p : List (Int × CT)) (z : Int), z ≤ M → (∀ e ∈ p, e.1 ≤ M) → p.foldl (fun d e => max d e.1) z ≤ M from fun h0 h => H p 0 h0 h
 intro p
 induction p with
 | nil => intro z h _; exact h
 | cons u p ih =>
  intro z hz h
  simp only [List.foldl_cons]
  exact ih _ (by have := h u (by simp); omega) (fun e he => h e (by simp [he]))
theorem mxd_nodes (c : CT) : mxd (c.nodes 1) = c.dep := by
 obtain ⟨h1, e, h2, h3⟩ := c.nodes_dep 1
 have h4 := (mxd_ge (c.nodes 1)).2 e h2
 have h5 := mxd_le (c.nodes 1) c.dep (by omega) (fun e he => by have := (h1 e he).2; omega)
 omega
theorem prefix_ok {c : CT} {p : List (Int × CT)} (h : p <+: c.nodes 1) (hc : c.ok) : p.length ≤ 20000 ∧ mxd p ≤ 2000 := by
 obtain ⟨q, hq⟩ := h
 have h1 := congrArg List.length hq
 rw [c.nodes_len, List.length_append] at h1
 refine ⟨by have := hc.1; omega, mxd_le _ _ (by decide) fun e he => ?_⟩
 have h2 := ((c.nodes_dep 1).1 e (by rw [← hq]; exact List.mem_append_left _ he)).2
 have := hc.2
 omega
/-- The nodes, handed on. -/
theorem hands107 (w0 : World) (c : CT) (x : C8) (b1 hi : Nat) (hx : RC w0 (fun k => k < w0.heap.size) c x) (h1 : w0.heap.size ≤ b1) (h2 : b1 < hi) (w1 : World) (m1 : Blk w1 b1 27 (tc x)) (h3 : w0.heap.size ≤ hi) : Hands Try.prog 130 #[.pointer (some ⟨b1, 0, none⟩)] w0.heap.size hi w0 (fun W => Blk W b1 27 (tc x)) (fun e => e.1 ≤ 4611686018427387904) (encN w0) (c.nodes 1) :=
 fun L J Jx hJs hJxs hJb hY W hS hJ hWs hB => nodes107 w0 c x b1 hi hx h1 h2 w1 m1 h3 J Jx L hJs hJxs hJb hY W hJ hWs hB hS

set_option maxRecDepth 100000 in
set_option maxHeartbeats 1600000 in
theorem nodes71 (x : C8) (w0 : World) (h1x : ∀ u ∈ tc x, u.oneCell' = true) : Calls Try.prog 92 #[tv x] w0 fun e w' => ∃ v, e = .returned v ∧ (∃ b1, v = .func (.func 130) #[] #[.pointer (some ⟨b1, 0, none⟩)] ∧ w0.heap.size ≤ b1 ∧ Blk w' b1 27 (tc x)) ∧ Below w0.heap.size w0 w' := by
 have hB := Below.refl w0.heap.size w0
 have sB := hB.size
 refine calls_fs 4 [(0, tv x)] Try.func92 rfl rfl rfl rfl rfl fun a hF => ?_
 refine wp_rs fun K1 hK1 => ?_
 refine s_box (tc x) hF (by decide) rfl rfl fun w2 b1 a eb1 m1 B3 zb1 hF => ?_
 have sB3 := B3.size
 have hB := bt hB B3
 refine hF.v (x_assign rfl) fun a hF => ?_
 refine s_end (hK1 _ _ ?_)
 refine wp_rs fun K2 hK2 => ?_
 refine hF.v (x_mkf [_] rfl) fun a hF => ?_
 refine hF.v (x_assign rfl) fun a hF => ?_
 refine s_end (hK2 _ _ ?_)
 refine wp_ret (res_slot hF rfl rfl ⟨_, rfl, ⟨b1, rfl, by omega, m1⟩, hB⟩)

set_option maxRecDepth 100000 in
set_option maxHeartbeats 1600000 in
theorem measure62 (c : CT) (x : C8) (w0 : World) (hx : RC w0 (fun k => k < w0.heap.size) c x) : Calls Try.prog 48 #[tv x] w0 fun e w' => e = .returned (.tuple #[.agg [.int .i64 (c.mN : Int), .int .i64 (c.mD : Int)].toArray, .bool (decide c.ok)]) ∧ Below w0.heap.size w0 w' := by
 have hB := Below.refl w0.heap.size w0
 have sB := hB.size
 refine calls_fsM 24 [(0, tv x)] Try.func48 rfl rfl rfl rfl rfl fun a hF => ?_
 refine wp_rs fun K1 hK1 => ?_
 refine s_box (tc x) hF (by decide) rfl rfl fun w2 b1 a eb1 m1 B3 zb1 hF => ?_
 have sB3 := B3.size
 have hB := bt hB B3
 refine s_alloc hF (by decide) zero70 fun w4 b2 a eb2 m2 B5 zb2 hF => ?_
 have sB5 := B5.size
 have hB := bt hB B5
 have m1 := m1.old B5
 refine s_alloc1 hF (by decide) zero4 rfl fun w6 b3 a eb3 m3 B7 zb3 hF => ?_
 have sB7 := B7.size
 have hB := bt hB B7
 have m1 := m1.old B7
 have m2 := m2.old B7
 refine s_end (hK1 _ _ ?_)
 refine wp_rs fun K2 hK2 => ?_
 refine s_alloc hF (by decide) zero70 fun w8 b4 a eb4 m4 B9 zb4 hF => ?_
 have sB9 := B9.size
 have hB := bt hB B9
 have m1 := m1.old B9
 have m2 := m2.old B9
 have m3 := m3.old B9
 refine s_end (hK2 _ _ ?_)
 refine wp_seq_k fun K3 hK3 => ?_
 refine wp_rs fun K4 hK4 => ?_
 refine hF.v (x_ldW wide27 m1 rfl rfl) fun a hF => ?_
 refine s_callR (R := fun v w' => ∃ b1, v = .func (.func 130) #[] #[.pointer (some ⟨b1, 0, none⟩)] ∧ w8.heap.size ≤ b1 ∧ Blk w' b1 27 (tc x)) [_] hF E92 rfl (by decide) (nodes71 x w8 hx.one) ?_
 rintro v7 w10 a ⟨bx, hve, hbx, mx⟩ B11 hF
 have sB11 := B11.size
 have hB := bt hB B11
 have m2 := m2.old B11
 have m3 := m3.old B11
 have m4 := m4.old B11
 subst hve
 refine s_end (hK4 _ _ ?_)
 refine wp_block ?_
 have sD := hB.size
 refine wp_range (w0 := w0) hF rfl E130 _ rfl hB (hands107 w0 c x bx _ hx (by omega) (by have := mx.lt; omega) _ mx (by omega)) (fun W' hW' => mx.old hW') (by decide) (fun e vs ⟨y, h, _⟩ => by rw [h]; rfl)
  (fun p W => p.length ≤ 20000 ∧ mxd p ≤ 2000 ∧ Blk W b4 72 [.int .i64 (p.length : Int), .int .i64 (mxd p)] ∧ Blk W b2 72 [.int .i64 0, .int .i64 0] ∧ Blk W b3 4 [.bool false])
  (fun c' p W => c' = .ret ∧ ¬ (p.length ≤ 20000 ∧ mxd p ≤ 2000) ∧ Blk W b2 72 [.int .i64 0, .int .i64 0] ∧ Blk W b3 4 [.bool false])
  (fun p W W' ⟨h1, h2, h3, h4, h5⟩ hW => ⟨h1, h2, h3.below hW (by omega), h4.below hW (by omega), h5.below hW (by omega)⟩) (fun c p W W' ⟨h1, h2, h4, h5⟩ hW => ⟨h1, h2, h4.below hW (by omega), h5.below hW (by omega)⟩) (fun p e W ⟨h1, h2, _⟩ => by have := mxd_app p e; omega) (⟨by simp, by simp [mxd], by simpa [mxd] using m4, m2, m3⟩) ?_ ?_ ?_
 ·
  rintro L p e1 rest W a vs hL hq hv hI hWs hBr hF K hK
  obtain ⟨hl, hd, m4, m2, m3⟩ := hI
  obtain ⟨y, rfl, hy⟩ := hv
  have sBr := hBr.size
  have hlW : w10.heap.size + 1 < W.heap.size := by omega
  refine wpI_r (by repeat' first | exact rndPost.calm | exact false.calm | refine Calm.then ?_ _ | refine Calm.block ?_ _) rfl ?_
  refine hF.v (x_assign rfl) fun a hF => ?_
  refine s_end ?_
  refine hK _ _ (Mid.refl _ _ _) fun W3 hO3 => ?_
  have hM := Mid.refl w0.heap.size w10.heap.size W3
  have sO := hO3.size
  have m4 := m4.only hO3 (by omega)
  have m2 := m2.only hO3 (by omega)
  have m3 := m3.only hO3 (by omega)
  obtain ⟨hbd, _⟩ := (c.nodes_dep 1).1 e1 (by rw [hq]; simp)
  have hp0 := (mxd_ge p).1
  have hpl : (p ++ [e1]).length = p.length + 1 := by simp
  have hmx := mxd_app p e1
  refine wpIn_block ?_
  refine wpI_rs (by repeat' first | exact rndPost.calm | exact false.calm | refine Calm.then ?_ _ | refine Calm.block ?_ _) rfl fun K5 hK5 => ?_
  refine hF.v (x_fa0 fa70_0 rfl) fun a hF => ?_
  refine hF.v (x_load rfl (m_load flat3 (m4.cell (j := 0) rfl))) fun a hF => ?_
  refine hF.v (x_add (by omega) (by omega) rfl rfl) fun a hF => ?_
  refine hF.v (x_fa0 fa70_0 rfl) fun a hF => ?_
  refine s_put hF rfl rfl flat3 m4 (by first | (simp; done) | decide) rfl fun w12 m4 o13 => ?_
  have so13 := o13.size
  have m2 := m2.only o13 (by omega)
  have m3 := m3.only o13 (by omega)
  have hM := hM.only o13 (by omega)
  refine s_end (hK5 _ _ ?_)
  refine wpI_rs (by repeat' first | exact rndPost.calm | exact false.calm | refine Calm.then ?_ _ | refine Calm.block ?_ _) rfl fun K6 hK6 => ?_
  refine hF.v (x_fa0 fa70_1 rfl) fun a hF => ?_
  refine hF.v (x_load rfl (m_load flat3 (m4.cell (j := 1) rfl))) fun a hF => ?_
  refine hF.v (x_move rfl) fun a hF => ?_
  refine hF.v (x_imax rfl rfl) fun a hF => ?_
  refine hF.v (x_fa0 fa70_1 rfl) fun a hF => ?_
  refine s_put hF rfl rfl flat3 m4 (by first | (simp; done) | decide) rfl fun w14 m4 o15 => ?_
  have so15 := o15.size
  have m2 := m2.only o15 (by omega)
  have m3 := m3.only o15 (by omega)
  have hM := hM.only o15 (by omega)
  refine s_end (hK6 _ _ ?_)
  rcases (show (((p.length : Int) + 1 ≤ 20000 ∧ max (mxd p) e1.1 ≤ 2000) ∨ ¬ ((p.length : Int) + 1 ≤ 20000 ∧ max (mxd p) e1.1 ≤ 2000)) by omega) with hk | hk
  ·
   have hin := decide_eq_true hk
   refine wpI_rs (by repeat' first | exact rndPost.calm | exact false.calm | refine Calm.then ?_ _ | refine Calm.block ?_ _) rfl fun K8 hK8 => ?_
   refine hF.v (x_ldW wide70 m4 rfl rfl) fun a hF => ?_
   refine s_callB [_] hF E93 rfl (by decide) ((isIn105 _ _ _).mono fun en W' h => ⟨by rw [h.1, hin], h.2⟩) fun w20 a B20 hF => ?_
   have sB20 := B20.size
   have m4 := m4.old B20
   have m2 := m2.old B20
   have m3 := m3.old B20
   have hM := hM.old B20
   refine hF.v (x_not rfl) fun a hF => ?_
   refine s_end (hK8 _ _ ?_)
   refine wpI_if hF rfl ?_
   refine wpIn_skip ?_
   exact ⟨hM, by rw [hpl]; omega, by rw [hmx]; omega, by rw [hpl, hmx]; simpa using m4, m2, m3⟩
  ·
   have hin := decide_eq_false hk
   refine wpI_rs (by repeat' first | exact rndPost.calm | exact false.calm | refine Calm.then ?_ _ | refine Calm.block ?_ _) rfl fun K9 hK9 => ?_
   refine hF.v (x_ldW wide70 m4 rfl rfl) fun a hF => ?_
   refine s_callB [_] hF E93 rfl (by decide) ((isIn105 _ _ _).mono fun en W' h => ⟨by rw [h.1, hin], h.2⟩) fun w20 a B20 hF => ?_
   have sB20 := B20.size
   have m2 := m2.old B20
   have m3 := m3.old B20
   have hM := hM.old B20
   refine hF.v (x_not rfl) fun a hF => ?_
   refine s_end (hK9 _ _ ?_)
   refine wpI_if hF rfl ?_
   refine wpI_rs (by repeat' first | exact rndPost.calm | exact false.calm | refine Calm.then ?_ _ | refine Calm.block ?_ _) rfl fun K10 hK10 => ?_
   refine hF.v (x_build (vs := []) rfl (b70_ _)) fun a hF => ?_
   refine s_putW hF rfl rfl (size_wide wide70) m2 rfl (oneII _ _) fun w18 m2 o19 => ?_
   have so19 := o19.size
   have m3 := m3.only o19 (by omega)
   have hM := hM.only o19 (by omega)
   refine s_put hF rfl rfl flat4 m3 (by first | (simp; done) | decide) rfl fun w20 m3 o21 => ?_
   have so21 := o21.size
   have m2 := m2.only o21 (by omega)
   have hM := hM.only o21 (by omega)
   refine s_end (hK10 _ _ ?_)
   refine wpIn_ret ⟨hM, rfl, by rw [hpl, hmx]; omega, m2, m3⟩
 ·
  rintro a W hI hM hD hF
  obtain ⟨hl, hd, m4, m2, m3⟩ := hI
  have sM := hM.size
  have hB := hB.trans (hM.below (by omega))
  have hsz := c.nodes_len 1
  have hdp := mxd_nodes c
  have hok : c.ok := ⟨by omega, by omega⟩
  obtain ⟨bD, hbD⟩ : ∃ bD, bD = w10.heap.size := ⟨_, rfl⟩
  rw [← hbD] at hD hF
  have hD : Dfr W bD := hD
  rw [hsz, hdp] at m4
  refine hK3 _ _ ?_
  refine wp_rs fun K11 hK11 => ?_
  refine hF.v (x_ldW wide70 m4 rfl rfl) fun a hF => ?_
  refine s_putW hF rfl rfl (size_wide wide70) m2 rfl (oneII _ _) fun w24 m2 o25 => ?_
  have so25 := o25.size
  have hB := hB.trans (o25.below (by omega))
  have m3 := m3.only o25 (by omega)
  have hD := hD.only o25 (by omega)
  refine s_put hF rfl rfl flat4 m3 (by first | (simp; done) | decide) rfl fun w26 m3 o27 => ?_
  have so27 := o27.size
  have hB := hB.trans (o27.below (by omega))
  have m2 := m2.only o27 (by omega)
  have hD := hD.only o27 (by omega)
  refine s_end (hK11 _ _ ?_)
  refine wp_ret (resM hF hD fun w9 o9 => ⟨run_cell2 hF rfl rfl rfl (m_loadW (cs := [_, _]) wide70 (m2.only o9 (by omega))) (m_load flat4 ((m3.only o9 (by omega)).cell (j := 0) rfl)), by rw [decide_eq_true hok, show c.mN = c.size from if_pos hok, show c.mD = c.dep from if_pos hok], hB.trans (o9.below (by omega))⟩)
 ·
  rintro a c p W hp hI hM hD hF
  obtain ⟨rfl, hno, m2, m3⟩ := hI
  have hB := hB.trans (hM.below (by omega))
  have hok : ¬ c.ok := fun h => hno (prefix_ok hp h)
  refine wp_ret (inb_ret (then_ret (resM hF hD fun w9 o9 => ⟨run_cell2 hF rfl rfl rfl (m_loadW (cs := [_, _]) wide70 (m2.only o9 (by omega))) (m_load flat4 ((m3.only o9 (by omega)).cell (j := 0) rfl)), by rw [decide_eq_false hok, show c.mN = 0 from if_neg hok, show c.mD = 0 from if_neg hok]; rfl, hB.trans (o9.below (by omega))⟩)))
end Go.Proofs.Ytbhhbfdoadecgaa
