/- Bytes of levels: decl's putLevel and the reference's. -/
import Derived.Test.YtmkjhdiepkpdoaaTerm46
namespace Go.Proofs.Ytmkjhdiepkpdoaa
set_option maxRecDepth 100000
set_option maxHeartbeats 1600000
open Go.RowKit Go.Shelf
set_option linter.unusedVariables false
set_option linter.unusedSimpArgs false
def SL.kdN : SL → Nat
 | .num _ => 1
 | .var _ => 2
 | .succ _ _ => 3
 | .mx _ _ => 4
def SL.nm : SL → Nat
 | .num n => n
 | .var n => n
 | .succ n _ => n
 | .mx _ _ => 0
/-- The bytes of a level. -/
def encS : SL → List UInt8
 | .num n => 1 :: dig n
 | .var n => 2 :: dig n
 | .succ n a => 3 :: (dig n ++ encS a)
 | .mx a b => 4 :: (encS a ++ encS b)
def SL.nbs (s : SL) : List UInt8 := if s.kdN = 4 then [] else dig s.nm
theorem encS_eq (s : SL) : encS s = UInt8.ofNat s.kdN :: (s.nbs ++ s.kids.flatMap encS) := by
 cases s <;> simp [encS, SL.kdN, SL.nbs, SL.nm, SL.kids]
theorem SL.kid_size {s k : SL} {i : Nat} (h : s.kids[i]? = some k) : k.size < s.size := by
 cases s with
 | succ n a => rcases i with _ | i <;> simp [SL.kids] at h; subst h; simp [SL.size]
 | mx a b =>
  rcases i with _ | _ | i <;> simp [SL.kids] at h
  ·
   subst h; simp [SL.size]; omega
  ·
   subst h; simp [SL.size]; omega
 | _ => simp [SL.kids] at h
theorem SL.nums_kid {t n : Nat} {s k : SL} {i : Nat} (hn : s.nums t n) (h : s.kids[i]? = some k) : k.nums t n := by
 cases s with
 | succ m a => rcases i with _ | i <;> simp [SL.kids] at h; subst h; exact hn.2.2
 | mx a b =>
  rcases i with _ | _ | i <;> simp [SL.kids] at h
  ·
   subst h; exact hn.1
  ·
   subst h; exact hn.2
 | _ => simp [SL.kids] at h
theorem SL.nm_lt {s : SL} (h : s.nums 1099511627776 1001) : s.nm < 9223372036854775807 := by
 cases s <;> simp only [SL.nums, SL.nm] at * <;> omega
theorem SL.kd_le (s : SL) : 1 ≤ s.kdN ∧ s.kdN ≤ 4 := by cases s <;> simp [SL.kdN]
theorem flat_snoc {α : Type} {f : α → List UInt8} {ks : List α} {i : Nat} {k : α} (h : ks[i]? = some k) : (ks.take (i + 1)).flatMap f = (ks.take i).flatMap f ++ f k := by
 rw [List.take_add_one, h]; simp
theorem flat_le {α : Type} {f : α → List UInt8} {ks : List α} {i : Nat} {k : α} (h : ks[i]? = some k) : ((ks.take i).flatMap f).length + (f k).length ≤ (ks.flatMap f).length := by
 have h1 : ks.flatMap f = (ks.take (i + 1)).flatMap f ++ (ks.drop (i + 1)).flatMap f := by rw [← List.flatMap_append, List.take_append_drop]
 rw [h1, flat_snoc h]; simp
theorem RSn.list {W : World} {A : Nat → Prop} : ∀ {s : SL} {x : C3}, RSn W A s x → x.1 = (s.kdN : Int) ∧ (s.kdN ≠ 4 → x.2.1 = (s.nm : Int)) ∧ ∃ ys : List C3, Rn W A x.2.2 3 ys.length (ys.flatMap lc) ∧ ys.length = s.kids.length ∧ ∀ (i : Nat) y k, ys[i]? = some y → s.kids[i]? = some k → RSn W A k y
  | .num n, x, h => ⟨h.1, fun _ => h.2.1, [], ⟨h.2.2, fun h => by simp at h⟩, rfl, fun i y k h => by simp at h⟩
  | .var n, x, h => ⟨h.1, fun _ => h.2.1, [], ⟨h.2.2, fun h => by simp at h⟩, rfl, fun i y k h => by simp at h⟩
  | .succ n a, x, ⟨h1, h2, y, h3, h4, h5⟩ => ⟨h1, fun _ => h2, [y], ⟨by simpa using h3, fun _ => h4⟩, rfl, fun i z k e1 e2 => by
      rcases i with _ | i <;> simp [SL.kids] at e1 e2
      subst e1 e2; exact h5⟩
  | .mx a b, x, ⟨h1, y, z, h3, h4, h5, h6⟩ => ⟨h1, fun h => absurd rfl h, [y, z], ⟨by simpa using h3, fun _ => h4⟩, rfl, fun i u k e1 e2 => by
      rcases i with _ | _ | i <;> simp [SL.kids] at e1 e2
      · subst e1 e2; exact h5
      · subst e1 e2; exact h6⟩
theorem RSn.one {W : World} {A : Nat → Prop} {s : SL} {x : C3} (h : RSn W A s x) : x.2.2.oneCell' = true := by
 obtain ⟨_, _, ys, h, _⟩ := h.list
 exact h.1.one
theorem RSn.rows {W : World} {A : Nat → Prop} {s : SL} {x : C3} (h : RSn W A s x) : x.1 = (s.kdN : Int) ∧ (s.kdN ≠ 4 → x.2.1 = (s.nm : Int)) ∧ (∃ a c, x.2.2 = .slice a s.kids.length c) ∧ ∀ i, i < s.kids.length →
    ∃ b off c y k, x.2.2 = .slice (some ⟨b, off, none⟩) s.kids.length c ∧ s.kids[i]? = some k ∧ RSn W A k y ∧ A b ∧ b < W.heap.size ∧ ∀ W' : World, W'.heap[b]? = W.heap[b]? → ∀ j u, (lc y)[j]? = some u → W'.cell? ((⟨b, off + i * 3, none⟩ : Addr).add j) = some u := by
  obtain ⟨h1, h2, xs, h3, h4, h5⟩ := h.list
  obtain ⟨a, c, h6, _⟩ := h3.1.form
  refine ⟨h1, h2, ⟨a, c, by rw [h6, h4]⟩, fun i hi => ?_⟩
  obtain ⟨b, off, c, hv, hb⟩ := h3.1.some (by omega)
  have hE := h3.2 (by omega) b (by rw [hv]; rfl)
  have h31 := h3.1
  rw [hv] at h31
  refine ⟨b, off, c, xs[i]'(by omega), s.kids[i], by rw [hv, h4], List.getElem?_eq_getElem hi, h5 i _ _ (List.getElem?_eq_getElem (by omega)) (List.getElem?_eq_getElem hi), hE, hb, fun W' hB j u hj => ?_⟩
  rw [addr_addn, Nat.add_assoc]
  exact (World.cell?_of_block (w := W) (a := ⟨b, off + (i * 3 + j), none⟩) hB).trans (h31.cell (fm3_get xs i j _ u (List.getElem?_eq_getElem (by omega)) hj))
theorem x_i2b {P : Program} {n : Nat} {l : List (Nat × Value)} {w : World} {s d : TypeId} {ds : TypeDesc} {m : Nat} {x : Operand} (hs : P.underlying s = some ds) (hd : P.underlying d = some (.int .u8)) (hx : ov l x = some (.int .i64 (m : Int))) : Runs P n l w (.convert s d x) (encB (UInt8.ofNat m)) :=
 x_conv hx (by
  unfold encB
  rw [run_conv_int hs hd, nat8])
theorem putLevel328 : ∀ (N : Nat) (s : SL) (x : C3) (base o : Nat) (v : Value) (bs : List UInt8) (w0 : World) (A : Nat → Prop), s.size < N → RSn w0 A s x → s.nums 1099511627776 1001 → (∀ k, A k → k ≠ o ∧ k < w0.heap.size) →
    w0.ownsRow base 5 1 v bs.length (bs.map encB) → (∀ j, v.ownBlock = some j → j = o) → o < w0.heap.size → base ≤ w0.heap.size → bs.length + (encS s).length + 60 ≤ 140737488355328 → Calls Try.prog 141 #[v, lv x] w0 (PutsY 5 base o w0 (bs ++ encS s)) := by
  intro N
  induction N with
  | zero => intro s x base o v bs w0 A h; omega
  | succ N ih =>
  intro s x base o v bs w0 A hN hx hnu hA hO hat ho hb0 hlen
  have h1x := hx.one
  obtain ⟨xk, xn, xv⟩ := x
  obtain ⟨hk, hnm, ⟨av, cv, hxv⟩, hrows⟩ := hx.rows
  simp only at hk hnm hxv hrows h1x
  subst hk hxv
  have hkl := s.kids_le
  have hkd := s.kd_le
  have hnl := SL.nm_lt hnu
  have hes := encS_eq s
  rw [hes] at hlen
  have hdl := dig_len 9 s.nm (by omega)
  have hAo : ∀ k, A k → k ≠ o ∧ k ≠ o := fun k h => ⟨(hA k h).1, (hA k h).1⟩
  simp only [List.length_cons, List.length_append] at hlen
  have hK := Ktw.refl o o w0
  have sK := hK.size
  refine calls_fs 32 [(0, v), (1, lv ((s.kdN : Int), xn, .slice av s.kids.length cv))] Try.func141 rfl rfl rfl rfl rfl fun a F => ?_
  refine wp_rs fun _ K1 => ?_
  refine s_box ([.int .i64 (s.kdN : Int), .int .i64 xn, .slice av s.kids.length cv]) F (by decide) rfl rfl fun w2 b3 a eb3 m3 B3 zb3 F => ?_
  have sB3 := B3.size
  have hK := hK.below B3
  have hO := own_below hO B3
  refine F.sg rfl fun a F => ?_
  refine s_end (K1 _ _ ?_)
  refine wp_rs fun _ K2 => F.mv rfl fun a F => F.vl (x_fa0 fa24_0 rfl) fun a F => F.ld m3 flat3 rfl rfl fun a F => F.vl (x_i2b (m := s.kdN) Try.underlying3 Try.underlying5 rfl) fun a F => ?_
  refine s_litG [encB (UInt8.ofNat s.kdN)] el503 F (by decide) rfl (by simp [Value.cells, encB]) rfl (by decide) (by decide) fun w4 bl a ebl ml B5 zbl F => ?_
  have sB5 := B5.size
  have hK := hK.below B5
  have hO := own_below hO B5
  have m3 := m3.old B5
  have ml : Blk w4 bl 5 ([UInt8.ofNat s.kdN].map encB) := ml
  have hlY : (bs).length + ([UInt8.ofNat s.kdN]).length ≤ 140737488355328 := by simp only [List.length_append, List.length_cons, List.length_nil]; omega
  refine s_appP (o := o) (p := ([UInt8.ofNat s.kdN]).length) (ys := ([UInt8.ofNat s.kdN]).map encB) el503 F (by decide) rfl rfl hO (Rd.blk ml rfl) (oneY _) hat (by omega) (by omega) (by unfold maxLen; omega) (by omega) fun v2 w6 a o2 hOn hatn hon k7 F => ?_
  clear hO hat
  have hat := hatn
  have hO : w6.ownsRow base 5 1 v2 (bs ++ ([UInt8.ofNat s.kdN])).length ((bs ++ ([UInt8.ofNat s.kdN])).map encB) := by rw [List.length_append, List.map_append]; exact hOn
  clear hOn hatn
  have sk7 := k7.size
  have hK := hK.trans k7 (by omega)
  have m3 := m3.k2 k7 (by omega)
  refine F.sg rfl fun a F => ?_
  refine s_end (K2 _ _ ?_)
  refine wp_seq_k fun _ K3 => ?_
  rcases (show s.kdN = 4 ∨ s.kdN ≠ 4 by omega) with hk4 | hk4
  · have hnb : s.nbs = [] := if_pos hk4
    have VVe : v2 = v2 := rfl
    refine wp_rs fun _ K5 => F.vl (x_fa0 fa24_0 rfl) fun a F => F.ld m3 flat3 rfl rfl fun a F => ?_
    refine s_callS [_] F E162 rfl (by decide) ((hasNumber332 _ w6).mono fun e w' h => ⟨by rw [h.1, decide_eq_false (by omega)], h.2⟩) fun a F => ?_
    refine s_end (K5 _ _ ?_)
    refine wp_if F rfl ?_
    refine wp_skip (K3 _ _ ?_)
    refine wp_seq_k fun _ K6 => ?_
    refine wp_rs fun _ K7 => F.vl (x_fa0 fa24_2 rfl) fun a F => F.ld m3 flat22 rfl rfl fun a F => F.vl (x_len Try.underlying22 rfl) fun a F => F.mv rfl fun a F => ?_
    refine s_end (K7 _ _ ?_)
    refine wp_block ?_
    refine wp_up s.kids.length (fun i a w => ∃ v' o', w.ownsRow base 5 1 v' (bs ++ [UInt8.ofNat s.kdN] ++ s.nbs ++ (s.kids.take i).flatMap encS).length ((bs ++ [UInt8.ofNat s.kdN] ++ s.nbs ++ (s.kids.take i).flatMap encS).map encB) ∧ (∀ j, v'.ownBlock = some j → j = o') ∧ (((o' = o ∨ w0.heap.size ≤ o') ∧ b3 ≠ o') ∧ o' < w.heap.size) ∧ Blk w b3 24 [.int .i64 (s.kdN : Int), .int .i64 xn, .slice av s.kids.length cv] ∧ Ktw o o w0 w ∧ Fs 32 a [(0, v'), (3, .pointer (some ⟨b3, 0, none⟩)), (21, .slice av s.kids.length cv), (22, .int .i64 (s.kids.length : Int)), (23, .int .i64 (i : Int))]) ⟨v2, o2, by simpa [hnb] using hO, hat, by omega, m3, hK, F.sub _ rfl⟩ ?_
    have hb3w : w0.heap.size ≤ b3 := by omega
    clear hO hat hK m3
    repeat clear F
    rintro i a w hi ⟨v1, o1, hO, hat, ho1, m3, hK, F⟩ K' hK'
    have sK := hK.size
    have hm3l := m3.lt
    refine wp_rs fun _ K8 => F.vl (x_lss (b := decide (i < s.kids.length)) (decide_eq_decide.2 (by omega)) rfl rfl) fun a F => ?_
    refine s_end (K8 _ _ ?_)
    refine wp_seq_k fun _ K9 => ?_
    refine wp_iff F rfl (fun hc24 => ?_) (fun hc24 => ?_)
    · obtain ⟨b9, off9, c9, y, kd, hve, hki, hry, hAb, hbl, hrow⟩ := hrows i (by omega)
      cases hve
      have hks := SL.kid_size hki
      have hkn := SL.nums_kid hnu hki
      have h1y := hry.one
      have hfs := flat_snoc (f := encS) hki
      have hfl := flat_le (f := encS) hki
      refine wp_skip (K9 _ _ ?_)
      refine wp_seq_k fun _ K10 => ?_
      refine wp_block ?_
      refine wp_rs fun _ K11 => F.vl (x_ixa rfl rfl (m_ixsK i Try.underlying22 el22.size rfl (by omega))) fun a F => F.vl (x_ldA wide24 (hrow _ (hK.block _ hbl (hAo _ hAb))) rfl rfl) fun a F => ?_
      refine s_alloc F (by decide) zero24 fun w8 b6 a eb6 m6 B9 zb6 F => ?_
      have sB9 := B9.size
      have hK := hK.below B9
      have m3 := m3.old B9
      have hO := own_below hO B9
      refine s_putW F rfl rfl (size_wide wide24) m6 rfl (one_lc h1y) fun w12 m6 o13 => ?_
      have so13 := o13.size
      have hK := hK.only o13 (by omega)
      have m3 := m3.only o13 (by omega)
      have hO := own_only hO o13 (fun e => by have := hat _ e; omega)
      refine s_end (K11 _ _ ?_)
      refine wp_region_lit ?_
      refine F.mv rfl fun a F => F.vl (x_ldW wide24 m6 rfl rfl) fun a F => ?_
      refine s_call (R := fun u w' => (∃ o', w'.ownsRow base 5 1 u ((bs ++ [UInt8.ofNat s.kdN] ++ s.nbs ++ (s.kids.take i).flatMap encS) ++ encS kd).length (((bs ++ [UInt8.ofNat s.kdN] ++ s.nbs ++ (s.kids.take i).flatMap encS) ++ encS kd).map encB) ∧ (∀ j, u.ownBlock = some j → j = o') ∧ ((o' = o1 ∨ w12.heap.size ≤ o') ∧ o' < w'.heap.size)) ∧ Ktw o1 o1 w12 w') F [_, _] E141 rfl (by decide) (ih kd y base o1 v1 _ w12 A (by omega) (hry.keep hK.size (fun k ha hk => hK.block k hk (hAo k ha))) hkn (fun k hk => by have := hA k hk; omega) hO hat (by omega) (by omega) (by simp only [List.length_append, List.length_cons, List.length_nil]; omega)) ?_
      rintro v5 w14 a ⟨⟨o5, hOn, hatn, hon⟩, k15⟩ F
      clear hO hat
      have hO := hOn
      have hat := hatn
      clear hOn hatn
      have sk15 := k15.size
      have hK := hK.trans k15 (by omega)
      have m3 := m3.k2 k15 (by omega)
      refine F.sg rfl fun a F => ?_
      refine s_end (K10 _ _ ?_)
      refine wp_region_lit ?_
      refine F.vl (x_addn (i + 1) (by omega) (by omega) rfl rfl) fun a F => F.mv rfl fun a F => ?_
      refine s_end (hK' _ _ (by omega) ⟨v5, o5, by rw [hfs, ← List.append_assoc]; exact hO, hat, by omega, m3, hK, F.sub _ rfl⟩)
    · obtain rfl : i = s.kids.length := by omega
      rw [List.take_of_length_le (Nat.le_refl _)] at hO
      refine wp_exit (K6 _ _ ?_)
      refine wp_rs fun _ K12 => F.mv rfl fun a F => F.sg rfl fun a F => ?_
      refine s_end (K12 _ _ ?_)
      refine wp_ret (res_slot F rfl rfl ⟨v1, rfl, ⟨o1, ?_, hat, by omega⟩, hK⟩)
      rw [hes]
      simpa using hO
  · have hnb : s.nbs = dig s.nm := if_neg hk4
    have hxn := hnm hk4
    refine wp_rs fun _ K13 => F.vl (x_fa0 fa24_0 rfl) fun a F => F.ld m3 flat3 rfl rfl fun a F => ?_
    refine s_callS [_] F E162 rfl (by decide) ((hasNumber332 _ w6).mono fun e w' h => ⟨by rw [h.1, decide_eq_true (by omega)], h.2⟩) fun a F => ?_
    refine s_end (K13 _ _ ?_)
    refine wp_if F rfl ?_
    refine wp_region_lit ?_
    refine F.mv rfl fun a F => F.vl (x_fa0 fa24_1 rfl) fun a F => F.ld m3 flat3 rfl rfl fun a F => ?_
    refine s_call (R := fun u w' => (∃ o', w'.ownsRow base 5 1 u (bs ++ [UInt8.ofNat s.kdN] ++ dig s.nm).length ((bs ++ [UInt8.ofNat s.kdN] ++ dig s.nm).map encB) ∧ (∀ j, u.ownBlock = some j → j = o') ∧ ((o' = o2 ∨ w6.heap.size ≤ o') ∧ o' < w'.heap.size)) ∧ Ktw o2 o2 w6 w') F [_, _] E109 rfl (by decide) (by rw [hxn]; exact putNumber320 base o2 v2 _ s.nm w6 hO hat (by omega) (by omega) (by omega) (by simp only [List.length_append, List.length_cons, List.length_nil]; omega)) ?_
    rintro v4 w16 a ⟨⟨o4, hOn, hatn, hon⟩, k17⟩ F
    clear hO hat
    have hO := hOn
    have hat := hatn
    clear hOn hatn
    have sk17 := k17.size
    have hK := hK.trans k17 (by omega)
    have m3 := m3.k2 k17 (by omega)
    refine F.sg rfl fun a F => ?_
    refine s_end (K3 _ _ ?_)
    refine wp_seq_k fun _ K14 => ?_
    refine wp_rs fun _ K15 => F.vl (x_fa0 fa24_2 rfl) fun a F => F.ld m3 flat22 rfl rfl fun a F => F.vl (x_len Try.underlying22 rfl) fun a F => F.mv rfl fun a F => ?_
    refine s_end (K15 _ _ ?_)
    refine wp_block ?_
    refine wp_up s.kids.length (fun i a w => ∃ v' o', w.ownsRow base 5 1 v' (bs ++ [UInt8.ofNat s.kdN] ++ s.nbs ++ (s.kids.take i).flatMap encS).length ((bs ++ [UInt8.ofNat s.kdN] ++ s.nbs ++ (s.kids.take i).flatMap encS).map encB) ∧ (∀ j, v'.ownBlock = some j → j = o') ∧ (((o' = o ∨ w0.heap.size ≤ o') ∧ b3 ≠ o') ∧ o' < w.heap.size) ∧ Blk w b3 24 [.int .i64 (s.kdN : Int), .int .i64 xn, .slice av s.kids.length cv] ∧ Ktw o o w0 w ∧ Fs 32 a [(0, v'), (3, .pointer (some ⟨b3, 0, none⟩)), (21, .slice av s.kids.length cv), (22, .int .i64 (s.kids.length : Int)), (23, .int .i64 (i : Int))]) ⟨v4, o4, by simpa [hnb] using hO, hat, by omega, m3, hK, F.sub _ rfl⟩ ?_
    have hb3w : w0.heap.size ≤ b3 := by omega
    clear hO hat hK m3
    repeat clear F
    rintro i a w hi ⟨v1, o1, hO, hat, ho1, m3, hK, F⟩ K' hK'
    have sK := hK.size
    have hm3l := m3.lt
    refine wp_rs fun _ K16 => F.vl (x_lss (b := decide (i < s.kids.length)) (decide_eq_decide.2 (by omega)) rfl rfl) fun a F => ?_
    refine s_end (K16 _ _ ?_)
    refine wp_seq_k fun _ K17 => ?_
    refine wp_iff F rfl (fun hc24 => ?_) (fun hc24 => ?_)
    · obtain ⟨b9, off9, c9, y, kd, hve, hki, hry, hAb, hbl, hrow⟩ := hrows i (by omega)
      cases hve
      have hks := SL.kid_size hki
      have hkn := SL.nums_kid hnu hki
      have h1y := hry.one
      have hfs := flat_snoc (f := encS) hki
      have hfl := flat_le (f := encS) hki
      refine wp_skip (K17 _ _ ?_)
      refine wp_seq_k fun _ K18 => ?_
      refine wp_block ?_
      refine wp_rs fun _ K19 => F.vl (x_ixa rfl rfl (m_ixsK i Try.underlying22 el22.size rfl (by omega))) fun a F => F.vl (x_ldA wide24 (hrow _ (hK.block _ hbl (hAo _ hAb))) rfl rfl) fun a F => ?_
      refine s_alloc F (by decide) zero24 fun w18 b6 a eb6 m6 B19 zb6 F => ?_
      have sB19 := B19.size
      have hK := hK.below B19
      have m3 := m3.old B19
      have hO := own_below hO B19
      refine s_putW F rfl rfl (size_wide wide24) m6 rfl (one_lc h1y) fun w22 m6 o23 => ?_
      have so23 := o23.size
      have hK := hK.only o23 (by omega)
      have m3 := m3.only o23 (by omega)
      have hO := own_only hO o23 (fun e => by have := hat _ e; omega)
      refine s_end (K19 _ _ ?_)
      refine wp_region_lit ?_
      refine F.mv rfl fun a F => F.vl (x_ldW wide24 m6 rfl rfl) fun a F => ?_
      refine s_call (R := fun u w' => (∃ o', w'.ownsRow base 5 1 u ((bs ++ [UInt8.ofNat s.kdN] ++ s.nbs ++ (s.kids.take i).flatMap encS) ++ encS kd).length (((bs ++ [UInt8.ofNat s.kdN] ++ s.nbs ++ (s.kids.take i).flatMap encS) ++ encS kd).map encB) ∧ (∀ j, u.ownBlock = some j → j = o') ∧ ((o' = o1 ∨ w22.heap.size ≤ o') ∧ o' < w'.heap.size)) ∧ Ktw o1 o1 w22 w') F [_, _] E141 rfl (by decide) (ih kd y base o1 v1 _ w22 A (by omega) (hry.keep hK.size (fun k ha hk => hK.block k hk (hAo k ha))) hkn (fun k hk => by have := hA k hk; omega) hO hat (by omega) (by omega) (by simp only [List.length_append, List.length_cons, List.length_nil]; omega)) ?_
      rintro v5 w24 a ⟨⟨o5, hOn, hatn, hon⟩, k25⟩ F
      clear hO hat
      have hO := hOn
      have hat := hatn
      clear hOn hatn
      have sk25 := k25.size
      have hK := hK.trans k25 (by omega)
      have m3 := m3.k2 k25 (by omega)
      refine F.sg rfl fun a F => ?_
      refine s_end (K18 _ _ ?_)
      refine wp_region_lit ?_
      refine F.vl (x_addn (i + 1) (by omega) (by omega) rfl rfl) fun a F => F.mv rfl fun a F => ?_
      refine s_end (hK' _ _ (by omega) ⟨v5, o5, by rw [hfs, ← List.append_assoc]; exact hO, hat, by omega, m3, hK, F.sub _ rfl⟩)
    · obtain rfl : i = s.kids.length := by omega
      rw [List.take_of_length_le (Nat.le_refl _)] at hO
      refine wp_exit (K14 _ _ ?_)
      refine wp_rs fun _ K20 => F.mv rfl fun a F => F.sg rfl fun a F => ?_
      refine s_end (K20 _ _ ?_)
      refine wp_ret (res_slot F rfl rfl ⟨v1, rfl, ⟨o1, ?_, hat, by omega⟩, hK⟩)
      rw [hes]
      simpa using hO
theorem putLevel324 : ∀ (N : Nat) (s : SL) (x : C3) (base o : Nat) (v : Value) (bs : List UInt8) (w0 : World) (A : Nat → Prop), s.size < N → RSn w0 A s x → s.nums 1099511627776 1001 → (∀ k, A k → k ≠ o ∧ k < w0.heap.size) →
    w0.ownsRow base 5 1 v bs.length (bs.map encB) → (∀ j, v.ownBlock = some j → j = o) → o < w0.heap.size → base ≤ w0.heap.size → bs.length + (encS s).length + 60 ≤ 140737488355328 → Calls Try.prog 113 #[v, lv x] w0 (PutsY 5 base o w0 (bs ++ encS s)) := by
  intro N
  induction N with
  | zero => intro s x base o v bs w0 A h; omega
  | succ N ih =>
  intro s x base o v bs w0 A hN hx hnu hA hO hat ho hb0 hlen
  have h1x := hx.one
  obtain ⟨xk, xn, xv⟩ := x
  obtain ⟨hk, hnm, ⟨av, cv, hxv⟩, hrows⟩ := hx.rows
  simp only at hk hnm hxv hrows h1x
  subst hk hxv
  have hkl := s.kids_le
  have hkd := s.kd_le
  have hnl := SL.nm_lt hnu
  have hes := encS_eq s
  rw [hes] at hlen
  have hdl := dig_len 9 s.nm (by omega)
  have hAo : ∀ k, A k → k ≠ o ∧ k ≠ o := fun k h => ⟨(hA k h).1, (hA k h).1⟩
  simp only [List.length_cons, List.length_append] at hlen
  have hK := Ktw.refl o o w0
  have sK := hK.size
  refine calls_fs 33 [(0, v), (1, lv ((s.kdN : Int), xn, .slice av s.kids.length cv))] Try.func113 rfl rfl rfl rfl rfl fun a F => ?_
  refine wp_rs fun _ K1 => ?_
  refine s_box ([.int .i64 (s.kdN : Int), .int .i64 xn, .slice av s.kids.length cv]) F (by decide) rfl rfl fun w2 b3 a eb3 m3 B3 zb3 F => ?_
  have sB3 := B3.size
  have hK := hK.below B3
  have hO := own_below hO B3
  refine F.sg rfl fun a F => ?_
  refine s_end (K1 _ _ ?_)
  refine wp_rs fun _ K2 => F.mv rfl fun a F => F.vl (x_fa0 fa24_0 rfl) fun a F => F.ld m3 flat3 rfl rfl fun a F => F.vl (x_i2b (m := s.kdN) Try.underlying3 Try.underlying5 rfl) fun a F => ?_
  refine s_litG [encB (UInt8.ofNat s.kdN)] el503 F (by decide) rfl (by simp [Value.cells, encB]) rfl (by decide) (by decide) fun w4 bl a ebl ml B5 zbl F => ?_
  have sB5 := B5.size
  have hK := hK.below B5
  have hO := own_below hO B5
  have m3 := m3.old B5
  have ml : Blk w4 bl 5 ([UInt8.ofNat s.kdN].map encB) := ml
  have hlY : (bs).length + ([UInt8.ofNat s.kdN]).length ≤ 140737488355328 := by simp only [List.length_append, List.length_cons, List.length_nil]; omega
  refine s_appP (o := o) (p := ([UInt8.ofNat s.kdN]).length) (ys := ([UInt8.ofNat s.kdN]).map encB) el503 F (by decide) rfl rfl hO (Rd.blk ml rfl) (oneY _) hat (by omega) (by omega) (by unfold maxLen; omega) (by omega) fun v2 w6 a o2 hOn hatn hon k7 F => ?_
  clear hO hat
  have hat := hatn
  have hO : w6.ownsRow base 5 1 v2 (bs ++ ([UInt8.ofNat s.kdN])).length ((bs ++ ([UInt8.ofNat s.kdN])).map encB) := by rw [List.length_append, List.map_append]; exact hOn
  clear hOn hatn
  have sk7 := k7.size
  have hK := hK.trans k7 (by omega)
  have m3 := m3.k2 k7 (by omega)
  refine F.sg rfl fun a F => ?_
  refine s_end (K2 _ _ ?_)
  refine wp_seq_k fun _ K3 => ?_
  rcases (show s.kdN = 4 ∨ s.kdN ≠ 4 by omega) with hk4 | hk4
  · have hnb : s.nbs = [] := if_pos hk4
    have VVe : v2 = v2 := rfl
    refine wp_rs fun _ K5 => F.vl (x_fa0 fa24_0 rfl) fun a F => F.ld m3 flat3 rfl rfl fun a F => F.vl (neqF (by omega) rfl rfl) fun a F => ?_
    refine s_end (K5 _ _ ?_)
    refine wp_if F rfl ?_
    refine wp_skip (K3 _ _ ?_)
    refine wp_seq_k fun _ K6 => ?_
    refine wp_rs fun _ K7 => F.vl (x_fa0 fa24_2 rfl) fun a F => F.ld m3 flat22 rfl rfl fun a F => F.vl (x_len Try.underlying22 rfl) fun a F => F.mv rfl fun a F => ?_
    refine s_end (K7 _ _ ?_)
    refine wp_block ?_
    refine wp_up s.kids.length (fun i a w => ∃ v' o', w.ownsRow base 5 1 v' (bs ++ [UInt8.ofNat s.kdN] ++ s.nbs ++ (s.kids.take i).flatMap encS).length ((bs ++ [UInt8.ofNat s.kdN] ++ s.nbs ++ (s.kids.take i).flatMap encS).map encB) ∧ (∀ j, v'.ownBlock = some j → j = o') ∧ (((o' = o ∨ w0.heap.size ≤ o') ∧ b3 ≠ o') ∧ o' < w.heap.size) ∧ Blk w b3 24 [.int .i64 (s.kdN : Int), .int .i64 xn, .slice av s.kids.length cv] ∧ Ktw o o w0 w ∧ Fs 33 a [(0, v'), (3, .pointer (some ⟨b3, 0, none⟩)), (22, .slice av s.kids.length cv), (23, .int .i64 (s.kids.length : Int)), (24, .int .i64 (i : Int))]) ⟨v2, o2, by simpa [hnb] using hO, hat, by omega, m3, hK, F.sub _ rfl⟩ ?_
    have hb3w : w0.heap.size ≤ b3 := by omega
    clear hO hat hK m3
    repeat clear F
    rintro i a w hi ⟨v1, o1, hO, hat, ho1, m3, hK, F⟩ K' hK'
    have sK := hK.size
    have hm3l := m3.lt
    refine wp_rs fun _ K8 => F.vl (x_lss (b := decide (i < s.kids.length)) (decide_eq_decide.2 (by omega)) rfl rfl) fun a F => ?_
    refine s_end (K8 _ _ ?_)
    refine wp_seq_k fun _ K9 => ?_
    refine wp_iff F rfl (fun hc25 => ?_) (fun hc25 => ?_)
    · obtain ⟨b9, off9, c9, y, kd, hve, hki, hry, hAb, hbl, hrow⟩ := hrows i (by omega)
      cases hve
      have hks := SL.kid_size hki
      have hkn := SL.nums_kid hnu hki
      have h1y := hry.one
      have hfs := flat_snoc (f := encS) hki
      have hfl := flat_le (f := encS) hki
      refine wp_skip (K9 _ _ ?_)
      refine wp_seq_k fun _ K10 => ?_
      refine wp_block ?_
      refine wp_rs fun _ K11 => F.vl (x_ixa rfl rfl (m_ixsK i Try.underlying22 el22.size rfl (by omega))) fun a F => F.vl (x_ldA wide24 (hrow _ (hK.block _ hbl (hAo _ hAb))) rfl rfl) fun a F => ?_
      refine s_alloc F (by decide) zero24 fun w8 b6 a eb6 m6 B9 zb6 F => ?_
      have sB9 := B9.size
      have hK := hK.below B9
      have m3 := m3.old B9
      have hO := own_below hO B9
      refine s_putW F rfl rfl (size_wide wide24) m6 rfl (one_lc h1y) fun w12 m6 o13 => ?_
      have so13 := o13.size
      have hK := hK.only o13 (by omega)
      have m3 := m3.only o13 (by omega)
      have hO := own_only hO o13 (fun e => by have := hat _ e; omega)
      refine s_end (K11 _ _ ?_)
      refine wp_region_lit ?_
      refine F.mv rfl fun a F => F.vl (x_ldW wide24 m6 rfl rfl) fun a F => ?_
      refine s_call (R := fun u w' => (∃ o', w'.ownsRow base 5 1 u ((bs ++ [UInt8.ofNat s.kdN] ++ s.nbs ++ (s.kids.take i).flatMap encS) ++ encS kd).length (((bs ++ [UInt8.ofNat s.kdN] ++ s.nbs ++ (s.kids.take i).flatMap encS) ++ encS kd).map encB) ∧ (∀ j, u.ownBlock = some j → j = o') ∧ ((o' = o1 ∨ w12.heap.size ≤ o') ∧ o' < w'.heap.size)) ∧ Ktw o1 o1 w12 w') F [_, _] E113 rfl (by decide) (ih kd y base o1 v1 _ w12 A (by omega) (hry.keep hK.size (fun k ha hk => hK.block k hk (hAo k ha))) hkn (fun k hk => by have := hA k hk; omega) hO hat (by omega) (by omega) (by simp only [List.length_append, List.length_cons, List.length_nil]; omega)) ?_
      rintro v5 w14 a ⟨⟨o5, hOn, hatn, hon⟩, k15⟩ F
      clear hO hat
      have hO := hOn
      have hat := hatn
      clear hOn hatn
      have sk15 := k15.size
      have hK := hK.trans k15 (by omega)
      have m3 := m3.k2 k15 (by omega)
      refine F.sg rfl fun a F => ?_
      refine s_end (K10 _ _ ?_)
      refine wp_region_lit ?_
      refine F.vl (x_addn (i + 1) (by omega) (by omega) rfl rfl) fun a F => F.mv rfl fun a F => ?_
      refine s_end (hK' _ _ (by omega) ⟨v5, o5, by rw [hfs, ← List.append_assoc]; exact hO, hat, by omega, m3, hK, F.sub _ rfl⟩)
    · obtain rfl : i = s.kids.length := by omega
      rw [List.take_of_length_le (Nat.le_refl _)] at hO
      refine wp_exit (K6 _ _ ?_)
      refine wp_rs fun _ K12 => F.mv rfl fun a F => F.sg rfl fun a F => ?_
      refine s_end (K12 _ _ ?_)
      refine wp_ret (res_slot F rfl rfl ⟨v1, rfl, ⟨o1, ?_, hat, by omega⟩, hK⟩)
      rw [hes]
      simpa using hO
  · have hnb : s.nbs = dig s.nm := if_neg hk4
    have hxn := hnm hk4
    refine wp_rs fun _ K13 => F.vl (x_fa0 fa24_0 rfl) fun a F => F.ld m3 flat3 rfl rfl fun a F => F.vl (neqT (by omega) rfl rfl) fun a F => ?_
    refine s_end (K13 _ _ ?_)
    refine wp_if F rfl ?_
    refine wp_region_lit ?_
    refine F.mv rfl fun a F => F.vl (x_fa0 fa24_1 rfl) fun a F => F.ld m3 flat3 rfl rfl fun a F => F.vl (x_i2d (m := s.nm) Try.underlying3 Try.underlying54 (by rw [← hxn]; rfl)) fun a F => ?_
    refine s_call (R := fun u w' => (∃ o', w'.ownsRow base 5 1 u (bs ++ [UInt8.ofNat s.kdN] ++ dig s.nm).length ((bs ++ [UInt8.ofNat s.kdN] ++ dig s.nm).map encB) ∧ (∀ j, u.ownBlock = some j → j = o') ∧ ((o' = o2 ∨ w6.heap.size ≤ o') ∧ o' < w'.heap.size)) ∧ Ktw o2 o2 w6 w') F [_, _] E68 rfl (by decide) (by have h := Put314 base o2 v2 _ (UInt64.ofNat s.nm) w6 hO hat (by omega) (by omega) (by simp only [List.length_append, List.length_cons, List.length_nil]; omega); rw [d2n (by omega)] at h; exact h) ?_
    rintro v4 w16 a ⟨⟨o4, hOn, hatn, hon⟩, k17⟩ F
    clear hO hat
    have hO := hOn
    have hat := hatn
    clear hOn hatn
    have sk17 := k17.size
    have hK := hK.trans k17 (by omega)
    have m3 := m3.k2 k17 (by omega)
    refine F.sg rfl fun a F => ?_
    refine s_end (K3 _ _ ?_)
    refine wp_seq_k fun _ K14 => ?_
    refine wp_rs fun _ K15 => F.vl (x_fa0 fa24_2 rfl) fun a F => F.ld m3 flat22 rfl rfl fun a F => F.vl (x_len Try.underlying22 rfl) fun a F => F.mv rfl fun a F => ?_
    refine s_end (K15 _ _ ?_)
    refine wp_block ?_
    refine wp_up s.kids.length (fun i a w => ∃ v' o', w.ownsRow base 5 1 v' (bs ++ [UInt8.ofNat s.kdN] ++ s.nbs ++ (s.kids.take i).flatMap encS).length ((bs ++ [UInt8.ofNat s.kdN] ++ s.nbs ++ (s.kids.take i).flatMap encS).map encB) ∧ (∀ j, v'.ownBlock = some j → j = o') ∧ (((o' = o ∨ w0.heap.size ≤ o') ∧ b3 ≠ o') ∧ o' < w.heap.size) ∧ Blk w b3 24 [.int .i64 (s.kdN : Int), .int .i64 xn, .slice av s.kids.length cv] ∧ Ktw o o w0 w ∧ Fs 33 a [(0, v'), (3, .pointer (some ⟨b3, 0, none⟩)), (22, .slice av s.kids.length cv), (23, .int .i64 (s.kids.length : Int)), (24, .int .i64 (i : Int))]) ⟨v4, o4, by simpa [hnb] using hO, hat, by omega, m3, hK, F.sub _ rfl⟩ ?_
    have hb3w : w0.heap.size ≤ b3 := by omega
    clear hO hat hK m3
    repeat clear F
    rintro i a w hi ⟨v1, o1, hO, hat, ho1, m3, hK, F⟩ K' hK'
    have sK := hK.size
    have hm3l := m3.lt
    refine wp_rs fun _ K16 => F.vl (x_lss (b := decide (i < s.kids.length)) (decide_eq_decide.2 (by omega)) rfl rfl) fun a F => ?_
    refine s_end (K16 _ _ ?_)
    refine wp_seq_k fun _ K17 => ?_
    refine wp_iff F rfl (fun hc25 => ?_) (fun hc25 => ?_)
    · obtain ⟨b9, off9, c9, y, kd, hve, hki, hry, hAb, hbl, hrow⟩ := hrows i (by omega)
      cases hve
      have hks := SL.kid_size hki
      have hkn := SL.nums_kid hnu hki
      have h1y := hry.one
      have hfs := flat_snoc (f := encS) hki
      have hfl := flat_le (f := encS) hki
      refine wp_skip (K17 _ _ ?_)
      refine wp_seq_k fun _ K18 => ?_
      refine wp_block ?_
      refine wp_rs fun _ K19 => F.vl (x_ixa rfl rfl (m_ixsK i Try.underlying22 el22.size rfl (by omega))) fun a F => F.vl (x_ldA wide24 (hrow _ (hK.block _ hbl (hAo _ hAb))) rfl rfl) fun a F => ?_
      refine s_alloc F (by decide) zero24 fun w18 b6 a eb6 m6 B19 zb6 F => ?_
      have sB19 := B19.size
      have hK := hK.below B19
      have m3 := m3.old B19
      have hO := own_below hO B19
      refine s_putW F rfl rfl (size_wide wide24) m6 rfl (one_lc h1y) fun w22 m6 o23 => ?_
      have so23 := o23.size
      have hK := hK.only o23 (by omega)
      have m3 := m3.only o23 (by omega)
      have hO := own_only hO o23 (fun e => by have := hat _ e; omega)
      refine s_end (K19 _ _ ?_)
      refine wp_region_lit ?_
      refine F.mv rfl fun a F => F.vl (x_ldW wide24 m6 rfl rfl) fun a F => ?_
      refine s_call (R := fun u w' => (∃ o', w'.ownsRow base 5 1 u ((bs ++ [UInt8.ofNat s.kdN] ++ s.nbs ++ (s.kids.take i).flatMap encS) ++ encS kd).length (((bs ++ [UInt8.ofNat s.kdN] ++ s.nbs ++ (s.kids.take i).flatMap encS) ++ encS kd).map encB) ∧ (∀ j, u.ownBlock = some j → j = o') ∧ ((o' = o1 ∨ w22.heap.size ≤ o') ∧ o' < w'.heap.size)) ∧ Ktw o1 o1 w22 w') F [_, _] E113 rfl (by decide) (ih kd y base o1 v1 _ w22 A (by omega) (hry.keep hK.size (fun k ha hk => hK.block k hk (hAo k ha))) hkn (fun k hk => by have := hA k hk; omega) hO hat (by omega) (by omega) (by simp only [List.length_append, List.length_cons, List.length_nil]; omega)) ?_
      rintro v5 w24 a ⟨⟨o5, hOn, hatn, hon⟩, k25⟩ F
      clear hO hat
      have hO := hOn
      have hat := hatn
      clear hOn hatn
      have sk25 := k25.size
      have hK := hK.trans k25 (by omega)
      have m3 := m3.k2 k25 (by omega)
      refine F.sg rfl fun a F => ?_
      refine s_end (K18 _ _ ?_)
      refine wp_region_lit ?_
      refine F.vl (x_addn (i + 1) (by omega) (by omega) rfl rfl) fun a F => F.mv rfl fun a F => ?_
      refine s_end (hK' _ _ (by omega) ⟨v5, o5, by rw [hfs, ← List.append_assoc]; exact hO, hat, by omega, m3, hK, F.sub _ rfl⟩)
    · obtain rfl : i = s.kids.length := by omega
      rw [List.take_of_length_le (Nat.le_refl _)] at hO
      refine wp_exit (K14 _ _ ?_)
      refine wp_rs fun _ K20 => F.mv rfl fun a F => F.sg rfl fun a F => ?_
      refine s_end (K20 _ _ ?_)
      refine wp_ret (res_slot F rfl rfl ⟨v1, rfl, ⟨o1, ?_, hat, by omega⟩, hK⟩)
      rw [hes]
      simpa using hO
end Go.Proofs.Ytmkjhdiepkpdoaa

namespace Go.Proofs.Ytmkjhdiepkpdoaa
set_option maxRecDepth 100000
set_option maxHeartbeats 1600000
open Go.RowKit Go.Shelf
set_option linter.unusedVariables false
set_option linter.unusedSimpArgs false
theorem rln_rsn {W : World} {A : Nat → Prop} : ∀ {s : SL} {x : C3} {l : Lv}, RLn W A x l → RS W s x → RSn W A s x
 | .num m, x, _, _, h => h
 | .var m, x, _, _, h => h
 | .succ m a, (k, n, v), _, @RLn.mk _ _ _ _ _ xs ls hR hl hk _, ⟨h1, h2, y, h3, h4⟩ => by
  simp only at h1 h2 h3
  obtain ⟨e1, e2⟩ := hR.1.inj h3
  obtain ⟨z, rfl⟩ : ∃ z, xs = [z] := List.length_eq_one_iff.1 e1
  obtain ⟨l, rfl⟩ : ∃ l, ls = [l] := List.length_eq_one_iff.1 (hl ▸ e1)
  have e3 : z = y := lc_inj (by simpa using e2)
  subst e3
  exact ⟨h1, h2, z, h3, hR.2 (by simp), rln_rsn (hk 0 z l rfl rfl) h4⟩
 | .mx a b, (k, n, v), _, @RLn.mk _ _ _ _ _ xs ls hR hl hk _, ⟨h1, y, z, h3, h4, h5⟩ => by
  simp only at h1 h3
  obtain ⟨e1, e2⟩ := hR.1.inj h3
  obtain ⟨y', z', rfl⟩ := len2 e1
  obtain ⟨la, lb, rfl⟩ := len2 (hl ▸ e1)
  have e2 : lc y' ++ lc z' = lc y ++ lc z := by simpa using e2
  obtain ⟨e3, e4⟩ := List.append_inj e2 rfl
  have e3 := lc_inj e3
  have e4 := lc_inj e4
  subst e3 e4
  exact ⟨h1, y', z', h3, hR.2 (by simp), rln_rsn (hk 0 y' la rfl rfl) h4, rln_rsn (hk 1 z' lb rfl rfl) h5⟩
/-- A level that may be put. -/
def okLv (l : Lv) : Prop := ∃ s, slO l = some s ∧ s.size ≤ 100
noncomputable def encLv (l : Lv) : List UInt8 := match slO l with
 | some s => encS s
 | none => []
theorem encLv_of {l : Lv} {s : SL} (h : slO l = some s) : encLv l = encS s := by unfold encLv; rw [h]
theorem encS_len : ∀ s : SL, s.nums 1099511627776 1001 → (encS s).length ≤ 11 * s.size
 | .num n, h => by have h : n ≤ 1099511627776 := h; have := dig_len 9 n (by omega); simp [encS, SL.size]; omega
 | .var n, h => by have h : n < 1001 := h; have := dig_len 9 n (by omega); simp [encS, SL.size]; omega
 | .succ n a, h => by have h1 := h.2.1; have := dig_len 9 n (by omega); have h2 := encS_len a h.2.2; simp [encS, SL.size]; omega
 | .mx a b, h => by have h1 := encS_len a h.1; have h2 := encS_len b h.2; simp [encS, SL.size]; omega
theorem okLv.open {W : World} {A : Nat → Prop} {x : C3} {l : Lv} (h : okLv l) (hx : RLn W A x l) : ∃ s, RSn W A s x ∧ s.nums 1099511627776 1001 ∧ encLv l = encS s ∧ (encLv l).length ≤ 1100 := by
 obtain ⟨s, h1, h2⟩ := h
 obtain ⟨_, h3, h4⟩ := slO_some hx.rl h1
 have h5 := encS_len s h4.2.2
 exact ⟨s, rln_rsn hx h3, h4.2.2, encLv_of h1, by rw [encLv_of h1]; omega⟩
theorem okLv_chk {W : World} {x : C3} {l : Lv} {vn : Nat} (hv : vn ≤ 1001) (hL : RL W x l) (h : (chk 32 1048576 vn 1 100 l).1 = 0) : okLv l := by
 obtain ⟨s, h1, h2, h3, h4⟩ := chk_sl (D := 32) (top := 1048576) (vars := vn) hL 1 100 h
 have h5 : s.nums 1099511627776 1001 := by
  clear h1 h3 h4 h
  induction s with
  | num n => exact Nat.le_trans (show n ≤ 1048576 from h2) (by decide)
  | var n => exact Nat.lt_of_lt_of_le (show n < vn from h2) hv
  | succ n a ih => exact ⟨h2.1, Nat.le_trans h2.2.1 (by decide), ih h2.2.2⟩
  | mx a b iha ihb => exact ⟨iha h2.1, ihb h2.2⟩
 exact ⟨s, slO_of hL h1 ⟨by omega, by omega, h5⟩, by omega⟩
/-- The bytes of a list of levels. -/
noncomputable def encLvs (ls : List Lv) : List UInt8 := dig ls.length ++ ls.flatMap encLv
theorem PutList333 (A : Nat → Prop) (u : Value) (ls : List Lv) (w0 : World) (hA : ∀ k, A k → k < w0.heap.size) (hV : RVn w0 A u ls) (hE : ∀ l ∈ ls, okLv l) (hls : ls.length ≤ 1000) (hlen : (encLvs ls).length + 100 ≤ 140737488355328) : Calls Try.prog 163 #[nilS, u, .func (.func 141) #[] #[]] w0 (FreshY 5 w0 (encLvs ls)) := by
 obtain ⟨au, cu, hve, _⟩ := hV.form
 subst hve
 have hdl := dig_len 9 ls.length (by omega)
 unfold encLvs at hlen ⊢
 rw [List.length_append] at hlen
 have hB := Below.refl w0.heap.size w0
 have sB := hB.size
 refine calls_fs 32 [(0, nilS), (1, .slice au ls.length cu), (2, .func (.func 141) #[] #[])] Try.func163 rfl rfl rfl rfl rfl fun a F => ?_
 refine wp_rs fun _ K1 => F.sg rfl fun a F => ?_
 refine s_end (K1 _ _ ?_)
 refine wp_seq_k fun _ K2 => ?_
 refine wp_rs fun _ K3 => F.mv rfl fun a F => F.vl (x_eqNil Try.underlying130 rfl) fun a F => ?_
 refine s_end (K3 _ _ ?_)
 refine wp_if F rfl ?_
 refine wp_skip (K2 _ _ ?_)
 refine wp_rs fun _ K4 => F.mv rfl fun a F => F.mv rfl fun a F => F.vl (x_len Try.underlying22 rfl) fun a F => F.vl (x_i2d (m := ls.length) Try.underlying3 Try.underlying54 rfl) fun a F => ?_
 refine s_call (R := fun u w' => (∃ o', w'.ownsRow w0.heap.size 5 1 u (dig ls.length).length ((dig ls.length).map encB) ∧ (∀ j, u.ownBlock = some j → j = o') ∧ (w0.heap.size ≤ o' ∧ o' < w'.heap.size)) ∧ Below w0.heap.size w0 w') F [_, _] E118 rfl (by decide) (by have h := Put326 _ [] (UInt64.ofNat ls.length) w0 (Rd.nil _ _) (by simp); rw [d2n (by omega)] at h; exact h) ?_
 rintro v1 w2 a ⟨⟨o1, h1O, h1at, h1o⟩, B3⟩ F
 have sB3 := B3.size
 have hB := bt hB B3
 have h1R := Rd.own h1O
 have hO := h1O
 have hat := h1at
 refine F.sg rfl fun a F => ?_
 refine s_end (K4 _ _ ?_)
 refine wp_seq_k fun _ K5 => ?_
 skip
 refine wp_rs fun _ K6 => F.mv rfl fun a F => F.vl (x_len Try.underlying22 rfl) fun a F => F.mv rfl fun a F => ?_
 refine s_end (K6 _ _ ?_)
 refine wp_block ?_
 skip
 refine wp_up ls.length (fun i a w => ∃ v' o', w.ownsRow w0.heap.size 5 1 v' (dig ls.length ++ (ls.take i).flatMap encLv).length ((dig ls.length ++ (ls.take i).flatMap encLv).map encB) ∧ (∀ j, v'.ownBlock = some j → j = o') ∧ (w0.heap.size ≤ o' ∧ o' < w.heap.size) ∧ Below w0.heap.size w0 w ∧ Fs 32 a [(2, .func (.func 141) #[] #[]), (7, v'), (19, .slice au ls.length cu), (20, .int .i64 (ls.length : Int)), (21, .int .i64 (i : Int))]) ⟨v1, o1, by simpa using hO, hat, by omega, hB, F.sub _ rfl⟩ ?_
 clear hO hat hB h1O h1at h1R
 repeat clear F
 rintro i a w hi ⟨v1, o1, hO, hat, ho1, hB, F⟩ K' hK'
 have sB := hB.size
 refine wp_rs fun _ K7 => F.vl (x_lss (b := decide (i < ls.length)) (decide_eq_decide.2 (by omega)) rfl rfl) fun a F => ?_
 refine s_end (K7 _ _ ?_)
 refine wp_seq_k fun _ K8 => ?_
 refine wp_iff F rfl (fun hc22 => ?_) (fun hc22 => ?_)
 ·
  obtain ⟨b9, off9, c9, y, l, hve, hli, hry, hAb, hbl, hrow⟩ := hV.row (i := i) (by omega)
  cases hve
  obtain ⟨s, hrs, hnu, hes, hel⟩ := (hE l (List.mem_of_getElem? hli)).open hry
  have h1y := hry.rl.one1
  have hfs := flat_snoc (f := encLv) hli
  have hfl := flat_le (f := encLv) hli
  refine wp_skip (K8 _ _ ?_)
  refine wp_seq_k fun _ K9 => ?_
  refine wp_block ?_
  refine wp_rs fun _ K10 => F.vl (x_ixa rfl rfl (m_ixsK i Try.underlying22 el22.size rfl (by omega))) fun a F => F.vl (x_ldA wide24 (hrow _ (hB.block _ hbl)) rfl rfl) fun a F => ?_
  refine s_alloc F (by decide) zero24 fun w4 b9 a eb9 m9 B5 zb9 F => ?_
  have sB5 := B5.size
  have hB := bt hB B5
  have hO := own_below hO B5
  refine s_putW F rfl rfl (size_wide wide24) m9 rfl (one_lc h1y) fun w8 m9 o9 => ?_
  have so9 := o9.size
  have hB := hB.trans (o9.below (by omega))
  have hO := own_only hO o9 (fun e => by have := hat _ e; omega)
  refine s_end (K10 _ _ ?_)
  refine wp_region_lit ?_
  refine F.mv rfl fun a F => F.mv rfl fun a F => F.vl (x_ldW wide24 m9 rfl rfl) fun a F => ?_
  refine s_callC (R := fun u w' => (∃ o', w'.ownsRow w0.heap.size 5 1 u (dig ls.length ++ (ls.take i).flatMap encLv ++ encLv l).length ((dig ls.length ++ (ls.take i).flatMap encLv ++ encLv l).map encB) ∧ (∀ j, u.ownBlock = some j → j = o') ∧ ((o' = o1 ∨ w8.heap.size ≤ o') ∧ o' < w'.heap.size)) ∧ Ktw o1 o1 w8 w') (lb := []) F [_, _] rfl E141 rfl (by decide) (by rw [hes]; exact putLevel328 (s.size + 1) s y w0.heap.size o1 v1 _ w8 A (by omega) (hrs.keep hB.size (fun k ha hk => hB.block k hk)) hnu (fun k hk => by have := hA k hk; omega) hO hat (by omega) (by omega) (by rw [← hes]; simp only [List.length_append]; omega)) ?_
  rintro v5 w10 a ⟨⟨o5, hOn, hatn, hon⟩, k11⟩ F
  clear hO hat
  have hO := hOn
  have hat := hatn
  clear hOn hatn
  have sk11 := k11.size
  have hB := k11.under hB (by omega)
  refine F.sg rfl fun a F => ?_
  refine s_end (K9 _ _ ?_)
  refine wp_region_lit ?_
  refine F.vl (x_addn (i + 1) (by omega) (by omega) rfl rfl) fun a F => F.mv rfl fun a F => ?_
  refine s_end (hK' _ _ (by omega) ⟨v5, o5, by rw [hfs, ← List.append_assoc]; exact hO, hat, by omega, hB, F.sub _ rfl⟩)
 ·
  obtain rfl : i = ls.length := by omega
  rw [List.take_of_length_le (Nat.le_refl _)] at hO
  refine wp_exit (K5 _ _ ?_)
  refine wp_rs fun _ K11 => F.mv rfl fun a F => ?_
  refine s_call (R := fun u w' => (∃ o', w'.ownsRow w.heap.size 5 1 u (dig ls.length ++ ls.flatMap encLv).length ((dig ls.length ++ ls.flatMap encLv).map encB) ∧ (∀ j, u.ownBlock = some j → j = o') ∧ (w.heap.size ≤ o' ∧ o' < w'.heap.size)) ∧ Below w.heap.size w w') F [_, _] E117 rfl (by decide) (fresh325 _ (dig ls.length ++ ls.flatMap encLv) 0 w (Rd.own hO) (by rw [List.length_append]; omega)) ?_
  rintro v9 w12 a ⟨⟨o9, h9O, h9at, h9o⟩, B13⟩ F
  have sB13 := B13.size
  have hB := bt hB B13
  have h9R := Rd.own h9O
  refine F.sg rfl fun a F => ?_
  refine s_end (K11 _ _ ?_)
  refine wp_ret (res_slot F rfl rfl ⟨v9, rfl, ⟨o9, own_base h9O (by omega), h9at, by omega⟩, hB⟩)
theorem putList329 (base o : Nat) (v : Value) (bs : List UInt8) (A : Nat → Prop) (u : Value) (ls : List Lv) (w0 : World) (hA : ∀ k, A k → k < w0.heap.size) (hV : RVn w0 A u ls) (hE : ∀ l ∈ ls, okLv l) (hls : ls.length ≤ 1000) (hO : w0.ownsRow base 5 1 v bs.length (bs.map encB)) (hat : ∀ j, v.ownBlock = some j → j = o) (ho : o < w0.heap.size) (hb0 : base ≤ w0.heap.size) (hlen : bs.length + (encLvs ls).length + 100 ≤ 140737488355328) : Calls Try.prog 142 #[v, u, .func (.func 141) #[] #[]] w0 (PutsY 5 base o w0 (bs ++ encLvs ls)) := by
 have hK := Ktw.refl o o w0
 have sK := hK.size
 refine calls_fs 12 [(0, v), (1, u), (2, .func (.func 141) #[] #[])] Try.func142 rfl rfl rfl rfl rfl fun a F => ?_
 refine wp_rs fun _ K1 => F.sg rfl fun a F => ?_
 refine s_end (K1 _ _ ?_)
 refine wp_rs fun _ K2 => F.mv rfl fun a F => F.mv rfl fun a F => F.mv rfl fun a F => ?_
 refine s_call (R := fun u w' => (∃ o', w'.ownsRow w0.heap.size 5 1 u (encLvs ls).length ((encLvs ls).map encB) ∧ (∀ j, u.ownBlock = some j → j = o') ∧ (w0.heap.size ≤ o' ∧ o' < w'.heap.size)) ∧ Below w0.heap.size w0 w') F [_, _, _] E163 rfl (by decide) (PutList333 A u ls w0 hA hV hE hls (by omega)) ?_
 rintro v9 w2 a ⟨⟨o9, h9O, h9at, h9o⟩, B3⟩ F
 have sB3 := B3.size
 have hK := hK.below B3
 have hO := own_below hO B3
 have h9R := Rd.own h9O
 have hlY : (bs).length + (encLvs ls).length ≤ 140737488355328 := by omega
 refine s_appP (o := o) (p := (encLvs ls).length) (ys := (encLvs ls).map encB) el503 F (by decide) rfl rfl hO (h9R) (oneY _) hat (by omega) (by omega) (by unfold maxLen; omega) (by omega) fun v2 w4 a o2 hOn hatn hon k5 F => ?_
 clear hO hat
 have hat := hatn
 have hO : w4.ownsRow base 5 1 v2 (bs ++ (encLvs ls)).length ((bs ++ (encLvs ls)).map encB) := by rw [List.length_append, List.map_append]; exact hOn
 clear hOn hatn
 have sk5 := k5.size
 have hK := hK.trans k5 (by omega)
 refine F.sg rfl fun a F => ?_
 refine s_end (K2 _ _ ?_)
 refine wp_ret (res_slot F rfl rfl ⟨v2, rfl, ⟨o2, ?_, hat, by omega⟩, hK⟩)
 exact hO
end Go.Proofs.Ytmkjhdiepkpdoaa

namespace Go.Proofs.Ytmkjhdiepkpdoaa
set_option maxRecDepth 100000
set_option maxHeartbeats 1600000
open Go.RowKit Go.Shelf
set_option linter.unusedVariables false
set_option linter.unusedSimpArgs false
/-- What may be put: as many kids as its kind has, sound levels, a name. -/
def CT.putV : CT → Prop
 | .var n m => m = 0 ∧ 0 ≤ n ∧ n ≤ 1048576
 | .sort l m => m = 0 ∧ okLv l
 | .cst s ls m => m = 0 ∧ s.data.toList.length ≤ 32 ∧ ls.length ≤ 6 ∧ ∀ l ∈ ls, okLv l
 | .odd .. => False
 | .two _ a b m => m = 0 ∧ a.putV ∧ b.putV
 | .lt a b c m => m = 0 ∧ a.putV ∧ b.putV ∧ c.putV
theorem may_put {W : World} {A : Nat → Prop} {vn : Nat} (hv : vn ≤ 1001) : ∀ (c : CT) (x : C8) (d : Int) (n : Nat), RC W A c x → (c.mayT vn d n).1 = 0 → c.putV
 | .two k a b m, x, d, n, hx, h => by
  obtain ⟨_, hk, ⟨y, z, cs, _, ha, hb⟩, _⟩ := hx
  simp only [CT.mayT] at h
  split at h
  ·
   next h1 => exact absurd h h1
  ·
   next h1 =>
   have h0 := nodeErr_zero (show nodeErr vn d (n + 1) (.two k a b m) = 0 by omega)
   have h9 := h0.2.2.1
   simp only [CT.kd, CT.len] at h9
   have har : arT k = 2 := by rcases hk with rfl | rfl | rfl <;> rfl
   split at h
   ·
    next h2 => exact absurd h h2
   ·
    next h2 => exact ⟨by omega, may_put hv a y (d + 1) (n + 1) ha (by omega), may_put hv b z _ _ hb h⟩
 | .lt a b c m, x, d, n, hx, h => by
  obtain ⟨_, ⟨y, z, u, cs, _, ha, hb, hc⟩, _⟩ := hx
  simp only [CT.mayT] at h
  split at h
  ·
   next h1 => exact absurd h h1
  ·
   next h1 =>
   have h0 := nodeErr_zero (show nodeErr vn d (n + 1) (.lt a b c m) = 0 by omega)
   have h9 := h0.2.2.1
   simp only [CT.kd, CT.len, show arT 5 = 3 from rfl] at h9
   split at h
   ·
    next h2 => exact absurd h h2
   ·
    next h2 =>
    split at h
    ·
     next h3 => exact absurd h h3
    ·
     next h3 => exact ⟨by omega, may_put hv a y (d + 1) (n + 1) ha (by omega), may_put hv b z (d + 1) (a.mayT vn (d + 1) (n + 1)).2 hb (by omega), may_put hv c u _ _ hc h⟩
 | .var z m, x, d, n, hx, h => by
  have h0 := nodeErr_zero (show nodeErr vn d (n + 1) (.var z m) = 0 from h)
  have h9 := h0.2.2.1
  have h8 := h0.2.2.2
  simp only [CT.kd, CT.len, show arT 1 = 0 from rfl] at h9
  simp only [leafErr] at h8
  split at h8
  ·
   omega
  ·
   exact ⟨by omega, by omega, by omega⟩
 | .sort l m, x, d, n, hx, h => by
  have h0 := nodeErr_zero (show nodeErr vn d (n + 1) (.sort l m) = 0 from h)
  have h9 := h0.2.2.1
  simp only [CT.kd, CT.len, show arT 2 = 0 from rfl] at h9
  exact ⟨by omega, okLv_chk hv hx.2.1.rl h0.2.2.2⟩
 | .cst s ls m, x, d, n, hx, h => by
  have h0 := nodeErr_zero (show nodeErr vn d (n + 1) (.cst s ls m) = 0 from h)
  have h9 := h0.2.2.1
  have h8 := h0.2.2.2
  simp only [CT.kd, CT.len, show arT 7 = 0 from rfl] at h9
  simp only [leafErr] at h8
  split at h8
  ·
   omega
  ·
   next hnm =>
   split at h8
   ·
    omega
   ·
    next h6 =>
    have hnt : nameB s = true := by cases hb : nameB s with | true => rfl | false => exact absurd hb hnm
    obtain ⟨xs, h1, h2, h3⟩ := hx.2.2.1
    refine ⟨by omega, (nameB_true.1 hnt).2.2, by omega, fun l hl => ?_⟩
    obtain ⟨j, hj, rfl⟩ := List.getElem_of_mem hl
    exact okLv_chk hv (h3 j (xs[j]'(by omega)) _ (List.getElem?_eq_getElem (by omega)) (List.getElem?_eq_getElem hj)).rl (fstErr_zero h8 _ hl)
 | .odd k m, x, d, n, hx, h => by
  have h0 := nodeErr_zero (show nodeErr vn d (n + 1) (.odd k m) = 0 from h)
  have h9 := h0.2.2.1
  have h7 := hx.2.1
  simp only [CT.kd, CT.len] at h9
  omega
/-- What a node has of its own, behind its kind. -/
noncomputable def CT.ownB : CT → List UInt8
 | .var n _ => dig n.toNat
 | .sort l _ => encLv l
 | .cst s ls _ => dig s.data.toList.length ++ s.data.toList ++ encLvs ls
 | _ => []
/-- The bytes of a term. -/
noncomputable def encT : CT → List UInt8
 | .two k a b m => UInt8.ofNat k.toNat :: (encT a ++ encT b)
 | .lt a b c m => 5 :: (encT a ++ (encT b ++ encT c))
 | .var n m => 1 :: (CT.var n m).ownB
 | .sort l m => 2 :: (CT.sort l m).ownB
 | .cst s ls m => 7 :: (CT.cst s ls m).ownB
 | .odd k m => [UInt8.ofNat k.toNat]
theorem encT_eq (c : CT) : encT c = UInt8.ofNat c.kd.toNat :: (c.ownB ++ c.kids.flatMap encT) := by
 cases c <;> simp [encT, CT.kd, CT.ownB, CT.kids]
theorem CT.put_kid {c k : CT} {i : Nat} (h : c.putV) (hk : c.kids[i]? = some k) : k.putV := by
 cases c with
 | two _ a b _ =>
  rcases i with _ | _ | i <;> simp [CT.kids] at hk
  ·
   subst hk; exact h.2.1
  ·
   subst hk; exact h.2.2
 | lt a b c _ =>
  rcases i with _ | _ | _ | i <;> simp [CT.kids] at hk
  ·
   subst hk; exact h.2.1
  ·
   subst hk; exact h.2.2.1
  ·
   subst hk; exact h.2.2.2
 | _ => simp [CT.kids] at hk
theorem CT.put_len {c : CT} (h : c.putV) : c.len = c.kids.length := by
 cases c with
 | odd k m => exact h.elim
 | two k a b m => simp only [CT.len, CT.kids, List.length_cons, List.length_nil, h.1]
 | lt a b c m => simp only [CT.len, CT.kids, List.length_cons, List.length_nil, h.1]
 | var n m => simp only [CT.len, CT.kids, List.length_nil, h.1]
 | sort l m => simp only [CT.len, CT.kids, List.length_nil, h.1]
 | cst s ls m => simp only [CT.len, CT.kids, List.length_nil, h.1]
theorem CT.put_kd {W : World} {A : Nat → Prop} {c : CT} {x : C8} (hx : RC W A c x) (h : c.putV) : 1 ≤ c.kd ∧ c.kd ≤ 7 := by
 cases c with
 | odd k m => exact h.elim
 | two k a b m => have := hx.2.1; simp only [CT.kd]; omega
 | _ => simp only [CT.kd]; omega
theorem CT.own_none {W : World} {A : Nat → Prop} {c : CT} {x : C8} (hx : RC W A c x) (hk : x.k ≠ 1 ∧ x.k ≠ 2 ∧ x.k ≠ 7) : c.ownB = [] := by
 have hkd := hx.kd
 cases c <;> simp only [CT.kd] at hkd <;> first | rfl | omega
theorem flatLv_len {W : World} {A : Nat → Prop} : ∀ (ls : List Lv) (xs : List C3), xs.length = ls.length → (∀ (i : Nat) x l, xs[i]? = some x → ls[i]? = some l → RLn W A x l) → (∀ l ∈ ls, okLv l) → (ls.flatMap encLv).length ≤ 1100 * ls.length
 | [], _, _, _, _ => by simp
 | l :: ls, [], h2, _, _ => by simp at h2
 | l :: ls, x :: xs, h2, h3, hE => by
  have h4 := flatLv_len ls xs (by simpa using h2) (fun i y l' e1 e2 => h3 (i + 1) y l' (by simpa using e1) (by simpa using e2)) (fun l' hl' => hE l' (List.mem_cons_of_mem _ hl'))
  obtain ⟨s, _, _, _, h5⟩ := (hE l List.mem_cons_self).open (h3 0 x l rfl rfl)
  rw [List.flatMap_cons, List.length_append, List.length_cons]
  omega
theorem encLvs_len {W : World} {A : Nat → Prop} {v : Value} {ls : List Lv} (hl : ls.length ≤ 1000) (hV : RVn W A v ls) (hE : ∀ l ∈ ls, okLv l) : (encLvs ls).length ≤ 10 + 1100 * ls.length := by
 obtain ⟨xs, _, h2, h3⟩ := hV
 have hdl := dig_len 9 ls.length (by omega)
 have := flatLv_len ls xs h2 h3 hE
 unfold encLvs
 rw [List.length_append]
 omega
theorem encT_len {W : World} {A : Nat → Prop} : ∀ (c : CT) (x : C8), RC W A c x → c.putV → (encT c).length ≤ 8000 * c.size
 | .var n m, x, hx, h => by
  have := dig_len 9 n.toNat (by have := h.2.1; have := h.2.2; omega)
  simp only [encT, CT.ownB, CT.size, List.length_cons]; omega
 | .sort l m, x, hx, h => by
  obtain ⟨s, _, _, _, h5⟩ := h.2.open hx.2.1
  simp only [encT, CT.ownB, CT.size, List.length_cons]; omega
 | .cst s ls m, x, hx, h => by
  have h1 := encLvs_len (by have := h.2.2.1; omega) hx.2.2.1 h.2.2.2
  have h2 := dig_len 9 s.data.toList.length (by have := h.2.1; omega)
  have h3 := h.2.1
  have h4 := h.2.2.1
  simp only [encT, CT.ownB, CT.size, List.length_cons, List.length_append]; omega
 | .odd k m, x, hx, h => h.elim
 | .two k a b m, x, hx, h => by
  obtain ⟨_, _, ⟨y, z, cs, _, ha, hb⟩, _⟩ := hx
  have h1 := encT_len a y ha h.2.1
  have h2 := encT_len b z hb h.2.2
  simp only [encT, CT.size, List.length_cons, List.length_append]; omega
 | .lt a b c m, x, hx, h => by
  obtain ⟨_, ⟨y, z, u, cs, _, ha, hb, hc⟩, _⟩ := hx
  have h1 := encT_len a y ha h.2.1
  have h2 := encT_len b z hb h.2.2.1
  have h3 := encT_len c u hc h.2.2.2
  simp only [encT, CT.size, List.length_cons, List.length_append]; omega
theorem putTerm321 : ∀ (N : Nat) (c : CT) (x : C8) (base o : Nat) (v : Value) (bs : List UInt8) (w0 : World) (A : Nat → Prop), c.size < N → RC w0 A c x → c.putV → (∀ k, A k → k ≠ o ∧ k < w0.heap.size) →
    w0.ownsRow base 5 1 v bs.length (bs.map encB) → (∀ j, v.ownBlock = some j → j = o) → o < w0.heap.size → base ≤ w0.heap.size → bs.length + (encT c).length + 200 ≤ 140737488355328 → Calls Try.prog 110 #[v, tv x] w0 (PutsY 5 base o w0 (bs ++ encT c)) := by
  intro N
  induction N with
  | zero => intro c x base o v bs w0 A h; omega
  | succ N ih =>
  intro c x base o v bs w0 A hN hx hp hA hO hat ho hb0 hlen
  have h1x := hx.one
  have hx0 := hx
  obtain ⟨av, nv, cv, hts, hle9, hlen9, hcap, hkid⟩ := hx.kids
  have hnv : nv = c.kids.length := by rw [hlen9]; exact CT.put_len hp
  obtain ⟨xk, xn, xs, xl, xls, xts⟩ := x
  simp only at hts
  subst hts hnv
  have hkd : xk = c.kd := hx.kd
  have hkr := CT.put_kd hx hp
  have hes := encT_eq c
  rw [hes] at hlen
  have h3 := c.kids_le
  have hAo : ∀ k, A k → k ≠ o ∧ k ≠ o := fun k h => ⟨(hA k h).1, (hA k h).1⟩
  simp only [List.length_cons, List.length_append] at hlen
  have hK := Ktw.refl o o w0
  have sK := hK.size
  refine calls_fs 49 [(0, v), (1, tv ⟨xk, xn, xs, xl, xls, .slice av c.kids.length cv⟩)] Try.func110 rfl rfl rfl rfl rfl fun a F => ?_
  refine wp_rs fun _ K1 => ?_
  refine s_box ([.int .i64 xk, .int .i64 xn, .string xs, .int .i64 xl.1, .int .i64 xl.2.1, xl.2.2, xls, .slice av c.kids.length cv]) F (by decide) rfl rfl fun w2 b3 a eb3 m3 B3 zb3 F => ?_
  have sB3 := B3.size
  have hK := hK.below B3
  have hO := own_below hO B3
  refine F.sg rfl fun a F => ?_
  refine s_end (K1 _ _ ?_)
  refine wp_rs fun _ K2 => F.mv rfl fun a F => F.vl (x_fa0 fa27_0 rfl) fun a F => F.ld m3 flat3 rfl rfl fun a F => F.vl (x_i2b (m := c.kd.toNat) Try.underlying3 Try.underlying5 (by rw [show ((c.kd.toNat : Nat) : Int) = xk by omega]; rfl)) fun a F => ?_
  refine s_litG [encB (UInt8.ofNat c.kd.toNat)] el503 F (by decide) rfl (by simp [Value.cells, encB]) rfl (by decide) (by decide) fun w4 bl a ebl ml B5 zbl F => ?_
  have sB5 := B5.size
  have hK := hK.below B5
  have hO := own_below hO B5
  have m3 := m3.old B5
  have ml : Blk w4 bl 5 ([UInt8.ofNat c.kd.toNat].map encB) := ml
  have hlY : (bs).length + ([UInt8.ofNat c.kd.toNat]).length ≤ 140737488355328 := by simp only [List.length_cons, List.length_nil]; omega
  refine s_appP (o := o) (p := ([UInt8.ofNat c.kd.toNat]).length) (ys := ([UInt8.ofNat c.kd.toNat]).map encB) el503 F (by decide) rfl rfl hO (Rd.blk ml rfl) (oneY _) hat (by omega) (by omega) (by unfold maxLen; omega) (by omega) fun v2 w6 a o2 hOn hatn hon k7 F => ?_
  clear hO hat
  have hat := hatn
  have hO : w6.ownsRow base 5 1 v2 (bs ++ ([UInt8.ofNat c.kd.toNat])).length ((bs ++ ([UInt8.ofNat c.kd.toNat])).map encB) := by rw [List.length_append, List.map_append]; exact hOn
  clear hOn hatn
  have sk7 := k7.size
  have hK := hK.trans k7 (by omega)
  have m3 := m3.k2 k7 (by omega)
  refine F.sg rfl fun a F => ?_
  refine s_end (K2 _ _ ?_)
  refine wp_seq_k fun K3 hK3 => ?_
  have key3 : ∀ (a : Act) (w9 : World) (v9 : Value) (o9 : Nat), w9.ownsRow base 5 1 v9 (bs ++ [UInt8.ofNat c.kd.toNat] ++ c.ownB).length ((bs ++ [UInt8.ofNat c.kd.toNat] ++ c.ownB).map encB) → (∀ j, v9.ownBlock = some j → j = o9) → (((o9 = o ∨ w0.heap.size ≤ o9) ∧ b3 ≠ o9) ∧ o9 < w9.heap.size) → Blk w9 b3 27 [.int .i64 xk, .int .i64 xn, .string xs, .int .i64 xl.1, .int .i64 xl.2.1, xl.2.2, xls, .slice av c.kids.length cv] → Ktw o o w0 w9 → Fs 49 a [(0, v9), (3, .pointer (some ⟨b3, 0, none⟩))] → K3 a w9 := by
    have hb3w : w0.heap.size ≤ b3 := by omega
    clear hO hat hK m3
    repeat clear F
    intro a w9 v9 o9 hO hat ho9 m3 hK F
    have sK := hK.size
    have hm3l := m3.lt
    refine hK3 _ _ ?_
    refine wp_seq_k fun _ K4 => ?_
    refine wp_rs fun _ K5 => F.vl (x_fa0 fa27_5 rfl) fun a F => F.ld m3 flat25 rfl rfl fun a F => F.vl (x_len Try.underlying25 rfl) fun a F => F.mv rfl fun a F => ?_
    refine s_end (K5 _ _ ?_)
    refine wp_block ?_
    refine wp_up c.kids.length (fun i a w => ∃ v' o', w.ownsRow base 5 1 v' (bs ++ [UInt8.ofNat c.kd.toNat] ++ c.ownB ++ (c.kids.take i).flatMap encT).length ((bs ++ [UInt8.ofNat c.kd.toNat] ++ c.ownB ++ (c.kids.take i).flatMap encT).map encB) ∧ (∀ j, v'.ownBlock = some j → j = o') ∧ (((o' = o ∨ w0.heap.size ≤ o') ∧ b3 ≠ o') ∧ o' < w.heap.size) ∧ Blk w b3 27 [.int .i64 xk, .int .i64 xn, .string xs, .int .i64 xl.1, .int .i64 xl.2.1, xl.2.2, xls, .slice av c.kids.length cv] ∧ Ktw o o w0 w ∧ Fs 49 a [(0, v'), (3, .pointer (some ⟨b3, 0, none⟩)), (38, .slice av c.kids.length cv), (39, .int .i64 (c.kids.length : Int)), (40, .int .i64 (i : Int))]) ⟨v9, o9, by simpa using hO, hat, ho9, m3, hK, F.sub _ rfl⟩ ?_
    clear hO hat hK m3
    repeat clear F
    rintro i a w hi ⟨v1, o1, hO, hat, ho1, m3, hK, F⟩ K' hK'
    have sK := hK.size
    have hm3l := m3.lt
    refine wp_rs fun _ K6 => F.vl (x_lss (b := decide (i < c.kids.length)) (decide_eq_decide.2 (by omega)) rfl rfl) fun a F => ?_
    refine s_end (K6 _ _ ?_)
    refine wp_seq_k fun _ K7 => ?_
    refine wp_iff F rfl (fun hc41 => ?_) (fun hc41 => ?_)
    · obtain ⟨b9, off9, c9, y, kd, hve, hki, hry, hAb, hbl, hrow⟩ := hkid.row (i := i) (by omega)
      cases hve
      have hks := CT.kid_size hki
      have hkp := CT.put_kid hp hki
      have h1y := hry.one
      have hfs := flat_snoc (f := encT) hki
      have hfl := flat_le (f := encT) hki
      refine wp_skip (K7 _ _ ?_)
      refine wp_seq_k fun _ K8 => ?_
      refine wp_block ?_
      refine wp_rs fun _ K9 => F.vl (x_ixa rfl rfl (m_ixsK i Try.underlying25 el25.size rfl (by omega))) fun a F => F.vl (x_ldA wide27 (hrow _ (hK.block _ hbl (hAo _ hAb))) rfl rfl) fun a F => ?_
      refine s_alloc F (by decide) zero27 fun w8 b6 a eb6 m6 B9 zb6 F => ?_
      have sB9 := B9.size
      have hK := hK.below B9
      have m3 := m3.old B9
      have hO := own_below hO B9
      refine s_putW F rfl rfl (size_wide wide27) m6 rfl h1y fun w12 m6 o13 => ?_
      have so13 := o13.size
      have hK := hK.only o13 (by omega)
      have m3 := m3.only o13 (by omega)
      have hO := own_only hO o13 (fun e => by have := hat _ e; omega)
      refine s_end (K9 _ _ ?_)
      refine wp_region_lit ?_
      refine F.mv rfl fun a F => F.vl (x_ldW wide27 m6 rfl rfl) fun a F => ?_
      refine s_call (R := fun u w' => (∃ o', w'.ownsRow base 5 1 u ((bs ++ [UInt8.ofNat c.kd.toNat] ++ c.ownB ++ (c.kids.take i).flatMap encT) ++ encT kd).length (((bs ++ [UInt8.ofNat c.kd.toNat] ++ c.ownB ++ (c.kids.take i).flatMap encT) ++ encT kd).map encB) ∧ (∀ j, u.ownBlock = some j → j = o') ∧ ((o' = o1 ∨ w12.heap.size ≤ o') ∧ o' < w'.heap.size)) ∧ Ktw o1 o1 w12 w') F [_, _] E110 rfl (by decide) (ih kd y base o1 v1 _ w12 A (by omega) (hry.keep hK.size (fun k ha hk => hK.block k hk (hAo k ha))) hkp (fun k hk => by have := hA k hk; omega) hO hat (by omega) (by omega) (by simp only [List.length_append, List.length_cons, List.length_nil]; omega)) ?_
      rintro v5 w14 a ⟨⟨o5, hOn, hatn, hon⟩, k15⟩ F
      clear hO hat
      have hO := hOn
      have hat := hatn
      clear hOn hatn
      have sk15 := k15.size
      have hK := hK.trans k15 (by omega)
      have m3 := m3.k2 k15 (by omega)
      refine F.sg rfl fun a F => ?_
      refine s_end (K8 _ _ ?_)
      refine wp_region_lit ?_
      refine F.vl (x_addn (i + 1) (by omega) (by omega) rfl rfl) fun a F => F.mv rfl fun a F => ?_
      refine s_end (hK' _ _ (by omega) ⟨v5, o5, by rw [hfs, ← List.append_assoc]; exact hO, hat, by omega, m3, hK, F.sub _ rfl⟩)
    · obtain rfl : i = c.kids.length := by omega
      rw [List.take_of_length_le (Nat.le_refl _)] at hO
      refine wp_exit (K4 _ _ ?_)
      refine wp_rs fun _ K10 => F.mv rfl fun a F => F.sg rfl fun a F => ?_
      refine s_end (K10 _ _ ?_)
      refine wp_ret (res_slot F rfl rfl ⟨v1, rfl, ⟨o1, ?_, hat, by omega⟩, hK⟩)
      rw [hes]
      simpa using hO
  refine wp_rs fun _ K11 => F.vl (x_fa0 fa27_0 rfl) fun a F => F.ld m3 flat3 rfl rfl fun a F => ?_
  refine s_end (K11 _ _ ?_)
  refine wp_block ?_
  rcases (show xk = 1 ∨ (xk ≠ 1 ∧ xk = 2) ∨ (xk ≠ 1 ∧ xk ≠ 2 ∧ xk = 7) ∨ (xk ≠ 1 ∧ xk ≠ 2 ∧ xk ≠ 7) by omega) with hq | hq | hq | hq
  · obtain ⟨n, m, hc⟩ := hx.var_of hq
    have hp2 := hp
    have hx2 := hx
    rw [hc] at hp2 hx2
    have hn1 := hp2.2.1
    have hn2 := hp2.2.2
    have hxn : xn = n := hx2.2.1
    have hni : xn = ((n.toNat : Nat) : Int) := by omega
    have hdl := dig_len 9 n.toNat (by omega)
    have hown : c.ownB = dig n.toNat := by rw [hc]; rfl
    rw [hown] at hlen
    refine wp_rs fun _ K13 => F.vl (eqlT (by omega) rfl rfl) fun a F => F.sg rfl fun a F => ?_
    refine s_end (K13 _ _ ?_)
    refine wp_if F rfl ?_
    refine wp_region_lit ?_
    refine F.mv rfl fun a F => F.vl (x_fa0 fa27_1 rfl) fun a F => F.ld m3 flat3 rfl rfl fun a F => ?_
    refine s_call (R := fun u w' => (∃ o', w'.ownsRow base 5 1 u (bs ++ [UInt8.ofNat c.kd.toNat] ++ dig n.toNat).length ((bs ++ [UInt8.ofNat c.kd.toNat] ++ dig n.toNat).map encB) ∧ (∀ j, u.ownBlock = some j → j = o') ∧ ((o' = o2 ∨ w6.heap.size ≤ o') ∧ o' < w'.heap.size)) ∧ Ktw o2 o2 w6 w') F [_, _] E109 rfl (by decide) (by rw [show xn = ((n.toNat : Nat) : Int) by omega]; exact putNumber320 base o2 v2 _ n.toNat w6 hO hat (by omega) (by omega) (by omega) (by simp only [List.length_append, List.length_cons, List.length_nil]; omega)) ?_
    rintro v4 w16 a ⟨⟨o4, hOn, hatn, hon⟩, k17⟩ F
    clear hO hat
    have hO := hOn
    have hat := hatn
    clear hOn hatn
    have sk17 := k17.size
    have hK := hK.trans k17 (by omega)
    have m3 := m3.k2 k17 (by omega)
    refine F.sg rfl fun a F => ?_
    refine s_end ?_
    exact key3 _ _ v4 o4 (by rw [hown]; simpa using hO) hat (by omega) m3 hK (F.sub _ rfl)
  · obtain ⟨l, m, hc⟩ := hx.sort_of hq.2
    have hp2 := hp
    have hx2 := hx
    rw [hc] at hp2 hx2
    obtain ⟨s, hrs, hnu, hels, hel⟩ := hp2.2.open hx2.2.1
    have hown : c.ownB = encLv l := by rw [hc]; rfl
    rw [hown] at hlen
    rw [hels] at hown
    refine wp_rs fun _ K14 => F.vl (eqlF (by omega) rfl rfl) fun a F => F.sg rfl fun a F => ?_
    refine s_end (K14 _ _ ?_)
    refine wp_if F rfl ?_
    refine wp_rs fun _ K15 => F.vl (eqlT (by omega) rfl rfl) fun a F => F.sg rfl fun a F => ?_
    refine s_end (K15 _ _ ?_)
    refine wp_if F rfl ?_
    refine wp_region_lit ?_
    refine F.mv rfl fun a F => F.vl (x_fa0 fa27_3 rfl) fun a F => F.vl (x_load rfl (m_loadP (vs := [_, _, _]) wide24 m3 rfl)) fun a F => ?_
    refine s_call (R := fun u w' => (∃ o', w'.ownsRow base 5 1 u (bs ++ [UInt8.ofNat c.kd.toNat] ++ encS s).length ((bs ++ [UInt8.ofNat c.kd.toNat] ++ encS s).map encB) ∧ (∀ j, u.ownBlock = some j → j = o') ∧ ((o' = o2 ∨ w6.heap.size ≤ o') ∧ o' < w'.heap.size)) ∧ Ktw o2 o2 w6 w') F [_, _] E141 rfl (by decide) (putLevel328 (s.size + 1) s xl base o2 v2 _ w6 A (by omega) (hrs.keep hK.size (fun k ha hk => hK.block k hk (hAo k ha))) hnu (fun k hk => by have := hA k hk; omega) hO hat (by omega) (by omega) (by rw [← hels]; simp only [List.length_append, List.length_cons, List.length_nil]; omega)) ?_
    rintro v4 w18 a ⟨⟨o4, hOn, hatn, hon⟩, k19⟩ F
    clear hO hat
    have hO := hOn
    have hat := hatn
    clear hOn hatn
    have sk19 := k19.size
    have hK := hK.trans k19 (by omega)
    have m3 := m3.k2 k19 (by omega)
    refine F.sg rfl fun a F => ?_
    refine s_end ?_
    exact key3 _ _ v4 o4 (by rw [hown]; simpa using hO) hat (by omega) m3 hK (F.sub _ rfl)
  · obtain ⟨s, ls, m, hc⟩ := hx.cst_of hq.2.2
    have hp2 := hp
    have hx2 := hx
    rw [hc] at hp2 hx2
    have hpn := hp2.2.1
    have hpl := hp2.2.2.1
    have hpe := hp2.2.2.2
    have hvl : RVn w0 A xls ls := hx2.2.2.1
    have hxs : xs = s := hx2.2.1
    subst hxs
    obtain ⟨a7, c7, hv7, _⟩ := hvl.form
    subst hv7
    have hdl := dig_len 9 xs.data.toList.length (by omega)
    have hdl2 := dig_len 9 ls.length (by omega)
    have hev : (encLvs ls).length = (dig ls.length).length + (ls.flatMap encLv).length := by unfold encLvs; rw [List.length_append]
    have hown : c.ownB = dig xs.data.toList.length ++ xs.data.toList ++ encLvs ls := by rw [hc]; rfl
    rw [hown] at hlen
    simp only [List.length_append] at hlen
    refine wp_rs fun _ K16 => F.vl (eqlF (by omega) rfl rfl) fun a F => F.sg rfl fun a F => ?_
    refine s_end (K16 _ _ ?_)
    refine wp_if F rfl ?_
    refine wp_rs fun _ K17 => F.vl (eqlF (by omega) rfl rfl) fun a F => F.sg rfl fun a F => ?_
    refine s_end (K17 _ _ ?_)
    refine wp_if F rfl ?_
    refine wp_rs fun _ K18 => F.vl (eqlT (by omega) rfl rfl) fun a F => F.sg rfl fun a F => ?_
    refine s_end (K18 _ _ ?_)
    refine wp_if F rfl ?_
    refine wp_rs fun _ K19 => F.mv rfl fun a F => F.vl (x_fa0 fa27_2 rfl) fun a F => F.ld m3 flat9 rfl rfl fun a F => ?_
    refine s_call (R := fun u w' => (∃ o', w'.ownsRow base 5 1 u (bs ++ [UInt8.ofNat c.kd.toNat] ++ (dig xs.data.toList.length ++ xs.data.toList)).length ((bs ++ [UInt8.ofNat c.kd.toNat] ++ (dig xs.data.toList.length ++ xs.data.toList)).map encB) ∧ (∀ j, u.ownBlock = some j → j = o') ∧ ((o' = o2 ∨ w6.heap.size ≤ o') ∧ o' < w'.heap.size)) ∧ Ktw o2 o2 w6 w') F [_, _] E108 rfl (by decide) (putName319 base o2 v2 _ xs w6 hO hat (by omega) (by omega) (by simp only [List.length_append, List.length_cons, List.length_nil]; omega)) ?_
    rintro v4 w20 a ⟨⟨o4, hOn, hatn, hon⟩, k21⟩ F
    clear hO hat
    have hO := hOn
    have hat := hatn
    clear hOn hatn
    have sk21 := k21.size
    have hK := hK.trans k21 (by omega)
    have m3 := m3.k2 k21 (by omega)
    refine F.sg rfl fun a F => ?_
    refine s_end (K19 _ _ ?_)
    refine wp_region_lit ?_
    refine F.mv rfl fun a F => F.vl (x_fa0 fa27_4 rfl) fun a F => F.ld m3 flat22 rfl rfl fun a F => ?_
    refine s_call (R := fun u w' => (∃ o', w'.ownsRow base 5 1 u (bs ++ [UInt8.ofNat c.kd.toNat] ++ (dig xs.data.toList.length ++ xs.data.toList) ++ encLvs ls).length ((bs ++ [UInt8.ofNat c.kd.toNat] ++ (dig xs.data.toList.length ++ xs.data.toList) ++ encLvs ls).map encB) ∧ (∀ j, u.ownBlock = some j → j = o') ∧ ((o' = o4 ∨ w20.heap.size ≤ o') ∧ o' < w'.heap.size)) ∧ Ktw o4 o4 w20 w') F [_, _, _] E142 rfl (by decide) (putList329 base o4 v4 _ A _ ls w20 (fun k hk => by have := hA k hk; omega) (hvl.keep hK.size (fun k ha hk => hK.block k hk (hAo k ha))) hpe (by omega) hO hat (by omega) (by omega) (by simp only [List.length_append, List.length_cons, List.length_nil]; omega)) ?_
    rintro v6 w22 a ⟨⟨o6, hOn, hatn, hon⟩, k23⟩ F
    clear hO hat
    have hO := hOn
    have hat := hatn
    clear hOn hatn
    have sk23 := k23.size
    have hK := hK.trans k23 (by omega)
    have m3 := m3.k2 k23 (by omega)
    refine F.sg rfl fun a F => ?_
    refine s_end ?_
    exact key3 _ _ v6 o6 (by rw [hown]; simpa using hO) hat (by omega) m3 hK (F.sub _ rfl)
  · have hown := CT.own_none hx0 hq
    refine wp_rs fun _ K20 => F.vl (eqlF (by omega) rfl rfl) fun a F => F.sg rfl fun a F => ?_
    refine s_end (K20 _ _ ?_)
    refine wp_if F rfl ?_
    refine wp_rs fun _ K21 => F.vl (eqlF (by omega) rfl rfl) fun a F => F.sg rfl fun a F => ?_
    refine s_end (K21 _ _ ?_)
    refine wp_if F rfl ?_
    refine wp_rs fun _ K22 => F.vl (eqlF (by omega) rfl rfl) fun a F => F.sg rfl fun a F => ?_
    refine s_end (K22 _ _ ?_)
    refine wp_if F rfl ?_
    refine wp_skip ?_
    exact key3 _ _ v2 o2 (by rw [hown]; simpa using hO) hat (by omega) m3 hK (F.sub _ rfl)
theorem putTerm313 : ∀ (N : Nat) (c : CT) (x : C8) (base o : Nat) (v : Value) (bs : List UInt8) (w0 : World) (A : Nat → Prop), c.size < N → RC w0 A c x → c.putV → (∀ k, A k → k ≠ o ∧ k < w0.heap.size) →
    w0.ownsRow base 5 1 v bs.length (bs.map encB) → (∀ j, v.ownBlock = some j → j = o) → o < w0.heap.size → base ≤ w0.heap.size → bs.length + (encT c).length + 200 ≤ 140737488355328 → Calls Try.prog 67 #[v, tv x] w0 (PutsY 5 base o w0 (bs ++ encT c)) := by
  intro N
  induction N with
  | zero => intro c x base o v bs w0 A h; omega
  | succ N ih =>
  intro c x base o v bs w0 A hN hx hp hA hO hat ho hb0 hlen
  have h1x := hx.one
  have hx0 := hx
  obtain ⟨av, nv, cv, hts, hle9, hlen9, hcap, hkid⟩ := hx.kids
  have hnv : nv = c.kids.length := by rw [hlen9]; exact CT.put_len hp
  obtain ⟨xk, xn, xs, xl, xls, xts⟩ := x
  simp only at hts
  subst hts hnv
  have hkd : xk = c.kd := hx.kd
  have hkr := CT.put_kd hx hp
  have hes := encT_eq c
  rw [hes] at hlen
  have h3 := c.kids_le
  have hAo : ∀ k, A k → k ≠ o ∧ k ≠ o := fun k h => ⟨(hA k h).1, (hA k h).1⟩
  simp only [List.length_cons, List.length_append] at hlen
  have hK := Ktw.refl o o w0
  have sK := hK.size
  refine calls_fs 65 [(0, v), (1, tv ⟨xk, xn, xs, xl, xls, .slice av c.kids.length cv⟩)] Try.func67 rfl rfl rfl rfl rfl fun a F => ?_
  refine wp_rs fun _ K1 => ?_
  refine s_box ([.int .i64 xk, .int .i64 xn, .string xs, .int .i64 xl.1, .int .i64 xl.2.1, xl.2.2, xls, .slice av c.kids.length cv]) F (by decide) rfl rfl fun w2 b3 a eb3 m3 B3 zb3 F => ?_
  have sB3 := B3.size
  have hK := hK.below B3
  have hO := own_below hO B3
  refine F.sg rfl fun a F => ?_
  refine s_end (K1 _ _ ?_)
  refine wp_rs fun _ K2 => F.mv rfl fun a F => F.vl (x_fa0 fa27_0 rfl) fun a F => F.ld m3 flat3 rfl rfl fun a F => F.vl (x_i2b (m := c.kd.toNat) Try.underlying3 Try.underlying5 (by rw [show ((c.kd.toNat : Nat) : Int) = xk by omega]; rfl)) fun a F => ?_
  refine s_litG [encB (UInt8.ofNat c.kd.toNat)] el503 F (by decide) rfl (by simp [Value.cells, encB]) rfl (by decide) (by decide) fun w4 bl a ebl ml B5 zbl F => ?_
  have sB5 := B5.size
  have hK := hK.below B5
  have hO := own_below hO B5
  have m3 := m3.old B5
  have ml : Blk w4 bl 5 ([UInt8.ofNat c.kd.toNat].map encB) := ml
  have hlY : (bs).length + ([UInt8.ofNat c.kd.toNat]).length ≤ 140737488355328 := by simp only [List.length_cons, List.length_nil]; omega
  refine s_appP (o := o) (p := ([UInt8.ofNat c.kd.toNat]).length) (ys := ([UInt8.ofNat c.kd.toNat]).map encB) el503 F (by decide) rfl rfl hO (Rd.blk ml rfl) (oneY _) hat (by omega) (by omega) (by unfold maxLen; omega) (by omega) fun v2 w6 a o2 hOn hatn hon k7 F => ?_
  clear hO hat
  have hat := hatn
  have hO : w6.ownsRow base 5 1 v2 (bs ++ ([UInt8.ofNat c.kd.toNat])).length ((bs ++ ([UInt8.ofNat c.kd.toNat])).map encB) := by rw [List.length_append, List.map_append]; exact hOn
  clear hOn hatn
  have sk7 := k7.size
  have hK := hK.trans k7 (by omega)
  have m3 := m3.k2 k7 (by omega)
  refine F.sg rfl fun a F => ?_
  refine s_end (K2 _ _ ?_)
  refine wp_seq_k fun K3 hK3 => ?_
  have key3 : ∀ (a : Act) (w9 : World) (v9 : Value) (o9 : Nat), w9.ownsRow base 5 1 v9 (bs ++ [UInt8.ofNat c.kd.toNat] ++ c.ownB).length ((bs ++ [UInt8.ofNat c.kd.toNat] ++ c.ownB).map encB) → (∀ j, v9.ownBlock = some j → j = o9) → (((o9 = o ∨ w0.heap.size ≤ o9) ∧ b3 ≠ o9) ∧ o9 < w9.heap.size) → Blk w9 b3 27 [.int .i64 xk, .int .i64 xn, .string xs, .int .i64 xl.1, .int .i64 xl.2.1, xl.2.2, xls, .slice av c.kids.length cv] → Ktw o o w0 w9 → Fs 65 a [(0, v9), (3, .pointer (some ⟨b3, 0, none⟩))] → K3 a w9 := by
    have hb3w : w0.heap.size ≤ b3 := by omega
    clear hO hat hK m3
    repeat clear F
    intro a w9 v9 o9 hO hat ho9 m3 hK F
    have sK := hK.size
    have hm3l := m3.lt
    refine hK3 _ _ ?_
    refine wp_seq_k fun _ K4 => ?_
    refine wp_rs fun _ K5 => F.vl (x_fa0 fa27_5 rfl) fun a F => F.ld m3 flat25 rfl rfl fun a F => F.vl (x_len Try.underlying25 rfl) fun a F => F.mv rfl fun a F => ?_
    refine s_end (K5 _ _ ?_)
    refine wp_block ?_
    refine wp_up c.kids.length (fun i a w => ∃ v' o', w.ownsRow base 5 1 v' (bs ++ [UInt8.ofNat c.kd.toNat] ++ c.ownB ++ (c.kids.take i).flatMap encT).length ((bs ++ [UInt8.ofNat c.kd.toNat] ++ c.ownB ++ (c.kids.take i).flatMap encT).map encB) ∧ (∀ j, v'.ownBlock = some j → j = o') ∧ (((o' = o ∨ w0.heap.size ≤ o') ∧ b3 ≠ o') ∧ o' < w.heap.size) ∧ Blk w b3 27 [.int .i64 xk, .int .i64 xn, .string xs, .int .i64 xl.1, .int .i64 xl.2.1, xl.2.2, xls, .slice av c.kids.length cv] ∧ Ktw o o w0 w ∧ Fs 65 a [(0, v'), (3, .pointer (some ⟨b3, 0, none⟩)), (54, .slice av c.kids.length cv), (55, .int .i64 (c.kids.length : Int)), (56, .int .i64 (i : Int))]) ⟨v9, o9, by simpa using hO, hat, ho9, m3, hK, F.sub _ rfl⟩ ?_
    clear hO hat hK m3
    repeat clear F
    rintro i a w hi ⟨v1, o1, hO, hat, ho1, m3, hK, F⟩ K' hK'
    have sK := hK.size
    have hm3l := m3.lt
    refine wp_rs fun _ K6 => F.vl (x_lss (b := decide (i < c.kids.length)) (decide_eq_decide.2 (by omega)) rfl rfl) fun a F => ?_
    refine s_end (K6 _ _ ?_)
    refine wp_seq_k fun _ K7 => ?_
    refine wp_iff F rfl (fun hc57 => ?_) (fun hc57 => ?_)
    · obtain ⟨b9, off9, c9, y, kd, hve, hki, hry, hAb, hbl, hrow⟩ := hkid.row (i := i) (by omega)
      cases hve
      have hks := CT.kid_size hki
      have hkp := CT.put_kid hp hki
      have h1y := hry.one
      have hfs := flat_snoc (f := encT) hki
      have hfl := flat_le (f := encT) hki
      refine wp_skip (K7 _ _ ?_)
      refine wp_seq_k fun _ K8 => ?_
      refine wp_block ?_
      refine wp_rs fun _ K9 => F.vl (x_ixa rfl rfl (m_ixsK i Try.underlying25 el25.size rfl (by omega))) fun a F => F.vl (x_ldA wide27 (hrow _ (hK.block _ hbl (hAo _ hAb))) rfl rfl) fun a F => ?_
      refine s_alloc F (by decide) zero27 fun w8 b8 a eb8 m8 B9 zb8 F => ?_
      have sB9 := B9.size
      have hK := hK.below B9
      have m3 := m3.old B9
      have hO := own_below hO B9
      refine s_putW F rfl rfl (size_wide wide27) m8 rfl h1y fun w12 m8 o13 => ?_
      have so13 := o13.size
      have hK := hK.only o13 (by omega)
      have m3 := m3.only o13 (by omega)
      have hO := own_only hO o13 (fun e => by have := hat _ e; omega)
      refine s_end (K9 _ _ ?_)
      refine wp_region_lit ?_
      refine F.mv rfl fun a F => F.vl (x_ldW wide27 m8 rfl rfl) fun a F => ?_
      refine s_call (R := fun u w' => (∃ o', w'.ownsRow base 5 1 u ((bs ++ [UInt8.ofNat c.kd.toNat] ++ c.ownB ++ (c.kids.take i).flatMap encT) ++ encT kd).length (((bs ++ [UInt8.ofNat c.kd.toNat] ++ c.ownB ++ (c.kids.take i).flatMap encT) ++ encT kd).map encB) ∧ (∀ j, u.ownBlock = some j → j = o') ∧ ((o' = o1 ∨ w12.heap.size ≤ o') ∧ o' < w'.heap.size)) ∧ Ktw o1 o1 w12 w') F [_, _] E67 rfl (by decide) (ih kd y base o1 v1 _ w12 A (by omega) (hry.keep hK.size (fun k ha hk => hK.block k hk (hAo k ha))) hkp (fun k hk => by have := hA k hk; omega) hO hat (by omega) (by omega) (by simp only [List.length_append, List.length_cons, List.length_nil]; omega)) ?_
      rintro v5 w14 a ⟨⟨o5, hOn, hatn, hon⟩, k15⟩ F
      clear hO hat
      have hO := hOn
      have hat := hatn
      clear hOn hatn
      have sk15 := k15.size
      have hK := hK.trans k15 (by omega)
      have m3 := m3.k2 k15 (by omega)
      refine F.sg rfl fun a F => ?_
      refine s_end (K8 _ _ ?_)
      refine wp_region_lit ?_
      refine F.vl (x_addn (i + 1) (by omega) (by omega) rfl rfl) fun a F => F.mv rfl fun a F => ?_
      refine s_end (hK' _ _ (by omega) ⟨v5, o5, by rw [hfs, ← List.append_assoc]; exact hO, hat, by omega, m3, hK, F.sub _ rfl⟩)
    · obtain rfl : i = c.kids.length := by omega
      rw [List.take_of_length_le (Nat.le_refl _)] at hO
      refine wp_exit (K4 _ _ ?_)
      refine wp_rs fun _ K10 => F.mv rfl fun a F => F.sg rfl fun a F => ?_
      refine s_end (K10 _ _ ?_)
      refine wp_ret (res_slot F rfl rfl ⟨v1, rfl, ⟨o1, ?_, hat, by omega⟩, hK⟩)
      rw [hes]
      simpa using hO
  refine wp_rs fun _ K11 => F.vl (x_fa0 fa27_0 rfl) fun a F => F.ld m3 flat3 rfl rfl fun a F => ?_
  refine s_end (K11 _ _ ?_)
  refine wp_block ?_
  rcases (show xk = 1 ∨ (xk ≠ 1 ∧ xk = 2) ∨ (xk ≠ 1 ∧ xk ≠ 2 ∧ xk = 7) ∨ (xk ≠ 1 ∧ xk ≠ 2 ∧ xk ≠ 7) by omega) with hq | hq | hq | hq
  · obtain ⟨n, m, hc⟩ := hx.var_of hq
    have hp2 := hp
    have hx2 := hx
    rw [hc] at hp2 hx2
    have hn1 := hp2.2.1
    have hn2 := hp2.2.2
    have hxn : xn = n := hx2.2.1
    have hni : xn = ((n.toNat : Nat) : Int) := by omega
    have hdl := dig_len 9 n.toNat (by omega)
    have hown : c.ownB = dig n.toNat := by rw [hc]; rfl
    rw [hown] at hlen
    refine wp_rs fun _ K13 => F.vl (eqlT (by omega) rfl rfl) fun a F => F.sg rfl fun a F => ?_
    refine s_end (K13 _ _ ?_)
    refine wp_if F rfl ?_
    refine wp_region_lit ?_
    refine F.mv rfl fun a F => F.vl (x_fa0 fa27_1 rfl) fun a F => F.ld m3 flat3 rfl rfl fun a F => F.vl (x_i2d (m := n.toNat) Try.underlying3 Try.underlying54 (by rw [← hni]; rfl)) fun a F => ?_
    refine s_call (R := fun u w' => (∃ o', w'.ownsRow base 5 1 u (bs ++ [UInt8.ofNat c.kd.toNat] ++ dig n.toNat).length ((bs ++ [UInt8.ofNat c.kd.toNat] ++ dig n.toNat).map encB) ∧ (∀ j, u.ownBlock = some j → j = o') ∧ ((o' = o2 ∨ w6.heap.size ≤ o') ∧ o' < w'.heap.size)) ∧ Ktw o2 o2 w6 w') F [_, _] E68 rfl (by decide) (by have h := Put314 base o2 v2 _ (UInt64.ofNat n.toNat) w6 hO hat (by omega) (by omega) (by simp only [List.length_append, List.length_cons, List.length_nil]; omega); rw [d2n (by omega)] at h; exact h) ?_
    rintro v4 w16 a ⟨⟨o4, hOn, hatn, hon⟩, k17⟩ F
    clear hO hat
    have hO := hOn
    have hat := hatn
    clear hOn hatn
    have sk17 := k17.size
    have hK := hK.trans k17 (by omega)
    have m3 := m3.k2 k17 (by omega)
    refine F.sg rfl fun a F => ?_
    refine s_end ?_
    exact key3 _ _ v4 o4 (by rw [hown]; simpa using hO) hat (by omega) m3 hK (F.sub _ rfl)
  · obtain ⟨l, m, hc⟩ := hx.sort_of hq.2
    have hp2 := hp
    have hx2 := hx
    rw [hc] at hp2 hx2
    obtain ⟨s, hrs, hnu, hels, hel⟩ := hp2.2.open hx2.2.1
    have hown : c.ownB = encLv l := by rw [hc]; rfl
    rw [hown] at hlen
    rw [hels] at hown
    refine wp_rs fun _ K14 => F.vl (eqlF (by omega) rfl rfl) fun a F => F.sg rfl fun a F => ?_
    refine s_end (K14 _ _ ?_)
    refine wp_if F rfl ?_
    refine wp_rs fun _ K15 => F.vl (eqlT (by omega) rfl rfl) fun a F => F.sg rfl fun a F => ?_
    refine s_end (K15 _ _ ?_)
    refine wp_if F rfl ?_
    refine wp_region_lit ?_
    refine F.mv rfl fun a F => F.vl (x_fa0 fa27_3 rfl) fun a F => F.vl (x_load rfl (m_loadP (vs := [_, _, _]) wide24 m3 rfl)) fun a F => ?_
    refine s_call (R := fun u w' => (∃ o', w'.ownsRow base 5 1 u (bs ++ [UInt8.ofNat c.kd.toNat] ++ encS s).length ((bs ++ [UInt8.ofNat c.kd.toNat] ++ encS s).map encB) ∧ (∀ j, u.ownBlock = some j → j = o') ∧ ((o' = o2 ∨ w6.heap.size ≤ o') ∧ o' < w'.heap.size)) ∧ Ktw o2 o2 w6 w') F [_, _] E113 rfl (by decide) (putLevel324 (s.size + 1) s xl base o2 v2 _ w6 A (by omega) (hrs.keep hK.size (fun k ha hk => hK.block k hk (hAo k ha))) hnu (fun k hk => by have := hA k hk; omega) hO hat (by omega) (by omega) (by rw [← hels]; simp only [List.length_append, List.length_cons, List.length_nil]; omega)) ?_
    rintro v4 w18 a ⟨⟨o4, hOn, hatn, hon⟩, k19⟩ F
    clear hO hat
    have hO := hOn
    have hat := hatn
    clear hOn hatn
    have sk19 := k19.size
    have hK := hK.trans k19 (by omega)
    have m3 := m3.k2 k19 (by omega)
    refine F.sg rfl fun a F => ?_
    refine s_end ?_
    exact key3 _ _ v4 o4 (by rw [hown]; simpa using hO) hat (by omega) m3 hK (F.sub _ rfl)
  · obtain ⟨s, ls, m, hc⟩ := hx.cst_of hq.2.2
    have hp2 := hp
    have hx2 := hx
    rw [hc] at hp2 hx2
    have hpn := hp2.2.1
    have hpl := hp2.2.2.1
    have hpe := hp2.2.2.2
    have hvl : RVn w0 A xls ls := hx2.2.2.1
    have hxs : xs = s := hx2.2.1
    subst hxs
    obtain ⟨a7, c7, hv7, _⟩ := hvl.form
    subst hv7
    have hdl := dig_len 9 xs.data.toList.length (by omega)
    have hdl2 := dig_len 9 ls.length (by omega)
    have hev : (encLvs ls).length = (dig ls.length).length + (ls.flatMap encLv).length := by unfold encLvs; rw [List.length_append]
    have hown : c.ownB = dig xs.data.toList.length ++ xs.data.toList ++ encLvs ls := by rw [hc]; rfl
    rw [hown] at hlen
    simp only [List.length_append] at hlen
    unfold encLvs at hown
    refine wp_rs fun _ K16 => F.vl (eqlF (by omega) rfl rfl) fun a F => F.sg rfl fun a F => ?_
    refine s_end (K16 _ _ ?_)
    refine wp_if F rfl ?_
    refine wp_rs fun _ K17 => F.vl (eqlF (by omega) rfl rfl) fun a F => F.sg rfl fun a F => ?_
    refine s_end (K17 _ _ ?_)
    refine wp_if F rfl ?_
    refine wp_rs fun _ K18 => F.vl (eqlT (by omega) rfl rfl) fun a F => F.sg rfl fun a F => ?_
    refine s_end (K18 _ _ ?_)
    refine wp_if F rfl ?_
    refine dk2_seq (o2) (o2) (ops := regOps Try.f67 8) (N := 11) (by kernel_rfl) wide_orders (by kernel_rfl) fun w20 hw20 B21 hS K19 K19 => ?_
    have zw20 : w20.heap.size = w6.heap.size := by rw [hw20]
    have sB21 := B21.size
    have hK := hK.below B21
    have m3 := m3.old B21
    have hO := own_below hO B21
    have m3_d := m3
    have hO_d := hO
    have hK_d := hK
    refine F.dv 0 32 (.move (.tmp 0)) hS (fun W hW => x_move rfl) fun a F => F.dv 1 33 (.fieldAddr 27 (.tmp 3) 2) hS (fun W hW => x_fa0 fa27_2 rfl) fun a F => F.dv 2 34 (.load 9 (.tmp 33)) hS (fun W hW => x_load rfl (m_load flat9 ((m3_d.k2 hW (by omega)).cell (j := 2) rfl))) fun a F => F.dv 5 37 (.fieldAddr 27 (.tmp 3) 4) hS (fun W hW => x_fa0 fa27_4 rfl) fun a F => F.dv 6 38 (.load 22 (.tmp 37)) hS (fun W hW => x_load rfl (m_load flat22 ((m3_d.k2 hW (by omega)).cell (j := 6) rfl))) fun a F => F.dv 7 39 (.call (.mk (.builtin .len) #[(.tmp 38)] #[22])) hS (fun W hW => x_len Try.underlying22 rfl) fun a F => F.dv 8 40 (.convert 3 54 (.tmp 39)) hS (fun W hW => x_i2d (m := ls.length) Try.underlying3 Try.underlying54 rfl) fun a F => ?_
    refine d1 3 (some 35) (.convert 9 48 (.tmp 34)) fun ty pos af => ?_
    refine s_s2b F (by decide) rfl Try.underlying9 Try.underlying48 Try.underlying5 fun w22 vs a hsR hsat B23 F => ?_
    have sB23 := B23.size
    have hK := hK.below B23
    have m3 := m3.old B23
    have hO := own_below hO B23
    have hS := hS.below B23
    refine s_end ⟨hS, ?_⟩
    refine d1 4 (some 36) (.call (.mk (.value (.func 66)) #[(.tmp 32), (.tmp 35)] #[48, 48])) fun ty pos af => ?_
    refine s_call (R := fun u w' => (∃ o', w'.ownsRow base 5 1 u (bs ++ [UInt8.ofNat c.kd.toNat] ++ (dig xs.data.toList.length ++ xs.data.toList)).length ((bs ++ [UInt8.ofNat c.kd.toNat] ++ (dig xs.data.toList.length ++ xs.data.toList)).map encB) ∧ (∀ j, u.ownBlock = some j → j = o') ∧ ((o' = o2 ∨ w22.heap.size ≤ o') ∧ o' < w'.heap.size)) ∧ Ktw o2 o2 w22 w') F [_, _] E66 rfl (by decide) (PutBytes312 base o2 v2 _ vs xs.data.toList w22 hO hat (by omega) (by omega) hsR (fun j hj => by have := hsat j hj; omega) (by simp only [List.length_append, List.length_cons, List.length_nil]; omega)) ?_
    rintro v4 w24 a ⟨⟨o4, hOn, hatn, hon⟩, k25⟩ F
    clear hO hat
    have hO := hOn
    have hat := hatn
    clear hOn hatn
    have sk25 := k25.size
    have hK := hK.trans k25 (by omega)
    have m3 := m3.k2 k25 (by omega)
    have hS := hS.trans k25 (by omega)
    refine s_end ⟨hS, ?_⟩
    refine d1 9 (some 41) (.call (.mk (.value (.func 68)) #[(.tmp 36), (.tmp 40)] #[48, 54])) fun ty pos af => ?_
    refine s_call (R := fun u w' => (∃ o', w'.ownsRow base 5 1 u (bs ++ [UInt8.ofNat c.kd.toNat] ++ (dig xs.data.toList.length ++ xs.data.toList) ++ dig ls.length).length ((bs ++ [UInt8.ofNat c.kd.toNat] ++ (dig xs.data.toList.length ++ xs.data.toList) ++ dig ls.length).map encB) ∧ (∀ j, u.ownBlock = some j → j = o') ∧ ((o' = o4 ∨ w24.heap.size ≤ o') ∧ o' < w'.heap.size)) ∧ Ktw o4 o4 w24 w') F [_, _] E68 rfl (by decide) (by have h := Put314 base o4 v4 _ (UInt64.ofNat ls.length) w24 hO hat (by omega) (by omega) (by simp only [List.length_append, List.length_cons, List.length_nil]; omega); rw [d2n (by omega)] at h; exact h) ?_
    rintro v6 w26 a ⟨⟨o6, hOn, hatn, hon⟩, k27⟩ F
    clear hO hat
    have hO := hOn
    have hat := hatn
    clear hOn hatn
    have sk27 := k27.size
    have hK := hK.trans k27 (by omega)
    have m3 := m3.k2 k27 (by omega)
    have hS := hS.trans k27 (by omega)
    refine s_end ⟨hS, ?_⟩
    refine F.dv 10 0 (.assign (.tmp 41)) hS (fun W hW => x_assign rfl) fun a F => ?_
    refine d_end (by kernel_rfl) (K19 _ _ ?_)
    refine wp_rs fun _ K20 => F.vl (x_fa0 fa27_4 rfl) fun a F => F.ld m3 flat22 rfl rfl fun a F => F.vl (x_len Try.underlying22 rfl) fun a F => F.mv rfl fun a F => ?_
    refine s_end (K20 _ _ ?_)
    refine wp_block ?_
    refine wp_up ls.length (fun i a w => ∃ v' o', w.ownsRow base 5 1 v' (bs ++ [UInt8.ofNat c.kd.toNat] ++ (dig xs.data.toList.length ++ xs.data.toList) ++ dig ls.length ++ (ls.take i).flatMap encLv).length ((bs ++ [UInt8.ofNat c.kd.toNat] ++ (dig xs.data.toList.length ++ xs.data.toList) ++ dig ls.length ++ (ls.take i).flatMap encLv).map encB) ∧ (∀ j, v'.ownBlock = some j → j = o') ∧ (((o' = o ∨ w0.heap.size ≤ o') ∧ b3 ≠ o') ∧ o' < w.heap.size) ∧ Blk w b3 27 [.int .i64 xk, .int .i64 xn, .string xs, .int .i64 xl.1, .int .i64 xl.2.1, xl.2.2, .slice a7 ls.length c7, .slice av c.kids.length cv] ∧ Ktw o o w0 w ∧ Fs 65 a [(0, v'), (3, .pointer (some ⟨b3, 0, none⟩)), (43, .slice a7 ls.length c7), (44, .int .i64 (ls.length : Int)), (45, .int .i64 (i : Int))]) ⟨v6, o6, by simpa using hO, hat, by omega, m3, hK, F.sub _ rfl⟩ ?_
    have hb3w : w0.heap.size ≤ b3 := by omega
    clear hO hat hK m3
    repeat clear F
    rintro i a w hi ⟨v1, o1, hO, hat, ho1, m3, hK, F⟩ K' hK'
    have sK := hK.size
    have hm3l := m3.lt
    refine wp_rs fun _ K21 => F.vl (x_lss (b := decide (i < ls.length)) (decide_eq_decide.2 (by omega)) rfl rfl) fun a F => ?_
    refine s_end (K21 _ _ ?_)
    refine wp_seq_k fun _ K22 => ?_
    refine wp_iff F rfl (fun hc46 => ?_) (fun hc46 => ?_)
    · obtain ⟨b9, off9, c9, y, l, hve, hli, hry, hAb, hbl, hrow⟩ := hvl.row (i := i) (by omega)
      cases hve
      obtain ⟨s2, hrs, hnu, hels, hel⟩ := (hpe l (List.mem_of_getElem? hli)).open hry
      have h1y := hry.rl.one1
      have hfs := flat_snoc (f := encLv) hli
      have hfl := flat_le (f := encLv) hli
      refine wp_skip (K22 _ _ ?_)
      refine wp_seq_k fun _ K23 => ?_
      refine wp_block ?_
      refine wp_rs fun _ K24 => F.vl (x_ixa rfl rfl (m_ixsK i Try.underlying22 el22.size rfl (by omega))) fun a F => F.vl (x_ldA wide24 (hrow _ (hK.block _ hbl (hAo _ hAb))) rfl rfl) fun a F => ?_
      refine s_alloc F (by decide) zero24 fun w28 b6 a eb6 m6 B29 zb6 F => ?_
      have sB29 := B29.size
      have hK := hK.below B29
      have m3 := m3.old B29
      have hO := own_below hO B29
      refine s_putW F rfl rfl (size_wide wide24) m6 rfl (one_lc h1y) fun w32 m6 o33 => ?_
      have so33 := o33.size
      have hK := hK.only o33 (by omega)
      have m3 := m3.only o33 (by omega)
      have hO := own_only hO o33 (fun e => by have := hat _ e; omega)
      refine s_end (K24 _ _ ?_)
      refine wp_region_lit ?_
      refine F.mv rfl fun a F => F.vl (x_ldW wide24 m6 rfl rfl) fun a F => ?_
      refine s_call (R := fun u w' => (∃ o', w'.ownsRow base 5 1 u ((bs ++ [UInt8.ofNat c.kd.toNat] ++ (dig xs.data.toList.length ++ xs.data.toList) ++ dig ls.length ++ (ls.take i).flatMap encLv) ++ encLv l).length (((bs ++ [UInt8.ofNat c.kd.toNat] ++ (dig xs.data.toList.length ++ xs.data.toList) ++ dig ls.length ++ (ls.take i).flatMap encLv) ++ encLv l).map encB) ∧ (∀ j, u.ownBlock = some j → j = o') ∧ ((o' = o1 ∨ w32.heap.size ≤ o') ∧ o' < w'.heap.size)) ∧ Ktw o1 o1 w32 w') F [_, _] E113 rfl (by decide) (by rw [hels]; exact putLevel324 (s2.size + 1) s2 y base o1 v1 _ w32 A (by omega) (hrs.keep hK.size (fun k ha hk => hK.block k hk (hAo k ha))) hnu (fun k hk => by have := hA k hk; omega) hO hat (by omega) (by omega) (by rw [← hels]; simp only [List.length_append, List.length_cons, List.length_nil]; omega)) ?_
      rintro v5 w34 a ⟨⟨o5, hOn, hatn, hon⟩, k35⟩ F
      clear hO hat
      have hO := hOn
      have hat := hatn
      clear hOn hatn
      have sk35 := k35.size
      have hK := hK.trans k35 (by omega)
      have m3 := m3.k2 k35 (by omega)
      refine F.sg rfl fun a F => ?_
      refine s_end (K23 _ _ ?_)
      refine wp_region_lit ?_
      refine F.vl (x_addn (i + 1) (by omega) (by omega) rfl rfl) fun a F => F.mv rfl fun a F => ?_
      refine s_end (hK' _ _ (by omega) ⟨v5, o5, by rw [hfs, ← List.append_assoc]; exact hO, hat, by omega, m3, hK, F.sub _ rfl⟩)
    · obtain rfl : i = ls.length := by omega
      rw [List.take_of_length_le (Nat.le_refl _)] at hO
      refine wp_exit ?_
      exact key3 _ _ v1 o1 (by rw [hown]; simpa using hO) hat (by omega) m3 hK (F.sub _ rfl)
  · have hown := CT.own_none hx0 hq
    refine wp_rs fun _ K25 => F.vl (eqlF (by omega) rfl rfl) fun a F => F.sg rfl fun a F => ?_
    refine s_end (K25 _ _ ?_)
    refine wp_if F rfl ?_
    refine wp_rs fun _ K26 => F.vl (eqlF (by omega) rfl rfl) fun a F => F.sg rfl fun a F => ?_
    refine s_end (K26 _ _ ?_)
    refine wp_if F rfl ?_
    refine wp_rs fun _ K27 => F.vl (eqlF (by omega) rfl rfl) fun a F => F.sg rfl fun a F => ?_
    refine s_end (K27 _ _ ?_)
    refine wp_if F rfl ?_
    refine wp_skip ?_
    exact key3 _ _ v2 o2 (by rw [hown]; simpa using hO) hat (by omega) m3 hK (F.sub _ rfl)
end Go.Proofs.Ytmkjhdiepkpdoaa

namespace Go.Proofs.Ytmkjhdiepkpdoaa
set_option maxRecDepth 100000
set_option maxHeartbeats 1600000
open Go.RowKit Go.Shelf
set_option linter.unusedVariables false
set_option linter.unusedSimpArgs false
/-- A constructor's cells. -/
structure K9 where
 nm : ByteArray
 x : C8
def cc (x : K9) : List Value := [.string x.nm, .int .i64 x.x.k, .int .i64 x.x.n, .string x.x.s, .int .i64 x.x.l.1, .int .i64 x.x.l.2.1, x.x.l.2.2, x.x.ls, x.x.ts]
theorem cc_len (x : K9) : (cc x).length = 9 := rfl
/-- A declaration's cells. -/
structure D21 where
 k : Int
 nm : ByteArray
 vars : Int
 ty : C8
 vl : C8
 ps : Int
 cs : Value
def dc (d : D21) : List Value := [.int .i64 d.k, .string d.nm, .int .i64 d.vars, .int .i64 d.ty.k, .int .i64 d.ty.n, .string d.ty.s, .int .i64 d.ty.l.1, .int .i64 d.ty.l.2.1, d.ty.l.2.2, d.ty.ls, d.ty.ts, .int .i64 d.vl.k, .int .i64 d.vl.n, .string d.vl.s, .int .i64 d.vl.l.1, .int .i64 d.vl.l.2.1, d.vl.l.2.2, d.vl.ls, d.vl.ts, .int .i64 d.ps, d.cs]
def dq (d : D21) (s : Value) : List Value := [.int .i64 d.k, .string d.nm, .int .i64 d.vars, .int .i64 d.ty.k, .int .i64 d.ty.n, .string d.ty.s, .int .i64 d.ty.l.1, .int .i64 d.ty.l.2.1, d.ty.l.2.2, d.ty.ls, d.ty.ts, .int .i64 d.vl.k, .int .i64 d.vl.n, .string d.vl.s, .int .i64 d.vl.l.1, .int .i64 d.vl.l.2.1, d.vl.l.2.2, d.vl.ls, d.vl.ts, .int .i64 d.ps, s]
theorem dc_dq {d : D21} {s : Value} (h : d.cs = s) : dc d = dq d s := by subst h; rfl
abbrev dvv (d : D21) : Value := .agg (dc d).toArray
theorem wide517 : Wide Try.prog 93 9 = true := by kernel_rfl
theorem wide502 : Wide Try.prog 47 21 = true := by kernel_rfl
theorem flat500 : Flat Try.prog 45 = true := by kernel_rfl
theorem el500 : Elem Try.prog 45 93 9 136 := elem_of (by kernel_rfl)
abbrev z9 : List Value := [.string (ByteArray.mk #[]), .int .i64 0, .int .i64 0, .string (ByteArray.mk #[]), .int .i64 0, .int .i64 0, nilS, nilS, nilS]
theorem zero517 : (Try.prog.info? 93).bind (·.zero) = some (.agg z9.toArray) := by kernel_rfl
theorem fa517_0 : fldB Try.prog 93 0 0 = true := by kernel_rfl
theorem fa517_1 : fldB Try.prog 93 1 1 = true := by kernel_rfl
theorem fa502_0 : fldB Try.prog 47 0 0 = true := by kernel_rfl
theorem fa502_1 : fldB Try.prog 47 1 1 = true := by kernel_rfl
theorem fa502_2 : fldB Try.prog 47 2 2 = true := by kernel_rfl
theorem fa502_3 : fldB Try.prog 47 3 3 = true := by kernel_rfl
theorem fa502_4 : fldB Try.prog 47 4 11 = true := by kernel_rfl
theorem fa502_5 : fldB Try.prog 47 5 19 = true := by kernel_rfl
theorem fa502_6 : fldB Try.prog 47 6 20 = true := by kernel_rfl
theorem fmG_get {α : Type} {f : α → List Value} {k : Nat} (hk : ∀ x, (f x).length = k) : ∀ (xs : List α) (i j : Nat) (x : α) (u : Value), xs[i]? = some x → (f x)[j]? = some u → (xs.flatMap f)[i * k + j]? = some u
 | [], i, j, x, u, h, _ => by simp at h
 | y :: xs, 0, j, x, u, h1, h2 => by
  simp at h1; subst h1
  have hj : j < k := by rw [← hk y]; exact (List.getElem?_eq_some_iff.1 h2).1
  rw [List.flatMap_cons, List.getElem?_append_left (by rw [hk]; omega), Nat.zero_mul, Nat.zero_add, h2]
 | y :: xs, i + 1, j, x, u, h1, h2 => by
  rw [List.flatMap_cons, List.getElem?_append_right (by rw [hk, Nat.add_mul]; omega), show (i + 1) * k + j - (f y).length = i * k + j by rw [hk, Nat.add_mul]; omega]
  exact fmG_get hk xs i j x u (by simpa using h1) h2
/-- A slice of constructors. -/
def RCs (W : World) (A : Nat → Prop) (v : Value) (cs : List (ByteArray × CT)) : Prop := ∃ xs : List K9, Rn W A v 9 xs.length (xs.flatMap cc) ∧ xs.length = cs.length ∧ ∀ (i : Nat) x c, xs[i]? = some x → cs[i]? = some c → x.nm = c.1 ∧ RC W A c.2 x.x
section
variable {W W' : World} {A B : Nat → Prop} {v : Value} {cs : List (ByteArray × CT)}
theorem RCs.keep (hs : W.heap.size ≤ W'.heap.size) (hk : ∀ k, A k → k < W.heap.size → W'.heap[k]? = W.heap[k]?) : RCs W A v cs → RCs W' A v cs :=
 fun ⟨xs, h1, h2, h3⟩ => ⟨xs, h1.keep hs hk, h2, fun i x c e1 e2 => ⟨(h3 i x c e1 e2).1, (h3 i x c e1 e2).2.keep hs hk⟩⟩
theorem RCs.mono (hAB : ∀ k, A k → B k) : RCs W A v cs → RCs W B v cs := fun ⟨xs, h1, h2, h3⟩ => ⟨xs, h1.mono hAB, h2, fun i x c e1 e2 => ⟨(h3 i x c e1 e2).1, (h3 i x c e1 e2).2.mono hAB⟩⟩
theorem RCs.form (h : RCs W A v cs) : ∃ a c, v = .slice a cs.length c ∧ cs.length ≤ c ∧ (a = none → c = 0) := by
 obtain ⟨xs, h1, h2, h3⟩ := h
 rw [← h2]
 exact h1.1.form
theorem RCs.one (h : RCs W A v cs) : v.oneCell' = true := by obtain ⟨xs, h1, _⟩ := h; exact h1.1.one
theorem RCs.row (h : RCs W A v cs) {i : Nat} (hi : i < cs.length) :
    ∃ b off cap x c, v = .slice (some ⟨b, off, none⟩) cs.length cap ∧ cs[i]? = some c ∧ (x : K9).nm = c.1 ∧ RC W A c.2 x.x ∧ A b ∧ b < W.heap.size ∧ ∀ W' : World, W'.heap[b]? = W.heap[b]? → ∀ j u, (cc x)[j]? = some u → W'.cell? ((⟨b, off + i * 9, none⟩ : Addr).add j) = some u := by
  obtain ⟨xs, h1, h2, h3⟩ := h
  obtain ⟨b, off, c, rfl, hb⟩ := h1.1.some (by omega)
  have h4 := h3 i (xs[i]'(by omega)) cs[i] (List.getElem?_eq_getElem (by omega)) (List.getElem?_eq_getElem hi)
  refine ⟨b, off, c, xs[i]'(by omega), cs[i], by rw [h2], List.getElem?_eq_getElem hi, h4.1, h4.2, h1.2 (by omega) b rfl, hb, fun W' hB j u hj => ?_⟩
  rw [addr_addn, Nat.add_assoc]
  exact (World.cell?_of_block (w := W) (a := ⟨b, off + (i * 9 + j), none⟩) hB).trans (h1.1.cell (fmG_get cc_len xs i j _ u (List.getElem?_eq_getElem (by omega)) hj))
end
theorem one_cc {W : World} {A : Nat → Prop} {x : K9} {c : CT} (h : RC W A c x.x) : ∀ u ∈ cc x, u.oneCell' = true := by
 intro u hu
 rcases List.mem_cons.1 hu with rfl | hu
 ·
  rfl
 ·
  exact h.one u hu
/-- What a declaration's value reads as. -/
structure RD (W : World) (A : Nat → Prop) (d : D21) (t v : CT) (cs : List (ByteArray × CT)) : Prop where
 ty : RC W A t d.ty
 vl : RC W A v d.vl
 cs : RCs W A d.cs cs
theorem RD.keep {W W' : World} {A : Nat → Prop} {d : D21} {t v : CT} {cs : List (ByteArray × CT)} (h : RD W A d t v cs) (hs : W.heap.size ≤ W'.heap.size) (hk : ∀ k, A k → k < W.heap.size → W'.heap[k]? = W.heap[k]?) : RD W' A d t v cs := ⟨h.ty.keep hs hk, h.vl.keep hs hk, h.cs.keep hs hk⟩
theorem RD.mono {W : World} {A B : Nat → Prop} {d : D21} {t v : CT} {cs : List (ByteArray × CT)} (h : RD W A d t v cs) (hAB : ∀ k, A k → B k) : RD W B d t v cs := ⟨h.ty.mono hAB, h.vl.mono hAB, h.cs.mono hAB⟩
theorem RD.bel {W W' : World} {d : D21} {t v : CT} {cs : List (ByteArray × CT)} (h : RD W (fun k => k < W.heap.size) d t v cs) (hB : Below W.heap.size W W') : RD W' (fun k => k < W'.heap.size) d t v cs :=
 (h.keep hB.size (fun k hk _ => hB.block k hk)).mono (fun k hk => Nat.lt_of_lt_of_le hk hB.size)
theorem RD.one {W : World} {A : Nat → Prop} {d : D21} {t v : CT} {cs : List (ByteArray × CT)} (h : RD W A d t v cs) : ∀ u ∈ dc d, u.oneCell' = true := by
 have h1 := h.ty.one
 have h2 := h.vl.one
 have h3 := h.cs.one
 intro u hu
 have hd : dc d = [Value.int .i64 d.k, .string d.nm, .int .i64 d.vars] ++ (tc d.ty ++ (tc d.vl ++ [.int .i64 d.ps, d.cs])) := rfl
 rw [hd] at hu
 rcases List.mem_append.1 hu with hu | hu
 ·
  simp at hu; rcases hu with rfl | rfl | rfl <;> rfl
 ·
  rcases List.mem_append.1 hu with hu | hu
  ·
   exact h1 u hu
  ·
   rcases List.mem_append.1 hu with hu | hu
   ·
    exact h2 u hu
   ·
    simp at hu; rcases hu with rfl | rfl
    ·
     rfl
    ·
     exact h3
/-- Names and lists are not longer than may be. -/
structure DFit (d : D21) (t v : CT) (cs : List (ByteArray × CT)) : Prop where
 nm : d.nm.size ≤ 9223372036854775807
 ty : t.fit
 vl : v.fit
 cf : ∀ c ∈ cs, c.1.size ≤ 9223372036854775807 ∧ c.2.fit
 len : cs.length ≤ 9223372036854775807
 k64 : in64 d.k
 v64 : in64 d.vars
 p64 : in64 d.ps
noncomputable def ctErr (vars : Int) : List (ByteArray × CT) → Int
 | [] => 0
 | c :: cs => if nameB c.1 = false then 8 else if (c.2.mayT vars 1 0).1 ≠ 0 then (c.2.mayT vars 1 0).1 else ctErr vars cs
noncomputable def indErr (ps vars : Int) (cs : List (ByteArray × CT)) : Int := if ps < 0 ∨ 64 < ps then 1 else if 8 < cs.length then 18 else ctErr vars cs
/-- What May tells of a declaration. -/
noncomputable def mayD (d : D21) (t v : CT) (cs : List (ByteArray × CT)) : Int :=
 if d.k < 1 ∨ 3 < d.k then 1 else if nameB d.nm = false then 8 else if d.vars < 0 then 1 else if 6 < d.vars then 2 else
 if (t.mayT d.vars 1 0).1 ≠ 0 then (t.mayT d.vars 1 0).1 else if d.k = 2 then (v.mayT d.vars 1 0).1 else if d.k = 3 then indErr d.ps d.vars cs else 0
theorem ctErr_at {vars : Int} {cs : List (ByteArray × CT)} {i : Nat} {c : ByteArray × CT} (h : cs[i]? = some c) : ctErr vars (cs.drop i) = if nameB c.1 = false then 8 else if (c.2.mayT vars 1 0).1 ≠ 0 then (c.2.mayT vars 1 0).1 else ctErr vars (cs.drop (i + 1)) := by
 rw [drop_at h, ctErr]
theorem mayInd315 (d : D21) (t v : CT) (cs : List (ByteArray × CT)) (w0 : World) (hd : RD w0 (fun k => k < w0.heap.size) d t v cs) (hf : DFit d t v cs) : Calls Try.prog 71 #[dvv d] w0 fun e w' => e = .returned (.int .i64 (indErr d.ps d.vars cs)) ∧ Below w0.heap.size w0 w' := by
 have hcs := hd.cs
 obtain ⟨ac, kc, hce, _⟩ := hcs.form
 have hdc := hce
 rw [hdc] at hcs
 have hB := Below.refl w0.heap.size w0
 have sB := hB.size
 refine calls_fs 38 [(0, dvv d)] Try.func71 rfl rfl rfl rfl rfl fun a F => ?_
 refine wp_rs fun _ K1 => ?_
 refine s_box (dc d) F (by decide) rfl rfl fun w2 b1 a eb1 m1 B3 zb1 F => ?_
 have sB3 := B3.size
 have hB := bt hB B3
 refine F.sg rfl fun a F => ?_
 refine s_end (K1 _ _ ?_)
 refine wp_seq_k fun _ K2 => ?_
 rcases (show d.ps < 0 ∨ (¬ d.ps < 0 ∧ 64 < d.ps) ∨ (¬ d.ps < 0 ∧ ¬ 64 < d.ps ∧ 8 < cs.length) ∨ (¬ d.ps < 0 ∧ ¬ 64 < d.ps ∧ ¬ 8 < cs.length) by omega) with hq | hq | hq | hq
 ·
  have hr : indErr d.ps d.vars cs = 1 := by unfold indErr; rw [if_pos (by omega)]
  have m1 : Blk w2 b1 47 (dq d (.slice ac cs.length kc)) := by rw [← dc_dq hdc]; exact m1
  refine wp_rs fun _ K4 => F.vl (x_fa0 fa502_5 rfl) fun a F => F.ld m1 flat3 rfl rfl fun a F => F.vl (lssT (by omega) rfl rfl) fun a F => F.mv rfl fun a F => s_grdn 9 F rfl rfl (by decide) fun a F => s_grdn 9 F rfl rfl (by decide) fun a F => s_grdn 9 F rfl rfl (by decide) fun a F => F.vl (x_pick (b := true) rfl rfl) fun a F => ?_
  refine s_end (K4 _ _ ?_)
  refine wp_if F rfl ?_
  refine wp_rs fun _ K5 => F.sg rfl fun a F => ?_
  refine s_end (K5 _ _ ?_)
  refine wp_ret (then_ret (res_slot F rfl rfl ⟨by rw [hr], hB⟩))
 ·
  have hr : indErr d.ps d.vars cs = 1 := by unfold indErr; rw [if_pos (by omega)]
  have m1 : Blk w2 b1 47 (dq d (.slice ac cs.length kc)) := by rw [← dc_dq hdc]; exact m1
  refine wp_rs fun _ K6 => F.vl (x_fa0 fa502_5 rfl) fun a F => F.ld m1 flat3 rfl rfl fun a F => F.vl (lssF (by omega) rfl rfl) fun a F => F.mv rfl fun a F => s_grd 9 F rfl rfl rfl <| F.vl (x_fa0 fa502_5 rfl) fun a F => s_grd 9 F rfl rfl rfl <| F.ld m1 flat3 rfl rfl fun a F => s_grd 9 F rfl rfl rfl <| F.vl (gtrT (by omega) rfl rfl) fun a F => F.vl (x_pick (b := false) rfl rfl) fun a F => ?_
  refine s_end (K6 _ _ ?_)
  refine wp_if F rfl ?_
  refine wp_rs fun _ K7 => F.sg rfl fun a F => ?_
  refine s_end (K7 _ _ ?_)
  refine wp_ret (then_ret (res_slot F rfl rfl ⟨by rw [hr], hB⟩))
 ·
  have hr : indErr d.ps d.vars cs = 18 := by unfold indErr; rw [if_neg (by omega), if_pos (by omega)]
  have m1 : Blk w2 b1 47 (dq d (.slice ac cs.length kc)) := by rw [← dc_dq hdc]; exact m1
  refine wp_rs fun _ K8 => F.vl (x_fa0 fa502_5 rfl) fun a F => F.ld m1 flat3 rfl rfl fun a F => F.vl (lssF (by omega) rfl rfl) fun a F => F.mv rfl fun a F => s_grd 9 F rfl rfl rfl <| F.vl (x_fa0 fa502_5 rfl) fun a F => s_grd 9 F rfl rfl rfl <| F.ld m1 flat3 rfl rfl fun a F => s_grd 9 F rfl rfl rfl <| F.vl (gtrF (by omega) rfl rfl) fun a F => F.vl (x_pick (b := false) rfl rfl) fun a F => ?_
  refine s_end (K8 _ _ ?_)
  refine wp_if F rfl ?_
  refine wp_skip (K2 _ _ ?_)
  refine wp_seq_k fun K9 hK9 => ?_
  refine wp_rs fun _ K10 => F.vl (x_fa0 fa502_6 rfl) fun a F => F.ld m1 flat500 rfl rfl fun a F => F.vl (x_len Try.underlying45 rfl) fun a F => F.vl (gtrT (by omega) rfl rfl) fun a F => ?_
  refine s_end (K10 _ _ ?_)
  refine wp_if F rfl ?_
  refine wp_rs fun _ K11 => F.sg rfl fun a F => ?_
  refine s_end (K11 _ _ ?_)
  refine wp_ret (then_ret (res_slot F rfl rfl ⟨by rw [hr], hB⟩))
 ·
  have hr : indErr d.ps d.vars cs = ctErr d.vars cs := by unfold indErr; rw [if_neg (by omega), if_neg (by omega)]
  have m1 : Blk w2 b1 47 (dq d (.slice ac cs.length kc)) := by rw [← dc_dq hdc]; exact m1
  refine wp_rs fun _ K12 => F.vl (x_fa0 fa502_5 rfl) fun a F => F.ld m1 flat3 rfl rfl fun a F => F.vl (lssF (by omega) rfl rfl) fun a F => F.mv rfl fun a F => s_grd 9 F rfl rfl rfl <| F.vl (x_fa0 fa502_5 rfl) fun a F => s_grd 9 F rfl rfl rfl <| F.ld m1 flat3 rfl rfl fun a F => s_grd 9 F rfl rfl rfl <| F.vl (gtrF (by omega) rfl rfl) fun a F => F.vl (x_pick (b := false) rfl rfl) fun a F => ?_
  refine s_end (K12 _ _ ?_)
  refine wp_if F rfl ?_
  refine wp_skip (K2 _ _ ?_)
  refine wp_seq_k fun _ K13 => ?_
  refine wp_rs fun _ K14 => F.vl (x_fa0 fa502_6 rfl) fun a F => F.ld m1 flat500 rfl rfl fun a F => F.vl (x_len Try.underlying45 rfl) fun a F => F.vl (gtrF (by omega) rfl rfl) fun a F => ?_
  refine s_end (K14 _ _ ?_)
  refine wp_if F rfl ?_
  refine wp_skip (K13 _ _ ?_)
  refine wp_seq_k fun _ K15 => ?_
  refine wp_rs fun _ K16 => F.vl (x_fa0 fa502_6 rfl) fun a F => F.ld m1 flat500 rfl rfl fun a F => F.vl (x_len Try.underlying45 rfl) fun a F => F.mv rfl fun a F => ?_
  refine s_end (K16 _ _ ?_)
  refine wp_block ?_
  refine wp_up cs.length (fun i a w => ctErr d.vars cs = ctErr d.vars (cs.drop i) ∧ Blk w b1 47 (dq d (.slice ac cs.length kc)) ∧ Below w0.heap.size w0 w ∧ Fs 38 a [(1, .pointer (some ⟨b1, 0, none⟩)), (19, .slice ac cs.length kc), (20, .int .i64 (cs.length : Int)), (21, .int .i64 (i : Int))]) ⟨by rw [List.drop_zero], m1, hB, F.sub _ rfl⟩ ?_
  have hb1w : w0.heap.size ≤ b1 := by omega
  clear hB m1
  repeat clear F
  rintro i a w hi ⟨hct, m1, hB, F⟩ K' hK'
  have sB := hB.size
  have hm1l := m1.lt
  refine wp_rs fun _ K17 => F.vl (x_lss (b := decide (i < cs.length)) (decide_eq_decide.2 (by omega)) rfl rfl) fun a F => ?_
  refine s_end (K17 _ _ ?_)
  refine wp_seq_k fun _ K18 => ?_
  refine wp_iff F rfl (fun hc22 => ?_) (fun hc22 => ?_)
  ·
   obtain ⟨b9, off9, c9, y, c, hve, hci, hynm, hry, hAb, hbl, hrow⟩ := hcs.row (i := i) (by omega)
   cases hve
   have hfc := hf.cf c (List.mem_of_getElem? hci)
   have h1y := one_cc hry
   have hat := ctErr_at (vars := d.vars) hci
   refine wp_skip (K18 _ _ ?_)
   refine wp_seq_k fun _ K19 => ?_
   refine wp_block ?_
   refine wp_rs fun _ K20 => F.vl (x_ixa rfl rfl (m_ixsK i Try.underlying45 el500.size rfl (by omega))) fun a F => F.vl (x_ldA wide517 (hrow _ (hB.block _ hbl)) rfl rfl) fun a F => ?_
   refine s_alloc F (by decide) zero517 fun w4 b4 a eb4 m4 B5 zb4 F => ?_
   have sB5 := B5.size
   have hB := bt hB B5
   have m1 := m1.old B5
   refine s_putW F rfl rfl (size_wide wide517) m4 rfl h1y fun w8 m4 o9 => ?_
   have so9 := o9.size
   have hB := hB.trans (o9.below (by omega))
   have m1 := m1.only o9 (by omega)
   refine s_end (K20 _ _ ?_)
   refine wp_seq_k fun _ K21 => ?_
   rcases (show nameB c.1 = false ∨ (nameB c.1 = true ∧ (c.2.mayT d.vars 1 0).1 ≠ 0) ∨ (nameB c.1 = true ∧ (c.2.mayT d.vars 1 0).1 = 0) by cases nameB c.1 <;> simp <;> omega) with hnb | ⟨hnb, hmt⟩ | ⟨hnb, hmt⟩
   ·
    rw [if_pos hnb] at hat
    refine wp_rs fun _ K23 => F.vl (x_fa0 fa517_0 rfl) fun a F => F.ld m4 flat9 rfl rfl fun a F => ?_
    refine s_callS [_] F E69 rfl (by decide) ((Name31 _ w8 (by rw [hynm]; exact hfc.1)).mono fun e w' h => ⟨by rw [h.1, hynm, hnb], h.2⟩) fun a F => ?_
    refine F.vl (x_not rfl) fun a F => ?_
    refine s_end (K23 _ _ ?_)
    refine wp_if F rfl ?_
    refine wp_rs fun _ K24 => F.sg rfl fun a F => ?_
    refine s_end (K24 _ _ ?_)
    refine wp_ret (then_ret (inb_ret (then_ret (then_ret (inb_ret (then_ret (res_slot F rfl rfl ⟨by rw [hr, hct, hat], hB⟩)))))))
   ·
    rw [if_neg (by rw [hnb]; simp), if_pos hmt] at hat
    refine wp_rs fun _ K25 => F.vl (x_fa0 fa517_0 rfl) fun a F => F.ld m4 flat9 rfl rfl fun a F => ?_
    refine s_callS [_] F E69 rfl (by decide) ((Name31 _ w8 (by rw [hynm]; exact hfc.1)).mono fun e w' h => ⟨by rw [h.1, hynm, hnb], h.2⟩) fun a F => ?_
    refine F.vl (x_not rfl) fun a F => ?_
    refine s_end (K25 _ _ ?_)
    refine wp_if F rfl ?_
    refine wp_skip (K21 _ _ ?_)
    refine wp_rs fun _ K26 => F.vl (x_fa0 fa517_1 rfl) fun a F => F.vl (x_load rfl (m_loadP (vs := [_, _, _, _, _, _, _, _]) wide27 m4 rfl)) fun a F => F.vl (x_fa0 fa502_2 rfl) fun a F => F.ld m1 flat3 rfl rfl fun a F => ?_
    refine s_callB [_, _] F E70 rfl (by decide) (May29 d.vars c.2 y.x w8 (hry.bel hB) hfc.2) fun w10 a B11 F => ?_
    have sB11 := B11.size
    have hB := bt hB B11
    refine F.sg rfl fun a F => ?_
    refine s_end (K26 _ _ ?_)
    refine wp_rs fun _ K27 => F.mv rfl fun a F => F.vl (neqT (by omega) rfl rfl) fun a F => ?_
    refine s_end (K27 _ _ ?_)
    refine wp_if F rfl ?_
    refine wp_rs fun _ K28 => F.mv rfl fun a F => F.sg rfl fun a F => ?_
    refine s_end (K28 _ _ ?_)
    refine wp_ret (inb_ret (then_ret (then_ret (inb_ret (then_ret (res_slot F rfl rfl ⟨by rw [hr, hct, hat], hB⟩))))))
   ·
    rw [if_neg (by rw [hnb]; simp), if_neg (by rw [hmt]; simp)] at hat
    refine wp_rs fun _ K29 => F.vl (x_fa0 fa517_0 rfl) fun a F => F.ld m4 flat9 rfl rfl fun a F => ?_
    refine s_callS [_] F E69 rfl (by decide) ((Name31 _ w8 (by rw [hynm]; exact hfc.1)).mono fun e w' h => ⟨by rw [h.1, hynm, hnb], h.2⟩) fun a F => ?_
    refine F.vl (x_not rfl) fun a F => ?_
    refine s_end (K29 _ _ ?_)
    refine wp_if F rfl ?_
    refine wp_skip (K21 _ _ ?_)
    refine wp_rs fun _ K30 => F.vl (x_fa0 fa517_1 rfl) fun a F => F.vl (x_load rfl (m_loadP (vs := [_, _, _, _, _, _, _, _]) wide27 m4 rfl)) fun a F => F.vl (x_fa0 fa502_2 rfl) fun a F => F.ld m1 flat3 rfl rfl fun a F => ?_
    refine s_callB [_, _] F E70 rfl (by decide) (May29 d.vars c.2 y.x w8 (hry.bel hB) hfc.2) fun w12 a B13 F => ?_
    have sB13 := B13.size
    have hB := bt hB B13
    have m1 := m1.old B13
    refine F.sg rfl fun a F => ?_
    refine s_end (K30 _ _ ?_)
    refine wp_rs fun _ K31 => F.mv rfl fun a F => F.vl (neqF (by omega) rfl rfl) fun a F => ?_
    refine s_end (K31 _ _ ?_)
    refine wp_if F rfl ?_
    refine wp_skip (K19 _ _ ?_)
    refine wp_region_lit ?_
    refine F.vl (x_addn (i + 1) (by omega) (by omega) rfl rfl) fun a F => F.mv rfl fun a F => ?_
    refine s_end (hK' _ _ (by omega) ⟨hct.trans hat, m1, hB, F.sub _ rfl⟩)
  ·
   obtain rfl : i = cs.length := by omega
   rw [List.drop_of_length_le (Nat.le_refl _)] at hct
   refine wp_exit (K15 _ _ ?_)
   refine wp_rs fun _ K32 => F.sg rfl fun a F => ?_
   refine s_end (K32 _ _ ?_)
   refine wp_ret (res_slot F rfl rfl ⟨by rw [hr, hct]; rfl, hB⟩)
theorem May304 (d : D21) (t v : CT) (cs : List (ByteArray × CT)) (w0 : World) (hd : RD w0 (fun k => k < w0.heap.size) d t v cs) (hf : DFit d t v cs) : Calls Try.prog 29 #[dvv d] w0 fun e w' => e = .returned (.int .i64 (mayD d t v cs)) ∧ Below w0.heap.size w0 w' := by
 have hcs := hd.cs
 have hty := hd.ty
 have hvl := hd.vl
 obtain ⟨ac, kc, hce, _⟩ := hcs.form
 have hdc := hce
 rw [hdc] at hcs
 have hB := Below.refl w0.heap.size w0
 have sB := hB.size
 refine calls_fs 47 [(0, dvv d)] Try.func29 rfl rfl rfl rfl rfl fun a F => ?_
 refine wp_rs fun _ K1 => ?_
 refine s_box (dc d) F (by decide) rfl rfl fun w2 b1 a eb1 m1 B3 zb1 F => ?_
 have sB3 := B3.size
 have hB := bt hB B3
 refine F.sg rfl fun a F => ?_
 refine s_end (K1 _ _ ?_)
 refine wp_seq_k fun _ K2 => ?_
 refine wp_block ?_
 rcases (show d.k < 1 ∨ (¬ d.k < 1 ∧ 3 < d.k) ∨ (¬ d.k < 1 ∧ ¬ 3 < d.k) by omega) with hk | hk | hk
 ·
  have hr : mayD d t v cs = 1 := by unfold mayD; rw [if_pos (by omega)]
  refine wp_rs fun _ K4 => F.vl (x_fa0 fa502_0 rfl) fun a F => F.ld m1 flat3 rfl rfl fun a F => F.vl (lssT (by omega) rfl rfl) fun a F => F.mv rfl fun a F => s_grdn 8 F rfl rfl (by decide) fun a F => s_grdn 8 F rfl rfl (by decide) fun a F => s_grdn 8 F rfl rfl (by decide) fun a F => F.vl (x_pick (b := true) rfl rfl) fun a F => F.sg rfl fun a F => ?_
  refine s_end (K4 _ _ ?_)
  refine wp_if F rfl ?_
  refine wp_rs fun _ K5 => F.sg rfl fun a F => ?_
  refine s_end (K5 _ _ ?_)
  refine wp_ret (inb_ret (then_ret (res_slot F rfl rfl ⟨by rw [hr], hB⟩)))
 ·
  have hr : mayD d t v cs = 1 := by unfold mayD; rw [if_pos (by omega)]
  refine wp_rs fun _ K6 => F.vl (x_fa0 fa502_0 rfl) fun a F => F.ld m1 flat3 rfl rfl fun a F => F.vl (lssF (by omega) rfl rfl) fun a F => F.mv rfl fun a F => s_grd 8 F rfl rfl rfl <| F.vl (x_fa0 fa502_0 rfl) fun a F => s_grd 8 F rfl rfl rfl <| F.ld m1 flat3 rfl rfl fun a F => s_grd 8 F rfl rfl rfl <| F.vl (gtrT (by omega) rfl rfl) fun a F => F.vl (x_pick (b := false) rfl rfl) fun a F => F.sg rfl fun a F => ?_
  refine s_end (K6 _ _ ?_)
  refine wp_if F rfl ?_
  refine wp_rs fun _ K7 => F.sg rfl fun a F => ?_
  refine s_end (K7 _ _ ?_)
  refine wp_ret (inb_ret (then_ret (res_slot F rfl rfl ⟨by rw [hr], hB⟩)))
 ·
  skip
  refine wp_rs fun _ K8 => F.vl (x_fa0 fa502_0 rfl) fun a F => F.ld m1 flat3 rfl rfl fun a F => F.vl (lssF (by omega) rfl rfl) fun a F => F.mv rfl fun a F => s_grd 8 F rfl rfl rfl <| F.vl (x_fa0 fa502_0 rfl) fun a F => s_grd 8 F rfl rfl rfl <| F.ld m1 flat3 rfl rfl fun a F => s_grd 8 F rfl rfl rfl <| F.vl (gtrF (by omega) rfl rfl) fun a F => F.vl (x_pick (b := false) rfl rfl) fun a F => F.sg rfl fun a F => ?_
  refine s_end (K8 _ _ ?_)
  refine wp_if F rfl ?_
  rcases (show nameB d.nm = false ∨ nameB d.nm = true by cases nameB d.nm <;> simp) with hnb | hnb
  ·
   have hr : mayD d t v cs = 8 := by unfold mayD; rw [if_neg (by omega), if_pos hnb]
   refine wp_rs fun _ K10 => F.vl (x_fa0 fa502_1 rfl) fun a F => F.ld m1 flat9 rfl rfl fun a F => ?_
   refine s_callS [_] F E69 rfl (by decide) ((Name31 d.nm w2 hf.nm).mono fun e w' h => ⟨by rw [h.1, hnb], h.2⟩) fun a F => ?_
   refine F.vl (x_not rfl) fun a F => F.sg rfl fun a F => ?_
   refine s_end (K10 _ _ ?_)
   refine wp_if F rfl ?_
   refine wp_rs fun _ K11 => F.sg rfl fun a F => ?_
   refine s_end (K11 _ _ ?_)
   refine wp_ret (inb_ret (then_ret (res_slot F rfl rfl ⟨by rw [hr], hB⟩)))
  ·
   skip
   refine wp_rs fun _ K12 => F.vl (x_fa0 fa502_1 rfl) fun a F => F.ld m1 flat9 rfl rfl fun a F => ?_
   refine s_callS [_] F E69 rfl (by decide) ((Name31 d.nm w2 hf.nm).mono fun e w' h => ⟨by rw [h.1, hnb], h.2⟩) fun a F => ?_
   refine F.vl (x_not rfl) fun a F => F.sg rfl fun a F => ?_
   refine s_end (K12 _ _ ?_)
   refine wp_if F rfl ?_
   rcases (show d.vars < 0 ∨ ¬ d.vars < 0 by omega) with hv | hv
   ·
    have hr : mayD d t v cs = 1 := by unfold mayD; rw [if_neg (by omega), if_neg (by rw [hnb]; simp), if_pos (by omega)]
    refine wp_rs fun _ K14 => F.vl (x_fa0 fa502_2 rfl) fun a F => F.ld m1 flat3 rfl rfl fun a F => F.vl (lssT (by omega) rfl rfl) fun a F => F.sg rfl fun a F => ?_
    refine s_end (K14 _ _ ?_)
    refine wp_if F rfl ?_
    refine wp_rs fun _ K15 => F.sg rfl fun a F => ?_
    refine s_end (K15 _ _ ?_)
    refine wp_ret (inb_ret (then_ret (res_slot F rfl rfl ⟨by rw [hr], hB⟩)))
   ·
    skip
    refine wp_rs fun _ K16 => F.vl (x_fa0 fa502_2 rfl) fun a F => F.ld m1 flat3 rfl rfl fun a F => F.vl (lssF (by omega) rfl rfl) fun a F => F.sg rfl fun a F => ?_
    refine s_end (K16 _ _ ?_)
    refine wp_if F rfl ?_
    rcases (show 6 < d.vars ∨ ¬ 6 < d.vars by omega) with hv2 | hv2
    ·
     have hr : mayD d t v cs = 2 := by unfold mayD; rw [if_neg (by omega), if_neg (by rw [hnb]; simp), if_neg (by omega), if_pos (by omega)]
     refine wp_rs fun _ K18 => F.vl (x_fa0 fa502_2 rfl) fun a F => F.ld m1 flat3 rfl rfl fun a F => F.vl (gtrT (by omega) rfl rfl) fun a F => F.sg rfl fun a F => ?_
     refine s_end (K18 _ _ ?_)
     refine wp_if F rfl ?_
     refine wp_rs fun _ K19 => F.sg rfl fun a F => ?_
     refine s_end (K19 _ _ ?_)
     refine wp_ret (inb_ret (then_ret (res_slot F rfl rfl ⟨by rw [hr], hB⟩)))
    ·
     skip
     refine wp_rs fun _ K20 => F.vl (x_fa0 fa502_2 rfl) fun a F => F.ld m1 flat3 rfl rfl fun a F => F.vl (gtrF (by omega) rfl rfl) fun a F => F.sg rfl fun a F => ?_
     refine s_end (K20 _ _ ?_)
     refine wp_if F rfl ?_
     refine wp_skip (K2 _ _ ?_)
     refine wp_seq_k fun _ K21 => ?_
     refine wp_rs fun _ K22 => F.vl (x_fa0 fa502_3 rfl) fun a F => F.vl (x_load rfl (m_loadP (vs := [_, _, _, _, _, _, _, _]) wide27 m1 rfl)) fun a F => F.vl (x_fa0 fa502_2 rfl) fun a F => F.ld m1 flat3 rfl rfl fun a F => ?_
     refine s_callB [_, _] F E70 rfl (by decide) (May29 d.vars t d.ty w2 (hty.bel hB) hf.ty) fun w4 a B5 F => ?_
     have sB5 := B5.size
     have hB := bt hB B5
     have m1 := m1.old B5
     refine F.sg rfl fun a F => ?_
     refine s_end (K22 _ _ ?_)
     rcases (show (t.mayT d.vars 1 0).1 ≠ 0 ∨ (t.mayT d.vars 1 0).1 = 0 by omega) with hmt | hmt
     ·
      have hr : mayD d t v cs = (t.mayT d.vars 1 0).1 := by unfold mayD; rw [if_neg (by omega), if_neg (by rw [hnb]; simp), if_neg (by omega), if_neg (by omega), if_pos hmt]
      refine wp_rs fun _ K24 => F.mv rfl fun a F => F.vl (neqT (by omega) rfl rfl) fun a F => ?_
      refine s_end (K24 _ _ ?_)
      refine wp_if F rfl ?_
      refine wp_rs fun _ K25 => F.mv rfl fun a F => F.sg rfl fun a F => ?_
      refine s_end (K25 _ _ ?_)
      refine wp_ret (then_ret (res_slot F rfl rfl ⟨by rw [hr], hB⟩))
     ·
      skip
      refine wp_rs fun _ K26 => F.mv rfl fun a F => F.vl (neqF (by omega) rfl rfl) fun a F => ?_
      refine s_end (K26 _ _ ?_)
      refine wp_if F rfl ?_
      refine wp_skip (K21 _ _ ?_)
      refine wp_seq_k fun _ K27 => ?_
      refine wp_rs fun _ K28 => F.vl (x_fa0 fa502_0 rfl) fun a F => F.ld m1 flat3 rfl rfl fun a F => ?_
      refine s_end (K28 _ _ ?_)
      refine wp_block ?_
      rcases (show d.k = 2 ∨ (d.k ≠ 2 ∧ d.k = 3) ∨ (d.k ≠ 2 ∧ d.k ≠ 3) by omega) with hk2 | hk2 | hk2
      ·
       have hr : mayD d t v cs = (v.mayT d.vars 1 0).1 := by unfold mayD; rw [if_neg (by omega), if_neg (by rw [hnb]; simp), if_neg (by omega), if_neg (by omega), if_neg (by rw [hmt]; simp), if_pos (by omega)]
       refine wp_rs fun _ K30 => F.vl (eqlT (by omega) rfl rfl) fun a F => F.sg rfl fun a F => ?_
       refine s_end (K30 _ _ ?_)
       refine wp_if F rfl ?_
       refine wp_rs fun _ K31 => F.vl (x_fa0 fa502_4 rfl) fun a F => F.vl (x_load rfl (m_loadP (vs := [_, _, _, _, _, _, _, _]) wide27 m1 rfl)) fun a F => F.vl (x_fa0 fa502_2 rfl) fun a F => F.ld m1 flat3 rfl rfl fun a F => ?_
       refine s_callB [_, _] F E70 rfl (by decide) (May29 d.vars v d.vl w4 (hvl.bel hB) hf.vl) fun w6 a B7 F => ?_
       have sB7 := B7.size
       have hB := bt hB B7
       refine F.sg rfl fun a F => ?_
       refine s_end (K31 _ _ ?_)
       refine wp_ret (inb_ret (then_ret (res_slot F rfl rfl ⟨by rw [hr], hB⟩)))
      ·
       have hr : mayD d t v cs = indErr d.ps d.vars cs := by unfold mayD; rw [if_neg (by omega), if_neg (by rw [hnb]; simp), if_neg (by omega), if_neg (by omega), if_neg (by rw [hmt]; simp), if_neg (by omega), if_pos (by omega)]
       refine wp_rs fun _ K32 => F.vl (eqlF (by omega) rfl rfl) fun a F => F.sg rfl fun a F => ?_
       refine s_end (K32 _ _ ?_)
       refine wp_if F rfl ?_
       refine wp_rs fun _ K33 => F.vl (eqlT (by omega) rfl rfl) fun a F => F.sg rfl fun a F => ?_
       refine s_end (K33 _ _ ?_)
       refine wp_if F rfl ?_
       refine wp_rs fun _ K34 => F.vl (x_ldW wide502 m1 rfl rfl) fun a F => ?_
       refine s_callB [_] F E71 rfl (by decide) (mayInd315 d t v cs w4 (hd.bel hB) hf) fun w8 a B9 F => ?_
       have sB9 := B9.size
       have hB := bt hB B9
       refine F.sg rfl fun a F => ?_
       refine s_end (K34 _ _ ?_)
       refine wp_ret (inb_ret (then_ret (res_slot F rfl rfl ⟨by rw [hr], hB⟩)))
      ·
       have hr : mayD d t v cs = 0 := by unfold mayD; rw [if_neg (by omega), if_neg (by rw [hnb]; simp), if_neg (by omega), if_neg (by omega), if_neg (by rw [hmt]; simp), if_neg (by omega), if_neg (by omega)]
       refine wp_rs fun _ K35 => F.vl (eqlF (by omega) rfl rfl) fun a F => F.sg rfl fun a F => ?_
       refine s_end (K35 _ _ ?_)
       refine wp_if F rfl ?_
       refine wp_rs fun _ K36 => F.vl (eqlF (by omega) rfl rfl) fun a F => F.sg rfl fun a F => ?_
       refine s_end (K36 _ _ ?_)
       refine wp_if F rfl ?_
       refine wp_skip (K27 _ _ ?_)
       refine wp_rs fun _ K37 => F.sg rfl fun a F => ?_
       refine s_end (K37 _ _ ?_)
       refine wp_ret (res_slot F rfl rfl ⟨by rw [hr], hB⟩)
theorem MayDecl305 (d : D21) (t v : CT) (cs : List (ByteArray × CT)) (w0 : World) (hd : RD w0 (fun k => k < w0.heap.size) d t v cs) (hf : DFit d t v cs) : Calls Try.prog 30 #[dvv d] w0 fun e w' => e = .returned (.int .i64 (mayD d t v cs)) ∧ Below w0.heap.size w0 w' := by
 have hcs := hd.cs
 have hty := hd.ty
 have hvl := hd.vl
 obtain ⟨ac, kc, hce, _⟩ := hcs.form
 have hdc := hce
 rw [hdc] at hcs
 have hB := Below.refl w0.heap.size w0
 have sB := hB.size
 refine calls_fs 80 [(0, dvv d)] Try.func30 rfl rfl rfl rfl rfl fun a F => ?_
 refine wp_rs fun _ K1 => ?_
 refine s_box (dc d) F (by decide) rfl rfl fun w2 b1 a eb1 m1 B3 zb1 F => ?_
 have sB3 := B3.size
 have hB := bt hB B3
 refine F.sg rfl fun a F => ?_
 refine s_end (K1 _ _ ?_)
 refine wp_seq_k fun _ K2 => ?_
 refine wp_block ?_
 rcases (show d.k < 1 ∨ (¬ d.k < 1 ∧ 3 < d.k) ∨ (¬ d.k < 1 ∧ ¬ 3 < d.k) by omega) with hk | hk | hk
 ·
  have hr : mayD d t v cs = 1 := by unfold mayD; rw [if_pos (by omega)]
  refine wp_rs fun _ K4 => F.vl (x_fa0 fa502_0 rfl) fun a F => F.ld m1 flat3 rfl rfl fun a F => F.vl (lssT (by omega) rfl rfl) fun a F => F.mv rfl fun a F => s_grdn 11 F rfl rfl (by decide) fun a F => s_grdn 11 F rfl rfl (by decide) fun a F => s_grdn 11 F rfl rfl (by decide) fun a F => F.vl (x_pick (b := true) rfl rfl) fun a F => F.sg rfl fun a F => ?_
  refine s_end (K4 _ _ ?_)
  refine wp_if F rfl ?_
  refine wp_rs fun _ K5 => F.sg rfl fun a F => ?_
  refine s_end (K5 _ _ ?_)
  refine wp_ret (inb_ret (then_ret (res_slot F rfl rfl ⟨by rw [hr], hB⟩)))
 ·
  have hr : mayD d t v cs = 1 := by unfold mayD; rw [if_pos (by omega)]
  refine wp_rs fun _ K6 => F.vl (x_fa0 fa502_0 rfl) fun a F => F.ld m1 flat3 rfl rfl fun a F => F.vl (lssF (by omega) rfl rfl) fun a F => F.mv rfl fun a F => s_grd 11 F rfl rfl rfl <| F.vl (x_fa0 fa502_0 rfl) fun a F => s_grd 11 F rfl rfl rfl <| F.ld m1 flat3 rfl rfl fun a F => s_grd 11 F rfl rfl rfl <| F.vl (gtrT (by omega) rfl rfl) fun a F => F.vl (x_pick (b := false) rfl rfl) fun a F => F.sg rfl fun a F => ?_
  refine s_end (K6 _ _ ?_)
  refine wp_if F rfl ?_
  refine wp_rs fun _ K7 => F.sg rfl fun a F => ?_
  refine s_end (K7 _ _ ?_)
  refine wp_ret (inb_ret (then_ret (res_slot F rfl rfl ⟨by rw [hr], hB⟩)))
 ·
  skip
  refine wp_rs fun _ K8 => F.vl (x_fa0 fa502_0 rfl) fun a F => F.ld m1 flat3 rfl rfl fun a F => F.vl (lssF (by omega) rfl rfl) fun a F => F.mv rfl fun a F => s_grd 11 F rfl rfl rfl <| F.vl (x_fa0 fa502_0 rfl) fun a F => s_grd 11 F rfl rfl rfl <| F.ld m1 flat3 rfl rfl fun a F => s_grd 11 F rfl rfl rfl <| F.vl (gtrF (by omega) rfl rfl) fun a F => F.vl (x_pick (b := false) rfl rfl) fun a F => F.sg rfl fun a F => ?_
  refine s_end (K8 _ _ ?_)
  refine wp_if F rfl ?_
  rcases (show nameB d.nm = false ∨ nameB d.nm = true by cases nameB d.nm <;> simp) with hnb | hnb
  ·
   have hr : mayD d t v cs = 8 := by unfold mayD; rw [if_neg (by omega), if_pos hnb]
   refine wp_rs fun _ K10 => F.vl (x_fa0 fa502_1 rfl) fun a F => F.ld m1 flat9 rfl rfl fun a F => ?_
   refine s_callS [_] F E72 rfl (by decide) ((rName32 d.nm w2 hf.nm).mono fun e w' h => ⟨by rw [h.1, hnb], h.2⟩) fun a F => ?_
   refine F.vl (x_not rfl) fun a F => F.sg rfl fun a F => ?_
   refine s_end (K10 _ _ ?_)
   refine wp_if F rfl ?_
   refine wp_rs fun _ K11 => F.sg rfl fun a F => ?_
   refine s_end (K11 _ _ ?_)
   refine wp_ret (inb_ret (then_ret (res_slot F rfl rfl ⟨by rw [hr], hB⟩)))
  ·
   skip
   refine wp_rs fun _ K12 => F.vl (x_fa0 fa502_1 rfl) fun a F => F.ld m1 flat9 rfl rfl fun a F => ?_
   refine s_callS [_] F E72 rfl (by decide) ((rName32 d.nm w2 hf.nm).mono fun e w' h => ⟨by rw [h.1, hnb], h.2⟩) fun a F => ?_
   refine F.vl (x_not rfl) fun a F => F.sg rfl fun a F => ?_
   refine s_end (K12 _ _ ?_)
   refine wp_if F rfl ?_
   rcases (show d.vars < 0 ∨ ¬ d.vars < 0 by omega) with hv | hv
   ·
    have hr : mayD d t v cs = 1 := by unfold mayD; rw [if_neg (by omega), if_neg (by rw [hnb]; simp), if_pos (by omega)]
    refine wp_rs fun _ K14 => F.vl (x_fa0 fa502_2 rfl) fun a F => F.ld m1 flat3 rfl rfl fun a F => F.vl (lssT (by omega) rfl rfl) fun a F => F.sg rfl fun a F => ?_
    refine s_end (K14 _ _ ?_)
    refine wp_if F rfl ?_
    refine wp_rs fun _ K15 => F.sg rfl fun a F => ?_
    refine s_end (K15 _ _ ?_)
    refine wp_ret (inb_ret (then_ret (res_slot F rfl rfl ⟨by rw [hr], hB⟩)))
   ·
    skip
    refine wp_rs fun _ K16 => F.vl (x_fa0 fa502_2 rfl) fun a F => F.ld m1 flat3 rfl rfl fun a F => F.vl (lssF (by omega) rfl rfl) fun a F => F.sg rfl fun a F => ?_
    refine s_end (K16 _ _ ?_)
    refine wp_if F rfl ?_
    rcases (show 6 < d.vars ∨ ¬ 6 < d.vars by omega) with hv2 | hv2
    ·
     have hr : mayD d t v cs = 2 := by unfold mayD; rw [if_neg (by omega), if_neg (by rw [hnb]; simp), if_neg (by omega), if_pos (by omega)]
     refine wp_rs fun _ K18 => F.vl (x_fa0 fa502_2 rfl) fun a F => F.ld m1 flat3 rfl rfl fun a F => F.vl (gtrT (by omega) rfl rfl) fun a F => F.sg rfl fun a F => ?_
     refine s_end (K18 _ _ ?_)
     refine wp_if F rfl ?_
     refine wp_rs fun _ K19 => F.sg rfl fun a F => ?_
     refine s_end (K19 _ _ ?_)
     refine wp_ret (inb_ret (then_ret (res_slot F rfl rfl ⟨by rw [hr], hB⟩)))
    ·
     skip
     refine wp_rs fun _ K20 => F.vl (x_fa0 fa502_2 rfl) fun a F => F.ld m1 flat3 rfl rfl fun a F => F.vl (gtrF (by omega) rfl rfl) fun a F => F.sg rfl fun a F => ?_
     refine s_end (K20 _ _ ?_)
     refine wp_if F rfl ?_
     refine wp_skip (K2 _ _ ?_)
     refine wp_seq_k fun _ K21 => ?_
     refine wp_rs fun _ K22 => F.vl (x_fa0 fa502_3 rfl) fun a F => F.vl (x_load rfl (m_loadP (vs := [_, _, _, _, _, _, _, _]) wide27 m1 rfl)) fun a F => F.vl (x_fa0 fa502_2 rfl) fun a F => F.ld m1 flat3 rfl rfl fun a F => ?_
     refine s_callB [_, _] F E73 rfl (by decide) (rMay30 d.vars t d.ty w2 (hty.bel hB) hf.ty) fun w4 a B5 F => ?_
     have sB5 := B5.size
     have hB := bt hB B5
     have m1 := m1.old B5
     refine F.sg rfl fun a F => ?_
     refine s_end (K22 _ _ ?_)
     rcases (show (t.mayT d.vars 1 0).1 ≠ 0 ∨ (t.mayT d.vars 1 0).1 = 0 by omega) with hmt | hmt
     ·
      have hr : mayD d t v cs = (t.mayT d.vars 1 0).1 := by unfold mayD; rw [if_neg (by omega), if_neg (by rw [hnb]; simp), if_neg (by omega), if_neg (by omega), if_pos hmt]
      refine wp_rs fun _ K24 => F.mv rfl fun a F => F.vl (neqT (by omega) rfl rfl) fun a F => ?_
      refine s_end (K24 _ _ ?_)
      refine wp_if F rfl ?_
      refine wp_rs fun _ K25 => F.mv rfl fun a F => F.sg rfl fun a F => ?_
      refine s_end (K25 _ _ ?_)
      refine wp_ret (then_ret (res_slot F rfl rfl ⟨by rw [hr], hB⟩))
     ·
      skip
      refine wp_rs fun _ K26 => F.mv rfl fun a F => F.vl (neqF (by omega) rfl rfl) fun a F => ?_
      refine s_end (K26 _ _ ?_)
      refine wp_if F rfl ?_
      refine wp_skip (K21 _ _ ?_)
      refine wp_seq_k fun _ K27 => ?_
      refine wp_rs fun _ K28 => F.vl (x_fa0 fa502_0 rfl) fun a F => F.ld m1 flat3 rfl rfl fun a F => ?_
      refine s_end (K28 _ _ ?_)
      refine wp_block ?_
      rcases (show d.k = 2 ∨ (d.k ≠ 2 ∧ d.k = 3) ∨ (d.k ≠ 2 ∧ d.k ≠ 3) by omega) with hk2 | hk2 | hk2
      ·
       have hr : mayD d t v cs = (v.mayT d.vars 1 0).1 := by unfold mayD; rw [if_neg (by omega), if_neg (by rw [hnb]; simp), if_neg (by omega), if_neg (by omega), if_neg (by rw [hmt]; simp), if_pos (by omega)]
       refine wp_rs fun _ K30 => F.vl (eqlT (by omega) rfl rfl) fun a F => F.sg rfl fun a F => ?_
       refine s_end (K30 _ _ ?_)
       refine wp_if F rfl ?_
       refine wp_rs fun _ K31 => F.vl (x_fa0 fa502_4 rfl) fun a F => F.vl (x_load rfl (m_loadP (vs := [_, _, _, _, _, _, _, _]) wide27 m1 rfl)) fun a F => F.vl (x_fa0 fa502_2 rfl) fun a F => F.ld m1 flat3 rfl rfl fun a F => ?_
       refine s_callB [_, _] F E73 rfl (by decide) (rMay30 d.vars v d.vl w4 (hvl.bel hB) hf.vl) fun w6 a B7 F => ?_
       have sB7 := B7.size
       have hB := bt hB B7
       refine F.sg rfl fun a F => ?_
       refine s_end (K31 _ _ ?_)
       refine wp_ret (inb_ret (then_ret (res_slot F rfl rfl ⟨by rw [hr], hB⟩)))
      ·
       have hr : mayD d t v cs = indErr d.ps d.vars cs := by unfold mayD; rw [if_neg (by omega), if_neg (by rw [hnb]; simp), if_neg (by omega), if_neg (by omega), if_neg (by rw [hmt]; simp), if_neg (by omega), if_pos (by omega)]
       refine wp_rs fun _ K32 => F.vl (eqlF (by omega) rfl rfl) fun a F => F.sg rfl fun a F => ?_
       refine s_end (K32 _ _ ?_)
       refine wp_if F rfl ?_
       refine wp_rs fun _ K33 => F.vl (eqlT (by omega) rfl rfl) fun a F => F.sg rfl fun a F => ?_
       refine s_end (K33 _ _ ?_)
       refine wp_if F rfl ?_
       refine wp_seq_k fun _ K34 => ?_
       rcases (show d.ps < 0 ∨ (¬ d.ps < 0 ∧ 64 < d.ps) ∨ (¬ d.ps < 0 ∧ ¬ 64 < d.ps) by omega) with hq | hq | hq
       ·
        have hr : mayD d t v cs = 1 := by rw [hr]; unfold indErr; rw [if_pos (by omega)]
        refine wp_rs fun _ K36 => F.vl (x_fa0 fa502_5 rfl) fun a F => F.ld m1 flat3 rfl rfl fun a F => F.vl (lssT (by omega) rfl rfl) fun a F => F.mv rfl fun a F => s_grdn 51 F rfl rfl (by decide) fun a F => s_grdn 51 F rfl rfl (by decide) fun a F => s_grdn 51 F rfl rfl (by decide) fun a F => F.vl (x_pick (b := true) rfl rfl) fun a F => ?_
        refine s_end (K36 _ _ ?_)
        refine wp_if F rfl ?_
        refine wp_rs fun _ K37 => F.sg rfl fun a F => ?_
        refine s_end (K37 _ _ ?_)
        refine wp_ret (then_ret (inb_ret (then_ret (res_slot F rfl rfl ⟨by rw [hr], hB⟩))))
       ·
        have hr : mayD d t v cs = 1 := by rw [hr]; unfold indErr; rw [if_pos (by omega)]
        refine wp_rs fun _ K38 => F.vl (x_fa0 fa502_5 rfl) fun a F => F.ld m1 flat3 rfl rfl fun a F => F.vl (lssF (by omega) rfl rfl) fun a F => F.mv rfl fun a F => s_grd 51 F rfl rfl rfl <| F.vl (x_fa0 fa502_5 rfl) fun a F => s_grd 51 F rfl rfl rfl <| F.ld m1 flat3 rfl rfl fun a F => s_grd 51 F rfl rfl rfl <| F.vl (gtrT (by omega) rfl rfl) fun a F => F.vl (x_pick (b := false) rfl rfl) fun a F => ?_
        refine s_end (K38 _ _ ?_)
        refine wp_if F rfl ?_
        refine wp_rs fun _ K39 => F.sg rfl fun a F => ?_
        refine s_end (K39 _ _ ?_)
        refine wp_ret (then_ret (inb_ret (then_ret (res_slot F rfl rfl ⟨by rw [hr], hB⟩))))
       ·
        skip
        refine wp_rs fun _ K40 => F.vl (x_fa0 fa502_5 rfl) fun a F => F.ld m1 flat3 rfl rfl fun a F => F.vl (lssF (by omega) rfl rfl) fun a F => F.mv rfl fun a F => s_grd 51 F rfl rfl rfl <| F.vl (x_fa0 fa502_5 rfl) fun a F => s_grd 51 F rfl rfl rfl <| F.ld m1 flat3 rfl rfl fun a F => s_grd 51 F rfl rfl rfl <| F.vl (gtrF (by omega) rfl rfl) fun a F => F.vl (x_pick (b := false) rfl rfl) fun a F => ?_
        refine s_end (K40 _ _ ?_)
        refine wp_if F rfl ?_
        refine wp_skip (K34 _ _ ?_)
        refine wp_seq_k fun _ K41 => ?_
        rcases (show 8 < cs.length ∨ ¬ 8 < cs.length by omega) with hq8 | hq8
        ·
         have hr : mayD d t v cs = 18 := by rw [hr]; unfold indErr; rw [if_neg (by omega), if_pos (by omega)]
         have m1 : Blk w4 b1 47 (dq d (.slice ac cs.length kc)) := by rw [← dc_dq hdc]; exact m1
         refine wp_rs fun _ K43 => F.vl (x_fa0 fa502_6 rfl) fun a F => F.ld m1 flat500 rfl rfl fun a F => F.vl (x_len Try.underlying45 rfl) fun a F => F.vl (gtrT (by omega) rfl rfl) fun a F => ?_
         refine s_end (K43 _ _ ?_)
         refine wp_if F rfl ?_
         refine wp_rs fun _ K44 => F.sg rfl fun a F => ?_
         refine s_end (K44 _ _ ?_)
         refine wp_ret (then_ret (inb_ret (then_ret (res_slot F rfl rfl ⟨by rw [hr], hB⟩))))
        ·
         have hr : mayD d t v cs = ctErr d.vars cs := by rw [hr]; unfold indErr; rw [if_neg (by omega), if_neg (by omega)]
         have m1 : Blk w4 b1 47 (dq d (.slice ac cs.length kc)) := by rw [← dc_dq hdc]; exact m1
         refine wp_rs fun _ K45 => F.vl (x_fa0 fa502_6 rfl) fun a F => F.ld m1 flat500 rfl rfl fun a F => F.vl (x_len Try.underlying45 rfl) fun a F => F.vl (gtrF (by omega) rfl rfl) fun a F => ?_
         refine s_end (K45 _ _ ?_)
         refine wp_if F rfl ?_
         refine wp_skip (K41 _ _ ?_)
         refine wp_rs fun _ K46 => F.vl (x_fa0 fa502_6 rfl) fun a F => F.ld m1 flat500 rfl rfl fun a F => F.vl (x_len Try.underlying45 rfl) fun a F => F.mv rfl fun a F => ?_
         refine s_end (K46 _ _ ?_)
         refine wp_block ?_
         refine wp_up cs.length (fun i a w => ctErr d.vars cs = ctErr d.vars (cs.drop i) ∧ Blk w b1 47 (dq d (.slice ac cs.length kc)) ∧ Below w0.heap.size w0 w ∧ Fs 80 a [(1, .pointer (some ⟨b1, 0, none⟩)), (61, .slice ac cs.length kc), (62, .int .i64 (cs.length : Int)), (63, .int .i64 (i : Int))]) ⟨by rw [List.drop_zero], m1, hB, F.sub _ rfl⟩ ?_
         have hb1w : w0.heap.size ≤ b1 := by omega
         clear hB m1
         repeat clear F
         rintro i a w hi ⟨hct, m1, hB, F⟩ K' hK'
         have sB := hB.size
         have hm1l := m1.lt
         refine wp_rs fun _ K47 => F.vl (x_lss (b := decide (i < cs.length)) (decide_eq_decide.2 (by omega)) rfl rfl) fun a F => ?_
         refine s_end (K47 _ _ ?_)
         refine wp_seq_k fun _ K48 => ?_
         refine wp_iff F rfl (fun hc64 => ?_) (fun hc64 => ?_)
         ·
          obtain ⟨b9, off9, c9, y, c, hve, hci, hynm, hry, hAb, hbl, hrow⟩ := hcs.row (i := i) (by omega)
          cases hve
          have hfc := hf.cf c (List.mem_of_getElem? hci)
          have h1y := one_cc hry
          have hat := ctErr_at (vars := d.vars) hci
          refine wp_skip (K48 _ _ ?_)
          refine wp_seq_k fun _ K49 => ?_
          refine wp_block ?_
          refine wp_rs fun _ K50 => F.vl (x_ixa rfl rfl (m_ixsK i Try.underlying45 el500.size rfl (by omega))) fun a F => F.vl (x_ldA wide517 (hrow _ (hB.block _ hbl)) rfl rfl) fun a F => ?_
          refine s_alloc F (by decide) zero517 fun w8 b5 a eb5 m5 B9 zb5 F => ?_
          have sB9 := B9.size
          have hB := bt hB B9
          have m1 := m1.old B9
          refine s_putW F rfl rfl (size_wide wide517) m5 rfl h1y fun w12 m5 o13 => ?_
          have so13 := o13.size
          have hB := hB.trans (o13.below (by omega))
          have m1 := m1.only o13 (by omega)
          refine s_end (K50 _ _ ?_)
          refine wp_seq_k fun _ K51 => ?_
          rcases (show nameB c.1 = false ∨ (nameB c.1 = true ∧ (c.2.mayT d.vars 1 0).1 ≠ 0) ∨ (nameB c.1 = true ∧ (c.2.mayT d.vars 1 0).1 = 0) by cases nameB c.1 <;> simp <;> omega) with hnb | ⟨hnb, hmt⟩ | ⟨hnb, hmt⟩
          ·
           rw [if_pos hnb] at hat
           refine wp_rs fun _ K53 => F.vl (x_fa0 fa517_0 rfl) fun a F => F.ld m5 flat9 rfl rfl fun a F => ?_
           refine s_callS [_] F E72 rfl (by decide) ((rName32 _ w12 (by rw [hynm]; exact hfc.1)).mono fun e w' h => ⟨by rw [h.1, hynm, hnb], h.2⟩) fun a F => ?_
           refine F.vl (x_not rfl) fun a F => ?_
           refine s_end (K53 _ _ ?_)
           refine wp_if F rfl ?_
           refine wp_rs fun _ K54 => F.sg rfl fun a F => ?_
           refine s_end (K54 _ _ ?_)
           refine wp_ret (then_ret (inb_ret (then_ret (then_ret (inb_ret (inb_ret (then_ret (res_slot F rfl rfl ⟨by rw [hr, hct, hat], hB⟩))))))))
          ·
           rw [if_neg (by rw [hnb]; simp), if_pos hmt] at hat
           refine wp_rs fun _ K55 => F.vl (x_fa0 fa517_0 rfl) fun a F => F.ld m5 flat9 rfl rfl fun a F => ?_
           refine s_callS [_] F E72 rfl (by decide) ((rName32 _ w12 (by rw [hynm]; exact hfc.1)).mono fun e w' h => ⟨by rw [h.1, hynm, hnb], h.2⟩) fun a F => ?_
           refine F.vl (x_not rfl) fun a F => ?_
           refine s_end (K55 _ _ ?_)
           refine wp_if F rfl ?_
           refine wp_skip (K51 _ _ ?_)
           refine wp_rs fun _ K56 => F.vl (x_fa0 fa517_1 rfl) fun a F => F.vl (x_load rfl (m_loadP (vs := [_, _, _, _, _, _, _, _]) wide27 m5 rfl)) fun a F => F.vl (x_fa0 fa502_2 rfl) fun a F => F.ld m1 flat3 rfl rfl fun a F => ?_
           refine s_callB [_, _] F E73 rfl (by decide) (rMay30 d.vars c.2 y.x w12 (hry.bel hB) hfc.2) fun w14 a B15 F => ?_
           have sB15 := B15.size
           have hB := bt hB B15
           refine F.sg rfl fun a F => ?_
           refine s_end (K56 _ _ ?_)
           refine wp_rs fun _ K57 => F.mv rfl fun a F => F.vl (neqT (by omega) rfl rfl) fun a F => ?_
           refine s_end (K57 _ _ ?_)
           refine wp_if F rfl ?_
           refine wp_rs fun _ K58 => F.mv rfl fun a F => F.sg rfl fun a F => ?_
           refine s_end (K58 _ _ ?_)
           refine wp_ret (inb_ret (then_ret (then_ret (inb_ret (inb_ret (then_ret (res_slot F rfl rfl ⟨by rw [hr, hct, hat], hB⟩)))))))
          ·
           rw [if_neg (by rw [hnb]; simp), if_neg (by rw [hmt]; simp)] at hat
           refine wp_rs fun _ K59 => F.vl (x_fa0 fa517_0 rfl) fun a F => F.ld m5 flat9 rfl rfl fun a F => ?_
           refine s_callS [_] F E72 rfl (by decide) ((rName32 _ w12 (by rw [hynm]; exact hfc.1)).mono fun e w' h => ⟨by rw [h.1, hynm, hnb], h.2⟩) fun a F => ?_
           refine F.vl (x_not rfl) fun a F => ?_
           refine s_end (K59 _ _ ?_)
           refine wp_if F rfl ?_
           refine wp_skip (K51 _ _ ?_)
           refine wp_rs fun _ K60 => F.vl (x_fa0 fa517_1 rfl) fun a F => F.vl (x_load rfl (m_loadP (vs := [_, _, _, _, _, _, _, _]) wide27 m5 rfl)) fun a F => F.vl (x_fa0 fa502_2 rfl) fun a F => F.ld m1 flat3 rfl rfl fun a F => ?_
           refine s_callB [_, _] F E73 rfl (by decide) (rMay30 d.vars c.2 y.x w12 (hry.bel hB) hfc.2) fun w16 a B17 F => ?_
           have sB17 := B17.size
           have hB := bt hB B17
           have m1 := m1.old B17
           refine F.sg rfl fun a F => ?_
           refine s_end (K60 _ _ ?_)
           refine wp_rs fun _ K61 => F.mv rfl fun a F => F.vl (neqF (by omega) rfl rfl) fun a F => ?_
           refine s_end (K61 _ _ ?_)
           refine wp_if F rfl ?_
           refine wp_skip (K49 _ _ ?_)
           refine wp_region_lit ?_
           refine F.vl (x_addn (i + 1) (by omega) (by omega) rfl rfl) fun a F => F.mv rfl fun a F => ?_
           refine s_end (hK' _ _ (by omega) ⟨hct.trans hat, m1, hB, F.sub _ rfl⟩)
         ·
          obtain rfl : i = cs.length := by omega
          rw [List.drop_of_length_le (Nat.le_refl _)] at hct
          refine wp_exit (K27 _ _ ?_)
          refine wp_rs fun _ K62 => F.sg rfl fun a F => ?_
          refine s_end (K62 _ _ ?_)
          refine wp_ret (res_slot F rfl rfl ⟨by rw [hr, hct]; rfl, hB⟩)
      ·
       have hr : mayD d t v cs = 0 := by unfold mayD; rw [if_neg (by omega), if_neg (by rw [hnb]; simp), if_neg (by omega), if_neg (by omega), if_neg (by rw [hmt]; simp), if_neg (by omega), if_neg (by omega)]
       refine wp_rs fun _ K63 => F.vl (eqlF (by omega) rfl rfl) fun a F => F.sg rfl fun a F => ?_
       refine s_end (K63 _ _ ?_)
       refine wp_if F rfl ?_
       refine wp_rs fun _ K64 => F.vl (eqlF (by omega) rfl rfl) fun a F => F.sg rfl fun a F => ?_
       refine s_end (K64 _ _ ?_)
       refine wp_if F rfl ?_
       refine wp_skip (K27 _ _ ?_)
       refine wp_rs fun _ K65 => F.sg rfl fun a F => ?_
       refine s_end (K65 _ _ ?_)
       refine wp_ret (res_slot F rfl rfl ⟨by rw [hr], hB⟩)
end Go.Proofs.Ytmkjhdiepkpdoaa

namespace Go.Proofs.Ytmkjhdiepkpdoaa
set_option maxRecDepth 100000
set_option maxHeartbeats 1600000
open Go.RowKit Go.Shelf
set_option linter.unusedVariables false
set_option linter.unusedSimpArgs false
def nmB (s : ByteArray) : List UInt8 := dig s.data.toList.length ++ s.data.toList
noncomputable def encC (c : ByteArray × CT) : List UInt8 := nmB c.1 ++ encT c.2
noncomputable def encCs (cs : List (ByteArray × CT)) : List UInt8 := dig cs.length ++ cs.flatMap encC
/-- What stands behind a declaration's type. -/
noncomputable def tailD (d : D21) (v : CT) (cs : List (ByteArray × CT)) : List UInt8 := if d.k = 2 then encT v else if d.k = 3 then dig d.ps.toNat ++ encCs cs else []
noncomputable def encDecl (d : D21) (t v : CT) (cs : List (ByteArray × CT)) : List UInt8 := [UInt8.ofNat d.k.toNat] ++ nmB d.nm ++ dig d.vars.toNat ++ encT t ++ tailD d v cs
/-- What is put may be put. -/
structure OkT (c : CT) : Prop where
 put : c.putV
 size : c.size ≤ 400
structure OkC (c : ByteArray × CT) : Prop where
 nm : c.1.data.toList.length ≤ 32
 ok : OkT c.2
structure PutD (d : D21) (t v : CT) (cs : List (ByteArray × CT)) : Prop where
 k : 1 ≤ d.k ∧ d.k ≤ 3
 nm : d.nm.data.toList.length ≤ 32
 vars : 0 ≤ d.vars ∧ d.vars ≤ 6
 ty : OkT t
 vl : d.k = 2 → OkT v
 ind : d.k = 3 → 0 ≤ d.ps ∧ d.ps ≤ 64 ∧ cs.length ≤ 8 ∧ ∀ c ∈ cs, OkC c
theorem OkT.of {W : World} {A : Nat → Prop} {c : CT} {x : C8} {vars : Int} (hx : RC W A c x) (hv : 0 ≤ vars ∧ vars ≤ 6) (h : (c.mayT vars 1 0).1 = 0) : OkT c := by
 have h0 := may_zero c x 1 0 hx h
 obtain ⟨n, rfl⟩ : ∃ n : Nat, vars = (n : Int) := ⟨vars.toNat, by omega⟩
 exact ⟨may_put (by omega) c x 1 0 hx h, by have := h0.2.2.1; omega⟩
theorem nameB_len {s : ByteArray} (h : ¬ nameB s = false) : s.data.toList.length ≤ 32 := by
 have hnt : nameB s = true := by cases hb : nameB s with | true => rfl | false => exact absurd hb h
 exact (nameB_true.1 hnt).2.2
theorem ctErr_zero {vars : Int} : ∀ {cs : List (ByteArray × CT)}, ctErr vars cs = 0 → ∀ c ∈ cs, nameB c.1 ≠ false ∧ (c.2.mayT vars 1 0).1 = 0
 | [], _, c, h => by cases h
 | c' :: cs, h, c, hc => by
  unfold ctErr at h
  split at h
  ·
   omega
  ·
   next h1 =>
   split at h
   ·
    next h2 => exact absurd h h2
   ·
    next h2 =>
    rcases List.mem_cons.1 hc with rfl | hc
    ·
     exact ⟨h1, by omega⟩
    ·
     exact ctErr_zero h c hc
theorem PutD.of {W : World} {A : Nat → Prop} {d : D21} {t v : CT} {cs : List (ByteArray × CT)} (hd : RD W A d t v cs) (h : mayD d t v cs = 0) : PutD d t v cs := by
 unfold mayD at h
 split at h
 ·
  omega
 ·
  next hk =>
  split at h
  ·
   omega
  ·
   next hn =>
   split at h
   ·
    omega
   ·
    next hv1 =>
    split at h
    ·
     omega
    ·
     next hv2 =>
     split at h
     ·
      next h2 => exact absurd h h2
     ·
      next h2 =>
      refine ⟨by omega, nameB_len hn, by omega, OkT.of (vars := d.vars) hd.ty (by omega) (by omega), fun k2 => ?_, fun k3 => ?_⟩
      ·
       rw [if_pos k2] at h; exact OkT.of (vars := d.vars) hd.vl (by omega) h
      ·
       rw [if_neg (by omega), if_pos k3] at h
       unfold indErr at h
       split at h
       ·
        omega
       ·
        split at h
        ·
         omega
        ·
         refine ⟨by omega, by omega, by omega, fun c hc => ?_⟩
         have h5 := ctErr_zero h c hc
         obtain ⟨i, hi, rfl⟩ := List.getElem_of_mem hc
         obtain ⟨xs, g1, g2, g3⟩ := hd.cs
         have g4 := g3 i (xs[i]'(by omega)) cs[i] (List.getElem?_eq_getElem (by omega)) (List.getElem?_eq_getElem hi)
         exact ⟨nameB_len h5.1, OkT.of (vars := d.vars) g4.2 (by omega) h5.2⟩
theorem nmB_len {s : ByteArray} (h : s.data.toList.length ≤ 32) : (nmB s).length ≤ 42 := by
 have := dig_len 9 s.data.toList.length (by omega)
 unfold nmB; rw [List.length_append]; omega
theorem OkT.len {W : World} {A : Nat → Prop} {c : CT} {x : C8} (h : OkT c) (hx : RC W A c x) : (encT c).length ≤ 3200000 := by
 have h1 := encT_len c x hx h.put
 have h2 := h.size
 omega
theorem encC_len {W : World} {A : Nat → Prop} {c : ByteArray × CT} {x : C8} (h : OkC c) (hx : RC W A c.2 x) : (encC c).length ≤ 3200042 := by
 have h1 := h.ok.len hx
 have h2 := nmB_len h.nm
 unfold encC; rw [List.length_append]; omega
theorem encCs_len {W : World} {A : Nat → Prop} {v : Value} {cs : List (ByteArray × CT)} (hl : cs.length ≤ 8) (hV : RCs W A v cs) (hE : ∀ c ∈ cs, OkC c) : (encCs cs).length ≤ 30000000 := by
 obtain ⟨xs, _, h2, h3⟩ := hV
 have hdl := dig_len 9 cs.length (by omega)
 have : ∀ (cs : List (ByteArray × CT)) (xs : List K9), xs.length = cs.length → (∀ (i : Nat) x c, xs[i]? = some x → cs[i]? = some c → x.nm = c.1 ∧ RC W A c.2 x.x) → (∀ c ∈ cs, OkC c) → (cs.flatMap encC).length ≤ 3200042 * cs.length := by
  intro cs
  induction cs with
  | nil => intro xs _ _ _; simp
  | cons c cs ih =>
   intro xs h2 h3 hE
   cases xs with
   | nil => simp at h2
   | cons x xs =>
    have h4 := ih xs (by simpa using h2) (fun i y c' e1 e2 => h3 (i + 1) y c' (by simpa using e1) (by simpa using e2)) (fun c' hc' => hE c' (List.mem_cons_of_mem _ hc'))
    have h5 := encC_len (hE c List.mem_cons_self) (h3 0 x c rfl rfl).2
    rw [List.flatMap_cons, List.length_append, List.length_cons]
    omega
 have := this cs xs h2 h3 hE
 unfold encCs
 rw [List.length_append]
 omega
theorem tailD_len {W : World} {A : Nat → Prop} {d : D21} {t v : CT} {cs : List (ByteArray × CT)} (h : PutD d t v cs) (hd : RD W A d t v cs) : (tailD d v cs).length ≤ 30000010 := by
 unfold tailD
 split
 ·
  next k2 => have := (h.vl k2).len hd.vl; omega
 ·
  split
  ·
   next k3 =>
   have h1 := h.ind k3
   have h2 := encCs_len h1.2.2.1 hd.cs h1.2.2.2
   have h4 := h1.1
   have h5 := h1.2.1
   have h3 := dig_len 9 d.ps.toNat (by omega)
   rw [List.length_append]; omega
  ·
   simp
theorem putCtor323 (base o : Nat) (v : Value) (bs : List UInt8) (y : K9) (c : CT) (w0 : World) (A : Nat → Prop) (hx : RC w0 A c y.x) (hn : y.nm.data.toList.length ≤ 32) (hc : OkT c) (hA : ∀ k, A k → k ≠ o ∧ k < w0.heap.size) (hO : w0.ownsRow base 5 1 v bs.length (bs.map encB)) (hat : ∀ j, v.ownBlock = some j → j = o) (ho : o < w0.heap.size) (hb0 : base ≤ w0.heap.size) (hlen : bs.length + 4000000 ≤ 140737488355328) : Calls Try.prog 112 #[v, .agg (cc y).toArray] w0 (PutsY 5 base o w0 (bs ++ (nmB y.nm ++ encT c))) := by
 have h1y := one_cc hx
 have hl1 := nmB_len hn
 have hl2 := hc.len hx
 have hAo : ∀ k, A k → k ≠ o ∧ k ≠ o := fun k h => ⟨(hA k h).1, (hA k h).1⟩
 have hK := Ktw.refl o o w0
 have sK := hK.size
 refine calls_fs 12 [(0, v), (1, .agg (cc y).toArray)] Try.func112 rfl rfl rfl rfl rfl fun a F => ?_
 refine wp_rs fun _ K1 => ?_
 refine s_box (cc y) F (by decide) rfl rfl fun w2 b3 a eb3 m3 B3 zb3 F => ?_
 have sB3 := B3.size
 have hK := hK.below B3
 have hO := own_below hO B3
 refine F.sg rfl fun a F => ?_
 refine s_end (K1 _ _ ?_)
 refine dk2_seq (o) (o) (ops := regOps Try.f112 1) (N := 8) (by kernel_rfl) wide_orders (by kernel_rfl) fun w4 hw4 B5 hS K2 K2 => ?_
 have zw4 : w4.heap.size = w2.heap.size := by rw [hw4]
 have sB5 := B5.size
 have hK := hK.below B5
 have hO := own_below hO B5
 have m3 := m3.old B5
 have hO_d := hO
 have m3_d := m3
 have hK_d := hK
 refine F.dv 0 5 (.move (.tmp 0)) hS (fun W hW => x_move rfl) fun a F => F.dv 1 6 (.fieldAddr 93 (.tmp 3) 0) hS (fun W hW => x_fa0 fa517_0 rfl) fun a F => F.dv 2 7 (.load 9 (.tmp 6)) hS (fun W hW => x_load rfl (m_load flat9 ((m3_d.k2 hW (by omega)).cell (j := 0) rfl))) fun a F => F.dv 4 9 (.fieldAddr 93 (.tmp 3) 1) hS (fun W hW => x_fa0 fa517_1 rfl) fun a F => F.dv 5 10 (.load 27 (.tmp 9)) hS (fun W hW => x_load rfl (m_loadP (vs := [_, _, _, _, _, _, _, _]) wide27 (m3_d.k2 hW (by omega)) rfl)) fun a F => ?_
 refine d1 3 (some 8) (.call (.mk (.value (.func 108)) #[(.tmp 5), (.tmp 7)] #[48, 9])) fun ty pos af => ?_
 refine s_call (R := fun u w' => (∃ o', w'.ownsRow base 5 1 u (bs ++ nmB y.nm).length ((bs ++ nmB y.nm).map encB) ∧ (∀ j, u.ownBlock = some j → j = o') ∧ ((o' = o ∨ w4.heap.size ≤ o') ∧ o' < w'.heap.size)) ∧ Ktw o o w4 w') F [_, _] E108 rfl (by decide) (putName319 base o v bs y.nm w4 hO hat (by omega) (by omega) (by omega)) ?_
 rintro v2 w6 a ⟨⟨o2, hOn, hatn, hon⟩, k7⟩ F
 clear hO hat
 have hO := hOn
 have hat := hatn
 clear hOn hatn
 have sk7 := k7.size
 have hK := hK.trans k7 (by omega)
 have hS := hS.trans k7 (by omega)
 refine s_end ⟨hS, ?_⟩
 refine d1 6 (some 11) (.call (.mk (.value (.func 110)) #[(.tmp 8), (.tmp 10)] #[48, 27])) fun ty pos af => ?_
 refine s_call (R := fun u w' => (∃ o', w'.ownsRow base 5 1 u (bs ++ nmB y.nm ++ encT c).length ((bs ++ nmB y.nm ++ encT c).map encB) ∧ (∀ j, u.ownBlock = some j → j = o') ∧ ((o' = o2 ∨ w6.heap.size ≤ o') ∧ o' < w'.heap.size)) ∧ Ktw o2 o2 w6 w') F [_, _] E110 rfl (by decide) (putTerm321 (c.size + 1) c y.x base o2 v2 (bs ++ nmB y.nm) w6 A (by omega) ((hx).keep hK.size (fun k ha hk => hK.block k hk (hAo k ha))) hc.put (fun k hk => by have := hA k hk; omega) hO hat (by omega) (by omega) (by simp only [List.length_append, List.length_cons, List.length_nil]; omega)) ?_
 rintro v4 w8 a ⟨⟨o4, hOn, hatn, hon⟩, k9⟩ F
 clear hO hat
 have hO := hOn
 have hat := hatn
 clear hOn hatn
 have sk9 := k9.size
 have hK := hK.trans k9 (by omega)
 have hS := hS.trans k9 (by omega)
 refine s_end ⟨hS, ?_⟩
 refine F.dv 7 4 (.assign (.tmp 11)) hS (fun W hW => x_assign rfl) fun a F => ?_
 refine d_end (by kernel_rfl) (K2 _ _ ?_)
 refine wp_ret (res_slot F rfl rfl ⟨v4, rfl, ⟨o4, by rw [← List.append_assoc]; exact hO, hat, by omega⟩, hK⟩)
theorem PutList330 (A : Nat → Prop) (u : Value) (cs : List (ByteArray × CT)) (w0 : World) (hA : ∀ k, A k → k < w0.heap.size) (hV : RCs w0 A u cs) (hE : ∀ c ∈ cs, OkC c) (hls : cs.length ≤ 8) : Calls Try.prog 143 #[nilS, u, .func (.func 112) #[] #[]] w0 (FreshY 5 w0 (encCs cs)) := by
 have hlen := encCs_len hls hV hE
 obtain ⟨au, cu, hve, _⟩ := hV.form
 subst hve
 have hdl := dig_len 9 cs.length (by omega)
 unfold encCs at hlen ⊢
 rw [List.length_append] at hlen
 have hB := Below.refl w0.heap.size w0
 have sB := hB.size
 refine calls_fs 32 [(0, nilS), (1, .slice au cs.length cu), (2, .func (.func 112) #[] #[])] Try.func143 rfl rfl rfl rfl rfl fun a F => ?_
 refine wp_rs fun _ K1 => F.sg rfl fun a F => ?_
 refine s_end (K1 _ _ ?_)
 refine wp_seq_k fun _ K2 => ?_
 refine wp_rs fun _ K3 => F.mv rfl fun a F => F.vl (x_eqNil Try.underlying129 rfl) fun a F => ?_
 refine s_end (K3 _ _ ?_)
 refine wp_if F rfl ?_
 refine wp_skip (K2 _ _ ?_)
 refine wp_rs fun _ K4 => F.mv rfl fun a F => F.mv rfl fun a F => F.vl (x_len Try.underlying45 rfl) fun a F => F.vl (x_i2d (m := cs.length) Try.underlying3 Try.underlying54 rfl) fun a F => ?_
 refine s_call (R := fun u w' => (∃ o', w'.ownsRow w0.heap.size 5 1 u (dig cs.length).length ((dig cs.length).map encB) ∧ (∀ j, u.ownBlock = some j → j = o') ∧ (w0.heap.size ≤ o' ∧ o' < w'.heap.size)) ∧ Below w0.heap.size w0 w') F [_, _] E118 rfl (by decide) (by have h := Put326 _ [] (UInt64.ofNat cs.length) w0 (Rd.nil _ _) (by simp); rw [d2n (by omega)] at h; exact h) ?_
 rintro v1 w2 a ⟨⟨o1, h1O, h1at, h1o⟩, B3⟩ F
 have sB3 := B3.size
 have hB := bt hB B3
 have h1R := Rd.own h1O
 have hO := h1O
 have hat := h1at
 refine F.sg rfl fun a F => ?_
 refine s_end (K4 _ _ ?_)
 refine wp_seq_k fun _ K5 => ?_
 refine wp_rs fun _ K6 => F.mv rfl fun a F => F.vl (x_len Try.underlying45 rfl) fun a F => F.mv rfl fun a F => ?_
 refine s_end (K6 _ _ ?_)
 refine wp_block ?_
 refine wp_up cs.length (fun i a w => ∃ v' o', w.ownsRow w0.heap.size 5 1 v' (dig cs.length ++ (cs.take i).flatMap encC).length ((dig cs.length ++ (cs.take i).flatMap encC).map encB) ∧ (∀ j, v'.ownBlock = some j → j = o') ∧ (w0.heap.size ≤ o' ∧ o' < w.heap.size) ∧ Below w0.heap.size w0 w ∧ Fs 32 a [(2, .func (.func 112) #[] #[]), (7, v'), (19, .slice au cs.length cu), (20, .int .i64 (cs.length : Int)), (21, .int .i64 (i : Int))]) ⟨v1, o1, by simpa using hO, hat, by omega, hB, F.sub _ rfl⟩ ?_
 clear hO hat hB h1O h1at h1R
 repeat clear F
 rintro i a w hi ⟨v1, o1, hO, hat, ho1, hB, F⟩ K' hK'
 have sB := hB.size
 refine wp_rs fun _ K7 => F.vl (x_lss (b := decide (i < cs.length)) (decide_eq_decide.2 (by omega)) rfl rfl) fun a F => ?_
 refine s_end (K7 _ _ ?_)
 refine wp_seq_k fun _ K8 => ?_
 refine wp_iff F rfl (fun hc22 => ?_) (fun hc22 => ?_)
 ·
  obtain ⟨b9, off9, c9, y, c, hve, hli, hynm, hry, hAb, hbl, hrow⟩ := hV.row (i := i) (by omega)
  cases hve
  have hoc := hE c (List.mem_of_getElem? hli)
  have h1y := one_cc hry
  have hfs := flat_snoc (f := encC) hli
  have hfl := flat_le (f := encC) hli
  refine wp_skip (K8 _ _ ?_)
  refine wp_seq_k fun K9 hK9 => ?_
  refine wp_block ?_
  refine wp_rs fun _ K10 => F.vl (x_ixa rfl rfl (m_ixsK i Try.underlying45 el500.size rfl (by omega))) fun a F => F.vl (x_ldA wide517 (hrow _ (hB.block _ hbl)) rfl rfl) fun a F => ?_
  refine s_alloc F (by decide) zero517 fun w4 b9 a eb9 m9 B5 zb9 F => ?_
  have sB5 := B5.size
  have hB := bt hB B5
  have hO := own_below hO B5
  refine s_putW F rfl rfl (size_wide wide517) m9 rfl h1y fun w8 m9 o9 => ?_
  have so9 := o9.size
  have hB := hB.trans (o9.below (by omega))
  have hO := own_only hO o9 (fun e => by have := hat _ e; omega)
  refine s_end (K10 _ _ ?_)
  refine wp_region_lit ?_
  refine F.mv rfl fun a F => F.mv rfl fun a F => F.vl (x_ldW wide517 m9 rfl rfl) fun a F => ?_
  refine s_callC (R := fun u w' => (∃ o', w'.ownsRow w0.heap.size 5 1 u (dig cs.length ++ (cs.take i).flatMap encC ++ encC c).length ((dig cs.length ++ (cs.take i).flatMap encC ++ encC c).map encB) ∧ (∀ j, u.ownBlock = some j → j = o') ∧ ((o' = o1 ∨ w8.heap.size ≤ o') ∧ o' < w'.heap.size)) ∧ Ktw o1 o1 w8 w') (lb := []) F [_, _] rfl E112 rfl (by decide) (by rw [show encC c = nmB y.nm ++ encT c.2 by unfold encC; rw [hynm]]; exact putCtor323 w0.heap.size o1 v1 _ y c.2 w8 A (hry.keep hB.size (fun k ha hk => hB.block k hk)) (by rw [hynm]; exact hoc.nm) hoc.ok (fun k hk => by have := hA k hk; omega) hO hat (by omega) (by omega) (by simp only [List.length_append]; omega)) ?_
  rintro v5 w10 a ⟨⟨o5, hOn, hatn, hon⟩, k11⟩ F
  clear hO hat
  have hO := hOn
  have hat := hatn
  clear hOn hatn
  have sk11 := k11.size
  have hB := k11.under hB (by omega)
  refine F.sg rfl fun a F => ?_
  refine s_end (hK9 _ _ ?_)
  refine wp_region_lit ?_
  refine F.vl (x_addn (i + 1) (by omega) (by omega) rfl rfl) fun a F => F.mv rfl fun a F => ?_
  refine s_end (hK' _ _ (by omega) ⟨v5, o5, by rw [hfs, ← List.append_assoc]; exact hO, hat, by omega, hB, F.sub _ rfl⟩)
 ·
  obtain rfl : i = cs.length := by omega
  rw [List.take_of_length_le (Nat.le_refl _)] at hO
  refine wp_exit (K5 _ _ ?_)
  refine wp_rs fun _ K11 => F.mv rfl fun a F => ?_
  refine s_call (R := fun u w' => (∃ o', w'.ownsRow w.heap.size 5 1 u (dig cs.length ++ cs.flatMap encC).length ((dig cs.length ++ cs.flatMap encC).map encB) ∧ (∀ j, u.ownBlock = some j → j = o') ∧ (w.heap.size ≤ o' ∧ o' < w'.heap.size)) ∧ Below w.heap.size w w') F [_, _] E117 rfl (by decide) (fresh325 _ (dig cs.length ++ cs.flatMap encC) 0 w (Rd.own hO) (by rw [List.length_append]; omega)) ?_
  rintro v9 w12 a ⟨⟨o9, h9O, h9at, h9o⟩, B13⟩ F
  have sB13 := B13.size
  have hB := bt hB B13
  have h9R := Rd.own h9O
  refine F.sg rfl fun a F => ?_
  refine s_end (K11 _ _ ?_)
  refine wp_ret (res_slot F rfl rfl ⟨v9, rfl, ⟨o9, own_base h9O (by omega), h9at, by omega⟩, hB⟩)
theorem putList322 (base o : Nat) (v : Value) (bs : List UInt8) (A : Nat → Prop) (u : Value) (cs : List (ByteArray × CT)) (w0 : World) (hA : ∀ k, A k → k < w0.heap.size) (hV : RCs w0 A u cs) (hE : ∀ c ∈ cs, OkC c) (hls : cs.length ≤ 8) (hO : w0.ownsRow base 5 1 v bs.length (bs.map encB)) (hat : ∀ j, v.ownBlock = some j → j = o) (ho : o < w0.heap.size) (hb0 : base ≤ w0.heap.size) (hlen : bs.length + 40000000 ≤ 140737488355328) : Calls Try.prog 111 #[v, u, .func (.func 112) #[] #[]] w0 (PutsY 5 base o w0 (bs ++ encCs cs)) := by
 have hlc := encCs_len hls hV hE
 have hK := Ktw.refl o o w0
 have sK := hK.size
 refine calls_fs 12 [(0, v), (1, u), (2, .func (.func 112) #[] #[])] Try.func111 rfl rfl rfl rfl rfl fun a F => ?_
 refine wp_rs fun _ K1 => F.sg rfl fun a F => ?_
 refine s_end (K1 _ _ ?_)
 refine wp_rs fun _ K2 => F.mv rfl fun a F => F.mv rfl fun a F => F.mv rfl fun a F => ?_
 refine s_call (R := fun u w' => (∃ o', w'.ownsRow w0.heap.size 5 1 u (encCs cs).length ((encCs cs).map encB) ∧ (∀ j, u.ownBlock = some j → j = o') ∧ (w0.heap.size ≤ o' ∧ o' < w'.heap.size)) ∧ Below w0.heap.size w0 w') F [_, _, _] E143 rfl (by decide) (PutList330 A u cs w0 hA hV hE hls) ?_
 rintro v9 w2 a ⟨⟨o9, h9O, h9at, h9o⟩, B3⟩ F
 have sB3 := B3.size
 have hK := hK.below B3
 have hO := own_below hO B3
 have h9R := Rd.own h9O
 have hlY : (bs).length + (encCs cs).length ≤ 140737488355328 := by omega
 refine s_appP (o := o) (p := (encCs cs).length) (ys := (encCs cs).map encB) el503 F (by decide) rfl rfl hO (h9R) (oneY _) hat (by omega) (by omega) (by unfold maxLen; omega) (by omega) fun v2 w4 a o2 hOn hatn hon k5 F => ?_
 clear hO hat
 have hat := hatn
 have hO : w4.ownsRow base 5 1 v2 (bs ++ (encCs cs)).length ((bs ++ (encCs cs)).map encB) := by rw [List.length_append, List.map_append]; exact hOn
 clear hOn hatn
 have sk5 := k5.size
 have hK := hK.trans k5 (by omega)
 refine F.sg rfl fun a F => ?_
 refine s_end (K2 _ _ ?_)
 refine wp_ret (res_slot F rfl rfl ⟨v2, rfl, ⟨o2, ?_, hat, by omega⟩, hK⟩)
 exact hO
theorem putDecl311 (base o : Nat) (v : Value) (bs : List UInt8) (d : D21) (t vc : CT) (cs : List (ByteArray × CT)) (w0 : World) (A : Nat → Prop) (hd : RD w0 A d t vc cs) (hp : PutD d t vc cs) (hA : ∀ k, A k → k ≠ o ∧ k < w0.heap.size) (hO : w0.ownsRow base 5 1 v bs.length (bs.map encB)) (hat : ∀ j, v.ownBlock = some j → j = o) (ho : o < w0.heap.size) (hb0 : base ≤ w0.heap.size) (hlen : bs.length + 100000000 ≤ 140737488355328) : Calls Try.prog 65 #[v, dvv d] w0 (PutsY 5 base o w0 (bs ++ encDecl d t vc cs)) := by
 have hty := hd.ty
 have hvl := hd.vl
 have hcs := hd.cs
 have hk := hp.k
 have hv := hp.vars
 have hl1 := nmB_len hp.nm
 have hl2 := hp.ty.len hty
 have hl3 := tailD_len hp hd
 have hl4 := dig_len 9 d.vars.toNat (by omega)
 have hkn : d.k = ((d.k.toNat : Nat) : Int) := by omega
 have hvn : d.vars = ((d.vars.toNat : Nat) : Int) := by omega
 have hAo : ∀ k, A k → k ≠ o ∧ k ≠ o := fun k h => ⟨(hA k h).1, (hA k h).1⟩
 have hK := Ktw.refl o o w0
 have sK := hK.size
 refine calls_fs 42 [(0, v), (1, dvv d)] Try.func65 rfl rfl rfl rfl rfl fun a F => ?_
 refine wp_rs fun _ K1 => ?_
 refine s_box (dc d) F (by decide) rfl rfl fun w2 b3 a eb3 m3 B3 zb3 F => ?_
 have sB3 := B3.size
 have hK := hK.below B3
 have hO := own_below hO B3
 refine F.sg rfl fun a F => ?_
 refine s_end (K1 _ _ ?_)
 refine wp_rs fun _ K2 => F.mv rfl fun a F => F.vl (x_fa0 fa502_0 rfl) fun a F => F.ld m3 flat3 rfl rfl fun a F => F.vl (x_i2b (m := d.k.toNat) Try.underlying3 Try.underlying5 (by rw [← hkn]; rfl)) fun a F => ?_
 refine s_litG [encB (UInt8.ofNat d.k.toNat)] el503 F (by decide) rfl (by simp [Value.cells, encB]) rfl (by decide) (by decide) fun w4 bl a ebl ml B5 zbl F => ?_
 have sB5 := B5.size
 have hK := hK.below B5
 have hO := own_below hO B5
 have m3 := m3.old B5
 have ml : Blk w4 bl 5 ([UInt8.ofNat d.k.toNat].map encB) := ml
 have hlY : (bs).length + ([UInt8.ofNat d.k.toNat]).length ≤ 140737488355328 := by simp only [List.length_cons, List.length_nil]; omega
 refine s_appP (o := o) (p := ([UInt8.ofNat d.k.toNat]).length) (ys := ([UInt8.ofNat d.k.toNat]).map encB) el503 F (by decide) rfl rfl hO (Rd.blk ml rfl) (oneY _) hat (by omega) (by omega) (by unfold maxLen; omega) (by omega) fun v2 w6 a o2 hOn hatn hon k7 F => ?_
 clear hO hat
 have hat := hatn
 have hO : w6.ownsRow base 5 1 v2 (bs ++ ([UInt8.ofNat d.k.toNat])).length ((bs ++ ([UInt8.ofNat d.k.toNat])).map encB) := by rw [List.length_append, List.map_append]; exact hOn
 clear hOn hatn
 have sk7 := k7.size
 have hK := hK.trans k7 (by omega)
 have m3 := m3.k2 k7 (by omega)
 refine F.sg rfl fun a F => ?_
 refine s_end (K2 _ _ ?_)
 refine wp_rs fun _ K3 => F.mv rfl fun a F => F.vl (x_fa0 fa502_1 rfl) fun a F => F.ld m3 flat9 rfl rfl fun a F => ?_
 refine s_call (R := fun u w' => (∃ o', w'.ownsRow base 5 1 u (bs ++ [UInt8.ofNat d.k.toNat] ++ nmB d.nm).length ((bs ++ [UInt8.ofNat d.k.toNat] ++ nmB d.nm).map encB) ∧ (∀ j, u.ownBlock = some j → j = o') ∧ ((o' = o2 ∨ w6.heap.size ≤ o') ∧ o' < w'.heap.size)) ∧ Ktw o2 o2 w6 w') F [_, _] E108 rfl (by decide) (putName319 base o2 v2 _ d.nm w6 hO hat (by omega) (by omega) (by have := hp.nm; simp only [List.length_append, List.length_cons, List.length_nil]; omega)) ?_
 rintro v3 w8 a ⟨⟨o3, hOn, hatn, hon⟩, k9⟩ F
 clear hO hat
 have hO := hOn
 have hat := hatn
 clear hOn hatn
 have sk9 := k9.size
 have hK := hK.trans k9 (by omega)
 have m3 := m3.k2 k9 (by omega)
 refine F.sg rfl fun a F => ?_
 refine s_end (K3 _ _ ?_)
 refine wp_rs fun _ K4 => F.mv rfl fun a F => F.vl (x_fa0 fa502_2 rfl) fun a F => F.ld m3 flat3 rfl rfl fun a F => ?_
 refine s_call (R := fun u w' => (∃ o', w'.ownsRow base 5 1 u (bs ++ [UInt8.ofNat d.k.toNat] ++ nmB d.nm ++ dig d.vars.toNat).length ((bs ++ [UInt8.ofNat d.k.toNat] ++ nmB d.nm ++ dig d.vars.toNat).map encB) ∧ (∀ j, u.ownBlock = some j → j = o') ∧ ((o' = o3 ∨ w8.heap.size ≤ o') ∧ o' < w'.heap.size)) ∧ Ktw o3 o3 w8 w') F [_, _] E109 rfl (by decide) (by rw [show Value.int .i64 d.vars = .int .i64 ((d.vars.toNat : Nat) : Int) by rw [← hvn]]; exact putNumber320 base o3 v3 _ d.vars.toNat w8 hO hat (by omega) (by omega) (by omega) (by simp only [List.length_append, List.length_cons, List.length_nil]; omega)) ?_
 rintro v4 w10 a ⟨⟨o4, hOn, hatn, hon⟩, k11⟩ F
 clear hO hat
 have hO := hOn
 have hat := hatn
 clear hOn hatn
 have sk11 := k11.size
 have hK := hK.trans k11 (by omega)
 have m3 := m3.k2 k11 (by omega)
 refine F.sg rfl fun a F => ?_
 refine s_end (K4 _ _ ?_)
 refine wp_rs fun _ K5 => F.mv rfl fun a F => F.vl (x_fa0 fa502_3 rfl) fun a F => F.vl (x_load rfl (m_loadP (vs := [_, _, _, _, _, _, _, _]) wide27 m3 rfl)) fun a F => ?_
 refine s_call (R := fun u w' => (∃ o', w'.ownsRow base 5 1 u (bs ++ [UInt8.ofNat d.k.toNat] ++ nmB d.nm ++ dig d.vars.toNat ++ encT t).length ((bs ++ [UInt8.ofNat d.k.toNat] ++ nmB d.nm ++ dig d.vars.toNat ++ encT t).map encB) ∧ (∀ j, u.ownBlock = some j → j = o') ∧ ((o' = o4 ∨ w10.heap.size ≤ o') ∧ o' < w'.heap.size)) ∧ Ktw o4 o4 w10 w') F [_, _] E110 rfl (by decide) (putTerm321 (t.size + 1) t d.ty base o4 v4 _ w10 A (by omega) ((hty).keep hK.size (fun k ha hk => hK.block k hk (hAo k ha))) hp.ty.put (fun k hk => by have := hA k hk; omega) hO hat (by omega) (by omega) (by simp only [List.length_append, List.length_cons, List.length_nil]; omega)) ?_
 rintro v5 w12 a ⟨⟨o5, hOn, hatn, hon⟩, k13⟩ F
 clear hO hat
 have hO := hOn
 have hat := hatn
 clear hOn hatn
 have sk13 := k13.size
 have hK := hK.trans k13 (by omega)
 have m3 := m3.k2 k13 (by omega)
 refine F.sg rfl fun a F => ?_
 refine s_end (K5 _ _ ?_)
 refine wp_seq_k fun _ K6 => ?_
 refine wp_rs fun _ K7 => F.vl (x_fa0 fa502_0 rfl) fun a F => F.ld m3 flat3 rfl rfl fun a F => ?_
 refine s_end (K7 _ _ ?_)
 refine wp_block ?_
 rcases (show d.k = 2 ∨ (d.k ≠ 2 ∧ d.k = 3) ∨ (d.k ≠ 2 ∧ d.k ≠ 3) by omega) with hk2 | hk2 | hk2
 ·
  have htl : tailD d vc cs = encT vc := if_pos hk2
  refine wp_rs fun K9 hK9 => F.vl (eqlT (by omega) rfl rfl) fun a F => F.sg rfl fun a F => ?_
  refine s_end (hK9 _ _ ?_)
  refine wp_if F rfl ?_
  refine wp_region_lit ?_
  refine F.mv rfl fun a F => F.vl (x_fa0 fa502_4 rfl) fun a F => F.vl (x_load rfl (m_loadP (vs := [_, _, _, _, _, _, _, _]) wide27 m3 rfl)) fun a F => ?_
  refine s_call (R := fun u w' => (∃ o', w'.ownsRow base 5 1 u (bs ++ [UInt8.ofNat d.k.toNat] ++ nmB d.nm ++ dig d.vars.toNat ++ encT t ++ encT vc).length ((bs ++ [UInt8.ofNat d.k.toNat] ++ nmB d.nm ++ dig d.vars.toNat ++ encT t ++ encT vc).map encB) ∧ (∀ j, u.ownBlock = some j → j = o') ∧ ((o' = o5 ∨ w12.heap.size ≤ o') ∧ o' < w'.heap.size)) ∧ Ktw o5 o5 w12 w') F [_, _] E110 rfl (by decide) (putTerm321 (vc.size + 1) vc d.vl base o5 v5 _ w12 A (by omega) ((hvl).keep hK.size (fun k ha hk => hK.block k hk (hAo k ha))) (hp.vl hk2).put (fun k hk => by have := hA k hk; omega) hO hat (by omega) (by omega) (by have := (hp.vl hk2).len hvl; simp only [List.length_append, List.length_cons, List.length_nil]; omega)) ?_
  rintro v6 w14 a ⟨⟨o6, hOn, hatn, hon⟩, k15⟩ F
  clear hO hat
  have hO := hOn
  have hat := hatn
  clear hOn hatn
  have sk15 := k15.size
  have hK := hK.trans k15 (by omega)
  refine F.sg rfl fun a F => ?_
  refine s_end (K6 _ _ ?_)
  refine wp_rs fun _ K10 => F.mv rfl fun a F => F.sg rfl fun a F => ?_
  refine s_end (K10 _ _ ?_)
  refine wp_ret (res_slot F rfl rfl ⟨v6, rfl, ⟨o6, ?_, hat, by omega⟩, hK⟩)
  unfold encDecl
  rw [htl]
  simpa using hO
 ·
  have htl : tailD d vc cs = dig d.ps.toNat ++ encCs cs := by unfold tailD; rw [if_neg hk2.1, if_pos hk2.2]
  have hpi := hp.ind hk2.2
  have hpn : d.ps = ((d.ps.toNat : Nat) : Int) := by omega
  have hl5 := dig_len 9 d.ps.toNat (by omega)
  refine wp_rs fun _ K11 => F.vl (eqlF (by omega) rfl rfl) fun a F => F.sg rfl fun a F => ?_
  refine s_end (K11 _ _ ?_)
  refine wp_if F rfl ?_
  refine wp_rs fun _ K12 => F.vl (eqlT (by omega) rfl rfl) fun a F => F.sg rfl fun a F => ?_
  refine s_end (K12 _ _ ?_)
  refine wp_if F rfl ?_
  refine wp_rs fun _ K13 => F.mv rfl fun a F => F.vl (x_fa0 fa502_5 rfl) fun a F => F.ld m3 flat3 rfl rfl fun a F => ?_
  refine s_call (R := fun u w' => (∃ o', w'.ownsRow base 5 1 u (bs ++ [UInt8.ofNat d.k.toNat] ++ nmB d.nm ++ dig d.vars.toNat ++ encT t ++ dig d.ps.toNat).length ((bs ++ [UInt8.ofNat d.k.toNat] ++ nmB d.nm ++ dig d.vars.toNat ++ encT t ++ dig d.ps.toNat).map encB) ∧ (∀ j, u.ownBlock = some j → j = o') ∧ ((o' = o5 ∨ w12.heap.size ≤ o') ∧ o' < w'.heap.size)) ∧ Ktw o5 o5 w12 w') F [_, _] E109 rfl (by decide) (by rw [show Value.int .i64 d.ps = .int .i64 ((d.ps.toNat : Nat) : Int) by rw [← hpn]]; exact putNumber320 base o5 v5 _ d.ps.toNat w12 hO hat (by omega) (by omega) (by omega) (by simp only [List.length_append, List.length_cons, List.length_nil]; omega)) ?_
  rintro v7 w16 a ⟨⟨o7, hOn, hatn, hon⟩, k17⟩ F
  clear hO hat
  have hO := hOn
  have hat := hatn
  clear hOn hatn
  have sk17 := k17.size
  have hK := hK.trans k17 (by omega)
  have m3 := m3.k2 k17 (by omega)
  refine F.sg rfl fun a F => ?_
  refine s_end (K13 _ _ ?_)
  refine wp_region_lit ?_
  refine F.mv rfl fun a F => F.vl (x_fa0 fa502_6 rfl) fun a F => F.ld m3 flat500 rfl rfl fun a F => ?_
  refine s_call (R := fun u w' => (∃ o', w'.ownsRow base 5 1 u (bs ++ [UInt8.ofNat d.k.toNat] ++ nmB d.nm ++ dig d.vars.toNat ++ encT t ++ dig d.ps.toNat ++ encCs cs).length ((bs ++ [UInt8.ofNat d.k.toNat] ++ nmB d.nm ++ dig d.vars.toNat ++ encT t ++ dig d.ps.toNat ++ encCs cs).map encB) ∧ (∀ j, u.ownBlock = some j → j = o') ∧ ((o' = o7 ∨ w16.heap.size ≤ o') ∧ o' < w'.heap.size)) ∧ Ktw o7 o7 w16 w') F [_, _, _] E111 rfl (by decide) (putList322 base o7 v7 _ A d.cs cs w16 (fun k hk => by have := hA k hk; omega) ((hcs).keep hK.size (fun k ha hk => hK.block k hk (hAo k ha))) hpi.2.2.2 hpi.2.2.1 hO hat (by omega) (by omega) (by simp only [List.length_append, List.length_cons, List.length_nil]; omega)) ?_
  rintro v8 w18 a ⟨⟨o8, hOn, hatn, hon⟩, k19⟩ F
  clear hO hat
  have hO := hOn
  have hat := hatn
  clear hOn hatn
  have sk19 := k19.size
  have hK := hK.trans k19 (by omega)
  refine F.sg rfl fun a F => ?_
  refine s_end (K6 _ _ ?_)
  refine wp_rs fun _ K14 => F.mv rfl fun a F => F.sg rfl fun a F => ?_
  refine s_end (K14 _ _ ?_)
  refine wp_ret (res_slot F rfl rfl ⟨v8, rfl, ⟨o8, ?_, hat, by omega⟩, hK⟩)
  unfold encDecl
  rw [htl]
  simpa using hO
 ·
  have htl : tailD d vc cs = [] := by unfold tailD; rw [if_neg hk2.1, if_neg hk2.2]
  refine wp_rs fun _ K15 => F.vl (eqlF (by omega) rfl rfl) fun a F => F.sg rfl fun a F => ?_
  refine s_end (K15 _ _ ?_)
  refine wp_if F rfl ?_
  refine wp_rs fun _ K16 => F.vl (eqlF (by omega) rfl rfl) fun a F => F.sg rfl fun a F => ?_
  refine s_end (K16 _ _ ?_)
  refine wp_if F rfl ?_
  refine wp_skip (K6 _ _ ?_)
  refine wp_rs fun _ K17 => F.mv rfl fun a F => F.sg rfl fun a F => ?_
  refine s_end (K17 _ _ ?_)
  refine wp_ret (res_slot F rfl rfl ⟨v5, rfl, ⟨o5, ?_, hat, by omega⟩, hK⟩)
  unfold encDecl
  rw [htl]
  simpa using hO
/-- What Encode tells: no bytes, if it may not be. -/
noncomputable def encA (d : D21) (t v : CT) (cs : List (ByteArray × CT)) : List UInt8 := if mayD d t v cs = 0 then encDecl d t v cs else []
/-- A call that tells bytes and a number, in new memory. -/
def EncR (w0 : World) (xs : List UInt8) (n : Int) (e : Ending) (w' : World) : Prop := ∃ u, e = .returned (.tuple #[u, .int .i64 n]) ∧ (Rd w' u 1 xs.length (xs.map encB) ∧ ∀ j, u.ownBlock = some j → w0.heap.size ≤ j) ∧ Below w0.heap.size w0 w'
theorem Encode302 (d : D21) (t v : CT) (cs : List (ByteArray × CT)) (w0 : World) (hd : RD w0 (fun k => k < w0.heap.size) d t v cs) (hf : DFit d t v cs) : Calls Try.prog 27 #[dvv d] w0 (EncR w0 (encA d t v cs) (mayD d t v cs)) := by
 have h1d := hd.one
 have hB := Below.refl w0.heap.size w0
 have sB := hB.size
 refine calls_fs 12 [(0, dvv d)] Try.func27 rfl rfl rfl rfl rfl fun a F => ?_
 refine wp_rs fun _ K1 => ?_
 refine s_box (dc d) F (by decide) rfl rfl fun w2 b1 a eb1 m1 B3 zb1 F => ?_
 have sB3 := B3.size
 have hB := bt hB B3
 refine F.sg rfl fun a F => F.sg rfl fun a F => ?_
 refine s_end (K1 _ _ ?_)
 refine wp_seq_k fun _ K2 => ?_
 refine wp_rs fun _ K3 => F.vl (x_ldW wide502 m1 rfl rfl) fun a F => ?_
 refine s_callB [_] F E29 rfl (by decide) (May304 d t v cs w2 (hd.bel hB) hf) fun w4 a B5 F => ?_
 have sB5 := B5.size
 have hB := bt hB B5
 have m1 := m1.old B5
 refine F.sg rfl fun a F => ?_
 refine s_end (K3 _ _ ?_)
 rcases (show mayD d t v cs ≠ 0 ∨ mayD d t v cs = 0 by omega) with hq | hq
 ·
  have hr : encA d t v cs = [] := if_neg hq
  refine wp_rs fun _ K5 => F.mv rfl fun a F => F.vl (neqT (by omega) rfl rfl) fun a F => ?_
  refine s_end (K5 _ _ ?_)
  refine wp_if F rfl ?_
  refine wp_rs fun _ K6 => F.mv rfl fun a F => F.sg rfl fun a F => F.sg rfl fun a F => ?_
  refine s_end (K6 _ _ ?_)
  refine wp_ret (then_ret (res_two F rfl rfl rfl ⟨_, rfl, ⟨by rw [hr]; exact Rd.nil _ _, fun j h => by cases h⟩, hB⟩))
 ·
  have hr : encA d t v cs = encDecl d t v cs := if_pos hq
  have hp := PutD.of hd hq
  refine wp_rs fun _ K7 => F.mv rfl fun a F => F.vl (neqF (by omega) rfl rfl) fun a F => ?_
  refine s_end (K7 _ _ ?_)
  refine wp_if F rfl ?_
  refine wp_skip (K2 _ _ ?_)
  refine wp_rs fun _ K8 => F.vl (x_ldW wide502 m1 rfl rfl) fun a F => ?_
  have hm1l := m1.lt
  have hO := World.ownsRow_nil w4 w0.heap.size 5 1
  have hat : ∀ j, nilS.ownBlock = some j → j = b1 := fun j h => by cases h
  refine s_call (R := fun u w' => (∃ o', w'.ownsRow w0.heap.size 5 1 u (encDecl d t v cs).length ((encDecl d t v cs).map encB) ∧ (∀ j, u.ownBlock = some j → j = o') ∧ ((o' = b1 ∨ w4.heap.size ≤ o') ∧ o' < w'.heap.size)) ∧ Ktw b1 b1 w4 w') F [_, _] E65 rfl (by decide) (putDecl311 w0.heap.size b1 nilS [] d t v cs w4 (fun k => k < w0.heap.size) (hd.keep hB.size (fun k ha hk => hB.block k ha)) hp (fun k hk => by omega) hO hat (by omega) (by omega) (by simp)) ?_
  rintro v2 w6 a ⟨⟨o2, hOn, hatn, hon⟩, k7⟩ F
  clear hO hat
  have hO := hOn
  have hat := hatn
  clear hOn hatn
  have sk7 := k7.size
  have hB := k7.under hB (by omega)
  refine F.sg rfl fun a F => F.sg rfl fun a F => ?_
  refine s_end (K8 _ _ ?_)
  refine wp_ret (res_two F rfl rfl rfl ⟨v2, by rw [hq], ⟨by rw [hr]; exact Rd.own hO, fun j h => by have := hat j h; omega⟩, hB⟩)
end Go.Proofs.Ytmkjhdiepkpdoaa

namespace Go.Proofs.Ytmkjhdiepkpdoaa
set_option maxRecDepth 100000
set_option maxHeartbeats 1600000
open Go.RowKit Go.Shelf
set_option linter.unusedVariables false
set_option linter.unusedSimpArgs false
theorem Encode303 (d : D21) (t v : CT) (cs : List (ByteArray × CT)) (w0 : World) (hd : RD w0 (fun k => k < w0.heap.size) d t v cs) (hf : DFit d t v cs) : Calls Try.prog 28 #[dvv d] w0 (EncR w0 (encA d t v cs) (mayD d t v cs)) := by
 have h1d := hd.one
 have hty := hd.ty
 have hvl := hd.vl
 have hcs := hd.cs
 obtain ⟨ac, kc, hdc, _⟩ := hcs.form
 rw [hdc] at hcs
 have hB := Below.refl w0.heap.size w0
 have sB := hB.size
 refine calls_fs 66 [(0, dvv d)] Try.func28 rfl rfl rfl rfl rfl fun a F => ?_
 refine wp_rs fun _ K1 => ?_
 refine s_box (dc d) F (by decide) rfl rfl fun w2 b1 a eb1 m1 B3 zb1 F => ?_
 have sB3 := B3.size
 have hB := bt hB B3
 refine F.sg rfl fun a F => F.sg rfl fun a F => ?_
 refine s_end (K1 _ _ ?_)
 refine wp_seq_k fun _ K2 => ?_
 refine wp_rs fun _ K3 => F.vl (x_ldW wide502 m1 rfl rfl) fun a F => ?_
 refine s_callB [_] F E30 rfl (by decide) (MayDecl305 d t v cs w2 (hd.bel hB) hf) fun w4 a B5 F => ?_
 have sB5 := B5.size
 have hB := bt hB B5
 have m1 := m1.old B5
 refine F.sg rfl fun a F => ?_
 refine s_end (K3 _ _ ?_)
 rcases (show mayD d t v cs ≠ 0 ∨ mayD d t v cs = 0 by omega) with hq | hq
 ·
  have hr : encA d t v cs = [] := if_neg hq
  refine wp_rs fun _ K5 => F.mv rfl fun a F => F.vl (neqT (by omega) rfl rfl) fun a F => ?_
  refine s_end (K5 _ _ ?_)
  refine wp_if F rfl ?_
  refine wp_rs fun _ K6 => F.mv rfl fun a F => F.sg rfl fun a F => F.sg rfl fun a F => ?_
  refine s_end (K6 _ _ ?_)
  refine wp_ret (then_ret (res_two F rfl rfl rfl ⟨_, rfl, ⟨by rw [hr]; exact Rd.nil _ _, fun j h => by cases h⟩, hB⟩))
 ·
  have hp := PutD.of hd hq
  have hr : encA d t v cs = encDecl d t v cs := if_pos hq
  have hk := hp.k
  have hv := hp.vars
  have hl1 := nmB_len hp.nm
  have hl2 := hp.ty.len hty
  have hl4 := dig_len 9 d.vars.toNat (by omega)
  have hkn : d.k = ((d.k.toNat : Nat) : Int) := by omega
  have hvn : d.vars = ((d.vars.toNat : Nat) : Int) := by omega
  have hnm := hp.nm
  refine wp_rs fun _ K7 => F.mv rfl fun a F => F.vl (neqF (by omega) rfl rfl) fun a F => ?_
  refine s_end (K7 _ _ ?_)
  refine wp_if F rfl ?_
  refine wp_skip (K2 _ _ ?_)
  refine wp_rs fun _ K8 => F.vl (x_fa0 fa502_0 rfl) fun a F => F.ld m1 flat3 rfl rfl fun a F => F.vl (x_i2b (m := d.k.toNat) Try.underlying3 Try.underlying5 (by rw [← hkn]; rfl)) fun a F => ?_
  refine s_litG [encB (UInt8.ofNat d.k.toNat)] el503 F (by decide) rfl (by simp [Value.cells, encB]) rfl (by decide) (by decide) fun w6 bl a ebl ml B7 zbl F => ?_
  have sB7 := B7.size
  have hB := bt hB B7
  have m1 := m1.old B7
  have ml : Blk w6 bl 5 ([UInt8.ofNat d.k.toNat].map encB) := ml
  have hO : w6.ownsRow w0.heap.size 5 1 (.slice (some ⟨bl, 0, none⟩) 1 1) ([UInt8.ofNat d.k.toNat]).length (([UInt8.ofNat d.k.toNat]).map encB) := own_of (by omega) ml (Nat.le_refl _) (by unfold maxLen; omega) rfl rfl
  have hat : ∀ j, (Value.slice (some ⟨bl, 0, none⟩) 1 1).ownBlock = some j → j = bl := fun j h => (Option.some.inj h).symm
  have hbll := ml.lt
  refine F.vl (x_fa0 fa502_1 rfl) fun a F => F.ld m1 flat9 rfl rfl fun a F => ?_
  refine s_s2b F (by decide) rfl Try.underlying9 Try.underlying48 Try.underlying5 fun w8 vs a hsR hsat B9 F => ?_
  have sB9 := B9.size
  have hB := bt hB B9
  have m1 := m1.old B9
  have hO := own_below hO B9
  refine s_call (R := fun u w' => (∃ o', w'.ownsRow w0.heap.size 5 1 u ([UInt8.ofNat d.k.toNat] ++ nmB d.nm).length (([UInt8.ofNat d.k.toNat] ++ nmB d.nm).map encB) ∧ (∀ j, u.ownBlock = some j → j = o') ∧ ((o' = bl ∨ w8.heap.size ≤ o') ∧ o' < w'.heap.size)) ∧ Ktw bl bl w8 w') F [_, _] E66 rfl (by decide) (PutBytes312 w0.heap.size bl (.slice (some ⟨bl, 0, none⟩) 1 1) ([UInt8.ofNat d.k.toNat]) vs d.nm.data.toList w8 hO hat (by omega) (by omega) hsR (fun j hj => by have := hsat j hj; omega) (by simp only [List.length_cons, List.length_nil]; omega)) ?_
  rintro v2 w10 a ⟨⟨o2, hOn, hatn, hon⟩, k11⟩ F
  clear hO hat
  have hO := hOn
  have hat := hatn
  clear hOn hatn
  have sk11 := k11.size
  have hB := k11.under hB (by omega)
  have m1 := m1.k2 k11 (by omega)
  refine F.sg rfl fun a F => ?_
  refine s_end (K8 _ _ ?_)
  refine dk2_seq (o2) (o2) (ops := regOps Try.f28 5) (N := 9) (by kernel_rfl) wide_orders (by kernel_rfl) fun w12 hw12 B13 hS K9 hK9 => ?_
  have zw12 : w12.heap.size = w10.heap.size := by rw [hw12]
  have sB13 := B13.size
  have hB := bt hB B13
  have m1 := m1.old B13
  have hO := own_below hO B13
  have m1_d := m1
  have hO_d := hO
  have hB_d := hB
  refine F.dv 0 21 (.move (.tmp 5)) hS (fun W hW => x_move rfl) fun a F => F.dv 1 22 (.fieldAddr 47 (.tmp 1) 2) hS (fun W hW => x_fa0 fa502_2 rfl) fun a F => F.dv 2 23 (.load 3 (.tmp 22)) hS (fun W hW => x_load rfl (m_load flat3 ((m1_d.k2 hW (by omega)).cell (j := 2) rfl))) fun a F => F.dv 3 24 (.convert 3 54 (.tmp 23)) hS (fun W hW => x_i2d (m := d.vars.toNat) Try.underlying3 Try.underlying54 (by rw [← hvn]; rfl)) fun a F => F.dv 5 26 (.fieldAddr 47 (.tmp 1) 3) hS (fun W hW => x_fa0 fa502_3 rfl) fun a F => F.dv 6 27 (.load 27 (.tmp 26)) hS (fun W hW => x_load rfl (m_loadP (vs := [_, _, _, _, _, _, _, _]) wide27 (m1_d.k2 hW (by omega)) rfl)) fun a F => ?_
  refine d1 4 (some 25) (.call (.mk (.value (.func 68)) #[(.tmp 21), (.tmp 24)] #[48, 54])) fun ty pos af => ?_
  refine s_call (R := fun u w' => (∃ o', w'.ownsRow w0.heap.size 5 1 u ([UInt8.ofNat d.k.toNat] ++ nmB d.nm ++ dig d.vars.toNat).length (([UInt8.ofNat d.k.toNat] ++ nmB d.nm ++ dig d.vars.toNat).map encB) ∧ (∀ j, u.ownBlock = some j → j = o') ∧ ((o' = o2 ∨ w12.heap.size ≤ o') ∧ o' < w'.heap.size)) ∧ Ktw o2 o2 w12 w') F [_, _] E68 rfl (by decide) (by have h := Put314 w0.heap.size o2 v2 ([UInt8.ofNat d.k.toNat] ++ nmB d.nm) (UInt64.ofNat d.vars.toNat) w12 hO hat (by omega) (by omega) (by simp only [List.length_append, List.length_cons, List.length_nil]; omega); rw [d2n (by omega)] at h; exact h) ?_
  rintro v3 w14 a ⟨⟨o3, hOn, hatn, hon⟩, k15⟩ F
  clear hO hat
  have hO := hOn
  have hat := hatn
  clear hOn hatn
  have sk15 := k15.size
  have hB := k15.under hB (by omega)
  have m1 := m1.k2 k15 (by omega)
  have hS := hS.trans k15 (by omega)
  refine s_end ⟨hS, ?_⟩
  refine d1 7 (some 28) (.call (.mk (.value (.func 67)) #[(.tmp 25), (.tmp 27)] #[48, 27])) fun ty pos af => ?_
  refine s_call (R := fun u w' => (∃ o', w'.ownsRow w0.heap.size 5 1 u ([UInt8.ofNat d.k.toNat] ++ nmB d.nm ++ dig d.vars.toNat ++ encT t).length (([UInt8.ofNat d.k.toNat] ++ nmB d.nm ++ dig d.vars.toNat ++ encT t).map encB) ∧ (∀ j, u.ownBlock = some j → j = o') ∧ ((o' = o3 ∨ w14.heap.size ≤ o') ∧ o' < w'.heap.size)) ∧ Ktw o3 o3 w14 w') F [_, _] E67 rfl (by decide) (putTerm313 (t.size + 1) t d.ty w0.heap.size o3 v3 ([UInt8.ofNat d.k.toNat] ++ nmB d.nm ++ dig d.vars.toNat) w14 (fun k => k < w0.heap.size) (by omega) ((hty).keep hB.size (fun k ha hk => hB.block k ha)) hp.ty.put (fun k hk => by omega) hO hat (by omega) (by omega) (by simp only [List.length_append, List.length_cons, List.length_nil]; omega)) ?_
  rintro v4 w16 a ⟨⟨o4, hOn, hatn, hon⟩, k17⟩ F
  clear hO hat
  have hO := hOn
  have hat := hatn
  clear hOn hatn
  have sk17 := k17.size
  have hB := k17.under hB (by omega)
  have m1 := m1.k2 k17 (by omega)
  have hS := hS.trans k17 (by omega)
  refine s_end ⟨hS, ?_⟩
  refine F.dv 8 5 (.assign (.tmp 28)) hS (fun W hW => x_assign rfl) fun a F => ?_
  refine d_end (by kernel_rfl) (hK9 _ _ ?_)
  refine wp_seq_k fun _ K10 => ?_
  have m1 : Blk w16 b1 47 (dq d (.slice ac cs.length kc)) := by rw [← dc_dq hdc]; exact m1
  refine wp_rs fun _ K11 => F.vl (x_fa0 fa502_0 rfl) fun a F => F.ld m1 flat3 rfl rfl fun a F => ?_
  refine s_end (K11 _ _ ?_)
  refine wp_block ?_
  rcases (show d.k = 2 ∨ (d.k ≠ 2 ∧ d.k = 3) ∨ (d.k ≠ 2 ∧ d.k ≠ 3) by omega) with hk2 | hk2 | hk2
  ·
   have htl : tailD d v cs = encT v := if_pos hk2
   refine wp_rs fun _ K13 => F.vl (eqlT (by omega) rfl rfl) fun a F => F.sg rfl fun a F => ?_
   refine s_end (K13 _ _ ?_)
   refine wp_if F rfl ?_
   refine wp_region_lit ?_
   refine F.mv rfl fun a F => F.vl (x_fa0 fa502_4 rfl) fun a F => F.vl (x_load rfl (m_loadP (vs := [_, _, _, _, _, _, _, _]) wide27 m1 rfl)) fun a F => ?_
   refine s_call (R := fun u w' => (∃ o', w'.ownsRow w0.heap.size 5 1 u ([UInt8.ofNat d.k.toNat] ++ nmB d.nm ++ dig d.vars.toNat ++ encT t ++ encT v).length (([UInt8.ofNat d.k.toNat] ++ nmB d.nm ++ dig d.vars.toNat ++ encT t ++ encT v).map encB) ∧ (∀ j, u.ownBlock = some j → j = o') ∧ ((o' = o4 ∨ w16.heap.size ≤ o') ∧ o' < w'.heap.size)) ∧ Ktw o4 o4 w16 w') F [_, _] E67 rfl (by decide) (putTerm313 (v.size + 1) v d.vl w0.heap.size o4 v4 ([UInt8.ofNat d.k.toNat] ++ nmB d.nm ++ dig d.vars.toNat ++ encT t) w16 (fun k => k < w0.heap.size) (by omega) ((hvl).keep hB.size (fun k ha hk => hB.block k ha)) (hp.vl hk2).put (fun k hk => by omega) hO hat (by omega) (by omega) (by have := (hp.vl hk2).len hvl; simp only [List.length_append, List.length_cons, List.length_nil]; omega)) ?_
   rintro v6 w18 a ⟨⟨o6, hOn, hatn, hon⟩, k19⟩ F
   clear hO hat
   have hO := hOn
   have hat := hatn
   clear hOn hatn
   have sk19 := k19.size
   have hB := k19.under hB (by omega)
   refine F.sg rfl fun a F => ?_
   refine s_end (K10 _ _ ?_)
   refine wp_rs fun _ K14 => F.mv rfl fun a F => F.sg rfl fun a F => F.sg rfl fun a F => ?_
   refine s_end (K14 _ _ ?_)
   refine wp_ret (res_two F rfl rfl rfl ⟨v6, by rw [hq], ⟨?_, fun j h => by have := hat j h; omega⟩, hB⟩)
   rw [hr]
   have h9 := Rd.own hO
   unfold encDecl
   rw [htl]
   simpa using h9
  ·
   have htl : tailD d v cs = dig d.ps.toNat ++ encCs cs := by unfold tailD; rw [if_neg hk2.1, if_pos hk2.2]
   have hpi := hp.ind hk2.2
   have hp0 := hpi.1
   have hp1 := hpi.2.1
   have hp2 := hpi.2.2.1
   have hpn : d.ps = ((d.ps.toNat : Nat) : Int) := by omega
   have hl5 := dig_len 9 d.ps.toNat (by omega)
   have hl6 := encCs_len hp2 hcs hpi.2.2.2
   have hl7 := dig_len 9 cs.length (by omega)
   have hl8 : (encCs cs).length = (dig cs.length).length + (cs.flatMap encC).length := by unfold encCs; rw [List.length_append]
   refine wp_rs fun _ K15 => F.vl (eqlF (by omega) rfl rfl) fun a F => F.sg rfl fun a F => ?_
   refine s_end (K15 _ _ ?_)
   refine wp_if F rfl ?_
   refine wp_rs fun _ K16 => F.vl (eqlT (by omega) rfl rfl) fun a F => F.sg rfl fun a F => ?_
   refine s_end (K16 _ _ ?_)
   refine wp_if F rfl ?_
   refine dk2_seq (o4) (o4) (ops := regOps Try.f28 10) (N := 11) (by kernel_rfl) wide_orders (by kernel_rfl) fun w20 hw20 B21 hS K17 hK17 => ?_
   have zw20 : w20.heap.size = w16.heap.size := by rw [hw20]
   have sB21 := B21.size
   have hB := bt hB B21
   have m1 := m1.old B21
   have hO := own_below hO B21
   have m1_d := m1
   have hO_d := hO
   have hB_d := hB
   refine F.dv 0 39 (.move (.tmp 5)) hS (fun W hW => x_move rfl) fun a F => F.dv 1 40 (.fieldAddr 47 (.tmp 1) 5) hS (fun W hW => x_fa0 fa502_5 rfl) fun a F => F.dv 2 41 (.load 3 (.tmp 40)) hS (fun W hW => x_load rfl (m_load flat3 ((m1_d.k2 hW (by omega)).cell (j := 19) rfl))) fun a F => F.dv 3 42 (.convert 3 54 (.tmp 41)) hS (fun W hW => x_i2d (m := d.ps.toNat) Try.underlying3 Try.underlying54 (by rw [← hpn]; rfl)) fun a F => F.dv 5 44 (.fieldAddr 47 (.tmp 1) 6) hS (fun W hW => x_fa0 fa502_6 rfl) fun a F => F.dv 6 45 (.load 45 (.tmp 44)) hS (fun W hW => x_load rfl (m_load flat500 ((m1_d.k2 hW (by omega)).cell (j := 20) rfl))) fun a F => F.dv 7 46 (.call (.mk (.builtin .len) #[(.tmp 45)] #[45])) hS (fun W hW => x_len Try.underlying45 rfl) fun a F => F.dv 8 47 (.convert 3 54 (.tmp 46)) hS (fun W hW => x_i2d (m := cs.length) Try.underlying3 Try.underlying54 rfl) fun a F => ?_
   refine d1 4 (some 43) (.call (.mk (.value (.func 68)) #[(.tmp 39), (.tmp 42)] #[48, 54])) fun ty pos af => ?_
   refine s_call (R := fun u w' => (∃ o', w'.ownsRow w0.heap.size 5 1 u ([UInt8.ofNat d.k.toNat] ++ nmB d.nm ++ dig d.vars.toNat ++ encT t ++ dig d.ps.toNat).length (([UInt8.ofNat d.k.toNat] ++ nmB d.nm ++ dig d.vars.toNat ++ encT t ++ dig d.ps.toNat).map encB) ∧ (∀ j, u.ownBlock = some j → j = o') ∧ ((o' = o4 ∨ w20.heap.size ≤ o') ∧ o' < w'.heap.size)) ∧ Ktw o4 o4 w20 w') F [_, _] E68 rfl (by decide) (by have h := Put314 w0.heap.size o4 v4 ([UInt8.ofNat d.k.toNat] ++ nmB d.nm ++ dig d.vars.toNat ++ encT t) (UInt64.ofNat d.ps.toNat) w20 hO hat (by omega) (by omega) (by simp only [List.length_append, List.length_cons, List.length_nil]; omega); rw [d2n (by omega)] at h; exact h) ?_
   rintro v7 w22 a ⟨⟨o7, hOn, hatn, hon⟩, k23⟩ F
   clear hO hat
   have hO := hOn
   have hat := hatn
   clear hOn hatn
   have sk23 := k23.size
   have hB := k23.under hB (by omega)
   have m1 := m1.k2 k23 (by omega)
   have hS := hS.trans k23 (by omega)
   refine s_end ⟨hS, ?_⟩
   refine d1 9 (some 48) (.call (.mk (.value (.func 68)) #[(.tmp 43), (.tmp 47)] #[48, 54])) fun ty pos af => ?_
   refine s_call (R := fun u w' => (∃ o', w'.ownsRow w0.heap.size 5 1 u ([UInt8.ofNat d.k.toNat] ++ nmB d.nm ++ dig d.vars.toNat ++ encT t ++ dig d.ps.toNat ++ dig cs.length).length (([UInt8.ofNat d.k.toNat] ++ nmB d.nm ++ dig d.vars.toNat ++ encT t ++ dig d.ps.toNat ++ dig cs.length).map encB) ∧ (∀ j, u.ownBlock = some j → j = o') ∧ ((o' = o7 ∨ w22.heap.size ≤ o') ∧ o' < w'.heap.size)) ∧ Ktw o7 o7 w22 w') F [_, _] E68 rfl (by decide) (by have h := Put314 w0.heap.size o7 v7 ([UInt8.ofNat d.k.toNat] ++ nmB d.nm ++ dig d.vars.toNat ++ encT t ++ dig d.ps.toNat) (UInt64.ofNat cs.length) w22 hO hat (by omega) (by omega) (by simp only [List.length_append, List.length_cons, List.length_nil]; omega); rw [d2n (by omega)] at h; exact h) ?_
   rintro v8 w24 a ⟨⟨o8, hOn, hatn, hon⟩, k25⟩ F
   clear hO hat
   have hO := hOn
   have hat := hatn
   clear hOn hatn
   have sk25 := k25.size
   have hB := k25.under hB (by omega)
   have m1 := m1.k2 k25 (by omega)
   have hS := hS.trans k25 (by omega)
   refine s_end ⟨hS, ?_⟩
   refine F.dv 10 5 (.assign (.tmp 48)) hS (fun W hW => x_assign rfl) fun a F => ?_
   refine d_end (by kernel_rfl) (hK17 _ _ ?_)
   refine wp_rs fun _ K18 => F.vl (x_fa0 fa502_6 rfl) fun a F => F.ld m1 flat500 rfl rfl fun a F => F.vl (x_len Try.underlying45 rfl) fun a F => F.mv rfl fun a F => ?_
   refine s_end (K18 _ _ ?_)
   refine wp_block ?_
   refine wp_up cs.length (fun i a w => ∃ v' o', w.ownsRow w0.heap.size 5 1 v' ([UInt8.ofNat d.k.toNat] ++ nmB d.nm ++ dig d.vars.toNat ++ encT t ++ dig d.ps.toNat ++ dig cs.length ++ (cs.take i).flatMap encC).length (([UInt8.ofNat d.k.toNat] ++ nmB d.nm ++ dig d.vars.toNat ++ encT t ++ dig d.ps.toNat ++ dig cs.length ++ (cs.take i).flatMap encC).map encB) ∧ (∀ j, v'.ownBlock = some j → j = o') ∧ ((w0.heap.size ≤ o' ∧ b1 ≠ o') ∧ o' < w.heap.size) ∧ Blk w b1 47 (dq d (.slice ac cs.length kc)) ∧ Below w0.heap.size w0 w ∧ Fs 66 a [(5, v'), (50, .slice ac cs.length kc), (51, .int .i64 (cs.length : Int)), (52, .int .i64 (i : Int))]) ⟨v8, o8, by simpa using hO, hat, by omega, m1, hB, F.sub _ rfl⟩ ?_
   have hb1w : w0.heap.size ≤ b1 := by omega
   clear hO hat hB m1
   repeat clear F
   rintro i a w hi ⟨v1, o1, hO, hat, ho1, m1, hB, F⟩ K' hK'
   have sB := hB.size
   have hm1l := m1.lt
   refine wp_rs fun _ K19 => F.vl (x_lss (b := decide (i < cs.length)) (decide_eq_decide.2 (by omega)) rfl rfl) fun a F => ?_
   refine s_end (K19 _ _ ?_)
   refine wp_seq_k fun _ K20 => ?_
   refine wp_iff F rfl (fun hc53 => ?_) (fun hc53 => ?_)
   ·
    obtain ⟨b9, off9, c9, y, c, hve, hli, hynm, hry, hAb, hbl, hrow⟩ := hcs.row (i := i) (by omega)
    cases hve
    have hoc := hpi.2.2.2 c (List.mem_of_getElem? hli)
    have h1y := one_cc hry
    have hfs := flat_snoc (f := encC) hli
    have hfl := flat_le (f := encC) hli
    have hec : encC c = nmB y.nm ++ encT c.2 := by unfold encC; rw [hynm]
    have hle := congrArg List.length hec
    rw [List.length_append] at hle
    have hnl : (nmB y.nm).length = (dig y.nm.data.toList.length).length + y.nm.data.toList.length := by unfold nmB; rw [List.length_append]
    refine wp_skip (K20 _ _ ?_)
    refine wp_seq_k fun _ K21 => ?_
    refine wp_block ?_
    refine wp_rs fun _ K22 => F.vl (x_ixa rfl rfl (m_ixsK i Try.underlying45 el500.size rfl (by omega))) fun a F => F.vl (x_ldA wide517 (hrow _ (hB.block _ hbl)) rfl rfl) fun a F => ?_
    refine s_alloc F (by decide) zero517 fun w26 b7 a eb7 m7 B27 zb7 F => ?_
    have sB27 := B27.size
    have hB := bt hB B27
    have m1 := m1.old B27
    have hO := own_below hO B27
    refine s_putW F rfl rfl (size_wide wide517) m7 rfl h1y fun w30 m7 o31 => ?_
    have so31 := o31.size
    have hB := hB.trans (o31.below (by omega))
    have m1 := m1.only o31 (by omega)
    have hO := own_only hO o31 (fun e => by have := hat _ e; omega)
    refine s_end (K22 _ _ ?_)
    refine dk2_one (o1) (o1) (ops := regOps Try.f28 14) (N := 9) (by kernel_rfl) wide_orders (by kernel_rfl) fun w32 hw32 B33 hS K23 hK23 => ?_
    have zw32 : w32.heap.size = w30.heap.size := by rw [hw32]
    have sB33 := B33.size
    have hB := bt hB B33
    have m1 := m1.old B33
    have hO := own_below hO B33
    have m7 := m7.old B33
    have m1_d := m1
    have hO_d := hO
    have m7_d := m7
    have hB_d := hB
    refine F.dv 0 56 (.move (.tmp 5)) hS (fun W hW => x_move rfl) fun a F => F.dv 1 57 (.fieldAddr 93 (.tmp 7) 0) hS (fun W hW => x_fa0 fa517_0 rfl) fun a F => F.dv 2 58 (.load 9 (.tmp 57)) hS (fun W hW => x_load rfl (m_load flat9 ((m7_d.k2 hW (by omega)).cell (j := 0) rfl))) fun a F => F.dv 5 61 (.fieldAddr 93 (.tmp 7) 1) hS (fun W hW => x_fa0 fa517_1 rfl) fun a F => F.dv 6 62 (.load 27 (.tmp 61)) hS (fun W hW => x_load rfl (m_loadP (vs := [_, _, _, _, _, _, _, _]) wide27 (m7_d.k2 hW (by omega)) rfl)) fun a F => ?_
    refine d1 3 (some 59) (.convert 9 48 (.tmp 58)) fun ty pos af => ?_
    refine s_s2b F (by decide) rfl Try.underlying9 Try.underlying48 Try.underlying5 fun w34 vs a hsR hsat B35 F => ?_
    have sB35 := B35.size
    have hB := bt hB B35
    have m1 := m1.old B35
    have hO := own_below hO B35
    have hS := hS.below B35
    refine s_end ⟨hS, ?_⟩
    refine d1 4 (some 60) (.call (.mk (.value (.func 66)) #[(.tmp 56), (.tmp 59)] #[48, 48])) fun ty pos af => ?_
    refine s_call (R := fun u w' => (∃ o', w'.ownsRow w0.heap.size 5 1 u (([UInt8.ofNat d.k.toNat] ++ nmB d.nm ++ dig d.vars.toNat ++ encT t ++ dig d.ps.toNat ++ dig cs.length ++ (cs.take i).flatMap encC) ++ nmB y.nm).length ((([UInt8.ofNat d.k.toNat] ++ nmB d.nm ++ dig d.vars.toNat ++ encT t ++ dig d.ps.toNat ++ dig cs.length ++ (cs.take i).flatMap encC) ++ nmB y.nm).map encB) ∧ (∀ j, u.ownBlock = some j → j = o') ∧ ((o' = o1 ∨ w34.heap.size ≤ o') ∧ o' < w'.heap.size)) ∧ Ktw o1 o1 w34 w') F [_, _] E66 rfl (by decide) (PutBytes312 w0.heap.size o1 v1 (([UInt8.ofNat d.k.toNat] ++ nmB d.nm ++ dig d.vars.toNat ++ encT t ++ dig d.ps.toNat ++ dig cs.length ++ (cs.take i).flatMap encC)) vs y.nm.data.toList w34 hO hat (by omega) (by omega) hsR (fun j hj => by have := hsat j hj; omega) (by simp only [List.length_append, List.length_cons, List.length_nil]; omega)) ?_
    rintro v9 w36 a ⟨⟨o9, hOn, hatn, hon⟩, k37⟩ F
    clear hO hat
    have hO := hOn
    have hat := hatn
    clear hOn hatn
    have sk37 := k37.size
    have hB := k37.under hB (by omega)
    have m1 := m1.k2 k37 (by omega)
    have hS := hS.trans k37 (by omega)
    refine s_end ⟨hS, ?_⟩
    refine d1 7 (some 63) (.call (.mk (.value (.func 67)) #[(.tmp 60), (.tmp 62)] #[48, 27])) fun ty pos af => ?_
    refine s_call (R := fun u w' => (∃ o', w'.ownsRow w0.heap.size 5 1 u (([UInt8.ofNat d.k.toNat] ++ nmB d.nm ++ dig d.vars.toNat ++ encT t ++ dig d.ps.toNat ++ dig cs.length ++ (cs.take i).flatMap encC) ++ nmB y.nm ++ encT c.2).length ((([UInt8.ofNat d.k.toNat] ++ nmB d.nm ++ dig d.vars.toNat ++ encT t ++ dig d.ps.toNat ++ dig cs.length ++ (cs.take i).flatMap encC) ++ nmB y.nm ++ encT c.2).map encB) ∧ (∀ j, u.ownBlock = some j → j = o') ∧ ((o' = o9 ∨ w36.heap.size ≤ o') ∧ o' < w'.heap.size)) ∧ Ktw o9 o9 w36 w') F [_, _] E67 rfl (by decide) (putTerm313 (c.2.size + 1) c.2 y.x w0.heap.size o9 v9 (([UInt8.ofNat d.k.toNat] ++ nmB d.nm ++ dig d.vars.toNat ++ encT t ++ dig d.ps.toNat ++ dig cs.length ++ (cs.take i).flatMap encC) ++ nmB y.nm) w36 (fun k => k < w0.heap.size) (by omega) ((hry).keep hB.size (fun k ha hk => hB.block k ha)) hoc.ok.put (fun k hk => by omega) hO hat (by omega) (by omega) (by simp only [List.length_append, List.length_cons, List.length_nil]; omega)) ?_
    rintro v5 w38 a ⟨⟨o5, hOn, hatn, hon⟩, k39⟩ F
    clear hO hat
    have hO := hOn
    have hat := hatn
    clear hOn hatn
    have sk39 := k39.size
    have hB := k39.under hB (by omega)
    have m1 := m1.k2 k39 (by omega)
    have hS := hS.trans k39 (by omega)
    refine s_end ⟨hS, ?_⟩
    refine F.dv 8 5 (.assign (.tmp 63)) hS (fun W hW => x_assign rfl) fun a F => ?_
    refine d_end (by kernel_rfl) (hK23 _ _ ?_)
    refine K21 _ _ ?_
    refine wp_region_lit ?_
    refine F.vl (x_addn (i + 1) (by omega) (by omega) rfl rfl) fun a F => F.mv rfl fun a F => ?_
    refine s_end (hK' _ _ (by omega) ⟨v5, o5, by rw [hfs, hec]; simpa using hO, hat, by omega, m1, hB, F.sub _ rfl⟩)
   ·
    obtain rfl : i = cs.length := by omega
    rw [List.take_of_length_le (Nat.le_refl _)] at hO
    refine wp_exit (K10 _ _ ?_)
    refine wp_rs fun _ K24 => F.mv rfl fun a F => F.sg rfl fun a F => F.sg rfl fun a F => ?_
    refine s_end (K24 _ _ ?_)
    refine wp_ret (res_two F rfl rfl rfl ⟨v1, by rw [hq], ⟨?_, fun j h => by have := hat j h; omega⟩, hB⟩)
    rw [hr]
    have h9 := Rd.own hO
    unfold encDecl
    rw [htl]
    unfold encCs
    simpa using h9
  ·
   have htl : tailD d v cs = [] := by unfold tailD; rw [if_neg hk2.1, if_neg hk2.2]
   refine wp_rs fun _ K25 => F.vl (eqlF (by omega) rfl rfl) fun a F => F.sg rfl fun a F => ?_
   refine s_end (K25 _ _ ?_)
   refine wp_if F rfl ?_
   refine wp_rs fun _ K26 => F.vl (eqlF (by omega) rfl rfl) fun a F => F.sg rfl fun a F => ?_
   refine s_end (K26 _ _ ?_)
   refine wp_if F rfl ?_
   refine wp_skip (K10 _ _ ?_)
   refine wp_rs fun _ K27 => F.mv rfl fun a F => F.sg rfl fun a F => F.sg rfl fun a F => ?_
   refine s_end (K27 _ _ ?_)
   refine wp_ret (res_two F rfl rfl rfl ⟨v4, by rw [hq], ⟨?_, fun j h => by have := hat j h; omega⟩, hB⟩)
   rw [hr]
   have h9 := Rd.own hO
   unfold encDecl
   rw [htl]
   simpa using h9
end Go.Proofs.Ytmkjhdiepkpdoaa

namespace Go.Proofs.Ytmkjhdiepkpdoaa
set_option maxRecDepth 100000
set_option maxHeartbeats 1600000
open Go.RowKit Go.Shelf
set_option linter.unusedVariables false
set_option linter.unusedSimpArgs false
theorem Rd.rbx {W : World} {v : Value} {bs : List UInt8} (h : Rd W v 1 bs.length (bs.map encB)) : ∃ ex, RB ex W v bs := by
 cases hv : v.ownBlock with
 | none => exact ⟨0, h.rb (by rw [hv]; simp)⟩
 | some b => exact ⟨b + 1, h.rb (by rw [hv]; simp)⟩
/-- string(b). -/
theorem x_strR {P : Program} {n : Nat} {l : List (Nat × Value)} {w : World} {s d e : Nat} {x : Operand} {v : Value} {bs : List UInt8} (hs : P.underlying s = some (.slice e)) (he : P.underlying e = some (.int .u8)) (hd : P.underlying d = some .string) (hR : Rd w v 1 bs.length (bs.map encB)) (hx : ov l x = some v) : Runs P n l w (.convert s d x) (.string ⟨bs.toArray⟩) :=
 let ⟨_, h⟩ := hR.rbx
 x_str hs he hd h hx
abbrev axL : C3 := (1, 0, nilS)
abbrev axS : C8 := ⟨2, 0, emptyB, axL, nilS, nilS⟩
abbrev axZ : C8 := ⟨0, 0, emptyB, (0, 0, nilS), nilS, nilS⟩
abbrev axN : ByteArray := ByteArray.mk #[97]
abbrev axD : D21 := ⟨1, axN, 0, axS, axZ, 0, nilS⟩
abbrev axLv : Lv := .mk 1 0 []
theorem ax_rl (W : World) (A : Nat → Prop) : RLn W A axL axLv := .mk (xs := []) (Rn.nil _ _ 3) rfl (fun i x l h => by simp at h)
theorem ax_rc (W : World) (A : Nat → Prop) : RC W A (.sort axLv 0) axS := ⟨rfl, ax_rl W A, ⟨_, Rn.nil _ _ 8⟩, ⟨_, ax_rl W A⟩, [], RVn.nil _ _⟩
theorem ax_rz (W : World) (A : Nat → Prop) : RC W A (.odd 0 0) axZ := ⟨rfl, by left; simp [arT], ⟨_, Rn.nil _ _ 8⟩, ⟨.mk 0 0 [], .mk (xs := []) (Rn.nil _ _ 3) rfl (fun i x l h => by simp at h)⟩, [], RVn.nil _ _⟩
theorem ax_rd (W : World) (A : Nat → Prop) : RD W A axD (.sort axLv 0) (.odd 0 0) [] := ⟨ax_rc W A, ax_rz W A, [], Rn.nil _ _ 9, rfl, fun i x c h => by simp at h⟩
theorem ax_df : DFit axD (.sort axLv 0) (.odd 0 0) [] := ⟨by decide, trivial, trivial, (fun c h => by cases h), by simp, by unfold in64; decide, by unfold in64; decide, by unfold in64; decide⟩
theorem ax_sl (W : World) : slO axLv = some (.num 0) := slO_of (W := W) (x := axL) (ax_rl W (fun _ => True)).rl ⟨rfl, rfl, Rd.nil _ _⟩ ⟨by simp [SL.size], by simp [SL.dep], show 0 ≤ 1099511627776 by decide⟩
theorem ax_name : nameB axN = true := nameB_true.2 ⟨fun i c h => by
 have h : [97][i]? = some c := h
 rcases i with _ | i
 ·
  simp at h; subst h; left; unfold letC; decide
 ·
  simp at h, by decide, by decide⟩
theorem ax_may : mayD axD (.sort axLv 0) (.odd 0 0) [] = 0 := by
 have h1 : ((CT.sort axLv 0).mayT 0 1 0).1 = 0 := by
  show nodeErr 0 1 1 (.sort axLv 0) = 0
  rw [nodeErr_leaf (by omega) (by simp [CT.kd, CT.len, arT])]
  show (chk 32 1048576 0 1 100 axLv).1 = 0
  decide
 unfold mayD
 rw [if_neg (by decide), if_neg (by rw [ax_name]; simp), if_neg (by decide), if_neg (by decide), if_neg (by rw [h1]; simp), if_neg (by decide), if_neg (by decide)]
theorem ax_enc (W : World) : encA axD (.sort axLv 0) (.odd 0 0) [] = [1, 1, 97, 0, 2, 1, 0] := by
 have h1 : encLv axLv = [1, 0] := by rw [encLv_of (ax_sl W)]; simp [encS, dig_lt]
 unfold encA
 rw [if_pos ax_may]
 unfold encDecl tailD nmB
 rw [if_neg (by decide), if_neg (by decide)]
 simp [encT, CT.ownB, h1, dig_lt]
theorem ax_Encode (w0 : World) : Calls Try.prog 27 #[dvv axD] w0 (EncR w0 [1, 1, 97, 0, 2, 1, 0] 0) := by
 have h := Encode302 axD (.sort axLv 0) (.odd 0 0) [] w0 (ax_rd _ _) ax_df
 rw [ax_may, ax_enc w0] at h
 exact h
theorem b502_013 (w : World) : (Instr.build 47 [(0, Value.int .i64 1), (1, Value.string axN), (3, tv axS)].toArray).run Try.prog w = .ok (dvv axD) w := run_build w 47 _ _ (by kernel_rfl)
theorem rSort316 (w0 : World) : Calls Try.prog 74 #[lv axL] w0 fun e w' => e = .returned (tv axS) ∧ Below w0.heap.size w0 w' := by
 have hB := Below.refl w0.heap.size w0
 have sB := hB.size
 refine calls_fs 5 [(0, lv axL)] Try.func74 rfl rfl rfl rfl rfl fun a F => ?_
 refine wp_rs fun _ K1 => ?_
 refine s_box (lc axL) F (by decide) rfl rfl fun w2 b1 a eb1 m1 B3 zb1 F => ?_
 have sB3 := B3.size
 have hB := bt hB B3
 refine s_alloc F (by decide) zero27 fun w4 b2 a eb2 m2 B5 zb2 F => ?_
 have sB5 := B5.size
 have hB := bt hB B5
 have m1 := m1.old B5
 refine s_end (K1 _ _ ?_)
 refine wp_rs fun _ K2 => F.vl (x_ldW wide24 m1 rfl rfl) fun a F => F.vl (x_build (vs := [(0, _), (3, _)]) rfl (b27_03 _ _ _ _ _ _ _)) fun a F => ?_
 refine s_putW F rfl rfl (size_wide wide27) m2 rfl (by simp [tc, lc, Value.oneCell']) fun w8 m2 o9 => ?_
 have so9 := o9.size
 have hB := hB.trans (o9.below (by omega))
 refine s_end (K2 _ _ ?_)
 refine wp_ret (res_cell F rfl rfl m2 wide27 ⟨rfl, hB⟩)
theorem awake306 (w0 : World) : Calls Try.prog 31 #[] w0 fun e w' => e = .returned (.bool true) ∧ Below w0.heap.size w0 w' := by
 have hB := Below.refl w0.heap.size w0
 have sB := hB.size
 refine calls_fs 17 [] Try.func31 rfl rfl rfl rfl rfl fun a F => ?_
 refine wp_rs fun _ K1 => F.sg rfl fun a F => ?_
 refine s_end (K1 _ _ ?_)
 refine wp_rs fun _ K2 => F.vl (x_build (vs := [(0, _)]) rfl (b24_0 _ _)) fun a F => ?_
 refine s_callB [_] F E74 rfl (by decide) (rSort316 w0) fun w2 a B3 F => ?_
 have sB3 := B3.size
 have hB := bt hB B3
 refine F.vl (x_build (vs := [(0, _), (1, _), (3, _)]) rfl (b502_013 _)) fun a F => ?_
 refine s_call (R := fun u w' => (∃ vv, u = .tuple #[vv, .int .i64 (0)] ∧ Rd w' vv 1 (([1, 1, 97, 0, 2, 1, 0] : List UInt8)).length ((([1, 1, 97, 0, 2, 1, 0] : List UInt8)).map encB) ∧ ∀ j, vv.ownBlock = some j → w2.heap.size ≤ j) ∧ Below w2.heap.size w2 w') F [_] E27 rfl (by decide) ((ax_Encode w2).mono fun e w' ⟨u, h1, h2, h3⟩ => ⟨_, h1, ⟨u, rfl, h2.1, h2.2⟩, h3⟩) ?_
 rintro _ w4 a ⟨⟨u, rfl, uR, uat⟩, B5⟩ F
 have sB5 := B5.size
 have hB := bt hB B5
 refine F.mv rfl fun a F => F.vl (x_ext rfl rfl) fun a F => F.vl (x_ext rfl rfl) fun a F => F.sg rfl fun a F => F.sg rfl fun a F => ?_
 refine s_end (K2 _ _ ?_)
 refine wp_rs fun _ K3 => F.mv rfl fun a F => F.vl (eqlT (by omega) rfl rfl) fun a F => F.mv rfl fun a F => s_grd 12 F rfl rfl rfl <| F.mv rfl fun a F => s_grd 12 F rfl rfl rfl <| F.vl (x_strR Try.underlying48 Try.underlying5 Try.underlying9 uR rfl) fun a F => s_grd 12 F rfl rfl rfl <| F.vl (x_eqS (b := true) (by decide) rfl rfl) fun a F => F.vl (x_pick (b := true) rfl rfl) fun a F => F.sg rfl fun a F => ?_
 refine s_end (K3 _ _ ?_)
 refine wp_ret (res_slot F rfl rfl ⟨rfl, hB⟩)
end Go.Proofs.Ytmkjhdiepkpdoaa
