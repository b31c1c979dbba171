/- owned, lifted, put. -/
import Derived.Test.YtbhhbfdoadecgaaTerm8
namespace Go.Proofs.Ytbhhbfdoadecgaa
open Go.RowKit Go.Shelf
set_option linter.unusedVariables false
set_option linter.unusedSimpArgs false

def Go_ (c : CT) (_ : Int) (ps : List PT) : PT := nodeP c ps
theorem fold_own : ∀ (c : CT) (d : Int), c.fold Go_ d = c.ess
 | .two k a b m, d => by simp [CT.fold, Go_, nodeP, CT.ess, fold_own a, fold_own b]
 | .lt a b c m, d => by simp [CT.fold, Go_, nodeP, CT.ess, fold_own a, fold_own b, fold_own c]
 | .var .., d => rfl
 | .sort .., d => rfl
 | .cst .., d => rfl
 | .odd .., d => rfl
def mx63 : Int := 9223372036854775807
def liftN (f b d n : Int) : Int := if d ≤ n ∧ f ≤ n - d then max (min (n + b) 9223372036854775807) d else n
def PT.lift (f b : Int) : PT → Int → PT
 | .var n, d => .var (liftN f b d n)
 | .two k p q, d => .two k (p.lift f b d) (q.lift f b (d + if k = 3 ∨ k = 4 then 1 else 0))
 | .lt p q r, d => .lt (p.lift f b d) (q.lift f b d) (r.lift f b (d + 1))
 | .sort o, _ => .sort o
 | .cst s os, _ => .cst s os
 | .odd k, _ => .odd k
def Gl (f b : Int) (c : CT) (d : Int) (ps : List PT) : PT := match c with
 | .var n _ => .var (liftN f b d n)
 | c => nodeP c ps
theorem fold_lift (f b : Int) : ∀ (c : CT) (d : Int), c.fold (Gl f b) d = c.ess.lift f b d
 | .two k p q m, d => by simp [CT.fold, Gl, nodeP, CT.ess, PT.lift, fold_lift f b p, fold_lift f b q, CT.bnd]
 | .lt p q r m, d => by simp [CT.fold, Gl, nodeP, CT.ess, PT.lift, fold_lift f b p, fold_lift f b q, fold_lift f b r, CT.bnd]
 | .var .., d => rfl
 | .sort .., d => rfl
 | .cst .., d => rfl
 | .odd .., d => rfl
def PT.put (v : PT) : PT → Int → PT
 | .var n, d => if n = d then v.lift 0 d 0 else .var (if d < n then n - 1 else n)
 | .two k p q, d => .two k (PT.put v p d) (PT.put v q (d + if k = 3 ∨ k = 4 then 1 else 0))
 | .lt p q r, d => .lt (PT.put v p d) (PT.put v q d) (PT.put v r (d + 1))
 | .sort o, _ => .sort o
 | .cst s os, _ => .cst s os
 | .odd k, _ => .odd k
def Gp (v : PT) (c : CT) (d : Int) (ps : List PT) : PT := match c with
 | .var n _ => if n = d then v.lift 0 d 0 else .var (if d < n then n - 1 else n)
 | c => nodeP c ps
theorem fold_put' (v : PT) : ∀ (c : CT) (d : Int), c.fold (Gp v) d = PT.put v c.ess d
 | .two k p q m, d => by simp [CT.fold, Gp, nodeP, CT.ess, PT.put, fold_put' v p, fold_put' v q, CT.bnd]
 | .lt p q r m, d => by simp [CT.fold, Gp, nodeP, CT.ess, PT.put, fold_put' v p, fold_put' v q, fold_put' v r, CT.bnd]
 | .var .., d => rfl
 | .sort .., d => rfl
 | .cst .., d => rfl
 | .odd .., d => rfl

theorem RKE.valid {W : World} {A : Nat → Prop} {v : Value} {ps : List PT} : RKE W A v ps → RKE W (fun k => A k ∧ k < W.heap.size) v ps := fun ⟨xs, h1, h2, h3⟩ => ⟨xs, h1.lt, h2, fun i x c e1 e2 => (h3 i x c e1 e2).valid⟩

set_option maxRecDepth 100000 in
set_option maxHeartbeats 1600000 in
theorem clo102 (wl : World) (br : Nat) (hbr : br < wl.heap.size) (A : Nat → Prop) (hA : ∀ k, A k → k ≠ br ∧ k < wl.heap.size) (b2 : Nat) (m2 : Blk wl b2 66 [.pointer (some ⟨br, 0, none⟩)]) (hb2 : b2 ≠ br) (D : Int) (W : World) (c : CT) (x : C8) (d : Int) (kv : Value) (ps : List PT) (s : Nat) (hK : Ktw br br wl W) (hR : Room W br) (hx : RC wl A c x) (hd0 : 0 ≤ d) (hdD : d ≤ D) (hs0 : wl.heap.size ≤ s) (hs1 : s ≤ W.heap.size) (hkv : RKE W (AS A s) kv ps) (hlen : ps.length = c.kids.length) :
  Calls Try.prog 89 ([tv x, .int .i64 d, kv] ++ [Value.pointer (some ⟨b2, 0, none⟩)]).toArray W fun e w' => ∃ v, e = .returned v ∧ ((∃ y, v = tv y ∧ RE w' (AS A s) (Go_ c d ps) y ∧ Tt c y) ∧ Room w' br) ∧ Ktw br br W w' := by
 have hQ := Ktw.refl br br W
 have sQ := hQ.size
 have sK := hK.size
 have hA2 : ∀ k, A k → k ≠ br ∧ k ≠ br := fun k hk => ⟨(hA k hk).1, (hA k hk).1⟩
 have hAS : ∀ k, AS A s k → k ≠ br := fun k hk => by rcases hk with hk | hk; (· exact (hA k hk).1); omega
 have hkv0 := hkv.valid
 have m2 := m2.k2 hK (by omega)
 have hb2l := m2.lt
 refine calls_fs 12 [(0, tv x), (1, .int .i64 d), (2, kv), (3, .pointer (some ⟨b2, 0, none⟩))] Try.func89 rfl rfl rfl rfl rfl fun a hF => ?_
 refine wp_rs fun K1 hK1 => ?_
 refine s_box (tc x) hF (by decide) rfl rfl fun w2 b4 a eb4 m4 B3 zb4 hF => ?_
 have sB3 := B3.size
 have hK := hK.below B3
 have hQ := hQ.below B3
 have m2 := m2.old B3
 have hR := hR.below B3
 refine s_alloc hF (by decide) zero27 fun w4 b7 a eb7 m7 B5 zb7 hF => ?_
 have sB5 := B5.size
 have hK := hK.below B5
 have hQ := hQ.below B5
 have m2 := m2.old B5
 have m4 := m4.old B5
 have hR := hR.below B5
 refine s_end (hK1 _ _ ?_)
 refine wp_rs fun K2 hK2 => ?_
 refine hF.v (x_load rfl (m_load flat64 (m2.cell (j := 0) rfl))) fun a hF => ?_
 refine hF.v (x_ldW wide27 m4 rfl rfl) fun a hF => ?_
 refine hF.v (x_move rfl) fun a hF => ?_
 refine s_call (R := fun u w' => ((∃ y, u = tv y ∧ RE w' (fun k => (AS A s k ∧ k < W.heap.size) ∨ w4.heap.size ≤ k) (nodeP c ps) y ∧ y.ts = kv) ∧ Room w' br) ∧ Ktw br br w4 w') hF [_, _, _] E66 rfl (by decide) (node92 w4 br (by omega) (fun k => AS A s k ∧ k < W.heap.size) (fun k hk => ⟨hAS k hk.1, by have := hk.2; omega⟩) c x ((hx.keep hK.size (fun k hk hb => hK.block k hb (hA2 k hk))).mono (fun k hk => ⟨.inl hk, by have := hA k hk; omega⟩)) kv ps (hkv0.keep hQ.size (fun k hk hb => hQ.block k hb ⟨hAS k hk.1, hAS k hk.1⟩)) hlen hR) ?_
 rintro _ w6 a ⟨⟨⟨y9, rfl, hy9, ht9⟩, hR⟩, k7⟩ hF
 have sk7 := k7.size
 have hQ := hQ.trans k7 (by omega)
 have m7 := m7.k2 k7 (by omega)
 have hy9 := hy9.valid
 have hT9 : Tt c y9 := tt_of hlen hkv0 ht9
 clear ht9
 refine s_putW hF rfl rfl (size_wide wide27) m7 rfl hy9.one fun w10 m7 o11 => ?_
 have so11 := o11.size
 have hQ := hQ.only o11 (by omega)
 have hR := hR.only o11 (by omega)
 have hy9 := hy9.only o11 (by first | (intro h; have h2 := h.2; omega) | (intro h; rcases h.1 with h1 | h1; (have := hA _ h1; omega); (have := h.2; omega)) | (intro h; rcases h.1 with h1 | h1; (have := h1.2; omega); (have := h.2; omega)) | (intro h; rcases h.1 with h1 | h1; (exact hAS _ h1.1 rfl); (have := h.2; omega)) | (intro h; rcases h with h | h; (have := hA _ h; omega); omega) | (intro h; have := hA _ h; omega) | (intro h; rcases h with h | h; (have := h.2; omega); omega) | exact Ar.nbr | exact Ai.nbr | exact Ar.no (by omega) | exact Ai.no (by omega))
 refine s_end (hK2 _ _ ?_)
 refine wp_ret (res_cell hF rfl rfl m7 wide27 ⟨_, rfl, ⟨⟨y9, rfl, hy9.mono (fun k hk => by rcases hk.1 with hk | hk; (· exact hk.1); exact .inr (by omega)), hT9⟩, hR⟩, hQ⟩)

set_option maxRecDepth 100000 in
set_option maxHeartbeats 1600000 in
theorem owned57 (W : World) (br : Nat) (hbr : br < W.heap.size) (A : Nat → Prop) (hA : ∀ k, A k → k ≠ br ∧ k < W.heap.size) (c : CT) (x : C8) (hx : RC W A c x) (hR : Room W br) : Calls Try.prog 43 #[.pointer (some ⟨br, 0, none⟩), tv x] W fun e w' => ∃ u, e = .returned u ∧ ((∃ y, u = tv y ∧ RE w' (AS A W.heap.size) c.ess y) ∧ Room w' br) ∧ Ktw br br W w' := by
 have hQ := Ktw.refl br br W
 have sQ := hQ.size
 have hA2 : ∀ k, A k → k ≠ br ∧ k ≠ br := fun k hk => ⟨(hA k hk).1, (hA k hk).1⟩
 refine calls_fs 14 [(0, .pointer (some ⟨br, 0, none⟩)), (1, tv x)] Try.func43 rfl rfl rfl rfl rfl fun a hF => ?_
 refine wp_rs fun K1 hK1 => ?_
 refine s_box ([.pointer (some ⟨br, 0, none⟩)]) hF (by decide) rfl rfl fun w2 b2 a eb2 m2 B3 zb2 hF => ?_
 have sB3 := B3.size
 have hQ := hQ.below B3
 have hR := hR.below B3
 refine s_box (tc x) hF (by decide) rfl rfl fun w4 b3 a eb3 m3 B5 zb3 hF => ?_
 have sB5 := B5.size
 have hQ := hQ.below B5
 have m2 := m2.old B5
 have hR := hR.below B5
 refine s_alloc hF (by decide) zero27 fun w6 b4 a eb4 m4 B7 zb4 hF => ?_
 have sB7 := B7.size
 have hQ := hQ.below B7
 have m2 := m2.old B7
 have m3 := m3.old B7
 have hR := hR.below B7
 refine s_end (hK1 _ _ ?_)
 refine wp_seq_k fun K2 hK2 => ?_
 refine wp_rs fun K3 hK3 => ?_
 refine hF.v (x_load rfl (m_load flat64 (m2.cell (j := 0) rfl))) fun a hF => ?_
 refine hF.v (x_ldW wide27 m3 rfl rfl) fun a hF => ?_
 refine s_litG [tv x] el25 hF (by decide) rfl (by simp [Value.cells, tc]) rfl (by decide) (by decide) fun w8 bl a ebl ml B9 zbl hF => ?_
 have sB9 := B9.size
 have hQ := hQ.below B9
 have m2 := m2.old B9
 have m3 := m3.old B9
 have m4 := m4.old B9
 have hR := hR.below B9
 have ml : Blk w8 bl 27 (tc x) := by simpa [Value.cells] using ml
 have hbl1 := ml.lt
 have hrl : RK w8 (Ai w8.heap.size br) (.slice (some ⟨bl, 0, none⟩) 1 1) [c] := ⟨[x], ⟨by simpa using Rd.blk ml (n := 1) rfl, fun _ b hb => by simp [Value.ownBlock] at hb; subst hb; exact ⟨by omega, by omega⟩⟩, rfl, fun i x2 l2 e1 e2 => by rcases i with _ | i; (· simp at e1 e2; subst e1 e2; exact RC.mono (fun k hk => ⟨(hA k hk).1, by have := (hA k hk).2; omega⟩) (hx.keep hQ.size (fun k hk hb => hQ.block k hb (hA2 k hk)))); simp at e1⟩
 refine s_call (R := fun u w' => ((∃ b, u = .bool b ∧ (b = true → [c].length * 120 ≤ 2147483647 ∧ ∀ c' ∈ [c], c'.dep ≤ 65536)) ∧ Room w' br) ∧ Ktw br br w8 w') hF [_, _, _, _] E87 rfl (by decide) (takes100 w8 br (by omega) [c] _ hrl w8 (Ktw.refl br br _) hR) ?_
 rintro _ w10 a ⟨⟨⟨b8, rfl, h8⟩, hR⟩, k11⟩ hF
 have sk11 := k11.size
 have hQ := hQ.trans k11 (by omega)
 have m2 := m2.k2 k11 (by omega)
 have m3 := m3.k2 k11 (by omega)
 have m4 := m4.k2 k11 (by omega)
 refine hF.v (x_not rfl) fun a hF => ?_
 refine s_end (hK3 _ _ ?_)
 refine wp_ifb hF rfl (fun hc9 => ?_) (fun hc9 => ?_)
 ·
  refine wp_rs fun K4 hK4 => ?_
  refine hF.v (x_ldW wide27 m3 rfl rfl) fun a hF => ?_
  refine s_putW hF rfl rfl (size_wide wide27) m4 rfl hx.one fun w14 m4 o15 => ?_
  have so15 := o15.size
  have hQ := hQ.only o15 (by omega)
  have hR := hR.only o15 (by omega)
  refine s_end (hK4 _ _ ?_)
  refine wp_ret (then_ret (res_cell hF rfl rfl m4 wide27 ⟨_, rfl, ⟨⟨x, rfl, ((hx.keep hQ.size (fun k hk hb => hQ.block k hb (hA2 k hk))).mono (fun k hk => .inl hk)).re⟩, hR⟩, hQ⟩))
 ·
  obtain rfl : b8 = true := by simpa using hc9
  have hdp9 : c.dep ≤ 65536 := (h8 rfl).2 c (by simp)
  refine wp_skip (hK2 _ _ ?_)
  refine wp_rs fun K5 hK5 => ?_
  refine hF.v (x_ldW wide27 m3 rfl rfl) fun a hF => ?_
  refine hF.v (x_mkf [_] rfl) fun a hF => ?_
  have hx9 := hx.keep hQ.size (fun k hk hb => hQ.block k hb (hA2 k hk))
  have hA9 : ∀ k, A k → k ≠ br ∧ k < w10.heap.size := fun k hk => ⟨(hA k hk).1, by have := (hA k hk).2; omega⟩
  refine s_call (R := fun u w' => ((∃ y, u = tv y ∧ RE w' (AS A w10.heap.size) (c.fold (Go_) 0) y ∧ Tt c y) ∧ Room w' br) ∧ Ktw br br w10 w') hF [_, _, _] E62 rfl (by decide) (fold88 w10 br (by omega) A hA9 89 [.pointer (some ⟨b2, 0, none⟩)] E89 65536 (by decide) (Go_) (fun _ => True) (fun _ _ _ _ _ => trivial) (fun W c x d kv ps s h1 h2 h3 h4 h5 h6 h7 h8 h9 _ => clo102 w10 br (by omega) A hA9 b2 m2 (by omega) 65536 W c x d kv ps s h1 h2 h3 h4 h5 h6 h7 h8 h9) (c.size + 1) c x 0 w10 (by omega) hx9 trivial (by decide) (by omega) (Ktw.refl br br _) hR) ?_
  rintro _ w16 a ⟨⟨⟨y9, rfl, hy9, hT9⟩, hR⟩, k17⟩ hF
  have sk17 := k17.size
  have hQ := hQ.trans k17 (by omega)
  have m4 := m4.k2 k17 (by omega)
  refine s_putW hF rfl rfl (size_wide wide27) m4 rfl hy9.one fun w20 m4 o21 => ?_
  have so21 := o21.size
  have hQ := hQ.only o21 (by omega)
  have hR := hR.only o21 (by omega)
  have hy9 := hy9.only o21 (by first | (intro h; have h2 := h.2; omega) | (intro h; rcases h.1 with h1 | h1; (have := hA _ h1; omega); (have := h.2; omega)) | (intro h; rcases h.1 with h1 | h1; (have := h1.2; omega); (have := h.2; omega)) | (intro h; rcases h.1 with h1 | h1; (exact hAS _ h1.1 rfl); (have := h.2; omega)) | (intro h; rcases h with h | h; (have := hA _ h; omega); omega) | (intro h; have := hA _ h; omega) | (intro h; rcases h with h | h; (have := h.2; omega); omega) | exact Ar.nbr | exact Ai.nbr | exact Ar.no (by omega) | exact Ai.no (by omega))
  refine s_end (hK5 _ _ ?_)
  rw [fold_own] at hy9
  refine wp_ret (res_cell hF rfl rfl m4 wide27 ⟨_, rfl, ⟨⟨y9, rfl, hy9.mono (AS.mono (by omega))⟩, hR⟩, hQ⟩)

set_option maxRecDepth 100000 in
set_option maxHeartbeats 1600000 in
theorem clo131 (wl : World) (br : Nat) (hbr : br < wl.heap.size) (A : Nat → Prop) (hA : ∀ k, A k → k ≠ br ∧ k < wl.heap.size) (f b : Int) (hf : 0 ≤ f) (hb0 : -4611686018427387904 ≤ b) (bp bf bb : Nat) (mp : Blk wl bp 66 [.pointer (some ⟨br, 0, none⟩)]) (mf : Blk wl bf 3 [.int .i64 f]) (mb : Blk wl bb 3 [.int .i64 b]) (hne : bp ≠ br ∧ bf ≠ br ∧ bb ≠ br) (D : Int) (hD : D ≤ 4611686018427387904) (W : World) (c : CT) (x : C8) (d : Int) (kv : Value) (ps : List PT) (s : Nat) (hK : Ktw br br wl W) (hR : Room W br) (hx : RC wl A c x) (hd0 : 0 ≤ d) (hdD : d ≤ D) (hs0 : wl.heap.size ≤ s) (hs1 : s ≤ W.heap.size) (hkv : RKE W (AS A s) kv ps) (hlen : ps.length = c.kids.length) :
  Calls Try.prog 132 ([tv x, .int .i64 d, kv] ++ [Value.pointer (some ⟨bp, 0, none⟩), Value.pointer (some ⟨bf, 0, none⟩), Value.pointer (some ⟨bb, 0, none⟩)]).toArray W fun e w' => ∃ v, e = .returned v ∧ ((∃ y, v = tv y ∧ RE w' (AS A s) (Gl f b c d ps) y ∧ Tt c y) ∧ Room w' br) ∧ Ktw br br W w' := by
 have hQ := Ktw.refl br br W
 have sQ := hQ.size
 have sK := hK.size
 have hA2 : ∀ k, A k → k ≠ br ∧ k ≠ br := fun k hk => ⟨(hA k hk).1, (hA k hk).1⟩
 have hAS : ∀ k, AS A s k → k ≠ br := fun k hk => by rcases hk with hk | hk; (· exact (hA k hk).1); omega
 have hkv0 := hkv.valid
 have mp := mp.k2 hK (by omega)
 have mf := mf.k2 hK (by omega)
 have mb := mb.k2 hK (by omega)
 have hpl := mp.lt
 have hfl := mf.lt
 have hbl := mb.lt
 have hrng : x.k = 1 → in64 x.n := fun h => by
  obtain ⟨n, m, rfl⟩ := hx.var_of h
  have h1 := hx.2.1
  have h2 := hx.2.2.1
  rw [h1]; exact h2
 have hres : ¬ (x.k = 1 ∧ d ≤ x.n ∧ f ≤ x.n - d) → Gl f b c d ps = nodeP c ps := by
  intro h
  cases c with
  | var n m =>
   have h1 := hx.1
   have h2 := hx.2.1
   simp only [Gl, nodeP, liftN]
   rw [if_neg (by rw [← h2]; exact fun h' => h ⟨h1, h'.1, h'.2⟩)]
  | _ => rfl
 refine calls_fs 40 [(0, tv x), (1, .int .i64 d), (2, kv), (3, Value.pointer (some ⟨bp, 0, none⟩)), (4, Value.pointer (some ⟨bf, 0, none⟩)), (5, Value.pointer (some ⟨bb, 0, none⟩))] Try.func132 rfl rfl rfl rfl rfl fun a hF => ?_
 refine wp_rs fun K1 hK1 => ?_
 refine s_box (tc x) hF (by decide) rfl rfl fun w2 b6 a eb6 m6 B3 zb6 hF => ?_
 have sB3 := B3.size
 have hK := hK.below B3
 have hQ := hQ.below B3
 have mp := mp.old B3
 have mf := mf.old B3
 have mb := mb.old B3
 have hR := hR.below B3
 refine s_alloc hF (by decide) zero27 fun w4 b9 a eb9 m9 B5 zb9 hF => ?_
 have sB5 := B5.size
 have hK := hK.below B5
 have hQ := hQ.below B5
 have mp := mp.old B5
 have mf := mf.old B5
 have mb := mb.old B5
 have m6 := m6.old B5
 have hR := hR.below B5
 refine s_end (hK1 _ _ ?_)
 refine wp_rs fun K2 hK2 => ?_
 refine hF.v (x_load rfl (m_load flat64 (mp.cell (j := 0) rfl))) fun a hF => ?_
 refine hF.v (x_ldW wide27 m6 rfl rfl) fun a hF => ?_
 refine hF.v (x_move rfl) fun a hF => ?_
 refine s_call (R := fun u w' => ((∃ y, u = tv y ∧ RE w' (fun k => (AS A s k ∧ k < W.heap.size) ∨ w4.heap.size ≤ k) (nodeP c ps) y ∧ y.ts = kv) ∧ Room w' br) ∧ Ktw br br w4 w') hF [_, _, _] E66 rfl (by decide) (node92 w4 br (by omega) (fun k => AS A s k ∧ k < W.heap.size) (fun k hk => ⟨hAS k hk.1, by have := hk.2; omega⟩) c x ((hx.keep hK.size (fun k hk hb => hK.block k hb (hA2 k hk))).mono (fun k hk => ⟨.inl hk, by have := hA k hk; omega⟩)) kv ps (hkv0.keep hQ.size (fun k hk hb => hQ.block k hb ⟨hAS k hk.1, hAS k hk.1⟩)) hlen hR) ?_
 rintro _ w6 a ⟨⟨⟨y9, rfl, hy9, ht9⟩, hR⟩, k7⟩ hF
 have sk7 := k7.size
 have hQ := hQ.trans k7 (by omega)
 have mf := mf.k2 k7 (by omega)
 have mb := mb.k2 k7 (by omega)
 have m6 := m6.k2 k7 (by omega)
 have m9 := m9.k2 k7 (by omega)
 have hy9 := hy9.valid
 have hT9 : Tt c y9 := tt_of hlen hkv0 ht9
 clear ht9
 refine s_alloc hF (by decide) zero27 fun w8 b10 a eb10 m10 B9 zb10 hF => ?_
 have sB9 := B9.size
 have hQ := hQ.below B9
 have mf := mf.old B9
 have mb := mb.old B9
 have m6 := m6.old B9
 have m9 := m9.old B9
 have hR := hR.below B9
 have hy9 := hy9.below B9
 refine s_putW hF rfl rfl (size_wide wide27) m10 rfl hy9.one fun w12 m10 o13 => ?_
 have so13 := o13.size
 have hQ := hQ.only o13 (by omega)
 have mf := mf.only o13 (by omega)
 have mb := mb.only o13 (by omega)
 have m6 := m6.only o13 (by omega)
 have m9 := m9.only o13 (by omega)
 have hR := hR.only o13 (by omega)
 have hy9 := hy9.only o13 (by first | (intro h; have h2 := h.2; omega) | (intro h; rcases h.1 with h1 | h1; (have := hA _ h1; omega); (have := h.2; omega)) | (intro h; rcases h.1 with h1 | h1; (have := h1.2; omega); (have := h.2; omega)) | (intro h; rcases h.1 with h1 | h1; (exact hAS _ h1.1 rfl); (have := h.2; omega)) | (intro h; rcases h with h | h; (have := hA _ h; omega); omega) | (intro h; have := hA _ h; omega) | (intro h; rcases h with h | h; (have := h.2; omega); omega) | exact Ar.nbr | exact Ai.nbr | exact Ar.no (by omega) | exact Ai.no (by omega))
 refine s_end (hK2 _ _ ?_)
 refine wp_seq_k fun K3 hK3 => ?_
 rcases (show (x.k = 1 ∧ d ≤ x.n ∧ f ≤ x.n - d) ∨ (x.k = 1 ∧ d ≤ x.n ∧ ¬ f ≤ x.n - d) ∨ (x.k = 1 ∧ ¬ d ≤ x.n) ∨ x.k ≠ 1 by omega) with hk9 | hk9 | hk9 | hk9
 ·
  have hri0 := hrng hk9.1
  unfold in64 at hri0
  refine wp_rs fun K5 hK5 => ?_
  refine hF.v (x_fa0 fa27_0 rfl) fun a hF => ?_
  refine hF.v (x_load rfl (m_load flat3 (m6.cell (j := 0) rfl))) fun a hF => ?_
  refine hF.v (eqlT (by omega) rfl rfl) fun a hF => ?_
  refine hF.v (x_move rfl) fun a hF => ?_
  refine s_grd 18 hF rfl rfl rfl ?_
  refine hF.v (x_fa0 fa27_1 rfl) fun a hF => ?_
  refine s_grd 18 hF rfl rfl rfl ?_
  refine hF.v (x_load rfl (m_load flat3 (m6.cell (j := 1) rfl))) fun a hF => ?_
  refine s_grd 18 hF rfl rfl rfl ?_
  refine hF.v (x_move rfl) fun a hF => ?_
  refine s_grd 18 hF rfl rfl rfl ?_
  refine hF.v (geqT (by omega) rfl rfl) fun a hF => ?_
  refine hF.v (x_pick (b := true) rfl rfl) fun a hF => ?_
  refine hF.v (x_move rfl) fun a hF => ?_
  refine s_grd 24 hF rfl rfl rfl ?_
  refine hF.v (x_fa0 fa27_1 rfl) fun a hF => ?_
  refine s_grd 24 hF rfl rfl rfl ?_
  refine hF.v (x_load rfl (m_load flat3 (m6.cell (j := 1) rfl))) fun a hF => ?_
  refine s_grd 24 hF rfl rfl rfl ?_
  refine hF.v (x_move rfl) fun a hF => ?_
  refine s_grd 24 hF rfl rfl rfl ?_
  refine hF.v (x_sub (by omega) (by omega) rfl rfl) fun a hF => ?_
  refine s_grd 24 hF rfl rfl rfl ?_
  refine hF.v (x_load rfl (m_load flat3 (mf.cell (j := 0) rfl))) fun a hF => ?_
  refine s_grd 24 hF rfl rfl rfl ?_
  refine hF.v (geqT (by omega) rfl rfl) fun a hF => ?_
  refine hF.v (x_pick (b := true) rfl rfl) fun a hF => ?_
  refine s_end (hK5 _ _ ?_)
  refine wp_if hF rfl ?_
  refine wp_region_lit ?_
  refine hF.v (x_fa0 fa27_1 rfl) fun a hF => ?_
  refine hF.v (x_load rfl (m_load flat3 (m6.cell (j := 1) rfl))) fun a hF => ?_
  refine hF.v (x_load rfl (m_load flat3 (mb.cell (j := 0) rfl))) fun a hF => ?_
  refine s_callS [_, _] hF E133 rfl (by decide) (plus78 x.n b w12 (by omega) (by have := hrng hk9.1; unfold in64 at this; omega) (by omega)) fun a hF => ?_
  refine hF.v (x_move rfl) fun a hF => ?_
  refine hF.v (x_imax rfl rfl) fun a hF => ?_
  refine hF.v (x_fa0 fa27_1 rfl) fun a hF => ?_
  refine s_put hF rfl rfl flat3 m10 (by first | (simp; done) | (simp [tc, lc]; done) | decide) rfl fun w14 m10 o15 => ?_
  have so15 := o15.size
  have hQ := hQ.only o15 (by omega)
  have m9 := m9.only o15 (by omega)
  have hR := hR.only o15 (by omega)
  have hy9 := hy9.only o15 (by first | (intro h; have h2 := h.2; omega) | (intro h; rcases h.1 with h1 | h1; (have := hA _ h1; omega); (have := h.2; omega)) | (intro h; rcases h.1 with h1 | h1; (have := h1.2; omega); (have := h.2; omega)) | (intro h; rcases h.1 with h1 | h1; (exact hAS _ h1.1 rfl); (have := h.2; omega)) | (intro h; rcases h with h | h; (have := hA _ h; omega); omega) | (intro h; have := hA _ h; omega) | (intro h; rcases h with h | h; (have := h.2; omega); omega) | exact Ar.nbr | exact Ai.nbr | exact Ar.no (by omega) | exact Ai.no (by omega))
  refine s_end (hK3 _ _ ?_)
  obtain ⟨n9, mm9, rfl⟩ := hx.var_of hk9.1
  have hn9 : x.n = n9 := hx.2.1
  have hri := hrng hk9.1
  unfold in64 at hri
  obtain ⟨c9, hc9, he9⟩ := hy9
  have hc9v : ∃ m, c9 = .var n9 m := by cases c9 <;> simp [nodeP, CT.ess] at he9; exact ⟨_, by rw [he9]⟩
  obtain ⟨mm8, rfl⟩ := hc9v
  have hyn9 : y9.n = n9 := hc9.2.1
  have hG9 : Gl f b (.var n9 mm9) d ps = .var (max (min (x.n + b) 9223372036854775807) d) := by simp only [Gl]; rw [liftN, ← hn9, if_pos ⟨hk9.2.1, hk9.2.2⟩]
  have hz9 : RE w14 (fun k => ((AS A s k ∧ k < W.heap.size) ∨ w4.heap.size ≤ k) ∧ k < w6.heap.size) (Gl f b (.var n9 mm9) d ps) ⟨y9.k, max (min (x.n + b) 9223372036854775807) d, y9.s, y9.l, y9.ls, y9.ts⟩ := by rw [hG9]; exact ⟨.var (max (min (x.n + b) 9223372036854775807) d) mm8, ⟨hc9.1, rfl, by unfold in64; omega, hc9.2.2.2.1, hc9.2.2.2.2⟩, rfl⟩
  have h1Y := hz9.one
  refine wp_rs fun K6 hK6 => ?_
  refine hF.v (x_ldW wide27 m10 rfl rfl) fun a hF => ?_
  refine s_putW hF rfl rfl (size_wide wide27) m9 rfl h1Y fun w18 m9 o19 => ?_
  have so19 := o19.size
  have hQ := hQ.only o19 (by omega)
  have hR := hR.only o19 (by omega)
  have hz9 := hz9.only o19 (by first | (intro h; have h2 := h.2; omega) | (intro h; rcases h.1 with h1 | h1; (have := hA _ h1; omega); (have := h.2; omega)) | (intro h; rcases h.1 with h1 | h1; (have := h1.2; omega); (have := h.2; omega)) | (intro h; rcases h.1 with h1 | h1; (exact hAS _ h1.1 rfl); (have := h.2; omega)) | (intro h; rcases h with h | h; (have := hA _ h; omega); omega) | (intro h; have := hA _ h; omega) | (intro h; rcases h with h | h; (have := h.2; omega); omega) | exact Ar.nbr | exact Ai.nbr | exact Ar.no (by omega) | exact Ai.no (by omega))
  refine s_end (hK6 _ _ ?_)
  refine wp_ret (res_cell hF rfl rfl m9 wide27 ⟨_, rfl, ⟨⟨_, rfl, hz9.mono (fun k hk => by rcases hk.1 with hk | hk; (· exact hk.1); exact .inr (by omega)), tt_var⟩, hR⟩, hQ⟩)
 ·
  have hri0 := hrng hk9.1
  unfold in64 at hri0
  refine wp_rs fun K7 hK7 => ?_
  refine hF.v (x_fa0 fa27_0 rfl) fun a hF => ?_
  refine hF.v (x_load rfl (m_load flat3 (m6.cell (j := 0) rfl))) fun a hF => ?_
  refine hF.v (eqlT (by omega) rfl rfl) fun a hF => ?_
  refine hF.v (x_move rfl) fun a hF => ?_
  refine s_grd 18 hF rfl rfl rfl ?_
  refine hF.v (x_fa0 fa27_1 rfl) fun a hF => ?_
  refine s_grd 18 hF rfl rfl rfl ?_
  refine hF.v (x_load rfl (m_load flat3 (m6.cell (j := 1) rfl))) fun a hF => ?_
  refine s_grd 18 hF rfl rfl rfl ?_
  refine hF.v (x_move rfl) fun a hF => ?_
  refine s_grd 18 hF rfl rfl rfl ?_
  refine hF.v (geqT (by omega) rfl rfl) fun a hF => ?_
  refine hF.v (x_pick (b := true) rfl rfl) fun a hF => ?_
  refine hF.v (x_move rfl) fun a hF => ?_
  refine s_grd 24 hF rfl rfl rfl ?_
  refine hF.v (x_fa0 fa27_1 rfl) fun a hF => ?_
  refine s_grd 24 hF rfl rfl rfl ?_
  refine hF.v (x_load rfl (m_load flat3 (m6.cell (j := 1) rfl))) fun a hF => ?_
  refine s_grd 24 hF rfl rfl rfl ?_
  refine hF.v (x_move rfl) fun a hF => ?_
  refine s_grd 24 hF rfl rfl rfl ?_
  refine hF.v (x_sub (by omega) (by omega) rfl rfl) fun a hF => ?_
  refine s_grd 24 hF rfl rfl rfl ?_
  refine hF.v (x_load rfl (m_load flat3 (mf.cell (j := 0) rfl))) fun a hF => ?_
  refine s_grd 24 hF rfl rfl rfl ?_
  refine hF.v (geqF (by omega) rfl rfl) fun a hF => ?_
  refine hF.v (x_pick (b := true) rfl rfl) fun a hF => ?_
  refine s_end (hK7 _ _ ?_)
  refine wp_if hF rfl ?_
  refine wp_skip (hK3 _ _ ?_)
  have h1Y := hy9.one
  refine wp_rs fun K8 hK8 => ?_
  refine hF.v (x_ldW wide27 m10 rfl rfl) fun a hF => ?_
  refine s_putW hF rfl rfl (size_wide wide27) m9 rfl h1Y fun w22 m9 o23 => ?_
  have so23 := o23.size
  have hQ := hQ.only o23 (by omega)
  have hR := hR.only o23 (by omega)
  have hy9 := hy9.only o23 (by first | (intro h; have h2 := h.2; omega) | (intro h; rcases h.1 with h1 | h1; (have := hA _ h1; omega); (have := h.2; omega)) | (intro h; rcases h.1 with h1 | h1; (have := h1.2; omega); (have := h.2; omega)) | (intro h; rcases h.1 with h1 | h1; (exact hAS _ h1.1 rfl); (have := h.2; omega)) | (intro h; rcases h with h | h; (have := hA _ h; omega); omega) | (intro h; have := hA _ h; omega) | (intro h; rcases h with h | h; (have := h.2; omega); omega) | exact Ar.nbr | exact Ai.nbr | exact Ar.no (by omega) | exact Ai.no (by omega))
  refine s_end (hK8 _ _ ?_)
  refine wp_ret (res_cell hF rfl rfl m9 wide27 ⟨_, rfl, ⟨⟨y9, rfl, by rw [hres (by omega)]; exact hy9.mono (fun k hk => by rcases hk.1 with hk | hk; (· exact hk.1); exact .inr (by omega)), hT9⟩, hR⟩, hQ⟩)
 ·
  skip
  refine wp_rs fun K9 hK9 => ?_
  refine hF.v (x_fa0 fa27_0 rfl) fun a hF => ?_
  refine hF.v (x_load rfl (m_load flat3 (m6.cell (j := 0) rfl))) fun a hF => ?_
  refine hF.v (eqlT (by omega) rfl rfl) fun a hF => ?_
  refine hF.v (x_move rfl) fun a hF => ?_
  refine s_grd 18 hF rfl rfl rfl ?_
  refine hF.v (x_fa0 fa27_1 rfl) fun a hF => ?_
  refine s_grd 18 hF rfl rfl rfl ?_
  refine hF.v (x_load rfl (m_load flat3 (m6.cell (j := 1) rfl))) fun a hF => ?_
  refine s_grd 18 hF rfl rfl rfl ?_
  refine hF.v (x_move rfl) fun a hF => ?_
  refine s_grd 18 hF rfl rfl rfl ?_
  refine hF.v (geqF (by omega) rfl rfl) fun a hF => ?_
  refine hF.v (x_pick (b := true) rfl rfl) fun a hF => ?_
  refine hF.v (x_move rfl) fun a hF => ?_
  refine s_grdn 24 hF rfl rfl (by decide) fun a hF => ?_
  refine s_grdn 24 hF rfl rfl (by decide) fun a hF => ?_
  refine s_grdn 24 hF rfl rfl (by decide) fun a hF => ?_
  refine s_grdn 24 hF rfl rfl (by decide) fun a hF => ?_
  refine s_grdn 24 hF rfl rfl (by decide) fun a hF => ?_
  refine s_grdn 24 hF rfl rfl (by decide) fun a hF => ?_
  refine hF.v (x_pick (b := false) rfl rfl) fun a hF => ?_
  refine s_end (hK9 _ _ ?_)
  refine wp_if hF rfl ?_
  refine wp_skip (hK3 _ _ ?_)
  have h1Y := hy9.one
  refine wp_rs fun K10 hK10 => ?_
  refine hF.v (x_ldW wide27 m10 rfl rfl) fun a hF => ?_
  refine s_putW hF rfl rfl (size_wide wide27) m9 rfl h1Y fun w26 m9 o27 => ?_
  have so27 := o27.size
  have hQ := hQ.only o27 (by omega)
  have hR := hR.only o27 (by omega)
  have hy9 := hy9.only o27 (by first | (intro h; have h2 := h.2; omega) | (intro h; rcases h.1 with h1 | h1; (have := hA _ h1; omega); (have := h.2; omega)) | (intro h; rcases h.1 with h1 | h1; (have := h1.2; omega); (have := h.2; omega)) | (intro h; rcases h.1 with h1 | h1; (exact hAS _ h1.1 rfl); (have := h.2; omega)) | (intro h; rcases h with h | h; (have := hA _ h; omega); omega) | (intro h; have := hA _ h; omega) | (intro h; rcases h with h | h; (have := h.2; omega); omega) | exact Ar.nbr | exact Ai.nbr | exact Ar.no (by omega) | exact Ai.no (by omega))
  refine s_end (hK10 _ _ ?_)
  refine wp_ret (res_cell hF rfl rfl m9 wide27 ⟨_, rfl, ⟨⟨y9, rfl, by rw [hres (by omega)]; exact hy9.mono (fun k hk => by rcases hk.1 with hk | hk; (· exact hk.1); exact .inr (by omega)), hT9⟩, hR⟩, hQ⟩)
 ·
  skip
  refine wp_rs fun K11 hK11 => ?_
  refine hF.v (x_fa0 fa27_0 rfl) fun a hF => ?_
  refine hF.v (x_load rfl (m_load flat3 (m6.cell (j := 0) rfl))) fun a hF => ?_
  refine hF.v (eqlF (by omega) rfl rfl) fun a hF => ?_
  refine hF.v (x_move rfl) fun a hF => ?_
  refine s_grdn 18 hF rfl rfl (by decide) fun a hF => ?_
  refine s_grdn 18 hF rfl rfl (by decide) fun a hF => ?_
  refine s_grdn 18 hF rfl rfl (by decide) fun a hF => ?_
  refine s_grdn 18 hF rfl rfl (by decide) fun a hF => ?_
  refine hF.v (x_pick (b := false) rfl rfl) fun a hF => ?_
  refine hF.v (x_move rfl) fun a hF => ?_
  refine s_grdn 24 hF rfl rfl (by decide) fun a hF => ?_
  refine s_grdn 24 hF rfl rfl (by decide) fun a hF => ?_
  refine s_grdn 24 hF rfl rfl (by decide) fun a hF => ?_
  refine s_grdn 24 hF rfl rfl (by decide) fun a hF => ?_
  refine s_grdn 24 hF rfl rfl (by decide) fun a hF => ?_
  refine s_grdn 24 hF rfl rfl (by decide) fun a hF => ?_
  refine hF.v (x_pick (b := false) rfl rfl) fun a hF => ?_
  refine s_end (hK11 _ _ ?_)
  refine wp_if hF rfl ?_
  refine wp_skip (hK3 _ _ ?_)
  have h1Y := hy9.one
  refine wp_rs fun K12 hK12 => ?_
  refine hF.v (x_ldW wide27 m10 rfl rfl) fun a hF => ?_
  refine s_putW hF rfl rfl (size_wide wide27) m9 rfl h1Y fun w30 m9 o31 => ?_
  have so31 := o31.size
  have hQ := hQ.only o31 (by omega)
  have hR := hR.only o31 (by omega)
  have hy9 := hy9.only o31 (by first | (intro h; have h2 := h.2; omega) | (intro h; rcases h.1 with h1 | h1; (have := hA _ h1; omega); (have := h.2; omega)) | (intro h; rcases h.1 with h1 | h1; (have := h1.2; omega); (have := h.2; omega)) | (intro h; rcases h.1 with h1 | h1; (exact hAS _ h1.1 rfl); (have := h.2; omega)) | (intro h; rcases h with h | h; (have := hA _ h; omega); omega) | (intro h; have := hA _ h; omega) | (intro h; rcases h with h | h; (have := h.2; omega); omega) | exact Ar.nbr | exact Ai.nbr | exact Ar.no (by omega) | exact Ai.no (by omega))
  refine s_end (hK12 _ _ ?_)
  refine wp_ret (res_cell hF rfl rfl m9 wide27 ⟨_, rfl, ⟨⟨y9, rfl, by rw [hres (by omega)]; exact hy9.mono (fun k hk => by rcases hk.1 with hk | hk; (· exact hk.1); exact .inr (by omega)), hT9⟩, hR⟩, hQ⟩)

set_option maxRecDepth 100000 in
set_option maxHeartbeats 1600000 in
theorem lifted93 (W : World) (br : Nat) (hbr : br < W.heap.size) (A : Nat → Prop) (hA : ∀ k, A k → k ≠ br ∧ k < W.heap.size) (c : CT) (x : C8) (hx : RC W A c x) (f b : Int) (hf : 0 ≤ f) (hb0 : -4611686018427387904 ≤ b) (hdp : (c.dep : Int) ≤ 4611686018427387904) (hR : Room W br) : Calls Try.prog 100 #[.pointer (some ⟨br, 0, none⟩), tv x, .int .i64 f, .int .i64 b] W fun e w' => ∃ u, e = .returned u ∧ ((∃ y, u = tv y ∧ RE w' (AS A W.heap.size) (c.ess.lift f b 0) y) ∧ Room w' br) ∧ Ktw br br W w' := by
 have hQ := Ktw.refl br br W
 have sQ := hQ.size
 have hA2 : ∀ k, A k → k ≠ br ∧ k ≠ br := fun k hk => ⟨(hA k hk).1, (hA k hk).1⟩
 refine calls_fs 12 [(0, .pointer (some ⟨br, 0, none⟩)), (1, tv x), (2, .int .i64 f), (3, .int .i64 b)] Try.func100 rfl rfl rfl rfl rfl fun a hF => ?_
 refine wp_rs fun K1 hK1 => ?_
 refine s_box ([.pointer (some ⟨br, 0, none⟩)]) hF (by decide) rfl rfl fun w2 b4 a eb4 m4 B3 zb4 hF => ?_
 have sB3 := B3.size
 have hQ := hQ.below B3
 have hR := hR.below B3
 refine s_box (tc x) hF (by decide) rfl rfl fun w4 b5 a eb5 m5 B5 zb5 hF => ?_
 have sB5 := B5.size
 have hQ := hQ.below B5
 have m4 := m4.old B5
 have hR := hR.below B5
 refine s_box ([.int .i64 f]) hF (by decide) rfl rfl fun w6 b6 a eb6 m6 B7 zb6 hF => ?_
 have sB7 := B7.size
 have hQ := hQ.below B7
 have m4 := m4.old B7
 have m5 := m5.old B7
 have hR := hR.below B7
 refine s_box ([.int .i64 b]) hF (by decide) rfl rfl fun w8 b7 a eb7 m7 B9 zb7 hF => ?_
 have sB9 := B9.size
 have hQ := hQ.below B9
 have m4 := m4.old B9
 have m5 := m5.old B9
 have m6 := m6.old B9
 have hR := hR.below B9
 refine s_alloc hF (by decide) zero27 fun w10 b8 a eb8 m8 B11 zb8 hF => ?_
 have sB11 := B11.size
 have hQ := hQ.below B11
 have m4 := m4.old B11
 have m5 := m5.old B11
 have m6 := m6.old B11
 have m7 := m7.old B11
 have hR := hR.below B11
 refine s_end (hK1 _ _ ?_)
 refine wp_rs fun K2 hK2 => ?_
 refine hF.v (x_ldW wide27 m5 rfl rfl) fun a hF => ?_
 refine hF.v (x_mkf [_, _, _] rfl) fun a hF => ?_
 have hx9 := hx.keep hQ.size (fun k hk hb => hQ.block k hb (hA2 k hk))
 have hA9 : ∀ k, A k → k ≠ br ∧ k < w10.heap.size := fun k hk => ⟨(hA k hk).1, by have := (hA k hk).2; omega⟩
 refine s_call (R := fun u w' => ((∃ y, u = tv y ∧ RE w' (AS A w10.heap.size) (c.fold (Gl f b) 0) y ∧ Tt c y) ∧ Room w' br) ∧ Ktw br br w10 w') hF [_, _, _] E62 rfl (by decide) (fold88 w10 br (by omega) A hA9 132 [.pointer (some ⟨b4, 0, none⟩), .pointer (some ⟨b6, 0, none⟩), .pointer (some ⟨b7, 0, none⟩)] E132 4611686018427387904 (by decide) (Gl f b) (fun _ => True) (fun _ _ _ _ _ => trivial) (fun W c x d kv ps s h1 h2 h3 h4 h5 h6 h7 h8 h9 _ => clo131 w10 br (by omega) A hA9 f b hf hb0 b4 b6 b7 m4 m6 m7 (by omega) 4611686018427387904 (by decide) W c x d kv ps s h1 h2 h3 h4 h5 h6 h7 h8 h9) (c.size + 1) c x 0 w10 (by omega) hx9 trivial (by decide) (by omega) (Ktw.refl br br _) hR) ?_
 rintro _ w12 a ⟨⟨⟨y9, rfl, hy9, hT9⟩, hR⟩, k13⟩ hF
 have sk13 := k13.size
 have hQ := hQ.trans k13 (by omega)
 have m8 := m8.k2 k13 (by omega)
 refine s_putW hF rfl rfl (size_wide wide27) m8 rfl hy9.one fun w16 m8 o17 => ?_
 have so17 := o17.size
 have hQ := hQ.only o17 (by omega)
 have hR := hR.only o17 (by omega)
 have hy9 := hy9.only o17 (by first | (intro h; have h2 := h.2; omega) | (intro h; rcases h.1 with h1 | h1; (have := hA _ h1; omega); (have := h.2; omega)) | (intro h; rcases h.1 with h1 | h1; (have := h1.2; omega); (have := h.2; omega)) | (intro h; rcases h.1 with h1 | h1; (exact hAS _ h1.1 rfl); (have := h.2; omega)) | (intro h; rcases h with h | h; (have := hA _ h; omega); omega) | (intro h; have := hA _ h; omega) | (intro h; rcases h with h | h; (have := h.2; omega); omega) | exact Ar.nbr | exact Ai.nbr | exact Ar.no (by omega) | exact Ai.no (by omega))
 refine s_end (hK2 _ _ ?_)
 rw [fold_lift] at hy9
 refine wp_ret (res_cell hF rfl rfl m8 wide27 ⟨_, rfl, ⟨⟨y9, rfl, hy9.mono (AS.mono (by omega))⟩, hR⟩, hQ⟩)

set_option maxRecDepth 100000 in
set_option maxHeartbeats 1600000 in
theorem clo122 (wl : World) (br : Nat) (hbr : br < wl.heap.size) (A : Nat → Prop) (hA : ∀ k, A k → k ≠ br ∧ k < wl.heap.size) (cv : CT) (xv : C8) (hv : RC wl A cv xv) (hvd : (cv.dep : Int) ≤ 4611686018427387904) (bp bv : Nat) (mp : Blk wl bp 66 [.pointer (some ⟨br, 0, none⟩)]) (mv : Blk wl bv 27 (tc xv)) (hne : bp ≠ br ∧ bv ≠ br) (D : Int) (hD : D ≤ 4611686018427387904) (W : World) (c : CT) (x : C8) (d : Int) (kv : Value) (ps : List PT) (s : Nat) (hK : Ktw br br wl W) (hR : Room W br) (hx : RC wl A c x) (hd0 : 0 ≤ d) (hdD : d ≤ D) (hs0 : wl.heap.size ≤ s) (hs1 : s ≤ W.heap.size) (hkv : RKE W (AS A s) kv ps) (hlen : ps.length = c.kids.length) :
  Calls Try.prog 99 ([tv x, .int .i64 d, kv] ++ [Value.pointer (some ⟨bp, 0, none⟩), Value.pointer (some ⟨bv, 0, none⟩)]).toArray W fun e w' => ∃ v, e = .returned v ∧ ((∃ y, v = tv y ∧ RE w' (AS A s) (Gp cv.ess c d ps) y ∧ Tt c y) ∧ Room w' br) ∧ Ktw br br W w' := by
 have hQ := Ktw.refl br br W
 have sQ := hQ.size
 have sK := hK.size
 have hA2 : ∀ k, A k → k ≠ br ∧ k ≠ br := fun k hk => ⟨(hA k hk).1, (hA k hk).1⟩
 have hAS : ∀ k, AS A s k → k ≠ br := fun k hk => by rcases hk with hk | hk; (· exact (hA k hk).1); omega
 have hkv0 := hkv.valid
 have mp := mp.k2 hK (by omega)
 have mv := mv.k2 hK (by omega)
 have hpl := mp.lt
 have hvl := mv.lt
 have hrng : x.k = 1 → in64 x.n := fun h => by
  obtain ⟨n, m, rfl⟩ := hx.var_of h
  have h1 := hx.2.1
  have h2 := hx.2.2.1
  rw [h1]; exact h2
 have hV := CT.isV_eq hx d
 have hres : ¬ (x.k = 1 ∧ d ≤ x.n) → Gp cv.ess c d ps = nodeP c ps := by
  intro h
  cases c with
  | var n m =>
   have h1 := hx.1
   have h2 := hx.2.1
   simp only [Gp, nodeP]
   rw [if_neg (by omega), if_neg (by omega)]
  | _ => rfl
 refine calls_fs 35 [(0, tv x), (1, .int .i64 d), (2, kv), (3, Value.pointer (some ⟨bp, 0, none⟩)), (4, Value.pointer (some ⟨bv, 0, none⟩))] Try.func99 rfl rfl rfl rfl rfl fun a hF => ?_
 refine wp_rs fun K1 hK1 => ?_
 refine s_box (tc x) hF (by decide) rfl rfl fun w2 b5 a eb5 m5 B3 zb5 hF => ?_
 have sB3 := B3.size
 have hK := hK.below B3
 have hQ := hQ.below B3
 have mp := mp.old B3
 have mv := mv.old B3
 have hR := hR.below B3
 refine s_alloc hF (by decide) zero27 fun w4 b8 a eb8 m8 B5 zb8 hF => ?_
 have sB5 := B5.size
 have hK := hK.below B5
 have hQ := hQ.below B5
 have mp := mp.old B5
 have mv := mv.old B5
 have m5 := m5.old B5
 have hR := hR.below B5
 refine s_end (hK1 _ _ ?_)
 refine wp_seq_k fun K2 hK2 => ?_
 rcases (show (x.k = 1 ∧ x.n = d) ∨ (x.k = 1 ∧ d < x.n) ∨ (x.k = 1 ∧ x.n < d) ∨ x.k ≠ 1 by omega) with hk9 | hk9 | hk9 | hk9
 ·
  skip
  refine wp_rs fun K4 hK4 => ?_
  refine hF.v (x_ldW wide27 m5 rfl rfl) fun a hF => ?_
  refine hF.v (x_move rfl) fun a hF => ?_
  have hiv : c.isV d = true := by rw [hV]; simp [hk9.1, hk9.2]
  refine s_callB [_, _] hF E98 rfl (by decide) ((isPlace121 c x _ d wl w4 hx).mono fun e w' h => ⟨by rw [h.1, hiv], h.2⟩) fun w6 a B7 hF => ?_
  have sB7 := B7.size
  have hK := hK.below B7
  have hQ := hQ.below B7
  have mp := mp.old B7
  have mv := mv.old B7
  have m8 := m8.old B7
  have hR := hR.below B7
  refine s_end (hK4 _ _ ?_)
  refine wp_if hF rfl ?_
  refine wp_rs fun K5 hK5 => ?_
  refine hF.v (x_load rfl (m_load flat64 (mp.cell (j := 0) rfl))) fun a hF => ?_
  refine hF.v (x_ldW wide27 mv rfl rfl) fun a hF => ?_
  refine hF.v (x_move rfl) fun a hF => ?_
  obtain ⟨n9, mm9, rfl⟩ := hx.var_of hk9.1
  have hn9 : x.n = n9 := hx.2.1
  have hG9 : Gp cv.ess (.var n9 mm9) d ps = cv.ess.lift 0 d 0 := by simp only [Gp]; rw [if_pos (by omega)]
  refine s_call (R := fun u w' => ((∃ y, u = tv y ∧ RE w' (AS A w6.heap.size) (cv.ess.lift 0 d 0) y) ∧ Room w' br) ∧ Ktw br br w6 w') hF [_, _, _, _] E100 rfl (by decide) (lifted93 w6 br (by omega) A (fun k hk => ⟨(hA k hk).1, by have := (hA k hk).2; omega⟩) cv xv (hv.keep hK.size (fun k hk hb => hK.block k hb (hA2 k hk))) 0 d (by decide) (by omega) hvd hR) ?_
  rintro _ w8 a ⟨⟨⟨y9, rfl, hy9⟩, hR⟩, k9⟩ hF
  have sk9 := k9.size
  have hQ := hQ.trans k9 (by omega)
  have m8 := m8.k2 k9 (by omega)
  refine s_putW hF rfl rfl (size_wide wide27) m8 rfl hy9.one fun w12 m8 o13 => ?_
  have so13 := o13.size
  have hQ := hQ.only o13 (by omega)
  have hR := hR.only o13 (by omega)
  have hy9 := hy9.only o13 (by first | (intro h; have h2 := h.2; omega) | (intro h; rcases h.1 with h1 | h1; (have := hA _ h1; omega); (have := h.2; omega)) | (intro h; rcases h.1 with h1 | h1; (have := h1.2; omega); (have := h.2; omega)) | (intro h; rcases h.1 with h1 | h1; (exact hAS _ h1.1 rfl); (have := h.2; omega)) | (intro h; rcases h with h | h; (have := hA _ h; omega); omega) | (intro h; have := hA _ h; omega) | (intro h; rcases h with h | h; (have := h.2; omega); omega) | exact Ar.nbr | exact Ai.nbr | exact Ar.no (by omega) | exact Ai.no (by omega))
  refine s_end (hK5 _ _ ?_)
  refine wp_ret (then_ret (res_cell hF rfl rfl m8 wide27 ⟨_, rfl, ⟨⟨y9, rfl, by rw [hG9]; exact hy9.mono (AS.mono (by omega)), tt_var⟩, hR⟩, hQ⟩))
 ·
  have hri0 := hrng hk9.1
  unfold in64 at hri0
  refine wp_rs fun K6 hK6 => ?_
  refine hF.v (x_ldW wide27 m5 rfl rfl) fun a hF => ?_
  refine hF.v (x_move rfl) fun a hF => ?_
  have hiv : c.isV d = false := by rw [hV, decide_eq_false (show ¬ x.n = d by omega), Bool.and_false]
  refine s_callB [_, _] hF E98 rfl (by decide) ((isPlace121 c x _ d wl w4 hx).mono fun e w' h => ⟨by rw [h.1, hiv], h.2⟩) fun w14 a B15 hF => ?_
  have sB15 := B15.size
  have hK := hK.below B15
  have hQ := hQ.below B15
  have mp := mp.old B15
  have m5 := m5.old B15
  have m8 := m8.old B15
  have hR := hR.below B15
  refine s_end (hK6 _ _ ?_)
  refine wp_if hF rfl ?_
  refine wp_skip (hK2 _ _ ?_)
  refine wp_rs fun K7 hK7 => ?_
  refine hF.v (x_load rfl (m_load flat64 (mp.cell (j := 0) rfl))) fun a hF => ?_
  refine hF.v (x_ldW wide27 m5 rfl rfl) fun a hF => ?_
  refine hF.v (x_move rfl) fun a hF => ?_
  refine s_call (R := fun u w' => ((∃ y, u = tv y ∧ RE w' (fun k => (AS A s k ∧ k < W.heap.size) ∨ w14.heap.size ≤ k) (nodeP c ps) y ∧ y.ts = kv) ∧ Room w' br) ∧ Ktw br br w14 w') hF [_, _, _] E66 rfl (by decide) (node92 w14 br (by omega) (fun k => AS A s k ∧ k < W.heap.size) (fun k hk => ⟨hAS k hk.1, by have := hk.2; omega⟩) c x ((hx.keep hK.size (fun k hk hb => hK.block k hb (hA2 k hk))).mono (fun k hk => ⟨.inl hk, by have := hA k hk; omega⟩)) kv ps (hkv0.keep hQ.size (fun k hk hb => hQ.block k hb ⟨hAS k hk.1, hAS k hk.1⟩)) hlen hR) ?_
  rintro _ w16 a ⟨⟨⟨y9, rfl, hy9, ht9⟩, hR⟩, k17⟩ hF
  have sk17 := k17.size
  have hQ := hQ.trans k17 (by omega)
  have m5 := m5.k2 k17 (by omega)
  have m8 := m8.k2 k17 (by omega)
  have hy9 := hy9.valid
  have hT9 : Tt c y9 := tt_of hlen hkv0 ht9
  clear ht9
  refine s_alloc hF (by decide) zero27 fun w18 b9 a eb9 m9 B19 zb9 hF => ?_
  have sB19 := B19.size
  have hQ := hQ.below B19
  have m5 := m5.old B19
  have m8 := m8.old B19
  have hR := hR.below B19
  have hy9 := hy9.below B19
  refine s_putW hF rfl rfl (size_wide wide27) m9 rfl hy9.one fun w22 m9 o23 => ?_
  have so23 := o23.size
  have hQ := hQ.only o23 (by omega)
  have m5 := m5.only o23 (by omega)
  have m8 := m8.only o23 (by omega)
  have hR := hR.only o23 (by omega)
  have hy9 := hy9.only o23 (by first | (intro h; have h2 := h.2; omega) | (intro h; rcases h.1 with h1 | h1; (have := hA _ h1; omega); (have := h.2; omega)) | (intro h; rcases h.1 with h1 | h1; (have := h1.2; omega); (have := h.2; omega)) | (intro h; rcases h.1 with h1 | h1; (exact hAS _ h1.1 rfl); (have := h.2; omega)) | (intro h; rcases h with h | h; (have := hA _ h; omega); omega) | (intro h; have := hA _ h; omega) | (intro h; rcases h with h | h; (have := h.2; omega); omega) | exact Ar.nbr | exact Ai.nbr | exact Ar.no (by omega) | exact Ai.no (by omega))
  refine s_end (hK7 _ _ ?_)
  refine wp_seq_k fun K8 hK8 => ?_
  refine wp_rs fun K9 hK9 => ?_
  refine hF.v (x_fa0 fa27_0 rfl) fun a hF => ?_
  refine hF.v (x_load rfl (m_load flat3 (m5.cell (j := 0) rfl))) fun a hF => ?_
  refine hF.v (eqlT (by omega) rfl rfl) fun a hF => ?_
  refine hF.v (x_move rfl) fun a hF => ?_
  refine s_grd 24 hF rfl rfl rfl ?_
  refine hF.v (x_fa0 fa27_1 rfl) fun a hF => ?_
  refine s_grd 24 hF rfl rfl rfl ?_
  refine hF.v (x_load rfl (m_load flat3 (m5.cell (j := 1) rfl))) fun a hF => ?_
  refine s_grd 24 hF rfl rfl rfl ?_
  refine hF.v (x_move rfl) fun a hF => ?_
  refine s_grd 24 hF rfl rfl rfl ?_
  refine hF.v (gtrT (by omega) rfl rfl) fun a hF => ?_
  refine hF.v (x_pick (b := true) rfl rfl) fun a hF => ?_
  refine s_end (hK9 _ _ ?_)
  refine wp_if hF rfl ?_
  obtain ⟨n9, mm9, rfl⟩ := hx.var_of hk9.1
  have hn9 : x.n = n9 := hx.2.1
  have hri := hrng hk9.1
  unfold in64 at hri
  obtain ⟨c9, hc9, he9⟩ := hy9
  have hc9v : ∃ m, c9 = .var n9 m := by cases c9 <;> simp [nodeP, CT.ess] at he9; exact ⟨_, by rw [he9]⟩
  obtain ⟨mm8, rfl⟩ := hc9v
  have hyn9 : y9.n = n9 := hc9.2.1
  refine wp_region_lit ?_
  refine hF.v (x_fa0 fa27_1 rfl) fun a hF => ?_
  refine hF.v (x_load rfl (m_load flat3 (m9.cell (j := 1) rfl))) fun a hF => ?_
  refine hF.v (x_sub (by omega) (by omega) rfl rfl) fun a hF => ?_
  refine hF.v (x_fa0 fa27_1 rfl) fun a hF => ?_
  refine s_put hF rfl rfl flat3 m9 (by first | (simp; done) | (simp [tc, lc]; done) | decide) rfl fun w24 m9 o25 => ?_
  have so25 := o25.size
  have hQ := hQ.only o25 (by omega)
  have m8 := m8.only o25 (by omega)
  have hR := hR.only o25 (by omega)
  have hc9 := hc9.only o25 (by first | (intro h; have h2 := h.2; omega) | (intro h; rcases h.1 with h1 | h1; (have := hA _ h1; omega); (have := h.2; omega)) | (intro h; rcases h.1 with h1 | h1; (have := h1.2; omega); (have := h.2; omega)) | (intro h; rcases h.1 with h1 | h1; (exact hAS _ h1.1 rfl); (have := h.2; omega)) | (intro h; rcases h with h | h; (have := hA _ h; omega); omega) | (intro h; have := hA _ h; omega) | (intro h; rcases h with h | h; (have := h.2; omega); omega) | exact Ar.nbr | exact Ai.nbr | exact Ar.no (by omega) | exact Ai.no (by omega))
  refine s_end (hK8 _ _ ?_)
  have hG9 : Gp cv.ess (.var n9 mm9) d ps = .var (y9.n - 1) := by simp only [Gp]; rw [if_neg (by omega), if_pos (by omega), hyn9]
  have hz9 : RE w24 (fun k => ((AS A s k ∧ k < W.heap.size) ∨ w14.heap.size ≤ k) ∧ k < w16.heap.size) (Gp cv.ess (.var n9 mm9) d ps) ⟨y9.k, y9.n - 1, y9.s, y9.l, y9.ls, y9.ts⟩ := by rw [hG9]; exact ⟨.var (y9.n - 1) mm8, ⟨hc9.1, rfl, by unfold in64; omega, hc9.2.2.2.1, hc9.2.2.2.2⟩, rfl⟩
  have h1Y := hz9.one
  refine wp_rs fun K10 hK10 => ?_
  refine hF.v (x_ldW wide27 m9 rfl rfl) fun a hF => ?_
  refine s_putW hF rfl rfl (size_wide wide27) m8 rfl h1Y fun w28 m8 o29 => ?_
  have so29 := o29.size
  have hQ := hQ.only o29 (by omega)
  have hR := hR.only o29 (by omega)
  have hz9 := hz9.only o29 (by first | (intro h; have h2 := h.2; omega) | (intro h; rcases h.1 with h1 | h1; (have := hA _ h1; omega); (have := h.2; omega)) | (intro h; rcases h.1 with h1 | h1; (have := h1.2; omega); (have := h.2; omega)) | (intro h; rcases h.1 with h1 | h1; (exact hAS _ h1.1 rfl); (have := h.2; omega)) | (intro h; rcases h with h | h; (have := hA _ h; omega); omega) | (intro h; have := hA _ h; omega) | (intro h; rcases h with h | h; (have := h.2; omega); omega) | exact Ar.nbr | exact Ai.nbr | exact Ar.no (by omega) | exact Ai.no (by omega))
  refine s_end (hK10 _ _ ?_)
  refine wp_ret (res_cell hF rfl rfl m8 wide27 ⟨_, rfl, ⟨⟨_, rfl, hz9.mono (fun k hk => by rcases hk.1 with hk | hk; (· exact hk.1); exact .inr (by omega)), tt_var⟩, hR⟩, hQ⟩)
 ·
  have hri0 := hrng hk9.1
  unfold in64 at hri0
  refine wp_rs fun K11 hK11 => ?_
  refine hF.v (x_ldW wide27 m5 rfl rfl) fun a hF => ?_
  refine hF.v (x_move rfl) fun a hF => ?_
  have hiv : c.isV d = false := by rw [hV]; first | (rw [decide_eq_false (show ¬ x.n = d by omega), Bool.and_false]; done) | (rw [decide_eq_false (show ¬ x.k = 1 by omega), Bool.false_and]; done)
  refine s_callB [_, _] hF E98 rfl (by decide) ((isPlace121 c x _ d wl w4 hx).mono fun e w' h => ⟨by rw [h.1, hiv], h.2⟩) fun w30 a B31 hF => ?_
  have sB31 := B31.size
  have hK := hK.below B31
  have hQ := hQ.below B31
  have mp := mp.old B31
  have m5 := m5.old B31
  have m8 := m8.old B31
  have hR := hR.below B31
  refine s_end (hK11 _ _ ?_)
  refine wp_if hF rfl ?_
  refine wp_skip (hK2 _ _ ?_)
  refine wp_rs fun K12 hK12 => ?_
  refine hF.v (x_load rfl (m_load flat64 (mp.cell (j := 0) rfl))) fun a hF => ?_
  refine hF.v (x_ldW wide27 m5 rfl rfl) fun a hF => ?_
  refine hF.v (x_move rfl) fun a hF => ?_
  refine s_call (R := fun u w' => ((∃ y, u = tv y ∧ RE w' (fun k => (AS A s k ∧ k < W.heap.size) ∨ w30.heap.size ≤ k) (nodeP c ps) y ∧ y.ts = kv) ∧ Room w' br) ∧ Ktw br br w30 w') hF [_, _, _] E66 rfl (by decide) (node92 w30 br (by omega) (fun k => AS A s k ∧ k < W.heap.size) (fun k hk => ⟨hAS k hk.1, by have := hk.2; omega⟩) c x ((hx.keep hK.size (fun k hk hb => hK.block k hb (hA2 k hk))).mono (fun k hk => ⟨.inl hk, by have := hA k hk; omega⟩)) kv ps (hkv0.keep hQ.size (fun k hk hb => hQ.block k hb ⟨hAS k hk.1, hAS k hk.1⟩)) hlen hR) ?_
  rintro _ w32 a ⟨⟨⟨y9, rfl, hy9, ht9⟩, hR⟩, k33⟩ hF
  have sk33 := k33.size
  have hQ := hQ.trans k33 (by omega)
  have m5 := m5.k2 k33 (by omega)
  have m8 := m8.k2 k33 (by omega)
  have hy9 := hy9.valid
  have hT9 : Tt c y9 := tt_of hlen hkv0 ht9
  clear ht9
  refine s_alloc hF (by decide) zero27 fun w34 b9 a eb9 m9 B35 zb9 hF => ?_
  have sB35 := B35.size
  have hQ := hQ.below B35
  have m5 := m5.old B35
  have m8 := m8.old B35
  have hR := hR.below B35
  have hy9 := hy9.below B35
  refine s_putW hF rfl rfl (size_wide wide27) m9 rfl hy9.one fun w38 m9 o39 => ?_
  have so39 := o39.size
  have hQ := hQ.only o39 (by omega)
  have m5 := m5.only o39 (by omega)
  have m8 := m8.only o39 (by omega)
  have hR := hR.only o39 (by omega)
  have hy9 := hy9.only o39 (by first | (intro h; have h2 := h.2; omega) | (intro h; rcases h.1 with h1 | h1; (have := hA _ h1; omega); (have := h.2; omega)) | (intro h; rcases h.1 with h1 | h1; (have := h1.2; omega); (have := h.2; omega)) | (intro h; rcases h.1 with h1 | h1; (exact hAS _ h1.1 rfl); (have := h.2; omega)) | (intro h; rcases h with h | h; (have := hA _ h; omega); omega) | (intro h; have := hA _ h; omega) | (intro h; rcases h with h | h; (have := h.2; omega); omega) | exact Ar.nbr | exact Ai.nbr | exact Ar.no (by omega) | exact Ai.no (by omega))
  refine s_end (hK12 _ _ ?_)
  refine wp_seq_k fun K13 hK13 => ?_
  refine wp_rs fun K14 hK14 => ?_
  refine hF.v (x_fa0 fa27_0 rfl) fun a hF => ?_
  refine hF.v (x_load rfl (m_load flat3 (m5.cell (j := 0) rfl))) fun a hF => ?_
  refine hF.v (eqlT (by omega) rfl rfl) fun a hF => ?_
  refine hF.v (x_move rfl) fun a hF => ?_
  refine s_grd 24 hF rfl rfl rfl ?_
  refine hF.v (x_fa0 fa27_1 rfl) fun a hF => ?_
  refine s_grd 24 hF rfl rfl rfl ?_
  refine hF.v (x_load rfl (m_load flat3 (m5.cell (j := 1) rfl))) fun a hF => ?_
  refine s_grd 24 hF rfl rfl rfl ?_
  refine hF.v (x_move rfl) fun a hF => ?_
  refine s_grd 24 hF rfl rfl rfl ?_
  refine hF.v (gtrF (by omega) rfl rfl) fun a hF => ?_
  refine hF.v (x_pick (b := true) rfl rfl) fun a hF => ?_
  refine s_end (hK14 _ _ ?_)
  refine wp_if hF rfl ?_
  refine wp_skip (hK13 _ _ ?_)
  have h1Y := hy9.one
  refine wp_rs fun K15 hK15 => ?_
  refine hF.v (x_ldW wide27 m9 rfl rfl) fun a hF => ?_
  refine s_putW hF rfl rfl (size_wide wide27) m8 rfl h1Y fun w42 m8 o43 => ?_
  have so43 := o43.size
  have hQ := hQ.only o43 (by omega)
  have hR := hR.only o43 (by omega)
  have hy9 := hy9.only o43 (by first | (intro h; have h2 := h.2; omega) | (intro h; rcases h.1 with h1 | h1; (have := hA _ h1; omega); (have := h.2; omega)) | (intro h; rcases h.1 with h1 | h1; (have := h1.2; omega); (have := h.2; omega)) | (intro h; rcases h.1 with h1 | h1; (exact hAS _ h1.1 rfl); (have := h.2; omega)) | (intro h; rcases h with h | h; (have := hA _ h; omega); omega) | (intro h; have := hA _ h; omega) | (intro h; rcases h with h | h; (have := h.2; omega); omega) | exact Ar.nbr | exact Ai.nbr | exact Ar.no (by omega) | exact Ai.no (by omega))
  refine s_end (hK15 _ _ ?_)
  refine wp_ret (res_cell hF rfl rfl m8 wide27 ⟨_, rfl, ⟨⟨y9, rfl, by rw [hres (by omega)]; exact hy9.mono (fun k hk => by rcases hk.1 with hk | hk; (· exact hk.1); exact .inr (by omega)), hT9⟩, hR⟩, hQ⟩)
 ·
  skip
  refine wp_rs fun K16 hK16 => ?_
  refine hF.v (x_ldW wide27 m5 rfl rfl) fun a hF => ?_
  refine hF.v (x_move rfl) fun a hF => ?_
  have hiv : c.isV d = false := by rw [hV]; first | (rw [decide_eq_false (show ¬ x.n = d by omega), Bool.and_false]; done) | (rw [decide_eq_false (show ¬ x.k = 1 by omega), Bool.false_and]; done)
  refine s_callB [_, _] hF E98 rfl (by decide) ((isPlace121 c x _ d wl w4 hx).mono fun e w' h => ⟨by rw [h.1, hiv], h.2⟩) fun w44 a B45 hF => ?_
  have sB45 := B45.size
  have hK := hK.below B45
  have hQ := hQ.below B45
  have mp := mp.old B45
  have m5 := m5.old B45
  have m8 := m8.old B45
  have hR := hR.below B45
  refine s_end (hK16 _ _ ?_)
  refine wp_if hF rfl ?_
  refine wp_skip (hK2 _ _ ?_)
  refine wp_rs fun K17 hK17 => ?_
  refine hF.v (x_load rfl (m_load flat64 (mp.cell (j := 0) rfl))) fun a hF => ?_
  refine hF.v (x_ldW wide27 m5 rfl rfl) fun a hF => ?_
  refine hF.v (x_move rfl) fun a hF => ?_
  refine s_call (R := fun u w' => ((∃ y, u = tv y ∧ RE w' (fun k => (AS A s k ∧ k < W.heap.size) ∨ w44.heap.size ≤ k) (nodeP c ps) y ∧ y.ts = kv) ∧ Room w' br) ∧ Ktw br br w44 w') hF [_, _, _] E66 rfl (by decide) (node92 w44 br (by omega) (fun k => AS A s k ∧ k < W.heap.size) (fun k hk => ⟨hAS k hk.1, by have := hk.2; omega⟩) c x ((hx.keep hK.size (fun k hk hb => hK.block k hb (hA2 k hk))).mono (fun k hk => ⟨.inl hk, by have := hA k hk; omega⟩)) kv ps (hkv0.keep hQ.size (fun k hk hb => hQ.block k hb ⟨hAS k hk.1, hAS k hk.1⟩)) hlen hR) ?_
  rintro _ w46 a ⟨⟨⟨y9, rfl, hy9, ht9⟩, hR⟩, k47⟩ hF
  have sk47 := k47.size
  have hQ := hQ.trans k47 (by omega)
  have m5 := m5.k2 k47 (by omega)
  have m8 := m8.k2 k47 (by omega)
  have hy9 := hy9.valid
  have hT9 : Tt c y9 := tt_of hlen hkv0 ht9
  clear ht9
  refine s_alloc hF (by decide) zero27 fun w48 b9 a eb9 m9 B49 zb9 hF => ?_
  have sB49 := B49.size
  have hQ := hQ.below B49
  have m5 := m5.old B49
  have m8 := m8.old B49
  have hR := hR.below B49
  have hy9 := hy9.below B49
  refine s_putW hF rfl rfl (size_wide wide27) m9 rfl hy9.one fun w52 m9 o53 => ?_
  have so53 := o53.size
  have hQ := hQ.only o53 (by omega)
  have m5 := m5.only o53 (by omega)
  have m8 := m8.only o53 (by omega)
  have hR := hR.only o53 (by omega)
  have hy9 := hy9.only o53 (by first | (intro h; have h2 := h.2; omega) | (intro h; rcases h.1 with h1 | h1; (have := hA _ h1; omega); (have := h.2; omega)) | (intro h; rcases h.1 with h1 | h1; (have := h1.2; omega); (have := h.2; omega)) | (intro h; rcases h.1 with h1 | h1; (exact hAS _ h1.1 rfl); (have := h.2; omega)) | (intro h; rcases h with h | h; (have := hA _ h; omega); omega) | (intro h; have := hA _ h; omega) | (intro h; rcases h with h | h; (have := h.2; omega); omega) | exact Ar.nbr | exact Ai.nbr | exact Ar.no (by omega) | exact Ai.no (by omega))
  refine s_end (hK17 _ _ ?_)
  refine wp_seq_k fun K18 hK18 => ?_
  refine wp_rs fun K19 hK19 => ?_
  refine hF.v (x_fa0 fa27_0 rfl) fun a hF => ?_
  refine hF.v (x_load rfl (m_load flat3 (m5.cell (j := 0) rfl))) fun a hF => ?_
  refine hF.v (eqlF (by omega) rfl rfl) fun a hF => ?_
  refine hF.v (x_move rfl) fun a hF => ?_
  refine s_grdn 24 hF rfl rfl (by decide) fun a hF => ?_
  refine s_grdn 24 hF rfl rfl (by decide) fun a hF => ?_
  refine s_grdn 24 hF rfl rfl (by decide) fun a hF => ?_
  refine s_grdn 24 hF rfl rfl (by decide) fun a hF => ?_
  refine hF.v (x_pick (b := false) rfl rfl) fun a hF => ?_
  refine s_end (hK19 _ _ ?_)
  refine wp_if hF rfl ?_
  refine wp_skip (hK18 _ _ ?_)
  have h1Y := hy9.one
  refine wp_rs fun K20 hK20 => ?_
  refine hF.v (x_ldW wide27 m9 rfl rfl) fun a hF => ?_
  refine s_putW hF rfl rfl (size_wide wide27) m8 rfl h1Y fun w56 m8 o57 => ?_
  have so57 := o57.size
  have hQ := hQ.only o57 (by omega)
  have hR := hR.only o57 (by omega)
  have hy9 := hy9.only o57 (by first | (intro h; have h2 := h.2; omega) | (intro h; rcases h.1 with h1 | h1; (have := hA _ h1; omega); (have := h.2; omega)) | (intro h; rcases h.1 with h1 | h1; (have := h1.2; omega); (have := h.2; omega)) | (intro h; rcases h.1 with h1 | h1; (exact hAS _ h1.1 rfl); (have := h.2; omega)) | (intro h; rcases h with h | h; (have := hA _ h; omega); omega) | (intro h; have := hA _ h; omega) | (intro h; rcases h with h | h; (have := h.2; omega); omega) | exact Ar.nbr | exact Ai.nbr | exact Ar.no (by omega) | exact Ai.no (by omega))
  refine s_end (hK20 _ _ ?_)
  refine wp_ret (res_cell hF rfl rfl m8 wide27 ⟨_, rfl, ⟨⟨y9, rfl, by rw [hres (by omega)]; exact hy9.mono (fun k hk => by rcases hk.1 with hk | hk; (· exact hk.1); exact .inr (by omega)), hT9⟩, hR⟩, hQ⟩)

set_option maxRecDepth 100000 in
set_option maxHeartbeats 1600000 in
theorem put85 (W : World) (br : Nat) (hbr : br < W.heap.size) (A : Nat → Prop) (hA : ∀ k, A k → k ≠ br ∧ k < W.heap.size) (c : CT) (x : C8) (hx : RC W A c x) (cv : CT) (xv : C8) (hv : RC W A cv xv) (hvd : (cv.dep : Int) ≤ 4611686018427387904) (hdp : (c.dep : Int) ≤ 4611686018427387904) (hR : Room W br) : Calls Try.prog 59 #[.pointer (some ⟨br, 0, none⟩), tv x, tv xv] W fun e w' => ∃ u, e = .returned u ∧ ((∃ y, u = tv y ∧ RE w' (AS A W.heap.size) (PT.put cv.ess c.ess 0) y ∧ Tt c y) ∧ Room w' br) ∧ Ktw br br W w' := by
 have hQ := Ktw.refl br br W
 have sQ := hQ.size
 have hA2 : ∀ k, A k → k ≠ br ∧ k ≠ br := fun k hk => ⟨(hA k hk).1, (hA k hk).1⟩
 refine calls_fs 10 [(0, .pointer (some ⟨br, 0, none⟩)), (1, tv x), (2, tv xv)] Try.func59 rfl rfl rfl rfl rfl fun a hF => ?_
 refine wp_rs fun K1 hK1 => ?_
 refine s_box ([.pointer (some ⟨br, 0, none⟩)]) hF (by decide) rfl rfl fun w2 b3 a eb3 m3 B3 zb3 hF => ?_
 have sB3 := B3.size
 have hQ := hQ.below B3
 have hR := hR.below B3
 refine s_box (tc x) hF (by decide) rfl rfl fun w4 b4 a eb4 m4 B5 zb4 hF => ?_
 have sB5 := B5.size
 have hQ := hQ.below B5
 have m3 := m3.old B5
 have hR := hR.below B5
 refine s_box (tc xv) hF (by decide) rfl rfl fun w6 b5 a eb5 m5 B7 zb5 hF => ?_
 have sB7 := B7.size
 have hQ := hQ.below B7
 have m3 := m3.old B7
 have m4 := m4.old B7
 have hR := hR.below B7
 refine s_alloc hF (by decide) zero27 fun w8 b6 a eb6 m6 B9 zb6 hF => ?_
 have sB9 := B9.size
 have hQ := hQ.below B9
 have m3 := m3.old B9
 have m4 := m4.old B9
 have m5 := m5.old B9
 have hR := hR.below B9
 refine s_end (hK1 _ _ ?_)
 refine wp_rs fun K2 hK2 => ?_
 refine hF.v (x_ldW wide27 m4 rfl rfl) fun a hF => ?_
 refine hF.v (x_mkf [_, _] rfl) fun a hF => ?_
 have hx9 := hx.keep hQ.size (fun k hk hb => hQ.block k hb (hA2 k hk))
 have hA9 : ∀ k, A k → k ≠ br ∧ k < w8.heap.size := fun k hk => ⟨(hA k hk).1, by have := (hA k hk).2; omega⟩
 refine s_call (R := fun u w' => ((∃ y, u = tv y ∧ RE w' (AS A w8.heap.size) (c.fold (Gp cv.ess) 0) y ∧ Tt c y) ∧ Room w' br) ∧ Ktw br br w8 w') hF [_, _, _] E62 rfl (by decide) (fold88 w8 br (by omega) A hA9 99 [.pointer (some ⟨b3, 0, none⟩), .pointer (some ⟨b5, 0, none⟩)] E99 4611686018427387904 (by decide) (Gp cv.ess) (fun _ => True) (fun _ _ _ _ _ => trivial) (fun W c x d kv ps s h1 h2 h3 h4 h5 h6 h7 h8 h9 _ => clo122 w8 br (by omega) A hA9 cv xv (hv.keep hQ.size (fun k hk hb => hQ.block k hb (hA2 k hk))) hvd b3 b5 m3 m5 (by omega) 4611686018427387904 (by decide) W c x d kv ps s h1 h2 h3 h4 h5 h6 h7 h8 h9) (c.size + 1) c x 0 w8 (by omega) hx9 trivial (by decide) (by omega) (Ktw.refl br br _) hR) ?_
 rintro _ w10 a ⟨⟨⟨y9, rfl, hy9, hT9⟩, hR⟩, k11⟩ hF
 have sk11 := k11.size
 have hQ := hQ.trans k11 (by omega)
 have m6 := m6.k2 k11 (by omega)
 refine s_putW hF rfl rfl (size_wide wide27) m6 rfl hy9.one fun w14 m6 o15 => ?_
 have so15 := o15.size
 have hQ := hQ.only o15 (by omega)
 have hR := hR.only o15 (by omega)
 have hy9 := hy9.only o15 (by first | (intro h; have h2 := h.2; omega) | (intro h; rcases h.1 with h1 | h1; (have := hA _ h1; omega); (have := h.2; omega)) | (intro h; rcases h.1 with h1 | h1; (have := h1.2; omega); (have := h.2; omega)) | (intro h; rcases h.1 with h1 | h1; (exact hAS _ h1.1 rfl); (have := h.2; omega)) | (intro h; rcases h with h | h; (have := hA _ h; omega); omega) | (intro h; have := hA _ h; omega) | (intro h; rcases h with h | h; (have := h.2; omega); omega) | exact Ar.nbr | exact Ai.nbr | exact Ar.no (by omega) | exact Ai.no (by omega))
 refine s_end (hK2 _ _ ?_)
 rw [fold_put'] at hy9
 refine wp_ret (res_cell hF rfl rfl m6 wide27 ⟨_, rfl, ⟨⟨y9, rfl, hy9.mono (AS.mono (by omega)), hT9⟩, hR⟩, hQ⟩)
end Go.Proofs.Ytbhhbfdoadecgaa

namespace Go.Proofs.Ytbhhbfdoadecgaa
open Go.RowKit Go.Shelf
set_option linter.unusedVariables false
set_option linter.unusedSimpArgs false

theorem Room.k2 {W W' : World} {br a b : Nat} (h : Room W br) (hK : Ktw a b W W') (hb : br ≠ a ∧ br ≠ b) : Room W' br := let ⟨r, h1, h2⟩ := h; ⟨r, h1.k2 hK hb, h2⟩
/-- Terms, one behind the other. -/
def QT (W : World) (A : Nat → Prop) (zs : List C8) (ps : List PT) : Prop := zs.length = ps.length ∧ ∀ (j : Nat) z p, zs[j]? = some z → ps[j]? = some p → RE W A p z
section
variable {W W' : World} {A B : Nat → Prop} {zs : List C8} {ps : List PT}
theorem QT.nil : QT W A [] [] := ⟨rfl, fun j z p h => by simp at h⟩
theorem QT.mono (h : QT W A zs ps) (hm : ∀ k, A k → B k) : QT W B zs ps := ⟨h.1, fun j z p h1 h2 => (h.2 j z p h1 h2).mono hm⟩
theorem QT.keep (h : QT W A zs ps) (hs : W.heap.size ≤ W'.heap.size) (hk : ∀ k, A k → k < W.heap.size → W'.heap[k]? = W.heap[k]?) : QT W' A zs ps := ⟨h.1, fun j z p h1 h2 => RE.keep hs hk (h.2 j z p h1 h2)⟩
theorem QT.below (h : QT W A zs ps) (hB : Below W.heap.size W W') : QT W' A zs ps := h.keep hB.size fun k _ hk => hB.block k hk
theorem QT.only {c : Nat} (h : QT W A zs ps) (o : Only c W W') (hc : ∀ k, A k → k ≠ c) : QT W' A zs ps := h.keep (Nat.le_of_eq o.size.symm) fun k ha _ => o.block k (hc k ha)
theorem QT.k2 {a b : Nat} (h : QT W A zs ps) (hK : Ktw a b W W') (hc : ∀ k, A k → k ≠ a ∧ k ≠ b) : QT W' A zs ps := h.keep hK.size fun k ha hk => hK.block k hk (hc k ha)
theorem QT.snoc {z : C8} {p : PT} (h : QT W A zs ps) (hz : RE W A p z) : QT W A (zs ++ [z]) (ps ++ [p]) := by
 refine ⟨by simp [h.1], fun j y q e1 e2 => ?_⟩
 rcases Nat.lt_trichotomy j zs.length with hj | hj | hj
 ·
  rw [List.getElem?_append_left hj] at e1
  rw [List.getElem?_append_left (by have := h.1; omega)] at e2
  exact h.2 j y q e1 e2
 ·
  subst hj
  rw [List.getElem?_append_right (Nat.le_refl _)] at e1
  rw [h.1, List.getElem?_append_right (Nat.le_refl _)] at e2
  simp at e1 e2
  subst e1 e2
  exact hz
 ·
  rw [List.getElem?_eq_none (by simp; omega)] at e1
  cases e1
theorem QT.rke {v : Value} (h : QT W A zs ps) (hR : Rd W v 8 zs.length (zs.flatMap tc)) (hA : ∀ j, v.ownBlock = some j → A j) : RKE W A v ps := ⟨zs, ⟨hR, fun _ j hj => hA j hj⟩, h.1, h.2⟩
end
theorem fm8_app (xs : List C8) (y : C8) : (xs ++ [y]).flatMap tc = xs.flatMap tc ++ tc y := by simp
/-- RE, by another name. -/
def REx (W : World) (A : Nat → Prop) (p : PT) (x : C8) : Prop := RE W A p x
section
variable {W W' : World} {A B : Nat → Prop} {p : PT} {x : C8}
theorem REx.below (h : REx W A p x) (hB : Below W.heap.size W W') : REx W' A p x := RE.below h hB
theorem REx.only {c : Nat} (h : REx W A p x) (o : Only c W W') (hc : ∀ k, A k → k ≠ c) : REx W' A p x := RE.only h o (fun ha => hc c ha rfl)
theorem REx.k2 {a b : Nat} (h : REx W A p x) (hK : Ktw a b W W') (hc : ∀ k, A k → k ≠ a ∧ k ≠ b) : REx W' A p x := RE.k2 h hK (fun ha => (hc a ha).1 rfl) (fun hb => (hc b hb).2 rfl)
end

set_option maxRecDepth 100000 in
set_option maxHeartbeats 400000 in
theorem joined60 (W : World) (br : Nat) (hbr : br < W.heap.size) (A : Nat → Prop) (hA : ∀ k, A k → k ≠ br ∧ k < W.heap.size) (kd : Int) (cs : List CT) (v : Value) (hV : RK W A v cs) (hlen : cs.length ≤ 1000000) (hR : Room W br) :
  Calls Try.prog 46 #[.pointer (some ⟨br, 0, none⟩), .int .i64 kd, v] W fun e w' => ∃ u, e = .returned u ∧ ((∃ v', u = tv ⟨kd, 0, emptyB, (0, 0, nilS), nilS, v'⟩ ∧ RKE w' (AS A W.heap.size) v' (cs.map CT.ess)) ∧ Room w' br) ∧ Ktw br br W w' := by
 have hK := Ktw.refl br br W
 have sK := hK.size
 have hA2 : ∀ k, A k → k ≠ br ∧ k ≠ br := fun k hk => ⟨(hA k hk).1, (hA k hk).1⟩
 obtain ⟨av, cv, hve, _⟩ := hV.form
 subst hve
 refine calls_fs 26 [(0, .pointer (some ⟨br, 0, none⟩)), (1, .int .i64 kd), (2, .slice av cs.length cv)] Try.func46 rfl rfl rfl rfl rfl fun a hF => ?_
 refine wp_rs fun K1 hK1 => ?_
 refine s_alloc hF (by decide) zero27 fun w2 b6 a eb6 m6 B3 zb6 hF => ?_
 have sB3 := B3.size
 have hK := hK.below B3
 have hR := hR.below B3
 refine s_end (hK1 _ _ ?_)
 refine wp_rs fun K2 hK2 => ?_
 refine hF.v (x_assign rfl) fun a hF => ?_
 refine s_end (hK2 _ _ ?_)
 refine wp_seq_k fun K3 hK3 => ?_
 refine wp_rs fun K4 hK4 => ?_
 refine hF.v (x_move rfl) fun a hF => ?_
 refine hF.v (x_len Try.underlying25 rfl) fun a hF => ?_
 refine hF.v (x_move rfl) fun a hF => ?_
 refine s_end (hK4 _ _ ?_)
 refine wp_block ?_
 refine wp_up cs.length (fun i a w => ∃ v' o' zs, w.ownsRow W.heap.size 27 8 v' zs.length (zs.flatMap tc) ∧ (∀ j, v'.ownBlock = some j → j = o') ∧ v'.ownBlock ≠ some b6 ∧ ((o' = b6 ∨ b6 < o') ∧ o' < w.heap.size) ∧ QT w (fun k => ((k < W.heap.size ∧ k ≠ br ∧ A k) ∨ b6 < k) ∧ k ≠ o' ∧ k < w.heap.size) zs ((cs.map CT.ess).take i) ∧ Room w br ∧ Blk w b6 27 z8 ∧ Ktw br br W w ∧ Fs 26 a [(0, .pointer (some ⟨br, 0, none⟩)), (1, .int .i64 kd), (6, .pointer (some ⟨b6, 0, none⟩)), (7, v'), (10, .slice av cs.length cv), (11, .int .i64 (cs.length : Int)), (12, .int .i64 (i : Int))]) ⟨_, b6, [], World.ownsRow_nil _ _ _ _, (fun j h => by cases h), (fun h => by cases h), by have := m6.lt; omega, by rw [List.take_zero]; exact QT.nil, hR, m6, hK, hF.sub _ rfl⟩ ?_
 have hb6 : W.heap.size ≤ b6 := by omega
 repeat clear hF
 clear hK hR m6
 rintro i a w hi ⟨vv, o2, zs, hO, hat, hne, hlo, hP, hR, m6, hK, hF⟩ K' hK'
 have sK := hK.size
 have hb6l := m6.lt
 obtain ⟨top, htop⟩ : ∃ h, h = w.heap.size := ⟨_, rfl⟩
 rw [← htop] at hP
 have hPl := hP.1
 rw [List.length_take, List.length_map] at hPl
 have h1vv := (Rd.own hO).one
 refine wp_rs fun K5 hK5 => ?_
 refine hF.v (x_lss (b := decide (i < cs.length)) (decide_eq_decide.2 (by omega)) rfl rfl) fun a hF => ?_
 refine s_end (hK5 _ _ ?_)
 refine wp_seq_k fun K6 hK6 => ?_
 refine wp_iff hF rfl (fun hc13 => ?_) (fun hc13 => ?_)
 ·
  obtain ⟨b9, off9, c9, y, p, hve, hp, hry, hAb, hbl, hrow⟩ := hV.row (i := i) (by omega)
  cases hve
  have hAb2 := hA _ hAb
  refine wp_skip (hK6 _ _ ?_)
  refine wp_seq_k fun K7 hK7 => ?_
  refine wp_block ?_
  refine wp_rs fun K8 hK8 => ?_
  refine hF.v (x_ixa rfl rfl (m_ixsK i Try.underlying25 el25.size rfl (by omega))) fun a hF => ?_
  refine hF.v (x_ldA wide27 (hrow _ (hK.block _ hbl ⟨hAb2.1, hAb2.1⟩)) rfl rfl) fun a hF => ?_
  refine s_alloc hF (by decide) zero27 fun w4 b9 a eb9 m9 B5 zb9 hF => ?_
  have sB5 := B5.size
  have hK := hK.below B5
  have m6 := m6.old B5
  have hO := own_below hO B5
  have hP := hP.below B5
  have hR := hR.below B5
  refine s_putW hF rfl rfl (size_wide wide27) m9 rfl hry.one fun w8 m9 o9 => ?_
  have so9 := o9.size
  have hK := hK.only o9 (by omega)
  have m6 := m6.only o9 (by omega)
  have hO := own_only hO o9 (fun e => by have := hat _ e; omega)
  have hP := hP.only o9 (fun k (hk : ((k < W.heap.size ∧ k ≠ br ∧ A k) ∨ b6 < k) ∧ k ≠ o2 ∧ k < top) => by omega)
  have hR := hR.only o9 (by omega)
  refine s_end (hK8 _ _ ?_)
  refine wp_region_lit ?_
  refine hF.v (x_move rfl) fun a hF => ?_
  refine hF.v (x_move rfl) fun a hF => ?_
  refine hF.v (x_ldW wide27 m9 rfl rfl) fun a hF => ?_
  refine s_call (R := fun u w' => ((∃ z, u = tv z ∧ REx w' (AS A w8.heap.size) p.ess z) ∧ Room w' br) ∧ Ktw br br w8 w') hF [_, _] E43 rfl (by decide) (owned57 w8 br (by omega) A (fun k hk => ⟨(hA k hk).1, by have := (hA k hk).2; omega⟩) p y (hry.keep hK.size (fun k hk hb => hK.block k hb (hA2 k hk))) hR) ?_
  rintro _ w10 a ⟨⟨⟨z, rfl, hz0⟩, hR⟩, k11⟩ hF
  have sk11 := k11.size
  have hK := hK.trans k11 (by omega)
  have m6 := m6.k2 k11 (by omega)
  have hO := own_k2 hO k11 (fun c hc => by have := hat c hc; omega)
  have hP := hP.k2 k11 (fun k (hk : ((k < W.heap.size ∧ k ≠ br ∧ A k) ∨ b6 < k) ∧ k ≠ o2 ∧ k < top) => by omega)
  have hz := RE.valid hz0
  clear hz0
  have hz : REx w10 (fun k => ((k < W.heap.size ∧ k ≠ br ∧ A k) ∨ w8.heap.size ≤ k) ∧ k < w10.heap.size) p.ess z := hz.mono (fun k hk => ⟨hk.1.elim (fun h => .inl ⟨(hA k h).2, (hA k h).1, h⟩) .inr, hk.2⟩)
  have h1z := RE.one hz
  refine s_litG [tv z] el25 hF (by decide) rfl (by simp [Value.cells, tc]) rfl (by decide) (by decide) fun w12 bl a ebl ml B13 zbl hF => ?_
  have sB13 := B13.size
  have hK := hK.below B13
  have m6 := m6.old B13
  have hO := own_below hO B13
  have hP := hP.below B13
  have hz := hz.below B13
  have hR := hR.below B13
  have ml : Blk w12 bl 27 (tc z) := by simpa [Value.cells] using ml
  refine s_appL (o := o2) el25 hF (by decide) rfl rfl hO ml rfl h1z hat (by omega) (by omega) (by decide) (by omega) fun v3 w14 a o3 hOn hOatn how hsrc k15 hkeep hF => ?_
  have sk15 := k15.size
  have hK := hK.trans k15 (by omega)
  have m6 : Blk w14 b6 _ _ := (hkeep _ m6.lt hne).trans m6
  have hP := hP.k2 k15 (fun k (hk : ((k < W.heap.size ∧ k ≠ br ∧ A k) ∨ b6 < k) ∧ k ≠ o2 ∧ k < top) => by omega)
  have hz := hz.k2 k15 (fun k (hk : ((k < W.heap.size ∧ k ≠ br ∧ A k) ∨ w8.heap.size ≤ k) ∧ k < w10.heap.size) => by omega)
  have hO := hOn
  have hO_at := hOatn
  have hneg : v3.ownBlock ≠ some b6 := fun h => by rcases hsrc b6 h with h | h; exact hne h; omega
  have hR := hR.k2 k15 (by omega)
  refine hF.v (x_assign rfl) fun a hF => ?_
  refine s_end (hK7 _ _ ?_)
  refine wp_region_lit ?_
  refine hF.v (x_addn (i + 1) (by omega) (by omega) rfl rfl) fun a hF => ?_
  refine hF.v (x_move rfl) fun a hF => ?_
  have hL2 : (cs.map CT.ess).take (i + 1) = (cs.map CT.ess).take i ++ [p.ess] := take_snoc (by rw [List.getElem?_map, hp]; rfl)
  refine s_end (hK' _ _ (by omega) ⟨v3, o3, zs ++ [z], by rw [fm8_app]; simpa using hO, hO_at, hneg, by omega, by rw [hL2]; exact (hP.mono (fun k (hk : ((k < W.heap.size ∧ k ≠ br ∧ A k) ∨ b6 < k) ∧ k ≠ o2 ∧ k < top) => ⟨hk.1, by omega, by omega⟩)).snoc (RE.mono (fun k (hk : ((k < W.heap.size ∧ k ≠ br ∧ A k) ∨ w8.heap.size ≤ k) ∧ k < w10.heap.size) => ⟨hk.1.elim .inl (fun h => .inr (by omega)), by omega, by omega⟩) hz), hR, m6, hK, hF.sub _ rfl⟩)
 ·
  obtain rfl : i = cs.length := by omega
  rw [List.take_of_length_le (by rw [List.length_map]; exact Nat.le_refl _)] at hP
  obtain ⟨avv, nvv, cvv, hvv⟩ : ∃ a n c, vv = .slice a n c := by obtain ⟨a, c, h, _⟩ := (Rd.own hO).form; exact ⟨a, _, c, h⟩
  subst hvv
  refine wp_exit (hK3 _ _ ?_)
  refine wp_rs fun K9 hK9 => ?_
  refine hF.v (x_move rfl) fun a hF => ?_
  refine hF.v (x_move rfl) fun a hF => ?_
  refine hF.v (x_build (vs := [(0, _), (5, _)]) rfl (b27_05 _ _ _ _ _)) fun a hF => ?_
  refine s_putW hF rfl rfl (size_wide wide27) m6 rfl (one_tc0 _ _ _ _ h1vv) fun w18 m6 o19 => ?_
  have so19 := o19.size
  have hK := hK.only o19 (by omega)
  have hO := own_only hO o19 (hne)
  have hP := hP.only o19 (fun k (hk : ((k < W.heap.size ∧ k ≠ br ∧ A k) ∨ b6 < k) ∧ k ≠ o2 ∧ k < top) => by omega)
  have hR := hR.only o19 (by omega)
  refine s_end (hK9 _ _ ?_)
  refine wp_ret (res_cell hF rfl rfl m6 wide27 ⟨_, rfl, ⟨⟨_, rfl, (hP.mono (B := AS A W.heap.size) (fun k hk => hk.1.elim (fun h => .inl h.2.2) (fun h => .inr (by omega)))).rke (Rd.own hO) (fun j h => .inr (hO.lt j h).1)⟩, hR⟩, hK⟩)

def plc (o p : Int × Int) : Int × Int := (o.1 + p.1, if 0 < p.1 then max o.2 (p.2 + 1) else o.2)
def Gpl (c : CT) (d : Int) (ps : List (Int × Int)) : Int × Int := if c.isV d then (1, 1) else ps.foldl plc (0, 0)
theorem foldl_plc : ∀ (ps : List (Int × Int)) (o : Int × Int) (M D : Int), 0 ≤ o.1 → 0 ≤ o.2 → o.2 ≤ D + 1 → (∀ p ∈ ps, 0 ≤ p.1 ∧ 0 ≤ p.2 ∧ p.2 ≤ D) → 0 ≤ (ps.foldl plc o).1 ∧ (ps.foldl plc o).1 = o.1 + (ps.map (·.1)).sum ∧ 0 ≤ (ps.foldl plc o).2 ∧ (ps.foldl plc o).2 ≤ D + 1
 | [], o, M, D, h1, h2, h3, _ => by simp; omega
 | p :: ps, o, M, D, h1, h2, h3, h => by
  have hp := h p (by simp)
  have := foldl_plc ps (plc o p) M D (by simp only [plc]; omega) (by simp only [plc]; split <;> omega) (by simp only [plc]; split <;> omega) (fun q hq => h q (by simp [hq]))
  simp only [List.foldl_cons, List.map_cons, List.sum_cons]
  simp only [plc] at this ⊢
  omega
theorem Gpl_rng : ∀ (c : CT) (d : Int), 0 ≤ (c.fold Gpl d).1 ∧ (c.fold Gpl d).1 ≤ c.size ∧ 0 ≤ (c.fold Gpl d).2 ∧ (c.fold Gpl d).2 ≤ c.dep
 | .two k a b m, d => by
  have ha := Gpl_rng a (d + (CT.two k a b m).bnd 0)
  have hb := Gpl_rng b (d + (CT.two k a b m).bnd 1)
  simp only [CT.fold, Gpl, CT.isV, CT.size, CT.dep, List.foldl_cons, List.foldl_nil, plc]
  refine ⟨by simp; omega, by simp; omega, ?_, ?_⟩
  ·
   simp only [Bool.false_eq_true, if_false]; split <;> split <;> omega
  ·
   simp only [Bool.false_eq_true, if_false]; split <;> split <;> omega
 | .lt a b c m, d => by
  have ha := Gpl_rng a (d + (CT.lt a b c m).bnd 0)
  have hb := Gpl_rng b (d + (CT.lt a b c m).bnd 1)
  have hc := Gpl_rng c (d + (CT.lt a b c m).bnd 2)
  simp only [CT.fold, Gpl, CT.isV, CT.size, CT.dep, List.foldl_cons, List.foldl_nil, plc]
  refine ⟨by simp; omega, by simp; omega, ?_, ?_⟩
  ·
   simp only [Bool.false_eq_true, if_false]; split <;> split <;> split <;> omega
  ·
   simp only [Bool.false_eq_true, if_false]; split <;> split <;> split <;> omega
 | .var n m, d => by simp only [CT.fold, Gpl, CT.size, CT.dep]; split <;> simp
 | .sort n m, d => by simp [CT.fold, Gpl, CT.isV, CT.size, CT.dep]
 | .cst s n m, d => by simp [CT.fold, Gpl, CT.isV, CT.size, CT.dep]
 | .odd n m, d => by simp [CT.fold, Gpl, CT.isV, CT.size, CT.dep]
theorem Gpl_kids {c : CT} {d : Int} {p : Int × Int} (h : p ∈ c.folds Gpl d) : 0 ≤ p.1 ∧ p.1 ≤ c.size ∧ 0 ≤ p.2 ∧ p.2 ≤ c.dep := by
 obtain ⟨i, hi, he⟩ := List.getElem_of_mem h
 have hi' : i < c.kids.length := by rw [CT.folds_len] at hi; exact hi
 have h1 := CT.folds_get Gpl (c := c) (d := d) (List.getElem?_eq_getElem hi')
 rw [List.getElem?_eq_getElem hi, he] at h1
 cases h1
 have h2 := Gpl_rng c.kids[i] (d + c.bnd i)
 have h3 := CT.kid_size (List.getElem?_eq_getElem hi')
 omega
theorem plc_take {c : CT} {d : Int} (i : Nat) : 0 ≤ (((c.folds Gpl d).take i).foldl plc (0, 0)).1 ∧ (((c.folds Gpl d).take i).foldl plc (0, 0)).1 ≤ c.kids.length * c.size ∧ 0 ≤ (((c.folds Gpl d).take i).foldl plc (0, 0)).2 ∧ (((c.folds Gpl d).take i).foldl plc (0, 0)).2 ≤ c.dep + 1 := by
 have hm : ∀ p ∈ (c.folds Gpl d).take i, 0 ≤ p.1 ∧ 0 ≤ p.2 ∧ p.2 ≤ (c.dep : Int) := fun p hp => by have := Gpl_kids (List.mem_of_mem_take hp); omega
 obtain ⟨h1, h2, h3, h4⟩ := foldl_plc _ (0, 0) 0 c.dep (by simp) (by simp) (by simp; omega) hm
 refine ⟨h1, ?_, h3, h4⟩
 rw [h2]
 have hs : ∀ (l : List (Int × Int)), (∀ p ∈ l, p.1 ≤ (c.size : Int)) → (l.map (·.1)).sum ≤ l.length * c.size := by
  intro l
  induction l with
  | nil => intro _; simp
  | cons p l ih =>
   intro h
   have h1 := ih (fun q hq => h q (by simp [hq]))
   have h2 := h p (by simp)
   simp only [List.map_cons, List.sum_cons, List.length_cons]
   rw [show ((l.length + 1 : Nat) : Int) * c.size = l.length * c.size + c.size by rw [Int.natCast_add, Int.add_mul]; simp]
   omega
 have h5 := hs ((c.folds Gpl d).take i) (fun p hp => (Gpl_kids (List.mem_of_mem_take hp)).2.1)
 have h6 : ((c.folds Gpl d).take i).length ≤ c.kids.length := by rw [List.length_take, CT.folds_len]; omega
 have h7 : (((c.folds Gpl d).take i).length : Int) * c.size ≤ c.kids.length * c.size := Int.mul_le_mul_of_nonneg_right (by omega) (by omega)
 simp only [Int.zero_add]
 omega
theorem rd_rowP {W : World} {v : Value} {xs : List (Int × Int)} (h : Rd W v 2 xs.length (xs.flatMap enc2)) {i : Nat} (hi : i < xs.length) :
  ∃ b off c x, v = .slice (some ⟨b, off, none⟩) xs.length c ∧ xs[i]? = some x ∧ ∀ W', Below W.heap.size W W' → ∀ j u, (enc2 x)[j]? = some u → W'.cell? ((⟨b, off + i * 2, none⟩ : Addr).add j) = some u := by
 obtain ⟨b, off, c, rfl, hb⟩ := h.some (by omega)
 refine ⟨b, off, c, xs[i], rfl, List.getElem?_eq_getElem hi, fun W' hB j u hj => ?_⟩
 rw [addr_addn, Nat.add_assoc]
 have h2 : ∀ (xs : List (Int × Int)) (i : Nat) (hi : i < xs.length), (enc2 xs[i])[j]? = some u → (xs.flatMap enc2)[i * 2 + j]? = some u := by
  intro xs
  induction xs with
  | nil => intro i hi; simp at hi
  | cons y xs ih =>
   intro i hi hj
   have hj2 : j < 2 := (List.getElem?_eq_some_iff.1 hj).1
   cases i with
   | zero => rw [List.flatMap_cons, List.getElem?_append_left (by simp [enc2]; omega)]; simpa using hj
   | succ i => rw [List.flatMap_cons, List.getElem?_append_right (by simp [enc2]; omega), show (i + 1) * 2 + j - (enc2 y).length = i * 2 + j by simp [enc2]; omega]; exact ih i (by simpa using hi) (by simpa using hj)
 exact (hB.cell (p := ⟨b, off + (i * 2 + j), none⟩) hb).trans (h.cell (h2 xs i hi hj))

set_option maxRecDepth 100000 in
set_option maxHeartbeats 400000 in
theorem clo120 (wl : World) (Sz : Nat) (hSz : Sz ≤ 20000) (D : Int) (hD : D ≤ 2000) (W : World) (c : CT) (x : C8) (d : Int) (kv : Value) (hK : Below wl.heap.size wl W) (hx : RC wl (fun k => k < wl.heap.size) c x) (hs : c.size ≤ Sz) (hd0 : 0 ≤ d) (hdD : d + c.dep ≤ D) (hkv : Rd W kv 2 c.kids.length ((c.folds Gpl d).flatMap enc2)) :
  Calls Try.prog 97 ([tv x, .int .i64 d, kv] ++ []).toArray W fun e w' => e = .returned (.agg (enc2 (Gpl c d (c.folds Gpl d))).toArray) ∧ Below W.heap.size W w' := by
 have hV := CT.isV_eq hx d
 have h3 := c.kids_le
 have hfl := CT.folds_len Gpl c d
 rw [← hfl] at hkv
 obtain ⟨av, cv, hve, _⟩ := hkv.form
 subst hve
 have hT := fun i => plc_take (c := c) (d := d) i
 have hm9 : (c.kids.length : Int) * c.size ≤ 100000 := by
  have : (c.kids.length : Int) * c.size ≤ 3 * 20000 := Int.mul_le_mul (by omega) (by omega) (by omega) (by omega)
  omega
 have hB := Below.refl W.heap.size W
 have sB := hB.size
 refine calls_fs 38 [(0, tv x), (1, .int .i64 d), (2, .slice av (c.folds Gpl d).length cv)] Try.func97 rfl rfl rfl rfl rfl fun a hF => ?_
 refine wp_rs fun K1 hK1 => ?_
 refine s_box (tc x) hF (by decide) rfl rfl fun w2 b3 a eb3 m3 B3 zb3 hF => ?_
 have sB3 := B3.size
 have hB := bt hB B3
 refine s_alloc hF (by decide) zero93 fun w4 b6 a eb6 m6 B5 zb6 hF => ?_
 have sB5 := B5.size
 have hB := bt hB B5
 have m3 := m3.old B5
 refine s_end (hK1 _ _ ?_)
 refine wp_seq_k fun K2 hK2 => ?_
 rcases (show (x.k = 1 ∧ x.n = d) ∨ (x.k = 1 ∧ x.n ≠ d) ∨ x.k ≠ 1 by omega) with hk9 | hk9 | hk9
 ·
  skip
  refine wp_rs fun K4 hK4 => ?_
  refine hF.v (x_ldW wide27 m3 rfl rfl) fun a hF => ?_
  refine hF.v (x_move rfl) fun a hF => ?_
  have hiv : c.isV d = true := by rw [hV]; simp [hk9.1, hk9.2]
  refine s_callB [_, _] hF E98 rfl (by decide) ((isPlace121 c x _ d wl w4 hx).mono fun e w' h => ⟨by rw [h.1, hiv], h.2⟩) fun w6 a B7 hF => ?_
  have sB7 := B7.size
  have hB := bt hB B7
  have m6 := m6.old B7
  refine s_end (hK4 _ _ ?_)
  refine wp_if hF rfl ?_
  refine wp_rs fun K5 hK5 => ?_
  refine hF.v (x_build (vs := [(0, _), (1, _)]) rfl (b93_01 _ _ _)) fun a hF => ?_
  refine s_putW hF rfl rfl (size_wide wide93) m6 rfl (oneII _ _) fun w10 m6 o11 => ?_
  have so11 := o11.size
  have hB := hB.trans (o11.below (by omega))
  refine s_end (hK5 _ _ ?_)
  refine wp_ret (then_ret (res_cell (cs := [_, _]) hF rfl rfl m6 wide93 ⟨by simp only [Gpl]; rw [if_pos hiv]; rfl, hB⟩))
 ·
  skip
  refine wp_rs fun K6 hK6 => ?_
  refine hF.v (x_ldW wide27 m3 rfl rfl) fun a hF => ?_
  refine hF.v (x_move rfl) fun a hF => ?_
  have hiv : c.isV d = false := by rw [hV]; first | (rw [decide_eq_false (show ¬ x.n = d by omega), Bool.and_false]; done) | (rw [decide_eq_false (show ¬ x.k = 1 by omega), Bool.false_and]; done)
  refine s_callB [_, _] hF E98 rfl (by decide) ((isPlace121 c x _ d wl w4 hx).mono fun e w' h => ⟨by rw [h.1, hiv], h.2⟩) fun w12 a B13 hF => ?_
  have sB13 := B13.size
  have hB := bt hB B13
  have m6 := m6.old B13
  refine s_end (hK6 _ _ ?_)
  refine wp_if hF rfl ?_
  refine wp_skip (hK2 _ _ ?_)
  refine wp_rs fun K7 hK7 => ?_
  refine s_alloc hF (by decide) zero93 fun w14 b7 a eb7 m7 B15 zb7 hF => ?_
  have sB15 := B15.size
  have hB := bt hB B15
  have m6 := m6.old B15
  refine s_end (hK7 _ _ ?_)
  refine wp_seq_k fun K8 hK8 => ?_
  refine wp_rs fun K9 hK9 => ?_
  refine hF.v (x_move rfl) fun a hF => ?_
  refine hF.v (x_len Try.underlying119 rfl) fun a hF => ?_
  refine hF.v (x_move rfl) fun a hF => ?_
  refine s_end (hK9 _ _ ?_)
  refine wp_block ?_
  refine wp_up (c.folds Gpl d).length (fun i a w => Blk w b7 81 [.int .i64 (((c.folds Gpl d).take i).foldl plc (0, 0)).1, .int .i64 (((c.folds Gpl d).take i).foldl plc (0, 0)).2] ∧ Blk w b6 81 [.int .i64 0, .int .i64 0] ∧ Below W.heap.size W w ∧ Fs 38 a [(6, .pointer (some ⟨b6, 0, none⟩)), (7, .pointer (some ⟨b7, 0, none⟩)), (14, .slice av (c.folds Gpl d).length cv), (15, .int .i64 ((c.folds Gpl d).length : Int)), (16, .int .i64 (i : Int))]) ⟨by simpa using m7, m6, hB, hF.sub _ rfl⟩ ?_
  repeat clear hF
  have hne67 : b6 ≠ b7 ∧ W.heap.size ≤ b6 ∧ W.heap.size ≤ b7 := by omega
  clear hB m6 m7
  rintro i a w hi ⟨m7, m6, hB, hF⟩ K' hK'
  have sB := hB.size
  have hTi := hT i
  have h6l := m6.lt
  have h7l := m7.lt
  refine wp_rs fun K10 hK10 => ?_
  refine hF.v (x_lss (b := decide (i < (c.folds Gpl d).length)) (decide_eq_decide.2 (by omega)) rfl rfl) fun a hF => ?_
  refine s_end (hK10 _ _ ?_)
  refine wp_seq_k fun K11 hK11 => ?_
  refine wp_iff hF rfl (fun hc17 => ?_) (fun hc17 => ?_)
  ·
   obtain ⟨b, off, c9, q, hve, hq, hrow⟩ := rd_rowP hkv (i := i) (by omega)
   cases hve
   have hTi1 := hT (i + 1)
   have hqk := Gpl_kids (List.mem_of_getElem? hq)
   have htk := take_snoc hq
   rw [htk, List.foldl_append, List.foldl_cons, List.foldl_nil] at hTi1
   refine wp_skip (hK11 _ _ ?_)
   refine wp_seq_k fun K12 hK12 => ?_
   refine wp_block ?_
   refine wp_rs fun K13 hK13 => ?_
   refine hF.v (x_ixa rfl rfl (m_ixsK i Try.underlying119 el122.size rfl (by omega))) fun a hF => ?_
   refine hF.v (x_ldA wide93 (hrow _ hB) rfl rfl) fun a hF => ?_
   refine s_alloc hF (by decide) zero93 fun w16 b9 a eb9 m9 B17 zb9 hF => ?_
   have sB17 := B17.size
   have hB := bt hB B17
   have m6 := m6.old B17
   have m7 := m7.old B17
   refine s_putW hF rfl rfl (size_wide wide93) m9 rfl (oneII _ _) fun w20 m9 o21 => ?_
   have so21 := o21.size
   have hB := hB.trans (o21.below (by omega))
   have m6 := m6.only o21 (by omega)
   have m7 := m7.only o21 (by omega)
   refine s_end (hK13 _ _ ?_)
   refine wp_rs fun K14 hK14 => ?_
   refine hF.v (x_fa0 fa93_0 rfl) fun a hF => ?_
   refine hF.v (x_load rfl (m_load flat3 (m7.cell (j := 0) rfl))) fun a hF => ?_
   refine hF.v (x_fa0 fa93_0 rfl) fun a hF => ?_
   refine hF.v (x_load rfl (m_load flat3 (m9.cell (j := 0) rfl))) fun a hF => ?_
   refine hF.v (x_add (by omega) (by omega) rfl rfl) fun a hF => ?_
   refine hF.v (x_fa0 fa93_0 rfl) fun a hF => ?_
   refine s_put hF rfl rfl flat3 m7 (by first | (simp; done) | (simp [tc, lc]; done) | decide) rfl fun w22 m7 o23 => ?_
   have so23 := o23.size
   have hB := hB.trans (o23.below (by omega))
   have m6 := m6.only o23 (by omega)
   have m9 := m9.only o23 (by omega)
   refine s_end (hK14 _ _ ?_)
   rcases (show 0 < q.1 ∨ ¬ 0 < q.1 by omega) with hk8 | hk8
   ·
    have hpl : plc (((c.folds Gpl d).take i).foldl plc (0, 0)) q = ((((c.folds Gpl d).take i).foldl plc (0, 0)).1 + q.1, max (((c.folds Gpl d).take i).foldl plc (0, 0)).2 (q.2 + 1)) := by simp only [plc]; rw [if_pos hk8]
    refine wp_rs fun K16 hK16 => ?_
    refine hF.v (x_fa0 fa93_0 rfl) fun a hF => ?_
    refine hF.v (x_load rfl (m_load flat3 (m9.cell (j := 0) rfl))) fun a hF => ?_
    refine hF.v (gtrT (by omega) rfl rfl) fun a hF => ?_
    refine s_end (hK16 _ _ ?_)
    refine wp_if hF rfl ?_
    refine wp_region_lit ?_
    refine hF.v (x_fa0 fa93_1 rfl) fun a hF => ?_
    refine hF.v (x_load rfl (m_load flat3 (m7.cell (j := 1) rfl))) fun a hF => ?_
    refine hF.v (x_fa0 fa93_1 rfl) fun a hF => ?_
    refine hF.v (x_load rfl (m_load flat3 (m9.cell (j := 1) rfl))) fun a hF => ?_
    refine hF.v (x_add (by omega) (by omega) rfl rfl) fun a hF => ?_
    refine hF.v (x_imax rfl rfl) fun a hF => ?_
    refine hF.v (x_fa0 fa93_1 rfl) fun a hF => ?_
    refine s_put hF rfl rfl flat3 m7 (by first | (simp; done) | (simp [tc, lc]; done) | decide) rfl fun w24 m7 o25 => ?_
    have so25 := o25.size
    have hB := hB.trans (o25.below (by omega))
    have m6 := m6.only o25 (by omega)
    refine s_end (hK12 _ _ ?_)
    refine wp_region_lit ?_
    refine hF.v (x_addn (i + 1) (by omega) (by omega) rfl rfl) fun a hF => ?_
    refine hF.v (x_move rfl) fun a hF => ?_
    refine s_end (hK' _ _ (by omega) ⟨by rw [htk, List.foldl_append, List.foldl_cons, List.foldl_nil, hpl]; exact m7, m6, hB, hF.sub _ rfl⟩)
   ·
    have hpl : plc (((c.folds Gpl d).take i).foldl plc (0, 0)) q = ((((c.folds Gpl d).take i).foldl plc (0, 0)).1 + q.1, (((c.folds Gpl d).take i).foldl plc (0, 0)).2) := by simp only [plc]; rw [if_neg hk8]
    refine wp_rs fun K17 hK17 => ?_
    refine hF.v (x_fa0 fa93_0 rfl) fun a hF => ?_
    refine hF.v (x_load rfl (m_load flat3 (m9.cell (j := 0) rfl))) fun a hF => ?_
    refine hF.v (gtrF (by omega) rfl rfl) fun a hF => ?_
    refine s_end (hK17 _ _ ?_)
    refine wp_if hF rfl ?_
    refine wp_skip (hK12 _ _ ?_)
    refine wp_region_lit ?_
    refine hF.v (x_addn (i + 1) (by omega) (by omega) rfl rfl) fun a hF => ?_
    refine hF.v (x_move rfl) fun a hF => ?_
    refine s_end (hK' _ _ (by omega) ⟨by rw [htk, List.foldl_append, List.foldl_cons, List.foldl_nil, hpl]; exact m7, m6, hB, hF.sub _ rfl⟩)
  ·
   obtain rfl : i = (c.folds Gpl d).length := by omega
   rw [List.take_length] at m7
   refine wp_exit (hK8 _ _ ?_)
   refine wp_rs fun K18 hK18 => ?_
   refine hF.v (x_ldW wide93 m7 rfl rfl) fun a hF => ?_
   refine s_putW hF rfl rfl (size_wide wide93) m6 rfl (oneII _ _) fun w28 m6 o29 => ?_
   have so29 := o29.size
   have hB := hB.trans (o29.below (by omega))
   refine s_end (hK18 _ _ ?_)
   refine wp_ret (res_cell (cs := [_, _]) hF rfl rfl m6 wide93 ⟨by simp only [Gpl]; rw [if_neg (by rw [hiv]; decide)]; rfl, hB⟩)
 ·
  skip
  refine wp_rs fun K19 hK19 => ?_
  refine hF.v (x_ldW wide27 m3 rfl rfl) fun a hF => ?_
  refine hF.v (x_move rfl) fun a hF => ?_
  have hiv : c.isV d = false := by rw [hV]; first | (rw [decide_eq_false (show ¬ x.n = d by omega), Bool.and_false]; done) | (rw [decide_eq_false (show ¬ x.k = 1 by omega), Bool.false_and]; done)
  refine s_callB [_, _] hF E98 rfl (by decide) ((isPlace121 c x _ d wl w4 hx).mono fun e w' h => ⟨by rw [h.1, hiv], h.2⟩) fun w30 a B31 hF => ?_
  have sB31 := B31.size
  have hB := bt hB B31
  have m6 := m6.old B31
  refine s_end (hK19 _ _ ?_)
  refine wp_if hF rfl ?_
  refine wp_skip (hK2 _ _ ?_)
  refine wp_rs fun K20 hK20 => ?_
  refine s_alloc hF (by decide) zero93 fun w32 b7 a eb7 m7 B33 zb7 hF => ?_
  have sB33 := B33.size
  have hB := bt hB B33
  have m6 := m6.old B33
  refine s_end (hK20 _ _ ?_)
  refine wp_seq_k fun K21 hK21 => ?_
  refine wp_rs fun K22 hK22 => ?_
  refine hF.v (x_move rfl) fun a hF => ?_
  refine hF.v (x_len Try.underlying119 rfl) fun a hF => ?_
  refine hF.v (x_move rfl) fun a hF => ?_
  refine s_end (hK22 _ _ ?_)
  refine wp_block ?_
  refine wp_up (c.folds Gpl d).length (fun i a w => Blk w b7 81 [.int .i64 (((c.folds Gpl d).take i).foldl plc (0, 0)).1, .int .i64 (((c.folds Gpl d).take i).foldl plc (0, 0)).2] ∧ Blk w b6 81 [.int .i64 0, .int .i64 0] ∧ Below W.heap.size W w ∧ Fs 38 a [(6, .pointer (some ⟨b6, 0, none⟩)), (7, .pointer (some ⟨b7, 0, none⟩)), (14, .slice av (c.folds Gpl d).length cv), (15, .int .i64 ((c.folds Gpl d).length : Int)), (16, .int .i64 (i : Int))]) ⟨by simpa using m7, m6, hB, hF.sub _ rfl⟩ ?_
  repeat clear hF
  have hne67 : b6 ≠ b7 ∧ W.heap.size ≤ b6 ∧ W.heap.size ≤ b7 := by omega
  clear hB m6 m7
  rintro i a w hi ⟨m7, m6, hB, hF⟩ K' hK'
  have sB := hB.size
  have hTi := hT i
  have h6l := m6.lt
  have h7l := m7.lt
  refine wp_rs fun K23 hK23 => ?_
  refine hF.v (x_lss (b := decide (i < (c.folds Gpl d).length)) (decide_eq_decide.2 (by omega)) rfl rfl) fun a hF => ?_
  refine s_end (hK23 _ _ ?_)
  refine wp_seq_k fun K24 hK24 => ?_
  refine wp_iff hF rfl (fun hc17 => ?_) (fun hc17 => ?_)
  ·
   obtain ⟨b, off, c9, q, hve, hq, hrow⟩ := rd_rowP hkv (i := i) (by omega)
   cases hve
   have hTi1 := hT (i + 1)
   have hqk := Gpl_kids (List.mem_of_getElem? hq)
   have htk := take_snoc hq
   rw [htk, List.foldl_append, List.foldl_cons, List.foldl_nil] at hTi1
   refine wp_skip (hK24 _ _ ?_)
   refine wp_seq_k fun K25 hK25 => ?_
   refine wp_block ?_
   refine wp_rs fun K26 hK26 => ?_
   refine hF.v (x_ixa rfl rfl (m_ixsK i Try.underlying119 el122.size rfl (by omega))) fun a hF => ?_
   refine hF.v (x_ldA wide93 (hrow _ hB) rfl rfl) fun a hF => ?_
   refine s_alloc hF (by decide) zero93 fun w34 b9 a eb9 m9 B35 zb9 hF => ?_
   have sB35 := B35.size
   have hB := bt hB B35
   have m6 := m6.old B35
   have m7 := m7.old B35
   refine s_putW hF rfl rfl (size_wide wide93) m9 rfl (oneII _ _) fun w38 m9 o39 => ?_
   have so39 := o39.size
   have hB := hB.trans (o39.below (by omega))
   have m6 := m6.only o39 (by omega)
   have m7 := m7.only o39 (by omega)
   refine s_end (hK26 _ _ ?_)
   refine wp_rs fun K27 hK27 => ?_
   refine hF.v (x_fa0 fa93_0 rfl) fun a hF => ?_
   refine hF.v (x_load rfl (m_load flat3 (m7.cell (j := 0) rfl))) fun a hF => ?_
   refine hF.v (x_fa0 fa93_0 rfl) fun a hF => ?_
   refine hF.v (x_load rfl (m_load flat3 (m9.cell (j := 0) rfl))) fun a hF => ?_
   refine hF.v (x_add (by omega) (by omega) rfl rfl) fun a hF => ?_
   refine hF.v (x_fa0 fa93_0 rfl) fun a hF => ?_
   refine s_put hF rfl rfl flat3 m7 (by first | (simp; done) | (simp [tc, lc]; done) | decide) rfl fun w40 m7 o41 => ?_
   have so41 := o41.size
   have hB := hB.trans (o41.below (by omega))
   have m6 := m6.only o41 (by omega)
   have m9 := m9.only o41 (by omega)
   refine s_end (hK27 _ _ ?_)
   rcases (show 0 < q.1 ∨ ¬ 0 < q.1 by omega) with hk8 | hk8
   ·
    have hpl : plc (((c.folds Gpl d).take i).foldl plc (0, 0)) q = ((((c.folds Gpl d).take i).foldl plc (0, 0)).1 + q.1, max (((c.folds Gpl d).take i).foldl plc (0, 0)).2 (q.2 + 1)) := by simp only [plc]; rw [if_pos hk8]
    refine wp_rs fun K29 hK29 => ?_
    refine hF.v (x_fa0 fa93_0 rfl) fun a hF => ?_
    refine hF.v (x_load rfl (m_load flat3 (m9.cell (j := 0) rfl))) fun a hF => ?_
    refine hF.v (gtrT (by omega) rfl rfl) fun a hF => ?_
    refine s_end (hK29 _ _ ?_)
    refine wp_if hF rfl ?_
    refine wp_region_lit ?_
    refine hF.v (x_fa0 fa93_1 rfl) fun a hF => ?_
    refine hF.v (x_load rfl (m_load flat3 (m7.cell (j := 1) rfl))) fun a hF => ?_
    refine hF.v (x_fa0 fa93_1 rfl) fun a hF => ?_
    refine hF.v (x_load rfl (m_load flat3 (m9.cell (j := 1) rfl))) fun a hF => ?_
    refine hF.v (x_add (by omega) (by omega) rfl rfl) fun a hF => ?_
    refine hF.v (x_imax rfl rfl) fun a hF => ?_
    refine hF.v (x_fa0 fa93_1 rfl) fun a hF => ?_
    refine s_put hF rfl rfl flat3 m7 (by first | (simp; done) | (simp [tc, lc]; done) | decide) rfl fun w42 m7 o43 => ?_
    have so43 := o43.size
    have hB := hB.trans (o43.below (by omega))
    have m6 := m6.only o43 (by omega)
    refine s_end (hK25 _ _ ?_)
    refine wp_region_lit ?_
    refine hF.v (x_addn (i + 1) (by omega) (by omega) rfl rfl) fun a hF => ?_
    refine hF.v (x_move rfl) fun a hF => ?_
    refine s_end (hK' _ _ (by omega) ⟨by rw [htk, List.foldl_append, List.foldl_cons, List.foldl_nil, hpl]; exact m7, m6, hB, hF.sub _ rfl⟩)
   ·
    have hpl : plc (((c.folds Gpl d).take i).foldl plc (0, 0)) q = ((((c.folds Gpl d).take i).foldl plc (0, 0)).1 + q.1, (((c.folds Gpl d).take i).foldl plc (0, 0)).2) := by simp only [plc]; rw [if_neg hk8]
    refine wp_rs fun K30 hK30 => ?_
    refine hF.v (x_fa0 fa93_0 rfl) fun a hF => ?_
    refine hF.v (x_load rfl (m_load flat3 (m9.cell (j := 0) rfl))) fun a hF => ?_
    refine hF.v (gtrF (by omega) rfl rfl) fun a hF => ?_
    refine s_end (hK30 _ _ ?_)
    refine wp_if hF rfl ?_
    refine wp_skip (hK25 _ _ ?_)
    refine wp_region_lit ?_
    refine hF.v (x_addn (i + 1) (by omega) (by omega) rfl rfl) fun a hF => ?_
    refine hF.v (x_move rfl) fun a hF => ?_
    refine s_end (hK' _ _ (by omega) ⟨by rw [htk, List.foldl_append, List.foldl_cons, List.foldl_nil, hpl]; exact m7, m6, hB, hF.sub _ rfl⟩)
  ·
   obtain rfl : i = (c.folds Gpl d).length := by omega
   rw [List.take_length] at m7
   refine wp_exit (hK21 _ _ ?_)
   refine wp_rs fun K31 hK31 => ?_
   refine hF.v (x_ldW wide93 m7 rfl rfl) fun a hF => ?_
   refine s_putW hF rfl rfl (size_wide wide93) m6 rfl (oneII _ _) fun w46 m6 o47 => ?_
   have so47 := o47.size
   have hB := hB.trans (o47.below (by omega))
   refine s_end (hK31 _ _ ?_)
   refine wp_ret (res_cell (cs := [_, _]) hF rfl rfl m6 wide93 ⟨by simp only [Gpl]; rw [if_neg (by rw [hiv]; decide)]; rfl, hB⟩)
end Go.Proofs.Ytbhhbfdoadecgaa

namespace Go.Proofs.Ytbhhbfdoadecgaa
open Go.RowKit Go.Shelf
set_option linter.unusedVariables false
set_option linter.unusedSimpArgs false

theorem RC.bel {w0 w : World} {c : CT} {x : C8} (h : RC w0 (fun k => k < w0.heap.size) c x) (hB : Below w0.heap.size w0 w) : RC w (fun k => k < w.heap.size) c x :=
 (h.keep hB.size (fun k hk _ => hB.block k hk)).mono (fun k hk => by have := hB.size; omega)
theorem bnd2_0 (k : Int) (a b : CT) (m : Nat) : (CT.two k a b m).bnd 0 = 0 := by simp [CT.bnd]
theorem bnd2_1 (k : Int) (a b : CT) (m : Nat) : (CT.two k a b m).bnd 1 = if k = 3 ∨ k = 4 then 1 else 0 := by simp [CT.bnd]
theorem bnd3_0 (a b c : CT) (m : Nat) : (CT.lt a b c m).bnd 0 = 0 := by simp [CT.bnd]
theorem bnd3_1 (a b c : CT) (m : Nat) : (CT.lt a b c m).bnd 1 = 0 := by simp [CT.bnd]
theorem bnd3_2 (a b c : CT) (m : Nat) : (CT.lt a b c m).bnd 2 = 1 := by simp [CT.bnd]
theorem PT.size_pos (p : PT) : 0 < p.size := by cases p <;> simp [PT.size]
theorem PT.dep_pos (p : PT) : 0 < p.dep := by cases p <;> simp [PT.dep]
theorem PT.lift_size (f b : Int) : ∀ (p : PT) (d : Int), (p.lift f b d).size = p.size ∧ (p.lift f b d).dep = p.dep
 | .two k p q, d => by simp [PT.lift, PT.size, PT.dep, PT.lift_size f b p, PT.lift_size f b q]
 | .lt p q r, d => by simp [PT.lift, PT.size, PT.dep, PT.lift_size f b p, PT.lift_size f b q, PT.lift_size f b r]
 | .var .., d => ⟨rfl, rfl⟩
 | .sort .., d => ⟨rfl, rfl⟩
 | .cst .., d => ⟨rfl, rfl⟩
 | .odd .., d => ⟨rfl, rfl⟩
theorem put_size (v : PT) : ∀ (c : CT) (d : Int), ((PT.put v c.ess d).size : Int) = c.size + (c.fold Gpl d).1 * ((v.size : Int) - 1)
 | .two k a b m, d => by
  have ha := put_size v a (d + (CT.two k a b m).bnd 0)
  have hb := put_size v b (d + (CT.two k a b m).bnd 1)
  simp only [bnd2_0, bnd2_1, Int.add_zero] at ha hb
  simp only [CT.ess, PT.put, PT.size, CT.size, CT.fold, Gpl, CT.isV, List.foldl_cons, List.foldl_nil, plc, bnd2_0, bnd2_1, bnd3_0, bnd3_1, bnd3_2]
  simp only [Bool.false_eq_true, if_false, Int.add_zero, Int.zero_add]
  rw [Int.add_mul]
  omega
 | .lt a b c m, d => by
  have ha := put_size v a (d + (CT.lt a b c m).bnd 0)
  have hb := put_size v b (d + (CT.lt a b c m).bnd 1)
  have hc := put_size v c (d + (CT.lt a b c m).bnd 2)
  simp only [bnd3_0, bnd3_1, bnd3_2, Int.add_zero] at ha hb hc
  simp only [CT.ess, PT.put, PT.size, CT.size, CT.fold, Gpl, CT.isV, List.foldl_cons, List.foldl_nil, plc, bnd2_0, bnd2_1, bnd3_0, bnd3_1, bnd3_2]
  simp only [Bool.false_eq_true, if_false, Int.add_zero, Int.zero_add]
  rw [Int.add_mul, Int.add_mul]
  omega
 | .var n m, d => by
  simp only [CT.ess, PT.put, CT.fold, Gpl, CT.isV, CT.size, List.foldl_nil, decide_eq_true_eq]
  split
  ·
   rw [(v.lift_size 0 d 0).1]; omega
  ·
   simp [PT.size]
 | .sort n m, d => by simp [CT.ess, PT.put, CT.fold, Gpl, CT.isV, CT.size, PT.size]
 | .cst s n m, d => by simp [CT.ess, PT.put, CT.fold, Gpl, CT.isV, CT.size, PT.size]
 | .odd n m, d => by simp [CT.ess, PT.put, CT.fold, Gpl, CT.isV, CT.size, PT.size]
set_option maxHeartbeats 4000000 in
theorem put_dep (v : PT) : ∀ (c : CT) (d : Int), ((PT.put v c.ess d).dep : Int) = max (c.dep : Int) (if 0 < (c.fold Gpl d).1 then (c.fold Gpl d).2 + v.dep - 1 else 0)
 | .two k a b m, d => by
  have ha := put_dep v a (d + (CT.two k a b m).bnd 0)
  have hb := put_dep v b (d + (CT.two k a b m).bnd 1)
  have ga := Gpl_rng a (d + (CT.two k a b m).bnd 0)
  have gb := Gpl_rng b (d + (CT.two k a b m).bnd 1)
  have := v.dep_pos
  simp only [bnd2_0, bnd2_1, Int.add_zero] at ha hb ga gb
  simp only [CT.ess, PT.put, PT.dep, CT.dep, CT.fold, Gpl, CT.isV, List.foldl_cons, List.foldl_nil, plc, bnd2_0, bnd2_1, bnd3_0, bnd3_1, bnd3_2]
  simp only [Bool.false_eq_true, if_false, Int.add_zero, Int.zero_add]
  generalize CT.fold Gpl a d = fa at *
  generalize CT.fold Gpl b (d + if k = 3 ∨ k = 4 then 1 else 0) = fb at *
  generalize (PT.put v a.ess d).dep = pa at *
  generalize (PT.put v b.ess (d + if k = 3 ∨ k = 4 then 1 else 0)).dep = pb at *
  have hs : 0 < fa.1 + fb.1 ↔ 0 < fa.1 ∨ 0 < fb.1 := by omega
  simp only [hs]
  by_cases h1 : 0 < fa.1 <;> by_cases h2 : 0 < fb.1 <;> simp only [h1, h2, if_true, if_false, true_or, or_true, or_self] at ha hb ⊢ <;> omega
 | .lt a b c m, d => by
  have ha := put_dep v a (d + (CT.lt a b c m).bnd 0)
  have hb := put_dep v b (d + (CT.lt a b c m).bnd 1)
  have hc := put_dep v c (d + (CT.lt a b c m).bnd 2)
  have ga := Gpl_rng a (d + (CT.lt a b c m).bnd 0)
  have gb := Gpl_rng b (d + (CT.lt a b c m).bnd 1)
  have gc := Gpl_rng c (d + (CT.lt a b c m).bnd 2)
  have := v.dep_pos
  simp only [bnd3_0, bnd3_1, bnd3_2, Int.add_zero] at ha hb hc ga gb gc
  simp only [CT.ess, PT.put, PT.dep, CT.dep, CT.fold, Gpl, CT.isV, List.foldl_cons, List.foldl_nil, plc, bnd2_0, bnd2_1, bnd3_0, bnd3_1, bnd3_2]
  simp only [Bool.false_eq_true, if_false, Int.add_zero, Int.zero_add]
  generalize CT.fold Gpl a d = fa at *
  generalize CT.fold Gpl b d = fb at *
  generalize CT.fold Gpl c (d + 1) = fc at *
  generalize (PT.put v a.ess d).dep = pa at *
  generalize (PT.put v b.ess d).dep = pb at *
  generalize (PT.put v c.ess (d + 1)).dep = pc at *
  have hs : 0 < fa.1 + fb.1 + fc.1 ↔ (0 < fa.1 ∨ 0 < fb.1) ∨ 0 < fc.1 := by omega
  simp only [hs]
  by_cases h1 : 0 < fa.1 <;> by_cases h2 : 0 < fb.1 <;> by_cases h3 : 0 < fc.1 <;> simp only [h1, h2, h3, if_true, if_false, true_or, or_true, or_self] at ha hb hc ⊢ <;> omega
 | .var n m, d => by
  have := v.dep_pos
  simp only [CT.ess, PT.put, CT.fold, Gpl, CT.isV, CT.dep, List.foldl_nil, decide_eq_true_eq]
  split
  ·
   rw [(v.lift_size 0 d 0).2]; simp; omega
  ·
   simp [PT.dep]; omega
 | .sort n m, d => by simp [CT.ess, PT.put, CT.fold, Gpl, CT.isV, CT.dep, PT.dep]; omega
 | .cst s n m, d => by simp [CT.ess, PT.put, CT.fold, Gpl, CT.isV, CT.dep, PT.dep]; omega
 | .odd n m, d => by simp [CT.ess, PT.put, CT.fold, Gpl, CT.isV, CT.dep, PT.dep]; omega
def PT.ok (p : PT) : Prop := p.size ≤ 20000 ∧ p.dep ≤ 2000
instance (p : PT) : Decidable p.ok := inferInstanceAs (Decidable (_ ∧ _))
theorem CT.ok_ess (c : CT) : c.ess.ok ↔ c.ok := by unfold PT.ok CT.ok; rw [c.ess_size, c.ess_dep]
/-- What it is asked ahead of putting in. -/
def holdsP (n dp vn vd cnt pd : Int) : Prop := n + cnt * (vn - 1) ≤ 20000 ∧ (if 0 < cnt then max dp (pd + vd - 1) else dp) ≤ 2000
instance (n dp vn vd cnt pd : Int) : Decidable (holdsP n dp vn vd cnt pd) := inferInstanceAs (Decidable (_ ∧ _))
theorem holdsP_iff {c v : CT} : holdsP c.size c.dep v.size v.dep (c.fold Gpl 0).1 (c.fold Gpl 0).2 ↔ (PT.put v.ess c.ess 0).ok := by
 have h1 := put_size v.ess c 0
 have h2 := put_dep v.ess c 0
 have h3 := c.dep_pos
 rw [v.ess_size] at h1
 rw [v.ess_dep] at h2
 unfold holdsP PT.ok
 by_cases h : 0 < (c.fold Gpl 0).1 <;> simp only [h, if_true, if_false] at h2 ⊢ <;> omega

set_option maxRecDepth 100000 in
set_option maxHeartbeats 400000 in
theorem placesOf84 (c : CT) (x : C8) (w0 : World) (hx : RC w0 (fun k => k < w0.heap.size) c x) (hok : c.ok) : Calls Try.prog 58 #[tv x] w0 fun e w' => e = .returned (.agg (enc2 (c.fold Gpl 0)).toArray) ∧ Below w0.heap.size w0 w' := by
 have hB := Below.refl w0.heap.size w0
 have sB := hB.size
 refine calls_fs 5 [(0, tv x)] Try.func58 rfl rfl rfl rfl rfl fun a hF => ?_
 refine wp_rs fun K1 hK1 => ?_
 refine s_box (tc x) hF (by decide) rfl rfl fun w2 b1 a eb1 m1 B3 zb1 hF => ?_
 have sB3 := B3.size
 have hB := bt hB B3
 refine s_alloc hF (by decide) zero93 fun w4 b2 a eb2 m2 B5 zb2 hF => ?_
 have sB5 := B5.size
 have hB := bt hB B5
 have m1 := m1.old B5
 refine s_end (hK1 _ _ ?_)
 refine wp_rs fun K2 hK2 => ?_
 refine hF.v (x_ldW wide27 m1 rfl rfl) fun a hF => ?_
 refine s_callB [_, _, _] hF E96 rfl (by decide) (fold119 w4 97 [] E97 2000 (by decide) 20000 Gpl _ rfl (fun W c x d kv h1 h2 h3 h4 h5 h6 => clo120 w4 20000 (by decide) 2000 (by decide) W c x d kv h1 h2 h3 h4 h5 h6) (c.size + 1) c x 0 w4 (by omega) hok.1 (hx.bel hB) (by decide) (by have := hok.2; omega) (Below.refl _ _)) fun w6 a B7 hF => ?_
 have sB7 := B7.size
 have hB := bt hB B7
 have m2 := m2.old B7
 refine s_putW hF rfl rfl (size_wide wide93) m2 rfl (oneII _ _) fun w10 m2 o11 => ?_
 have so11 := o11.size
 have hB := hB.trans (o11.below (by omega))
 refine s_end (hK2 _ _ ?_)
 refine wp_ret (res_cell (cs := enc2 _) hF rfl rfl m2 wide93 ⟨rfl, hB⟩)

set_option maxRecDepth 100000 in
set_option maxHeartbeats 400000 in
theorem holds83 (n dp vn vd cnt pd : Int) (w0 : World) (h1 : 0 ≤ n ∧ n ≤ 20000) (h2 : 0 ≤ dp ∧ dp ≤ 20000) (h3 : 0 ≤ vn ∧ vn ≤ 20000) (h4 : 0 ≤ vd ∧ vd ≤ 20000) (h5 : 0 ≤ cnt ∧ cnt ≤ 20000) (h6 : 0 ≤ pd ∧ pd ≤ 20000) :
  Calls Try.prog 57 #[.agg [.int .i64 n, .int .i64 dp].toArray, .agg [.int .i64 vn, .int .i64 vd].toArray, .agg (enc2 (cnt, pd)).toArray] w0 fun e w' => e = .returned (.bool (decide (holdsP n dp vn vd cnt pd))) ∧ Below w0.heap.size w0 w' := by
 have hm : -20000 ≤ cnt * (vn - 1) ∧ cnt * (vn - 1) ≤ 400000000 := by
  have a1 : cnt * (vn - 1) ≤ 20000 * 20000 := by
   rcases Int.lt_or_le vn 1 with h | h
   ·
    have : cnt * (vn - 1) ≤ 0 := Int.mul_nonpos_of_nonneg_of_nonpos h5.1 (by omega); omega
   ·
    exact Int.mul_le_mul (by omega) (by omega) (by omega) (by omega)
  have a2 : cnt * vn ≥ 0 := Int.mul_nonneg h5.1 h3.1
  have a3 : cnt * (vn - 1) = cnt * vn - cnt := by rw [Int.mul_sub, Int.mul_one]
  omega
 have hB := Below.refl w0.heap.size w0
 have sB := hB.size
 refine calls_fs 35 [(0, .agg [.int .i64 n, .int .i64 dp].toArray), (1, .agg [.int .i64 vn, .int .i64 vd].toArray), (2, .agg (enc2 (cnt, pd)).toArray)] Try.func57 rfl rfl rfl rfl rfl fun a hF => ?_
 refine wp_rs fun K1 hK1 => ?_
 refine s_box ([.int .i64 n, .int .i64 dp]) hF (by decide) rfl rfl fun w2 b3 a eb3 m3 B3 zb3 hF => ?_
 have sB3 := B3.size
 have hB := bt hB B3
 refine s_box ([.int .i64 vn, .int .i64 vd]) hF (by decide) rfl rfl fun w4 b4 a eb4 m4 B5 zb4 hF => ?_
 have sB5 := B5.size
 have hB := bt hB B5
 have m3 := m3.old B5
 refine s_box ([.int .i64 cnt, .int .i64 pd]) hF (by decide) rfl rfl fun w6 b5 a eb5 m5 B7 zb5 hF => ?_
 have sB7 := B7.size
 have hB := bt hB B7
 have m3 := m3.old B7
 have m4 := m4.old B7
 refine hF.v (x_assign rfl) fun a hF => ?_
 refine s_end (hK1 _ _ ?_)
 refine wp_rs fun K2 hK2 => ?_
 refine hF.v (x_fa0 fa70_0 rfl) fun a hF => ?_
 refine hF.v (x_load rfl (m_load flat3 (m3.cell (j := 0) rfl))) fun a hF => ?_
 refine hF.v (x_fa0 fa93_0 rfl) fun a hF => ?_
 refine hF.v (x_load rfl (m_load flat3 (m5.cell (j := 0) rfl))) fun a hF => ?_
 refine hF.v (x_fa0 fa70_0 rfl) fun a hF => ?_
 refine hF.v (x_load rfl (m_load flat3 (m4.cell (j := 0) rfl))) fun a hF => ?_
 refine hF.v (x_sub (by omega) (by omega) rfl rfl) fun a hF => ?_
 refine hF.v (x_mul (by omega) (by omega) rfl rfl) fun a hF => ?_
 refine hF.v (x_add (by omega) (by omega) rfl rfl) fun a hF => ?_
 refine hF.v (x_fa0 fa70_1 rfl) fun a hF => ?_
 refine hF.v (x_load rfl (m_load flat3 (m3.cell (j := 1) rfl))) fun a hF => ?_
 refine hF.v (x_build (vs := [(0, _), (1, _)]) rfl (b70_01 _ _ _)) fun a hF => ?_
 refine s_alloc hF (by decide) zero70 fun w8 b7 a eb7 m7 B9 zb7 hF => ?_
 have sB9 := B9.size
 have hB := bt hB B9
 have m3 := m3.old B9
 have m4 := m4.old B9
 have m5 := m5.old B9
 refine s_putW hF rfl rfl (size_wide wide70) m7 rfl (oneII _ _) fun w12 m7 o13 => ?_
 have so13 := o13.size
 have hB := hB.trans (o13.below (by omega))
 have m3 := m3.only o13 (by omega)
 have m4 := m4.only o13 (by omega)
 have m5 := m5.only o13 (by omega)
 refine s_end (hK2 _ _ ?_)
 refine wp_seq_k fun K3 hK3 => ?_
 rcases (show 0 < cnt ∨ ¬ 0 < cnt by omega) with hk | hk
 ·
  have hif : (if 0 < cnt then max dp (pd + vd - 1) else dp) = max dp (pd + vd - 1) := if_pos hk
  refine wp_rs fun K5 hK5 => ?_
  refine hF.v (x_fa0 fa93_0 rfl) fun a hF => ?_
  refine hF.v (x_load rfl (m_load flat3 (m5.cell (j := 0) rfl))) fun a hF => ?_
  refine hF.v (gtrT (by omega) rfl rfl) fun a hF => ?_
  refine s_end (hK5 _ _ ?_)
  refine wp_if hF rfl ?_
  refine wp_region_lit ?_
  refine hF.v (x_fa0 fa70_1 rfl) fun a hF => ?_
  refine hF.v (x_load rfl (m_load flat3 (m3.cell (j := 1) rfl))) fun a hF => ?_
  refine hF.v (x_fa0 fa93_1 rfl) fun a hF => ?_
  refine hF.v (x_load rfl (m_load flat3 (m5.cell (j := 1) rfl))) fun a hF => ?_
  refine hF.v (x_fa0 fa70_1 rfl) fun a hF => ?_
  refine hF.v (x_load rfl (m_load flat3 (m4.cell (j := 1) rfl))) fun a hF => ?_
  refine hF.v (x_add (by omega) (by omega) rfl rfl) fun a hF => ?_
  refine hF.v (x_sub (by omega) (by omega) rfl rfl) fun a hF => ?_
  refine hF.v (x_imax rfl rfl) fun a hF => ?_
  refine hF.v (x_fa0 fa70_1 rfl) fun a hF => ?_
  refine s_put hF rfl rfl flat3 m7 (by first | (simp; done) | (simp [tc, lc]; done) | decide) rfl fun w14 m7 o15 => ?_
  have so15 := o15.size
  have hB := hB.trans (o15.below (by omega))
  refine s_end (hK3 _ _ ?_)
  refine wp_rs fun K6 hK6 => ?_
  refine hF.v (x_ldW wide70 m7 rfl rfl) fun a hF => ?_
  refine s_callB [_] hF E93 rfl (by decide) (isIn105 _ _ w14) fun w16 a B17 hF => ?_
  have sB17 := B17.size
  have hB := bt hB B17
  refine hF.v (x_assign rfl) fun a hF => ?_
  refine s_end (hK6 _ _ ?_)
  refine wp_ret (res_slot hF rfl rfl ⟨congrArg (fun b => Ending.returned (Value.bool b)) (decide_eq_decide.2 (by unfold holdsP; rw [hif])), hB⟩)
 ·
  have hif : (if 0 < cnt then max dp (pd + vd - 1) else dp) = dp := if_neg hk
  refine wp_rs fun K7 hK7 => ?_
  refine hF.v (x_fa0 fa93_0 rfl) fun a hF => ?_
  refine hF.v (x_load rfl (m_load flat3 (m5.cell (j := 0) rfl))) fun a hF => ?_
  refine hF.v (gtrF (by omega) rfl rfl) fun a hF => ?_
  refine s_end (hK7 _ _ ?_)
  refine wp_if hF rfl ?_
  refine wp_skip (hK3 _ _ ?_)
  refine wp_rs fun K8 hK8 => ?_
  refine hF.v (x_ldW wide70 m7 rfl rfl) fun a hF => ?_
  refine s_callB [_] hF E93 rfl (by decide) (isIn105 _ _ w12) fun w18 a B19 hF => ?_
  have sB19 := B19.size
  have hB := bt hB B19
  refine hF.v (x_assign rfl) fun a hF => ?_
  refine s_end (hK8 _ _ ?_)
  refine wp_ret (res_slot hF rfl rfl ⟨congrArg (fun b => Ending.returned (Value.bool b)) (decide_eq_decide.2 (by unfold holdsP; rw [hif])), hB⟩)

set_option maxRecDepth 100000 in
set_option maxHeartbeats 400000 in
theorem isGreat66 (c : CT) (x : C8) (w0 : World) (hx : RC w0 (fun k => k < w0.heap.size) c x) : Calls Try.prog 52 #[tv x] w0 fun e w' => e = .returned (.bool (decide (¬ c.ok))) ∧ Below w0.heap.size w0 w' := by
 have hB := Below.refl w0.heap.size w0
 have sB := hB.size
 refine calls_fs 12 [(0, tv x)] Try.func52 rfl rfl rfl rfl rfl fun a hF => ?_
 refine wp_rs fun K1 hK1 => ?_
 refine s_box (tc x) hF (by decide) rfl rfl fun w2 b1 a eb1 m1 B3 zb1 hF => ?_
 have sB3 := B3.size
 have hB := bt hB B3
 refine hF.v (x_assign rfl) fun a hF => ?_
 refine s_end (hK1 _ _ ?_)
 refine wp_rs fun K2 hK2 => ?_
 refine hF.v (x_ldW wide27 m1 rfl rfl) fun a hF => ?_
 refine s_callB [_] hF E48 rfl (by decide) (measure62 c x w2 (hx.bel hB)) fun w4 a B5 hF => ?_
 have sB5 := B5.size
 have hB := bt hB B5
 refine hF.v (x_move rfl) fun a hF => ?_
 refine hF.v (x_ext rfl rfl) fun a hF => ?_
 refine hF.v (x_ext rfl rfl) fun a hF => ?_
 refine s_alloc hF (by decide) zero70 fun w6 b3 a eb3 m3 B7 zb3 hF => ?_
 have sB7 := B7.size
 have hB := bt hB B7
 refine s_putW hF rfl rfl (size_wide wide70) m3 rfl (oneII _ _) fun w10 m3 o11 => ?_
 have so11 := o11.size
 have hB := hB.trans (o11.below (by omega))
 refine hF.v (x_assign rfl) fun a hF => ?_
 refine s_end (hK2 _ _ ?_)
 refine wp_rs fun K3 hK3 => ?_
 refine hF.v (x_move rfl) fun a hF => ?_
 refine hF.v (x_not rfl) fun a hF => ?_
 refine hF.v (x_assign rfl) fun a hF => ?_
 refine s_end (hK3 _ _ ?_)
 refine wp_ret (res_slot hF rfl rfl ⟨by rw [decide_not], hB⟩)

set_option maxRecDepth 100000 in
set_option maxHeartbeats 400000 in
theorem applied63 (n dp : Int) (c : CT) (x : C8) (w0 : World) (hx : RC w0 (fun k => k < w0.heap.size) c x) (h1 : 0 ≤ n ∧ n ≤ 100000) (h2 : 0 ≤ dp ∧ dp ≤ 100000) : Calls Try.prog 49 #[.agg [.int .i64 n, .int .i64 dp].toArray, tv x] w0 fun e w' => e = .returned (.tuple #[.agg [.int .i64 (1 + n + c.mN), .int .i64 (1 + max dp c.mD)].toArray, .bool (decide (c.ok ∧ 1 + n + (c.mN : Int) ≤ 20000 ∧ 1 + max dp (c.mD : Int) ≤ 2000))]) ∧ Below w0.heap.size w0 w' := by
 have hmN : c.mN ≤ 20000 := by unfold CT.mN; split; (· rename_i h; exact h.1); omega
 have hmD : c.mD ≤ 2000 := by unfold CT.mD; split; (· rename_i h; exact h.2); omega
 have hB := Below.refl w0.heap.size w0
 have sB := hB.size
 refine calls_fs 33 [(0, .agg [.int .i64 n, .int .i64 dp].toArray), (1, tv x)] Try.func49 rfl rfl rfl rfl rfl fun a hF => ?_
 refine wp_rs fun K1 hK1 => ?_
 refine s_box ([.int .i64 n, .int .i64 dp]) hF (by decide) rfl rfl fun w2 b2 a eb2 m2 B3 zb2 hF => ?_
 have sB3 := B3.size
 have hB := bt hB B3
 refine s_box (tc x) hF (by decide) rfl rfl fun w4 b3 a eb3 m3 B5 zb3 hF => ?_
 have sB5 := B5.size
 have hB := bt hB B5
 have m2 := m2.old B5
 refine s_alloc hF (by decide) zero70 fun w6 b4 a eb4 m4 B7 zb4 hF => ?_
 have sB7 := B7.size
 have hB := bt hB B7
 have m2 := m2.old B7
 have m3 := m3.old B7
 refine hF.v (x_assign rfl) fun a hF => ?_
 refine s_end (hK1 _ _ ?_)
 refine wp_rs fun K2 hK2 => ?_
 refine hF.v (x_ldW wide27 m3 rfl rfl) fun a hF => ?_
 refine s_callB [_] hF E48 rfl (by decide) (measure62 c x w6 (hx.bel hB)) fun w8 a B9 hF => ?_
 have sB9 := B9.size
 have hB := bt hB B9
 have m2 := m2.old B9
 have m3 := m3.old B9
 have m4 := m4.old B9
 refine hF.v (x_move rfl) fun a hF => ?_
 refine hF.v (x_ext rfl rfl) fun a hF => ?_
 refine hF.v (x_ext rfl rfl) fun a hF => ?_
 refine s_alloc hF (by decide) zero70 fun w10 b6 a eb6 m6 B11 zb6 hF => ?_
 have sB11 := B11.size
 have hB := bt hB B11
 have m2 := m2.old B11
 have m3 := m3.old B11
 have m4 := m4.old B11
 refine s_putW hF rfl rfl (size_wide wide70) m6 rfl (oneII _ _) fun w14 m6 o15 => ?_
 have so15 := o15.size
 have hB := hB.trans (o15.below (by omega))
 have m2 := m2.only o15 (by omega)
 have m3 := m3.only o15 (by omega)
 have m4 := m4.only o15 (by omega)
 refine hF.v (x_assign rfl) fun a hF => ?_
 refine s_end (hK2 _ _ ?_)
 refine wp_rs fun K3 hK3 => ?_
 refine hF.v (x_fa0 fa70_0 rfl) fun a hF => ?_
 refine hF.v (x_load rfl (m_load flat3 (m2.cell (j := 0) rfl))) fun a hF => ?_
 refine hF.v (x_add (by omega) (by omega) rfl rfl) fun a hF => ?_
 refine hF.v (x_fa0 fa70_0 rfl) fun a hF => ?_
 refine hF.v (x_load rfl (m_load flat3 (m6.cell (j := 0) rfl))) fun a hF => ?_
 refine hF.v (x_add (by omega) (by omega) rfl rfl) fun a hF => ?_
 refine hF.v (x_fa0 fa70_1 rfl) fun a hF => ?_
 refine hF.v (x_load rfl (m_load flat3 (m2.cell (j := 1) rfl))) fun a hF => ?_
 refine hF.v (x_fa0 fa70_1 rfl) fun a hF => ?_
 refine hF.v (x_load rfl (m_load flat3 (m6.cell (j := 1) rfl))) fun a hF => ?_
 refine hF.v (x_imax rfl rfl) fun a hF => ?_
 refine hF.v (x_add (by omega) (by omega) rfl rfl) fun a hF => ?_
 refine hF.v (x_build (vs := [(0, _), (1, _)]) rfl (b70_01 _ _ _)) fun a hF => ?_
 refine s_alloc hF (by decide) zero70 fun w16 b8 a eb8 m8 B17 zb8 hF => ?_
 have sB17 := B17.size
 have hB := bt hB B17
 have m2 := m2.old B17
 have m3 := m3.old B17
 have m4 := m4.old B17
 have m6 := m6.old B17
 refine s_putW hF rfl rfl (size_wide wide70) m8 rfl (oneII _ _) fun w20 m8 o21 => ?_
 have so21 := o21.size
 have hB := hB.trans (o21.below (by omega))
 have m2 := m2.only o21 (by omega)
 have m3 := m3.only o21 (by omega)
 have m4 := m4.only o21 (by omega)
 have m6 := m6.only o21 (by omega)
 refine s_end (hK3 _ _ ?_)
 by_cases hk : c.ok
 ·
  rw [decide_eq_true hk] at hF
  refine dk2_seq (b4) (b4) (ops := regOps Try.f49 3) (N := 8) (by kernel_rfl) wide_orders (by kernel_rfl) fun w22 hw22 B23 hS K5 hK5 => ?_
  have zw22 : w22.heap.size = w20.heap.size := by rw [hw22]
  have sB23 := B23.size
  have hB := bt hB B23
  have m2 := m2.old B23
  have m3 := m3.old B23
  have m4 := m4.old B23
  have m6 := m6.old B23
  have m8 := m8.old B23
  have m2_d := m2
  have m3_d := m3
  have m4_d := m4
  have m6_d := m6
  have m8_d := m8
  have hB_d := hB
  refine hF.d 0 27 (.load 72 (.tmp 8)) hS (fun W hW => x_ldW wide70 (m8_d.k2 hW (by omega)) rfl rfl) fun a hF => ?_
  refine hF.d 1 28 (.move (.tmp 7)) hS (fun W hW => x_move rfl) fun a hF => ?_
  refine hF.d 2 29 (.move (.tmp 28)) hS (fun W hW => x_move rfl) fun a hF => ?_
  refine hF.g 3 30 29 2 true (.load 72 (.tmp 8)) hS rfl (fun W hW => x_ldW wide70 (m8_d.k2 hW (by omega)) rfl rfl) fun a hF => ?_
  refine d_oneg 4 29 (some 31) (.call (.mk (.value (.func 93)) #[(.tmp 30)] #[72])) (j := 2) (want := true) hF (by kernel_rfl) (by kernel_rfl) (by kernel_rfl) rfl fun ty pos af => ?_
  refine s_callB [_] hF E93 rfl (by decide) (isIn105 _ _ w22) fun w24 a B25 hF => ?_
  have sB25 := B25.size
  have hB := bt hB B25
  have m4 := m4.old B25
  have hS := hS.below B25
  refine s_end ⟨hS, ?_⟩
  refine hF.d 5 32 (.pick (.tmp 29) (.tmp 31) (.const (.bool false))) hS (fun W hW => x_pick (b := true) rfl rfl) fun a hF => ?_
  refine d1 6 none (.store 72 (.tmp 4) (.tmp 27)) fun ty pos af => ?_
  refine s_putW hF rfl rfl (size_wide wide70) m4 rfl (oneII _ _) fun w28 m4 o29 => ?_
  have so29 := o29.size
  have hB := hB.trans (o29.below (by omega))
  have hS := hS.only o29 (by omega)
  refine s_end ⟨hS, ?_⟩
  refine hF.d 7 5 (.assign (.tmp 32)) hS (fun W hW => x_assign rfl) fun a hF => ?_
  refine d_end (by kernel_rfl) (hK5 _ _ ?_)
  refine wp_ret (res_ct (cs := [_, _]) hF rfl rfl m4 wide70 rfl ⟨by simp only [hk, true_and], hB⟩)
 ·
  rw [decide_eq_false hk] at hF
  refine dk2_seq (b4) (b4) (ops := regOps Try.f49 3) (N := 8) (by kernel_rfl) wide_orders (by kernel_rfl) fun w30 hw30 B31 hS K6 hK6 => ?_
  have zw30 : w30.heap.size = w20.heap.size := by rw [hw30]
  have sB31 := B31.size
  have hB := bt hB B31
  have m2 := m2.old B31
  have m3 := m3.old B31
  have m4 := m4.old B31
  have m6 := m6.old B31
  have m8 := m8.old B31
  have m2_d := m2
  have m3_d := m3
  have m4_d := m4
  have m6_d := m6
  have m8_d := m8
  have hB_d := hB
  refine hF.d 0 27 (.load 72 (.tmp 8)) hS (fun W hW => x_ldW wide70 (m8_d.k2 hW (by omega)) rfl rfl) fun a hF => ?_
  refine hF.d 1 28 (.move (.tmp 7)) hS (fun W hW => x_move rfl) fun a hF => ?_
  refine hF.d 2 29 (.move (.tmp 28)) hS (fun W hW => x_move rfl) fun a hF => ?_
  refine d_skip 3 30 29 (j := 2) (want := true) (op := (.load 72 (.tmp 8))) hF hS (by kernel_rfl) (by kernel_rfl) rfl (by kernel_rfl) (by decide) fun a hF => ?_
  refine d_skip 4 31 29 (j := 2) (want := true) (op := (.call (.mk (.value (.func 93)) #[(.tmp 30)] #[72]))) hF hS (by kernel_rfl) (by kernel_rfl) rfl (by kernel_rfl) (by decide) fun a hF => ?_
  refine hF.d 5 32 (.pick (.tmp 29) (.tmp 31) (.const (.bool false))) hS (fun W hW => x_pick (b := false) rfl rfl) fun a hF => ?_
  refine d1 6 none (.store 72 (.tmp 4) (.tmp 27)) fun ty pos af => ?_
  refine s_putW hF rfl rfl (size_wide wide70) m4 rfl (oneII _ _) fun w34 m4 o35 => ?_
  have so35 := o35.size
  have hB := hB.trans (o35.below (by omega))
  have hS := hS.only o35 (by omega)
  refine s_end ⟨hS, ?_⟩
  refine hF.d 7 5 (.assign (.tmp 32)) hS (fun W hW => x_assign rfl) fun a hF => ?_
  refine d_end (by kernel_rfl) (hK6 _ _ ?_)
  refine wp_ret (res_ct (cs := [_, _]) hF rfl rfl m4 wide70 rfl ⟨by rw [decide_eq_false (fun h => hk h.1)], hB⟩)
end Go.Proofs.Ytbhhbfdoadecgaa

namespace Go.Proofs.Ytbhhbfdoadecgaa
open Go.RowKit Go.Shelf
set_option linter.unusedVariables false
set_option linter.unusedSimpArgs false

/-- x reads as a term that says p. -/
def RT (W : World) (p : PT) (x : C8) : Prop := RE W (fun k => k < W.heap.size) p x
theorem RE.rt {W : World} {A : Nat → Prop} {p : PT} {x : C8} (h : RE W A p x) : RT W p x := h.valid.mono (fun k hk => hk.2)
theorem RT.below {W W' : World} {p : PT} {x : C8} (h : RT W p x) (hB : Below W.heap.size W W') : RT W' p x := (RE.below h hB).rt
theorem RE_bare (W : World) (A : Nat → Prop) : RE W A (.odd 0) ⟨0, 0, emptyB, (0, 0, nilS), nilS, nilS⟩ := RE_odd (by left; simp [arT]) (RKE.nil W A)
theorem holds83q (n dp vn vd : Int) (q : Int × Int) (w0 : World) (h1 : 0 ≤ n ∧ n ≤ 20000) (h2 : 0 ≤ dp ∧ dp ≤ 20000) (h3 : 0 ≤ vn ∧ vn ≤ 20000) (h4 : 0 ≤ vd ∧ vd ≤ 20000) (h5 : 0 ≤ q.1 ∧ q.1 ≤ 20000) (h6 : 0 ≤ q.2 ∧ q.2 ≤ 20000) :
  Calls Try.prog 57 #[.agg [.int .i64 n, .int .i64 dp].toArray, .agg [.int .i64 vn, .int .i64 vd].toArray, .agg (enc2 q).toArray] w0 fun e w' => e = .returned (.bool (decide (holdsP n dp vn vd q.1 q.2))) ∧ Below w0.heap.size w0 w' := by
 obtain ⟨cnt, pd⟩ := q
 exact holds83 n dp vn vd cnt pd w0 h1 h2 h3 h4 h5 h6
def PT.inst (t v : PT) : PT := if t.ok ∧ v.ok ∧ (PT.put v t 0).ok then PT.put v t 0 else .odd 0
def cut20 (b : Int) : Int := min (max b (-1048576)) 1048576
def PT.Lift (t : PT) (f b : Int) : PT := if t.ok then t.lift (max f 0) (cut20 b) 0 else .odd 0

set_option maxRecDepth 100000 in
set_option maxHeartbeats 1600000 in
theorem Inst42t (A : Nat → Prop) (c v : CT) (x y : C8) (w0 : World) (hA : ∀ k, A k → k < w0.heap.size) (hxA : RC w0 A c x) (hvA : RC w0 A v y) : Calls Try.prog 23 #[tv x, tv y] w0 fun e w' => ∃ u, e = .returned u ∧ (∃ y, u = tv y ∧ RE w' (AS A w0.heap.size) (PT.inst c.ess v.ess) y ∧ (c.ok ∧ v.ok ∧ (PT.put v.ess c.ess 0).ok → Tt c y)) ∧ Below w0.heap.size w0 w' := by
 have hx := hxA.mono hA
 have hv := hvA.mono hA
 have hin : c.ok ∧ v.ok ∧ (PT.put v.ess c.ess 0).ok → PT.inst c.ess v.ess = PT.put v.ess c.ess 0 := fun h => if_pos ⟨c.ok_ess.2 h.1, v.ok_ess.2 h.2.1, h.2.2⟩
 have hno : ¬ (c.ok ∧ v.ok ∧ (PT.put v.ess c.ess 0).ok) → PT.inst c.ess v.ess = .odd 0 := fun h => if_neg (fun h' => h ⟨c.ok_ess.1 h'.1, v.ok_ess.1 h'.2.1, h'.2.2⟩)
 obtain ⟨q, hq⟩ : ∃ q, q = c.fold Gpl 0 := ⟨_, rfl⟩
 have hg := Gpl_rng c 0
 have hh := holdsP_iff (c := c) (v := v)
 rw [← hq] at hg hh
 have hcd := c.dep_pos
 have hvd := v.dep_pos
 have hB := Below.refl w0.heap.size w0
 have sB := hB.size
 refine calls_fs 38 [(0, tv x), (1, tv y)] Try.func23 rfl rfl rfl rfl rfl fun a hF => ?_
 refine wp_rs fun K1 hK1 => ?_
 refine s_box (tc x) hF (by decide) rfl rfl fun w2 b2 a eb2 m2 B3 zb2 hF => ?_
 have sB3 := B3.size
 have hB := bt hB B3
 refine s_box (tc y) hF (by decide) rfl rfl fun w4 b3 a eb3 m3 B5 zb3 hF => ?_
 have sB5 := B5.size
 have hB := bt hB B5
 have m2 := m2.old B5
 refine s_alloc hF (by decide) zero27 fun w6 b4 a eb4 m4 B7 zb4 hF => ?_
 have sB7 := B7.size
 have hB := bt hB B7
 have m2 := m2.old B7
 have m3 := m3.old B7
 refine s_end (hK1 _ _ ?_)
 refine wp_rs fun K2 hK2 => ?_
 refine hF.v (x_ldW wide27 m2 rfl rfl) fun a hF => ?_
 refine s_callB [_] hF E48 rfl (by decide) (measure62 c x w6 (hx.bel hB)) fun w8 a B9 hF => ?_
 have sB9 := B9.size
 have hB := bt hB B9
 have m2 := m2.old B9
 have m3 := m3.old B9
 have m4 := m4.old B9
 refine hF.v (x_move rfl) fun a hF => ?_
 refine hF.v (x_ext rfl rfl) fun a hF => ?_
 refine hF.v (x_ext rfl rfl) fun a hF => ?_
 refine s_alloc hF (by decide) zero70 fun w10 b5 a eb5 m5 B11 zb5 hF => ?_
 have sB11 := B11.size
 have hB := bt hB B11
 have m2 := m2.old B11
 have m3 := m3.old B11
 have m4 := m4.old B11
 refine s_putW hF rfl rfl (size_wide wide70) m5 rfl (oneII _ _) fun w14 m5 o15 => ?_
 have so15 := o15.size
 have hB := hB.trans (o15.below (by omega))
 have m2 := m2.only o15 (by omega)
 have m3 := m3.only o15 (by omega)
 have m4 := m4.only o15 (by omega)
 refine hF.v (x_assign rfl) fun a hF => ?_
 refine s_end (hK2 _ _ ?_)
 refine wp_rs fun K3 hK3 => ?_
 refine hF.v (x_ldW wide27 m3 rfl rfl) fun a hF => ?_
 refine s_callB [_] hF E48 rfl (by decide) (measure62 v y w14 (hv.bel hB)) fun w16 a B17 hF => ?_
 have sB17 := B17.size
 have hB := bt hB B17
 have m2 := m2.old B17
 have m3 := m3.old B17
 have m4 := m4.old B17
 have m5 := m5.old B17
 refine hF.v (x_move rfl) fun a hF => ?_
 refine hF.v (x_ext rfl rfl) fun a hF => ?_
 refine hF.v (x_ext rfl rfl) fun a hF => ?_
 refine s_alloc hF (by decide) zero70 fun w18 b7 a eb7 m7 B19 zb7 hF => ?_
 have sB19 := B19.size
 have hB := bt hB B19
 have m2 := m2.old B19
 have m3 := m3.old B19
 have m4 := m4.old B19
 have m5 := m5.old B19
 refine s_putW hF rfl rfl (size_wide wide70) m7 rfl (oneII _ _) fun w22 m7 o23 => ?_
 have so23 := o23.size
 have hB := hB.trans (o23.below (by omega))
 have m2 := m2.only o23 (by omega)
 have m3 := m3.only o23 (by omega)
 have m4 := m4.only o23 (by omega)
 have m5 := m5.only o23 (by omega)
 refine hF.v (x_assign rfl) fun a hF => ?_
 refine s_end (hK3 _ _ ?_)
 refine wp_seq_k fun K4 hK4 => ?_
 rcases (show ¬ c.ok ∨ (c.ok ∧ ¬ v.ok) ∨ (c.ok ∧ v.ok ∧ (PT.put v.ess c.ess 0).ok) ∨ (c.ok ∧ v.ok ∧ ¬ (PT.put v.ess c.ess 0).ok) by by_cases h1 : c.ok <;> by_cases h2 : v.ok <;> by_cases h3 : (PT.put v.ess c.ess 0).ok <;> simp [h1, h2, h3]) with hk1 | ⟨hk1, hk2⟩ | ⟨hk1, hk2, hk3⟩ | ⟨hk1, hk2, hk3⟩
 ·
  rw [decide_eq_false hk1] at hF
  refine dk2_seq (b4) (b4) (ops := regOps Try.f23 3) (N := 14) (by kernel_rfl) wide_orders (by kernel_rfl) fun w24 hw24 B25 hS K6 hK6 => ?_
  have zw24 : w24.heap.size = w22.heap.size := by rw [hw24]
  have sB25 := B25.size
  have hB := bt hB B25
  have m2 := m2.old B25
  have m3 := m3.old B25
  have m4 := m4.old B25
  have m5 := m5.old B25
  have m7 := m7.old B25
  have m2_d := m2
  have m3_d := m3
  have m4_d := m4
  have m5_d := m5
  have m7_d := m7
  have hB_d := hB
  refine hF.d 0 19 (.move (.tmp 6)) hS (fun W hW => x_move rfl) fun a hF => ?_
  refine hF.d 1 20 (.unOp .not 4 (.tmp 19)) hS (fun W hW => x_not rfl) fun a hF => ?_
  refine hF.d 2 21 (.move (.tmp 20)) hS (fun W hW => x_move rfl) fun a hF => ?_
  refine d_skip 3 22 21 (j := 2) (want := false) (op := (.move (.tmp 8))) hF hS (by kernel_rfl) (by kernel_rfl) rfl (by kernel_rfl) (by decide) fun a hF => ?_
  refine d_skip 4 23 21 (j := 2) (want := false) (op := (.unOp .not 4 (.tmp 22))) hF hS (by kernel_rfl) (by kernel_rfl) rfl (by kernel_rfl) (by decide) fun a hF => ?_
  refine hF.d 5 24 (.pick (.tmp 21) (.const (.bool true)) (.tmp 23)) hS (fun W hW => x_pick (b := true) rfl rfl) fun a hF => ?_
  refine hF.d 6 25 (.move (.tmp 24)) hS (fun W hW => x_move rfl) fun a hF => ?_
  refine d_skip 7 26 25 (j := 6) (want := false) (op := (.load 72 (.tmp 5))) hF hS (by kernel_rfl) (by kernel_rfl) rfl (by kernel_rfl) (by decide) fun a hF => ?_
  refine d_skip 8 27 25 (j := 6) (want := false) (op := (.load 72 (.tmp 7))) hF hS (by kernel_rfl) (by kernel_rfl) rfl (by kernel_rfl) (by decide) fun a hF => ?_
  refine d_skip 9 28 25 (j := 6) (want := false) (op := (.load 27 (.tmp 2))) hF hS (by kernel_rfl) (by kernel_rfl) rfl (by kernel_rfl) (by decide) fun a hF => ?_
  refine d_skip 10 29 25 (j := 6) (want := false) (op := (.call (.mk (.value (.func 58)) #[(.tmp 28)] #[27]))) hF hS (by kernel_rfl) (by kernel_rfl) rfl (by kernel_rfl) (by decide) fun a hF => ?_
  refine d_skip 11 30 25 (j := 6) (want := false) (op := (.call (.mk (.value (.func 57)) #[(.tmp 26), (.tmp 27), (.tmp 29)] #[72, 72, 81]))) hF hS (by kernel_rfl) (by kernel_rfl) rfl (by kernel_rfl) (by decide) fun a hF => ?_
  refine d_skip 12 31 25 (j := 6) (want := false) (op := (.unOp .not 4 (.tmp 30))) hF hS (by kernel_rfl) (by kernel_rfl) rfl (by kernel_rfl) (by decide) fun a hF => ?_
  refine hF.d 13 32 (.pick (.tmp 25) (.const (.bool true)) (.tmp 31)) hS (fun W hW => x_pick (b := true) rfl rfl) fun a hF => ?_
  refine d_end (by kernel_rfl) (hK6 _ _ ?_)
  refine wp_if hF rfl ?_
  refine wp_rs fun K7 hK7 => ?_
  refine hF.v (x_build (vs := []) rfl (b27_ _)) fun a hF => ?_
  refine s_putW hF rfl rfl (size_wide wide27) m4 rfl one8 fun w28 m4 o29 => ?_
  have so29 := o29.size
  have hB := hB.trans (o29.below (by omega))
  refine s_end (hK7 _ _ ?_)
  refine wp_ret (then_ret (res_cell hF rfl rfl m4 wide27 ⟨_, rfl, ⟨⟨0, 0, emptyB, (0, 0, nilS), nilS, nilS⟩, rfl, by rw [hno (fun h => hk1 h.1)]; exact RE_bare _ _, fun h => absurd h (fun h => hk1 h.1)⟩, hB⟩))
 ·
  rw [decide_eq_true hk1, decide_eq_false hk2] at hF
  refine dk2_seq (b4) (b4) (ops := regOps Try.f23 3) (N := 14) (by kernel_rfl) wide_orders (by kernel_rfl) fun w30 hw30 B31 hS K8 hK8 => ?_
  have zw30 : w30.heap.size = w22.heap.size := by rw [hw30]
  have sB31 := B31.size
  have hB := bt hB B31
  have m2 := m2.old B31
  have m3 := m3.old B31
  have m4 := m4.old B31
  have m5 := m5.old B31
  have m7 := m7.old B31
  have m2_d := m2
  have m3_d := m3
  have m4_d := m4
  have m5_d := m5
  have m7_d := m7
  have hB_d := hB
  refine hF.d 0 19 (.move (.tmp 6)) hS (fun W hW => x_move rfl) fun a hF => ?_
  refine hF.d 1 20 (.unOp .not 4 (.tmp 19)) hS (fun W hW => x_not rfl) fun a hF => ?_
  refine hF.d 2 21 (.move (.tmp 20)) hS (fun W hW => x_move rfl) fun a hF => ?_
  refine hF.g 3 22 21 2 false (.move (.tmp 8)) hS rfl (fun W hW => x_move rfl) fun a hF => ?_
  refine hF.g 4 23 21 2 false (.unOp .not 4 (.tmp 22)) hS rfl (fun W hW => x_not rfl) fun a hF => ?_
  refine hF.d 5 24 (.pick (.tmp 21) (.const (.bool true)) (.tmp 23)) hS (fun W hW => x_pick (b := false) rfl rfl) fun a hF => ?_
  refine hF.d 6 25 (.move (.tmp 24)) hS (fun W hW => x_move rfl) fun a hF => ?_
  refine d_skip 7 26 25 (j := 6) (want := false) (op := (.load 72 (.tmp 5))) hF hS (by kernel_rfl) (by kernel_rfl) rfl (by kernel_rfl) (by decide) fun a hF => ?_
  refine d_skip 8 27 25 (j := 6) (want := false) (op := (.load 72 (.tmp 7))) hF hS (by kernel_rfl) (by kernel_rfl) rfl (by kernel_rfl) (by decide) fun a hF => ?_
  refine d_skip 9 28 25 (j := 6) (want := false) (op := (.load 27 (.tmp 2))) hF hS (by kernel_rfl) (by kernel_rfl) rfl (by kernel_rfl) (by decide) fun a hF => ?_
  refine d_skip 10 29 25 (j := 6) (want := false) (op := (.call (.mk (.value (.func 58)) #[(.tmp 28)] #[27]))) hF hS (by kernel_rfl) (by kernel_rfl) rfl (by kernel_rfl) (by decide) fun a hF => ?_
  refine d_skip 11 30 25 (j := 6) (want := false) (op := (.call (.mk (.value (.func 57)) #[(.tmp 26), (.tmp 27), (.tmp 29)] #[72, 72, 81]))) hF hS (by kernel_rfl) (by kernel_rfl) rfl (by kernel_rfl) (by decide) fun a hF => ?_
  refine d_skip 12 31 25 (j := 6) (want := false) (op := (.unOp .not 4 (.tmp 30))) hF hS (by kernel_rfl) (by kernel_rfl) rfl (by kernel_rfl) (by decide) fun a hF => ?_
  refine hF.d 13 32 (.pick (.tmp 25) (.const (.bool true)) (.tmp 31)) hS (fun W hW => x_pick (b := true) rfl rfl) fun a hF => ?_
  refine d_end (by kernel_rfl) (hK8 _ _ ?_)
  refine wp_if hF rfl ?_
  refine wp_rs fun K9 hK9 => ?_
  refine hF.v (x_build (vs := []) rfl (b27_ _)) fun a hF => ?_
  refine s_putW hF rfl rfl (size_wide wide27) m4 rfl one8 fun w34 m4 o35 => ?_
  have so35 := o35.size
  have hB := hB.trans (o35.below (by omega))
  refine s_end (hK9 _ _ ?_)
  refine wp_ret (then_ret (res_cell hF rfl rfl m4 wide27 ⟨_, rfl, ⟨⟨0, 0, emptyB, (0, 0, nilS), nilS, nilS⟩, rfl, by rw [hno (fun h => hk2 h.2.1)]; exact RE_bare _ _, fun h => absurd h (fun h => hk2 h.2.1)⟩, hB⟩))
 ·
  rw [decide_eq_true hk1, decide_eq_true hk2] at hF
  rw [show c.mN = c.size from if_pos hk1, show c.mD = c.dep from if_pos hk1] at m5
  rw [show v.mN = v.size from if_pos hk2, show v.mD = v.dep from if_pos hk2] at m7
  have hk3b := decide_eq_true (hh.2 hk3)
  refine dk2_seq (b4) (b4) (ops := regOps Try.f23 3) (N := 14) (by kernel_rfl) wide_orders (by kernel_rfl) fun w36 hw36 B37 hS K10 hK10 => ?_
  have zw36 : w36.heap.size = w22.heap.size := by rw [hw36]
  have sB37 := B37.size
  have hB := bt hB B37
  have m2 := m2.old B37
  have m3 := m3.old B37
  have m4 := m4.old B37
  have m5 := m5.old B37
  have m7 := m7.old B37
  have m2_d := m2
  have m3_d := m3
  have m4_d := m4
  have m5_d := m5
  have m7_d := m7
  have hB_d := hB
  refine hF.d 0 19 (.move (.tmp 6)) hS (fun W hW => x_move rfl) fun a hF => ?_
  refine hF.d 1 20 (.unOp .not 4 (.tmp 19)) hS (fun W hW => x_not rfl) fun a hF => ?_
  refine hF.d 2 21 (.move (.tmp 20)) hS (fun W hW => x_move rfl) fun a hF => ?_
  refine hF.g 3 22 21 2 false (.move (.tmp 8)) hS rfl (fun W hW => x_move rfl) fun a hF => ?_
  refine hF.g 4 23 21 2 false (.unOp .not 4 (.tmp 22)) hS rfl (fun W hW => x_not rfl) fun a hF => ?_
  refine hF.d 5 24 (.pick (.tmp 21) (.const (.bool true)) (.tmp 23)) hS (fun W hW => x_pick (b := false) rfl rfl) fun a hF => ?_
  refine hF.d 6 25 (.move (.tmp 24)) hS (fun W hW => x_move rfl) fun a hF => ?_
  refine hF.g 7 26 25 6 false (.load 72 (.tmp 5)) hS rfl (fun W hW => x_ldW wide70 (m5_d.k2 hW (by omega)) rfl rfl) fun a hF => ?_
  refine hF.g 8 27 25 6 false (.load 72 (.tmp 7)) hS rfl (fun W hW => x_ldW wide70 (m7_d.k2 hW (by omega)) rfl rfl) fun a hF => ?_
  refine hF.g 9 28 25 6 false (.load 27 (.tmp 2)) hS rfl (fun W hW => x_ldW wide27 (m2_d.k2 hW (by omega)) rfl rfl) fun a hF => ?_
  refine d_oneg 10 25 (some 29) (.call (.mk (.value (.func 58)) #[(.tmp 28)] #[27])) (j := 6) (want := false) hF (by kernel_rfl) (by kernel_rfl) (by kernel_rfl) rfl fun ty pos af => ?_
  refine s_callB [_] hF E58 rfl (by decide) ((placesOf84 c x w36 (hx.bel hB) hk1).mono fun e w' h => ⟨by rw [h.1, ← hq], h.2⟩) fun w38 a B39 hF => ?_
  have sB39 := B39.size
  have hB := bt hB B39
  have m2 := m2.old B39
  have m3 := m3.old B39
  have m4 := m4.old B39
  have m5 := m5.old B39
  have m7 := m7.old B39
  have hS := hS.below B39
  refine s_end ⟨hS, ?_⟩
  refine d_oneg 11 25 (some 30) (.call (.mk (.value (.func 57)) #[(.tmp 26), (.tmp 27), (.tmp 29)] #[72, 72, 81])) (j := 6) (want := false) hF (by kernel_rfl) (by kernel_rfl) (by kernel_rfl) rfl fun ty pos af => ?_
  refine s_callB [_, _, _] hF E57 rfl (by decide) ((holds83q c.size c.dep v.size v.dep q w38 (by have := hk1.1; omega) (by have := hk1.2; omega) (by have := hk2.1; omega) (by have := hk2.2; omega) (by have := hk1.1; omega) (by have := hk1.2; omega)).mono fun e w' h => ⟨by rw [h.1, hk3b], h.2⟩) fun w40 a B41 hF => ?_
  have sB41 := B41.size
  have hB := bt hB B41
  have m2 := m2.old B41
  have m3 := m3.old B41
  have m4 := m4.old B41
  have m5 := m5.old B41
  have m7 := m7.old B41
  have hS := hS.below B41
  refine s_end ⟨hS, ?_⟩
  refine hF.g 12 31 25 6 false (.unOp .not 4 (.tmp 30)) hS rfl (fun W hW => x_not rfl) fun a hF => ?_
  refine hF.d 13 32 (.pick (.tmp 25) (.const (.bool true)) (.tmp 31)) hS (fun W hW => x_pick (b := false) rfl rfl) fun a hF => ?_
  refine d_end (by kernel_rfl) (hK10 _ _ ?_)
  refine wp_if hF rfl ?_
  refine wp_skip (hK4 _ _ ?_)
  refine dk2_seq (b4) (b4) (ops := regOps Try.f23 5) (N := 5) (by kernel_rfl) wide_orders (by kernel_rfl) fun w42 hw42 B43 hS K11 hK11 => ?_
  have zw42 : w42.heap.size = w40.heap.size := by rw [hw42]
  have sB43 := B43.size
  have hB := bt hB B43
  have m2 := m2.old B43
  have m3 := m3.old B43
  have m4 := m4.old B43
  have m5 := m5.old B43
  have m7 := m7.old B43
  have m2_d := m2
  have m3_d := m3
  have m4_d := m4
  have m5_d := m5
  have m7_d := m7
  have hB_d := hB
  refine hF.d 1 35 (.load 27 (.tmp 2)) hS (fun W hW => x_ldW wide27 (m2_d.k2 hW (by omega)) rfl rfl) fun a hF => ?_
  refine hF.d 2 36 (.load 27 (.tmp 3)) hS (fun W hW => x_ldW wide27 (m3_d.k2 hW (by omega)) rfl rfl) fun a hF => ?_
  refine d1 0 (some 34) (.call (.mk (.value (.func 42)) #[] #[])) fun ty pos af => ?_
  refine s_callR (R := fun v w' => ∃ br, v = .pointer (some ⟨br, 0, none⟩) ∧ w42.heap.size ≤ br ∧ Blk w' br 110 [.int .i64 2147483647]) [] hF E42 rfl (by decide) (newRoom56 w42) ?_
  rintro _ w44 a ⟨br, rfl, hbrw, mbr⟩ B45 hF
  have sB45 := B45.size
  have hB := bt hB B45
  have m4 := m4.old B45
  have hS := hS.below B45
  have hR : Room w44 br := ⟨_, mbr, by decide, by decide⟩
  have hbrl := hR.lt
  refine s_end ⟨hS, ?_⟩
  refine d1 3 (some 37) (.call (.mk (.value (.func 59)) #[(.tmp 34), (.tmp 35), (.tmp 36)] #[66, 27, 27])) fun ty pos af => ?_
  refine s_call (R := fun u w' => ((∃ y, u = tv y ∧ RE w' (AS A w44.heap.size) (PT.put v.ess c.ess 0) y ∧ Tt c y) ∧ Room w' br) ∧ Ktw br br w44 w') hF [_, _, _] E59 rfl (by decide) (put85 w44 br (by omega) A (fun k hk => by have := hA k hk; exact ⟨by omega, by omega⟩) c x (hxA.keep hB.size (fun k hk _ => hB.block k (hA k hk))) v y (hvA.keep hB.size (fun k hk _ => hB.block k (hA k hk))) (by have := hk2.2; omega) (by have := hk1.2; omega) hR) ?_
  rintro _ w46 a ⟨⟨⟨y9, rfl, hy9, hT9⟩, hR⟩, k47⟩ hF
  have sk47 := k47.size
  have hB := k47.under hB (by omega)
  have m4 := m4.k2 k47 (by omega)
  have hS := hS.trans k47 (by omega)
  refine s_end ⟨hS, ?_⟩
  refine d1 4 none (.store 27 (.tmp 4) (.tmp 37)) fun ty pos af => ?_
  refine s_putW hF rfl rfl (size_wide wide27) m4 rfl hy9.one fun w50 m4 o51 => ?_
  have so51 := o51.size
  have hB := hB.trans (o51.below (by omega))
  have hS := hS.only o51 (by omega)
  have hy9 := hy9.only o51 (by intro h; rcases h with h | h; (have := hA _ h; omega); omega)
  refine s_end ⟨hS, ?_⟩
  refine d_end (by kernel_rfl) (hK11 _ _ ?_)
  refine wp_ret (res_cell hF rfl rfl m4 wide27 ⟨_, rfl, ⟨y9, rfl, by rw [hin ⟨hk1, hk2, hk3⟩]; exact hy9.mono (AS.mono (by omega)), fun _ => hT9⟩, hB⟩)
 ·
  rw [decide_eq_true hk1, decide_eq_true hk2] at hF
  rw [show c.mN = c.size from if_pos hk1, show c.mD = c.dep from if_pos hk1] at m5
  rw [show v.mN = v.size from if_pos hk2, show v.mD = v.dep from if_pos hk2] at m7
  have hk3b := decide_eq_false (fun h => hk3 (hh.1 h))
  refine dk2_seq (b4) (b4) (ops := regOps Try.f23 3) (N := 14) (by kernel_rfl) wide_orders (by kernel_rfl) fun w52 hw52 B53 hS K12 hK12 => ?_
  have zw52 : w52.heap.size = w22.heap.size := by rw [hw52]
  have sB53 := B53.size
  have hB := bt hB B53
  have m2 := m2.old B53
  have m3 := m3.old B53
  have m4 := m4.old B53
  have m5 := m5.old B53
  have m7 := m7.old B53
  have m2_d := m2
  have m3_d := m3
  have m4_d := m4
  have m5_d := m5
  have m7_d := m7
  have hB_d := hB
  refine hF.d 0 19 (.move (.tmp 6)) hS (fun W hW => x_move rfl) fun a hF => ?_
  refine hF.d 1 20 (.unOp .not 4 (.tmp 19)) hS (fun W hW => x_not rfl) fun a hF => ?_
  refine hF.d 2 21 (.move (.tmp 20)) hS (fun W hW => x_move rfl) fun a hF => ?_
  refine hF.g 3 22 21 2 false (.move (.tmp 8)) hS rfl (fun W hW => x_move rfl) fun a hF => ?_
  refine hF.g 4 23 21 2 false (.unOp .not 4 (.tmp 22)) hS rfl (fun W hW => x_not rfl) fun a hF => ?_
  refine hF.d 5 24 (.pick (.tmp 21) (.const (.bool true)) (.tmp 23)) hS (fun W hW => x_pick (b := false) rfl rfl) fun a hF => ?_
  refine hF.d 6 25 (.move (.tmp 24)) hS (fun W hW => x_move rfl) fun a hF => ?_
  refine hF.g 7 26 25 6 false (.load 72 (.tmp 5)) hS rfl (fun W hW => x_ldW wide70 (m5_d.k2 hW (by omega)) rfl rfl) fun a hF => ?_
  refine hF.g 8 27 25 6 false (.load 72 (.tmp 7)) hS rfl (fun W hW => x_ldW wide70 (m7_d.k2 hW (by omega)) rfl rfl) fun a hF => ?_
  refine hF.g 9 28 25 6 false (.load 27 (.tmp 2)) hS rfl (fun W hW => x_ldW wide27 (m2_d.k2 hW (by omega)) rfl rfl) fun a hF => ?_
  refine d_oneg 10 25 (some 29) (.call (.mk (.value (.func 58)) #[(.tmp 28)] #[27])) (j := 6) (want := false) hF (by kernel_rfl) (by kernel_rfl) (by kernel_rfl) rfl fun ty pos af => ?_
  refine s_callB [_] hF E58 rfl (by decide) ((placesOf84 c x w52 (hx.bel hB) hk1).mono fun e w' h => ⟨by rw [h.1, ← hq], h.2⟩) fun w54 a B55 hF => ?_
  have sB55 := B55.size
  have hB := bt hB B55
  have m4 := m4.old B55
  have hS := hS.below B55
  refine s_end ⟨hS, ?_⟩
  refine d_oneg 11 25 (some 30) (.call (.mk (.value (.func 57)) #[(.tmp 26), (.tmp 27), (.tmp 29)] #[72, 72, 81])) (j := 6) (want := false) hF (by kernel_rfl) (by kernel_rfl) (by kernel_rfl) rfl fun ty pos af => ?_
  refine s_callB [_, _, _] hF E57 rfl (by decide) ((holds83q c.size c.dep v.size v.dep q w54 (by have := hk1.1; omega) (by have := hk1.2; omega) (by have := hk2.1; omega) (by have := hk2.2; omega) (by have := hk1.1; omega) (by have := hk1.2; omega)).mono fun e w' h => ⟨by rw [h.1, hk3b], h.2⟩) fun w56 a B57 hF => ?_
  have sB57 := B57.size
  have hB := bt hB B57
  have m4 := m4.old B57
  have hS := hS.below B57
  refine s_end ⟨hS, ?_⟩
  refine hF.g 12 31 25 6 false (.unOp .not 4 (.tmp 30)) hS rfl (fun W hW => x_not rfl) fun a hF => ?_
  refine hF.d 13 32 (.pick (.tmp 25) (.const (.bool true)) (.tmp 31)) hS (fun W hW => x_pick (b := false) rfl rfl) fun a hF => ?_
  refine d_end (by kernel_rfl) (hK12 _ _ ?_)
  refine wp_if hF rfl ?_
  refine wp_rs fun K13 hK13 => ?_
  refine hF.v (x_build (vs := []) rfl (b27_ _)) fun a hF => ?_
  refine s_putW hF rfl rfl (size_wide wide27) m4 rfl one8 fun w60 m4 o61 => ?_
  have so61 := o61.size
  have hB := hB.trans (o61.below (by omega))
  refine s_end (hK13 _ _ ?_)
  refine wp_ret (then_ret (res_cell hF rfl rfl m4 wide27 ⟨_, rfl, ⟨⟨0, 0, emptyB, (0, 0, nilS), nilS, nilS⟩, rfl, by rw [hno (fun h => hk3 h.2.2)]; exact RE_bare _ _, fun h => absurd h (fun h => hk3 h.2.2)⟩, hB⟩))

theorem Inst42 (c v : CT) (x y : C8) (w0 : World) (hx : RC w0 (fun k => k < w0.heap.size) c x) (hv : RC w0 (fun k => k < w0.heap.size) v y) : Calls Try.prog 23 #[tv x, tv y] w0 fun e w' => ∃ u, e = .returned u ∧ (∃ y, u = tv y ∧ RT w' (PT.inst c.ess v.ess) y) ∧ Below w0.heap.size w0 w' :=
 (Inst42t _ c v x y w0 (fun _ h => h) hx hv).mono fun e w' ⟨u, h1, ⟨y, h2, h3, _⟩, h4⟩ => ⟨u, h1, ⟨y, h2, RE.rt h3⟩, h4⟩

set_option maxRecDepth 100000 in
set_option maxHeartbeats 1600000 in
theorem Const18t (A : Nat → Prop) (s : ByteArray) (ls : List Lv) (v : Value) (w0 : World) (hA : ∀ k, A k → k < w0.heap.size) (hv : RVn w0 A v ls) : Calls Try.prog 12 #[.string s, v] w0 fun e w' => ∃ u, e = .returned u ∧ (∃ y, u = tv y ∧ RE w' (AS A w0.heap.size) (.cst s (ls.map slO)) y) ∧ Below w0.heap.size w0 w' := by
 obtain ⟨av, cv, hve, _⟩ := hv.form
 subst hve
 have hB := Below.refl w0.heap.size w0
 have sB := hB.size
 refine calls_fs 10 [(0, .string s), (1, .slice av ls.length cv)] Try.func12 rfl rfl rfl rfl rfl fun a hF => ?_
 refine wp_rs fun K1 hK1 => ?_
 refine s_alloc hF (by decide) zero27 fun w2 b4 a eb4 m4 B3 zb4 hF => ?_
 have sB3 := B3.size
 have hB := bt hB B3
 refine s_end (hK1 _ _ ?_)
 refine wp_rs fun K2 hK2 => ?_
 refine s_callR (R := fun v w' => ∃ br, v = .pointer (some ⟨br, 0, none⟩) ∧ w2.heap.size ≤ br ∧ Blk w' br 110 [.int .i64 2147483647]) [] hF E42 rfl (by decide) (newRoom56 w2) ?_
 rintro _ w4 a ⟨br, rfl, hbrw, mbr⟩ B5 hF
 have sB5 := B5.size
 have hB := bt hB B5
 have m4 := m4.old B5
 have hR : Room w4 br := ⟨_, mbr, by decide, by decide⟩
 have hbrl := hR.lt
 refine hF.v (x_move rfl) fun a hF => ?_
 refine hF.v (x_move rfl) fun a hF => ?_
 refine hF.v (x_build (vs := [(0, _), (2, _), (4, _)]) rfl (b27_024 _ _ _ _ _ _)) fun a hF => ?_
 refine s_call (R := fun u w' => ((∃ y, u = tv y ∧ RE w' (AS A w4.heap.size) (CT.ess (.cst s ls 0)) y) ∧ Room w' br) ∧ Ktw br br w4 w') hF [_, _] E43 rfl (by decide) (owned57 w4 br (by omega) A (fun k hk => by have := hA k hk; exact ⟨by omega, by omega⟩) (.cst s ls 0) ⟨7, 0, s, (0, 0, nilS), .slice av ls.length cv, nilS⟩ ⟨rfl, rfl, hv.keep hB.size (fun k hk _ => hB.block k (hA k hk)), ⟨_, Rn.nil _ _ 8⟩, ⟨.mk 0 0 [], .mk (xs := []) (Rn.nil _ _ 3) rfl (fun i x l h => by simp at h)⟩, _, hv.keep hB.size (fun k hk _ => hB.block k (hA k hk))⟩ hR) ?_
 rintro _ w6 a ⟨⟨⟨y9, rfl, hy9⟩, hR⟩, k7⟩ hF
 have sk7 := k7.size
 have hB := k7.under hB (by omega)
 have m4 := m4.k2 k7 (by omega)
 refine s_putW hF rfl rfl (size_wide wide27) m4 rfl hy9.one fun w10 m4 o11 => ?_
 have so11 := o11.size
 have hB := hB.trans (o11.below (by omega))
 have hy9 := hy9.only o11 (by intro h; rcases h with h | h; (have := hA _ h; omega); omega)
 refine s_end (hK2 _ _ ?_)
 refine wp_ret (res_cell hF rfl rfl m4 wide27 ⟨_, rfl, ⟨y9, rfl, hy9.mono (AS.mono (by omega))⟩, hB⟩)

theorem Const18 (s : ByteArray) (ls : List Lv) (v : Value) (w0 : World) (hv : RVn w0 (fun k => k < w0.heap.size) v ls) : Calls Try.prog 12 #[.string s, v] w0 fun e w' => ∃ u, e = .returned u ∧ (∃ y, u = tv y ∧ RT w' (.cst s (ls.map slO)) y) ∧ Below w0.heap.size w0 w' :=
 (Const18t _ s ls v w0 (fun _ h => h) hv).mono fun e w' ⟨u, h1, ⟨y, h2, h3⟩, h4⟩ => ⟨u, h1, ⟨y, h2, RE.rt h3⟩, h4⟩

set_option maxRecDepth 100000 in
set_option maxHeartbeats 1600000 in
theorem Lam21t (A : Nat → Prop) (c v : CT) (x y : C8) (w0 : World) (hA : ∀ k, A k → k < w0.heap.size) (hx : RC w0 A c x) (hv : RC w0 A v y) : Calls Try.prog 15 #[tv x, tv y] w0 fun e w' => ∃ u, e = .returned u ∧ (∃ y, u = tv y ∧ RE w' (AS A w0.heap.size) (.two 4 c.ess v.ess) y ∧ Tn 2 y) ∧ Below w0.heap.size w0 w' := by
 have hB := Below.refl w0.heap.size w0
 have sB := hB.size
 refine calls_fs 10 [(0, tv x), (1, tv y)] Try.func15 rfl rfl rfl rfl rfl fun a hF => ?_
 refine wp_rs fun K1 hK1 => ?_
 refine s_box (tc x) hF (by decide) rfl rfl fun w2 b2 a eb2 m2 B3 zb2 hF => ?_
 have sB3 := B3.size
 have hB := bt hB B3
 refine s_box (tc y) hF (by decide) rfl rfl fun w4 b3 a eb3 m3 B5 zb3 hF => ?_
 have sB5 := B5.size
 have hB := bt hB B5
 have m2 := m2.old B5
 refine s_alloc hF (by decide) zero27 fun w6 b4 a eb4 m4 B7 zb4 hF => ?_
 have sB7 := B7.size
 have hB := bt hB B7
 have m2 := m2.old B7
 have m3 := m3.old B7
 refine s_end (hK1 _ _ ?_)
 refine dk2_seq (b4) (b4) (ops := regOps Try.f15 1) (N := 6) (by kernel_rfl) wide_orders (by kernel_rfl) fun w8 hw8 B9 hS K2 hK2 => ?_
 have zw8 : w8.heap.size = w6.heap.size := by rw [hw8]
 have sB9 := B9.size
 have hB := bt hB B9
 have m2 := m2.old B9
 have m3 := m3.old B9
 have m4 := m4.old B9
 have m2_d := m2
 have m3_d := m3
 have m4_d := m4
 have hB_d := hB
 refine hF.d 1 6 (.load 27 (.tmp 2)) hS (fun W hW => x_ldW wide27 (m2_d.k2 hW (by omega)) rfl rfl) fun a hF => ?_
 refine hF.d 2 7 (.load 27 (.tmp 3)) hS (fun W hW => x_ldW wide27 (m3_d.k2 hW (by omega)) rfl rfl) fun a hF => ?_
 refine d_two 0 3 (by kernel_rfl) ?_ ?_
 ·
  refine d_op 0 (some 5) (.call (.mk (.value (.func 42)) #[] #[])) (by kernel_rfl) fun ty pos af => ?_
  refine s_callR (R := fun v w' => ∃ br, v = .pointer (some ⟨br, 0, none⟩) ∧ w8.heap.size ≤ br ∧ Blk w' br 110 [.int .i64 2147483647]) [] hF E42 rfl (by decide) (newRoom56 w8) ?_
  rintro _ w10 a ⟨br, rfl, hbrw, mbr⟩ B11 hF
  have sB11 := B11.size
  have hB := bt hB B11
  have m4 := m4.old B11
  have hS := hS.below B11
  have hR : Room w10 br := ⟨_, mbr, by decide, by decide⟩
  have hbrl := hR.lt
  refine s_end ⟨hS, ?_⟩
  refine d1 3 (some 8) (.buildSlice 25 2 #[(0, (.tmp 6)), (1, (.tmp 7))]) fun ty pos af => ?_
  refine s_litG [tv x, tv y] el25 hF (by decide) rfl (by simp [Value.cells, tc]) rfl (by decide) (by decide) fun w12 bl a ebl ml B13 zbl hF => ?_
  have sB13 := B13.size
  have hB := bt hB B13
  have m4 := m4.old B13
  have hS := hS.below B13
  have hR := hR.below B13
  have ml : Blk w12 bl 27 (tc x ++ tc y) := by simpa [Value.cells] using ml
  refine s_end ⟨hS, ?_⟩
  refine d1 4 (some 9) (.call (.mk (.value (.func 46)) #[(.tmp 5), (.const (.int .i64 4)), (.tmp 8)] #[66, 3, 25])) fun ty pos af => ?_
  have hbl1 := ml.lt
  have hrk : RK w12 (fun k => A k ∨ k = bl) (.slice (some ⟨bl, 0, none⟩) 2 2) [c, v] := ⟨[x, y], ⟨by simpa using Rd.blk ml (n := 2) rfl, fun _ b hb => by simp [Value.ownBlock] at hb; exact .inr hb.symm⟩, rfl, fun i x2 c2 e1 e2 => by rcases i with _ | _ | i; (· simp at e1 e2; subst e1 e2; exact RC.mono (fun k hk => .inl hk) (hx.keep hB.size (fun k hk _ => hB.block k (hA k hk)))); (· simp at e1 e2; subst e1 e2; exact RC.mono (fun k hk => .inl hk) (hv.keep hB.size (fun k hk _ => hB.block k (hA k hk)))); simp at e1⟩
  refine s_call (R := fun u w' => ((∃ v', u = tv ⟨4, 0, emptyB, (0, 0, nilS), nilS, v'⟩ ∧ RKE w' (AS (fun k => A k ∨ k = bl) w12.heap.size) v' (List.map CT.ess [c, v])) ∧ Room w' br) ∧ Ktw br br w12 w') hF [_, _, _] E46 rfl (by decide) (joined60 w12 br (by omega) (fun k => A k ∨ k = bl) (fun k hk => by rcases hk with hk | hk; (have := hA k hk; omega); omega) 4 [c, v] _ hrk (by simp) hR) ?_
  rintro _ w14 a ⟨⟨⟨v9, rfl, hy9⟩, hR⟩, k15⟩ hF
  have sk15 := k15.size
  have hB := k15.under hB (by omega)
  have m4 := m4.k2 k15 (by omega)
  have hS := hS.trans k15 (by omega)
  have h1v9 := hy9.one
  have hT9 : Tn 2 ⟨4, 0, emptyB, (0, 0, nilS), nilS, v9⟩ := by obtain ⟨a, cp, he, _⟩ := hy9.form; exact ⟨a, cp, he⟩
  refine s_end ⟨hS, ?_⟩
  refine d1 5 none (.store 27 (.tmp 4) (.tmp 9)) fun ty pos af => ?_
  refine s_putW hF rfl rfl (size_wide wide27) m4 rfl (one_tc0 _ _ _ _ h1v9) fun w18 m4 o19 => ?_
  have so19 := o19.size
  have hB := hB.trans (o19.below (by omega))
  have hS := hS.only o19 (by omega)
  have hy9 := hy9.only o19 (by intro h; rcases h with (h | h) | h; (have := hA _ h; omega); omega; omega)
  refine s_end ⟨hS, ?_⟩
  refine d_end (by kernel_rfl) (hK2 _ _ ?_)
  refine wp_ret (res_cell hF rfl rfl m4 wide27 ⟨_, rfl, ⟨_, rfl, RE_two (by decide) (hy9.mono (fun k hk => by rcases hk with (hk | hk) | hk; (· exact .inl hk); (· exact .inr (by omega)); exact .inr (by omega))), hT9⟩, hB⟩)
 ·
  refine d_op 3 (some 8) (.buildSlice 25 2 #[(0, (.tmp 6)), (1, (.tmp 7))]) (by kernel_rfl) fun ty pos af => ?_
  refine s_litG [tv x, tv y] el25 hF (by decide) rfl (by simp [Value.cells, tc]) rfl (by decide) (by decide) fun w20 bl a ebl ml B21 zbl hF => ?_
  have sB21 := B21.size
  have hB := bt hB B21
  have m4 := m4.old B21
  have hS := hS.below B21
  have ml : Blk w20 bl 27 (tc x ++ tc y) := by simpa [Value.cells] using ml
  refine s_end ⟨hS, ?_⟩
  refine d1 0 (some 5) (.call (.mk (.value (.func 42)) #[] #[])) fun ty pos af => ?_
  refine s_callR (R := fun v w' => ∃ br, v = .pointer (some ⟨br, 0, none⟩) ∧ w20.heap.size ≤ br ∧ Blk w' br 110 [.int .i64 2147483647]) [] hF E42 rfl (by decide) (newRoom56 w20) ?_
  rintro _ w22 a ⟨br, rfl, hbrw, mbr⟩ B23 hF
  have sB23 := B23.size
  have hB := bt hB B23
  have m4 := m4.old B23
  have ml := ml.old B23
  have hS := hS.below B23
  have hR : Room w22 br := ⟨_, mbr, by decide, by decide⟩
  have hbrl := hR.lt
  refine s_end ⟨hS, ?_⟩
  refine d1 4 (some 9) (.call (.mk (.value (.func 46)) #[(.tmp 5), (.const (.int .i64 4)), (.tmp 8)] #[66, 3, 25])) fun ty pos af => ?_
  have hbl1 := ml.lt
  have hrk : RK w22 (fun k => A k ∨ k = bl) (.slice (some ⟨bl, 0, none⟩) 2 2) [c, v] := ⟨[x, y], ⟨by simpa using Rd.blk ml (n := 2) rfl, fun _ b hb => by simp [Value.ownBlock] at hb; exact .inr hb.symm⟩, rfl, fun i x2 c2 e1 e2 => by rcases i with _ | _ | i; (· simp at e1 e2; subst e1 e2; exact RC.mono (fun k hk => .inl hk) (hx.keep hB.size (fun k hk _ => hB.block k (hA k hk)))); (· simp at e1 e2; subst e1 e2; exact RC.mono (fun k hk => .inl hk) (hv.keep hB.size (fun k hk _ => hB.block k (hA k hk)))); simp at e1⟩
  refine s_call (R := fun u w' => ((∃ v', u = tv ⟨4, 0, emptyB, (0, 0, nilS), nilS, v'⟩ ∧ RKE w' (AS (fun k => A k ∨ k = bl) w22.heap.size) v' (List.map CT.ess [c, v])) ∧ Room w' br) ∧ Ktw br br w22 w') hF [_, _, _] E46 rfl (by decide) (joined60 w22 br (by omega) (fun k => A k ∨ k = bl) (fun k hk => by rcases hk with hk | hk; (have := hA k hk; omega); omega) 4 [c, v] _ hrk (by simp) hR) ?_
  rintro _ w24 a ⟨⟨⟨v9, rfl, hy9⟩, hR⟩, k25⟩ hF
  have sk25 := k25.size
  have hB := k25.under hB (by omega)
  have m4 := m4.k2 k25 (by omega)
  have hS := hS.trans k25 (by omega)
  have h1v9 := hy9.one
  have hT9 : Tn 2 ⟨4, 0, emptyB, (0, 0, nilS), nilS, v9⟩ := by obtain ⟨a, cp, he, _⟩ := hy9.form; exact ⟨a, cp, he⟩
  refine s_end ⟨hS, ?_⟩
  refine d1 5 none (.store 27 (.tmp 4) (.tmp 9)) fun ty pos af => ?_
  refine s_putW hF rfl rfl (size_wide wide27) m4 rfl (one_tc0 _ _ _ _ h1v9) fun w28 m4 o29 => ?_
  have so29 := o29.size
  have hB := hB.trans (o29.below (by omega))
  have hS := hS.only o29 (by omega)
  have hy9 := hy9.only o29 (by intro h; rcases h with (h | h) | h; (have := hA _ h; omega); omega; omega)
  refine s_end ⟨hS, ?_⟩
  refine d_end (by kernel_rfl) (hK2 _ _ ?_)
  refine wp_ret (res_cell hF rfl rfl m4 wide27 ⟨_, rfl, ⟨_, rfl, RE_two (by decide) (hy9.mono (fun k hk => by rcases hk with (hk | hk) | hk; (· exact .inl hk); (· exact .inr (by omega)); exact .inr (by omega))), hT9⟩, hB⟩)

theorem Lam21 (c v : CT) (x y : C8) (w0 : World) (hx : RC w0 (fun k => k < w0.heap.size) c x) (hv : RC w0 (fun k => k < w0.heap.size) v y) : Calls Try.prog 15 #[tv x, tv y] w0 fun e w' => ∃ u, e = .returned u ∧ (∃ y, u = tv y ∧ RT w' (.two 4 c.ess v.ess) y) ∧ Below w0.heap.size w0 w' :=
 (Lam21t _ c v x y w0 (fun _ h => h) hx hv).mono fun e w' ⟨u, h1, ⟨y, h2, h3, _⟩, h4⟩ => ⟨u, h1, ⟨y, h2, RE.rt h3⟩, h4⟩

end Go.Proofs.Ytbhhbfdoadecgaa

namespace Go.Proofs.Ytbhhbfdoadecgaa
open Go.RowKit Go.Shelf
set_option linter.unusedVariables false
set_option linter.unusedSimpArgs false

def PT.apps (f : PT) (xs : List PT) : PT := xs.foldl (fun t a => .two 6 t a) f
theorem apps_snoc (f : PT) (xs : List PT) (a : PT) : PT.apps f (xs ++ [a]) = .two 6 (PT.apps f xs) a := by simp [PT.apps]
theorem apps_mono (f : PT) (xs : List PT) : ∀ bs : List PT, (PT.apps f (xs ++ bs)).ok → (PT.apps f xs).ok := by
 intro bs
 induction bs generalizing xs with
 | nil => intro h; simpa using h
 | cons b bs ih =>
  intro h
  have h1 := ih (xs ++ [b]) (by simpa using h)
  rw [apps_snoc] at h1
  unfold PT.ok at h1 ⊢
  simp only [PT.size, PT.dep] at h1
  omega
theorem apps_take {f : PT} {xs : List PT} {i : Nat} (h : (PT.apps f xs).ok) : (PT.apps f (xs.take i)).ok := apps_mono f (xs.take i) (xs.drop i) (by rw [List.take_append_drop]; exact h)
def PT.appsR (f : PT) (xs : List PT) : PT := if (PT.apps f xs).ok then PT.apps f xs else .odd 0
theorem CT.mN_ess {a : CT} (h : a.ok) : (a.mN : Int) = a.ess.size ∧ (a.mD : Int) = a.ess.dep := by
 rw [a.ess_size, a.ess_dep, show a.mN = a.size from if_pos h, show a.mD = a.dep from if_pos h]; exact ⟨rfl, rfl⟩

set_option maxRecDepth 100000 in
set_option maxHeartbeats 1600000 in
theorem Apps24t (A : Nat → Prop) (c : CT) (x : C8) (cs : List CT) (v : Value) (w0 : World) (hA : ∀ k, A k → k < w0.heap.size) (hxA : RC w0 A c x) (hV : RK w0 A v cs) (hlen : cs.length ≤ 1000000) : Calls Try.prog 18 #[tv x, v] w0 fun e w' => ∃ u, e = .returned u ∧ (∃ y, u = tv y ∧ RE w' (AS A w0.heap.size) (PT.appsR c.ess (cs.map CT.ess)) y) ∧ Below w0.heap.size w0 w' := by
 have hx := hxA.mono hA
 obtain ⟨av, cv, hve, _⟩ := hV.form
 subst hve
 obtain ⟨ps, hps⟩ : ∃ ps, ps = cs.map CT.ess := ⟨_, rfl⟩
 have hpl : ps.length = cs.length := by rw [hps, List.length_map]
 have hB := Below.refl w0.heap.size w0
 have sB := hB.size
 refine calls_fs 54 [(0, tv x), (1, .slice av cs.length cv)] Try.func18 rfl rfl rfl rfl rfl fun a hF => ?_
 refine wp_rs fun K1 hK1 => ?_
 refine s_box (tc x) hF (by decide) rfl rfl fun w2 b2 a eb2 m2 B3 zb2 hF => ?_
 have sB3 := B3.size
 have hB := bt hB B3
 refine s_alloc hF (by decide) zero27 fun w4 b4 a eb4 m4 B5 zb4 hF => ?_
 have sB5 := B5.size
 have hB := bt hB B5
 have m2 := m2.old B5
 refine s_end (hK1 _ _ ?_)
 refine wp_rs fun K2 hK2 => ?_
 refine hF.v (x_ldW wide27 m2 rfl rfl) fun a hF => ?_
 refine s_callB [_] hF E48 rfl (by decide) (measure62 c x w4 (hx.bel hB)) fun w6 a B7 hF => ?_
 have sB7 := B7.size
 have hB := bt hB B7
 have m2 := m2.old B7
 have m4 := m4.old B7
 refine hF.v (x_move rfl) fun a hF => ?_
 refine hF.v (x_ext rfl rfl) fun a hF => ?_
 refine hF.v (x_ext rfl rfl) fun a hF => ?_
 refine s_alloc hF (by decide) zero70 fun w8 b5 a eb5 m5 B9 zb5 hF => ?_
 have sB9 := B9.size
 have hB := bt hB B9
 have m2 := m2.old B9
 have m4 := m4.old B9
 refine s_putW hF rfl rfl (size_wide wide70) m5 rfl (oneII _ _) fun w12 m5 o13 => ?_
 have so13 := o13.size
 have hB := hB.trans (o13.below (by omega))
 have m2 := m2.only o13 (by omega)
 have m4 := m4.only o13 (by omega)
 refine hF.v (x_assign rfl) fun a hF => ?_
 refine s_end (hK2 _ _ ?_)
 refine wp_seq_k fun K3 hK3 => ?_
 refine wp_rs fun K4 hK4 => ?_
 refine hF.v (x_move rfl) fun a hF => ?_
 refine hF.v (x_len Try.underlying25 rfl) fun a hF => ?_
 refine hF.v (x_move rfl) fun a hF => ?_
 refine s_end (hK4 _ _ ?_)
 refine wp_block ?_
 refine wp_up cs.length (fun i a w => ∃ (fl : Bool) (n d : Int), (fl = true → (PT.apps c.ess (ps.take i)).ok ∧ n = (PT.apps c.ess (ps.take i)).size ∧ d = (PT.apps c.ess (ps.take i)).dep) ∧ (fl = false → ¬ (PT.apps c.ess ps).ok) ∧ Blk w b5 72 [.int .i64 n, .int .i64 d] ∧ Blk w b2 27 (tc x) ∧ Blk w b4 27 z8 ∧ Below w0.heap.size w0 w ∧ Fs 54 a [(1, .slice av cs.length cv), (2, .pointer (some ⟨b2, 0, none⟩)), (4, .pointer (some ⟨b4, 0, none⟩)), (5, .pointer (some ⟨b5, 0, none⟩)), (6, .bool fl), (18, .slice av cs.length cv), (19, .int .i64 (cs.length : Int)), (20, .int .i64 (i : Int))]) ⟨decide c.ok, c.mN, c.mD, (fun h => by have h := of_decide_eq_true h; obtain ⟨e1, e2⟩ := CT.mN_ess h; exact ⟨c.ok_ess.2 h, e1, e2⟩), (fun h h2 => of_decide_eq_false h (c.ok_ess.1 (apps_take (i := 0) h2))), m5, m2, m4, hB, hF.sub _ rfl⟩ ?_
 have hne : w0.heap.size ≤ b2 ∧ w0.heap.size ≤ b4 ∧ w0.heap.size ≤ b5 ∧ b2 ≠ b4 ∧ b2 ≠ b5 ∧ b4 ≠ b5 := by omega
 repeat clear hF
 clear hB m2 m4 m5
 rintro i a w hi ⟨fl, n, d, hI1, hI2, m5, m2, m4, hB, hF⟩ K' hK'
 have sB := hB.size
 have h2l := m2.lt
 have h4l := m4.lt
 have h5l := m5.lt
 refine wp_rs fun K5 hK5 => ?_
 refine hF.v (x_lss (b := decide (i < cs.length)) (decide_eq_decide.2 (by omega)) rfl rfl) fun a hF => ?_
 refine s_end (hK5 _ _ ?_)
 refine wp_seq_k fun K6 hK6 => ?_
 refine wp_iff hF rfl (fun hc21 => ?_) (fun hc21 => ?_)
 ·
  obtain ⟨b9, off9, c9, y, p, hve, hp, hry, hAb, hbl, hrow⟩ := hV.row (i := i) (by omega)
  cases hve
  have htk : ps.take (i + 1) = ps.take i ++ [p.ess] := take_snoc (by rw [hps, List.getElem?_map, hp]; rfl)
  refine wp_skip (hK6 _ _ ?_)
  refine wp_seq_k fun K7 hK7 => ?_
  refine wp_block ?_
  refine wp_rs fun K8 hK8 => ?_
  refine hF.v (x_ixa rfl rfl (m_ixsK i Try.underlying25 el25.size rfl (by omega))) fun a hF => ?_
  refine hF.v (x_ldA wide27 (hrow _ (hB.block _ hbl)) rfl rfl) fun a hF => ?_
  refine s_alloc hF (by decide) zero27 fun w14 b8 a eb8 m8 B15 zb8 hF => ?_
  have sB15 := B15.size
  have hB := bt hB B15
  have m2 := m2.old B15
  have m4 := m4.old B15
  have m5 := m5.old B15
  refine s_putW hF rfl rfl (size_wide wide27) m8 rfl hry.one fun w18 m8 o19 => ?_
  have so19 := o19.size
  have hB := hB.trans (o19.below (by omega))
  have m2 := m2.only o19 (by omega)
  have m4 := m4.only o19 (by omega)
  have m5 := m5.only o19 (by omega)
  refine s_end (hK8 _ _ ?_)
  refine wp_seq_k fun K9 hK9 => ?_
  refine wp_rs fun K10 hK10 => ?_
  refine hF.v (x_move rfl) fun a hF => ?_
  refine hF.v (x_not rfl) fun a hF => ?_
  refine s_end (hK10 _ _ ?_)
  refine wp_ifb hF rfl (fun hc25 => ?_) (fun hc25 => ?_)
  ·
   have hfl : fl = false := by simpa using hc25
   refine wp_exit (hK3 _ _ ?_)
   refine wp_seq_k fun K11 hK11 => ?_
   refine wp_rs fun K12 hK12 => ?_
   refine hF.v (x_move rfl) fun a hF => ?_
   refine hF.v (x_not rfl) fun a hF => ?_
   refine s_end (hK12 _ _ ?_)
   refine wp_ifb hF rfl (fun hc34 => ?_) (fun hc34 => ?_)
   ·
    have hfl2 : fl = false := by simpa using hc34
    refine wp_rs fun K13 hK13 => ?_
    refine hF.v (x_build (vs := []) rfl (b27_ _)) fun a hF => ?_
    refine s_putW hF rfl rfl (size_wide wide27) m4 rfl one8 fun w22 m4 o23 => ?_
    have so23 := o23.size
    have hB := hB.trans (o23.below (by omega))
    refine s_end (hK13 _ _ ?_)
    refine wp_ret (then_ret (res_cell hF rfl rfl m4 wide27 ⟨_, rfl, ⟨⟨0, 0, emptyB, (0, 0, nilS), nilS, nilS⟩, rfl, by rw [show PT.appsR c.ess (cs.map CT.ess) = .odd 0 from if_neg (by rw [← hps]; exact hI2 hfl2)]; exact RE_bare _ _⟩, hB⟩))
   ·
    simp [hfl] at hc34
  ·
   have hfl : fl = true := by simpa using hc25
   refine wp_skip (hK9 _ _ ?_)
   refine wp_region_lit ?_
   refine hF.v (x_ldW wide70 m5 rfl rfl) fun a hF => ?_
   refine hF.v (x_ldW wide27 m8 rfl rfl) fun a hF => ?_
   obtain ⟨hok, hn, hd⟩ := hI1 hfl
   have hk9 := hok.1
   have hk8 := hok.2
   refine s_callB [_, _] hF E49 rfl (by decide) (applied63 n d p y w18 ((hry.mono hA).bel hB) (by omega) (by omega)) fun w24 a B25 hF => ?_
   have sB25 := B25.size
   have hB := bt hB B25
   have m2 := m2.old B25
   have m4 := m4.old B25
   have m5 := m5.old B25
   refine hF.v (x_move rfl) fun a hF => ?_
   refine hF.v (x_ext rfl rfl) fun a hF => ?_
   refine hF.v (x_ext rfl rfl) fun a hF => ?_
   refine s_putW hF rfl rfl (size_wide wide70) m5 rfl (oneII _ _) fun w28 m5 o29 => ?_
   have so29 := o29.size
   have hB := hB.trans (o29.below (by omega))
   have m2 := m2.only o29 (by omega)
   have m4 := m4.only o29 (by omega)
   refine hF.v (x_assign rfl) fun a hF => ?_
   refine s_end (hK7 _ _ ?_)
   refine wp_region_lit ?_
   refine hF.v (x_addn (i + 1) (by omega) (by omega) rfl rfl) fun a hF => ?_
   refine hF.v (x_move rfl) fun a hF => ?_
   refine s_end (hK' _ _ (by omega) ⟨_, _, _, (fun h => by have h := of_decide_eq_true h; obtain ⟨e1, e2⟩ := CT.mN_ess h.1; rw [htk, apps_snoc]; unfold PT.ok; simp only [PT.size, PT.dep]; omega), (fun h h2 => of_decide_eq_false h (by have h3 := apps_take (i := i + 1) h2; rw [htk, apps_snoc] at h3; unfold PT.ok at h3; simp only [PT.size, PT.dep] at h3; have hpo : p.ok := p.ok_ess.1 ⟨by omega, by omega⟩; obtain ⟨e1, e2⟩ := CT.mN_ess hpo; exact ⟨hpo, by omega, by omega⟩)), m5, m2, m4, hB, hF.sub _ rfl⟩)
 ·
  obtain rfl : i = cs.length := by omega
  rw [← hpl, List.take_length] at hI1
  refine wp_exit (hK3 _ _ ?_)
  refine wp_seq_k fun K14 hK14 => ?_
  refine wp_rs fun K15 hK15 => ?_
  refine hF.v (x_move rfl) fun a hF => ?_
  refine hF.v (x_not rfl) fun a hF => ?_
  refine s_end (hK15 _ _ ?_)
  refine wp_ifb hF rfl (fun hc34 => ?_) (fun hc34 => ?_)
  ·
   have hfl2 : fl = false := by simpa using hc34
   refine wp_rs fun K16 hK16 => ?_
   refine hF.v (x_build (vs := []) rfl (b27_ _)) fun a hF => ?_
   refine s_putW hF rfl rfl (size_wide wide27) m4 rfl one8 fun w32 m4 o33 => ?_
   have so33 := o33.size
   have hB := hB.trans (o33.below (by omega))
   refine s_end (hK16 _ _ ?_)
   refine wp_ret (then_ret (res_cell hF rfl rfl m4 wide27 ⟨_, rfl, ⟨⟨0, 0, emptyB, (0, 0, nilS), nilS, nilS⟩, rfl, by rw [show PT.appsR c.ess (cs.map CT.ess) = .odd 0 from if_neg (by rw [← hps]; exact hI2 hfl2)]; exact RE_bare _ _⟩, hB⟩))
  ·
   have hfl2 : fl = true := by simpa using hc34
   obtain ⟨hokA, hnA, hdA⟩ := hI1 hfl2
   refine wp_skip (hK14 _ _ ?_)
   refine wp_rs fun K17 hK17 => ?_
   refine s_callR (R := fun v w' => ∃ br, v = .pointer (some ⟨br, 0, none⟩) ∧ w.heap.size ≤ br ∧ Blk w' br 110 [.int .i64 2147483647]) [] hF E42 rfl (by decide) (newRoom56 w) ?_
   rintro _ w34 a ⟨br, rfl, hbrw, mbr⟩ B35 hF
   have sB35 := B35.size
   have hB := bt hB B35
   have m2 := m2.old B35
   have m4 := m4.old B35
   have hR : Room w34 br := ⟨_, mbr, by decide, by decide⟩
   have hbrl := hR.lt
   refine hF.v (x_assign rfl) fun a hF => ?_
   refine s_end (hK17 _ _ ?_)
   refine wp_rs fun K18 hK18 => ?_
   refine hF.v (x_move rfl) fun a hF => ?_
   refine hF.v (x_ldW wide27 m2 rfl rfl) fun a hF => ?_
   refine s_call (R := fun u w' => ((∃ y, u = tv y ∧ RE w' (AS A w34.heap.size) (c.ess) y) ∧ Room w' br) ∧ Ktw br br w34 w') hF [_, _] E43 rfl (by decide) (owned57 w34 br (by omega) A (fun k hk => by have := hA k hk; exact ⟨by omega, by omega⟩) c x (hxA.keep hB.size (fun k hk _ => hB.block k (hA k hk))) hR) ?_
   rintro _ w36 a ⟨⟨⟨y9, rfl, hy9⟩, hR⟩, k37⟩ hF
   have sk37 := k37.size
   have hB := k37.under hB (by omega)
   have m4 := m4.k2 k37 (by omega)
   have hy9 := hy9.valid
   refine s_alloc hF (by decide) zero27 fun w38 b10 a eb10 m10 B39 zb10 hF => ?_
   have sB39 := B39.size
   have hB := bt hB B39
   have m4 := m4.old B39
   have hR := hR.below B39
   have hy9 := hy9.below B39
   refine s_putW hF rfl rfl (size_wide wide27) m10 rfl hy9.one fun w42 m10 o43 => ?_
   have so43 := o43.size
   have hB := hB.trans (o43.below (by omega))
   have m4 := m4.only o43 (by omega)
   have hR := hR.only o43 (by omega)
   have hy9 := hy9.only o43 (by intro h; rcases h.1 with h1 | h1; (have := hA _ h1; omega); omega)
   refine s_end (hK18 _ _ ?_)
   refine wp_seq_k fun K19 hK19 => ?_
   refine wp_rs fun K20 hK20 => ?_
   refine hF.v (x_move rfl) fun a hF => ?_
   refine hF.v (x_len Try.underlying25 rfl) fun a hF => ?_
   refine hF.v (x_move rfl) fun a hF => ?_
   refine s_end (hK20 _ _ ?_)
   refine wp_block ?_
   refine wp_up cs.length (fun i a w => ∃ y, REx w (fun k => (k ≠ br ∧ k ≠ b10 ∧ k ≠ b4 ∧ k < w.heap.size) ∧ (A k ∨ w0.heap.size ≤ k)) (PT.apps c.ess (ps.take i)) y ∧ Blk w b10 27 (tc y) ∧ Blk w b4 27 z8 ∧ Room w br ∧ Below w0.heap.size w0 w ∧ Fs 54 a [(4, .pointer (some ⟨b4, 0, none⟩)), (9, .pointer (some ⟨br, 0, none⟩)), (10, .pointer (some ⟨b10, 0, none⟩)), (40, .slice av cs.length cv), (41, .int .i64 (cs.length : Int)), (42, .int .i64 (i : Int))]) ⟨y9, (RE.valid hy9).mono (fun k hk => by rcases hk with ⟨⟨hk, hk2⟩, hk3⟩; rcases hk with hk | hk; (have := hA _ hk; exact ⟨⟨by omega, by omega, by omega, by omega⟩, .inl hk⟩); exact ⟨⟨by omega, by omega, by omega, by omega⟩, .inr (by omega)⟩), m10, m4, hR, hB, hF.sub _ rfl⟩ ?_
   have hne : w0.heap.size ≤ br ∧ w0.heap.size ≤ b4 ∧ w0.heap.size ≤ b10 ∧ br ≠ b4 ∧ br ≠ b10 ∧ b4 ≠ b10 := by omega
   repeat clear hF
   clear hB m4 m10 hR hy9
   rintro i a w hi ⟨y, hy, m10, m4, hR, hB, hF⟩ K' hK'
   have sB := hB.size
   have h4l := m4.lt
   have h10l := m10.lt
   have hbrl := hR.lt
   obtain ⟨top, htop⟩ : ∃ h, h = w.heap.size := ⟨_, rfl⟩
   rw [← htop] at hy
   have h1y := RE.one hy
   refine wp_rs fun K21 hK21 => ?_
   refine hF.v (x_lss (b := decide (i < cs.length)) (decide_eq_decide.2 (by omega)) rfl rfl) fun a hF => ?_
   refine s_end (hK21 _ _ ?_)
   refine wp_seq_k fun K22 hK22 => ?_
   refine wp_iff hF rfl (fun hc43 => ?_) (fun hc43 => ?_)
   ·
    obtain ⟨b9, off9, c9, y2, p, hve, hp, hry, hAb, hbl, hrow⟩ := hV.row (i := i) (by omega)
    cases hve
    have htk : ps.take (i + 1) = ps.take i ++ [p.ess] := take_snoc (by rw [hps, List.getElem?_map, hp]; rfl)
    refine wp_skip (hK22 _ _ ?_)
    refine wp_seq_k fun K23 hK23 => ?_
    refine wp_block ?_
    refine wp_rs fun K24 hK24 => ?_
    refine hF.v (x_ixa rfl rfl (m_ixsK i Try.underlying25 el25.size rfl (by omega))) fun a hF => ?_
    refine hF.v (x_ldA wide27 (hrow _ (hB.block _ hbl)) rfl rfl) fun a hF => ?_
    refine s_alloc hF (by decide) zero27 fun w44 b12 a eb12 m12 B45 zb12 hF => ?_
    have sB45 := B45.size
    have hB := bt hB B45
    have m4 := m4.old B45
    have m10 := m10.old B45
    have hy := hy.below B45
    have hR := hR.below B45
    refine s_putW hF rfl rfl (size_wide wide27) m12 rfl hry.one fun w48 m12 o49 => ?_
    have so49 := o49.size
    have hB := hB.trans (o49.below (by omega))
    have m4 := m4.only o49 (by omega)
    have m10 := m10.only o49 (by omega)
    have hy := hy.only o49 (fun k (hk : (k ≠ br ∧ k ≠ b10 ∧ k ≠ b4 ∧ k < top) ∧ (A k ∨ w0.heap.size ≤ k)) => by omega)
    have hR := hR.only o49 (by omega)
    refine s_end (hK24 _ _ ?_)
    refine dk2_one (br) (b10) (ops := regOps Try.f18 15) (N := 7) (by kernel_rfl) wide_orders (by kernel_rfl) fun w50 hw50 B51 hS K25 hK25 => ?_
    have zw50 : w50.heap.size = w48.heap.size := by rw [hw50]
    have sB51 := B51.size
    have hB := bt hB B51
    have m4 := m4.old B51
    have m10 := m10.old B51
    have hy := hy.below B51
    have m12 := m12.old B51
    have hR := hR.below B51
    have hR_d := hR
    have m4_d := m4
    have m10_d := m10
    have hy_d := hy
    have m12_d := m12
    have hB_d := hB
    refine hF.d 1 47 (.move (.tmp 9)) hS (fun W hW => x_move rfl) fun a hF => ?_
    refine hF.d 2 48 (.load 27 (.tmp 12)) hS (fun W hW => x_ldW wide27 (m12_d.k2 hW (by omega)) rfl rfl) fun a hF => ?_
    refine d_two 0 3 (by kernel_rfl) ?_ ?_
    ·
     refine d_op 0 (some 46) (.load 27 (.tmp 10)) (by kernel_rfl) fun ty pos af => ?_
     refine hF.v (x_ldW wide27 m10 rfl rfl) fun a hF => ?_
     refine s_end ⟨hS, ?_⟩
     refine d1 3 (some 49) (.call (.mk (.value (.func 43)) #[(.tmp 47), (.tmp 48)] #[66, 27])) fun ty pos af => ?_
     refine s_call (R := fun u w' => ((∃ z, u = tv z ∧ REx w' (AS A w50.heap.size) p.ess z) ∧ Room w' br) ∧ Ktw br br w50 w') hF [_, _] E43 rfl (by decide) (owned57 w50 br (by omega) A (fun k hk => by have := hA k hk; exact ⟨by omega, by omega⟩) p y2 (hry.keep hB.size (fun k hk _ => hB.block k (hA k hk))) hR) ?_
     rintro _ w52 a ⟨⟨⟨z, rfl, hz0⟩, hR⟩, k53⟩ hF
     have sk53 := k53.size
     have hB := k53.under hB (by omega)
     have m4 := m4.k2 k53 (by omega)
     have m10 := m10.k2 k53 (by omega)
     have hy := hy.k2 k53 (fun k (hk : (k ≠ br ∧ k ≠ b10 ∧ k ≠ b4 ∧ k < top) ∧ (A k ∨ w0.heap.size ≤ k)) => by omega)
     have hS := hS.trans k53 (by omega)
     have hz : REx w52 (fun k => ((k < w0.heap.size ∧ A k) ∨ w50.heap.size ≤ k) ∧ k < w52.heap.size) p.ess z := (RE.valid hz0).mono (fun k hk => ⟨hk.1.elim (fun h => .inl ⟨hA k h, h⟩) .inr, hk.2⟩)
     clear hz0
     have h1z := RE.one hz
     refine s_end ⟨hS, ?_⟩
     refine d1 4 (some 50) (.buildSlice 25 2 #[(0, (.tmp 46)), (1, (.tmp 49))]) fun ty pos af => ?_
     refine s_litG [tv y, tv z] el25 hF (by decide) rfl (by simp [Value.cells, tc]) rfl (by decide) (by decide) fun w54 bl a ebl ml B55 zbl hF => ?_
     have sB55 := B55.size
     have hB := bt hB B55
     have m4 := m4.old B55
     have m10 := m10.old B55
     have hy := hy.below B55
     have hz := hz.below B55
     have hS := hS.below B55
     have hR := hR.below B55
     have ml : Blk w54 bl 27 (tc y ++ tc z) := by simpa [Value.cells] using ml
     refine s_end ⟨hS, ?_⟩
     refine hF.d 5 51 (.build 27 #[(0, (.const (.int .i64 6))), (5, (.tmp 50))]) hS (fun W hW => x_build (vs := [(0, _), (5, _)]) rfl (b27_05 _ _ _ _ _)) fun a hF => ?_
     refine d1 6 none (.store 27 (.tmp 10) (.tmp 51)) fun ty pos af => ?_
     have hy9 : REx w54 (fun k => (k ≠ br ∧ k ≠ b10 ∧ k ≠ b4 ∧ k < w54.heap.size) ∧ (A k ∨ w0.heap.size ≤ k)) (PT.apps c.ess (ps.take (i + 1))) ⟨6, 0, emptyB, (0, 0, nilS), nilS, .slice (some ⟨bl, 0, none⟩) 2 2⟩ := by
      rw [htk, apps_snoc]
      have hll := ml.lt
      refine RE_two (by decide) ⟨[y, z], ⟨by simpa using Rd.blk ml (n := 2) rfl, fun _ b hb => by simp [Value.ownBlock] at hb; subst hb; exact ⟨⟨by omega, by omega, by omega, by omega⟩, .inr (by omega)⟩⟩, rfl, fun j x3 q e1 e2 => ?_⟩
      rcases j with _ | _ | j
      ·
       simp at e1 e2; subst e1 e2; exact RE.mono (fun k hk => ⟨⟨hk.1.1, hk.1.2.1, hk.1.2.2.1, by have := hk.1.2.2.2; omega⟩, hk.2⟩) hy
      ·
       simp at e1 e2; subst e1 e2; exact RE.mono (fun k hk => by rcases hk with ⟨hk1, hk2⟩; rcases hk1 with hk1 | hk1; (exact ⟨⟨by omega, by omega, by omega, by omega⟩, .inl hk1.2⟩); exact ⟨⟨by omega, by omega, by omega, by omega⟩, .inr (by omega)⟩) hz
      ·
       simp at e1
     refine s_putW hF rfl rfl (size_wide wide27) m10 rfl (RE.one hy9) fun w56 m10 o57 => ?_
     have so57 := o57.size
     have hB := hB.trans (o57.below (by omega))
     have m4 := m4.only o57 (by omega)
     have hy9 := hy9.only o57 (fun k (hk : (k ≠ br ∧ k ≠ b10 ∧ k ≠ b4 ∧ k < w54.heap.size) ∧ (A k ∨ w0.heap.size ≤ k)) => by omega)
     have hS := hS.only o57 (by omega)
     have hR := hR.only o57 (by omega)
     refine s_end ⟨hS, ?_⟩
     refine d_end (by kernel_rfl) (hK25 _ _ ?_)
     refine hK23 _ _ ?_
     refine wp_region_lit ?_
     refine hF.v (x_addn (i + 1) (by omega) (by omega) rfl rfl) fun a hF => ?_
     refine hF.v (x_move rfl) fun a hF => ?_
     refine s_end (hK' _ _ (by omega) ⟨_, hy9.mono (fun k hk => ⟨⟨hk.1.1, hk.1.2.1, hk.1.2.2.1, by have := hk.1.2.2.2; omega⟩, hk.2⟩), m10, m4, hR, hB, hF.sub _ rfl⟩)
    ·
     refine d_op 3 (some 49) (.call (.mk (.value (.func 43)) #[(.tmp 47), (.tmp 48)] #[66, 27])) (by kernel_rfl) fun ty pos af => ?_
     refine s_call (R := fun u w' => ((∃ z, u = tv z ∧ REx w' (AS A w50.heap.size) p.ess z) ∧ Room w' br) ∧ Ktw br br w50 w') hF [_, _] E43 rfl (by decide) (owned57 w50 br (by omega) A (fun k hk => by have := hA k hk; exact ⟨by omega, by omega⟩) p y2 (hry.keep hB.size (fun k hk _ => hB.block k (hA k hk))) hR) ?_
     rintro _ w58 a ⟨⟨⟨z, rfl, hz0⟩, hR⟩, k59⟩ hF
     have sk59 := k59.size
     have hB := k59.under hB (by omega)
     have m4 := m4.k2 k59 (by omega)
     have m10 := m10.k2 k59 (by omega)
     have hy := hy.k2 k59 (fun k (hk : (k ≠ br ∧ k ≠ b10 ∧ k ≠ b4 ∧ k < top) ∧ (A k ∨ w0.heap.size ≤ k)) => by omega)
     have hS := hS.trans k59 (by omega)
     have hz : REx w58 (fun k => ((k < w0.heap.size ∧ A k) ∨ w50.heap.size ≤ k) ∧ k < w58.heap.size) p.ess z := (RE.valid hz0).mono (fun k hk => ⟨hk.1.elim (fun h => .inl ⟨hA k h, h⟩) .inr, hk.2⟩)
     clear hz0
     have h1z := RE.one hz
     refine s_end ⟨hS, ?_⟩
     refine d1 0 (some 46) (.load 27 (.tmp 10)) fun ty pos af => ?_
     refine hF.v (x_ldW wide27 m10 rfl rfl) fun a hF => ?_
     refine s_end ⟨hS, ?_⟩
     refine d1 4 (some 50) (.buildSlice 25 2 #[(0, (.tmp 46)), (1, (.tmp 49))]) fun ty pos af => ?_
     refine s_litG [tv y, tv z] el25 hF (by decide) rfl (by simp [Value.cells, tc]) rfl (by decide) (by decide) fun w60 bl a ebl ml B61 zbl hF => ?_
     have sB61 := B61.size
     have hB := bt hB B61
     have m4 := m4.old B61
     have m10 := m10.old B61
     have hy := hy.below B61
     have hz := hz.below B61
     have hS := hS.below B61
     have hR := hR.below B61
     have ml : Blk w60 bl 27 (tc y ++ tc z) := by simpa [Value.cells] using ml
     refine s_end ⟨hS, ?_⟩
     refine hF.d 5 51 (.build 27 #[(0, (.const (.int .i64 6))), (5, (.tmp 50))]) hS (fun W hW => x_build (vs := [(0, _), (5, _)]) rfl (b27_05 _ _ _ _ _)) fun a hF => ?_
     refine d1 6 none (.store 27 (.tmp 10) (.tmp 51)) fun ty pos af => ?_
     have hy9 : REx w60 (fun k => (k ≠ br ∧ k ≠ b10 ∧ k ≠ b4 ∧ k < w60.heap.size) ∧ (A k ∨ w0.heap.size ≤ k)) (PT.apps c.ess (ps.take (i + 1))) ⟨6, 0, emptyB, (0, 0, nilS), nilS, .slice (some ⟨bl, 0, none⟩) 2 2⟩ := by
      rw [htk, apps_snoc]
      have hll := ml.lt
      refine RE_two (by decide) ⟨[y, z], ⟨by simpa using Rd.blk ml (n := 2) rfl, fun _ b hb => by simp [Value.ownBlock] at hb; subst hb; exact ⟨⟨by omega, by omega, by omega, by omega⟩, .inr (by omega)⟩⟩, rfl, fun j x3 q e1 e2 => ?_⟩
      rcases j with _ | _ | j
      ·
       simp at e1 e2; subst e1 e2; exact RE.mono (fun k hk => ⟨⟨hk.1.1, hk.1.2.1, hk.1.2.2.1, by have := hk.1.2.2.2; omega⟩, hk.2⟩) hy
      ·
       simp at e1 e2; subst e1 e2; exact RE.mono (fun k hk => by rcases hk with ⟨hk1, hk2⟩; rcases hk1 with hk1 | hk1; (exact ⟨⟨by omega, by omega, by omega, by omega⟩, .inl hk1.2⟩); exact ⟨⟨by omega, by omega, by omega, by omega⟩, .inr (by omega)⟩) hz
      ·
       simp at e1
     refine s_putW hF rfl rfl (size_wide wide27) m10 rfl (RE.one hy9) fun w62 m10 o63 => ?_
     have so63 := o63.size
     have hB := hB.trans (o63.below (by omega))
     have m4 := m4.only o63 (by omega)
     have hy9 := hy9.only o63 (fun k (hk : (k ≠ br ∧ k ≠ b10 ∧ k ≠ b4 ∧ k < w60.heap.size) ∧ (A k ∨ w0.heap.size ≤ k)) => by omega)
     have hS := hS.only o63 (by omega)
     have hR := hR.only o63 (by omega)
     refine s_end ⟨hS, ?_⟩
     refine d_end (by kernel_rfl) (hK25 _ _ ?_)
     refine hK23 _ _ ?_
     refine wp_region_lit ?_
     refine hF.v (x_addn (i + 1) (by omega) (by omega) rfl rfl) fun a hF => ?_
     refine hF.v (x_move rfl) fun a hF => ?_
     refine s_end (hK' _ _ (by omega) ⟨_, hy9.mono (fun k hk => ⟨⟨hk.1.1, hk.1.2.1, hk.1.2.2.1, by have := hk.1.2.2.2; omega⟩, hk.2⟩), m10, m4, hR, hB, hF.sub _ rfl⟩)
   ·
    obtain rfl : i = cs.length := by omega
    rw [← hpl, List.take_length] at hy
    refine wp_exit (hK19 _ _ ?_)
    refine wp_rs fun K26 hK26 => ?_
    refine hF.v (x_ldW wide27 m10 rfl rfl) fun a hF => ?_
    refine s_putW hF rfl rfl (size_wide wide27) m4 rfl h1y fun w66 m4 o67 => ?_
    have so67 := o67.size
    have hB := hB.trans (o67.below (by omega))
    have hy := hy.only o67 (fun k (hk : (k ≠ br ∧ k ≠ b10 ∧ k ≠ b4 ∧ k < top) ∧ (A k ∨ w0.heap.size ≤ k)) => by omega)
    refine s_end (hK26 _ _ ?_)
    refine wp_ret (res_cell hF rfl rfl m4 wide27 ⟨_, rfl, ⟨y, rfl, by rw [show PT.appsR c.ess (cs.map CT.ess) = PT.apps c.ess ps from by rw [← hps]; exact if_pos hokA]; exact RE.mono (fun k hk => hk.2) hy⟩, hB⟩)

theorem Apps24 (c : CT) (x : C8) (cs : List CT) (v : Value) (w0 : World) (hx : RC w0 (fun k => k < w0.heap.size) c x) (hV : RK w0 (fun k => k < w0.heap.size) v cs) (hlen : cs.length ≤ 1000000) : Calls Try.prog 18 #[tv x, v] w0 fun e w' => ∃ u, e = .returned u ∧ (∃ y, u = tv y ∧ RT w' (PT.appsR c.ess (cs.map CT.ess)) y) ∧ Below w0.heap.size w0 w' :=
 (Apps24t _ c x cs v w0 (fun _ h => h) hx hV hlen).mono fun e w' ⟨u, h1, ⟨y, h2, h3⟩, h4⟩ => ⟨u, h1, ⟨y, h2, RE.rt h3⟩, h4⟩
end Go.Proofs.Ytbhhbfdoadecgaa

namespace Go.Proofs.Ytbhhbfdoadecgaa
open Go.RowKit Go.Shelf
set_option linter.unusedVariables false
set_option linter.unusedSimpArgs false

theorem RE_two_inv {W : World} {A : Nat → Prop} {k : Int} {p q : PT} {x : C8} (h : RE W A (.two k p q) x) : ∃ b off n cap y z, x.ts = .slice (some ⟨b, off, none⟩) n cap ∧ 2 ≤ n ∧ x.k = k ∧ RE W A p y ∧ RE W A q z ∧ A b ∧ b < W.heap.size ∧ (∀ j u, (tc y)[j]? = some u → W.cell? ⟨b, off + j, none⟩ = some u) ∧ (∀ j u, (tc z)[j]? = some u → W.cell? ⟨b, off + 8 + j, none⟩ = some u) := by
 obtain ⟨c, hc, he⟩ := h
 cases c with
 | two k' a b' m =>
  simp only [CT.ess] at he
  cases he
  obtain ⟨h1, h2, ⟨y, z, cs, hR, ha, hb⟩, _⟩ := hc
  obtain ⟨b, off, cap, hv, hbl⟩ := hR.1.some (by omega)
  refine ⟨b, off, _, cap, y, z, hv, by omega, h1, ⟨_, ha, rfl⟩, ⟨_, hb, rfl⟩, hR.2 (by omega) b (by rw [hv]; rfl), hbl, fun j u hj => ?_, fun j u hj => ?_⟩
  ·
   have hj8 := (List.getElem?_eq_some_iff.1 hj).1
   have := (hv ▸ hR.1).cell (j := j) (u := u) (by rw [List.getElem?_append_left (by simpa [tc] using hj8)]; exact hj)
   exact this
  ·
   have hj8 := (List.getElem?_eq_some_iff.1 hj).1
   have := (hv ▸ hR.1).cell (j := 8 + j) (u := u) (by rw [List.getElem?_append_right (by simp [tc]), show 8 + j - (tc y).length = j by simp [tc], List.getElem?_append_left (by simpa [tc] using hj8)]; exact hj)
   rwa [Nat.add_assoc]
 | _ => simp [CT.ess] at he
theorem RE_cst_s {W : World} {A : Nat → Prop} {s : ByteArray} {os : List (Option SL)} {x : C8} (h : RE W A (.cst s os) x) : x.k = 7 ∧ x.s = s := by
 obtain ⟨c, hc, he⟩ := h
 cases c with
 | cst s' ls m => simp only [CT.ess] at he; cases he; exact ⟨hc.1, hc.2.1⟩
 | _ => simp [CT.ess] at he
theorem RE_var_n {W : World} {A : Nat → Prop} {n : Int} {x : C8} (h : RE W A (.var n) x) : x.k = 1 ∧ x.n = n := by
 obtain ⟨c, hc, he⟩ := h
 cases c with
 | var n' m => simp only [CT.ess] at he; cases he; exact ⟨hc.1, hc.2.1⟩
 | _ => simp [CT.ess] at he
abbrev sA : ByteArray := ByteArray.mk #[97]
abbrev sC : ByteArray := ByteArray.mk #[99]
theorem aw_apps : PT.appsR (.var 1) [.var 0] = .two 6 (.var 1) (.var 0) := by
 unfold PT.appsR
 rw [if_pos (by unfold PT.ok; simp [PT.apps, PT.size, PT.dep])]
 rfl
theorem aw_inst : PT.inst (.two 4 (.cst sA []) (.two 6 (.var 1) (.var 0))) (.cst sC []) = .two 4 (.cst sA []) (.two 6 (.cst sC []) (.var 0)) := by
 have e : PT.put (.cst sC []) (.two 4 (.cst sA []) (.two 6 (.var 1) (.var 0))) 0 = .two 4 (.cst sA []) (.two 6 (.cst sC []) (.var 0)) := by simp [PT.put, PT.lift]
 unfold PT.inst
 rw [e, if_pos]
 unfold PT.ok
 simp [PT.size, PT.dep]
theorem x_eqSt {P : Program} {n : Nat} {l : List (Nat × Value)} {w : World} {t t' : TypeId} {x y : Operand} {s : ByteArray} (hx : ov l x = some (.string s)) (hy : ov l y = some (.string s)) : Runs P n l w (.binOp .eql t x y t') (.bool true) := by
 have := x_eqS (P := P) (n := n) (w := w) (t := t) (t' := t') rfl hx hy
 simpa using this

set_option maxRecDepth 100000 in
set_option maxHeartbeats 400000 in
theorem awake15 (w0 : World) : Calls Try.prog 9 #[] w0 fun e w' => e = .returned (.bool true) ∧ Below w0.heap.size w0 w' := by
 have hB := Below.refl w0.heap.size w0
 have sB := hB.size
 refine calls_fs (vs := []) 35 [] Try.func9 rfl rfl rfl rfl rfl fun a hF => ?_
 refine wp_rs fun K1 hK1 => ?_
 refine hF.v (x_assign rfl) fun a hF => ?_
 refine s_end (hK1 _ _ ?_)
 refine wp_rs fun K2 hK2 => ?_
 refine s_callR (R := fun u w' => ∃ y, u = tv y ∧ RT w' (.cst sA []) y) [_, _] hF E12 rfl (by decide) (Const18 sA [] nilS w0 (RVn.nil _ _)) ?_
 rintro _ w2 a ⟨y2, rfl, h2⟩ B3 hF
 have sB3 := B3.size
 have hB := bt hB B3
 refine s_callR (R := fun u w' => ∃ y, u = tv y ∧ RC w' (fun _ => False) (.var 1 0) y) [_] hF E10 rfl (by decide) (var16 1 w2 (by unfold in64; omega)) ?_
 rintro _ w4 a ⟨y3, rfl, h30⟩ B5 hF
 have sB5 := B5.size
 have hB := bt hB B5
 have h2 := h2.below B5
 have h3 : RT w4 (.var 1) y3 := (RC.re h30).rt
 refine s_callR (R := fun u w' => ∃ y, u = tv y ∧ RC w' (fun _ => False) (.var 0 0) y) [_] hF E10 rfl (by decide) (var16 0 w4 (by unfold in64; omega)) ?_
 rintro _ w6 a ⟨y4, rfl, h40⟩ B7 hF
 have sB7 := B7.size
 have hB := bt hB B7
 have h2 := h2.below B7
 have h3 := h3.below B7
 have h4 : RT w6 (.var 0) y4 := (RC.re h40).rt
 refine s_litG [tv y4] el25 hF (by decide) rfl (by simp [Value.cells, tc]) rfl (by decide) (by decide) fun w8 bl a ebl ml B9 zbl hF => ?_
 have sB9 := B9.size
 have hB := bt hB B9
 have h2 := h2.below B9
 have h3 := h3.below B9
 have h4 := h4.below B9
 have ml : Blk w8 bl 27 (tc y4) := by simpa [Value.cells] using ml
 obtain ⟨c3, hc3, he3⟩ := h3
 obtain ⟨c4, hc4, he4⟩ := h4
 have hrk : RK w8 (fun k => k < w8.heap.size) (.slice (some ⟨bl, 0, none⟩) 1 1) [c4] := ⟨[y4], ⟨by simpa using Rd.blk ml (n := 1) rfl, fun _ b hb => by simp [Value.ownBlock] at hb; subst hb; exact ml.lt⟩, rfl, fun i x2 c2 e1 e2 => by rcases i with _ | i; (· simp at e1 e2; subst e1 e2; exact hc4); simp at e1⟩
 refine s_callR (R := fun u w' => ∃ y, u = tv y ∧ RT w' (PT.appsR c3.ess ([c4].map CT.ess)) y) [_, _] hF E18 rfl (by decide) (Apps24 c3 y3 [c4] _ w8 hc3 hrk (by simp)) ?_
 rintro _ w10 a ⟨y6, rfl, h6⟩ B11 hF
 have sB11 := B11.size
 have hB := bt hB B11
 have h2 := h2.below B11
 simp only [List.map_cons, List.map_nil] at h6
 rw [he3, he4, aw_apps] at h6
 obtain ⟨c2, hc2, he2⟩ := h2
 obtain ⟨c6, hc6, he6⟩ := h6
 refine s_callR (R := fun u w' => ∃ y, u = tv y ∧ RT w' (.two 4 c2.ess c6.ess) y) [_, _] hF E15 rfl (by decide) (Lam21 c2 c6 y2 y6 w10 hc2 hc6) ?_
 rintro _ w12 a ⟨y7, rfl, h7⟩ B13 hF
 have sB13 := B13.size
 have hB := bt hB B13
 rw [he2, he6] at h7
 refine s_callR (R := fun u w' => ∃ y, u = tv y ∧ RT w' (.cst sC []) y) [_, _] hF E12 rfl (by decide) (Const18 sC [] nilS w12 (RVn.nil _ _)) ?_
 rintro _ w14 a ⟨y8, rfl, h8⟩ B15 hF
 have sB15 := B15.size
 have hB := bt hB B15
 have h7 := h7.below B15
 obtain ⟨c7, hc7, he7⟩ := h7
 obtain ⟨c8, hc8, he8⟩ := h8
 refine s_callR (R := fun u w' => ∃ y, u = tv y ∧ RT w' (PT.inst c7.ess c8.ess) y) [_, _] hF E23 rfl (by decide) (Inst42 c7 c8 y7 y8 w14 hc7 hc8) ?_
 rintro _ w16 a ⟨y9, rfl, h9⟩ B17 hF
 have sB17 := B17.size
 have hB := bt hB B17
 rw [he7, he8, aw_inst] at h9
 have h9 : REx w16 (fun k => k < w16.heap.size) _ y9 := h9
 refine s_alloc hF (by decide) zero27 fun w18 b1 a eb1 m1 B19 zb1 hF => ?_
 have sB19 := B19.size
 have hB := bt hB B19
 have h9 := h9.below B19
 refine s_putW hF rfl rfl (size_wide wide27) m1 rfl (RE.one h9) fun w22 m1 o23 => ?_
 have so23 := o23.size
 have hB := hB.trans (o23.below (by omega))
 have h9 := h9.only o23 (fun k (hk : k < w16.heap.size) => by omega)
 refine s_end (hK2 _ _ ?_)
 obtain ⟨b9, off9, n9, cap9, ya, yb, hts, hn9, hk9, ha, hb9, _, _, _, hcb⟩ := RE_two_inv h9
 obtain ⟨b8, off8, n8, cap8, yc, yd, hts8, hn8, _, hc, hd, _, _, hcc, hcd⟩ := RE_two_inv hb9
 have hsc := (RE_cst_s hc).2
 have hnd := (RE_var_n hd).2
 have e5 := hcb 7 _ rfl
 rw [hts8] at e5
 have e2 := hcc 2 _ rfl
 rw [hsc] at e2
 have e1 := hcd 1 _ rfl
 rw [hnd] at e1
 have hm0 := m1.cell (j := 0) rfl
 have hm5 := m1.cell (j := 7) rfl
 rw [hts] at hm5
 rw [hk9] at hm0
 refine wp_rs fun K3 hK3 => ?_
 refine hF.v (x_fa0 fa27_0 rfl) fun a hF => ?_
 refine hF.v (x_load rfl (m_load flat3 (hm0))) fun a hF => ?_
 refine hF.v (x_eql (b := true) rfl rfl rfl) fun a hF => ?_
 refine hF.v (x_move rfl) fun a hF => ?_
 refine s_grd 13 hF rfl rfl rfl ?_
 refine hF.v (x_fa0 fa27_5 rfl) fun a hF => ?_
 refine s_grd 13 hF rfl rfl rfl ?_
 refine hF.v (x_load rfl (m_load flat25 (hm5))) fun a hF => ?_
 refine s_grd 13 hF rfl rfl rfl ?_
 refine hF.v (x_ixa rfl rfl (m_ixsK 1 Try.underlying25 el25.size rfl (by omega))) fun a hF => ?_
 refine s_grd 13 hF rfl rfl rfl ?_
 refine hF.v (x_fa fa27_5 rfl) fun a hF => ?_
 refine s_grd 13 hF rfl rfl rfl ?_
 refine hF.v (x_load rfl (m_load flat25 (by rw [Nat.one_mul]; exact e5))) fun a hF => ?_
 refine s_grd 13 hF rfl rfl rfl ?_
 refine hF.v (x_ixa rfl rfl (m_ixsK 0 Try.underlying25 el25.size rfl (by omega))) fun a hF => ?_
 refine s_grd 13 hF rfl rfl rfl ?_
 refine hF.v (x_fa fa27_2 rfl) fun a hF => ?_
 refine s_grd 13 hF rfl rfl rfl ?_
 refine hF.v (x_load rfl (m_load flat9 (by rw [Nat.zero_mul]; exact e2))) fun a hF => ?_
 refine s_grd 13 hF rfl rfl rfl ?_
 refine hF.v (x_eqSt rfl rfl) fun a hF => ?_
 refine hF.v (x_pick (b := true) rfl rfl) fun a hF => ?_
 refine hF.v (x_move rfl) fun a hF => ?_
 refine s_grd 24 hF rfl rfl rfl ?_
 refine hF.v (x_fa0 fa27_5 rfl) fun a hF => ?_
 refine s_grd 24 hF rfl rfl rfl ?_
 refine hF.v (x_load rfl (m_load flat25 (hm5))) fun a hF => ?_
 refine s_grd 24 hF rfl rfl rfl ?_
 refine hF.v (x_ixa rfl rfl (m_ixsK 1 Try.underlying25 el25.size rfl (by omega))) fun a hF => ?_
 refine s_grd 24 hF rfl rfl rfl ?_
 refine hF.v (x_fa fa27_5 rfl) fun a hF => ?_
 refine s_grd 24 hF rfl rfl rfl ?_
 refine hF.v (x_load rfl (m_load flat25 (by rw [Nat.one_mul]; exact e5))) fun a hF => ?_
 refine s_grd 24 hF rfl rfl rfl ?_
 refine hF.v (x_ixa rfl rfl (m_ixsK 1 Try.underlying25 el25.size rfl (by omega))) fun a hF => ?_
 refine s_grd 24 hF rfl rfl rfl ?_
 refine hF.v (x_fa fa27_1 rfl) fun a hF => ?_
 refine s_grd 24 hF rfl rfl rfl ?_
 refine hF.v (x_load rfl (m_load flat3 (by rw [Nat.one_mul]; exact e1))) fun a hF => ?_
 refine s_grd 24 hF rfl rfl rfl ?_
 refine hF.v (x_eql (b := true) rfl rfl rfl) fun a hF => ?_
 refine hF.v (x_pick (b := true) rfl rfl) fun a hF => ?_
 refine hF.v (x_assign rfl) fun a hF => ?_
 refine s_end (hK3 _ _ ?_)
 refine wp_ret (res_slot hF rfl rfl ⟨rfl, hB⟩)
end Go.Proofs.Ytbhhbfdoadecgaa
