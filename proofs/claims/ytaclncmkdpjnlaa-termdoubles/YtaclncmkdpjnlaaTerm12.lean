/- owned, lifted, put. -/
import Derived.Test.YtaclncmkdpjnlaaTerm8
namespace Go.Proofs.Ytaclncmkdpjnlaa
open Go.RowKit Go.Shelf
set_option linter.unusedVariables false
set_option linter.unusedSimpArgs false

def Go_ (c : CT) (_ : Int) (ps : List PT) : PT := nodeP c ps
theorem fold_own : ∀ (c : CT) (d : Int), c.fold Go_ d = c.ess
  | .two k a b m, d => by simp [CT.fold, Go_, nodeP, CT.ess, fold_own a, fold_own b]
  | .lt a b c m, d => by simp [CT.fold, Go_, nodeP, CT.ess, fold_own a, fold_own b, fold_own c]
  | .var .., d => rfl
  | .sort .., d => rfl
  | .cst .., d => rfl
  | .odd .., d => rfl
def mx63 : Int := 9223372036854775807
def liftN (f b d n : Int) : Int := if d ≤ n ∧ f ≤ n - d then max (min (n + b) 9223372036854775807) d else n
def PT.lift (f b : Int) : PT → Int → PT
  | .var n, d => .var (liftN f b d n)
  | .two k p q, d => .two k (p.lift f b d) (q.lift f b (d + if k = 3 ∨ k = 4 then 1 else 0))
  | .lt p q r, d => .lt (p.lift f b d) (q.lift f b d) (r.lift f b (d + 1))
  | .sort o, _ => .sort o
  | .cst s os, _ => .cst s os
  | .odd k, _ => .odd k
def Gl (f b : Int) (c : CT) (d : Int) (ps : List PT) : PT := match c with
  | .var n _ => .var (liftN f b d n)
  | c => nodeP c ps
theorem fold_lift (f b : Int) : ∀ (c : CT) (d : Int), c.fold (Gl f b) d = c.ess.lift f b d
  | .two k p q m, d => by simp [CT.fold, Gl, nodeP, CT.ess, PT.lift, fold_lift f b p, fold_lift f b q, CT.bnd]
  | .lt p q r m, d => by simp [CT.fold, Gl, nodeP, CT.ess, PT.lift, fold_lift f b p, fold_lift f b q, fold_lift f b r, CT.bnd]
  | .var .., d => rfl
  | .sort .., d => rfl
  | .cst .., d => rfl
  | .odd .., d => rfl
def PT.put (v : PT) : PT → Int → PT
  | .var n, d => if n = d then v.lift 0 d 0 else .var (if d < n then n - 1 else n)
  | .two k p q, d => .two k (PT.put v p d) (PT.put v q (d + if k = 3 ∨ k = 4 then 1 else 0))
  | .lt p q r, d => .lt (PT.put v p d) (PT.put v q d) (PT.put v r (d + 1))
  | .sort o, _ => .sort o
  | .cst s os, _ => .cst s os
  | .odd k, _ => .odd k
def Gp (v : PT) (c : CT) (d : Int) (ps : List PT) : PT := match c with
  | .var n _ => if n = d then v.lift 0 d 0 else .var (if d < n then n - 1 else n)
  | c => nodeP c ps
theorem fold_put' (v : PT) : ∀ (c : CT) (d : Int), c.fold (Gp v) d = PT.put v c.ess d
  | .two k p q m, d => by simp [CT.fold, Gp, nodeP, CT.ess, PT.put, fold_put' v p, fold_put' v q, CT.bnd]
  | .lt p q r m, d => by simp [CT.fold, Gp, nodeP, CT.ess, PT.put, fold_put' v p, fold_put' v q, fold_put' v r, CT.bnd]
  | .var .., d => rfl
  | .sort .., d => rfl
  | .cst .., d => rfl
  | .odd .., d => rfl

theorem RKE.valid {W : World} {A : Nat → Prop} {v : Value} {ps : List PT} : RKE W A v ps → RKE W (fun k => A k ∧ k < W.heap.size) v ps := fun ⟨xs, h1, h2, h3⟩ => ⟨xs, h1.lt, h2, fun i x c e1 e2 => (h3 i x c e1 e2).valid⟩

set_option maxRecDepth 100000 in
set_option maxHeartbeats 400000 in
theorem clo102 (wl : World) (br : Nat) (hbr : br < wl.heap.size) (A : Nat → Prop) (hA : ∀ k, A k → k ≠ br ∧ k < wl.heap.size) (b2 : Nat) (m2 : Blk wl b2 61 [.pointer (some ⟨br, 0, none⟩)]) (hb2 : b2 ≠ br) (D : Int) (W : World) (c : CT) (x : C8) (d : Int) (kv : Value) (ps : List PT) (s : Nat) (hK : Ktw br br wl W) (hR : Room W br) (hx : RC wl A c x) (hd0 : 0 ≤ d) (hdD : d ≤ D) (hs0 : wl.heap.size ≤ s) (hs1 : s ≤ W.heap.size) (hkv : RKE W (AS A s) kv ps) (hlen : ps.length = c.kids.length) :
    Calls Try.prog 90 ([tv x, .int .i64 d, kv] ++ [Value.pointer (some ⟨b2, 0, none⟩)]).toArray W fun e w' => ∃ v, e = .returned v ∧ ((∃ y, v = tv y ∧ RE w' (AS A s) (Go_ c d ps) y ∧ Tt c y) ∧ Room w' br) ∧ Ktw br br W w' := by
  have hQ := Ktw.refl br br W
  have sQ := hQ.size
  have sK := hK.size
  have hA2 : ∀ k, A k → k ≠ br ∧ k ≠ br := fun k hk => ⟨(hA k hk).1, (hA k hk).1⟩
  have hAS : ∀ k, AS A s k → k ≠ br := fun k hk => by rcases hk with hk | hk; (· exact (hA k hk).1); omega
  have hkv0 := hkv.valid
  have m2 := m2.k2 hK (by omega)
  have hb2l := m2.lt
  refine calls_fs 12 [(0, tv x), (1, .int .i64 d), (2, kv), (3, .pointer (some ⟨b2, 0, none⟩))] Try.func90 rfl rfl rfl rfl rfl fun a hF => ?_
  refine wp_rs fun K1 hK1 => ?_
  refine s_box (tc x) hF (by decide) rfl rfl fun w2 b4 a eb4 m4 B3 zb4 hF => ?_
  have sB3 := B3.size
  have hK := hK.below B3
  have hQ := hQ.below B3
  have m2 := m2.old B3
  have hR := hR.below B3
  refine s_alloc hF (by decide) zero27 fun w4 b7 a eb7 m7 B5 zb7 hF => ?_
  have sB5 := B5.size
  have hK := hK.below B5
  have hQ := hQ.below B5
  have m2 := m2.old B5
  have m4 := m4.old B5
  have hR := hR.below B5
  refine s_end (hK1 _ _ ?_)
  refine wp_rs fun K2 hK2 => ?_
  refine s_val hF (x_load rfl (m_load flat64 (m2.cell (j := 0) rfl))) (by decide) fun a hF => ?_
  refine s_val hF (x_ldW wide27 m4 rfl rfl) (by decide) fun a hF => ?_
  refine s_val hF (x_move rfl) (by decide) fun a hF => ?_
  refine s_call (R := fun u w' => ((∃ y, u = tv y ∧ RE w' (fun k => (AS A s k ∧ k < W.heap.size) ∨ w4.heap.size ≤ k) (nodeP c ps) y ∧ y.ts = kv) ∧ Room w' br) ∧ Ktw br br w4 w') hF [_, _, _] (enters_of Try.func73 (by kernel_rfl) rfl) rfl (by decide) (node92 w4 br (by omega) (fun k => AS A s k ∧ k < W.heap.size) (fun k hk => ⟨hAS k hk.1, by have := hk.2; omega⟩) c x ((hx.keep hK.size (fun k hk hb => hK.block k hb (hA2 k hk))).mono (fun k hk => ⟨.inl hk, by have := hA k hk; omega⟩)) kv ps (hkv0.keep hQ.size (fun k hk hb => hQ.block k hb ⟨hAS k hk.1, hAS k hk.1⟩)) hlen hR) ?_
  rintro _ w6 a ⟨⟨⟨y9, rfl, hy9, ht9⟩, hR⟩, k7⟩ hF
  have sk7 := k7.size
  have hK := hK.trans k7 (by omega)
  have hQ := hQ.trans k7 (by omega)
  have m2 := m2.k2 k7 (by omega)
  have m4 := m4.k2 k7 (by omega)
  have m7 := m7.k2 k7 (by omega)
  have hy9 := hy9.valid
  have hT9 : Tt c y9 := tt_of hlen hkv0 ht9
  clear ht9
  refine s_putW hF rfl rfl (size_wide wide27) m7 rfl hy9.one fun w10 m7 o11 => ?_
  have so11 := o11.size
  have hK := hK.only o11 (by omega)
  have hQ := hQ.only o11 (by omega)
  have m2 := m2.only o11 (by omega)
  have m4 := m4.only o11 (by omega)
  have hR := hR.only o11 (by omega)
  have hy9 := hy9.only o11 (by first | (intro h; have h2 := h.2; omega) | (intro h; rcases h.1 with h1 | h1; (have := hA _ h1; omega); (have := h.2; omega)) | (intro h; rcases h.1 with h1 | h1; (have := h1.2; omega); (have := h.2; omega)) | (intro h; rcases h.1 with h1 | h1; (exact hAS _ h1.1 rfl); (have := h.2; omega)) | (intro h; rcases h with h | h; (have := hA _ h; omega); omega) | (intro h; have := hA _ h; omega) | (intro h; rcases h with h | h; (have := h.2; omega); omega) | exact Ar.nbr | exact Ai.nbr | exact Ar.no (by omega) | exact Ai.no (by omega))
  refine s_end (hK2 _ _ ?_)
  refine wp_ret (res_cell hF rfl rfl m7 wide27 ⟨_, rfl, ⟨⟨y9, rfl, hy9.mono (fun k hk => by rcases hk.1 with hk | hk; (· exact hk.1); exact .inr (by omega)), hT9⟩, hR⟩, hQ⟩)

set_option maxRecDepth 100000 in
set_option maxHeartbeats 400000 in
theorem owned57 (W : World) (br : Nat) (hbr : br < W.heap.size) (A : Nat → Prop) (hA : ∀ k, A k → k ≠ br ∧ k < W.heap.size) (c : CT) (x : C8) (hx : RC W A c x) (hR : Room W br) : Calls Try.prog 46 #[.pointer (some ⟨br, 0, none⟩), tv x] W fun e w' => ∃ u, e = .returned u ∧ ((∃ y, u = tv y ∧ RE w' (AS A W.heap.size) c.ess y) ∧ Room w' br) ∧ Ktw br br W w' := by
  have hQ := Ktw.refl br br W
  have sQ := hQ.size
  have hA2 : ∀ k, A k → k ≠ br ∧ k ≠ br := fun k hk => ⟨(hA k hk).1, (hA k hk).1⟩
  refine calls_fs 14 [(0, .pointer (some ⟨br, 0, none⟩)), (1, tv x)] Try.func46 rfl rfl rfl rfl rfl fun a hF => ?_
  refine wp_rs fun K1 hK1 => ?_
  refine s_box ([.pointer (some ⟨br, 0, none⟩)]) hF (by decide) rfl rfl fun w2 b2 a eb2 m2 B3 zb2 hF => ?_
  have sB3 := B3.size
  have hQ := hQ.below B3
  have hR := hR.below B3
  refine s_box (tc x) hF (by decide) rfl rfl fun w4 b3 a eb3 m3 B5 zb3 hF => ?_
  have sB5 := B5.size
  have hQ := hQ.below B5
  have m2 := m2.old B5
  have hR := hR.below B5
  refine s_alloc hF (by decide) zero27 fun w6 b4 a eb4 m4 B7 zb4 hF => ?_
  have sB7 := B7.size
  have hQ := hQ.below B7
  have m2 := m2.old B7
  have m3 := m3.old B7
  have hR := hR.below B7
  refine s_end (hK1 _ _ ?_)
  refine wp_seq_k fun K2 hK2 => ?_
  refine wp_rs fun K3 hK3 => ?_
  refine s_val hF (x_load rfl (m_load flat64 (m2.cell (j := 0) rfl))) (by decide) fun a hF => ?_
  refine s_val hF (x_ldW wide27 m3 rfl rfl) (by decide) fun a hF => ?_
  refine s_litG [tv x] el25 hF (by decide) rfl (by simp [Value.cells, tc]) rfl (by decide) (by decide) fun w8 bl a ebl ml B9 zbl hF => ?_
  have sB9 := B9.size
  have hQ := hQ.below B9
  have m2 := m2.old B9
  have m3 := m3.old B9
  have m4 := m4.old B9
  have hR := hR.below B9
  have ml : Blk w8 bl 27 (tc x) := by simpa [Value.cells] using ml
  have hbl1 := ml.lt
  have hrl : RK w8 (Ai w8.heap.size br) (.slice (some ⟨bl, 0, none⟩) 1 1) [c] := ⟨[x], ⟨by simpa using Rd.blk ml (n := 1) rfl, fun _ b hb => by simp [Value.ownBlock] at hb; subst hb; exact ⟨by omega, by omega⟩⟩, rfl, fun i x2 l2 e1 e2 => by rcases i with _ | i; (· simp at e1 e2; subst e1 e2; exact RC.mono (fun k hk => ⟨(hA k hk).1, by have := (hA k hk).2; omega⟩) (hx.keep hQ.size (fun k hk hb => hQ.block k hb (hA2 k hk)))); simp at e1⟩
  refine s_call (R := fun u w' => ((∃ b, u = .bool b ∧ (b = true → [c].length * 120 ≤ 2147483647 ∧ ∀ c' ∈ [c], c'.dep ≤ 65536)) ∧ Room w' br) ∧ Ktw br br w8 w') hF [_, _, _, _] (enters_of Try.func88 (by kernel_rfl) rfl) rfl (by decide) (takes100 w8 br (by omega) [c] _ hrl w8 (Ktw.refl br br _) hR) ?_
  rintro _ w10 a ⟨⟨⟨b8, rfl, h8⟩, hR⟩, k11⟩ hF
  have sk11 := k11.size
  have hQ := hQ.trans k11 (by omega)
  have m2 := m2.k2 k11 (by omega)
  have m3 := m3.k2 k11 (by omega)
  have m4 := m4.k2 k11 (by omega)
  have ml := ml.k2 k11 (by omega)
  refine s_val hF (x_not rfl) (by decide) fun a hF => ?_
  refine s_end (hK3 _ _ ?_)
  refine wp_ifb hF rfl (fun hc9 => ?_) (fun hc9 => ?_)
  · refine wp_rs fun K4 hK4 => ?_
    refine s_val hF (x_ldW wide27 m3 rfl rfl) (by decide) fun a hF => ?_
    refine s_putW hF rfl rfl (size_wide wide27) m4 rfl hx.one fun w14 m4 o15 => ?_
    have so15 := o15.size
    have hQ := hQ.only o15 (by omega)
    have m2 := m2.only o15 (by omega)
    have m3 := m3.only o15 (by omega)
    have ml := ml.only o15 (by omega)
    have hR := hR.only o15 (by omega)
    refine s_end (hK4 _ _ ?_)
    refine wp_ret (then_ret (res_cell hF rfl rfl m4 wide27 ⟨_, rfl, ⟨⟨x, rfl, ((hx.keep hQ.size (fun k hk hb => hQ.block k hb (hA2 k hk))).mono (fun k hk => .inl hk)).re⟩, hR⟩, hQ⟩))
  · obtain rfl : b8 = true := by simpa using hc9
    have hdp9 : c.dep ≤ 65536 := (h8 rfl).2 c (by simp)
    refine wp_skip (hK2 _ _ ?_)
    refine wp_rs fun K5 hK5 => ?_
    refine s_val hF (x_ldW wide27 m3 rfl rfl) (by decide) fun a hF => ?_
    refine s_val hF (x_mkf [_] rfl) (by decide) fun a hF => ?_
    have hx9 := hx.keep hQ.size (fun k hk hb => hQ.block k hb (hA2 k hk))
    have hA9 : ∀ k, A k → k ≠ br ∧ k < w10.heap.size := fun k hk => ⟨(hA k hk).1, by have := (hA k hk).2; omega⟩
    refine s_call (R := fun u w' => ((∃ y, u = tv y ∧ RE w' (AS A w10.heap.size) (c.fold (Go_) 0) y ∧ Tt c y) ∧ Room w' br) ∧ Ktw br br w10 w') hF [_, _, _] (enters_of Try.func69 (by kernel_rfl) rfl) rfl (by decide) (fold88 w10 br (by omega) A hA9 90 [.pointer (some ⟨b2, 0, none⟩)] (enters_of Try.func90 (by kernel_rfl) rfl) 65536 (by decide) (Go_) (clo102 w10 br (by omega) A hA9 b2 m2 (by omega) 65536) (c.size + 1) c x 0 w10 (by omega) hx9 (by decide) (by omega) (Ktw.refl br br _) hR) ?_
    rintro _ w16 a ⟨⟨⟨y9, rfl, hy9, hT9⟩, hR⟩, k17⟩ hF
    have sk17 := k17.size
    have hQ := hQ.trans k17 (by omega)
    have m2 := m2.k2 k17 (by omega)
    have m3 := m3.k2 k17 (by omega)
    have m4 := m4.k2 k17 (by omega)
    have ml := ml.k2 k17 (by omega)
    refine s_putW hF rfl rfl (size_wide wide27) m4 rfl hy9.one fun w20 m4 o21 => ?_
    have so21 := o21.size
    have hQ := hQ.only o21 (by omega)
    have m2 := m2.only o21 (by omega)
    have m3 := m3.only o21 (by omega)
    have ml := ml.only o21 (by omega)
    have hR := hR.only o21 (by omega)
    have hy9 := hy9.only o21 (by first | (intro h; have h2 := h.2; omega) | (intro h; rcases h.1 with h1 | h1; (have := hA _ h1; omega); (have := h.2; omega)) | (intro h; rcases h.1 with h1 | h1; (have := h1.2; omega); (have := h.2; omega)) | (intro h; rcases h.1 with h1 | h1; (exact hAS _ h1.1 rfl); (have := h.2; omega)) | (intro h; rcases h with h | h; (have := hA _ h; omega); omega) | (intro h; have := hA _ h; omega) | (intro h; rcases h with h | h; (have := h.2; omega); omega) | exact Ar.nbr | exact Ai.nbr | exact Ar.no (by omega) | exact Ai.no (by omega))
    refine s_end (hK5 _ _ ?_)
    rw [fold_own] at hy9
    refine wp_ret (res_cell hF rfl rfl m4 wide27 ⟨_, rfl, ⟨⟨y9, rfl, hy9.mono (AS.mono (by omega))⟩, hR⟩, hQ⟩)

set_option maxRecDepth 100000 in
set_option maxHeartbeats 400000 in
theorem clo131 (wl : World) (br : Nat) (hbr : br < wl.heap.size) (A : Nat → Prop) (hA : ∀ k, A k → k ≠ br ∧ k < wl.heap.size) (f b : Int) (hf : 0 ≤ f) (hb0 : -4611686018427387904 ≤ b) (bp bf bb : Nat) (mp : Blk wl bp 61 [.pointer (some ⟨br, 0, none⟩)]) (mf : Blk wl bf 3 [.int .i64 f]) (mb : Blk wl bb 3 [.int .i64 b]) (hne : bp ≠ br ∧ bf ≠ br ∧ bb ≠ br) (D : Int) (hD : D ≤ 4611686018427387904) (W : World) (c : CT) (x : C8) (d : Int) (kv : Value) (ps : List PT) (s : Nat) (hK : Ktw br br wl W) (hR : Room W br) (hx : RC wl A c x) (hd0 : 0 ≤ d) (hdD : d ≤ D) (hs0 : wl.heap.size ≤ s) (hs1 : s ≤ W.heap.size) (hkv : RKE W (AS A s) kv ps) (hlen : ps.length = c.kids.length) :
    Calls Try.prog 114 ([tv x, .int .i64 d, kv] ++ [Value.pointer (some ⟨bp, 0, none⟩), Value.pointer (some ⟨bf, 0, none⟩), Value.pointer (some ⟨bb, 0, none⟩)]).toArray W fun e w' => ∃ v, e = .returned v ∧ ((∃ y, v = tv y ∧ RE w' (AS A s) (Gl f b c d ps) y ∧ Tt c y) ∧ Room w' br) ∧ Ktw br br W w' := by
  have hQ := Ktw.refl br br W
  have sQ := hQ.size
  have sK := hK.size
  have hA2 : ∀ k, A k → k ≠ br ∧ k ≠ br := fun k hk => ⟨(hA k hk).1, (hA k hk).1⟩
  have hAS : ∀ k, AS A s k → k ≠ br := fun k hk => by rcases hk with hk | hk; (· exact (hA k hk).1); omega
  have hkv0 := hkv.valid
  have mp := mp.k2 hK (by omega)
  have mf := mf.k2 hK (by omega)
  have mb := mb.k2 hK (by omega)
  have hpl := mp.lt
  have hfl := mf.lt
  have hbl := mb.lt
  have hrng : x.k = 1 → in64 x.n := fun h => by
    obtain ⟨n, m, rfl⟩ := hx.var_of h
    have h1 := hx.2.1
    have h2 := hx.2.2.1
    rw [h1]; exact h2
  have hres : ¬ (x.k = 1 ∧ d ≤ x.n ∧ f ≤ x.n - d) → Gl f b c d ps = nodeP c ps := by
    intro h
    cases c with
    | var n m =>
      have h1 := hx.1
      have h2 := hx.2.1
      simp only [Gl, nodeP, liftN]
      rw [if_neg (by rw [← h2]; exact fun h' => h ⟨h1, h'.1, h'.2⟩)]
    | _ => rfl
  refine calls_fs 40 [(0, tv x), (1, .int .i64 d), (2, kv), (3, Value.pointer (some ⟨bp, 0, none⟩)), (4, Value.pointer (some ⟨bf, 0, none⟩)), (5, Value.pointer (some ⟨bb, 0, none⟩))] Try.func114 rfl rfl rfl rfl rfl fun a hF => ?_
  refine wp_rs fun K1 hK1 => ?_
  refine s_box (tc x) hF (by decide) rfl rfl fun w2 b6 a eb6 m6 B3 zb6 hF => ?_
  have sB3 := B3.size
  have hK := hK.below B3
  have hQ := hQ.below B3
  have mp := mp.old B3
  have mf := mf.old B3
  have mb := mb.old B3
  have hR := hR.below B3
  refine s_alloc hF (by decide) zero27 fun w4 b9 a eb9 m9 B5 zb9 hF => ?_
  have sB5 := B5.size
  have hK := hK.below B5
  have hQ := hQ.below B5
  have mp := mp.old B5
  have mf := mf.old B5
  have mb := mb.old B5
  have m6 := m6.old B5
  have hR := hR.below B5
  refine s_end (hK1 _ _ ?_)
  refine wp_rs fun K2 hK2 => ?_
  refine s_val hF (x_load rfl (m_load flat64 (mp.cell (j := 0) rfl))) (by decide) fun a hF => ?_
  refine s_val hF (x_ldW wide27 m6 rfl rfl) (by decide) fun a hF => ?_
  refine s_val hF (x_move rfl) (by decide) fun a hF => ?_
  refine s_call (R := fun u w' => ((∃ y, u = tv y ∧ RE w' (fun k => (AS A s k ∧ k < W.heap.size) ∨ w4.heap.size ≤ k) (nodeP c ps) y ∧ y.ts = kv) ∧ Room w' br) ∧ Ktw br br w4 w') hF [_, _, _] (enters_of Try.func73 (by kernel_rfl) rfl) rfl (by decide) (node92 w4 br (by omega) (fun k => AS A s k ∧ k < W.heap.size) (fun k hk => ⟨hAS k hk.1, by have := hk.2; omega⟩) c x ((hx.keep hK.size (fun k hk hb => hK.block k hb (hA2 k hk))).mono (fun k hk => ⟨.inl hk, by have := hA k hk; omega⟩)) kv ps (hkv0.keep hQ.size (fun k hk hb => hQ.block k hb ⟨hAS k hk.1, hAS k hk.1⟩)) hlen hR) ?_
  rintro _ w6 a ⟨⟨⟨y9, rfl, hy9, ht9⟩, hR⟩, k7⟩ hF
  have sk7 := k7.size
  have hK := hK.trans k7 (by omega)
  have hQ := hQ.trans k7 (by omega)
  have mp := mp.k2 k7 (by omega)
  have mf := mf.k2 k7 (by omega)
  have mb := mb.k2 k7 (by omega)
  have m6 := m6.k2 k7 (by omega)
  have m9 := m9.k2 k7 (by omega)
  have hy9 := hy9.valid
  have hT9 : Tt c y9 := tt_of hlen hkv0 ht9
  clear ht9
  refine s_alloc hF (by decide) zero27 fun w8 b10 a eb10 m10 B9 zb10 hF => ?_
  have sB9 := B9.size
  have hK := hK.below B9
  have hQ := hQ.below B9
  have mp := mp.old B9
  have mf := mf.old B9
  have mb := mb.old B9
  have m6 := m6.old B9
  have m9 := m9.old B9
  have hR := hR.below B9
  have hy9 := hy9.below B9
  refine s_putW hF rfl rfl (size_wide wide27) m10 rfl hy9.one fun w12 m10 o13 => ?_
  have so13 := o13.size
  have hK := hK.only o13 (by omega)
  have hQ := hQ.only o13 (by omega)
  have mp := mp.only o13 (by omega)
  have mf := mf.only o13 (by omega)
  have mb := mb.only o13 (by omega)
  have m6 := m6.only o13 (by omega)
  have m9 := m9.only o13 (by omega)
  have hR := hR.only o13 (by omega)
  have hy9 := hy9.only o13 (by first | (intro h; have h2 := h.2; omega) | (intro h; rcases h.1 with h1 | h1; (have := hA _ h1; omega); (have := h.2; omega)) | (intro h; rcases h.1 with h1 | h1; (have := h1.2; omega); (have := h.2; omega)) | (intro h; rcases h.1 with h1 | h1; (exact hAS _ h1.1 rfl); (have := h.2; omega)) | (intro h; rcases h with h | h; (have := hA _ h; omega); omega) | (intro h; have := hA _ h; omega) | (intro h; rcases h with h | h; (have := h.2; omega); omega) | exact Ar.nbr | exact Ai.nbr | exact Ar.no (by omega) | exact Ai.no (by omega))
  refine s_end (hK2 _ _ ?_)
  refine wp_seq_k fun K3 hK3 => ?_
  rcases (show (x.k = 1 ∧ d ≤ x.n ∧ f ≤ x.n - d) ∨ (x.k = 1 ∧ d ≤ x.n ∧ ¬ f ≤ x.n - d) ∨ (x.k = 1 ∧ ¬ d ≤ x.n) ∨ x.k ≠ 1 by omega) with hk9 | hk9 | hk9 | hk9
  · have hri0 := hrng hk9.1
    unfold in64 at hri0
    refine wp_rs fun K5 hK5 => ?_
    refine s_val hF (x_fa0 fa27_0 rfl) (by decide) fun a hF => ?_
    refine s_val hF (x_load rfl (m_load flat3 (m6.cell (j := 0) rfl))) (by decide) fun a hF => ?_
    refine s_val hF (x_eql (b := true) (decide_eq_true (by omega)) rfl rfl) (by decide) fun a hF => ?_
    refine s_val hF (x_move rfl) (by decide) fun a hF => ?_
    refine s_grd 18 hF rfl rfl rfl ?_
    refine s_val hF (x_fa0 fa27_1 rfl) (by decide) fun a hF => ?_
    refine s_grd 18 hF rfl rfl rfl ?_
    refine s_val hF (x_load rfl (m_load flat3 (m6.cell (j := 1) rfl))) (by decide) fun a hF => ?_
    refine s_grd 18 hF rfl rfl rfl ?_
    refine s_val hF (x_move rfl) (by decide) fun a hF => ?_
    refine s_grd 18 hF rfl rfl rfl ?_
    refine s_val hF (x_geq (b := true) (decide_eq_true (by omega)) rfl rfl) (by decide) fun a hF => ?_
    refine s_val hF (x_pick (b := true) rfl rfl) (by decide) fun a hF => ?_
    refine s_val hF (x_move rfl) (by decide) fun a hF => ?_
    refine s_grd 24 hF rfl rfl rfl ?_
    refine s_val hF (x_fa0 fa27_1 rfl) (by decide) fun a hF => ?_
    refine s_grd 24 hF rfl rfl rfl ?_
    refine s_val hF (x_load rfl (m_load flat3 (m6.cell (j := 1) rfl))) (by decide) fun a hF => ?_
    refine s_grd 24 hF rfl rfl rfl ?_
    refine s_val hF (x_move rfl) (by decide) fun a hF => ?_
    refine s_grd 24 hF rfl rfl rfl ?_
    refine s_val hF (x_sub (by omega) (by omega) rfl rfl) (by decide) fun a hF => ?_
    refine s_grd 24 hF rfl rfl rfl ?_
    refine s_val hF (x_load rfl (m_load flat3 (mf.cell (j := 0) rfl))) (by decide) fun a hF => ?_
    refine s_grd 24 hF rfl rfl rfl ?_
    refine s_val hF (x_geq (b := true) (decide_eq_true (by omega)) rfl rfl) (by decide) fun a hF => ?_
    refine s_val hF (x_pick (b := true) rfl rfl) (by decide) fun a hF => ?_
    refine s_end (hK5 _ _ ?_)
    refine wp_if hF rfl ?_
    refine wp_region_lit ?_
    refine s_val hF (x_fa0 fa27_1 rfl) (by decide) fun a hF => ?_
    refine s_val hF (x_load rfl (m_load flat3 (m6.cell (j := 1) rfl))) (by decide) fun a hF => ?_
    refine s_val hF (x_load rfl (m_load flat3 (mb.cell (j := 0) rfl))) (by decide) fun a hF => ?_
    refine s_callS [_, _] hF (enters_of Try.func80 (by kernel_rfl) rfl) rfl (by decide) (plus78 x.n b w12 (by omega) (by have := hrng hk9.1; unfold in64 at this; omega) (by omega)) fun a hF => ?_
    refine s_val hF (x_move rfl) (by decide) fun a hF => ?_
    refine s_val hF (x_imax rfl rfl) (by decide) fun a hF => ?_
    refine s_val hF (x_fa0 fa27_1 rfl) (by decide) fun a hF => ?_
    refine s_put hF rfl rfl flat3 m10 (by first | (simp; done) | (simp [tc, lc]; done) | decide) rfl fun w14 m10 o15 => ?_
    have so15 := o15.size
    have hK := hK.only o15 (by omega)
    have hQ := hQ.only o15 (by omega)
    have mp := mp.only o15 (by omega)
    have mf := mf.only o15 (by omega)
    have mb := mb.only o15 (by omega)
    have m6 := m6.only o15 (by omega)
    have m9 := m9.only o15 (by omega)
    have hR := hR.only o15 (by omega)
    have hy9 := hy9.only o15 (by first | (intro h; have h2 := h.2; omega) | (intro h; rcases h.1 with h1 | h1; (have := hA _ h1; omega); (have := h.2; omega)) | (intro h; rcases h.1 with h1 | h1; (have := h1.2; omega); (have := h.2; omega)) | (intro h; rcases h.1 with h1 | h1; (exact hAS _ h1.1 rfl); (have := h.2; omega)) | (intro h; rcases h with h | h; (have := hA _ h; omega); omega) | (intro h; have := hA _ h; omega) | (intro h; rcases h with h | h; (have := h.2; omega); omega) | exact Ar.nbr | exact Ai.nbr | exact Ar.no (by omega) | exact Ai.no (by omega))
    refine s_end (hK3 _ _ ?_)
    obtain ⟨n9, mm9, rfl⟩ := hx.var_of hk9.1
    have hn9 : x.n = n9 := hx.2.1
    have hri := hrng hk9.1
    unfold in64 at hri
    obtain ⟨c9, hc9, he9⟩ := hy9
    have hc9v : ∃ m, c9 = .var n9 m := by cases c9 <;> simp [nodeP, CT.ess] at he9; exact ⟨_, by rw [he9]⟩
    obtain ⟨mm8, rfl⟩ := hc9v
    have hyn9 : y9.n = n9 := hc9.2.1
    have hG9 : Gl f b (.var n9 mm9) d ps = .var (max (min (x.n + b) 9223372036854775807) d) := by simp only [Gl]; rw [liftN, ← hn9, if_pos ⟨hk9.2.1, hk9.2.2⟩]
    have hz9 : RE w14 (fun k => ((AS A s k ∧ k < W.heap.size) ∨ w4.heap.size ≤ k) ∧ k < w6.heap.size) (Gl f b (.var n9 mm9) d ps) ⟨y9.k, max (min (x.n + b) 9223372036854775807) d, y9.s, y9.l, y9.ls, y9.ts⟩ := by rw [hG9]; exact ⟨.var (max (min (x.n + b) 9223372036854775807) d) mm8, ⟨hc9.1, rfl, by unfold in64; omega, hc9.2.2.2.1, hc9.2.2.2.2⟩, rfl⟩
    have h1Y := hz9.one
    refine wp_rs fun K6 hK6 => ?_
    refine s_val hF (x_ldW wide27 m10 rfl rfl) (by decide) fun a hF => ?_
    refine s_putW hF rfl rfl (size_wide wide27) m9 rfl h1Y fun w18 m9 o19 => ?_
    have so19 := o19.size
    have hK := hK.only o19 (by omega)
    have hQ := hQ.only o19 (by omega)
    have mp := mp.only o19 (by omega)
    have mf := mf.only o19 (by omega)
    have mb := mb.only o19 (by omega)
    have m6 := m6.only o19 (by omega)
    have m10 := m10.only o19 (by omega)
    have hR := hR.only o19 (by omega)
    have hz9 := hz9.only o19 (by first | (intro h; have h2 := h.2; omega) | (intro h; rcases h.1 with h1 | h1; (have := hA _ h1; omega); (have := h.2; omega)) | (intro h; rcases h.1 with h1 | h1; (have := h1.2; omega); (have := h.2; omega)) | (intro h; rcases h.1 with h1 | h1; (exact hAS _ h1.1 rfl); (have := h.2; omega)) | (intro h; rcases h with h | h; (have := hA _ h; omega); omega) | (intro h; have := hA _ h; omega) | (intro h; rcases h with h | h; (have := h.2; omega); omega) | exact Ar.nbr | exact Ai.nbr | exact Ar.no (by omega) | exact Ai.no (by omega))
    refine s_end (hK6 _ _ ?_)
    refine wp_ret (res_cell hF rfl rfl m9 wide27 ⟨_, rfl, ⟨⟨_, rfl, hz9.mono (fun k hk => by rcases hk.1 with hk | hk; (· exact hk.1); exact .inr (by omega)), tt_var⟩, hR⟩, hQ⟩)
  · have hri0 := hrng hk9.1
    unfold in64 at hri0
    refine wp_rs fun K7 hK7 => ?_
    refine s_val hF (x_fa0 fa27_0 rfl) (by decide) fun a hF => ?_
    refine s_val hF (x_load rfl (m_load flat3 (m6.cell (j := 0) rfl))) (by decide) fun a hF => ?_
    refine s_val hF (x_eql (b := true) (decide_eq_true (by omega)) rfl rfl) (by decide) fun a hF => ?_
    refine s_val hF (x_move rfl) (by decide) fun a hF => ?_
    refine s_grd 18 hF rfl rfl rfl ?_
    refine s_val hF (x_fa0 fa27_1 rfl) (by decide) fun a hF => ?_
    refine s_grd 18 hF rfl rfl rfl ?_
    refine s_val hF (x_load rfl (m_load flat3 (m6.cell (j := 1) rfl))) (by decide) fun a hF => ?_
    refine s_grd 18 hF rfl rfl rfl ?_
    refine s_val hF (x_move rfl) (by decide) fun a hF => ?_
    refine s_grd 18 hF rfl rfl rfl ?_
    refine s_val hF (x_geq (b := true) (decide_eq_true (by omega)) rfl rfl) (by decide) fun a hF => ?_
    refine s_val hF (x_pick (b := true) rfl rfl) (by decide) fun a hF => ?_
    refine s_val hF (x_move rfl) (by decide) fun a hF => ?_
    refine s_grd 24 hF rfl rfl rfl ?_
    refine s_val hF (x_fa0 fa27_1 rfl) (by decide) fun a hF => ?_
    refine s_grd 24 hF rfl rfl rfl ?_
    refine s_val hF (x_load rfl (m_load flat3 (m6.cell (j := 1) rfl))) (by decide) fun a hF => ?_
    refine s_grd 24 hF rfl rfl rfl ?_
    refine s_val hF (x_move rfl) (by decide) fun a hF => ?_
    refine s_grd 24 hF rfl rfl rfl ?_
    refine s_val hF (x_sub (by omega) (by omega) rfl rfl) (by decide) fun a hF => ?_
    refine s_grd 24 hF rfl rfl rfl ?_
    refine s_val hF (x_load rfl (m_load flat3 (mf.cell (j := 0) rfl))) (by decide) fun a hF => ?_
    refine s_grd 24 hF rfl rfl rfl ?_
    refine s_val hF (x_geq (b := false) (decide_eq_false (by omega)) rfl rfl) (by decide) fun a hF => ?_
    refine s_val hF (x_pick (b := true) rfl rfl) (by decide) fun a hF => ?_
    refine s_end (hK7 _ _ ?_)
    refine wp_if hF rfl ?_
    refine wp_skip (hK3 _ _ ?_)
    have h1Y := hy9.one
    refine wp_rs fun K8 hK8 => ?_
    refine s_val hF (x_ldW wide27 m10 rfl rfl) (by decide) fun a hF => ?_
    refine s_putW hF rfl rfl (size_wide wide27) m9 rfl h1Y fun w22 m9 o23 => ?_
    have so23 := o23.size
    have hK := hK.only o23 (by omega)
    have hQ := hQ.only o23 (by omega)
    have mp := mp.only o23 (by omega)
    have mf := mf.only o23 (by omega)
    have mb := mb.only o23 (by omega)
    have m6 := m6.only o23 (by omega)
    have m10 := m10.only o23 (by omega)
    have hR := hR.only o23 (by omega)
    have hy9 := hy9.only o23 (by first | (intro h; have h2 := h.2; omega) | (intro h; rcases h.1 with h1 | h1; (have := hA _ h1; omega); (have := h.2; omega)) | (intro h; rcases h.1 with h1 | h1; (have := h1.2; omega); (have := h.2; omega)) | (intro h; rcases h.1 with h1 | h1; (exact hAS _ h1.1 rfl); (have := h.2; omega)) | (intro h; rcases h with h | h; (have := hA _ h; omega); omega) | (intro h; have := hA _ h; omega) | (intro h; rcases h with h | h; (have := h.2; omega); omega) | exact Ar.nbr | exact Ai.nbr | exact Ar.no (by omega) | exact Ai.no (by omega))
    refine s_end (hK8 _ _ ?_)
    refine wp_ret (res_cell hF rfl rfl m9 wide27 ⟨_, rfl, ⟨⟨y9, rfl, by rw [hres (by omega)]; exact hy9.mono (fun k hk => by rcases hk.1 with hk | hk; (· exact hk.1); exact .inr (by omega)), hT9⟩, hR⟩, hQ⟩)
  · skip
    refine wp_rs fun K9 hK9 => ?_
    refine s_val hF (x_fa0 fa27_0 rfl) (by decide) fun a hF => ?_
    refine s_val hF (x_load rfl (m_load flat3 (m6.cell (j := 0) rfl))) (by decide) fun a hF => ?_
    refine s_val hF (x_eql (b := true) (decide_eq_true (by omega)) rfl rfl) (by decide) fun a hF => ?_
    refine s_val hF (x_move rfl) (by decide) fun a hF => ?_
    refine s_grd 18 hF rfl rfl rfl ?_
    refine s_val hF (x_fa0 fa27_1 rfl) (by decide) fun a hF => ?_
    refine s_grd 18 hF rfl rfl rfl ?_
    refine s_val hF (x_load rfl (m_load flat3 (m6.cell (j := 1) rfl))) (by decide) fun a hF => ?_
    refine s_grd 18 hF rfl rfl rfl ?_
    refine s_val hF (x_move rfl) (by decide) fun a hF => ?_
    refine s_grd 18 hF rfl rfl rfl ?_
    refine s_val hF (x_geq (b := false) (decide_eq_false (by omega)) rfl rfl) (by decide) fun a hF => ?_
    refine s_val hF (x_pick (b := true) rfl rfl) (by decide) fun a hF => ?_
    refine s_val hF (x_move rfl) (by decide) fun a hF => ?_
    refine s_grdn 24 hF rfl rfl (by decide) fun a hF => ?_
    refine s_grdn 24 hF rfl rfl (by decide) fun a hF => ?_
    refine s_grdn 24 hF rfl rfl (by decide) fun a hF => ?_
    refine s_grdn 24 hF rfl rfl (by decide) fun a hF => ?_
    refine s_grdn 24 hF rfl rfl (by decide) fun a hF => ?_
    refine s_grdn 24 hF rfl rfl (by decide) fun a hF => ?_
    refine s_val hF (x_pick (b := false) rfl rfl) (by decide) fun a hF => ?_
    refine s_end (hK9 _ _ ?_)
    refine wp_if hF rfl ?_
    refine wp_skip (hK3 _ _ ?_)
    have h1Y := hy9.one
    refine wp_rs fun K10 hK10 => ?_
    refine s_val hF (x_ldW wide27 m10 rfl rfl) (by decide) fun a hF => ?_
    refine s_putW hF rfl rfl (size_wide wide27) m9 rfl h1Y fun w26 m9 o27 => ?_
    have so27 := o27.size
    have hK := hK.only o27 (by omega)
    have hQ := hQ.only o27 (by omega)
    have mp := mp.only o27 (by omega)
    have mf := mf.only o27 (by omega)
    have mb := mb.only o27 (by omega)
    have m6 := m6.only o27 (by omega)
    have m10 := m10.only o27 (by omega)
    have hR := hR.only o27 (by omega)
    have hy9 := hy9.only o27 (by first | (intro h; have h2 := h.2; omega) | (intro h; rcases h.1 with h1 | h1; (have := hA _ h1; omega); (have := h.2; omega)) | (intro h; rcases h.1 with h1 | h1; (have := h1.2; omega); (have := h.2; omega)) | (intro h; rcases h.1 with h1 | h1; (exact hAS _ h1.1 rfl); (have := h.2; omega)) | (intro h; rcases h with h | h; (have := hA _ h; omega); omega) | (intro h; have := hA _ h; omega) | (intro h; rcases h with h | h; (have := h.2; omega); omega) | exact Ar.nbr | exact Ai.nbr | exact Ar.no (by omega) | exact Ai.no (by omega))
    refine s_end (hK10 _ _ ?_)
    refine wp_ret (res_cell hF rfl rfl m9 wide27 ⟨_, rfl, ⟨⟨y9, rfl, by rw [hres (by omega)]; exact hy9.mono (fun k hk => by rcases hk.1 with hk | hk; (· exact hk.1); exact .inr (by omega)), hT9⟩, hR⟩, hQ⟩)
  · skip
    refine wp_rs fun K11 hK11 => ?_
    refine s_val hF (x_fa0 fa27_0 rfl) (by decide) fun a hF => ?_
    refine s_val hF (x_load rfl (m_load flat3 (m6.cell (j := 0) rfl))) (by decide) fun a hF => ?_
    refine s_val hF (x_eql (b := false) (decide_eq_false (by omega)) rfl rfl) (by decide) fun a hF => ?_
    refine s_val hF (x_move rfl) (by decide) fun a hF => ?_
    refine s_grdn 18 hF rfl rfl (by decide) fun a hF => ?_
    refine s_grdn 18 hF rfl rfl (by decide) fun a hF => ?_
    refine s_grdn 18 hF rfl rfl (by decide) fun a hF => ?_
    refine s_grdn 18 hF rfl rfl (by decide) fun a hF => ?_
    refine s_val hF (x_pick (b := false) rfl rfl) (by decide) fun a hF => ?_
    refine s_val hF (x_move rfl) (by decide) fun a hF => ?_
    refine s_grdn 24 hF rfl rfl (by decide) fun a hF => ?_
    refine s_grdn 24 hF rfl rfl (by decide) fun a hF => ?_
    refine s_grdn 24 hF rfl rfl (by decide) fun a hF => ?_
    refine s_grdn 24 hF rfl rfl (by decide) fun a hF => ?_
    refine s_grdn 24 hF rfl rfl (by decide) fun a hF => ?_
    refine s_grdn 24 hF rfl rfl (by decide) fun a hF => ?_
    refine s_val hF (x_pick (b := false) rfl rfl) (by decide) fun a hF => ?_
    refine s_end (hK11 _ _ ?_)
    refine wp_if hF rfl ?_
    refine wp_skip (hK3 _ _ ?_)
    have h1Y := hy9.one
    refine wp_rs fun K12 hK12 => ?_
    refine s_val hF (x_ldW wide27 m10 rfl rfl) (by decide) fun a hF => ?_
    refine s_putW hF rfl rfl (size_wide wide27) m9 rfl h1Y fun w30 m9 o31 => ?_
    have so31 := o31.size
    have hK := hK.only o31 (by omega)
    have hQ := hQ.only o31 (by omega)
    have mp := mp.only o31 (by omega)
    have mf := mf.only o31 (by omega)
    have mb := mb.only o31 (by omega)
    have m6 := m6.only o31 (by omega)
    have m10 := m10.only o31 (by omega)
    have hR := hR.only o31 (by omega)
    have hy9 := hy9.only o31 (by first | (intro h; have h2 := h.2; omega) | (intro h; rcases h.1 with h1 | h1; (have := hA _ h1; omega); (have := h.2; omega)) | (intro h; rcases h.1 with h1 | h1; (have := h1.2; omega); (have := h.2; omega)) | (intro h; rcases h.1 with h1 | h1; (exact hAS _ h1.1 rfl); (have := h.2; omega)) | (intro h; rcases h with h | h; (have := hA _ h; omega); omega) | (intro h; have := hA _ h; omega) | (intro h; rcases h with h | h; (have := h.2; omega); omega) | exact Ar.nbr | exact Ai.nbr | exact Ar.no (by omega) | exact Ai.no (by omega))
    refine s_end (hK12 _ _ ?_)
    refine wp_ret (res_cell hF rfl rfl m9 wide27 ⟨_, rfl, ⟨⟨y9, rfl, by rw [hres (by omega)]; exact hy9.mono (fun k hk => by rcases hk.1 with hk | hk; (· exact hk.1); exact .inr (by omega)), hT9⟩, hR⟩, hQ⟩)

set_option maxRecDepth 100000 in
set_option maxHeartbeats 400000 in
theorem lifted93 (W : World) (br : Nat) (hbr : br < W.heap.size) (A : Nat → Prop) (hA : ∀ k, A k → k ≠ br ∧ k < W.heap.size) (c : CT) (x : C8) (hx : RC W A c x) (f b : Int) (hf : 0 ≤ f) (hb0 : -4611686018427387904 ≤ b) (hdp : (c.dep : Int) ≤ 4611686018427387904) (hR : Room W br) : Calls Try.prog 74 #[.pointer (some ⟨br, 0, none⟩), tv x, .int .i64 f, .int .i64 b] W fun e w' => ∃ u, e = .returned u ∧ ((∃ y, u = tv y ∧ RE w' (AS A W.heap.size) (c.ess.lift f b 0) y) ∧ Room w' br) ∧ Ktw br br W w' := by
  have hQ := Ktw.refl br br W
  have sQ := hQ.size
  have hA2 : ∀ k, A k → k ≠ br ∧ k ≠ br := fun k hk => ⟨(hA k hk).1, (hA k hk).1⟩
  refine calls_fs 12 [(0, .pointer (some ⟨br, 0, none⟩)), (1, tv x), (2, .int .i64 f), (3, .int .i64 b)] Try.func74 rfl rfl rfl rfl rfl fun a hF => ?_
  refine wp_rs fun K1 hK1 => ?_
  refine s_box ([.pointer (some ⟨br, 0, none⟩)]) hF (by decide) rfl rfl fun w2 b4 a eb4 m4 B3 zb4 hF => ?_
  have sB3 := B3.size
  have hQ := hQ.below B3
  have hR := hR.below B3
  refine s_box (tc x) hF (by decide) rfl rfl fun w4 b5 a eb5 m5 B5 zb5 hF => ?_
  have sB5 := B5.size
  have hQ := hQ.below B5
  have m4 := m4.old B5
  have hR := hR.below B5
  refine s_box ([.int .i64 f]) hF (by decide) rfl rfl fun w6 b6 a eb6 m6 B7 zb6 hF => ?_
  have sB7 := B7.size
  have hQ := hQ.below B7
  have m4 := m4.old B7
  have m5 := m5.old B7
  have hR := hR.below B7
  refine s_box ([.int .i64 b]) hF (by decide) rfl rfl fun w8 b7 a eb7 m7 B9 zb7 hF => ?_
  have sB9 := B9.size
  have hQ := hQ.below B9
  have m4 := m4.old B9
  have m5 := m5.old B9
  have m6 := m6.old B9
  have hR := hR.below B9
  refine s_alloc hF (by decide) zero27 fun w10 b8 a eb8 m8 B11 zb8 hF => ?_
  have sB11 := B11.size
  have hQ := hQ.below B11
  have m4 := m4.old B11
  have m5 := m5.old B11
  have m6 := m6.old B11
  have m7 := m7.old B11
  have hR := hR.below B11
  refine s_end (hK1 _ _ ?_)
  refine wp_rs fun K2 hK2 => ?_
  refine s_val hF (x_ldW wide27 m5 rfl rfl) (by decide) fun a hF => ?_
  refine s_val hF (x_mkf [_, _, _] rfl) (by decide) fun a hF => ?_
  have hx9 := hx.keep hQ.size (fun k hk hb => hQ.block k hb (hA2 k hk))
  have hA9 : ∀ k, A k → k ≠ br ∧ k < w10.heap.size := fun k hk => ⟨(hA k hk).1, by have := (hA k hk).2; omega⟩
  refine s_call (R := fun u w' => ((∃ y, u = tv y ∧ RE w' (AS A w10.heap.size) (c.fold (Gl f b) 0) y ∧ Tt c y) ∧ Room w' br) ∧ Ktw br br w10 w') hF [_, _, _] (enters_of Try.func69 (by kernel_rfl) rfl) rfl (by decide) (fold88 w10 br (by omega) A hA9 114 [.pointer (some ⟨b4, 0, none⟩), .pointer (some ⟨b6, 0, none⟩), .pointer (some ⟨b7, 0, none⟩)] (enters_of Try.func114 (by kernel_rfl) rfl) 4611686018427387904 (by decide) (Gl f b) (clo131 w10 br (by omega) A hA9 f b hf hb0 b4 b6 b7 m4 m6 m7 (by omega) 4611686018427387904 (by decide)) (c.size + 1) c x 0 w10 (by omega) hx9 (by decide) (by omega) (Ktw.refl br br _) hR) ?_
  rintro _ w12 a ⟨⟨⟨y9, rfl, hy9, hT9⟩, hR⟩, k13⟩ hF
  have sk13 := k13.size
  have hQ := hQ.trans k13 (by omega)
  have m4 := m4.k2 k13 (by omega)
  have m5 := m5.k2 k13 (by omega)
  have m6 := m6.k2 k13 (by omega)
  have m7 := m7.k2 k13 (by omega)
  have m8 := m8.k2 k13 (by omega)
  refine s_putW hF rfl rfl (size_wide wide27) m8 rfl hy9.one fun w16 m8 o17 => ?_
  have so17 := o17.size
  have hQ := hQ.only o17 (by omega)
  have m4 := m4.only o17 (by omega)
  have m5 := m5.only o17 (by omega)
  have m6 := m6.only o17 (by omega)
  have m7 := m7.only o17 (by omega)
  have hR := hR.only o17 (by omega)
  have hy9 := hy9.only o17 (by first | (intro h; have h2 := h.2; omega) | (intro h; rcases h.1 with h1 | h1; (have := hA _ h1; omega); (have := h.2; omega)) | (intro h; rcases h.1 with h1 | h1; (have := h1.2; omega); (have := h.2; omega)) | (intro h; rcases h.1 with h1 | h1; (exact hAS _ h1.1 rfl); (have := h.2; omega)) | (intro h; rcases h with h | h; (have := hA _ h; omega); omega) | (intro h; have := hA _ h; omega) | (intro h; rcases h with h | h; (have := h.2; omega); omega) | exact Ar.nbr | exact Ai.nbr | exact Ar.no (by omega) | exact Ai.no (by omega))
  refine s_end (hK2 _ _ ?_)
  rw [fold_lift] at hy9
  refine wp_ret (res_cell hF rfl rfl m8 wide27 ⟨_, rfl, ⟨⟨y9, rfl, hy9.mono (AS.mono (by omega))⟩, hR⟩, hQ⟩)

set_option maxRecDepth 100000 in
set_option maxHeartbeats 400000 in
theorem clo122 (wl : World) (br : Nat) (hbr : br < wl.heap.size) (A : Nat → Prop) (hA : ∀ k, A k → k ≠ br ∧ k < wl.heap.size) (cv : CT) (xv : C8) (hv : RC wl A cv xv) (hvd : (cv.dep : Int) ≤ 4611686018427387904) (bp bv : Nat) (mp : Blk wl bp 61 [.pointer (some ⟨br, 0, none⟩)]) (mv : Blk wl bv 27 (tc xv)) (hne : bp ≠ br ∧ bv ≠ br) (D : Int) (hD : D ≤ 4611686018427387904) (W : World) (c : CT) (x : C8) (d : Int) (kv : Value) (ps : List PT) (s : Nat) (hK : Ktw br br wl W) (hR : Room W br) (hx : RC wl A c x) (hd0 : 0 ≤ d) (hdD : d ≤ D) (hs0 : wl.heap.size ≤ s) (hs1 : s ≤ W.heap.size) (hkv : RKE W (AS A s) kv ps) (hlen : ps.length = c.kids.length) :
    Calls Try.prog 103 ([tv x, .int .i64 d, kv] ++ [Value.pointer (some ⟨bp, 0, none⟩), Value.pointer (some ⟨bv, 0, none⟩)]).toArray W fun e w' => ∃ v, e = .returned v ∧ ((∃ y, v = tv y ∧ RE w' (AS A s) (Gp cv.ess c d ps) y ∧ Tt c y) ∧ Room w' br) ∧ Ktw br br W w' := by
  have hQ := Ktw.refl br br W
  have sQ := hQ.size
  have sK := hK.size
  have hA2 : ∀ k, A k → k ≠ br ∧ k ≠ br := fun k hk => ⟨(hA k hk).1, (hA k hk).1⟩
  have hAS : ∀ k, AS A s k → k ≠ br := fun k hk => by rcases hk with hk | hk; (· exact (hA k hk).1); omega
  have hkv0 := hkv.valid
  have mp := mp.k2 hK (by omega)
  have mv := mv.k2 hK (by omega)
  have hpl := mp.lt
  have hvl := mv.lt
  have hrng : x.k = 1 → in64 x.n := fun h => by
    obtain ⟨n, m, rfl⟩ := hx.var_of h
    have h1 := hx.2.1
    have h2 := hx.2.2.1
    rw [h1]; exact h2
  have hV := CT.isV_eq hx d
  have hres : ¬ (x.k = 1 ∧ d ≤ x.n) → Gp cv.ess c d ps = nodeP c ps := by
    intro h
    cases c with
    | var n m =>
      have h1 := hx.1
      have h2 := hx.2.1
      simp only [Gp, nodeP]
      rw [if_neg (by omega), if_neg (by omega)]
    | _ => rfl
  refine calls_fs 35 [(0, tv x), (1, .int .i64 d), (2, kv), (3, Value.pointer (some ⟨bp, 0, none⟩)), (4, Value.pointer (some ⟨bv, 0, none⟩))] Try.func103 rfl rfl rfl rfl rfl fun a hF => ?_
  refine wp_rs fun K1 hK1 => ?_
  refine s_box (tc x) hF (by decide) rfl rfl fun w2 b5 a eb5 m5 B3 zb5 hF => ?_
  have sB3 := B3.size
  have hK := hK.below B3
  have hQ := hQ.below B3
  have mp := mp.old B3
  have mv := mv.old B3
  have hR := hR.below B3
  refine s_alloc hF (by decide) zero27 fun w4 b8 a eb8 m8 B5 zb8 hF => ?_
  have sB5 := B5.size
  have hK := hK.below B5
  have hQ := hQ.below B5
  have mp := mp.old B5
  have mv := mv.old B5
  have m5 := m5.old B5
  have hR := hR.below B5
  refine s_end (hK1 _ _ ?_)
  refine wp_seq_k fun K2 hK2 => ?_
  rcases (show (x.k = 1 ∧ x.n = d) ∨ (x.k = 1 ∧ d < x.n) ∨ (x.k = 1 ∧ x.n < d) ∨ x.k ≠ 1 by omega) with hk9 | hk9 | hk9 | hk9
  · skip
    refine wp_rs fun K4 hK4 => ?_
    refine s_val hF (x_ldW wide27 m5 rfl rfl) (by decide) fun a hF => ?_
    refine s_val hF (x_move rfl) (by decide) fun a hF => ?_
    have hiv : c.isV d = true := by rw [hV]; simp [hk9.1, hk9.2]
    refine s_callB [_, _] hF (enters_of Try.func102 (by kernel_rfl) rfl) rfl (by decide) ((isPlace121 c x _ d wl w4 hx).mono fun e w' h => ⟨by rw [h.1, hiv], h.2⟩) fun w6 a B7 hF => ?_
    have sB7 := B7.size
    have hK := hK.below B7
    have hQ := hQ.below B7
    have mp := mp.old B7
    have mv := mv.old B7
    have m5 := m5.old B7
    have m8 := m8.old B7
    have hR := hR.below B7
    refine s_end (hK4 _ _ ?_)
    refine wp_if hF rfl ?_
    refine wp_rs fun K5 hK5 => ?_
    refine s_val hF (x_load rfl (m_load flat64 (mp.cell (j := 0) rfl))) (by decide) fun a hF => ?_
    refine s_val hF (x_ldW wide27 mv rfl rfl) (by decide) fun a hF => ?_
    refine s_val hF (x_move rfl) (by decide) fun a hF => ?_
    obtain ⟨n9, mm9, rfl⟩ := hx.var_of hk9.1
    have hn9 : x.n = n9 := hx.2.1
    have hG9 : Gp cv.ess (.var n9 mm9) d ps = cv.ess.lift 0 d 0 := by simp only [Gp]; rw [if_pos (by omega)]
    refine s_call (R := fun u w' => ((∃ y, u = tv y ∧ RE w' (AS A w6.heap.size) (cv.ess.lift 0 d 0) y) ∧ Room w' br) ∧ Ktw br br w6 w') hF [_, _, _, _] (enters_of Try.func74 (by kernel_rfl) rfl) rfl (by decide) (lifted93 w6 br (by omega) A (fun k hk => ⟨(hA k hk).1, by have := (hA k hk).2; omega⟩) cv xv (hv.keep hK.size (fun k hk hb => hK.block k hb (hA2 k hk))) 0 d (by decide) (by omega) hvd hR) ?_
    rintro _ w8 a ⟨⟨⟨y9, rfl, hy9⟩, hR⟩, k9⟩ hF
    have sk9 := k9.size
    have hK := hK.trans k9 (by omega)
    have hQ := hQ.trans k9 (by omega)
    have mp := mp.k2 k9 (by omega)
    have mv := mv.k2 k9 (by omega)
    have m5 := m5.k2 k9 (by omega)
    have m8 := m8.k2 k9 (by omega)
    refine s_putW hF rfl rfl (size_wide wide27) m8 rfl hy9.one fun w12 m8 o13 => ?_
    have so13 := o13.size
    have hK := hK.only o13 (by omega)
    have hQ := hQ.only o13 (by omega)
    have mp := mp.only o13 (by omega)
    have mv := mv.only o13 (by omega)
    have m5 := m5.only o13 (by omega)
    have hR := hR.only o13 (by omega)
    have hy9 := hy9.only o13 (by first | (intro h; have h2 := h.2; omega) | (intro h; rcases h.1 with h1 | h1; (have := hA _ h1; omega); (have := h.2; omega)) | (intro h; rcases h.1 with h1 | h1; (have := h1.2; omega); (have := h.2; omega)) | (intro h; rcases h.1 with h1 | h1; (exact hAS _ h1.1 rfl); (have := h.2; omega)) | (intro h; rcases h with h | h; (have := hA _ h; omega); omega) | (intro h; have := hA _ h; omega) | (intro h; rcases h with h | h; (have := h.2; omega); omega) | exact Ar.nbr | exact Ai.nbr | exact Ar.no (by omega) | exact Ai.no (by omega))
    refine s_end (hK5 _ _ ?_)
    refine wp_ret (then_ret (res_cell hF rfl rfl m8 wide27 ⟨_, rfl, ⟨⟨y9, rfl, by rw [hG9]; exact hy9.mono (AS.mono (by omega)), tt_var⟩, hR⟩, hQ⟩))
  · have hri0 := hrng hk9.1
    unfold in64 at hri0
    refine wp_rs fun K6 hK6 => ?_
    refine s_val hF (x_ldW wide27 m5 rfl rfl) (by decide) fun a hF => ?_
    refine s_val hF (x_move rfl) (by decide) fun a hF => ?_
    have hiv : c.isV d = false := by rw [hV, decide_eq_false (show ¬ x.n = d by omega), Bool.and_false]
    refine s_callB [_, _] hF (enters_of Try.func102 (by kernel_rfl) rfl) rfl (by decide) ((isPlace121 c x _ d wl w4 hx).mono fun e w' h => ⟨by rw [h.1, hiv], h.2⟩) fun w14 a B15 hF => ?_
    have sB15 := B15.size
    have hK := hK.below B15
    have hQ := hQ.below B15
    have mp := mp.old B15
    have mv := mv.old B15
    have m5 := m5.old B15
    have m8 := m8.old B15
    have hR := hR.below B15
    refine s_end (hK6 _ _ ?_)
    refine wp_if hF rfl ?_
    refine wp_skip (hK2 _ _ ?_)
    refine wp_rs fun K7 hK7 => ?_
    refine s_val hF (x_load rfl (m_load flat64 (mp.cell (j := 0) rfl))) (by decide) fun a hF => ?_
    refine s_val hF (x_ldW wide27 m5 rfl rfl) (by decide) fun a hF => ?_
    refine s_val hF (x_move rfl) (by decide) fun a hF => ?_
    refine s_call (R := fun u w' => ((∃ y, u = tv y ∧ RE w' (fun k => (AS A s k ∧ k < W.heap.size) ∨ w14.heap.size ≤ k) (nodeP c ps) y ∧ y.ts = kv) ∧ Room w' br) ∧ Ktw br br w14 w') hF [_, _, _] (enters_of Try.func73 (by kernel_rfl) rfl) rfl (by decide) (node92 w14 br (by omega) (fun k => AS A s k ∧ k < W.heap.size) (fun k hk => ⟨hAS k hk.1, by have := hk.2; omega⟩) c x ((hx.keep hK.size (fun k hk hb => hK.block k hb (hA2 k hk))).mono (fun k hk => ⟨.inl hk, by have := hA k hk; omega⟩)) kv ps (hkv0.keep hQ.size (fun k hk hb => hQ.block k hb ⟨hAS k hk.1, hAS k hk.1⟩)) hlen hR) ?_
    rintro _ w16 a ⟨⟨⟨y9, rfl, hy9, ht9⟩, hR⟩, k17⟩ hF
    have sk17 := k17.size
    have hK := hK.trans k17 (by omega)
    have hQ := hQ.trans k17 (by omega)
    have mp := mp.k2 k17 (by omega)
    have mv := mv.k2 k17 (by omega)
    have m5 := m5.k2 k17 (by omega)
    have m8 := m8.k2 k17 (by omega)
    have hy9 := hy9.valid
    have hT9 : Tt c y9 := tt_of hlen hkv0 ht9
    clear ht9
    refine s_alloc hF (by decide) zero27 fun w18 b9 a eb9 m9 B19 zb9 hF => ?_
    have sB19 := B19.size
    have hK := hK.below B19
    have hQ := hQ.below B19
    have mp := mp.old B19
    have mv := mv.old B19
    have m5 := m5.old B19
    have m8 := m8.old B19
    have hR := hR.below B19
    have hy9 := hy9.below B19
    refine s_putW hF rfl rfl (size_wide wide27) m9 rfl hy9.one fun w22 m9 o23 => ?_
    have so23 := o23.size
    have hK := hK.only o23 (by omega)
    have hQ := hQ.only o23 (by omega)
    have mp := mp.only o23 (by omega)
    have mv := mv.only o23 (by omega)
    have m5 := m5.only o23 (by omega)
    have m8 := m8.only o23 (by omega)
    have hR := hR.only o23 (by omega)
    have hy9 := hy9.only o23 (by first | (intro h; have h2 := h.2; omega) | (intro h; rcases h.1 with h1 | h1; (have := hA _ h1; omega); (have := h.2; omega)) | (intro h; rcases h.1 with h1 | h1; (have := h1.2; omega); (have := h.2; omega)) | (intro h; rcases h.1 with h1 | h1; (exact hAS _ h1.1 rfl); (have := h.2; omega)) | (intro h; rcases h with h | h; (have := hA _ h; omega); omega) | (intro h; have := hA _ h; omega) | (intro h; rcases h with h | h; (have := h.2; omega); omega) | exact Ar.nbr | exact Ai.nbr | exact Ar.no (by omega) | exact Ai.no (by omega))
    refine s_end (hK7 _ _ ?_)
    refine wp_seq_k fun K8 hK8 => ?_
    refine wp_rs fun K9 hK9 => ?_
    refine s_val hF (x_fa0 fa27_0 rfl) (by decide) fun a hF => ?_
    refine s_val hF (x_load rfl (m_load flat3 (m5.cell (j := 0) rfl))) (by decide) fun a hF => ?_
    refine s_val hF (x_eql (b := true) (decide_eq_true (by omega)) rfl rfl) (by decide) fun a hF => ?_
    refine s_val hF (x_move rfl) (by decide) fun a hF => ?_
    refine s_grd 24 hF rfl rfl rfl ?_
    refine s_val hF (x_fa0 fa27_1 rfl) (by decide) fun a hF => ?_
    refine s_grd 24 hF rfl rfl rfl ?_
    refine s_val hF (x_load rfl (m_load flat3 (m5.cell (j := 1) rfl))) (by decide) fun a hF => ?_
    refine s_grd 24 hF rfl rfl rfl ?_
    refine s_val hF (x_move rfl) (by decide) fun a hF => ?_
    refine s_grd 24 hF rfl rfl rfl ?_
    refine s_val hF (x_gtr (b := true) (decide_eq_true (by omega)) rfl rfl) (by decide) fun a hF => ?_
    refine s_val hF (x_pick (b := true) rfl rfl) (by decide) fun a hF => ?_
    refine s_end (hK9 _ _ ?_)
    refine wp_if hF rfl ?_
    obtain ⟨n9, mm9, rfl⟩ := hx.var_of hk9.1
    have hn9 : x.n = n9 := hx.2.1
    have hri := hrng hk9.1
    unfold in64 at hri
    obtain ⟨c9, hc9, he9⟩ := hy9
    have hc9v : ∃ m, c9 = .var n9 m := by cases c9 <;> simp [nodeP, CT.ess] at he9; exact ⟨_, by rw [he9]⟩
    obtain ⟨mm8, rfl⟩ := hc9v
    have hyn9 : y9.n = n9 := hc9.2.1
    refine wp_region_lit ?_
    refine s_val hF (x_fa0 fa27_1 rfl) (by decide) fun a hF => ?_
    refine s_val hF (x_load rfl (m_load flat3 (m9.cell (j := 1) rfl))) (by decide) fun a hF => ?_
    refine s_val hF (x_sub (by omega) (by omega) rfl rfl) (by decide) fun a hF => ?_
    refine s_val hF (x_fa0 fa27_1 rfl) (by decide) fun a hF => ?_
    refine s_put hF rfl rfl flat3 m9 (by first | (simp; done) | (simp [tc, lc]; done) | decide) rfl fun w24 m9 o25 => ?_
    have so25 := o25.size
    have hK := hK.only o25 (by omega)
    have hQ := hQ.only o25 (by omega)
    have mp := mp.only o25 (by omega)
    have mv := mv.only o25 (by omega)
    have m5 := m5.only o25 (by omega)
    have m8 := m8.only o25 (by omega)
    have hR := hR.only o25 (by omega)
    have hc9 := hc9.only o25 (by first | (intro h; have h2 := h.2; omega) | (intro h; rcases h.1 with h1 | h1; (have := hA _ h1; omega); (have := h.2; omega)) | (intro h; rcases h.1 with h1 | h1; (have := h1.2; omega); (have := h.2; omega)) | (intro h; rcases h.1 with h1 | h1; (exact hAS _ h1.1 rfl); (have := h.2; omega)) | (intro h; rcases h with h | h; (have := hA _ h; omega); omega) | (intro h; have := hA _ h; omega) | (intro h; rcases h with h | h; (have := h.2; omega); omega) | exact Ar.nbr | exact Ai.nbr | exact Ar.no (by omega) | exact Ai.no (by omega))
    refine s_end (hK8 _ _ ?_)
    have hG9 : Gp cv.ess (.var n9 mm9) d ps = .var (y9.n - 1) := by simp only [Gp]; rw [if_neg (by omega), if_pos (by omega), hyn9]
    have hz9 : RE w24 (fun k => ((AS A s k ∧ k < W.heap.size) ∨ w14.heap.size ≤ k) ∧ k < w16.heap.size) (Gp cv.ess (.var n9 mm9) d ps) ⟨y9.k, y9.n - 1, y9.s, y9.l, y9.ls, y9.ts⟩ := by rw [hG9]; exact ⟨.var (y9.n - 1) mm8, ⟨hc9.1, rfl, by unfold in64; omega, hc9.2.2.2.1, hc9.2.2.2.2⟩, rfl⟩
    have h1Y := hz9.one
    refine wp_rs fun K10 hK10 => ?_
    refine s_val hF (x_ldW wide27 m9 rfl rfl) (by decide) fun a hF => ?_
    refine s_putW hF rfl rfl (size_wide wide27) m8 rfl h1Y fun w28 m8 o29 => ?_
    have so29 := o29.size
    have hK := hK.only o29 (by omega)
    have hQ := hQ.only o29 (by omega)
    have mp := mp.only o29 (by omega)
    have mv := mv.only o29 (by omega)
    have m5 := m5.only o29 (by omega)
    have m9 := m9.only o29 (by omega)
    have hR := hR.only o29 (by omega)
    have hz9 := hz9.only o29 (by first | (intro h; have h2 := h.2; omega) | (intro h; rcases h.1 with h1 | h1; (have := hA _ h1; omega); (have := h.2; omega)) | (intro h; rcases h.1 with h1 | h1; (have := h1.2; omega); (have := h.2; omega)) | (intro h; rcases h.1 with h1 | h1; (exact hAS _ h1.1 rfl); (have := h.2; omega)) | (intro h; rcases h with h | h; (have := hA _ h; omega); omega) | (intro h; have := hA _ h; omega) | (intro h; rcases h with h | h; (have := h.2; omega); omega) | exact Ar.nbr | exact Ai.nbr | exact Ar.no (by omega) | exact Ai.no (by omega))
    refine s_end (hK10 _ _ ?_)
    refine wp_ret (res_cell hF rfl rfl m8 wide27 ⟨_, rfl, ⟨⟨_, rfl, hz9.mono (fun k hk => by rcases hk.1 with hk | hk; (· exact hk.1); exact .inr (by omega)), tt_var⟩, hR⟩, hQ⟩)
  · have hri0 := hrng hk9.1
    unfold in64 at hri0
    refine wp_rs fun K11 hK11 => ?_
    refine s_val hF (x_ldW wide27 m5 rfl rfl) (by decide) fun a hF => ?_
    refine s_val hF (x_move rfl) (by decide) fun a hF => ?_
    have hiv : c.isV d = false := by rw [hV]; first | (rw [decide_eq_false (show ¬ x.n = d by omega), Bool.and_false]; done) | (rw [decide_eq_false (show ¬ x.k = 1 by omega), Bool.false_and]; done)
    refine s_callB [_, _] hF (enters_of Try.func102 (by kernel_rfl) rfl) rfl (by decide) ((isPlace121 c x _ d wl w4 hx).mono fun e w' h => ⟨by rw [h.1, hiv], h.2⟩) fun w30 a B31 hF => ?_
    have sB31 := B31.size
    have hK := hK.below B31
    have hQ := hQ.below B31
    have mp := mp.old B31
    have mv := mv.old B31
    have m5 := m5.old B31
    have m8 := m8.old B31
    have hR := hR.below B31
    refine s_end (hK11 _ _ ?_)
    refine wp_if hF rfl ?_
    refine wp_skip (hK2 _ _ ?_)
    refine wp_rs fun K12 hK12 => ?_
    refine s_val hF (x_load rfl (m_load flat64 (mp.cell (j := 0) rfl))) (by decide) fun a hF => ?_
    refine s_val hF (x_ldW wide27 m5 rfl rfl) (by decide) fun a hF => ?_
    refine s_val hF (x_move rfl) (by decide) fun a hF => ?_
    refine s_call (R := fun u w' => ((∃ y, u = tv y ∧ RE w' (fun k => (AS A s k ∧ k < W.heap.size) ∨ w30.heap.size ≤ k) (nodeP c ps) y ∧ y.ts = kv) ∧ Room w' br) ∧ Ktw br br w30 w') hF [_, _, _] (enters_of Try.func73 (by kernel_rfl) rfl) rfl (by decide) (node92 w30 br (by omega) (fun k => AS A s k ∧ k < W.heap.size) (fun k hk => ⟨hAS k hk.1, by have := hk.2; omega⟩) c x ((hx.keep hK.size (fun k hk hb => hK.block k hb (hA2 k hk))).mono (fun k hk => ⟨.inl hk, by have := hA k hk; omega⟩)) kv ps (hkv0.keep hQ.size (fun k hk hb => hQ.block k hb ⟨hAS k hk.1, hAS k hk.1⟩)) hlen hR) ?_
    rintro _ w32 a ⟨⟨⟨y9, rfl, hy9, ht9⟩, hR⟩, k33⟩ hF
    have sk33 := k33.size
    have hK := hK.trans k33 (by omega)
    have hQ := hQ.trans k33 (by omega)
    have mp := mp.k2 k33 (by omega)
    have mv := mv.k2 k33 (by omega)
    have m5 := m5.k2 k33 (by omega)
    have m8 := m8.k2 k33 (by omega)
    have hy9 := hy9.valid
    have hT9 : Tt c y9 := tt_of hlen hkv0 ht9
    clear ht9
    refine s_alloc hF (by decide) zero27 fun w34 b9 a eb9 m9 B35 zb9 hF => ?_
    have sB35 := B35.size
    have hK := hK.below B35
    have hQ := hQ.below B35
    have mp := mp.old B35
    have mv := mv.old B35
    have m5 := m5.old B35
    have m8 := m8.old B35
    have hR := hR.below B35
    have hy9 := hy9.below B35
    refine s_putW hF rfl rfl (size_wide wide27) m9 rfl hy9.one fun w38 m9 o39 => ?_
    have so39 := o39.size
    have hK := hK.only o39 (by omega)
    have hQ := hQ.only o39 (by omega)
    have mp := mp.only o39 (by omega)
    have mv := mv.only o39 (by omega)
    have m5 := m5.only o39 (by omega)
    have m8 := m8.only o39 (by omega)
    have hR := hR.only o39 (by omega)
    have hy9 := hy9.only o39 (by first | (intro h; have h2 := h.2; omega) | (intro h; rcases h.1 with h1 | h1; (have := hA _ h1; omega); (have := h.2; omega)) | (intro h; rcases h.1 with h1 | h1; (have := h1.2; omega); (have := h.2; omega)) | (intro h; rcases h.1 with h1 | h1; (exact hAS _ h1.1 rfl); (have := h.2; omega)) | (intro h; rcases h with h | h; (have := hA _ h; omega); omega) | (intro h; have := hA _ h; omega) | (intro h; rcases h with h | h; (have := h.2; omega); omega) | exact Ar.nbr | exact Ai.nbr | exact Ar.no (by omega) | exact Ai.no (by omega))
    refine s_end (hK12 _ _ ?_)
    refine wp_seq_k fun K13 hK13 => ?_
    refine wp_rs fun K14 hK14 => ?_
    refine s_val hF (x_fa0 fa27_0 rfl) (by decide) fun a hF => ?_
    refine s_val hF (x_load rfl (m_load flat3 (m5.cell (j := 0) rfl))) (by decide) fun a hF => ?_
    refine s_val hF (x_eql (b := true) (decide_eq_true (by omega)) rfl rfl) (by decide) fun a hF => ?_
    refine s_val hF (x_move rfl) (by decide) fun a hF => ?_
    refine s_grd 24 hF rfl rfl rfl ?_
    refine s_val hF (x_fa0 fa27_1 rfl) (by decide) fun a hF => ?_
    refine s_grd 24 hF rfl rfl rfl ?_
    refine s_val hF (x_load rfl (m_load flat3 (m5.cell (j := 1) rfl))) (by decide) fun a hF => ?_
    refine s_grd 24 hF rfl rfl rfl ?_
    refine s_val hF (x_move rfl) (by decide) fun a hF => ?_
    refine s_grd 24 hF rfl rfl rfl ?_
    refine s_val hF (x_gtr (b := false) (decide_eq_false (by omega)) rfl rfl) (by decide) fun a hF => ?_
    refine s_val hF (x_pick (b := true) rfl rfl) (by decide) fun a hF => ?_
    refine s_end (hK14 _ _ ?_)
    refine wp_if hF rfl ?_
    refine wp_skip (hK13 _ _ ?_)
    have h1Y := hy9.one
    refine wp_rs fun K15 hK15 => ?_
    refine s_val hF (x_ldW wide27 m9 rfl rfl) (by decide) fun a hF => ?_
    refine s_putW hF rfl rfl (size_wide wide27) m8 rfl h1Y fun w42 m8 o43 => ?_
    have so43 := o43.size
    have hK := hK.only o43 (by omega)
    have hQ := hQ.only o43 (by omega)
    have mp := mp.only o43 (by omega)
    have mv := mv.only o43 (by omega)
    have m5 := m5.only o43 (by omega)
    have m9 := m9.only o43 (by omega)
    have hR := hR.only o43 (by omega)
    have hy9 := hy9.only o43 (by first | (intro h; have h2 := h.2; omega) | (intro h; rcases h.1 with h1 | h1; (have := hA _ h1; omega); (have := h.2; omega)) | (intro h; rcases h.1 with h1 | h1; (have := h1.2; omega); (have := h.2; omega)) | (intro h; rcases h.1 with h1 | h1; (exact hAS _ h1.1 rfl); (have := h.2; omega)) | (intro h; rcases h with h | h; (have := hA _ h; omega); omega) | (intro h; have := hA _ h; omega) | (intro h; rcases h with h | h; (have := h.2; omega); omega) | exact Ar.nbr | exact Ai.nbr | exact Ar.no (by omega) | exact Ai.no (by omega))
    refine s_end (hK15 _ _ ?_)
    refine wp_ret (res_cell hF rfl rfl m8 wide27 ⟨_, rfl, ⟨⟨y9, rfl, by rw [hres (by omega)]; exact hy9.mono (fun k hk => by rcases hk.1 with hk | hk; (· exact hk.1); exact .inr (by omega)), hT9⟩, hR⟩, hQ⟩)
  · skip
    refine wp_rs fun K16 hK16 => ?_
    refine s_val hF (x_ldW wide27 m5 rfl rfl) (by decide) fun a hF => ?_
    refine s_val hF (x_move rfl) (by decide) fun a hF => ?_
    have hiv : c.isV d = false := by rw [hV]; first | (rw [decide_eq_false (show ¬ x.n = d by omega), Bool.and_false]; done) | (rw [decide_eq_false (show ¬ x.k = 1 by omega), Bool.false_and]; done)
    refine s_callB [_, _] hF (enters_of Try.func102 (by kernel_rfl) rfl) rfl (by decide) ((isPlace121 c x _ d wl w4 hx).mono fun e w' h => ⟨by rw [h.1, hiv], h.2⟩) fun w44 a B45 hF => ?_
    have sB45 := B45.size
    have hK := hK.below B45
    have hQ := hQ.below B45
    have mp := mp.old B45
    have mv := mv.old B45
    have m5 := m5.old B45
    have m8 := m8.old B45
    have hR := hR.below B45
    refine s_end (hK16 _ _ ?_)
    refine wp_if hF rfl ?_
    refine wp_skip (hK2 _ _ ?_)
    refine wp_rs fun K17 hK17 => ?_
    refine s_val hF (x_load rfl (m_load flat64 (mp.cell (j := 0) rfl))) (by decide) fun a hF => ?_
    refine s_val hF (x_ldW wide27 m5 rfl rfl) (by decide) fun a hF => ?_
    refine s_val hF (x_move rfl) (by decide) fun a hF => ?_
    refine s_call (R := fun u w' => ((∃ y, u = tv y ∧ RE w' (fun k => (AS A s k ∧ k < W.heap.size) ∨ w44.heap.size ≤ k) (nodeP c ps) y ∧ y.ts = kv) ∧ Room w' br) ∧ Ktw br br w44 w') hF [_, _, _] (enters_of Try.func73 (by kernel_rfl) rfl) rfl (by decide) (node92 w44 br (by omega) (fun k => AS A s k ∧ k < W.heap.size) (fun k hk => ⟨hAS k hk.1, by have := hk.2; omega⟩) c x ((hx.keep hK.size (fun k hk hb => hK.block k hb (hA2 k hk))).mono (fun k hk => ⟨.inl hk, by have := hA k hk; omega⟩)) kv ps (hkv0.keep hQ.size (fun k hk hb => hQ.block k hb ⟨hAS k hk.1, hAS k hk.1⟩)) hlen hR) ?_
    rintro _ w46 a ⟨⟨⟨y9, rfl, hy9, ht9⟩, hR⟩, k47⟩ hF
    have sk47 := k47.size
    have hK := hK.trans k47 (by omega)
    have hQ := hQ.trans k47 (by omega)
    have mp := mp.k2 k47 (by omega)
    have mv := mv.k2 k47 (by omega)
    have m5 := m5.k2 k47 (by omega)
    have m8 := m8.k2 k47 (by omega)
    have hy9 := hy9.valid
    have hT9 : Tt c y9 := tt_of hlen hkv0 ht9
    clear ht9
    refine s_alloc hF (by decide) zero27 fun w48 b9 a eb9 m9 B49 zb9 hF => ?_
    have sB49 := B49.size
    have hK := hK.below B49
    have hQ := hQ.below B49
    have mp := mp.old B49
    have mv := mv.old B49
    have m5 := m5.old B49
    have m8 := m8.old B49
    have hR := hR.below B49
    have hy9 := hy9.below B49
    refine s_putW hF rfl rfl (size_wide wide27) m9 rfl hy9.one fun w52 m9 o53 => ?_
    have so53 := o53.size
    have hK := hK.only o53 (by omega)
    have hQ := hQ.only o53 (by omega)
    have mp := mp.only o53 (by omega)
    have mv := mv.only o53 (by omega)
    have m5 := m5.only o53 (by omega)
    have m8 := m8.only o53 (by omega)
    have hR := hR.only o53 (by omega)
    have hy9 := hy9.only o53 (by first | (intro h; have h2 := h.2; omega) | (intro h; rcases h.1 with h1 | h1; (have := hA _ h1; omega); (have := h.2; omega)) | (intro h; rcases h.1 with h1 | h1; (have := h1.2; omega); (have := h.2; omega)) | (intro h; rcases h.1 with h1 | h1; (exact hAS _ h1.1 rfl); (have := h.2; omega)) | (intro h; rcases h with h | h; (have := hA _ h; omega); omega) | (intro h; have := hA _ h; omega) | (intro h; rcases h with h | h; (have := h.2; omega); omega) | exact Ar.nbr | exact Ai.nbr | exact Ar.no (by omega) | exact Ai.no (by omega))
    refine s_end (hK17 _ _ ?_)
    refine wp_seq_k fun K18 hK18 => ?_
    refine wp_rs fun K19 hK19 => ?_
    refine s_val hF (x_fa0 fa27_0 rfl) (by decide) fun a hF => ?_
    refine s_val hF (x_load rfl (m_load flat3 (m5.cell (j := 0) rfl))) (by decide) fun a hF => ?_
    refine s_val hF (x_eql (b := false) (decide_eq_false (by omega)) rfl rfl) (by decide) fun a hF => ?_
    refine s_val hF (x_move rfl) (by decide) fun a hF => ?_
    refine s_grdn 24 hF rfl rfl (by decide) fun a hF => ?_
    refine s_grdn 24 hF rfl rfl (by decide) fun a hF => ?_
    refine s_grdn 24 hF rfl rfl (by decide) fun a hF => ?_
    refine s_grdn 24 hF rfl rfl (by decide) fun a hF => ?_
    refine s_val hF (x_pick (b := false) rfl rfl) (by decide) fun a hF => ?_
    refine s_end (hK19 _ _ ?_)
    refine wp_if hF rfl ?_
    refine wp_skip (hK18 _ _ ?_)
    have h1Y := hy9.one
    refine wp_rs fun K20 hK20 => ?_
    refine s_val hF (x_ldW wide27 m9 rfl rfl) (by decide) fun a hF => ?_
    refine s_putW hF rfl rfl (size_wide wide27) m8 rfl h1Y fun w56 m8 o57 => ?_
    have so57 := o57.size
    have hK := hK.only o57 (by omega)
    have hQ := hQ.only o57 (by omega)
    have mp := mp.only o57 (by omega)
    have mv := mv.only o57 (by omega)
    have m5 := m5.only o57 (by omega)
    have m9 := m9.only o57 (by omega)
    have hR := hR.only o57 (by omega)
    have hy9 := hy9.only o57 (by first | (intro h; have h2 := h.2; omega) | (intro h; rcases h.1 with h1 | h1; (have := hA _ h1; omega); (have := h.2; omega)) | (intro h; rcases h.1 with h1 | h1; (have := h1.2; omega); (have := h.2; omega)) | (intro h; rcases h.1 with h1 | h1; (exact hAS _ h1.1 rfl); (have := h.2; omega)) | (intro h; rcases h with h | h; (have := hA _ h; omega); omega) | (intro h; have := hA _ h; omega) | (intro h; rcases h with h | h; (have := h.2; omega); omega) | exact Ar.nbr | exact Ai.nbr | exact Ar.no (by omega) | exact Ai.no (by omega))
    refine s_end (hK20 _ _ ?_)
    refine wp_ret (res_cell hF rfl rfl m8 wide27 ⟨_, rfl, ⟨⟨y9, rfl, by rw [hres (by omega)]; exact hy9.mono (fun k hk => by rcases hk.1 with hk | hk; (· exact hk.1); exact .inr (by omega)), hT9⟩, hR⟩, hQ⟩)

set_option maxRecDepth 100000 in
set_option maxHeartbeats 400000 in
theorem put85 (W : World) (br : Nat) (hbr : br < W.heap.size) (A : Nat → Prop) (hA : ∀ k, A k → k ≠ br ∧ k < W.heap.size) (c : CT) (x : C8) (hx : RC W A c x) (cv : CT) (xv : C8) (hv : RC W A cv xv) (hvd : (cv.dep : Int) ≤ 4611686018427387904) (hdp : (c.dep : Int) ≤ 4611686018427387904) (hR : Room W br) : Calls Try.prog 66 #[.pointer (some ⟨br, 0, none⟩), tv x, tv xv] W fun e w' => ∃ u, e = .returned u ∧ ((∃ y, u = tv y ∧ RE w' (AS A W.heap.size) (PT.put cv.ess c.ess 0) y ∧ Tt c y) ∧ Room w' br) ∧ Ktw br br W w' := by
  have hQ := Ktw.refl br br W
  have sQ := hQ.size
  have hA2 : ∀ k, A k → k ≠ br ∧ k ≠ br := fun k hk => ⟨(hA k hk).1, (hA k hk).1⟩
  refine calls_fs 10 [(0, .pointer (some ⟨br, 0, none⟩)), (1, tv x), (2, tv xv)] Try.func66 rfl rfl rfl rfl rfl fun a hF => ?_
  refine wp_rs fun K1 hK1 => ?_
  refine s_box ([.pointer (some ⟨br, 0, none⟩)]) hF (by decide) rfl rfl fun w2 b3 a eb3 m3 B3 zb3 hF => ?_
  have sB3 := B3.size
  have hQ := hQ.below B3
  have hR := hR.below B3
  refine s_box (tc x) hF (by decide) rfl rfl fun w4 b4 a eb4 m4 B5 zb4 hF => ?_
  have sB5 := B5.size
  have hQ := hQ.below B5
  have m3 := m3.old B5
  have hR := hR.below B5
  refine s_box (tc xv) hF (by decide) rfl rfl fun w6 b5 a eb5 m5 B7 zb5 hF => ?_
  have sB7 := B7.size
  have hQ := hQ.below B7
  have m3 := m3.old B7
  have m4 := m4.old B7
  have hR := hR.below B7
  refine s_alloc hF (by decide) zero27 fun w8 b6 a eb6 m6 B9 zb6 hF => ?_
  have sB9 := B9.size
  have hQ := hQ.below B9
  have m3 := m3.old B9
  have m4 := m4.old B9
  have m5 := m5.old B9
  have hR := hR.below B9
  refine s_end (hK1 _ _ ?_)
  refine wp_rs fun K2 hK2 => ?_
  refine s_val hF (x_ldW wide27 m4 rfl rfl) (by decide) fun a hF => ?_
  refine s_val hF (x_mkf [_, _] rfl) (by decide) fun a hF => ?_
  have hx9 := hx.keep hQ.size (fun k hk hb => hQ.block k hb (hA2 k hk))
  have hA9 : ∀ k, A k → k ≠ br ∧ k < w8.heap.size := fun k hk => ⟨(hA k hk).1, by have := (hA k hk).2; omega⟩
  refine s_call (R := fun u w' => ((∃ y, u = tv y ∧ RE w' (AS A w8.heap.size) (c.fold (Gp cv.ess) 0) y ∧ Tt c y) ∧ Room w' br) ∧ Ktw br br w8 w') hF [_, _, _] (enters_of Try.func69 (by kernel_rfl) rfl) rfl (by decide) (fold88 w8 br (by omega) A hA9 103 [.pointer (some ⟨b3, 0, none⟩), .pointer (some ⟨b5, 0, none⟩)] (enters_of Try.func103 (by kernel_rfl) rfl) 4611686018427387904 (by decide) (Gp cv.ess) (clo122 w8 br (by omega) A hA9 cv xv (hv.keep hQ.size (fun k hk hb => hQ.block k hb (hA2 k hk))) hvd b3 b5 m3 m5 (by omega) 4611686018427387904 (by decide)) (c.size + 1) c x 0 w8 (by omega) hx9 (by decide) (by omega) (Ktw.refl br br _) hR) ?_
  rintro _ w10 a ⟨⟨⟨y9, rfl, hy9, hT9⟩, hR⟩, k11⟩ hF
  have sk11 := k11.size
  have hQ := hQ.trans k11 (by omega)
  have m3 := m3.k2 k11 (by omega)
  have m4 := m4.k2 k11 (by omega)
  have m5 := m5.k2 k11 (by omega)
  have m6 := m6.k2 k11 (by omega)
  refine s_putW hF rfl rfl (size_wide wide27) m6 rfl hy9.one fun w14 m6 o15 => ?_
  have so15 := o15.size
  have hQ := hQ.only o15 (by omega)
  have m3 := m3.only o15 (by omega)
  have m4 := m4.only o15 (by omega)
  have m5 := m5.only o15 (by omega)
  have hR := hR.only o15 (by omega)
  have hy9 := hy9.only o15 (by first | (intro h; have h2 := h.2; omega) | (intro h; rcases h.1 with h1 | h1; (have := hA _ h1; omega); (have := h.2; omega)) | (intro h; rcases h.1 with h1 | h1; (have := h1.2; omega); (have := h.2; omega)) | (intro h; rcases h.1 with h1 | h1; (exact hAS _ h1.1 rfl); (have := h.2; omega)) | (intro h; rcases h with h | h; (have := hA _ h; omega); omega) | (intro h; have := hA _ h; omega) | (intro h; rcases h with h | h; (have := h.2; omega); omega) | exact Ar.nbr | exact Ai.nbr | exact Ar.no (by omega) | exact Ai.no (by omega))
  refine s_end (hK2 _ _ ?_)
  rw [fold_put'] at hy9
  refine wp_ret (res_cell hF rfl rfl m6 wide27 ⟨_, rfl, ⟨⟨y9, rfl, hy9.mono (AS.mono (by omega)), hT9⟩, hR⟩, hQ⟩)
end Go.Proofs.Ytaclncmkdpjnlaa

namespace Go.Proofs.Ytaclncmkdpjnlaa
open Go.RowKit Go.Shelf
set_option linter.unusedVariables false
set_option linter.unusedSimpArgs false

theorem Room.k2 {W W' : World} {br a b : Nat} (h : Room W br) (hK : Ktw a b W W') (hb : br ≠ a ∧ br ≠ b) : Room W' br := let ⟨r, h1, h2⟩ := h; ⟨r, h1.k2 hK hb, h2⟩
/-- Terms, one behind the other. -/
def QT (W : World) (A : Nat → Prop) (zs : List C8) (ps : List PT) : Prop := zs.length = ps.length ∧ ∀ (j : Nat) z p, zs[j]? = some z → ps[j]? = some p → RE W A p z
section
variable {W W' : World} {A B : Nat → Prop} {zs : List C8} {ps : List PT}
theorem QT.nil : QT W A [] [] := ⟨rfl, fun j z p h => by simp at h⟩
theorem QT.mono (h : QT W A zs ps) (hm : ∀ k, A k → B k) : QT W B zs ps := ⟨h.1, fun j z p h1 h2 => (h.2 j z p h1 h2).mono hm⟩
theorem QT.keep (h : QT W A zs ps) (hs : W.heap.size ≤ W'.heap.size) (hk : ∀ k, A k → k < W.heap.size → W'.heap[k]? = W.heap[k]?) : QT W' A zs ps := ⟨h.1, fun j z p h1 h2 => RE.keep hs hk (h.2 j z p h1 h2)⟩
theorem QT.below (h : QT W A zs ps) (hB : Below W.heap.size W W') : QT W' A zs ps := h.keep hB.size fun k _ hk => hB.block k hk
theorem QT.only {c : Nat} (h : QT W A zs ps) (o : Only c W W') (hc : ∀ k, A k → k ≠ c) : QT W' A zs ps := h.keep (Nat.le_of_eq o.size.symm) fun k ha _ => o.block k (hc k ha)
theorem QT.k2 {a b : Nat} (h : QT W A zs ps) (hK : Ktw a b W W') (hc : ∀ k, A k → k ≠ a ∧ k ≠ b) : QT W' A zs ps := h.keep hK.size fun k ha hk => hK.block k hk (hc k ha)
theorem QT.snoc {z : C8} {p : PT} (h : QT W A zs ps) (hz : RE W A p z) : QT W A (zs ++ [z]) (ps ++ [p]) := by
  refine ⟨by simp [h.1], fun j y q e1 e2 => ?_⟩
  rcases Nat.lt_trichotomy j zs.length with hj | hj | hj
  · rw [List.getElem?_append_left hj] at e1
    rw [List.getElem?_append_left (by have := h.1; omega)] at e2
    exact h.2 j y q e1 e2
  · subst hj
    rw [List.getElem?_append_right (Nat.le_refl _)] at e1
    rw [h.1, List.getElem?_append_right (Nat.le_refl _)] at e2
    simp at e1 e2
    subst e1 e2
    exact hz
  · rw [List.getElem?_eq_none (by simp; omega)] at e1
    cases e1
theorem QT.rke {v : Value} (h : QT W A zs ps) (hR : Rd W v 8 zs.length (zs.flatMap tc)) (hA : ∀ j, v.ownBlock = some j → A j) : RKE W A v ps := ⟨zs, ⟨hR, fun _ j hj => hA j hj⟩, h.1, h.2⟩
end
theorem fm8_app (xs : List C8) (y : C8) : (xs ++ [y]).flatMap tc = xs.flatMap tc ++ tc y := by simp
/-- RE, by another name. -/
def REx (W : World) (A : Nat → Prop) (p : PT) (x : C8) : Prop := RE W A p x
section
variable {W W' : World} {A B : Nat → Prop} {p : PT} {x : C8}
theorem REx.below (h : REx W A p x) (hB : Below W.heap.size W W') : REx W' A p x := RE.below h hB
theorem REx.only {c : Nat} (h : REx W A p x) (o : Only c W W') (hc : ∀ k, A k → k ≠ c) : REx W' A p x := RE.only h o (fun ha => hc c ha rfl)
theorem REx.k2 {a b : Nat} (h : REx W A p x) (hK : Ktw a b W W') (hc : ∀ k, A k → k ≠ a ∧ k ≠ b) : REx W' A p x := RE.k2 h hK (fun ha => (hc a ha).1 rfl) (fun hb => (hc b hb).2 rfl)
end

set_option maxRecDepth 100000 in
set_option maxHeartbeats 400000 in
theorem joined60 (W : World) (br : Nat) (hbr : br < W.heap.size) (A : Nat → Prop) (hA : ∀ k, A k → k ≠ br ∧ k < W.heap.size) (kd : Int) (cs : List CT) (v : Value) (hV : RK W A v cs) (hlen : cs.length ≤ 1000000) (hR : Room W br) :
    Calls Try.prog 49 #[.pointer (some ⟨br, 0, none⟩), .int .i64 kd, v] W fun e w' => ∃ u, e = .returned u ∧ ((∃ v', u = tv ⟨kd, 0, emptyB, (0, 0, nilS), nilS, v'⟩ ∧ RKE w' (AS A W.heap.size) v' (cs.map CT.ess)) ∧ Room w' br) ∧ Ktw br br W w' := by
  have hK := Ktw.refl br br W
  have sK := hK.size
  have hA2 : ∀ k, A k → k ≠ br ∧ k ≠ br := fun k hk => ⟨(hA k hk).1, (hA k hk).1⟩
  obtain ⟨av, cv, hve, _⟩ := hV.form
  subst hve
  refine calls_fs 26 [(0, .pointer (some ⟨br, 0, none⟩)), (1, .int .i64 kd), (2, .slice av cs.length cv)] Try.func49 rfl rfl rfl rfl rfl fun a hF => ?_
  refine wp_rs fun K1 hK1 => ?_
  refine s_alloc hF (by decide) zero27 fun w2 b6 a eb6 m6 B3 zb6 hF => ?_
  have sB3 := B3.size
  have hK := hK.below B3
  have hR := hR.below B3
  refine s_end (hK1 _ _ ?_)
  refine wp_rs fun K2 hK2 => ?_
  refine s_val hF (x_assign rfl) (by decide) fun a hF => ?_
  refine s_end (hK2 _ _ ?_)
  refine wp_seq_k fun K3 hK3 => ?_
  refine wp_rs fun K4 hK4 => ?_
  refine s_val hF (x_move rfl) (by decide) fun a hF => ?_
  refine s_val hF (x_len Try.underlying25 rfl) (by decide) fun a hF => ?_
  refine s_val hF (x_move rfl) (by decide) fun a hF => ?_
  refine s_end (hK4 _ _ ?_)
  refine wp_block ?_
  refine wp_up cs.length (fun i a w => ∃ v' o' zs, w.ownsRow W.heap.size 27 8 v' zs.length (zs.flatMap tc) ∧ (∀ j, v'.ownBlock = some j → j = o') ∧ v'.ownBlock ≠ some b6 ∧ ((o' = b6 ∨ b6 < o') ∧ o' < w.heap.size) ∧ QT w (fun k => ((k < W.heap.size ∧ k ≠ br ∧ A k) ∨ b6 < k) ∧ k ≠ o' ∧ k < w.heap.size) zs ((cs.map CT.ess).take i) ∧ Room w br ∧ Blk w b6 27 z8 ∧ Ktw br br W w ∧ Fs 26 a [(0, .pointer (some ⟨br, 0, none⟩)), (1, .int .i64 kd), (6, .pointer (some ⟨b6, 0, none⟩)), (7, v'), (10, .slice av cs.length cv), (11, .int .i64 (cs.length : Int)), (12, .int .i64 (i : Int))]) ⟨_, b6, [], World.ownsRow_nil _ _ _ _, (fun j h => by cases h), (fun h => by cases h), by have := m6.lt; omega, by rw [List.take_zero]; exact QT.nil, hR, m6, hK, hF.sub _ rfl⟩ ?_
  have hb6 : W.heap.size ≤ b6 := by omega
  repeat clear hF
  clear hK hR m6
  rintro i a w hi ⟨vv, o2, zs, hO, hat, hne, hlo, hP, hR, m6, hK, hF⟩ K' hK'
  have sK := hK.size
  have hb6l := m6.lt
  obtain ⟨top, htop⟩ : ∃ h, h = w.heap.size := ⟨_, rfl⟩
  rw [← htop] at hP
  have hPl := hP.1
  rw [List.length_take, List.length_map] at hPl
  have h1vv := (Rd.own hO).one
  refine wp_rs fun K5 hK5 => ?_
  refine s_val hF (x_lss (b := decide (i < cs.length)) (decide_eq_decide.2 (by omega)) rfl rfl) (by decide) fun a hF => ?_
  refine s_end (hK5 _ _ ?_)
  refine wp_seq_k fun K6 hK6 => ?_
  refine wp_iff hF rfl (fun hc13 => ?_) (fun hc13 => ?_)
  · obtain ⟨b9, off9, c9, y, p, hve, hp, hry, hAb, hbl, hrow⟩ := hV.row (i := i) (by omega)
    cases hve
    have hAb2 := hA _ hAb
    refine wp_skip (hK6 _ _ ?_)
    refine wp_seq_k fun K7 hK7 => ?_
    refine wp_block ?_
    refine wp_rs fun K8 hK8 => ?_
    refine s_val hF (x_ixa rfl rfl (m_ixsK i Try.underlying25 el25.size rfl (by omega))) (by decide) fun a hF => ?_
    refine s_val hF (x_ldA wide27 (hrow _ (hK.block _ hbl ⟨hAb2.1, hAb2.1⟩)) rfl rfl) (by decide) fun a hF => ?_
    refine s_alloc hF (by decide) zero27 fun w4 b9 a eb9 m9 B5 zb9 hF => ?_
    have sB5 := B5.size
    have hK := hK.below B5
    have m6 := m6.old B5
    have hO := own_below hO B5
    have hP := hP.below B5
    have hR := hR.below B5
    refine s_putW hF rfl rfl (size_wide wide27) m9 rfl hry.one fun w8 m9 o9 => ?_
    have so9 := o9.size
    have hK := hK.only o9 (by omega)
    have m6 := m6.only o9 (by omega)
    have hO := own_only hO o9 (fun e => by have := hat _ e; omega)
    have hP := hP.only o9 (fun k (hk : ((k < W.heap.size ∧ k ≠ br ∧ A k) ∨ b6 < k) ∧ k ≠ o2 ∧ k < top) => by omega)
    have hR := hR.only o9 (by omega)
    refine s_end (hK8 _ _ ?_)
    refine wp_region_lit ?_
    refine s_val hF (x_move rfl) (by decide) fun a hF => ?_
    refine s_val hF (x_move rfl) (by decide) fun a hF => ?_
    refine s_val hF (x_ldW wide27 m9 rfl rfl) (by decide) fun a hF => ?_
    refine s_call (R := fun u w' => ((∃ z, u = tv z ∧ REx w' (AS A w8.heap.size) p.ess z) ∧ Room w' br) ∧ Ktw br br w8 w') hF [_, _] (enters_of Try.func46 (by kernel_rfl) rfl) rfl (by decide) (owned57 w8 br (by omega) A (fun k hk => ⟨(hA k hk).1, by have := (hA k hk).2; omega⟩) p y (hry.keep hK.size (fun k hk hb => hK.block k hb (hA2 k hk))) hR) ?_
    rintro _ w10 a ⟨⟨⟨z, rfl, hz0⟩, hR⟩, k11⟩ hF
    have sk11 := k11.size
    have hK := hK.trans k11 (by omega)
    have m6 := m6.k2 k11 (by omega)
    have hO := own_k2 hO k11 (fun c hc => by have := hat c hc; omega)
    have hP := hP.k2 k11 (fun k (hk : ((k < W.heap.size ∧ k ≠ br ∧ A k) ∨ b6 < k) ∧ k ≠ o2 ∧ k < top) => by omega)
    have m9 := m9.k2 k11 (by omega)
    have hz := RE.valid hz0
    clear hz0
    have hz : REx w10 (fun k => ((k < W.heap.size ∧ k ≠ br ∧ A k) ∨ w8.heap.size ≤ k) ∧ k < w10.heap.size) p.ess z := hz.mono (fun k hk => ⟨hk.1.elim (fun h => .inl ⟨(hA k h).2, (hA k h).1, h⟩) .inr, hk.2⟩)
    have h1z := RE.one hz
    refine s_litG [tv z] el25 hF (by decide) rfl (by simp [Value.cells, tc]) rfl (by decide) (by decide) fun w12 bl a ebl ml B13 zbl hF => ?_
    have sB13 := B13.size
    have hK := hK.below B13
    have m6 := m6.old B13
    have hO := own_below hO B13
    have hP := hP.below B13
    have m9 := m9.old B13
    have hz := hz.below B13
    have hR := hR.below B13
    have ml : Blk w12 bl 27 (tc z) := by simpa [Value.cells] using ml
    refine s_appL (o := o2) el25 hF (by decide) rfl rfl hO ml rfl h1z hat (by omega) (by omega) (by decide) (by omega) fun v3 w14 a o3 hOn hOatn how hsrc k15 hkeep hF => ?_
    have sk15 := k15.size
    have hK := hK.trans k15 (by omega)
    have m6 : Blk w14 b6 _ _ := (hkeep _ m6.lt hne).trans m6
    have hP := hP.k2 k15 (fun k (hk : ((k < W.heap.size ∧ k ≠ br ∧ A k) ∨ b6 < k) ∧ k ≠ o2 ∧ k < top) => by omega)
    have m9 := m9.k2 k15 (by omega)
    have hz := hz.k2 k15 (fun k (hk : ((k < W.heap.size ∧ k ≠ br ∧ A k) ∨ w8.heap.size ≤ k) ∧ k < w10.heap.size) => by omega)
    have ml := ml.k2 k15 (by omega)
    have hO := hOn
    have hO_at := hOatn
    have hneg : v3.ownBlock ≠ some b6 := fun h => by rcases hsrc b6 h with h | h; exact hne h; omega
    have hR := hR.k2 k15 (by omega)
    refine s_val hF (x_assign rfl) (by decide) fun a hF => ?_
    refine s_end (hK7 _ _ ?_)
    refine wp_region_lit ?_
    refine s_val hF (x_addn (i + 1) (by omega) (by omega) rfl rfl) (by decide) fun a hF => ?_
    refine s_val hF (x_move rfl) (by decide) fun a hF => ?_
    have hL2 : (cs.map CT.ess).take (i + 1) = (cs.map CT.ess).take i ++ [p.ess] := take_snoc (by rw [List.getElem?_map, hp]; rfl)
    refine s_end (hK' _ _ (by omega) ⟨v3, o3, zs ++ [z], by rw [fm8_app]; simpa using hO, hO_at, hneg, by omega, by rw [hL2]; exact (hP.mono (fun k (hk : ((k < W.heap.size ∧ k ≠ br ∧ A k) ∨ b6 < k) ∧ k ≠ o2 ∧ k < top) => ⟨hk.1, by omega, by omega⟩)).snoc (RE.mono (fun k (hk : ((k < W.heap.size ∧ k ≠ br ∧ A k) ∨ w8.heap.size ≤ k) ∧ k < w10.heap.size) => ⟨hk.1.elim .inl (fun h => .inr (by omega)), by omega, by omega⟩) hz), hR, m6, hK, hF.sub _ rfl⟩)
  · obtain rfl : i = cs.length := by omega
    rw [List.take_of_length_le (by rw [List.length_map]; exact Nat.le_refl _)] at hP
    obtain ⟨avv, nvv, cvv, hvv⟩ : ∃ a n c, vv = .slice a n c := by obtain ⟨a, c, h, _⟩ := (Rd.own hO).form; exact ⟨a, _, c, h⟩
    subst hvv
    refine wp_exit (hK3 _ _ ?_)
    refine wp_rs fun K9 hK9 => ?_
    refine s_val hF (x_move rfl) (by decide) fun a hF => ?_
    refine s_val hF (x_move rfl) (by decide) fun a hF => ?_
    refine s_val hF (x_build (vs := [(0, _), (5, _)]) rfl (b27_05 _ _ _ _ _)) (by decide) fun a hF => ?_
    refine s_putW hF rfl rfl (size_wide wide27) m6 rfl (one_tc0 _ _ _ _ h1vv) fun w18 m6 o19 => ?_
    have so19 := o19.size
    have hK := hK.only o19 (by omega)
    have hO := own_only hO o19 (hne)
    have hP := hP.only o19 (fun k (hk : ((k < W.heap.size ∧ k ≠ br ∧ A k) ∨ b6 < k) ∧ k ≠ o2 ∧ k < top) => by omega)
    have hR := hR.only o19 (by omega)
    refine s_end (hK9 _ _ ?_)
    refine wp_ret (res_cell hF rfl rfl m6 wide27 ⟨_, rfl, ⟨⟨_, rfl, (hP.mono (B := AS A W.heap.size) (fun k hk => hk.1.elim (fun h => .inl h.2.2) (fun h => .inr (by omega)))).rke (Rd.own hO) (fun j h => .inr (hO.lt j h).1)⟩, hR⟩, hK⟩)

def plc (o p : Int × Int) : Int × Int := (o.1 + p.1, if 0 < p.1 then max o.2 (p.2 + 1) else o.2)
def Gpl (c : CT) (d : Int) (ps : List (Int × Int)) : Int × Int := if c.isV d then (1, 1) else ps.foldl plc (0, 0)
theorem foldl_plc : ∀ (ps : List (Int × Int)) (o : Int × Int) (M D : Int), 0 ≤ o.1 → 0 ≤ o.2 → o.2 ≤ D + 1 → (∀ p ∈ ps, 0 ≤ p.1 ∧ 0 ≤ p.2 ∧ p.2 ≤ D) → 0 ≤ (ps.foldl plc o).1 ∧ (ps.foldl plc o).1 = o.1 + (ps.map (·.1)).sum ∧ 0 ≤ (ps.foldl plc o).2 ∧ (ps.foldl plc o).2 ≤ D + 1
  | [], o, M, D, h1, h2, h3, _ => by simp; omega
  | p :: ps, o, M, D, h1, h2, h3, h => by
    have hp := h p (by simp)
    have := foldl_plc ps (plc o p) M D (by simp only [plc]; omega) (by simp only [plc]; split <;> omega) (by simp only [plc]; split <;> omega) (fun q hq => h q (by simp [hq]))
    simp only [List.foldl_cons, List.map_cons, List.sum_cons]
    simp only [plc] at this ⊢
    omega
theorem Gpl_rng : ∀ (c : CT) (d : Int), 0 ≤ (c.fold Gpl d).1 ∧ (c.fold Gpl d).1 ≤ c.size ∧ 0 ≤ (c.fold Gpl d).2 ∧ (c.fold Gpl d).2 ≤ c.dep
  | .two k a b m, d => by
    have ha := Gpl_rng a (d + (CT.two k a b m).bnd 0)
    have hb := Gpl_rng b (d + (CT.two k a b m).bnd 1)
    simp only [CT.fold, Gpl, CT.isV, CT.size, CT.dep, List.foldl_cons, List.foldl_nil, plc]
    refine ⟨by simp; omega, by simp; omega, ?_, ?_⟩
    · simp only [Bool.false_eq_true, if_false]; split <;> split <;> omega
    · simp only [Bool.false_eq_true, if_false]; split <;> split <;> omega
  | .lt a b c m, d => by
    have ha := Gpl_rng a (d + (CT.lt a b c m).bnd 0)
    have hb := Gpl_rng b (d + (CT.lt a b c m).bnd 1)
    have hc := Gpl_rng c (d + (CT.lt a b c m).bnd 2)
    simp only [CT.fold, Gpl, CT.isV, CT.size, CT.dep, List.foldl_cons, List.foldl_nil, plc]
    refine ⟨by simp; omega, by simp; omega, ?_, ?_⟩
    · simp only [Bool.false_eq_true, if_false]; split <;> split <;> split <;> omega
    · simp only [Bool.false_eq_true, if_false]; split <;> split <;> split <;> omega
  | .var n m, d => by simp only [CT.fold, Gpl, CT.size, CT.dep]; split <;> simp
  | .sort n m, d => by simp [CT.fold, Gpl, CT.isV, CT.size, CT.dep]
  | .cst s n m, d => by simp [CT.fold, Gpl, CT.isV, CT.size, CT.dep]
  | .odd n m, d => by simp [CT.fold, Gpl, CT.isV, CT.size, CT.dep]
theorem Gpl_kids {c : CT} {d : Int} {p : Int × Int} (h : p ∈ c.folds Gpl d) : 0 ≤ p.1 ∧ p.1 ≤ c.size ∧ 0 ≤ p.2 ∧ p.2 ≤ c.dep := by
  obtain ⟨i, hi, he⟩ := List.getElem_of_mem h
  have hi' : i < c.kids.length := by rw [CT.folds_len] at hi; exact hi
  have h1 := CT.folds_get Gpl (c := c) (d := d) (List.getElem?_eq_getElem hi')
  rw [List.getElem?_eq_getElem hi, he] at h1
  cases h1
  have h2 := Gpl_rng c.kids[i] (d + c.bnd i)
  have h3 := CT.kid_size (List.getElem?_eq_getElem hi')
  omega
theorem plc_take {c : CT} {d : Int} (i : Nat) : 0 ≤ (((c.folds Gpl d).take i).foldl plc (0, 0)).1 ∧ (((c.folds Gpl d).take i).foldl plc (0, 0)).1 ≤ c.kids.length * c.size ∧ 0 ≤ (((c.folds Gpl d).take i).foldl plc (0, 0)).2 ∧ (((c.folds Gpl d).take i).foldl plc (0, 0)).2 ≤ c.dep + 1 := by
  have hm : ∀ p ∈ (c.folds Gpl d).take i, 0 ≤ p.1 ∧ 0 ≤ p.2 ∧ p.2 ≤ (c.dep : Int) := fun p hp => by have := Gpl_kids (List.mem_of_mem_take hp); omega
  obtain ⟨h1, h2, h3, h4⟩ := foldl_plc _ (0, 0) 0 c.dep (by simp) (by simp) (by simp; omega) hm
  refine ⟨h1, ?_, h3, h4⟩
  rw [h2]
  have hs : ∀ (l : List (Int × Int)), (∀ p ∈ l, p.1 ≤ (c.size : Int)) → (l.map (·.1)).sum ≤ l.length * c.size := by
    intro l
    induction l with
    | nil => intro _; simp
    | cons p l ih =>
      intro h
      have h1 := ih (fun q hq => h q (by simp [hq]))
      have h2 := h p (by simp)
      simp only [List.map_cons, List.sum_cons, List.length_cons]
      rw [show ((l.length + 1 : Nat) : Int) * c.size = l.length * c.size + c.size by rw [Int.natCast_add, Int.add_mul]; simp]
      omega
  have h5 := hs ((c.folds Gpl d).take i) (fun p hp => (Gpl_kids (List.mem_of_mem_take hp)).2.1)
  have h6 : ((c.folds Gpl d).take i).length ≤ c.kids.length := by rw [List.length_take, CT.folds_len]; omega
  have h7 : (((c.folds Gpl d).take i).length : Int) * c.size ≤ c.kids.length * c.size := Int.mul_le_mul_of_nonneg_right (by omega) (by omega)
  simp only [Int.zero_add]
  omega
theorem rd_rowP {W : World} {v : Value} {xs : List (Int × Int)} (h : Rd W v 2 xs.length (xs.flatMap enc2)) {i : Nat} (hi : i < xs.length) :
    ∃ b off c x, v = .slice (some ⟨b, off, none⟩) xs.length c ∧ xs[i]? = some x ∧ ∀ W', Below W.heap.size W W' → ∀ j u, (enc2 x)[j]? = some u → W'.cell? ((⟨b, off + i * 2, none⟩ : Addr).add j) = some u := by
  obtain ⟨b, off, c, rfl, hb⟩ := h.some (by omega)
  refine ⟨b, off, c, xs[i], rfl, List.getElem?_eq_getElem hi, fun W' hB j u hj => ?_⟩
  rw [addr_addn, Nat.add_assoc]
  have h2 : ∀ (xs : List (Int × Int)) (i : Nat) (hi : i < xs.length), (enc2 xs[i])[j]? = some u → (xs.flatMap enc2)[i * 2 + j]? = some u := by
    intro xs
    induction xs with
    | nil => intro i hi; simp at hi
    | cons y xs ih =>
      intro i hi hj
      have hj2 : j < 2 := (List.getElem?_eq_some_iff.1 hj).1
      cases i with
      | zero => rw [List.flatMap_cons, List.getElem?_append_left (by simp [enc2]; omega)]; simpa using hj
      | succ i => rw [List.flatMap_cons, List.getElem?_append_right (by simp [enc2]; omega), show (i + 1) * 2 + j - (enc2 y).length = i * 2 + j by simp [enc2]; omega]; exact ih i (by simpa using hi) (by simpa using hj)
  exact (hB.cell (p := ⟨b, off + (i * 2 + j), none⟩) hb).trans (h.cell (h2 xs i hi hj))

set_option maxRecDepth 100000 in
set_option maxHeartbeats 400000 in
theorem clo120 (wl : World) (Sz : Nat) (hSz : Sz ≤ 20000) (D : Int) (hD : D ≤ 2000) (W : World) (c : CT) (x : C8) (d : Int) (kv : Value) (hK : Below wl.heap.size wl W) (hx : RC wl (fun k => k < wl.heap.size) c x) (hs : c.size ≤ Sz) (hd0 : 0 ≤ d) (hdD : d + c.dep ≤ D) (hkv : Rd W kv 2 c.kids.length ((c.folds Gpl d).flatMap enc2)) :
    Calls Try.prog 101 ([tv x, .int .i64 d, kv] ++ []).toArray W fun e w' => e = .returned (.agg (enc2 (Gpl c d (c.folds Gpl d))).toArray) ∧ Below W.heap.size W w' := by
  have hV := CT.isV_eq hx d
  have h3 := c.kids_le
  have hfl := CT.folds_len Gpl c d
  rw [← hfl] at hkv
  obtain ⟨av, cv, hve, _⟩ := hkv.form
  subst hve
  have hT := fun i => plc_take (c := c) (d := d) i
  have hm9 : (c.kids.length : Int) * c.size ≤ 100000 := by
    have : (c.kids.length : Int) * c.size ≤ 3 * 20000 := Int.mul_le_mul (by omega) (by omega) (by omega) (by omega)
    omega
  have hB := Below.refl W.heap.size W
  have sB := hB.size
  refine calls_fs 38 [(0, tv x), (1, .int .i64 d), (2, .slice av (c.folds Gpl d).length cv)] Try.func101 rfl rfl rfl rfl rfl fun a hF => ?_
  refine wp_rs fun K1 hK1 => ?_
  refine s_box (tc x) hF (by decide) rfl rfl fun w2 b3 a eb3 m3 B3 zb3 hF => ?_
  have sB3 := B3.size
  have hB := hB.trans (B3.mono hB.size)
  refine s_alloc hF (by decide) zero93 fun w4 b6 a eb6 m6 B5 zb6 hF => ?_
  have sB5 := B5.size
  have hB := hB.trans (B5.mono hB.size)
  have m3 := m3.old B5
  refine s_end (hK1 _ _ ?_)
  refine wp_seq_k fun K2 hK2 => ?_
  rcases (show (x.k = 1 ∧ x.n = d) ∨ (x.k = 1 ∧ x.n ≠ d) ∨ x.k ≠ 1 by omega) with hk9 | hk9 | hk9
  · skip
    refine wp_rs fun K4 hK4 => ?_
    refine s_val hF (x_ldW wide27 m3 rfl rfl) (by decide) fun a hF => ?_
    refine s_val hF (x_move rfl) (by decide) fun a hF => ?_
    have hiv : c.isV d = true := by rw [hV]; simp [hk9.1, hk9.2]
    refine s_callB [_, _] hF (enters_of Try.func102 (by kernel_rfl) rfl) rfl (by decide) ((isPlace121 c x _ d wl w4 hx).mono fun e w' h => ⟨by rw [h.1, hiv], h.2⟩) fun w6 a B7 hF => ?_
    have sB7 := B7.size
    have hB := hB.trans (B7.mono hB.size)
    have m3 := m3.old B7
    have m6 := m6.old B7
    refine s_end (hK4 _ _ ?_)
    refine wp_if hF rfl ?_
    refine wp_rs fun K5 hK5 => ?_
    refine s_val hF (x_build (vs := [(0, _), (1, _)]) rfl (b93_01 _ _ _)) (by decide) fun a hF => ?_
    refine s_putW hF rfl rfl (size_wide wide93) m6 rfl (oneII _ _) fun w10 m6 o11 => ?_
    have so11 := o11.size
    have hB := hB.trans (o11.below (by omega))
    have m3 := m3.only o11 (by omega)
    refine s_end (hK5 _ _ ?_)
    refine wp_ret (then_ret (res_cell (cs := [_, _]) hF rfl rfl m6 wide93 ⟨by simp only [Gpl]; rw [if_pos hiv]; rfl, hB⟩))
  · skip
    refine wp_rs fun K6 hK6 => ?_
    refine s_val hF (x_ldW wide27 m3 rfl rfl) (by decide) fun a hF => ?_
    refine s_val hF (x_move rfl) (by decide) fun a hF => ?_
    have hiv : c.isV d = false := by rw [hV]; first | (rw [decide_eq_false (show ¬ x.n = d by omega), Bool.and_false]; done) | (rw [decide_eq_false (show ¬ x.k = 1 by omega), Bool.false_and]; done)
    refine s_callB [_, _] hF (enters_of Try.func102 (by kernel_rfl) rfl) rfl (by decide) ((isPlace121 c x _ d wl w4 hx).mono fun e w' h => ⟨by rw [h.1, hiv], h.2⟩) fun w12 a B13 hF => ?_
    have sB13 := B13.size
    have hB := hB.trans (B13.mono hB.size)
    have m3 := m3.old B13
    have m6 := m6.old B13
    refine s_end (hK6 _ _ ?_)
    refine wp_if hF rfl ?_
    refine wp_skip (hK2 _ _ ?_)
    refine wp_rs fun K7 hK7 => ?_
    refine s_alloc hF (by decide) zero93 fun w14 b7 a eb7 m7 B15 zb7 hF => ?_
    have sB15 := B15.size
    have hB := hB.trans (B15.mono hB.size)
    have m3 := m3.old B15
    have m6 := m6.old B15
    refine s_end (hK7 _ _ ?_)
    refine wp_seq_k fun K8 hK8 => ?_
    refine wp_rs fun K9 hK9 => ?_
    refine s_val hF (x_move rfl) (by decide) fun a hF => ?_
    refine s_val hF (x_len Try.underlying118 rfl) (by decide) fun a hF => ?_
    refine s_val hF (x_move rfl) (by decide) fun a hF => ?_
    refine s_end (hK9 _ _ ?_)
    refine wp_block ?_
    refine wp_up (c.folds Gpl d).length (fun i a w => Blk w b7 81 [.int .i64 (((c.folds Gpl d).take i).foldl plc (0, 0)).1, .int .i64 (((c.folds Gpl d).take i).foldl plc (0, 0)).2] ∧ Blk w b6 81 [.int .i64 0, .int .i64 0] ∧ Below W.heap.size W w ∧ Fs 38 a [(6, .pointer (some ⟨b6, 0, none⟩)), (7, .pointer (some ⟨b7, 0, none⟩)), (14, .slice av (c.folds Gpl d).length cv), (15, .int .i64 ((c.folds Gpl d).length : Int)), (16, .int .i64 (i : Int))]) ⟨by simpa using m7, m6, hB, hF.sub _ rfl⟩ ?_
    repeat clear hF
    have hne67 : b6 ≠ b7 ∧ W.heap.size ≤ b6 ∧ W.heap.size ≤ b7 := by omega
    clear hB m6 m7
    rintro i a w hi ⟨m7, m6, hB, hF⟩ K' hK'
    have sB := hB.size
    have hTi := hT i
    have h6l := m6.lt
    have h7l := m7.lt
    refine wp_rs fun K10 hK10 => ?_
    refine s_val hF (x_lss (b := decide (i < (c.folds Gpl d).length)) (decide_eq_decide.2 (by omega)) rfl rfl) (by decide) fun a hF => ?_
    refine s_end (hK10 _ _ ?_)
    refine wp_seq_k fun K11 hK11 => ?_
    refine wp_iff hF rfl (fun hc17 => ?_) (fun hc17 => ?_)
    · obtain ⟨b, off, c9, q, hve, hq, hrow⟩ := rd_rowP hkv (i := i) (by omega)
      cases hve
      have hTi1 := hT (i + 1)
      have hqk := Gpl_kids (List.mem_of_getElem? hq)
      have htk := take_snoc hq
      rw [htk, List.foldl_append, List.foldl_cons, List.foldl_nil] at hTi1
      refine wp_skip (hK11 _ _ ?_)
      refine wp_seq_k fun K12 hK12 => ?_
      refine wp_block ?_
      refine wp_rs fun K13 hK13 => ?_
      refine s_val hF (x_ixa rfl rfl (m_ixsK i Try.underlying118 el122.size rfl (by omega))) (by decide) fun a hF => ?_
      refine s_val hF (x_ldA wide93 (hrow _ hB) rfl rfl) (by decide) fun a hF => ?_
      refine s_alloc hF (by decide) zero93 fun w16 b9 a eb9 m9 B17 zb9 hF => ?_
      have sB17 := B17.size
      have hB := hB.trans (B17.mono hB.size)
      have m6 := m6.old B17
      have m7 := m7.old B17
      refine s_putW hF rfl rfl (size_wide wide93) m9 rfl (oneII _ _) fun w20 m9 o21 => ?_
      have so21 := o21.size
      have hB := hB.trans (o21.below (by omega))
      have m6 := m6.only o21 (by omega)
      have m7 := m7.only o21 (by omega)
      refine s_end (hK13 _ _ ?_)
      refine wp_rs fun K14 hK14 => ?_
      refine s_val hF (x_fa0 fa93_0 rfl) (by decide) fun a hF => ?_
      refine s_val hF (x_load rfl (m_load flat3 (m7.cell (j := 0) rfl))) (by decide) fun a hF => ?_
      refine s_val hF (x_fa0 fa93_0 rfl) (by decide) fun a hF => ?_
      refine s_val hF (x_load rfl (m_load flat3 (m9.cell (j := 0) rfl))) (by decide) fun a hF => ?_
      refine s_val hF (x_add (by omega) (by omega) rfl rfl) (by decide) fun a hF => ?_
      refine s_val hF (x_fa0 fa93_0 rfl) (by decide) fun a hF => ?_
      refine s_put hF rfl rfl flat3 m7 (by first | (simp; done) | (simp [tc, lc]; done) | decide) rfl fun w22 m7 o23 => ?_
      have so23 := o23.size
      have hB := hB.trans (o23.below (by omega))
      have m6 := m6.only o23 (by omega)
      have m9 := m9.only o23 (by omega)
      refine s_end (hK14 _ _ ?_)
      rcases (show 0 < q.1 ∨ ¬ 0 < q.1 by omega) with hk8 | hk8
      · have hpl : plc (((c.folds Gpl d).take i).foldl plc (0, 0)) q = ((((c.folds Gpl d).take i).foldl plc (0, 0)).1 + q.1, max (((c.folds Gpl d).take i).foldl plc (0, 0)).2 (q.2 + 1)) := by simp only [plc]; rw [if_pos hk8]
        refine wp_rs fun K16 hK16 => ?_
        refine s_val hF (x_fa0 fa93_0 rfl) (by decide) fun a hF => ?_
        refine s_val hF (x_load rfl (m_load flat3 (m9.cell (j := 0) rfl))) (by decide) fun a hF => ?_
        refine s_val hF (x_gtr (b := true) (decide_eq_true (by omega)) rfl rfl) (by decide) fun a hF => ?_
        refine s_end (hK16 _ _ ?_)
        refine wp_if hF rfl ?_
        refine wp_region_lit ?_
        refine s_val hF (x_fa0 fa93_1 rfl) (by decide) fun a hF => ?_
        refine s_val hF (x_load rfl (m_load flat3 (m7.cell (j := 1) rfl))) (by decide) fun a hF => ?_
        refine s_val hF (x_fa0 fa93_1 rfl) (by decide) fun a hF => ?_
        refine s_val hF (x_load rfl (m_load flat3 (m9.cell (j := 1) rfl))) (by decide) fun a hF => ?_
        refine s_val hF (x_add (by omega) (by omega) rfl rfl) (by decide) fun a hF => ?_
        refine s_val hF (x_imax rfl rfl) (by decide) fun a hF => ?_
        refine s_val hF (x_fa0 fa93_1 rfl) (by decide) fun a hF => ?_
        refine s_put hF rfl rfl flat3 m7 (by first | (simp; done) | (simp [tc, lc]; done) | decide) rfl fun w24 m7 o25 => ?_
        have so25 := o25.size
        have hB := hB.trans (o25.below (by omega))
        have m6 := m6.only o25 (by omega)
        have m9 := m9.only o25 (by omega)
        refine s_end (hK12 _ _ ?_)
        refine wp_region_lit ?_
        refine s_val hF (x_addn (i + 1) (by omega) (by omega) rfl rfl) (by decide) fun a hF => ?_
        refine s_val hF (x_move rfl) (by decide) fun a hF => ?_
        refine s_end (hK' _ _ (by omega) ⟨by rw [htk, List.foldl_append, List.foldl_cons, List.foldl_nil, hpl]; exact m7, m6, hB, hF.sub _ rfl⟩)
      · have hpl : plc (((c.folds Gpl d).take i).foldl plc (0, 0)) q = ((((c.folds Gpl d).take i).foldl plc (0, 0)).1 + q.1, (((c.folds Gpl d).take i).foldl plc (0, 0)).2) := by simp only [plc]; rw [if_neg hk8]
        refine wp_rs fun K17 hK17 => ?_
        refine s_val hF (x_fa0 fa93_0 rfl) (by decide) fun a hF => ?_
        refine s_val hF (x_load rfl (m_load flat3 (m9.cell (j := 0) rfl))) (by decide) fun a hF => ?_
        refine s_val hF (x_gtr (b := false) (decide_eq_false (by omega)) rfl rfl) (by decide) fun a hF => ?_
        refine s_end (hK17 _ _ ?_)
        refine wp_if hF rfl ?_
        refine wp_skip (hK12 _ _ ?_)
        refine wp_region_lit ?_
        refine s_val hF (x_addn (i + 1) (by omega) (by omega) rfl rfl) (by decide) fun a hF => ?_
        refine s_val hF (x_move rfl) (by decide) fun a hF => ?_
        refine s_end (hK' _ _ (by omega) ⟨by rw [htk, List.foldl_append, List.foldl_cons, List.foldl_nil, hpl]; exact m7, m6, hB, hF.sub _ rfl⟩)
    · obtain rfl : i = (c.folds Gpl d).length := by omega
      rw [List.take_length] at m7
      refine wp_exit (hK8 _ _ ?_)
      refine wp_rs fun K18 hK18 => ?_
      refine s_val hF (x_ldW wide93 m7 rfl rfl) (by decide) fun a hF => ?_
      refine s_putW hF rfl rfl (size_wide wide93) m6 rfl (oneII _ _) fun w28 m6 o29 => ?_
      have so29 := o29.size
      have hB := hB.trans (o29.below (by omega))
      have m7 := m7.only o29 (by omega)
      refine s_end (hK18 _ _ ?_)
      refine wp_ret (res_cell (cs := [_, _]) hF rfl rfl m6 wide93 ⟨by simp only [Gpl]; rw [if_neg (by rw [hiv]; decide)]; rfl, hB⟩)
  · skip
    refine wp_rs fun K19 hK19 => ?_
    refine s_val hF (x_ldW wide27 m3 rfl rfl) (by decide) fun a hF => ?_
    refine s_val hF (x_move rfl) (by decide) fun a hF => ?_
    have hiv : c.isV d = false := by rw [hV]; first | (rw [decide_eq_false (show ¬ x.n = d by omega), Bool.and_false]; done) | (rw [decide_eq_false (show ¬ x.k = 1 by omega), Bool.false_and]; done)
    refine s_callB [_, _] hF (enters_of Try.func102 (by kernel_rfl) rfl) rfl (by decide) ((isPlace121 c x _ d wl w4 hx).mono fun e w' h => ⟨by rw [h.1, hiv], h.2⟩) fun w30 a B31 hF => ?_
    have sB31 := B31.size
    have hB := hB.trans (B31.mono hB.size)
    have m3 := m3.old B31
    have m6 := m6.old B31
    refine s_end (hK19 _ _ ?_)
    refine wp_if hF rfl ?_
    refine wp_skip (hK2 _ _ ?_)
    refine wp_rs fun K20 hK20 => ?_
    refine s_alloc hF (by decide) zero93 fun w32 b7 a eb7 m7 B33 zb7 hF => ?_
    have sB33 := B33.size
    have hB := hB.trans (B33.mono hB.size)
    have m3 := m3.old B33
    have m6 := m6.old B33
    refine s_end (hK20 _ _ ?_)
    refine wp_seq_k fun K21 hK21 => ?_
    refine wp_rs fun K22 hK22 => ?_
    refine s_val hF (x_move rfl) (by decide) fun a hF => ?_
    refine s_val hF (x_len Try.underlying118 rfl) (by decide) fun a hF => ?_
    refine s_val hF (x_move rfl) (by decide) fun a hF => ?_
    refine s_end (hK22 _ _ ?_)
    refine wp_block ?_
    refine wp_up (c.folds Gpl d).length (fun i a w => Blk w b7 81 [.int .i64 (((c.folds Gpl d).take i).foldl plc (0, 0)).1, .int .i64 (((c.folds Gpl d).take i).foldl plc (0, 0)).2] ∧ Blk w b6 81 [.int .i64 0, .int .i64 0] ∧ Below W.heap.size W w ∧ Fs 38 a [(6, .pointer (some ⟨b6, 0, none⟩)), (7, .pointer (some ⟨b7, 0, none⟩)), (14, .slice av (c.folds Gpl d).length cv), (15, .int .i64 ((c.folds Gpl d).length : Int)), (16, .int .i64 (i : Int))]) ⟨by simpa using m7, m6, hB, hF.sub _ rfl⟩ ?_
    repeat clear hF
    have hne67 : b6 ≠ b7 ∧ W.heap.size ≤ b6 ∧ W.heap.size ≤ b7 := by omega
    clear hB m6 m7
    rintro i a w hi ⟨m7, m6, hB, hF⟩ K' hK'
    have sB := hB.size
    have hTi := hT i
    have h6l := m6.lt
    have h7l := m7.lt
    refine wp_rs fun K23 hK23 => ?_
    refine s_val hF (x_lss (b := decide (i < (c.folds Gpl d).length)) (decide_eq_decide.2 (by omega)) rfl rfl) (by decide) fun a hF => ?_
    refine s_end (hK23 _ _ ?_)
    refine wp_seq_k fun K24 hK24 => ?_
    refine wp_iff hF rfl (fun hc17 => ?_) (fun hc17 => ?_)
    · obtain ⟨b, off, c9, q, hve, hq, hrow⟩ := rd_rowP hkv (i := i) (by omega)
      cases hve
      have hTi1 := hT (i + 1)
      have hqk := Gpl_kids (List.mem_of_getElem? hq)
      have htk := take_snoc hq
      rw [htk, List.foldl_append, List.foldl_cons, List.foldl_nil] at hTi1
      refine wp_skip (hK24 _ _ ?_)
      refine wp_seq_k fun K25 hK25 => ?_
      refine wp_block ?_
      refine wp_rs fun K26 hK26 => ?_
      refine s_val hF (x_ixa rfl rfl (m_ixsK i Try.underlying118 el122.size rfl (by omega))) (by decide) fun a hF => ?_
      refine s_val hF (x_ldA wide93 (hrow _ hB) rfl rfl) (by decide) fun a hF => ?_
      refine s_alloc hF (by decide) zero93 fun w34 b9 a eb9 m9 B35 zb9 hF => ?_
      have sB35 := B35.size
      have hB := hB.trans (B35.mono hB.size)
      have m6 := m6.old B35
      have m7 := m7.old B35
      refine s_putW hF rfl rfl (size_wide wide93) m9 rfl (oneII _ _) fun w38 m9 o39 => ?_
      have so39 := o39.size
      have hB := hB.trans (o39.below (by omega))
      have m6 := m6.only o39 (by omega)
      have m7 := m7.only o39 (by omega)
      refine s_end (hK26 _ _ ?_)
      refine wp_rs fun K27 hK27 => ?_
      refine s_val hF (x_fa0 fa93_0 rfl) (by decide) fun a hF => ?_
      refine s_val hF (x_load rfl (m_load flat3 (m7.cell (j := 0) rfl))) (by decide) fun a hF => ?_
      refine s_val hF (x_fa0 fa93_0 rfl) (by decide) fun a hF => ?_
      refine s_val hF (x_load rfl (m_load flat3 (m9.cell (j := 0) rfl))) (by decide) fun a hF => ?_
      refine s_val hF (x_add (by omega) (by omega) rfl rfl) (by decide) fun a hF => ?_
      refine s_val hF (x_fa0 fa93_0 rfl) (by decide) fun a hF => ?_
      refine s_put hF rfl rfl flat3 m7 (by first | (simp; done) | (simp [tc, lc]; done) | decide) rfl fun w40 m7 o41 => ?_
      have so41 := o41.size
      have hB := hB.trans (o41.below (by omega))
      have m6 := m6.only o41 (by omega)
      have m9 := m9.only o41 (by omega)
      refine s_end (hK27 _ _ ?_)
      rcases (show 0 < q.1 ∨ ¬ 0 < q.1 by omega) with hk8 | hk8
      · have hpl : plc (((c.folds Gpl d).take i).foldl plc (0, 0)) q = ((((c.folds Gpl d).take i).foldl plc (0, 0)).1 + q.1, max (((c.folds Gpl d).take i).foldl plc (0, 0)).2 (q.2 + 1)) := by simp only [plc]; rw [if_pos hk8]
        refine wp_rs fun K29 hK29 => ?_
        refine s_val hF (x_fa0 fa93_0 rfl) (by decide) fun a hF => ?_
        refine s_val hF (x_load rfl (m_load flat3 (m9.cell (j := 0) rfl))) (by decide) fun a hF => ?_
        refine s_val hF (x_gtr (b := true) (decide_eq_true (by omega)) rfl rfl) (by decide) fun a hF => ?_
        refine s_end (hK29 _ _ ?_)
        refine wp_if hF rfl ?_
        refine wp_region_lit ?_
        refine s_val hF (x_fa0 fa93_1 rfl) (by decide) fun a hF => ?_
        refine s_val hF (x_load rfl (m_load flat3 (m7.cell (j := 1) rfl))) (by decide) fun a hF => ?_
        refine s_val hF (x_fa0 fa93_1 rfl) (by decide) fun a hF => ?_
        refine s_val hF (x_load rfl (m_load flat3 (m9.cell (j := 1) rfl))) (by decide) fun a hF => ?_
        refine s_val hF (x_add (by omega) (by omega) rfl rfl) (by decide) fun a hF => ?_
        refine s_val hF (x_imax rfl rfl) (by decide) fun a hF => ?_
        refine s_val hF (x_fa0 fa93_1 rfl) (by decide) fun a hF => ?_
        refine s_put hF rfl rfl flat3 m7 (by first | (simp; done) | (simp [tc, lc]; done) | decide) rfl fun w42 m7 o43 => ?_
        have so43 := o43.size
        have hB := hB.trans (o43.below (by omega))
        have m6 := m6.only o43 (by omega)
        have m9 := m9.only o43 (by omega)
        refine s_end (hK25 _ _ ?_)
        refine wp_region_lit ?_
        refine s_val hF (x_addn (i + 1) (by omega) (by omega) rfl rfl) (by decide) fun a hF => ?_
        refine s_val hF (x_move rfl) (by decide) fun a hF => ?_
        refine s_end (hK' _ _ (by omega) ⟨by rw [htk, List.foldl_append, List.foldl_cons, List.foldl_nil, hpl]; exact m7, m6, hB, hF.sub _ rfl⟩)
      · have hpl : plc (((c.folds Gpl d).take i).foldl plc (0, 0)) q = ((((c.folds Gpl d).take i).foldl plc (0, 0)).1 + q.1, (((c.folds Gpl d).take i).foldl plc (0, 0)).2) := by simp only [plc]; rw [if_neg hk8]
        refine wp_rs fun K30 hK30 => ?_
        refine s_val hF (x_fa0 fa93_0 rfl) (by decide) fun a hF => ?_
        refine s_val hF (x_load rfl (m_load flat3 (m9.cell (j := 0) rfl))) (by decide) fun a hF => ?_
        refine s_val hF (x_gtr (b := false) (decide_eq_false (by omega)) rfl rfl) (by decide) fun a hF => ?_
        refine s_end (hK30 _ _ ?_)
        refine wp_if hF rfl ?_
        refine wp_skip (hK25 _ _ ?_)
        refine wp_region_lit ?_
        refine s_val hF (x_addn (i + 1) (by omega) (by omega) rfl rfl) (by decide) fun a hF => ?_
        refine s_val hF (x_move rfl) (by decide) fun a hF => ?_
        refine s_end (hK' _ _ (by omega) ⟨by rw [htk, List.foldl_append, List.foldl_cons, List.foldl_nil, hpl]; exact m7, m6, hB, hF.sub _ rfl⟩)
    · obtain rfl : i = (c.folds Gpl d).length := by omega
      rw [List.take_length] at m7
      refine wp_exit (hK21 _ _ ?_)
      refine wp_rs fun K31 hK31 => ?_
      refine s_val hF (x_ldW wide93 m7 rfl rfl) (by decide) fun a hF => ?_
      refine s_putW hF rfl rfl (size_wide wide93) m6 rfl (oneII _ _) fun w46 m6 o47 => ?_
      have so47 := o47.size
      have hB := hB.trans (o47.below (by omega))
      have m7 := m7.only o47 (by omega)
      refine s_end (hK31 _ _ ?_)
      refine wp_ret (res_cell (cs := [_, _]) hF rfl rfl m6 wide93 ⟨by simp only [Gpl]; rw [if_neg (by rw [hiv]; decide)]; rfl, hB⟩)
end Go.Proofs.Ytaclncmkdpjnlaa

namespace Go.Proofs.Ytaclncmkdpjnlaa
open Go.RowKit Go.Shelf
set_option linter.unusedVariables false
set_option linter.unusedSimpArgs false

theorem RC.bel {w0 w : World} {c : CT} {x : C8} (h : RC w0 (fun k => k < w0.heap.size) c x) (hB : Below w0.heap.size w0 w) : RC w (fun k => k < w.heap.size) c x :=
  (h.keep hB.size (fun k hk _ => hB.block k hk)).mono (fun k hk => by have := hB.size; omega)
theorem bnd2_0 (k : Int) (a b : CT) (m : Nat) : (CT.two k a b m).bnd 0 = 0 := by simp [CT.bnd]
theorem bnd2_1 (k : Int) (a b : CT) (m : Nat) : (CT.two k a b m).bnd 1 = if k = 3 ∨ k = 4 then 1 else 0 := by simp [CT.bnd]
theorem bnd3_0 (a b c : CT) (m : Nat) : (CT.lt a b c m).bnd 0 = 0 := by simp [CT.bnd]
theorem bnd3_1 (a b c : CT) (m : Nat) : (CT.lt a b c m).bnd 1 = 0 := by simp [CT.bnd]
theorem bnd3_2 (a b c : CT) (m : Nat) : (CT.lt a b c m).bnd 2 = 1 := by simp [CT.bnd]
theorem PT.size_pos (p : PT) : 0 < p.size := by cases p <;> simp [PT.size]
theorem PT.dep_pos (p : PT) : 0 < p.dep := by cases p <;> simp [PT.dep]
theorem PT.lift_size (f b : Int) : ∀ (p : PT) (d : Int), (p.lift f b d).size = p.size ∧ (p.lift f b d).dep = p.dep
  | .two k p q, d => by simp [PT.lift, PT.size, PT.dep, PT.lift_size f b p, PT.lift_size f b q]
  | .lt p q r, d => by simp [PT.lift, PT.size, PT.dep, PT.lift_size f b p, PT.lift_size f b q, PT.lift_size f b r]
  | .var .., d => ⟨rfl, rfl⟩
  | .sort .., d => ⟨rfl, rfl⟩
  | .cst .., d => ⟨rfl, rfl⟩
  | .odd .., d => ⟨rfl, rfl⟩
theorem put_size (v : PT) : ∀ (c : CT) (d : Int), ((PT.put v c.ess d).size : Int) = c.size + (c.fold Gpl d).1 * ((v.size : Int) - 1)
  | .two k a b m, d => by
    have ha := put_size v a (d + (CT.two k a b m).bnd 0)
    have hb := put_size v b (d + (CT.two k a b m).bnd 1)
    simp only [bnd2_0, bnd2_1, Int.add_zero] at ha hb
    simp only [CT.ess, PT.put, PT.size, CT.size, CT.fold, Gpl, CT.isV, List.foldl_cons, List.foldl_nil, plc, bnd2_0, bnd2_1, bnd3_0, bnd3_1, bnd3_2]
    simp only [Bool.false_eq_true, if_false, Int.add_zero, Int.zero_add]
    rw [Int.add_mul]
    omega
  | .lt a b c m, d => by
    have ha := put_size v a (d + (CT.lt a b c m).bnd 0)
    have hb := put_size v b (d + (CT.lt a b c m).bnd 1)
    have hc := put_size v c (d + (CT.lt a b c m).bnd 2)
    simp only [bnd3_0, bnd3_1, bnd3_2, Int.add_zero] at ha hb hc
    simp only [CT.ess, PT.put, PT.size, CT.size, CT.fold, Gpl, CT.isV, List.foldl_cons, List.foldl_nil, plc, bnd2_0, bnd2_1, bnd3_0, bnd3_1, bnd3_2]
    simp only [Bool.false_eq_true, if_false, Int.add_zero, Int.zero_add]
    rw [Int.add_mul, Int.add_mul]
    omega
  | .var n m, d => by
    simp only [CT.ess, PT.put, CT.fold, Gpl, CT.isV, CT.size, List.foldl_nil, decide_eq_true_eq]
    split
    · rw [(v.lift_size 0 d 0).1]; omega
    · simp [PT.size]
  | .sort n m, d => by simp [CT.ess, PT.put, CT.fold, Gpl, CT.isV, CT.size, PT.size]
  | .cst s n m, d => by simp [CT.ess, PT.put, CT.fold, Gpl, CT.isV, CT.size, PT.size]
  | .odd n m, d => by simp [CT.ess, PT.put, CT.fold, Gpl, CT.isV, CT.size, PT.size]
set_option maxHeartbeats 4000000 in
theorem put_dep (v : PT) : ∀ (c : CT) (d : Int), ((PT.put v c.ess d).dep : Int) = max (c.dep : Int) (if 0 < (c.fold Gpl d).1 then (c.fold Gpl d).2 + v.dep - 1 else 0)
  | .two k a b m, d => by
    have ha := put_dep v a (d + (CT.two k a b m).bnd 0)
    have hb := put_dep v b (d + (CT.two k a b m).bnd 1)
    have ga := Gpl_rng a (d + (CT.two k a b m).bnd 0)
    have gb := Gpl_rng b (d + (CT.two k a b m).bnd 1)
    have := v.dep_pos
    simp only [bnd2_0, bnd2_1, Int.add_zero] at ha hb ga gb
    simp only [CT.ess, PT.put, PT.dep, CT.dep, CT.fold, Gpl, CT.isV, List.foldl_cons, List.foldl_nil, plc, bnd2_0, bnd2_1, bnd3_0, bnd3_1, bnd3_2]
    simp only [Bool.false_eq_true, if_false, Int.add_zero, Int.zero_add]
    generalize CT.fold Gpl a d = fa at *
    generalize CT.fold Gpl b (d + if k = 3 ∨ k = 4 then 1 else 0) = fb at *
    generalize (PT.put v a.ess d).dep = pa at *
    generalize (PT.put v b.ess (d + if k = 3 ∨ k = 4 then 1 else 0)).dep = pb at *
    have hs : 0 < fa.1 + fb.1 ↔ 0 < fa.1 ∨ 0 < fb.1 := by omega
    simp only [hs]
    by_cases h1 : 0 < fa.1 <;> by_cases h2 : 0 < fb.1 <;> simp only [h1, h2, if_true, if_false, true_or, or_true, or_self] at ha hb ⊢ <;> omega
  | .lt a b c m, d => by
    have ha := put_dep v a (d + (CT.lt a b c m).bnd 0)
    have hb := put_dep v b (d + (CT.lt a b c m).bnd 1)
    have hc := put_dep v c (d + (CT.lt a b c m).bnd 2)
    have ga := Gpl_rng a (d + (CT.lt a b c m).bnd 0)
    have gb := Gpl_rng b (d + (CT.lt a b c m).bnd 1)
    have gc := Gpl_rng c (d + (CT.lt a b c m).bnd 2)
    have := v.dep_pos
    simp only [bnd3_0, bnd3_1, bnd3_2, Int.add_zero] at ha hb hc ga gb gc
    simp only [CT.ess, PT.put, PT.dep, CT.dep, CT.fold, Gpl, CT.isV, List.foldl_cons, List.foldl_nil, plc, bnd2_0, bnd2_1, bnd3_0, bnd3_1, bnd3_2]
    simp only [Bool.false_eq_true, if_false, Int.add_zero, Int.zero_add]
    generalize CT.fold Gpl a d = fa at *
    generalize CT.fold Gpl b d = fb at *
    generalize CT.fold Gpl c (d + 1) = fc at *
    generalize (PT.put v a.ess d).dep = pa at *
    generalize (PT.put v b.ess d).dep = pb at *
    generalize (PT.put v c.ess (d + 1)).dep = pc at *
    have hs : 0 < fa.1 + fb.1 + fc.1 ↔ (0 < fa.1 ∨ 0 < fb.1) ∨ 0 < fc.1 := by omega
    simp only [hs]
    by_cases h1 : 0 < fa.1 <;> by_cases h2 : 0 < fb.1 <;> by_cases h3 : 0 < fc.1 <;> simp only [h1, h2, h3, if_true, if_false, true_or, or_true, or_self] at ha hb hc ⊢ <;> omega
  | .var n m, d => by
    have := v.dep_pos
    simp only [CT.ess, PT.put, CT.fold, Gpl, CT.isV, CT.dep, List.foldl_nil, decide_eq_true_eq]
    split
    · rw [(v.lift_size 0 d 0).2]; simp; omega
    · simp [PT.dep]; omega
  | .sort n m, d => by simp [CT.ess, PT.put, CT.fold, Gpl, CT.isV, CT.dep, PT.dep]; omega
  | .cst s n m, d => by simp [CT.ess, PT.put, CT.fold, Gpl, CT.isV, CT.dep, PT.dep]; omega
  | .odd n m, d => by simp [CT.ess, PT.put, CT.fold, Gpl, CT.isV, CT.dep, PT.dep]; omega
def PT.ok (p : PT) : Prop := p.size ≤ 20000 ∧ p.dep ≤ 2000
instance (p : PT) : Decidable p.ok := inferInstanceAs (Decidable (_ ∧ _))
theorem CT.ok_ess (c : CT) : c.ess.ok ↔ c.ok := by unfold PT.ok CT.ok; rw [c.ess_size, c.ess_dep]
/-- What it is asked ahead of putting in. -/
def holdsP (n dp vn vd cnt pd : Int) : Prop := n + cnt * (vn - 1) ≤ 20000 ∧ (if 0 < cnt then max dp (pd + vd - 1) else dp) ≤ 2000
instance (n dp vn vd cnt pd : Int) : Decidable (holdsP n dp vn vd cnt pd) := inferInstanceAs (Decidable (_ ∧ _))
theorem holdsP_iff {c v : CT} : holdsP c.size c.dep v.size v.dep (c.fold Gpl 0).1 (c.fold Gpl 0).2 ↔ (PT.put v.ess c.ess 0).ok := by
  have h1 := put_size v.ess c 0
  have h2 := put_dep v.ess c 0
  have h3 := c.dep_pos
  rw [v.ess_size] at h1
  rw [v.ess_dep] at h2
  unfold holdsP PT.ok
  by_cases h : 0 < (c.fold Gpl 0).1 <;> simp only [h, if_true, if_false] at h2 ⊢ <;> omega

set_option maxRecDepth 100000 in
set_option maxHeartbeats 400000 in
theorem placesOf84 (c : CT) (x : C8) (w0 : World) (hx : RC w0 (fun k => k < w0.heap.size) c x) (hok : c.ok) : Calls Try.prog 65 #[tv x] w0 fun e w' => e = .returned (.agg (enc2 (c.fold Gpl 0)).toArray) ∧ Below w0.heap.size w0 w' := by
  have hB := Below.refl w0.heap.size w0
  have sB := hB.size
  refine calls_fs 5 [(0, tv x)] Try.func65 rfl rfl rfl rfl rfl fun a hF => ?_
  refine wp_rs fun K1 hK1 => ?_
  refine s_box (tc x) hF (by decide) rfl rfl fun w2 b1 a eb1 m1 B3 zb1 hF => ?_
  have sB3 := B3.size
  have hB := hB.trans (B3.mono hB.size)
  refine s_alloc hF (by decide) zero93 fun w4 b2 a eb2 m2 B5 zb2 hF => ?_
  have sB5 := B5.size
  have hB := hB.trans (B5.mono hB.size)
  have m1 := m1.old B5
  refine s_end (hK1 _ _ ?_)
  refine wp_rs fun K2 hK2 => ?_
  refine s_val hF (x_ldW wide27 m1 rfl rfl) (by decide) fun a hF => ?_
  refine s_callB [_, _, _] hF (enters_of Try.func100 (by kernel_rfl) rfl) rfl (by decide) (fold119 w4 101 [] (enters_of Try.func101 (by kernel_rfl) rfl) 2000 (by decide) 20000 Gpl _ rfl (fun W c x d kv h1 h2 h3 h4 h5 h6 => clo120 w4 20000 (by decide) 2000 (by decide) W c x d kv h1 h2 h3 h4 h5 h6) (c.size + 1) c x 0 w4 (by omega) hok.1 (hx.bel hB) (by decide) (by have := hok.2; omega) (Below.refl _ _)) fun w6 a B7 hF => ?_
  have sB7 := B7.size
  have hB := hB.trans (B7.mono hB.size)
  have m1 := m1.old B7
  have m2 := m2.old B7
  refine s_putW hF rfl rfl (size_wide wide93) m2 rfl (oneII _ _) fun w10 m2 o11 => ?_
  have so11 := o11.size
  have hB := hB.trans (o11.below (by omega))
  have m1 := m1.only o11 (by omega)
  refine s_end (hK2 _ _ ?_)
  refine wp_ret (res_cell (cs := enc2 _) hF rfl rfl m2 wide93 ⟨rfl, hB⟩)

set_option maxRecDepth 100000 in
set_option maxHeartbeats 400000 in
theorem holds83 (n dp vn vd cnt pd : Int) (w0 : World) (h1 : 0 ≤ n ∧ n ≤ 20000) (h2 : 0 ≤ dp ∧ dp ≤ 20000) (h3 : 0 ≤ vn ∧ vn ≤ 20000) (h4 : 0 ≤ vd ∧ vd ≤ 20000) (h5 : 0 ≤ cnt ∧ cnt ≤ 20000) (h6 : 0 ≤ pd ∧ pd ≤ 20000) :
    Calls Try.prog 64 #[.agg [.int .i64 n, .int .i64 dp].toArray, .agg [.int .i64 vn, .int .i64 vd].toArray, .agg (enc2 (cnt, pd)).toArray] w0 fun e w' => e = .returned (.bool (decide (holdsP n dp vn vd cnt pd))) ∧ Below w0.heap.size w0 w' := by
  have hm : -20000 ≤ cnt * (vn - 1) ∧ cnt * (vn - 1) ≤ 400000000 := by
    have a1 : cnt * (vn - 1) ≤ 20000 * 20000 := by
      rcases Int.lt_or_le vn 1 with h | h
      · have : cnt * (vn - 1) ≤ 0 := Int.mul_nonpos_of_nonneg_of_nonpos h5.1 (by omega); omega
      · exact Int.mul_le_mul (by omega) (by omega) (by omega) (by omega)
    have a2 : cnt * vn ≥ 0 := Int.mul_nonneg h5.1 h3.1
    have a3 : cnt * (vn - 1) = cnt * vn - cnt := by rw [Int.mul_sub, Int.mul_one]
    omega
  have hB := Below.refl w0.heap.size w0
  have sB := hB.size
  refine calls_fs 35 [(0, .agg [.int .i64 n, .int .i64 dp].toArray), (1, .agg [.int .i64 vn, .int .i64 vd].toArray), (2, .agg (enc2 (cnt, pd)).toArray)] Try.func64 rfl rfl rfl rfl rfl fun a hF => ?_
  refine wp_rs fun K1 hK1 => ?_
  refine s_box ([.int .i64 n, .int .i64 dp]) hF (by decide) rfl rfl fun w2 b3 a eb3 m3 B3 zb3 hF => ?_
  have sB3 := B3.size
  have hB := hB.trans (B3.mono hB.size)
  refine s_box ([.int .i64 vn, .int .i64 vd]) hF (by decide) rfl rfl fun w4 b4 a eb4 m4 B5 zb4 hF => ?_
  have sB5 := B5.size
  have hB := hB.trans (B5.mono hB.size)
  have m3 := m3.old B5
  refine s_box ([.int .i64 cnt, .int .i64 pd]) hF (by decide) rfl rfl fun w6 b5 a eb5 m5 B7 zb5 hF => ?_
  have sB7 := B7.size
  have hB := hB.trans (B7.mono hB.size)
  have m3 := m3.old B7
  have m4 := m4.old B7
  refine s_val hF (x_assign rfl) (by decide) fun a hF => ?_
  refine s_end (hK1 _ _ ?_)
  refine wp_rs fun K2 hK2 => ?_
  refine s_val hF (x_fa0 fa70_0 rfl) (by decide) fun a hF => ?_
  refine s_val hF (x_load rfl (m_load flat3 (m3.cell (j := 0) rfl))) (by decide) fun a hF => ?_
  refine s_val hF (x_fa0 fa93_0 rfl) (by decide) fun a hF => ?_
  refine s_val hF (x_load rfl (m_load flat3 (m5.cell (j := 0) rfl))) (by decide) fun a hF => ?_
  refine s_val hF (x_fa0 fa70_0 rfl) (by decide) fun a hF => ?_
  refine s_val hF (x_load rfl (m_load flat3 (m4.cell (j := 0) rfl))) (by decide) fun a hF => ?_
  refine s_val hF (x_sub (by omega) (by omega) rfl rfl) (by decide) fun a hF => ?_
  refine s_val hF (x_mul (by omega) (by omega) rfl rfl) (by decide) fun a hF => ?_
  refine s_val hF (x_add (by omega) (by omega) rfl rfl) (by decide) fun a hF => ?_
  refine s_val hF (x_fa0 fa70_1 rfl) (by decide) fun a hF => ?_
  refine s_val hF (x_load rfl (m_load flat3 (m3.cell (j := 1) rfl))) (by decide) fun a hF => ?_
  refine s_val hF (x_build (vs := [(0, _), (1, _)]) rfl (b70_01 _ _ _)) (by decide) fun a hF => ?_
  refine s_alloc hF (by decide) zero70 fun w8 b7 a eb7 m7 B9 zb7 hF => ?_
  have sB9 := B9.size
  have hB := hB.trans (B9.mono hB.size)
  have m3 := m3.old B9
  have m4 := m4.old B9
  have m5 := m5.old B9
  refine s_putW hF rfl rfl (size_wide wide70) m7 rfl (oneII _ _) fun w12 m7 o13 => ?_
  have so13 := o13.size
  have hB := hB.trans (o13.below (by omega))
  have m3 := m3.only o13 (by omega)
  have m4 := m4.only o13 (by omega)
  have m5 := m5.only o13 (by omega)
  refine s_end (hK2 _ _ ?_)
  refine wp_seq_k fun K3 hK3 => ?_
  rcases (show 0 < cnt ∨ ¬ 0 < cnt by omega) with hk | hk
  · have hif : (if 0 < cnt then max dp (pd + vd - 1) else dp) = max dp (pd + vd - 1) := if_pos hk
    refine wp_rs fun K5 hK5 => ?_
    refine s_val hF (x_fa0 fa93_0 rfl) (by decide) fun a hF => ?_
    refine s_val hF (x_load rfl (m_load flat3 (m5.cell (j := 0) rfl))) (by decide) fun a hF => ?_
    refine s_val hF (x_gtr (b := true) (decide_eq_true (by omega)) rfl rfl) (by decide) fun a hF => ?_
    refine s_end (hK5 _ _ ?_)
    refine wp_if hF rfl ?_
    refine wp_region_lit ?_
    refine s_val hF (x_fa0 fa70_1 rfl) (by decide) fun a hF => ?_
    refine s_val hF (x_load rfl (m_load flat3 (m3.cell (j := 1) rfl))) (by decide) fun a hF => ?_
    refine s_val hF (x_fa0 fa93_1 rfl) (by decide) fun a hF => ?_
    refine s_val hF (x_load rfl (m_load flat3 (m5.cell (j := 1) rfl))) (by decide) fun a hF => ?_
    refine s_val hF (x_fa0 fa70_1 rfl) (by decide) fun a hF => ?_
    refine s_val hF (x_load rfl (m_load flat3 (m4.cell (j := 1) rfl))) (by decide) fun a hF => ?_
    refine s_val hF (x_add (by omega) (by omega) rfl rfl) (by decide) fun a hF => ?_
    refine s_val hF (x_sub (by omega) (by omega) rfl rfl) (by decide) fun a hF => ?_
    refine s_val hF (x_imax rfl rfl) (by decide) fun a hF => ?_
    refine s_val hF (x_fa0 fa70_1 rfl) (by decide) fun a hF => ?_
    refine s_put hF rfl rfl flat3 m7 (by first | (simp; done) | (simp [tc, lc]; done) | decide) rfl fun w14 m7 o15 => ?_
    have so15 := o15.size
    have hB := hB.trans (o15.below (by omega))
    have m3 := m3.only o15 (by omega)
    have m4 := m4.only o15 (by omega)
    have m5 := m5.only o15 (by omega)
    refine s_end (hK3 _ _ ?_)
    refine wp_rs fun K6 hK6 => ?_
    refine s_val hF (x_ldW wide70 m7 rfl rfl) (by decide) fun a hF => ?_
    refine s_callB [_] hF (enters_of Try.func93 (by kernel_rfl) rfl) rfl (by decide) (isIn105 _ _ w14) fun w16 a B17 hF => ?_
    have sB17 := B17.size
    have hB := hB.trans (B17.mono hB.size)
    have m3 := m3.old B17
    have m4 := m4.old B17
    have m5 := m5.old B17
    have m7 := m7.old B17
    refine s_val hF (x_assign rfl) (by decide) fun a hF => ?_
    refine s_end (hK6 _ _ ?_)
    refine wp_ret (res_slot hF rfl rfl ⟨congrArg (fun b => Ending.returned (Value.bool b)) (decide_eq_decide.2 (by unfold holdsP; rw [hif])), hB⟩)
  · have hif : (if 0 < cnt then max dp (pd + vd - 1) else dp) = dp := if_neg hk
    refine wp_rs fun K7 hK7 => ?_
    refine s_val hF (x_fa0 fa93_0 rfl) (by decide) fun a hF => ?_
    refine s_val hF (x_load rfl (m_load flat3 (m5.cell (j := 0) rfl))) (by decide) fun a hF => ?_
    refine s_val hF (x_gtr (b := false) (decide_eq_false (by omega)) rfl rfl) (by decide) fun a hF => ?_
    refine s_end (hK7 _ _ ?_)
    refine wp_if hF rfl ?_
    refine wp_skip (hK3 _ _ ?_)
    refine wp_rs fun K8 hK8 => ?_
    refine s_val hF (x_ldW wide70 m7 rfl rfl) (by decide) fun a hF => ?_
    refine s_callB [_] hF (enters_of Try.func93 (by kernel_rfl) rfl) rfl (by decide) (isIn105 _ _ w12) fun w18 a B19 hF => ?_
    have sB19 := B19.size
    have hB := hB.trans (B19.mono hB.size)
    have m3 := m3.old B19
    have m4 := m4.old B19
    have m5 := m5.old B19
    have m7 := m7.old B19
    refine s_val hF (x_assign rfl) (by decide) fun a hF => ?_
    refine s_end (hK8 _ _ ?_)
    refine wp_ret (res_slot hF rfl rfl ⟨congrArg (fun b => Ending.returned (Value.bool b)) (decide_eq_decide.2 (by unfold holdsP; rw [hif])), hB⟩)

set_option maxRecDepth 100000 in
set_option maxHeartbeats 400000 in
theorem isGreat66 (c : CT) (x : C8) (w0 : World) (hx : RC w0 (fun k => k < w0.heap.size) c x) : Calls Try.prog 55 #[tv x] w0 fun e w' => e = .returned (.bool (decide (¬ c.ok))) ∧ Below w0.heap.size w0 w' := by
  have hB := Below.refl w0.heap.size w0
  have sB := hB.size
  refine calls_fs 12 [(0, tv x)] Try.func55 rfl rfl rfl rfl rfl fun a hF => ?_
  refine wp_rs fun K1 hK1 => ?_
  refine s_box (tc x) hF (by decide) rfl rfl fun w2 b1 a eb1 m1 B3 zb1 hF => ?_
  have sB3 := B3.size
  have hB := hB.trans (B3.mono hB.size)
  refine s_val hF (x_assign rfl) (by decide) fun a hF => ?_
  refine s_end (hK1 _ _ ?_)
  refine wp_rs fun K2 hK2 => ?_
  refine s_val hF (x_ldW wide27 m1 rfl rfl) (by decide) fun a hF => ?_
  refine s_callB [_] hF (enters_of Try.func51 (by kernel_rfl) rfl) rfl (by decide) (measure62 c x w2 (hx.bel hB)) fun w4 a B5 hF => ?_
  have sB5 := B5.size
  have hB := hB.trans (B5.mono hB.size)
  have m1 := m1.old B5
  refine s_val hF (x_move rfl) (by decide) fun a hF => ?_
  refine s_val hF (x_ext rfl rfl) (by decide) fun a hF => ?_
  refine s_val hF (x_ext rfl rfl) (by decide) fun a hF => ?_
  refine s_alloc hF (by decide) zero70 fun w6 b3 a eb3 m3 B7 zb3 hF => ?_
  have sB7 := B7.size
  have hB := hB.trans (B7.mono hB.size)
  have m1 := m1.old B7
  refine s_putW hF rfl rfl (size_wide wide70) m3 rfl (oneII _ _) fun w10 m3 o11 => ?_
  have so11 := o11.size
  have hB := hB.trans (o11.below (by omega))
  have m1 := m1.only o11 (by omega)
  refine s_val hF (x_assign rfl) (by decide) fun a hF => ?_
  refine s_end (hK2 _ _ ?_)
  refine wp_rs fun K3 hK3 => ?_
  refine s_val hF (x_move rfl) (by decide) fun a hF => ?_
  refine s_val hF (x_not rfl) (by decide) fun a hF => ?_
  refine s_val hF (x_assign rfl) (by decide) fun a hF => ?_
  refine s_end (hK3 _ _ ?_)
  refine wp_ret (res_slot hF rfl rfl ⟨by rw [decide_not], hB⟩)

set_option maxRecDepth 100000 in
set_option maxHeartbeats 400000 in
theorem Size33 (c : CT) (x : C8) (w0 : World) (hx : RC w0 (fun k => k < w0.heap.size) c x) : Calls Try.prog 35 #[tv x] w0 fun e w' => e = .returned (.int .i64 (c.mN : Int)) ∧ Below w0.heap.size w0 w' := by
  have hB := Below.refl w0.heap.size w0
  have sB := hB.size
  refine calls_fs 12 [(0, tv x)] Try.func35 rfl rfl rfl rfl rfl fun a hF => ?_
  refine wp_rs fun K1 hK1 => ?_
  refine s_box (tc x) hF (by decide) rfl rfl fun w2 b1 a eb1 m1 B3 zb1 hF => ?_
  have sB3 := B3.size
  have hB := hB.trans (B3.mono hB.size)
  refine s_val hF (x_assign rfl) (by decide) fun a hF => ?_
  refine s_end (hK1 _ _ ?_)
  refine wp_rs fun K2 hK2 => ?_
  refine s_val hF (x_ldW wide27 m1 rfl rfl) (by decide) fun a hF => ?_
  refine s_callB [_] hF (enters_of Try.func51 (by kernel_rfl) rfl) rfl (by decide) (measure62 c x w2 (hx.bel hB)) fun w4 a B5 hF => ?_
  have sB5 := B5.size
  have hB := hB.trans (B5.mono hB.size)
  have m1 := m1.old B5
  refine s_val hF (x_move rfl) (by decide) fun a hF => ?_
  refine s_val hF (x_ext rfl rfl) (by decide) fun a hF => ?_
  refine s_val hF (x_ext rfl rfl) (by decide) fun a hF => ?_
  refine s_alloc hF (by decide) zero70 fun w6 b3 a eb3 m3 B7 zb3 hF => ?_
  have sB7 := B7.size
  have hB := hB.trans (B7.mono hB.size)
  have m1 := m1.old B7
  refine s_putW hF rfl rfl (size_wide wide70) m3 rfl (oneII _ _) fun w10 m3 o11 => ?_
  have so11 := o11.size
  have hB := hB.trans (o11.below (by omega))
  have m1 := m1.only o11 (by omega)
  refine s_val hF (x_assign rfl) (by decide) fun a hF => ?_
  refine s_end (hK2 _ _ ?_)
  refine wp_rs fun K3 hK3 => ?_
  refine s_val hF (x_fa0 fa70_0 rfl) (by decide) fun a hF => ?_
  refine s_val hF (x_load rfl (m_load flat3 (m3.cell (j := 0) rfl))) (by decide) fun a hF => ?_
  refine s_val hF (x_assign rfl) (by decide) fun a hF => ?_
  refine s_end (hK3 _ _ ?_)
  refine wp_ret (res_slot hF rfl rfl ⟨rfl, hB⟩)

set_option maxRecDepth 100000 in
set_option maxHeartbeats 400000 in
theorem applied63 (n dp : Int) (c : CT) (x : C8) (w0 : World) (hx : RC w0 (fun k => k < w0.heap.size) c x) (h1 : 0 ≤ n ∧ n ≤ 100000) (h2 : 0 ≤ dp ∧ dp ≤ 100000) : Calls Try.prog 52 #[.agg [.int .i64 n, .int .i64 dp].toArray, tv x] w0 fun e w' => e = .returned (.tuple #[.agg [.int .i64 (1 + n + c.mN), .int .i64 (1 + max dp c.mD)].toArray, .bool (decide (c.ok ∧ 1 + n + (c.mN : Int) ≤ 20000 ∧ 1 + max dp (c.mD : Int) ≤ 2000))]) ∧ Below w0.heap.size w0 w' := by
  have hmN : c.mN ≤ 20000 := by unfold CT.mN; split; (· rename_i h; exact h.1); omega
  have hmD : c.mD ≤ 2000 := by unfold CT.mD; split; (· rename_i h; exact h.2); omega
  have hB := Below.refl w0.heap.size w0
  have sB := hB.size
  refine calls_fs 33 [(0, .agg [.int .i64 n, .int .i64 dp].toArray), (1, tv x)] Try.func52 rfl rfl rfl rfl rfl fun a hF => ?_
  refine wp_rs fun K1 hK1 => ?_
  refine s_box ([.int .i64 n, .int .i64 dp]) hF (by decide) rfl rfl fun w2 b2 a eb2 m2 B3 zb2 hF => ?_
  have sB3 := B3.size
  have hB := hB.trans (B3.mono hB.size)
  refine s_box (tc x) hF (by decide) rfl rfl fun w4 b3 a eb3 m3 B5 zb3 hF => ?_
  have sB5 := B5.size
  have hB := hB.trans (B5.mono hB.size)
  have m2 := m2.old B5
  refine s_alloc hF (by decide) zero70 fun w6 b4 a eb4 m4 B7 zb4 hF => ?_
  have sB7 := B7.size
  have hB := hB.trans (B7.mono hB.size)
  have m2 := m2.old B7
  have m3 := m3.old B7
  refine s_val hF (x_assign rfl) (by decide) fun a hF => ?_
  refine s_end (hK1 _ _ ?_)
  refine wp_rs fun K2 hK2 => ?_
  refine s_val hF (x_ldW wide27 m3 rfl rfl) (by decide) fun a hF => ?_
  refine s_callB [_] hF (enters_of Try.func51 (by kernel_rfl) rfl) rfl (by decide) (measure62 c x w6 (hx.bel hB)) fun w8 a B9 hF => ?_
  have sB9 := B9.size
  have hB := hB.trans (B9.mono hB.size)
  have m2 := m2.old B9
  have m3 := m3.old B9
  have m4 := m4.old B9
  refine s_val hF (x_move rfl) (by decide) fun a hF => ?_
  refine s_val hF (x_ext rfl rfl) (by decide) fun a hF => ?_
  refine s_val hF (x_ext rfl rfl) (by decide) fun a hF => ?_
  refine s_alloc hF (by decide) zero70 fun w10 b6 a eb6 m6 B11 zb6 hF => ?_
  have sB11 := B11.size
  have hB := hB.trans (B11.mono hB.size)
  have m2 := m2.old B11
  have m3 := m3.old B11
  have m4 := m4.old B11
  refine s_putW hF rfl rfl (size_wide wide70) m6 rfl (oneII _ _) fun w14 m6 o15 => ?_
  have so15 := o15.size
  have hB := hB.trans (o15.below (by omega))
  have m2 := m2.only o15 (by omega)
  have m3 := m3.only o15 (by omega)
  have m4 := m4.only o15 (by omega)
  refine s_val hF (x_assign rfl) (by decide) fun a hF => ?_
  refine s_end (hK2 _ _ ?_)
  refine wp_rs fun K3 hK3 => ?_
  refine s_val hF (x_fa0 fa70_0 rfl) (by decide) fun a hF => ?_
  refine s_val hF (x_load rfl (m_load flat3 (m2.cell (j := 0) rfl))) (by decide) fun a hF => ?_
  refine s_val hF (x_add (by omega) (by omega) rfl rfl) (by decide) fun a hF => ?_
  refine s_val hF (x_fa0 fa70_0 rfl) (by decide) fun a hF => ?_
  refine s_val hF (x_load rfl (m_load flat3 (m6.cell (j := 0) rfl))) (by decide) fun a hF => ?_
  refine s_val hF (x_add (by omega) (by omega) rfl rfl) (by decide) fun a hF => ?_
  refine s_val hF (x_fa0 fa70_1 rfl) (by decide) fun a hF => ?_
  refine s_val hF (x_load rfl (m_load flat3 (m2.cell (j := 1) rfl))) (by decide) fun a hF => ?_
  refine s_val hF (x_fa0 fa70_1 rfl) (by decide) fun a hF => ?_
  refine s_val hF (x_load rfl (m_load flat3 (m6.cell (j := 1) rfl))) (by decide) fun a hF => ?_
  refine s_val hF (x_imax rfl rfl) (by decide) fun a hF => ?_
  refine s_val hF (x_add (by omega) (by omega) rfl rfl) (by decide) fun a hF => ?_
  refine s_val hF (x_build (vs := [(0, _), (1, _)]) rfl (b70_01 _ _ _)) (by decide) fun a hF => ?_
  refine s_alloc hF (by decide) zero70 fun w16 b8 a eb8 m8 B17 zb8 hF => ?_
  have sB17 := B17.size
  have hB := hB.trans (B17.mono hB.size)
  have m2 := m2.old B17
  have m3 := m3.old B17
  have m4 := m4.old B17
  have m6 := m6.old B17
  refine s_putW hF rfl rfl (size_wide wide70) m8 rfl (oneII _ _) fun w20 m8 o21 => ?_
  have so21 := o21.size
  have hB := hB.trans (o21.below (by omega))
  have m2 := m2.only o21 (by omega)
  have m3 := m3.only o21 (by omega)
  have m4 := m4.only o21 (by omega)
  have m6 := m6.only o21 (by omega)
  refine s_end (hK3 _ _ ?_)
  by_cases hk : c.ok
  · rw [decide_eq_true hk] at hF
    refine dk2_seq (b4) (b4) (ops := regOps Try.f52 3) (N := 8) (by kernel_rfl) wide_orders (by kernel_rfl) fun w22 hw22 B23 hS K5 hK5 => ?_
    have zw22 : w22.heap.size = w20.heap.size := by rw [hw22]
    have sB23 := B23.size
    have hB := hB.trans (B23.mono hB.size)
    have m2 := m2.old B23
    have m3 := m3.old B23
    have m4 := m4.old B23
    have m6 := m6.old B23
    have m8 := m8.old B23
    have m2_d := m2
    have m3_d := m3
    have m4_d := m4
    have m6_d := m6
    have m8_d := m8
    have hB_d := hB
    refine d_val 0 27 (op := (Go.Op.load 67 (Go.Operand.tmp 8))) hF hS (by kernel_rfl) (fun W hW => x_ldW wide70 (m8_d.k2 hW (by omega)) rfl rfl) (by kernel_rfl) (by decide) fun a hF => ?_
    refine d_val 1 28 (op := (Go.Op.move (Go.Operand.tmp 7))) hF hS (by kernel_rfl) (fun W hW => x_move rfl) (by kernel_rfl) (by decide) fun a hF => ?_
    refine d_val 2 29 (op := (Go.Op.move (Go.Operand.tmp 28))) hF hS (by kernel_rfl) (fun W hW => x_move rfl) (by kernel_rfl) (by decide) fun a hF => ?_
    refine d_valg 3 30 29 (j := 2) (want := true) (op := (Go.Op.load 67 (Go.Operand.tmp 8))) hF hS (by kernel_rfl) (by kernel_rfl) rfl (fun W hW => x_ldW wide70 (m8_d.k2 hW (by omega)) rfl rfl) (by kernel_rfl) (by decide) fun a hF => ?_
    refine d_oneg 4 29 (some 31) (Go.Op.call (Go.Call.mk (Go.Callee.value (Go.Operand.func 93)) #[(Go.Operand.tmp 30)] #[67])) (j := 2) (want := true) hF (by kernel_rfl) (by kernel_rfl) (by kernel_rfl) rfl fun ty pos af => ?_
    refine s_callB [_] hF (enters_of Try.func93 (by kernel_rfl) rfl) rfl (by decide) (isIn105 _ _ w22) fun w24 a B25 hF => ?_
    have sB25 := B25.size
    have hB := hB.trans (B25.mono hB.size)
    have m2 := m2.old B25
    have m3 := m3.old B25
    have m4 := m4.old B25
    have m6 := m6.old B25
    have m8 := m8.old B25
    have hS := hS.below B25
    refine s_end ⟨hS, ?_⟩
    refine d_val 5 32 (op := (Go.Op.pick (Go.Operand.tmp 29) (Go.Operand.tmp 31) (Go.Operand.const (Go.Value.bool false)))) hF hS (by kernel_rfl) (fun W hW => x_pick (b := true) rfl rfl) (by kernel_rfl) (by decide) fun a hF => ?_
    refine d_one 6 none (Go.Op.store 67 (Go.Operand.tmp 4) (Go.Operand.tmp 27)) (by kernel_rfl) (by kernel_rfl) fun ty pos af => ?_
    refine s_putW hF rfl rfl (size_wide wide70) m4 rfl (oneII _ _) fun w28 m4 o29 => ?_
    have so29 := o29.size
    have hB := hB.trans (o29.below (by omega))
    have m2 := m2.only o29 (by omega)
    have m3 := m3.only o29 (by omega)
    have m6 := m6.only o29 (by omega)
    have m8 := m8.only o29 (by omega)
    have hS := hS.only o29 (by omega)
    refine s_end ⟨hS, ?_⟩
    refine d_val 7 5 (op := (Go.Op.assign (Go.Operand.tmp 32))) hF hS (by kernel_rfl) (fun W hW => x_assign rfl) (by kernel_rfl) (by decide) fun a hF => ?_
    refine d_end (by kernel_rfl) (hK5 _ _ ?_)
    refine wp_ret (res_ct (cs := [_, _]) hF rfl rfl m4 wide70 rfl ⟨by simp only [hk, true_and], hB⟩)
  · rw [decide_eq_false hk] at hF
    refine dk2_seq (b4) (b4) (ops := regOps Try.f52 3) (N := 8) (by kernel_rfl) wide_orders (by kernel_rfl) fun w30 hw30 B31 hS K6 hK6 => ?_
    have zw30 : w30.heap.size = w20.heap.size := by rw [hw30]
    have sB31 := B31.size
    have hB := hB.trans (B31.mono hB.size)
    have m2 := m2.old B31
    have m3 := m3.old B31
    have m4 := m4.old B31
    have m6 := m6.old B31
    have m8 := m8.old B31
    have m2_d := m2
    have m3_d := m3
    have m4_d := m4
    have m6_d := m6
    have m8_d := m8
    have hB_d := hB
    refine d_val 0 27 (op := (Go.Op.load 67 (Go.Operand.tmp 8))) hF hS (by kernel_rfl) (fun W hW => x_ldW wide70 (m8_d.k2 hW (by omega)) rfl rfl) (by kernel_rfl) (by decide) fun a hF => ?_
    refine d_val 1 28 (op := (Go.Op.move (Go.Operand.tmp 7))) hF hS (by kernel_rfl) (fun W hW => x_move rfl) (by kernel_rfl) (by decide) fun a hF => ?_
    refine d_val 2 29 (op := (Go.Op.move (Go.Operand.tmp 28))) hF hS (by kernel_rfl) (fun W hW => x_move rfl) (by kernel_rfl) (by decide) fun a hF => ?_
    refine d_skip 3 30 29 (j := 2) (want := true) (op := (Go.Op.load 67 (Go.Operand.tmp 8))) hF hS (by kernel_rfl) (by kernel_rfl) rfl (by kernel_rfl) (by decide) fun a hF => ?_
    refine d_skip 4 31 29 (j := 2) (want := true) (op := (Go.Op.call (Go.Call.mk (Go.Callee.value (Go.Operand.func 93)) #[(Go.Operand.tmp 30)] #[67]))) hF hS (by kernel_rfl) (by kernel_rfl) rfl (by kernel_rfl) (by decide) fun a hF => ?_
    refine d_val 5 32 (op := (Go.Op.pick (Go.Operand.tmp 29) (Go.Operand.tmp 31) (Go.Operand.const (Go.Value.bool false)))) hF hS (by kernel_rfl) (fun W hW => x_pick (b := false) rfl rfl) (by kernel_rfl) (by decide) fun a hF => ?_
    refine d_one 6 none (Go.Op.store 67 (Go.Operand.tmp 4) (Go.Operand.tmp 27)) (by kernel_rfl) (by kernel_rfl) fun ty pos af => ?_
    refine s_putW hF rfl rfl (size_wide wide70) m4 rfl (oneII _ _) fun w34 m4 o35 => ?_
    have so35 := o35.size
    have hB := hB.trans (o35.below (by omega))
    have m2 := m2.only o35 (by omega)
    have m3 := m3.only o35 (by omega)
    have m6 := m6.only o35 (by omega)
    have m8 := m8.only o35 (by omega)
    have hS := hS.only o35 (by omega)
    refine s_end ⟨hS, ?_⟩
    refine d_val 7 5 (op := (Go.Op.assign (Go.Operand.tmp 32))) hF hS (by kernel_rfl) (fun W hW => x_assign rfl) (by kernel_rfl) (by decide) fun a hF => ?_
    refine d_end (by kernel_rfl) (hK6 _ _ ?_)
    refine wp_ret (res_ct (cs := [_, _]) hF rfl rfl m4 wide70 rfl ⟨by rw [decide_eq_false (fun h => hk h.1)], hB⟩)
end Go.Proofs.Ytaclncmkdpjnlaa

namespace Go.Proofs.Ytaclncmkdpjnlaa
open Go.RowKit Go.Shelf
set_option linter.unusedVariables false
set_option linter.unusedSimpArgs false

/-- x reads as a term that says p. -/
def RT (W : World) (p : PT) (x : C8) : Prop := RE W (fun k => k < W.heap.size) p x
theorem RE.rt {W : World} {A : Nat → Prop} {p : PT} {x : C8} (h : RE W A p x) : RT W p x := h.valid.mono (fun k hk => hk.2)
theorem RT.below {W W' : World} {p : PT} {x : C8} (h : RT W p x) (hB : Below W.heap.size W W') : RT W' p x := (RE.below h hB).rt
theorem RE_bare (W : World) (A : Nat → Prop) : RE W A (.odd 0) ⟨0, 0, emptyB, (0, 0, nilS), nilS, nilS⟩ := RE_odd (by left; simp [arT]) (RKE.nil W A)
theorem holds83q (n dp vn vd : Int) (q : Int × Int) (w0 : World) (h1 : 0 ≤ n ∧ n ≤ 20000) (h2 : 0 ≤ dp ∧ dp ≤ 20000) (h3 : 0 ≤ vn ∧ vn ≤ 20000) (h4 : 0 ≤ vd ∧ vd ≤ 20000) (h5 : 0 ≤ q.1 ∧ q.1 ≤ 20000) (h6 : 0 ≤ q.2 ∧ q.2 ≤ 20000) :
    Calls Try.prog 64 #[.agg [.int .i64 n, .int .i64 dp].toArray, .agg [.int .i64 vn, .int .i64 vd].toArray, .agg (enc2 q).toArray] w0 fun e w' => e = .returned (.bool (decide (holdsP n dp vn vd q.1 q.2))) ∧ Below w0.heap.size w0 w' := by
  obtain ⟨cnt, pd⟩ := q
  exact holds83 n dp vn vd cnt pd w0 h1 h2 h3 h4 h5 h6
def PT.inst (t v : PT) : PT := if t.ok ∧ v.ok ∧ (PT.put v t 0).ok then PT.put v t 0 else .odd 0
def cut20 (b : Int) : Int := min (max b (-1048576)) 1048576
def PT.Lift (t : PT) (f b : Int) : PT := if t.ok then t.lift (max f 0) (cut20 b) 0 else .odd 0

set_option maxRecDepth 100000 in
set_option maxHeartbeats 1600000 in
theorem Inst42t (A : Nat → Prop) (c v : CT) (x y : C8) (w0 : World) (hA : ∀ k, A k → k < w0.heap.size) (hxA : RC w0 A c x) (hvA : RC w0 A v y) : Calls Try.prog 29 #[tv x, tv y] w0 fun e w' => ∃ u, e = .returned u ∧ (∃ y, u = tv y ∧ RE w' (AS A w0.heap.size) (PT.inst c.ess v.ess) y ∧ (c.ok ∧ v.ok ∧ (PT.put v.ess c.ess 0).ok → Tt c y)) ∧ Below w0.heap.size w0 w' := by
  have hx := hxA.mono hA
  have hv := hvA.mono hA
  have hin : c.ok ∧ v.ok ∧ (PT.put v.ess c.ess 0).ok → PT.inst c.ess v.ess = PT.put v.ess c.ess 0 := fun h => if_pos ⟨c.ok_ess.2 h.1, v.ok_ess.2 h.2.1, h.2.2⟩
  have hno : ¬ (c.ok ∧ v.ok ∧ (PT.put v.ess c.ess 0).ok) → PT.inst c.ess v.ess = .odd 0 := fun h => if_neg (fun h' => h ⟨c.ok_ess.1 h'.1, v.ok_ess.1 h'.2.1, h'.2.2⟩)
  obtain ⟨q, hq⟩ : ∃ q, q = c.fold Gpl 0 := ⟨_, rfl⟩
  have hg := Gpl_rng c 0
  have hh := holdsP_iff (c := c) (v := v)
  rw [← hq] at hg hh
  have hcd := c.dep_pos
  have hvd := v.dep_pos
  have hB := Below.refl w0.heap.size w0
  have sB := hB.size
  refine calls_fs 38 [(0, tv x), (1, tv y)] Try.func29 rfl rfl rfl rfl rfl fun a hF => ?_
  refine wp_rs fun K1 hK1 => ?_
  refine s_box (tc x) hF (by decide) rfl rfl fun w2 b2 a eb2 m2 B3 zb2 hF => ?_
  have sB3 := B3.size
  have hB := hB.trans (B3.mono hB.size)
  refine s_box (tc y) hF (by decide) rfl rfl fun w4 b3 a eb3 m3 B5 zb3 hF => ?_
  have sB5 := B5.size
  have hB := hB.trans (B5.mono hB.size)
  have m2 := m2.old B5
  refine s_alloc hF (by decide) zero27 fun w6 b4 a eb4 m4 B7 zb4 hF => ?_
  have sB7 := B7.size
  have hB := hB.trans (B7.mono hB.size)
  have m2 := m2.old B7
  have m3 := m3.old B7
  refine s_end (hK1 _ _ ?_)
  refine wp_rs fun K2 hK2 => ?_
  refine s_val hF (x_ldW wide27 m2 rfl rfl) (by decide) fun a hF => ?_
  refine s_callB [_] hF (enters_of Try.func51 (by kernel_rfl) rfl) rfl (by decide) (measure62 c x w6 (hx.bel hB)) fun w8 a B9 hF => ?_
  have sB9 := B9.size
  have hB := hB.trans (B9.mono hB.size)
  have m2 := m2.old B9
  have m3 := m3.old B9
  have m4 := m4.old B9
  refine s_val hF (x_move rfl) (by decide) fun a hF => ?_
  refine s_val hF (x_ext rfl rfl) (by decide) fun a hF => ?_
  refine s_val hF (x_ext rfl rfl) (by decide) fun a hF => ?_
  refine s_alloc hF (by decide) zero70 fun w10 b5 a eb5 m5 B11 zb5 hF => ?_
  have sB11 := B11.size
  have hB := hB.trans (B11.mono hB.size)
  have m2 := m2.old B11
  have m3 := m3.old B11
  have m4 := m4.old B11
  refine s_putW hF rfl rfl (size_wide wide70) m5 rfl (oneII _ _) fun w14 m5 o15 => ?_
  have so15 := o15.size
  have hB := hB.trans (o15.below (by omega))
  have m2 := m2.only o15 (by omega)
  have m3 := m3.only o15 (by omega)
  have m4 := m4.only o15 (by omega)
  refine s_val hF (x_assign rfl) (by decide) fun a hF => ?_
  refine s_end (hK2 _ _ ?_)
  refine wp_rs fun K3 hK3 => ?_
  refine s_val hF (x_ldW wide27 m3 rfl rfl) (by decide) fun a hF => ?_
  refine s_callB [_] hF (enters_of Try.func51 (by kernel_rfl) rfl) rfl (by decide) (measure62 v y w14 (hv.bel hB)) fun w16 a B17 hF => ?_
  have sB17 := B17.size
  have hB := hB.trans (B17.mono hB.size)
  have m2 := m2.old B17
  have m3 := m3.old B17
  have m4 := m4.old B17
  have m5 := m5.old B17
  refine s_val hF (x_move rfl) (by decide) fun a hF => ?_
  refine s_val hF (x_ext rfl rfl) (by decide) fun a hF => ?_
  refine s_val hF (x_ext rfl rfl) (by decide) fun a hF => ?_
  refine s_alloc hF (by decide) zero70 fun w18 b7 a eb7 m7 B19 zb7 hF => ?_
  have sB19 := B19.size
  have hB := hB.trans (B19.mono hB.size)
  have m2 := m2.old B19
  have m3 := m3.old B19
  have m4 := m4.old B19
  have m5 := m5.old B19
  refine s_putW hF rfl rfl (size_wide wide70) m7 rfl (oneII _ _) fun w22 m7 o23 => ?_
  have so23 := o23.size
  have hB := hB.trans (o23.below (by omega))
  have m2 := m2.only o23 (by omega)
  have m3 := m3.only o23 (by omega)
  have m4 := m4.only o23 (by omega)
  have m5 := m5.only o23 (by omega)
  refine s_val hF (x_assign rfl) (by decide) fun a hF => ?_
  refine s_end (hK3 _ _ ?_)
  refine wp_seq_k fun K4 hK4 => ?_
  rcases (show ¬ c.ok ∨ (c.ok ∧ ¬ v.ok) ∨ (c.ok ∧ v.ok ∧ (PT.put v.ess c.ess 0).ok) ∨ (c.ok ∧ v.ok ∧ ¬ (PT.put v.ess c.ess 0).ok) by by_cases h1 : c.ok <;> by_cases h2 : v.ok <;> by_cases h3 : (PT.put v.ess c.ess 0).ok <;> simp [h1, h2, h3]) with hk1 | ⟨hk1, hk2⟩ | ⟨hk1, hk2, hk3⟩ | ⟨hk1, hk2, hk3⟩
  · rw [decide_eq_false hk1] at hF
    refine dk2_seq (b4) (b4) (ops := regOps Try.f29 3) (N := 14) (by kernel_rfl) wide_orders (by kernel_rfl) fun w24 hw24 B25 hS K6 hK6 => ?_
    have zw24 : w24.heap.size = w22.heap.size := by rw [hw24]
    have sB25 := B25.size
    have hB := hB.trans (B25.mono hB.size)
    have m2 := m2.old B25
    have m3 := m3.old B25
    have m4 := m4.old B25
    have m5 := m5.old B25
    have m7 := m7.old B25
    have m2_d := m2
    have m3_d := m3
    have m4_d := m4
    have m5_d := m5
    have m7_d := m7
    have hB_d := hB
    refine d_val 0 19 (op := (Go.Op.move (Go.Operand.tmp 6))) hF hS (by kernel_rfl) (fun W hW => x_move rfl) (by kernel_rfl) (by decide) fun a hF => ?_
    refine d_val 1 20 (op := (Go.Op.unOp Go.UnOp.not 4 (Go.Operand.tmp 19))) hF hS (by kernel_rfl) (fun W hW => x_not rfl) (by kernel_rfl) (by decide) fun a hF => ?_
    refine d_val 2 21 (op := (Go.Op.move (Go.Operand.tmp 20))) hF hS (by kernel_rfl) (fun W hW => x_move rfl) (by kernel_rfl) (by decide) fun a hF => ?_
    refine d_skip 3 22 21 (j := 2) (want := false) (op := (Go.Op.move (Go.Operand.tmp 8))) hF hS (by kernel_rfl) (by kernel_rfl) rfl (by kernel_rfl) (by decide) fun a hF => ?_
    refine d_skip 4 23 21 (j := 2) (want := false) (op := (Go.Op.unOp Go.UnOp.not 4 (Go.Operand.tmp 22))) hF hS (by kernel_rfl) (by kernel_rfl) rfl (by kernel_rfl) (by decide) fun a hF => ?_
    refine d_val 5 24 (op := (Go.Op.pick (Go.Operand.tmp 21) (Go.Operand.const (Go.Value.bool true)) (Go.Operand.tmp 23))) hF hS (by kernel_rfl) (fun W hW => x_pick (b := true) rfl rfl) (by kernel_rfl) (by decide) fun a hF => ?_
    refine d_val 6 25 (op := (Go.Op.move (Go.Operand.tmp 24))) hF hS (by kernel_rfl) (fun W hW => x_move rfl) (by kernel_rfl) (by decide) fun a hF => ?_
    refine d_skip 7 26 25 (j := 6) (want := false) (op := (Go.Op.load 67 (Go.Operand.tmp 5))) hF hS (by kernel_rfl) (by kernel_rfl) rfl (by kernel_rfl) (by decide) fun a hF => ?_
    refine d_skip 8 27 25 (j := 6) (want := false) (op := (Go.Op.load 67 (Go.Operand.tmp 7))) hF hS (by kernel_rfl) (by kernel_rfl) rfl (by kernel_rfl) (by decide) fun a hF => ?_
    refine d_skip 9 28 25 (j := 6) (want := false) (op := (Go.Op.load 27 (Go.Operand.tmp 2))) hF hS (by kernel_rfl) (by kernel_rfl) rfl (by kernel_rfl) (by decide) fun a hF => ?_
    refine d_skip 10 29 25 (j := 6) (want := false) (op := (Go.Op.call (Go.Call.mk (Go.Callee.value (Go.Operand.func 65)) #[(Go.Operand.tmp 28)] #[27]))) hF hS (by kernel_rfl) (by kernel_rfl) rfl (by kernel_rfl) (by decide) fun a hF => ?_
    refine d_skip 11 30 25 (j := 6) (want := false) (op := (Go.Op.call (Go.Call.mk (Go.Callee.value (Go.Operand.func 64)) #[(Go.Operand.tmp 26), (Go.Operand.tmp 27), (Go.Operand.tmp 29)] #[67, 67, 81]))) hF hS (by kernel_rfl) (by kernel_rfl) rfl (by kernel_rfl) (by decide) fun a hF => ?_
    refine d_skip 12 31 25 (j := 6) (want := false) (op := (Go.Op.unOp Go.UnOp.not 4 (Go.Operand.tmp 30))) hF hS (by kernel_rfl) (by kernel_rfl) rfl (by kernel_rfl) (by decide) fun a hF => ?_
    refine d_val 13 32 (op := (Go.Op.pick (Go.Operand.tmp 25) (Go.Operand.const (Go.Value.bool true)) (Go.Operand.tmp 31))) hF hS (by kernel_rfl) (fun W hW => x_pick (b := true) rfl rfl) (by kernel_rfl) (by decide) fun a hF => ?_
    refine d_end (by kernel_rfl) (hK6 _ _ ?_)
    refine wp_if hF rfl ?_
    refine wp_rs fun K7 hK7 => ?_
    refine s_val hF (x_build (vs := []) rfl (b27_ _)) (by decide) fun a hF => ?_
    refine s_putW hF rfl rfl (size_wide wide27) m4 rfl one8 fun w28 m4 o29 => ?_
    have so29 := o29.size
    have hB := hB.trans (o29.below (by omega))
    have m2 := m2.only o29 (by omega)
    have m3 := m3.only o29 (by omega)
    have m5 := m5.only o29 (by omega)
    have m7 := m7.only o29 (by omega)
    refine s_end (hK7 _ _ ?_)
    refine wp_ret (then_ret (res_cell hF rfl rfl m4 wide27 ⟨_, rfl, ⟨⟨0, 0, emptyB, (0, 0, nilS), nilS, nilS⟩, rfl, by rw [hno (fun h => hk1 h.1)]; exact RE_bare _ _, fun h => absurd h (fun h => hk1 h.1)⟩, hB⟩))
  · rw [decide_eq_true hk1, decide_eq_false hk2] at hF
    refine dk2_seq (b4) (b4) (ops := regOps Try.f29 3) (N := 14) (by kernel_rfl) wide_orders (by kernel_rfl) fun w30 hw30 B31 hS K8 hK8 => ?_
    have zw30 : w30.heap.size = w22.heap.size := by rw [hw30]
    have sB31 := B31.size
    have hB := hB.trans (B31.mono hB.size)
    have m2 := m2.old B31
    have m3 := m3.old B31
    have m4 := m4.old B31
    have m5 := m5.old B31
    have m7 := m7.old B31
    have m2_d := m2
    have m3_d := m3
    have m4_d := m4
    have m5_d := m5
    have m7_d := m7
    have hB_d := hB
    refine d_val 0 19 (op := (Go.Op.move (Go.Operand.tmp 6))) hF hS (by kernel_rfl) (fun W hW => x_move rfl) (by kernel_rfl) (by decide) fun a hF => ?_
    refine d_val 1 20 (op := (Go.Op.unOp Go.UnOp.not 4 (Go.Operand.tmp 19))) hF hS (by kernel_rfl) (fun W hW => x_not rfl) (by kernel_rfl) (by decide) fun a hF => ?_
    refine d_val 2 21 (op := (Go.Op.move (Go.Operand.tmp 20))) hF hS (by kernel_rfl) (fun W hW => x_move rfl) (by kernel_rfl) (by decide) fun a hF => ?_
    refine d_valg 3 22 21 (j := 2) (want := false) (op := (Go.Op.move (Go.Operand.tmp 8))) hF hS (by kernel_rfl) (by kernel_rfl) rfl (fun W hW => x_move rfl) (by kernel_rfl) (by decide) fun a hF => ?_
    refine d_valg 4 23 21 (j := 2) (want := false) (op := (Go.Op.unOp Go.UnOp.not 4 (Go.Operand.tmp 22))) hF hS (by kernel_rfl) (by kernel_rfl) rfl (fun W hW => x_not rfl) (by kernel_rfl) (by decide) fun a hF => ?_
    refine d_val 5 24 (op := (Go.Op.pick (Go.Operand.tmp 21) (Go.Operand.const (Go.Value.bool true)) (Go.Operand.tmp 23))) hF hS (by kernel_rfl) (fun W hW => x_pick (b := false) rfl rfl) (by kernel_rfl) (by decide) fun a hF => ?_
    refine d_val 6 25 (op := (Go.Op.move (Go.Operand.tmp 24))) hF hS (by kernel_rfl) (fun W hW => x_move rfl) (by kernel_rfl) (by decide) fun a hF => ?_
    refine d_skip 7 26 25 (j := 6) (want := false) (op := (Go.Op.load 67 (Go.Operand.tmp 5))) hF hS (by kernel_rfl) (by kernel_rfl) rfl (by kernel_rfl) (by decide) fun a hF => ?_
    refine d_skip 8 27 25 (j := 6) (want := false) (op := (Go.Op.load 67 (Go.Operand.tmp 7))) hF hS (by kernel_rfl) (by kernel_rfl) rfl (by kernel_rfl) (by decide) fun a hF => ?_
    refine d_skip 9 28 25 (j := 6) (want := false) (op := (Go.Op.load 27 (Go.Operand.tmp 2))) hF hS (by kernel_rfl) (by kernel_rfl) rfl (by kernel_rfl) (by decide) fun a hF => ?_
    refine d_skip 10 29 25 (j := 6) (want := false) (op := (Go.Op.call (Go.Call.mk (Go.Callee.value (Go.Operand.func 65)) #[(Go.Operand.tmp 28)] #[27]))) hF hS (by kernel_rfl) (by kernel_rfl) rfl (by kernel_rfl) (by decide) fun a hF => ?_
    refine d_skip 11 30 25 (j := 6) (want := false) (op := (Go.Op.call (Go.Call.mk (Go.Callee.value (Go.Operand.func 64)) #[(Go.Operand.tmp 26), (Go.Operand.tmp 27), (Go.Operand.tmp 29)] #[67, 67, 81]))) hF hS (by kernel_rfl) (by kernel_rfl) rfl (by kernel_rfl) (by decide) fun a hF => ?_
    refine d_skip 12 31 25 (j := 6) (want := false) (op := (Go.Op.unOp Go.UnOp.not 4 (Go.Operand.tmp 30))) hF hS (by kernel_rfl) (by kernel_rfl) rfl (by kernel_rfl) (by decide) fun a hF => ?_
    refine d_val 13 32 (op := (Go.Op.pick (Go.Operand.tmp 25) (Go.Operand.const (Go.Value.bool true)) (Go.Operand.tmp 31))) hF hS (by kernel_rfl) (fun W hW => x_pick (b := true) rfl rfl) (by kernel_rfl) (by decide) fun a hF => ?_
    refine d_end (by kernel_rfl) (hK8 _ _ ?_)
    refine wp_if hF rfl ?_
    refine wp_rs fun K9 hK9 => ?_
    refine s_val hF (x_build (vs := []) rfl (b27_ _)) (by decide) fun a hF => ?_
    refine s_putW hF rfl rfl (size_wide wide27) m4 rfl one8 fun w34 m4 o35 => ?_
    have so35 := o35.size
    have hB := hB.trans (o35.below (by omega))
    have m2 := m2.only o35 (by omega)
    have m3 := m3.only o35 (by omega)
    have m5 := m5.only o35 (by omega)
    have m7 := m7.only o35 (by omega)
    refine s_end (hK9 _ _ ?_)
    refine wp_ret (then_ret (res_cell hF rfl rfl m4 wide27 ⟨_, rfl, ⟨⟨0, 0, emptyB, (0, 0, nilS), nilS, nilS⟩, rfl, by rw [hno (fun h => hk2 h.2.1)]; exact RE_bare _ _, fun h => absurd h (fun h => hk2 h.2.1)⟩, hB⟩))
  · rw [decide_eq_true hk1, decide_eq_true hk2] at hF
    rw [show c.mN = c.size from if_pos hk1, show c.mD = c.dep from if_pos hk1] at m5
    rw [show v.mN = v.size from if_pos hk2, show v.mD = v.dep from if_pos hk2] at m7
    have hk3b := decide_eq_true (hh.2 hk3)
    refine dk2_seq (b4) (b4) (ops := regOps Try.f29 3) (N := 14) (by kernel_rfl) wide_orders (by kernel_rfl) fun w36 hw36 B37 hS K10 hK10 => ?_
    have zw36 : w36.heap.size = w22.heap.size := by rw [hw36]
    have sB37 := B37.size
    have hB := hB.trans (B37.mono hB.size)
    have m2 := m2.old B37
    have m3 := m3.old B37
    have m4 := m4.old B37
    have m5 := m5.old B37
    have m7 := m7.old B37
    have m2_d := m2
    have m3_d := m3
    have m4_d := m4
    have m5_d := m5
    have m7_d := m7
    have hB_d := hB
    refine d_val 0 19 (op := (Go.Op.move (Go.Operand.tmp 6))) hF hS (by kernel_rfl) (fun W hW => x_move rfl) (by kernel_rfl) (by decide) fun a hF => ?_
    refine d_val 1 20 (op := (Go.Op.unOp Go.UnOp.not 4 (Go.Operand.tmp 19))) hF hS (by kernel_rfl) (fun W hW => x_not rfl) (by kernel_rfl) (by decide) fun a hF => ?_
    refine d_val 2 21 (op := (Go.Op.move (Go.Operand.tmp 20))) hF hS (by kernel_rfl) (fun W hW => x_move rfl) (by kernel_rfl) (by decide) fun a hF => ?_
    refine d_valg 3 22 21 (j := 2) (want := false) (op := (Go.Op.move (Go.Operand.tmp 8))) hF hS (by kernel_rfl) (by kernel_rfl) rfl (fun W hW => x_move rfl) (by kernel_rfl) (by decide) fun a hF => ?_
    refine d_valg 4 23 21 (j := 2) (want := false) (op := (Go.Op.unOp Go.UnOp.not 4 (Go.Operand.tmp 22))) hF hS (by kernel_rfl) (by kernel_rfl) rfl (fun W hW => x_not rfl) (by kernel_rfl) (by decide) fun a hF => ?_
    refine d_val 5 24 (op := (Go.Op.pick (Go.Operand.tmp 21) (Go.Operand.const (Go.Value.bool true)) (Go.Operand.tmp 23))) hF hS (by kernel_rfl) (fun W hW => x_pick (b := false) rfl rfl) (by kernel_rfl) (by decide) fun a hF => ?_
    refine d_val 6 25 (op := (Go.Op.move (Go.Operand.tmp 24))) hF hS (by kernel_rfl) (fun W hW => x_move rfl) (by kernel_rfl) (by decide) fun a hF => ?_
    refine d_valg 7 26 25 (j := 6) (want := false) (op := (Go.Op.load 67 (Go.Operand.tmp 5))) hF hS (by kernel_rfl) (by kernel_rfl) rfl (fun W hW => x_ldW wide70 (m5_d.k2 hW (by omega)) rfl rfl) (by kernel_rfl) (by decide) fun a hF => ?_
    refine d_valg 8 27 25 (j := 6) (want := false) (op := (Go.Op.load 67 (Go.Operand.tmp 7))) hF hS (by kernel_rfl) (by kernel_rfl) rfl (fun W hW => x_ldW wide70 (m7_d.k2 hW (by omega)) rfl rfl) (by kernel_rfl) (by decide) fun a hF => ?_
    refine d_valg 9 28 25 (j := 6) (want := false) (op := (Go.Op.load 27 (Go.Operand.tmp 2))) hF hS (by kernel_rfl) (by kernel_rfl) rfl (fun W hW => x_ldW wide27 (m2_d.k2 hW (by omega)) rfl rfl) (by kernel_rfl) (by decide) fun a hF => ?_
    refine d_oneg 10 25 (some 29) (Go.Op.call (Go.Call.mk (Go.Callee.value (Go.Operand.func 65)) #[(Go.Operand.tmp 28)] #[27])) (j := 6) (want := false) hF (by kernel_rfl) (by kernel_rfl) (by kernel_rfl) rfl fun ty pos af => ?_
    refine s_callB [_] hF (enters_of Try.func65 (by kernel_rfl) rfl) rfl (by decide) ((placesOf84 c x w36 (hx.bel hB) hk1).mono fun e w' h => ⟨by rw [h.1, ← hq], h.2⟩) fun w38 a B39 hF => ?_
    have sB39 := B39.size
    have hB := hB.trans (B39.mono hB.size)
    have m2 := m2.old B39
    have m3 := m3.old B39
    have m4 := m4.old B39
    have m5 := m5.old B39
    have m7 := m7.old B39
    have hS := hS.below B39
    refine s_end ⟨hS, ?_⟩
    refine d_oneg 11 25 (some 30) (Go.Op.call (Go.Call.mk (Go.Callee.value (Go.Operand.func 64)) #[(Go.Operand.tmp 26), (Go.Operand.tmp 27), (Go.Operand.tmp 29)] #[67, 67, 81])) (j := 6) (want := false) hF (by kernel_rfl) (by kernel_rfl) (by kernel_rfl) rfl fun ty pos af => ?_
    refine s_callB [_, _, _] hF (enters_of Try.func64 (by kernel_rfl) rfl) rfl (by decide) ((holds83q c.size c.dep v.size v.dep q w38 (by have := hk1.1; omega) (by have := hk1.2; omega) (by have := hk2.1; omega) (by have := hk2.2; omega) (by have := hk1.1; omega) (by have := hk1.2; omega)).mono fun e w' h => ⟨by rw [h.1, hk3b], h.2⟩) fun w40 a B41 hF => ?_
    have sB41 := B41.size
    have hB := hB.trans (B41.mono hB.size)
    have m2 := m2.old B41
    have m3 := m3.old B41
    have m4 := m4.old B41
    have m5 := m5.old B41
    have m7 := m7.old B41
    have hS := hS.below B41
    refine s_end ⟨hS, ?_⟩
    refine d_valg 12 31 25 (j := 6) (want := false) (op := (Go.Op.unOp Go.UnOp.not 4 (Go.Operand.tmp 30))) hF hS (by kernel_rfl) (by kernel_rfl) rfl (fun W hW => x_not rfl) (by kernel_rfl) (by decide) fun a hF => ?_
    refine d_val 13 32 (op := (Go.Op.pick (Go.Operand.tmp 25) (Go.Operand.const (Go.Value.bool true)) (Go.Operand.tmp 31))) hF hS (by kernel_rfl) (fun W hW => x_pick (b := false) rfl rfl) (by kernel_rfl) (by decide) fun a hF => ?_
    refine d_end (by kernel_rfl) (hK10 _ _ ?_)
    refine wp_if hF rfl ?_
    refine wp_skip (hK4 _ _ ?_)
    refine dk2_seq (b4) (b4) (ops := regOps Try.f29 5) (N := 5) (by kernel_rfl) wide_orders (by kernel_rfl) fun w42 hw42 B43 hS K11 hK11 => ?_
    have zw42 : w42.heap.size = w40.heap.size := by rw [hw42]
    have sB43 := B43.size
    have hB := hB.trans (B43.mono hB.size)
    have m2 := m2.old B43
    have m3 := m3.old B43
    have m4 := m4.old B43
    have m5 := m5.old B43
    have m7 := m7.old B43
    have m2_d := m2
    have m3_d := m3
    have m4_d := m4
    have m5_d := m5
    have m7_d := m7
    have hB_d := hB
    refine d_val 1 35 (op := (Go.Op.load 27 (Go.Operand.tmp 2))) hF hS (by kernel_rfl) (fun W hW => x_ldW wide27 (m2_d.k2 hW (by omega)) rfl rfl) (by kernel_rfl) (by decide) fun a hF => ?_
    refine d_val 2 36 (op := (Go.Op.load 27 (Go.Operand.tmp 3))) hF hS (by kernel_rfl) (fun W hW => x_ldW wide27 (m3_d.k2 hW (by omega)) rfl rfl) (by kernel_rfl) (by decide) fun a hF => ?_
    refine d_one 0 (some 34) (Go.Op.call (Go.Call.mk (Go.Callee.value (Go.Operand.func 45)) #[] #[])) (by kernel_rfl) (by kernel_rfl) fun ty pos af => ?_
    refine s_callR (R := fun v w' => ∃ br, v = .pointer (some ⟨br, 0, none⟩) ∧ w42.heap.size ≤ br ∧ Blk w' br 108 [.int .i64 2147483647]) [] hF (enters_of Try.func45 (by kernel_rfl) rfl) rfl (by decide) (newRoom56 w42) ?_
    rintro _ w44 a ⟨br, rfl, hbrw, mbr⟩ B45 hF
    have sB45 := B45.size
    have hB := hB.trans (B45.mono hB.size)
    have m2 := m2.old B45
    have m3 := m3.old B45
    have m4 := m4.old B45
    have m5 := m5.old B45
    have m7 := m7.old B45
    have hS := hS.below B45
    have hR : Room w44 br := ⟨_, mbr, by decide, by decide⟩
    have hbrl := hR.lt
    refine s_end ⟨hS, ?_⟩
    refine d_one 3 (some 37) (Go.Op.call (Go.Call.mk (Go.Callee.value (Go.Operand.func 66)) #[(Go.Operand.tmp 34), (Go.Operand.tmp 35), (Go.Operand.tmp 36)] #[61, 27, 27])) (by kernel_rfl) (by kernel_rfl) fun ty pos af => ?_
    refine s_call (R := fun u w' => ((∃ y, u = tv y ∧ RE w' (AS A w44.heap.size) (PT.put v.ess c.ess 0) y ∧ Tt c y) ∧ Room w' br) ∧ Ktw br br w44 w') hF [_, _, _] (enters_of Try.func66 (by kernel_rfl) rfl) rfl (by decide) (put85 w44 br (by omega) A (fun k hk => by have := hA k hk; exact ⟨by omega, by omega⟩) c x (hxA.keep hB.size (fun k hk _ => hB.block k (hA k hk))) v y (hvA.keep hB.size (fun k hk _ => hB.block k (hA k hk))) (by have := hk2.2; omega) (by have := hk1.2; omega) hR) ?_
    rintro _ w46 a ⟨⟨⟨y9, rfl, hy9, hT9⟩, hR⟩, k47⟩ hF
    have sk47 := k47.size
    have hB := k47.under hB (by omega)
    have m2 := m2.k2 k47 (by omega)
    have m3 := m3.k2 k47 (by omega)
    have m4 := m4.k2 k47 (by omega)
    have m5 := m5.k2 k47 (by omega)
    have m7 := m7.k2 k47 (by omega)
    have hS := hS.trans k47 (by omega)
    refine s_end ⟨hS, ?_⟩
    refine d_one 4 none (Go.Op.store 27 (Go.Operand.tmp 4) (Go.Operand.tmp 37)) (by kernel_rfl) (by kernel_rfl) fun ty pos af => ?_
    refine s_putW hF rfl rfl (size_wide wide27) m4 rfl hy9.one fun w50 m4 o51 => ?_
    have so51 := o51.size
    have hB := hB.trans (o51.below (by omega))
    have m2 := m2.only o51 (by omega)
    have m3 := m3.only o51 (by omega)
    have m5 := m5.only o51 (by omega)
    have m7 := m7.only o51 (by omega)
    have hS := hS.only o51 (by omega)
    have hR := hR.only o51 (by omega)
    have hy9 := hy9.only o51 (by intro h; rcases h with h | h; (have := hA _ h; omega); omega)
    refine s_end ⟨hS, ?_⟩
    refine d_end (by kernel_rfl) (hK11 _ _ ?_)
    refine wp_ret (res_cell hF rfl rfl m4 wide27 ⟨_, rfl, ⟨y9, rfl, by rw [hin ⟨hk1, hk2, hk3⟩]; exact hy9.mono (AS.mono (by omega)), fun _ => hT9⟩, hB⟩)
  · rw [decide_eq_true hk1, decide_eq_true hk2] at hF
    rw [show c.mN = c.size from if_pos hk1, show c.mD = c.dep from if_pos hk1] at m5
    rw [show v.mN = v.size from if_pos hk2, show v.mD = v.dep from if_pos hk2] at m7
    have hk3b := decide_eq_false (fun h => hk3 (hh.1 h))
    refine dk2_seq (b4) (b4) (ops := regOps Try.f29 3) (N := 14) (by kernel_rfl) wide_orders (by kernel_rfl) fun w52 hw52 B53 hS K12 hK12 => ?_
    have zw52 : w52.heap.size = w22.heap.size := by rw [hw52]
    have sB53 := B53.size
    have hB := hB.trans (B53.mono hB.size)
    have m2 := m2.old B53
    have m3 := m3.old B53
    have m4 := m4.old B53
    have m5 := m5.old B53
    have m7 := m7.old B53
    have m2_d := m2
    have m3_d := m3
    have m4_d := m4
    have m5_d := m5
    have m7_d := m7
    have hB_d := hB
    refine d_val 0 19 (op := (Go.Op.move (Go.Operand.tmp 6))) hF hS (by kernel_rfl) (fun W hW => x_move rfl) (by kernel_rfl) (by decide) fun a hF => ?_
    refine d_val 1 20 (op := (Go.Op.unOp Go.UnOp.not 4 (Go.Operand.tmp 19))) hF hS (by kernel_rfl) (fun W hW => x_not rfl) (by kernel_rfl) (by decide) fun a hF => ?_
    refine d_val 2 21 (op := (Go.Op.move (Go.Operand.tmp 20))) hF hS (by kernel_rfl) (fun W hW => x_move rfl) (by kernel_rfl) (by decide) fun a hF => ?_
    refine d_valg 3 22 21 (j := 2) (want := false) (op := (Go.Op.move (Go.Operand.tmp 8))) hF hS (by kernel_rfl) (by kernel_rfl) rfl (fun W hW => x_move rfl) (by kernel_rfl) (by decide) fun a hF => ?_
    refine d_valg 4 23 21 (j := 2) (want := false) (op := (Go.Op.unOp Go.UnOp.not 4 (Go.Operand.tmp 22))) hF hS (by kernel_rfl) (by kernel_rfl) rfl (fun W hW => x_not rfl) (by kernel_rfl) (by decide) fun a hF => ?_
    refine d_val 5 24 (op := (Go.Op.pick (Go.Operand.tmp 21) (Go.Operand.const (Go.Value.bool true)) (Go.Operand.tmp 23))) hF hS (by kernel_rfl) (fun W hW => x_pick (b := false) rfl rfl) (by kernel_rfl) (by decide) fun a hF => ?_
    refine d_val 6 25 (op := (Go.Op.move (Go.Operand.tmp 24))) hF hS (by kernel_rfl) (fun W hW => x_move rfl) (by kernel_rfl) (by decide) fun a hF => ?_
    refine d_valg 7 26 25 (j := 6) (want := false) (op := (Go.Op.load 67 (Go.Operand.tmp 5))) hF hS (by kernel_rfl) (by kernel_rfl) rfl (fun W hW => x_ldW wide70 (m5_d.k2 hW (by omega)) rfl rfl) (by kernel_rfl) (by decide) fun a hF => ?_
    refine d_valg 8 27 25 (j := 6) (want := false) (op := (Go.Op.load 67 (Go.Operand.tmp 7))) hF hS (by kernel_rfl) (by kernel_rfl) rfl (fun W hW => x_ldW wide70 (m7_d.k2 hW (by omega)) rfl rfl) (by kernel_rfl) (by decide) fun a hF => ?_
    refine d_valg 9 28 25 (j := 6) (want := false) (op := (Go.Op.load 27 (Go.Operand.tmp 2))) hF hS (by kernel_rfl) (by kernel_rfl) rfl (fun W hW => x_ldW wide27 (m2_d.k2 hW (by omega)) rfl rfl) (by kernel_rfl) (by decide) fun a hF => ?_
    refine d_oneg 10 25 (some 29) (Go.Op.call (Go.Call.mk (Go.Callee.value (Go.Operand.func 65)) #[(Go.Operand.tmp 28)] #[27])) (j := 6) (want := false) hF (by kernel_rfl) (by kernel_rfl) (by kernel_rfl) rfl fun ty pos af => ?_
    refine s_callB [_] hF (enters_of Try.func65 (by kernel_rfl) rfl) rfl (by decide) ((placesOf84 c x w52 (hx.bel hB) hk1).mono fun e w' h => ⟨by rw [h.1, ← hq], h.2⟩) fun w54 a B55 hF => ?_
    have sB55 := B55.size
    have hB := hB.trans (B55.mono hB.size)
    have m2 := m2.old B55
    have m3 := m3.old B55
    have m4 := m4.old B55
    have m5 := m5.old B55
    have m7 := m7.old B55
    have hS := hS.below B55
    refine s_end ⟨hS, ?_⟩
    refine d_oneg 11 25 (some 30) (Go.Op.call (Go.Call.mk (Go.Callee.value (Go.Operand.func 64)) #[(Go.Operand.tmp 26), (Go.Operand.tmp 27), (Go.Operand.tmp 29)] #[67, 67, 81])) (j := 6) (want := false) hF (by kernel_rfl) (by kernel_rfl) (by kernel_rfl) rfl fun ty pos af => ?_
    refine s_callB [_, _, _] hF (enters_of Try.func64 (by kernel_rfl) rfl) rfl (by decide) ((holds83q c.size c.dep v.size v.dep q w54 (by have := hk1.1; omega) (by have := hk1.2; omega) (by have := hk2.1; omega) (by have := hk2.2; omega) (by have := hk1.1; omega) (by have := hk1.2; omega)).mono fun e w' h => ⟨by rw [h.1, hk3b], h.2⟩) fun w56 a B57 hF => ?_
    have sB57 := B57.size
    have hB := hB.trans (B57.mono hB.size)
    have m2 := m2.old B57
    have m3 := m3.old B57
    have m4 := m4.old B57
    have m5 := m5.old B57
    have m7 := m7.old B57
    have hS := hS.below B57
    refine s_end ⟨hS, ?_⟩
    refine d_valg 12 31 25 (j := 6) (want := false) (op := (Go.Op.unOp Go.UnOp.not 4 (Go.Operand.tmp 30))) hF hS (by kernel_rfl) (by kernel_rfl) rfl (fun W hW => x_not rfl) (by kernel_rfl) (by decide) fun a hF => ?_
    refine d_val 13 32 (op := (Go.Op.pick (Go.Operand.tmp 25) (Go.Operand.const (Go.Value.bool true)) (Go.Operand.tmp 31))) hF hS (by kernel_rfl) (fun W hW => x_pick (b := false) rfl rfl) (by kernel_rfl) (by decide) fun a hF => ?_
    refine d_end (by kernel_rfl) (hK12 _ _ ?_)
    refine wp_if hF rfl ?_
    refine wp_rs fun K13 hK13 => ?_
    refine s_val hF (x_build (vs := []) rfl (b27_ _)) (by decide) fun a hF => ?_
    refine s_putW hF rfl rfl (size_wide wide27) m4 rfl one8 fun w60 m4 o61 => ?_
    have so61 := o61.size
    have hB := hB.trans (o61.below (by omega))
    have m2 := m2.only o61 (by omega)
    have m3 := m3.only o61 (by omega)
    have m5 := m5.only o61 (by omega)
    have m7 := m7.only o61 (by omega)
    refine s_end (hK13 _ _ ?_)
    refine wp_ret (then_ret (res_cell hF rfl rfl m4 wide27 ⟨_, rfl, ⟨⟨0, 0, emptyB, (0, 0, nilS), nilS, nilS⟩, rfl, by rw [hno (fun h => hk3 h.2.2)]; exact RE_bare _ _, fun h => absurd h (fun h => hk3 h.2.2)⟩, hB⟩))

theorem Inst42 (c v : CT) (x y : C8) (w0 : World) (hx : RC w0 (fun k => k < w0.heap.size) c x) (hv : RC w0 (fun k => k < w0.heap.size) v y) : Calls Try.prog 29 #[tv x, tv y] w0 fun e w' => ∃ u, e = .returned u ∧ (∃ y, u = tv y ∧ RT w' (PT.inst c.ess v.ess) y) ∧ Below w0.heap.size w0 w' :=
  (Inst42t _ c v x y w0 (fun _ h => h) hx hv).mono fun e w' ⟨u, h1, ⟨y, h2, h3, _⟩, h4⟩ => ⟨u, h1, ⟨y, h2, RE.rt h3⟩, h4⟩

set_option maxRecDepth 100000 in
set_option maxHeartbeats 1600000 in
theorem Lift48 (c : CT) (x : C8) (f b : Int) (w0 : World) (hx : RC w0 (fun k => k < w0.heap.size) c x) : Calls Try.prog 36 #[tv x, .int .i64 f, .int .i64 b] w0 fun e w' => ∃ u, e = .returned u ∧ (∃ y, u = tv y ∧ RT w' (c.ess.Lift f b) y) ∧ Below w0.heap.size w0 w' := by
  have hc20 : -1048576 ≤ min (max b (-1048576)) 1048576 := by omega
  have hB := Below.refl w0.heap.size w0
  have sB := hB.size
  refine calls_fs 19 [(0, tv x), (1, .int .i64 f), (2, .int .i64 b)] Try.func36 rfl rfl rfl rfl rfl fun a hF => ?_
  refine wp_rs fun K1 hK1 => ?_
  refine s_box (tc x) hF (by decide) rfl rfl fun w2 b3 a eb3 m3 B3 zb3 hF => ?_
  have sB3 := B3.size
  have hB := hB.trans (B3.mono hB.size)
  refine s_alloc hF (by decide) zero27 fun w4 b6 a eb6 m6 B5 zb6 hF => ?_
  have sB5 := B5.size
  have hB := hB.trans (B5.mono hB.size)
  have m3 := m3.old B5
  refine s_end (hK1 _ _ ?_)
  refine wp_seq_k fun K2 hK2 => ?_
  rcases (show ¬ c.ok ∨ c.ok by by_cases h : c.ok <;> simp [h]) with hk1 | hk1
  · skip
    refine wp_rs fun K4 hK4 => ?_
    refine s_val hF (x_ldW wide27 m3 rfl rfl) (by decide) fun a hF => ?_
    refine s_callB [_] hF (enters_of Try.func55 (by kernel_rfl) rfl) rfl (by decide) ((isGreat66 c x w4 (hx.bel hB)).mono fun e w' h => ⟨by rw [h.1, decide_eq_true hk1], h.2⟩) fun w6 a B7 hF => ?_
    have sB7 := B7.size
    have hB := hB.trans (B7.mono hB.size)
    have m3 := m3.old B7
    have m6 := m6.old B7
    refine s_end (hK4 _ _ ?_)
    refine wp_if hF rfl ?_
    refine wp_rs fun K5 hK5 => ?_
    refine s_val hF (x_build (vs := []) rfl (b27_ _)) (by decide) fun a hF => ?_
    refine s_putW hF rfl rfl (size_wide wide27) m6 rfl one8 fun w10 m6 o11 => ?_
    have so11 := o11.size
    have hB := hB.trans (o11.below (by omega))
    have m3 := m3.only o11 (by omega)
    refine s_end (hK5 _ _ ?_)
    refine wp_ret (then_ret (res_cell hF rfl rfl m6 wide27 ⟨_, rfl, ⟨⟨0, 0, emptyB, (0, 0, nilS), nilS, nilS⟩, rfl, by rw [show c.ess.Lift f b = .odd 0 from if_neg (fun h => hk1 (c.ok_ess.1 h))]; exact (RE_bare _ (fun _ => True)).rt⟩, hB⟩))
  · skip
    refine wp_rs fun K6 hK6 => ?_
    refine s_val hF (x_ldW wide27 m3 rfl rfl) (by decide) fun a hF => ?_
    refine s_callB [_] hF (enters_of Try.func55 (by kernel_rfl) rfl) rfl (by decide) ((isGreat66 c x w4 (hx.bel hB)).mono fun e w' h => ⟨by rw [h.1, decide_eq_false (fun h => h hk1)], h.2⟩) fun w12 a B13 hF => ?_
    have sB13 := B13.size
    have hB := hB.trans (B13.mono hB.size)
    have m3 := m3.old B13
    have m6 := m6.old B13
    refine s_end (hK6 _ _ ?_)
    refine wp_if hF rfl ?_
    refine wp_skip (hK2 _ _ ?_)
    refine wp_rs fun K7 hK7 => ?_
    refine s_val hF (x_move rfl) (by decide) fun a hF => ?_
    refine s_val hF (x_imax rfl rfl) (by decide) fun a hF => ?_
    refine s_val hF (x_imin rfl rfl) (by decide) fun a hF => ?_
    refine s_val hF (x_assign rfl) (by decide) fun a hF => ?_
    refine s_end (hK7 _ _ ?_)
    refine dk2_seq (b6) (b6) (ops := regOps Try.f36 4) (N := 7) (by kernel_rfl) wide_orders (by kernel_rfl) fun w14 hw14 B15 hS K8 hK8 => ?_
    have zw14 : w14.heap.size = w12.heap.size := by rw [hw14]
    have sB15 := B15.size
    have hB := hB.trans (B15.mono hB.size)
    have m3 := m3.old B15
    have m6 := m6.old B15
    have m3_d := m3
    have m6_d := m6
    have hB_d := hB
    refine d_val 1 14 (op := (Go.Op.load 27 (Go.Operand.tmp 3))) hF hS (by kernel_rfl) (fun W hW => x_ldW wide27 (m3_d.k2 hW (by omega)) rfl rfl) (by kernel_rfl) (by decide) fun a hF => ?_
    refine d_val 2 15 (op := (Go.Op.move (Go.Operand.tmp 1))) hF hS (by kernel_rfl) (fun W hW => x_move rfl) (by kernel_rfl) (by decide) fun a hF => ?_
    refine d_val 3 16 (op := (Go.Op.call (Go.Call.mk (Go.Callee.builtin Go.Builtin.max) #[(Go.Operand.tmp 15), (Go.Operand.const (Go.Value.int Go.IntKind.i64 0))] #[3, 3]))) hF hS (by kernel_rfl) (fun W hW => x_imax rfl rfl) (by kernel_rfl) (by decide) fun a hF => ?_
    refine d_val 4 17 (op := (Go.Op.move (Go.Operand.tmp 2))) hF hS (by kernel_rfl) (fun W hW => x_move rfl) (by kernel_rfl) (by decide) fun a hF => ?_
    refine d_one 0 (some 13) (Go.Op.call (Go.Call.mk (Go.Callee.value (Go.Operand.func 45)) #[] #[])) (by kernel_rfl) (by kernel_rfl) fun ty pos af => ?_
    refine s_callR (R := fun v w' => ∃ br, v = .pointer (some ⟨br, 0, none⟩) ∧ w14.heap.size ≤ br ∧ Blk w' br 108 [.int .i64 2147483647]) [] hF (enters_of Try.func45 (by kernel_rfl) rfl) rfl (by decide) (newRoom56 w14) ?_
    rintro _ w16 a ⟨br, rfl, hbrw, mbr⟩ B17 hF
    have sB17 := B17.size
    have hB := hB.trans (B17.mono hB.size)
    have m3 := m3.old B17
    have m6 := m6.old B17
    have hS := hS.below B17
    have hR : Room w16 br := ⟨_, mbr, by decide, by decide⟩
    have hbrl := hR.lt
    refine s_end ⟨hS, ?_⟩
    refine d_one 5 (some 18) (Go.Op.call (Go.Call.mk (Go.Callee.value (Go.Operand.func 74)) #[(Go.Operand.tmp 13), (Go.Operand.tmp 14), (Go.Operand.tmp 16), (Go.Operand.tmp 17)] #[61, 27, 3, 3])) (by kernel_rfl) (by kernel_rfl) fun ty pos af => ?_
    refine s_call (R := fun u w' => ((∃ y, u = tv y ∧ RE w' (AS (fun k => k < w0.heap.size) w16.heap.size) (c.ess.lift (max f 0) (min (max b (-1048576)) 1048576) 0) y) ∧ Room w' br) ∧ Ktw br br w16 w') hF [_, _, _, _] (enters_of Try.func74 (by kernel_rfl) rfl) rfl (by decide) (lifted93 w16 br (by omega) (fun k => k < w0.heap.size) (fun k hk => ⟨by omega, by omega⟩) c x (hx.keep hB.size (fun k hk _ => hB.block k hk)) (max f 0) (min (max b (-1048576)) 1048576) (by omega) (by omega) (by have := hk1.2; omega) hR) ?_
    rintro _ w18 a ⟨⟨⟨y9, rfl, hy9⟩, hR⟩, k19⟩ hF
    have sk19 := k19.size
    have hB := k19.under hB (by omega)
    have m3 := m3.k2 k19 (by omega)
    have m6 := m6.k2 k19 (by omega)
    have hS := hS.trans k19 (by omega)
    refine s_end ⟨hS, ?_⟩
    refine d_one 6 none (Go.Op.store 27 (Go.Operand.tmp 6) (Go.Operand.tmp 18)) (by kernel_rfl) (by kernel_rfl) fun ty pos af => ?_
    refine s_putW hF rfl rfl (size_wide wide27) m6 rfl hy9.one fun w22 m6 o23 => ?_
    have so23 := o23.size
    have hB := hB.trans (o23.below (by omega))
    have m3 := m3.only o23 (by omega)
    have hS := hS.only o23 (by omega)
    have hR := hR.only o23 (by omega)
    have hy9 := hy9.only o23 (by intro h; rcases h with h | h <;> omega)
    refine s_end ⟨hS, ?_⟩
    refine d_end (by kernel_rfl) (hK8 _ _ ?_)
    refine wp_ret (res_cell hF rfl rfl m6 wide27 ⟨_, rfl, ⟨y9, rfl, by rw [show c.ess.Lift f b = c.ess.lift (max f 0) (cut20 b) 0 from if_pos (c.ok_ess.2 hk1)]; exact hy9.rt⟩, hB⟩)

set_option maxRecDepth 100000 in
set_option maxHeartbeats 1600000 in
theorem Const18t (A : Nat → Prop) (s : ByteArray) (ls : List Lv) (v : Value) (w0 : World) (hA : ∀ k, A k → k < w0.heap.size) (hv : RVn w0 A v ls) : Calls Try.prog 14 #[.string s, v] w0 fun e w' => ∃ u, e = .returned u ∧ (∃ y, u = tv y ∧ RE w' (AS A w0.heap.size) (.cst s (ls.map slO)) y) ∧ Below w0.heap.size w0 w' := by
  obtain ⟨av, cv, hve, _⟩ := hv.form
  subst hve
  have hB := Below.refl w0.heap.size w0
  have sB := hB.size
  refine calls_fs 10 [(0, .string s), (1, .slice av ls.length cv)] Try.func14 rfl rfl rfl rfl rfl fun a hF => ?_
  refine wp_rs fun K1 hK1 => ?_
  refine s_alloc hF (by decide) zero27 fun w2 b4 a eb4 m4 B3 zb4 hF => ?_
  have sB3 := B3.size
  have hB := hB.trans (B3.mono hB.size)
  refine s_end (hK1 _ _ ?_)
  refine wp_rs fun K2 hK2 => ?_
  refine s_callR (R := fun v w' => ∃ br, v = .pointer (some ⟨br, 0, none⟩) ∧ w2.heap.size ≤ br ∧ Blk w' br 108 [.int .i64 2147483647]) [] hF (enters_of Try.func45 (by kernel_rfl) rfl) rfl (by decide) (newRoom56 w2) ?_
  rintro _ w4 a ⟨br, rfl, hbrw, mbr⟩ B5 hF
  have sB5 := B5.size
  have hB := hB.trans (B5.mono hB.size)
  have m4 := m4.old B5
  have hR : Room w4 br := ⟨_, mbr, by decide, by decide⟩
  have hbrl := hR.lt
  refine s_val hF (x_move rfl) (by decide) fun a hF => ?_
  refine s_val hF (x_move rfl) (by decide) fun a hF => ?_
  refine s_val hF (x_build (vs := [(0, _), (2, _), (4, _)]) rfl (b27_024 _ _ _ _ _ _)) (by decide) fun a hF => ?_
  refine s_call (R := fun u w' => ((∃ y, u = tv y ∧ RE w' (AS A w4.heap.size) (CT.ess (.cst s ls 0)) y) ∧ Room w' br) ∧ Ktw br br w4 w') hF [_, _] (enters_of Try.func46 (by kernel_rfl) rfl) rfl (by decide) (owned57 w4 br (by omega) A (fun k hk => by have := hA k hk; exact ⟨by omega, by omega⟩) (.cst s ls 0) ⟨7, 0, s, (0, 0, nilS), .slice av ls.length cv, nilS⟩ ⟨rfl, rfl, hv.keep hB.size (fun k hk _ => hB.block k (hA k hk)), ⟨_, Rn.nil _ _ 8⟩, ⟨.mk 0 0 [], .mk (xs := []) (Rn.nil _ _ 3) rfl (fun i x l h => by simp at h)⟩, _, hv.keep hB.size (fun k hk _ => hB.block k (hA k hk))⟩ hR) ?_
  rintro _ w6 a ⟨⟨⟨y9, rfl, hy9⟩, hR⟩, k7⟩ hF
  have sk7 := k7.size
  have hB := k7.under hB (by omega)
  have m4 := m4.k2 k7 (by omega)
  refine s_putW hF rfl rfl (size_wide wide27) m4 rfl hy9.one fun w10 m4 o11 => ?_
  have so11 := o11.size
  have hB := hB.trans (o11.below (by omega))
  have hR := hR.only o11 (by omega)
  have hy9 := hy9.only o11 (by intro h; rcases h with h | h; (have := hA _ h; omega); omega)
  refine s_end (hK2 _ _ ?_)
  refine wp_ret (res_cell hF rfl rfl m4 wide27 ⟨_, rfl, ⟨y9, rfl, hy9.mono (AS.mono (by omega))⟩, hB⟩)

theorem Const18 (s : ByteArray) (ls : List Lv) (v : Value) (w0 : World) (hv : RVn w0 (fun k => k < w0.heap.size) v ls) : Calls Try.prog 14 #[.string s, v] w0 fun e w' => ∃ u, e = .returned u ∧ (∃ y, u = tv y ∧ RT w' (.cst s (ls.map slO)) y) ∧ Below w0.heap.size w0 w' :=
  (Const18t _ s ls v w0 (fun _ h => h) hv).mono fun e w' ⟨u, h1, ⟨y, h2, h3⟩, h4⟩ => ⟨u, h1, ⟨y, h2, RE.rt h3⟩, h4⟩

set_option maxRecDepth 100000 in
set_option maxHeartbeats 1600000 in
theorem Lam21t (A : Nat → Prop) (c v : CT) (x y : C8) (w0 : World) (hA : ∀ k, A k → k < w0.heap.size) (hx : RC w0 A c x) (hv : RC w0 A v y) : Calls Try.prog 17 #[tv x, tv y] w0 fun e w' => ∃ u, e = .returned u ∧ (∃ y, u = tv y ∧ RE w' (AS A w0.heap.size) (.two 4 c.ess v.ess) y ∧ Tn 2 y) ∧ Below w0.heap.size w0 w' := by
  have hB := Below.refl w0.heap.size w0
  have sB := hB.size
  refine calls_fs 10 [(0, tv x), (1, tv y)] Try.func17 rfl rfl rfl rfl rfl fun a hF => ?_
  refine wp_rs fun K1 hK1 => ?_
  refine s_box (tc x) hF (by decide) rfl rfl fun w2 b2 a eb2 m2 B3 zb2 hF => ?_
  have sB3 := B3.size
  have hB := hB.trans (B3.mono hB.size)
  refine s_box (tc y) hF (by decide) rfl rfl fun w4 b3 a eb3 m3 B5 zb3 hF => ?_
  have sB5 := B5.size
  have hB := hB.trans (B5.mono hB.size)
  have m2 := m2.old B5
  refine s_alloc hF (by decide) zero27 fun w6 b4 a eb4 m4 B7 zb4 hF => ?_
  have sB7 := B7.size
  have hB := hB.trans (B7.mono hB.size)
  have m2 := m2.old B7
  have m3 := m3.old B7
  refine s_end (hK1 _ _ ?_)
  refine dk2_seq (b4) (b4) (ops := regOps Try.f17 1) (N := 6) (by kernel_rfl) wide_orders (by kernel_rfl) fun w8 hw8 B9 hS K2 hK2 => ?_
  have zw8 : w8.heap.size = w6.heap.size := by rw [hw8]
  have sB9 := B9.size
  have hB := hB.trans (B9.mono hB.size)
  have m2 := m2.old B9
  have m3 := m3.old B9
  have m4 := m4.old B9
  have m2_d := m2
  have m3_d := m3
  have m4_d := m4
  have hB_d := hB
  refine d_val 1 6 (op := (Go.Op.load 27 (Go.Operand.tmp 2))) hF hS (by kernel_rfl) (fun W hW => x_ldW wide27 (m2_d.k2 hW (by omega)) rfl rfl) (by kernel_rfl) (by decide) fun a hF => ?_
  refine d_val 2 7 (op := (Go.Op.load 27 (Go.Operand.tmp 3))) hF hS (by kernel_rfl) (fun W hW => x_ldW wide27 (m3_d.k2 hW (by omega)) rfl rfl) (by kernel_rfl) (by decide) fun a hF => ?_
  refine d_two 0 3 (by kernel_rfl) ?_ ?_
  · refine d_op 0 (some 5) (Go.Op.call (Go.Call.mk (Go.Callee.value (Go.Operand.func 45)) #[] #[])) (by kernel_rfl) fun ty pos af => ?_
    refine s_callR (R := fun v w' => ∃ br, v = .pointer (some ⟨br, 0, none⟩) ∧ w8.heap.size ≤ br ∧ Blk w' br 108 [.int .i64 2147483647]) [] hF (enters_of Try.func45 (by kernel_rfl) rfl) rfl (by decide) (newRoom56 w8) ?_
    rintro _ w10 a ⟨br, rfl, hbrw, mbr⟩ B11 hF
    have sB11 := B11.size
    have hB := hB.trans (B11.mono hB.size)
    have m2 := m2.old B11
    have m3 := m3.old B11
    have m4 := m4.old B11
    have hS := hS.below B11
    have hR : Room w10 br := ⟨_, mbr, by decide, by decide⟩
    have hbrl := hR.lt
    refine s_end ⟨hS, ?_⟩
    refine d_one 3 (some 8) (Go.Op.buildSlice 25 2 #[(0, (Go.Operand.tmp 6)), (1, (Go.Operand.tmp 7))]) (by kernel_rfl) (by kernel_rfl) fun ty pos af => ?_
    refine s_litG [tv x, tv y] el25 hF (by decide) rfl (by simp [Value.cells, tc]) rfl (by decide) (by decide) fun w12 bl a ebl ml B13 zbl hF => ?_
    have sB13 := B13.size
    have hB := hB.trans (B13.mono hB.size)
    have m2 := m2.old B13
    have m3 := m3.old B13
    have m4 := m4.old B13
    have hS := hS.below B13
    have hR := hR.below B13
    have ml : Blk w12 bl 27 (tc x ++ tc y) := by simpa [Value.cells] using ml
    refine s_end ⟨hS, ?_⟩
    refine d_one 4 (some 9) (Go.Op.call (Go.Call.mk (Go.Callee.value (Go.Operand.func 49)) #[(Go.Operand.tmp 5), (Go.Operand.const (Go.Value.int Go.IntKind.i64 4)), (Go.Operand.tmp 8)] #[61, 3, 25])) (by kernel_rfl) (by kernel_rfl) fun ty pos af => ?_
    have hbl1 := ml.lt
    have hrk : RK w12 (fun k => A k ∨ k = bl) (.slice (some ⟨bl, 0, none⟩) 2 2) [c, v] := ⟨[x, y], ⟨by simpa using Rd.blk ml (n := 2) rfl, fun _ b hb => by simp [Value.ownBlock] at hb; exact .inr hb.symm⟩, rfl, fun i x2 c2 e1 e2 => by rcases i with _ | _ | i; (· simp at e1 e2; subst e1 e2; exact RC.mono (fun k hk => .inl hk) (hx.keep hB.size (fun k hk _ => hB.block k (hA k hk)))); (· simp at e1 e2; subst e1 e2; exact RC.mono (fun k hk => .inl hk) (hv.keep hB.size (fun k hk _ => hB.block k (hA k hk)))); simp at e1⟩
    refine s_call (R := fun u w' => ((∃ v', u = tv ⟨4, 0, emptyB, (0, 0, nilS), nilS, v'⟩ ∧ RKE w' (AS (fun k => A k ∨ k = bl) w12.heap.size) v' (List.map CT.ess [c, v])) ∧ Room w' br) ∧ Ktw br br w12 w') hF [_, _, _] (enters_of Try.func49 (by kernel_rfl) rfl) rfl (by decide) (joined60 w12 br (by omega) (fun k => A k ∨ k = bl) (fun k hk => by rcases hk with hk | hk; (have := hA k hk; omega); omega) 4 [c, v] _ hrk (by simp) hR) ?_
    rintro _ w14 a ⟨⟨⟨v9, rfl, hy9⟩, hR⟩, k15⟩ hF
    have sk15 := k15.size
    have hB := k15.under hB (by omega)
    have m2 := m2.k2 k15 (by omega)
    have m3 := m3.k2 k15 (by omega)
    have m4 := m4.k2 k15 (by omega)
    have ml := ml.k2 k15 (by omega)
    have hS := hS.trans k15 (by omega)
    have h1v9 := hy9.one
    have hT9 : Tn 2 ⟨4, 0, emptyB, (0, 0, nilS), nilS, v9⟩ := by obtain ⟨a, cp, he, _⟩ := hy9.form; exact ⟨a, cp, he⟩
    refine s_end ⟨hS, ?_⟩
    refine d_one 5 none (Go.Op.store 27 (Go.Operand.tmp 4) (Go.Operand.tmp 9)) (by kernel_rfl) (by kernel_rfl) fun ty pos af => ?_
    refine s_putW hF rfl rfl (size_wide wide27) m4 rfl (one_tc0 _ _ _ _ h1v9) fun w18 m4 o19 => ?_
    have so19 := o19.size
    have hB := hB.trans (o19.below (by omega))
    have m2 := m2.only o19 (by omega)
    have m3 := m3.only o19 (by omega)
    have hS := hS.only o19 (by omega)
    have hR := hR.only o19 (by omega)
    have hy9 := hy9.only o19 (by intro h; rcases h with (h | h) | h; (have := hA _ h; omega); omega; omega)
    refine s_end ⟨hS, ?_⟩
    refine d_end (by kernel_rfl) (hK2 _ _ ?_)
    refine wp_ret (res_cell hF rfl rfl m4 wide27 ⟨_, rfl, ⟨_, rfl, RE_two (by decide) (hy9.mono (fun k hk => by rcases hk with (hk | hk) | hk; (· exact .inl hk); (· exact .inr (by omega)); exact .inr (by omega))), hT9⟩, hB⟩)
  · refine d_op 3 (some 8) (Go.Op.buildSlice 25 2 #[(0, (Go.Operand.tmp 6)), (1, (Go.Operand.tmp 7))]) (by kernel_rfl) fun ty pos af => ?_
    refine s_litG [tv x, tv y] el25 hF (by decide) rfl (by simp [Value.cells, tc]) rfl (by decide) (by decide) fun w20 bl a ebl ml B21 zbl hF => ?_
    have sB21 := B21.size
    have hB := hB.trans (B21.mono hB.size)
    have m2 := m2.old B21
    have m3 := m3.old B21
    have m4 := m4.old B21
    have hS := hS.below B21
    have ml : Blk w20 bl 27 (tc x ++ tc y) := by simpa [Value.cells] using ml
    refine s_end ⟨hS, ?_⟩
    refine d_one 0 (some 5) (Go.Op.call (Go.Call.mk (Go.Callee.value (Go.Operand.func 45)) #[] #[])) (by kernel_rfl) (by kernel_rfl) fun ty pos af => ?_
    refine s_callR (R := fun v w' => ∃ br, v = .pointer (some ⟨br, 0, none⟩) ∧ w20.heap.size ≤ br ∧ Blk w' br 108 [.int .i64 2147483647]) [] hF (enters_of Try.func45 (by kernel_rfl) rfl) rfl (by decide) (newRoom56 w20) ?_
    rintro _ w22 a ⟨br, rfl, hbrw, mbr⟩ B23 hF
    have sB23 := B23.size
    have hB := hB.trans (B23.mono hB.size)
    have m2 := m2.old B23
    have m3 := m3.old B23
    have m4 := m4.old B23
    have ml := ml.old B23
    have hS := hS.below B23
    have hR : Room w22 br := ⟨_, mbr, by decide, by decide⟩
    have hbrl := hR.lt
    refine s_end ⟨hS, ?_⟩
    refine d_one 4 (some 9) (Go.Op.call (Go.Call.mk (Go.Callee.value (Go.Operand.func 49)) #[(Go.Operand.tmp 5), (Go.Operand.const (Go.Value.int Go.IntKind.i64 4)), (Go.Operand.tmp 8)] #[61, 3, 25])) (by kernel_rfl) (by kernel_rfl) fun ty pos af => ?_
    have hbl1 := ml.lt
    have hrk : RK w22 (fun k => A k ∨ k = bl) (.slice (some ⟨bl, 0, none⟩) 2 2) [c, v] := ⟨[x, y], ⟨by simpa using Rd.blk ml (n := 2) rfl, fun _ b hb => by simp [Value.ownBlock] at hb; exact .inr hb.symm⟩, rfl, fun i x2 c2 e1 e2 => by rcases i with _ | _ | i; (· simp at e1 e2; subst e1 e2; exact RC.mono (fun k hk => .inl hk) (hx.keep hB.size (fun k hk _ => hB.block k (hA k hk)))); (· simp at e1 e2; subst e1 e2; exact RC.mono (fun k hk => .inl hk) (hv.keep hB.size (fun k hk _ => hB.block k (hA k hk)))); simp at e1⟩
    refine s_call (R := fun u w' => ((∃ v', u = tv ⟨4, 0, emptyB, (0, 0, nilS), nilS, v'⟩ ∧ RKE w' (AS (fun k => A k ∨ k = bl) w22.heap.size) v' (List.map CT.ess [c, v])) ∧ Room w' br) ∧ Ktw br br w22 w') hF [_, _, _] (enters_of Try.func49 (by kernel_rfl) rfl) rfl (by decide) (joined60 w22 br (by omega) (fun k => A k ∨ k = bl) (fun k hk => by rcases hk with hk | hk; (have := hA k hk; omega); omega) 4 [c, v] _ hrk (by simp) hR) ?_
    rintro _ w24 a ⟨⟨⟨v9, rfl, hy9⟩, hR⟩, k25⟩ hF
    have sk25 := k25.size
    have hB := k25.under hB (by omega)
    have m2 := m2.k2 k25 (by omega)
    have m3 := m3.k2 k25 (by omega)
    have m4 := m4.k2 k25 (by omega)
    have ml := ml.k2 k25 (by omega)
    have hS := hS.trans k25 (by omega)
    have h1v9 := hy9.one
    have hT9 : Tn 2 ⟨4, 0, emptyB, (0, 0, nilS), nilS, v9⟩ := by obtain ⟨a, cp, he, _⟩ := hy9.form; exact ⟨a, cp, he⟩
    refine s_end ⟨hS, ?_⟩
    refine d_one 5 none (Go.Op.store 27 (Go.Operand.tmp 4) (Go.Operand.tmp 9)) (by kernel_rfl) (by kernel_rfl) fun ty pos af => ?_
    refine s_putW hF rfl rfl (size_wide wide27) m4 rfl (one_tc0 _ _ _ _ h1v9) fun w28 m4 o29 => ?_
    have so29 := o29.size
    have hB := hB.trans (o29.below (by omega))
    have m2 := m2.only o29 (by omega)
    have m3 := m3.only o29 (by omega)
    have hS := hS.only o29 (by omega)
    have hR := hR.only o29 (by omega)
    have hy9 := hy9.only o29 (by intro h; rcases h with (h | h) | h; (have := hA _ h; omega); omega; omega)
    refine s_end ⟨hS, ?_⟩
    refine d_end (by kernel_rfl) (hK2 _ _ ?_)
    refine wp_ret (res_cell hF rfl rfl m4 wide27 ⟨_, rfl, ⟨_, rfl, RE_two (by decide) (hy9.mono (fun k hk => by rcases hk with (hk | hk) | hk; (· exact .inl hk); (· exact .inr (by omega)); exact .inr (by omega))), hT9⟩, hB⟩)

theorem Lam21 (c v : CT) (x y : C8) (w0 : World) (hx : RC w0 (fun k => k < w0.heap.size) c x) (hv : RC w0 (fun k => k < w0.heap.size) v y) : Calls Try.prog 17 #[tv x, tv y] w0 fun e w' => ∃ u, e = .returned u ∧ (∃ y, u = tv y ∧ RT w' (.two 4 c.ess v.ess) y) ∧ Below w0.heap.size w0 w' :=
  (Lam21t _ c v x y w0 (fun _ h => h) hx hv).mono fun e w' ⟨u, h1, ⟨y, h2, h3, _⟩, h4⟩ => ⟨u, h1, ⟨y, h2, RE.rt h3⟩, h4⟩

end Go.Proofs.Ytaclncmkdpjnlaa
