/- owned, lifted, put. -/
import Derived.Test.YtaclncmkdpjnlaaTerm8
namespace Go.Proofs.Ytaclncmkdpjnlaa
open Go.RowKit Go.Shelf
set_option linter.unusedVariables false
set_option linter.unusedSimpArgs false

def Go_ (c : CT) (_ : Int) (ps : List PT) : PT := nodeP c ps
theorem fold_own : ∀ (c : CT) (d : Int), c.fold Go_ d = c.ess
  | .two k a b m, d => by simp [CT.fold, Go_, nodeP, CT.ess, fold_own a, fold_own b]
  | .lt a b c m, d => by simp [CT.fold, Go_, nodeP, CT.ess, fold_own a, fold_own b, fold_own c]
  | .var .., d => rfl
  | .sort .., d => rfl
  | .cst .., d => rfl
  | .odd .., d => rfl
def mx63 : Int := 9223372036854775807
def liftN (f b d n : Int) : Int := if d ≤ n ∧ f ≤ n - d then max (min (n + b) 9223372036854775807) d else n
def PT.lift (f b : Int) : PT → Int → PT
  | .var n, d => .var (liftN f b d n)
  | .two k p q, d => .two k (p.lift f b d) (q.lift f b (d + if k = 3 ∨ k = 4 then 1 else 0))
  | .lt p q r, d => .lt (p.lift f b d) (q.lift f b d) (r.lift f b (d + 1))
  | .sort o, _ => .sort o
  | .cst s os, _ => .cst s os
  | .odd k, _ => .odd k
def Gl (f b : Int) (c : CT) (d : Int) (ps : List PT) : PT := match c with
  | .var n _ => .var (liftN f b d n)
  | c => nodeP c ps
theorem fold_lift (f b : Int) : ∀ (c : CT) (d : Int), c.fold (Gl f b) d = c.ess.lift f b d
  | .two k p q m, d => by simp [CT.fold, Gl, nodeP, CT.ess, PT.lift, fold_lift f b p, fold_lift f b q, CT.bnd]
  | .lt p q r m, d => by simp [CT.fold, Gl, nodeP, CT.ess, PT.lift, fold_lift f b p, fold_lift f b q, fold_lift f b r, CT.bnd]
  | .var .., d => rfl
  | .sort .., d => rfl
  | .cst .., d => rfl
  | .odd .., d => rfl
def PT.put (v : PT) : PT → Int → PT
  | .var n, d => if n = d then v.lift 0 d 0 else .var (if d < n then n - 1 else n)
  | .two k p q, d => .two k (PT.put v p d) (PT.put v q (d + if k = 3 ∨ k = 4 then 1 else 0))
  | .lt p q r, d => .lt (PT.put v p d) (PT.put v q d) (PT.put v r (d + 1))
  | .sort o, _ => .sort o
  | .cst s os, _ => .cst s os
  | .odd k, _ => .odd k
def Gp (v : PT) (c : CT) (d : Int) (ps : List PT) : PT := match c with
  | .var n _ => if n = d then v.lift 0 d 0 else .var (if d < n then n - 1 else n)
  | c => nodeP c ps
theorem fold_put' (v : PT) : ∀ (c : CT) (d : Int), c.fold (Gp v) d = PT.put v c.ess d
  | .two k p q m, d => by simp [CT.fold, Gp, nodeP, CT.ess, PT.put, fold_put' v p, fold_put' v q, CT.bnd]
  | .lt p q r m, d => by simp [CT.fold, Gp, nodeP, CT.ess, PT.put, fold_put' v p, fold_put' v q, fold_put' v r, CT.bnd]
  | .var .., d => rfl
  | .sort .., d => rfl
  | .cst .., d => rfl
  | .odd .., d => rfl

theorem RKE.valid {W : World} {A : Nat → Prop} {v : Value} {ps : List PT} : RKE W A v ps → RKE W (fun k => A k ∧ k < W.heap.size) v ps := fun ⟨xs, h1, h2, h3⟩ => ⟨xs, h1.lt, h2, fun i x c e1 e2 => (h3 i x c e1 e2).valid⟩

set_option maxRecDepth 100000 in
set_option maxHeartbeats 400000 in
theorem clo102 (wl : World) (br : Nat) (hbr : br < wl.heap.size) (A : Nat → Prop) (hA : ∀ k, A k → k ≠ br ∧ k < wl.heap.size) (b2 : Nat) (m2 : Blk wl b2 61 [.pointer (some ⟨br, 0, none⟩)]) (hb2 : b2 ≠ br) (D : Int) (W : World) (c : CT) (x : C8) (d : Int) (kv : Value) (ps : List PT) (s : Nat) (hK : Ktw br br wl W) (hR : Room W br) (hx : RC wl A c x) (hd0 : 0 ≤ d) (hdD : d ≤ D) (hs0 : wl.heap.size ≤ s) (hs1 : s ≤ W.heap.size) (hkv : RKE W (AS A s) kv ps) (hlen : ps.length = c.kids.length) :
    Calls Try.prog 90 ([tv x, .int .i64 d, kv] ++ [Value.pointer (some ⟨b2, 0, none⟩)]).toArray W fun e w' => ∃ v, e = .returned v ∧ ((∃ y, v = tv y ∧ RE w' (AS A s) (Go_ c d ps) y) ∧ Room w' br) ∧ Ktw br br W w' := by
  have hQ := Ktw.refl br br W
  have sQ := hQ.size
  have sK := hK.size
  have hA2 : ∀ k, A k → k ≠ br ∧ k ≠ br := fun k hk => ⟨(hA k hk).1, (hA k hk).1⟩
  have hAS : ∀ k, AS A s k → k ≠ br := fun k hk => by rcases hk with hk | hk; (· exact (hA k hk).1); omega
  have hkv0 := hkv.valid
  have m2 := m2.k2 hK (by omega)
  have hb2l := m2.lt
  refine calls_fs 12 [(0, tv x), (1, .int .i64 d), (2, kv), (3, .pointer (some ⟨b2, 0, none⟩))] Try.func90 rfl rfl rfl rfl rfl fun a hF => ?_
  refine wp_rs fun K1 hK1 => ?_
  refine s_box (tc x) hF (by decide) rfl rfl fun w2 b4 a eb4 m4 B3 zb4 hF => ?_
  have sB3 := B3.size
  have hK := hK.below B3
  have hQ := hQ.below B3
  have m2 := m2.old B3
  have hR := hR.below B3
  refine s_alloc hF (by decide) zero27 fun w4 b7 a eb7 m7 B5 zb7 hF => ?_
  have sB5 := B5.size
  have hK := hK.below B5
  have hQ := hQ.below B5
  have m2 := m2.old B5
  have m4 := m4.old B5
  have hR := hR.below B5
  refine s_end (hK1 _ _ ?_)
  refine wp_rs fun K2 hK2 => ?_
  refine s_val hF (x_load rfl (m_load flat64 (m2.cell (j := 0) rfl))) (by decide) fun a hF => ?_
  refine s_val hF (x_ldW wide27 m4 rfl rfl) (by decide) fun a hF => ?_
  refine s_val hF (x_move rfl) (by decide) fun a hF => ?_
  refine s_call (R := fun u w' => ((∃ y, u = tv y ∧ RE w' (fun k => (AS A s k ∧ k < W.heap.size) ∨ w4.heap.size ≤ k) (nodeP c ps) y) ∧ Room w' br) ∧ Ktw br br w4 w') hF [_, _, _] (enters_of Try.func73 (by kernel_rfl) rfl) rfl (by decide) (node92 w4 br (by omega) (fun k => AS A s k ∧ k < W.heap.size) (fun k hk => ⟨hAS k hk.1, by have := hk.2; omega⟩) c x ((hx.keep hK.size (fun k hk hb => hK.block k hb (hA2 k hk))).mono (fun k hk => ⟨.inl hk, by have := hA k hk; omega⟩)) kv ps (hkv0.keep hQ.size (fun k hk hb => hQ.block k hb ⟨hAS k hk.1, hAS k hk.1⟩)) hlen hR) ?_
  rintro _ w6 a ⟨⟨⟨y9, rfl, hy9⟩, hR⟩, k7⟩ hF
  have sk7 := k7.size
  have hK := hK.trans k7 (by omega)
  have hQ := hQ.trans k7 (by omega)
  have m2 := m2.k2 k7 (by omega)
  have m4 := m4.k2 k7 (by omega)
  have m7 := m7.k2 k7 (by omega)
  have hy9 := hy9.valid
  refine s_putW hF rfl rfl (size_wide wide27) m7 rfl hy9.one fun w10 m7 o11 => ?_
  have so11 := o11.size
  have hK := hK.only o11 (by omega)
  have hQ := hQ.only o11 (by omega)
  have m2 := m2.only o11 (by omega)
  have m4 := m4.only o11 (by omega)
  have hR := hR.only o11 (by omega)
  have hy9 := hy9.only o11 (by first | (intro h; have h2 := h.2; omega) | (intro h; rcases h.1 with h1 | h1; (have := hA _ h1; omega); (have := h.2; omega)) | (intro h; rcases h.1 with h1 | h1; (have := h1.2; omega); (have := h.2; omega)) | (intro h; rcases h.1 with h1 | h1; (exact hAS _ h1.1 rfl); (have := h.2; omega)) | (intro h; rcases h with h | h; (have := hA _ h; omega); omega) | (intro h; have := hA _ h; omega) | (intro h; rcases h with h | h; (have := h.2; omega); omega) | exact Ar.nbr | exact Ai.nbr | exact Ar.no (by omega) | exact Ai.no (by omega))
  refine s_end (hK2 _ _ ?_)
  refine wp_ret (res_cell hF rfl rfl m7 wide27 ⟨_, rfl, ⟨⟨y9, rfl, hy9.mono (fun k hk => by rcases hk.1 with hk | hk; (· exact hk.1); exact .inr (by omega))⟩, hR⟩, hQ⟩)

set_option maxRecDepth 100000 in
set_option maxHeartbeats 400000 in
theorem owned57 (W : World) (br : Nat) (hbr : br < W.heap.size) (A : Nat → Prop) (hA : ∀ k, A k → k ≠ br ∧ k < W.heap.size) (c : CT) (x : C8) (hx : RC W A c x) (hR : Room W br) : Calls Try.prog 46 #[.pointer (some ⟨br, 0, none⟩), tv x] W fun e w' => ∃ u, e = .returned u ∧ ((∃ y, u = tv y ∧ RE w' (AS A W.heap.size) c.ess y) ∧ Room w' br) ∧ Ktw br br W w' := by
  have hQ := Ktw.refl br br W
  have sQ := hQ.size
  have hA2 : ∀ k, A k → k ≠ br ∧ k ≠ br := fun k hk => ⟨(hA k hk).1, (hA k hk).1⟩
  refine calls_fs 14 [(0, .pointer (some ⟨br, 0, none⟩)), (1, tv x)] Try.func46 rfl rfl rfl rfl rfl fun a hF => ?_
  refine wp_rs fun K1 hK1 => ?_
  refine s_box ([.pointer (some ⟨br, 0, none⟩)]) hF (by decide) rfl rfl fun w2 b2 a eb2 m2 B3 zb2 hF => ?_
  have sB3 := B3.size
  have hQ := hQ.below B3
  have hR := hR.below B3
  refine s_box (tc x) hF (by decide) rfl rfl fun w4 b3 a eb3 m3 B5 zb3 hF => ?_
  have sB5 := B5.size
  have hQ := hQ.below B5
  have m2 := m2.old B5
  have hR := hR.below B5
  refine s_alloc hF (by decide) zero27 fun w6 b4 a eb4 m4 B7 zb4 hF => ?_
  have sB7 := B7.size
  have hQ := hQ.below B7
  have m2 := m2.old B7
  have m3 := m3.old B7
  have hR := hR.below B7
  refine s_end (hK1 _ _ ?_)
  refine wp_seq_k fun K2 hK2 => ?_
  refine wp_rs fun K3 hK3 => ?_
  refine s_val hF (x_load rfl (m_load flat64 (m2.cell (j := 0) rfl))) (by decide) fun a hF => ?_
  refine s_val hF (x_ldW wide27 m3 rfl rfl) (by decide) fun a hF => ?_
  refine s_litG [tv x] el25 hF (by decide) rfl (by simp [Value.cells, tc]) rfl (by decide) (by decide) fun w8 bl a ebl ml B9 zbl hF => ?_
  have sB9 := B9.size
  have hQ := hQ.below B9
  have m2 := m2.old B9
  have m3 := m3.old B9
  have m4 := m4.old B9
  have hR := hR.below B9
  have ml : Blk w8 bl 27 (tc x) := by simpa [Value.cells] using ml
  have hbl1 := ml.lt
  have hrl : RK w8 (Ai w8.heap.size br) (.slice (some ⟨bl, 0, none⟩) 1 1) [c] := ⟨[x], ⟨by simpa using Rd.blk ml (n := 1) rfl, fun _ b hb => by simp [Value.ownBlock] at hb; subst hb; exact ⟨by omega, by omega⟩⟩, rfl, fun i x2 l2 e1 e2 => by rcases i with _ | i; (· simp at e1 e2; subst e1 e2; exact RC.mono (fun k hk => ⟨(hA k hk).1, by have := (hA k hk).2; omega⟩) (hx.keep hQ.size (fun k hk hb => hQ.block k hb (hA2 k hk)))); simp at e1⟩
  refine s_call (R := fun u w' => ((∃ b, u = .bool b ∧ (b = true → [c].length * 120 ≤ 2147483647 ∧ ∀ c' ∈ [c], c'.dep ≤ 65536)) ∧ Room w' br) ∧ Ktw br br w8 w') hF [_, _, _, _] (enters_of Try.func88 (by kernel_rfl) rfl) rfl (by decide) (takes100 w8 br (by omega) [c] _ hrl w8 (Ktw.refl br br _) hR) ?_
  rintro _ w10 a ⟨⟨⟨b8, rfl, h8⟩, hR⟩, k11⟩ hF
  have sk11 := k11.size
  have hQ := hQ.trans k11 (by omega)
  have m2 := m2.k2 k11 (by omega)
  have m3 := m3.k2 k11 (by omega)
  have m4 := m4.k2 k11 (by omega)
  have ml := ml.k2 k11 (by omega)
  refine s_val hF (x_not rfl) (by decide) fun a hF => ?_
  refine s_end (hK3 _ _ ?_)
  refine wp_ifb hF rfl (fun hc9 => ?_) (fun hc9 => ?_)
  · refine wp_rs fun K4 hK4 => ?_
    refine s_val hF (x_ldW wide27 m3 rfl rfl) (by decide) fun a hF => ?_
    refine s_putW hF rfl rfl (size_wide wide27) m4 rfl hx.one fun w14 m4 o15 => ?_
    have so15 := o15.size
    have hQ := hQ.only o15 (by omega)
    have m2 := m2.only o15 (by omega)
    have m3 := m3.only o15 (by omega)
    have ml := ml.only o15 (by omega)
    have hR := hR.only o15 (by omega)
    refine s_end (hK4 _ _ ?_)
    refine wp_ret (then_ret (res_cell hF rfl rfl m4 wide27 ⟨_, rfl, ⟨⟨x, rfl, ((hx.keep hQ.size (fun k hk hb => hQ.block k hb (hA2 k hk))).mono (fun k hk => .inl hk)).re⟩, hR⟩, hQ⟩))
  · obtain rfl : b8 = true := by simpa using hc9
    have hdp9 : c.dep ≤ 65536 := (h8 rfl).2 c (by simp)
    refine wp_skip (hK2 _ _ ?_)
    refine wp_rs fun K5 hK5 => ?_
    refine s_val hF (x_ldW wide27 m3 rfl rfl) (by decide) fun a hF => ?_
    refine s_val hF (x_mkf [_] rfl) (by decide) fun a hF => ?_
    have hx9 := hx.keep hQ.size (fun k hk hb => hQ.block k hb (hA2 k hk))
    have hA9 : ∀ k, A k → k ≠ br ∧ k < w10.heap.size := fun k hk => ⟨(hA k hk).1, by have := (hA k hk).2; omega⟩
    refine s_call (R := fun u w' => ((∃ y, u = tv y ∧ RE w' (AS A w10.heap.size) (c.fold (Go_) 0) y) ∧ Room w' br) ∧ Ktw br br w10 w') hF [_, _, _] (enters_of Try.func69 (by kernel_rfl) rfl) rfl (by decide) (fold88 w10 br (by omega) A hA9 90 [.pointer (some ⟨b2, 0, none⟩)] (enters_of Try.func90 (by kernel_rfl) rfl) 65536 (by decide) (Go_) (clo102 w10 br (by omega) A hA9 b2 m2 (by omega) 65536) (c.size + 1) c x 0 w10 (by omega) hx9 (by decide) (by omega) (Ktw.refl br br _) hR) ?_
    rintro _ w16 a ⟨⟨⟨y9, rfl, hy9⟩, hR⟩, k17⟩ hF
    have sk17 := k17.size
    have hQ := hQ.trans k17 (by omega)
    have m2 := m2.k2 k17 (by omega)
    have m3 := m3.k2 k17 (by omega)
    have m4 := m4.k2 k17 (by omega)
    have ml := ml.k2 k17 (by omega)
    refine s_putW hF rfl rfl (size_wide wide27) m4 rfl hy9.one fun w20 m4 o21 => ?_
    have so21 := o21.size
    have hQ := hQ.only o21 (by omega)
    have m2 := m2.only o21 (by omega)
    have m3 := m3.only o21 (by omega)
    have ml := ml.only o21 (by omega)
    have hR := hR.only o21 (by omega)
    have hy9 := hy9.only o21 (by first | (intro h; have h2 := h.2; omega) | (intro h; rcases h.1 with h1 | h1; (have := hA _ h1; omega); (have := h.2; omega)) | (intro h; rcases h.1 with h1 | h1; (have := h1.2; omega); (have := h.2; omega)) | (intro h; rcases h.1 with h1 | h1; (exact hAS _ h1.1 rfl); (have := h.2; omega)) | (intro h; rcases h with h | h; (have := hA _ h; omega); omega) | (intro h; have := hA _ h; omega) | (intro h; rcases h with h | h; (have := h.2; omega); omega) | exact Ar.nbr | exact Ai.nbr | exact Ar.no (by omega) | exact Ai.no (by omega))
    refine s_end (hK5 _ _ ?_)
    rw [fold_own] at hy9
    refine wp_ret (res_cell hF rfl rfl m4 wide27 ⟨_, rfl, ⟨⟨y9, rfl, hy9.mono (AS.mono (by omega))⟩, hR⟩, hQ⟩)

set_option maxRecDepth 100000 in
set_option maxHeartbeats 400000 in
theorem clo131 (wl : World) (br : Nat) (hbr : br < wl.heap.size) (A : Nat → Prop) (hA : ∀ k, A k → k ≠ br ∧ k < wl.heap.size) (f b : Int) (hf : 0 ≤ f) (hb0 : -4611686018427387904 ≤ b) (bp bf bb : Nat) (mp : Blk wl bp 61 [.pointer (some ⟨br, 0, none⟩)]) (mf : Blk wl bf 3 [.int .i64 f]) (mb : Blk wl bb 3 [.int .i64 b]) (hne : bp ≠ br ∧ bf ≠ br ∧ bb ≠ br) (D : Int) (hD : D ≤ 4611686018427387904) (W : World) (c : CT) (x : C8) (d : Int) (kv : Value) (ps : List PT) (s : Nat) (hK : Ktw br br wl W) (hR : Room W br) (hx : RC wl A c x) (hd0 : 0 ≤ d) (hdD : d ≤ D) (hs0 : wl.heap.size ≤ s) (hs1 : s ≤ W.heap.size) (hkv : RKE W (AS A s) kv ps) (hlen : ps.length = c.kids.length) :
    Calls Try.prog 114 ([tv x, .int .i64 d, kv] ++ [Value.pointer (some ⟨bp, 0, none⟩), Value.pointer (some ⟨bf, 0, none⟩), Value.pointer (some ⟨bb, 0, none⟩)]).toArray W fun e w' => ∃ v, e = .returned v ∧ ((∃ y, v = tv y ∧ RE w' (AS A s) (Gl f b c d ps) y) ∧ Room w' br) ∧ Ktw br br W w' := by
  have hQ := Ktw.refl br br W
  have sQ := hQ.size
  have sK := hK.size
  have hA2 : ∀ k, A k → k ≠ br ∧ k ≠ br := fun k hk => ⟨(hA k hk).1, (hA k hk).1⟩
  have hAS : ∀ k, AS A s k → k ≠ br := fun k hk => by rcases hk with hk | hk; (· exact (hA k hk).1); omega
  have hkv0 := hkv.valid
  have mp := mp.k2 hK (by omega)
  have mf := mf.k2 hK (by omega)
  have mb := mb.k2 hK (by omega)
  have hpl := mp.lt
  have hfl := mf.lt
  have hbl := mb.lt
  have hrng : x.k = 1 → in64 x.n := fun h => by
    obtain ⟨n, m, rfl⟩ := hx.var_of h
    have h1 := hx.2.1
    have h2 := hx.2.2.1
    rw [h1]; exact h2
  have hres : ¬ (x.k = 1 ∧ d ≤ x.n ∧ f ≤ x.n - d) → Gl f b c d ps = nodeP c ps := by
    intro h
    cases c with
    | var n m =>
      have h1 := hx.1
      have h2 := hx.2.1
      simp only [Gl, nodeP, liftN]
      rw [if_neg (by rw [← h2]; exact fun h' => h ⟨h1, h'.1, h'.2⟩)]
    | _ => rfl
  refine calls_fs 40 [(0, tv x), (1, .int .i64 d), (2, kv), (3, Value.pointer (some ⟨bp, 0, none⟩)), (4, Value.pointer (some ⟨bf, 0, none⟩)), (5, Value.pointer (some ⟨bb, 0, none⟩))] Try.func114 rfl rfl rfl rfl rfl fun a hF => ?_
  refine wp_rs fun K1 hK1 => ?_
  refine s_box (tc x) hF (by decide) rfl rfl fun w2 b6 a eb6 m6 B3 zb6 hF => ?_
  have sB3 := B3.size
  have hK := hK.below B3
  have hQ := hQ.below B3
  have mp := mp.old B3
  have mf := mf.old B3
  have mb := mb.old B3
  have hR := hR.below B3
  refine s_alloc hF (by decide) zero27 fun w4 b9 a eb9 m9 B5 zb9 hF => ?_
  have sB5 := B5.size
  have hK := hK.below B5
  have hQ := hQ.below B5
  have mp := mp.old B5
  have mf := mf.old B5
  have mb := mb.old B5
  have m6 := m6.old B5
  have hR := hR.below B5
  refine s_end (hK1 _ _ ?_)
  refine wp_rs fun K2 hK2 => ?_
  refine s_val hF (x_load rfl (m_load flat64 (mp.cell (j := 0) rfl))) (by decide) fun a hF => ?_
  refine s_val hF (x_ldW wide27 m6 rfl rfl) (by decide) fun a hF => ?_
  refine s_val hF (x_move rfl) (by decide) fun a hF => ?_
  refine s_call (R := fun u w' => ((∃ y, u = tv y ∧ RE w' (fun k => (AS A s k ∧ k < W.heap.size) ∨ w4.heap.size ≤ k) (nodeP c ps) y) ∧ Room w' br) ∧ Ktw br br w4 w') hF [_, _, _] (enters_of Try.func73 (by kernel_rfl) rfl) rfl (by decide) (node92 w4 br (by omega) (fun k => AS A s k ∧ k < W.heap.size) (fun k hk => ⟨hAS k hk.1, by have := hk.2; omega⟩) c x ((hx.keep hK.size (fun k hk hb => hK.block k hb (hA2 k hk))).mono (fun k hk => ⟨.inl hk, by have := hA k hk; omega⟩)) kv ps (hkv0.keep hQ.size (fun k hk hb => hQ.block k hb ⟨hAS k hk.1, hAS k hk.1⟩)) hlen hR) ?_
  rintro _ w6 a ⟨⟨⟨y9, rfl, hy9⟩, hR⟩, k7⟩ hF
  have sk7 := k7.size
  have hK := hK.trans k7 (by omega)
  have hQ := hQ.trans k7 (by omega)
  have mp := mp.k2 k7 (by omega)
  have mf := mf.k2 k7 (by omega)
  have mb := mb.k2 k7 (by omega)
  have m6 := m6.k2 k7 (by omega)
  have m9 := m9.k2 k7 (by omega)
  have hy9 := hy9.valid
  refine s_alloc hF (by decide) zero27 fun w8 b10 a eb10 m10 B9 zb10 hF => ?_
  have sB9 := B9.size
  have hK := hK.below B9
  have hQ := hQ.below B9
  have mp := mp.old B9
  have mf := mf.old B9
  have mb := mb.old B9
  have m6 := m6.old B9
  have m9 := m9.old B9
  have hR := hR.below B9
  have hy9 := hy9.below B9
  refine s_putW hF rfl rfl (size_wide wide27) m10 rfl hy9.one fun w12 m10 o13 => ?_
  have so13 := o13.size
  have hK := hK.only o13 (by omega)
  have hQ := hQ.only o13 (by omega)
  have mp := mp.only o13 (by omega)
  have mf := mf.only o13 (by omega)
  have mb := mb.only o13 (by omega)
  have m6 := m6.only o13 (by omega)
  have m9 := m9.only o13 (by omega)
  have hR := hR.only o13 (by omega)
  have hy9 := hy9.only o13 (by first | (intro h; have h2 := h.2; omega) | (intro h; rcases h.1 with h1 | h1; (have := hA _ h1; omega); (have := h.2; omega)) | (intro h; rcases h.1 with h1 | h1; (have := h1.2; omega); (have := h.2; omega)) | (intro h; rcases h.1 with h1 | h1; (exact hAS _ h1.1 rfl); (have := h.2; omega)) | (intro h; rcases h with h | h; (have := hA _ h; omega); omega) | (intro h; have := hA _ h; omega) | (intro h; rcases h with h | h; (have := h.2; omega); omega) | exact Ar.nbr | exact Ai.nbr | exact Ar.no (by omega) | exact Ai.no (by omega))
  refine s_end (hK2 _ _ ?_)
  refine wp_seq_k fun K3 hK3 => ?_
  rcases (show (x.k = 1 ∧ d ≤ x.n ∧ f ≤ x.n - d) ∨ (x.k = 1 ∧ d ≤ x.n ∧ ¬ f ≤ x.n - d) ∨ (x.k = 1 ∧ ¬ d ≤ x.n) ∨ x.k ≠ 1 by omega) with hk9 | hk9 | hk9 | hk9
  · have hri0 := hrng hk9.1
    unfold in64 at hri0
    refine wp_rs fun K5 hK5 => ?_
    refine s_val hF (x_fa0 fa27_0 rfl) (by decide) fun a hF => ?_
    refine s_val hF (x_load rfl (m_load flat3 (m6.cell (j := 0) rfl))) (by decide) fun a hF => ?_
    refine s_val hF (x_eql (b := true) (decide_eq_true (by omega)) rfl rfl) (by decide) fun a hF => ?_
    refine s_val hF (x_move rfl) (by decide) fun a hF => ?_
    refine s_grd 18 hF rfl rfl rfl ?_
    refine s_val hF (x_fa0 fa27_1 rfl) (by decide) fun a hF => ?_
    refine s_grd 18 hF rfl rfl rfl ?_
    refine s_val hF (x_load rfl (m_load flat3 (m6.cell (j := 1) rfl))) (by decide) fun a hF => ?_
    refine s_grd 18 hF rfl rfl rfl ?_
    refine s_val hF (x_move rfl) (by decide) fun a hF => ?_
    refine s_grd 18 hF rfl rfl rfl ?_
    refine s_val hF (x_geq (b := true) (decide_eq_true (by omega)) rfl rfl) (by decide) fun a hF => ?_
    refine s_val hF (x_pick (b := true) rfl rfl) (by decide) fun a hF => ?_
    refine s_val hF (x_move rfl) (by decide) fun a hF => ?_
    refine s_grd 24 hF rfl rfl rfl ?_
    refine s_val hF (x_fa0 fa27_1 rfl) (by decide) fun a hF => ?_
    refine s_grd 24 hF rfl rfl rfl ?_
    refine s_val hF (x_load rfl (m_load flat3 (m6.cell (j := 1) rfl))) (by decide) fun a hF => ?_
    refine s_grd 24 hF rfl rfl rfl ?_
    refine s_val hF (x_move rfl) (by decide) fun a hF => ?_
    refine s_grd 24 hF rfl rfl rfl ?_
    refine s_val hF (x_sub (by omega) (by omega) rfl rfl) (by decide) fun a hF => ?_
    refine s_grd 24 hF rfl rfl rfl ?_
    refine s_val hF (x_load rfl (m_load flat3 (mf.cell (j := 0) rfl))) (by decide) fun a hF => ?_
    refine s_grd 24 hF rfl rfl rfl ?_
    refine s_val hF (x_geq (b := true) (decide_eq_true (by omega)) rfl rfl) (by decide) fun a hF => ?_
    refine s_val hF (x_pick (b := true) rfl rfl) (by decide) fun a hF => ?_
    refine s_end (hK5 _ _ ?_)
    refine wp_if hF rfl ?_
    refine wp_region_lit ?_
    refine s_val hF (x_fa0 fa27_1 rfl) (by decide) fun a hF => ?_
    refine s_val hF (x_load rfl (m_load flat3 (m6.cell (j := 1) rfl))) (by decide) fun a hF => ?_
    refine s_val hF (x_load rfl (m_load flat3 (mb.cell (j := 0) rfl))) (by decide) fun a hF => ?_
    refine s_callS [_, _] hF (enters_of Try.func80 (by kernel_rfl) rfl) rfl (by decide) (plus78 x.n b w12 (by omega) (by have := hrng hk9.1; unfold in64 at this; omega) (by omega)) fun a hF => ?_
    refine s_val hF (x_move rfl) (by decide) fun a hF => ?_
    refine s_val hF (x_imax rfl rfl) (by decide) fun a hF => ?_
    refine s_val hF (x_fa0 fa27_1 rfl) (by decide) fun a hF => ?_
    refine s_put hF rfl rfl flat3 m10 (by first | (simp; done) | (simp [tc, lc]; done) | decide) rfl fun w14 m10 o15 => ?_
    have so15 := o15.size
    have hK := hK.only o15 (by omega)
    have hQ := hQ.only o15 (by omega)
    have mp := mp.only o15 (by omega)
    have mf := mf.only o15 (by omega)
    have mb := mb.only o15 (by omega)
    have m6 := m6.only o15 (by omega)
    have m9 := m9.only o15 (by omega)
    have hR := hR.only o15 (by omega)
    have hy9 := hy9.only o15 (by first | (intro h; have h2 := h.2; omega) | (intro h; rcases h.1 with h1 | h1; (have := hA _ h1; omega); (have := h.2; omega)) | (intro h; rcases h.1 with h1 | h1; (have := h1.2; omega); (have := h.2; omega)) | (intro h; rcases h.1 with h1 | h1; (exact hAS _ h1.1 rfl); (have := h.2; omega)) | (intro h; rcases h with h | h; (have := hA _ h; omega); omega) | (intro h; have := hA _ h; omega) | (intro h; rcases h with h | h; (have := h.2; omega); omega) | exact Ar.nbr | exact Ai.nbr | exact Ar.no (by omega) | exact Ai.no (by omega))
    refine s_end (hK3 _ _ ?_)
    obtain ⟨n9, mm9, rfl⟩ := hx.var_of hk9.1
    have hn9 : x.n = n9 := hx.2.1
    have hri := hrng hk9.1
    unfold in64 at hri
    obtain ⟨c9, hc9, he9⟩ := hy9
    have hc9v : ∃ m, c9 = .var n9 m := by cases c9 <;> simp [nodeP, CT.ess] at he9; exact ⟨_, by rw [he9]⟩
    obtain ⟨mm8, rfl⟩ := hc9v
    have hyn9 : y9.n = n9 := hc9.2.1
    have hG9 : Gl f b (.var n9 mm9) d ps = .var (max (min (x.n + b) 9223372036854775807) d) := by simp only [Gl]; rw [liftN, ← hn9, if_pos ⟨hk9.2.1, hk9.2.2⟩]
    have hz9 : RE w14 (fun k => ((AS A s k ∧ k < W.heap.size) ∨ w4.heap.size ≤ k) ∧ k < w6.heap.size) (Gl f b (.var n9 mm9) d ps) ⟨y9.k, max (min (x.n + b) 9223372036854775807) d, y9.s, y9.l, y9.ls, y9.ts⟩ := by rw [hG9]; exact ⟨.var (max (min (x.n + b) 9223372036854775807) d) mm8, ⟨hc9.1, rfl, by unfold in64; omega, hc9.2.2.2.1, hc9.2.2.2.2⟩, rfl⟩
    have h1Y := hz9.one
    refine wp_rs fun K6 hK6 => ?_
    refine s_val hF (x_ldW wide27 m10 rfl rfl) (by decide) fun a hF => ?_
    refine s_putW hF rfl rfl (size_wide wide27) m9 rfl h1Y fun w18 m9 o19 => ?_
    have so19 := o19.size
    have hK := hK.only o19 (by omega)
    have hQ := hQ.only o19 (by omega)
    have mp := mp.only o19 (by omega)
    have mf := mf.only o19 (by omega)
    have mb := mb.only o19 (by omega)
    have m6 := m6.only o19 (by omega)
    have m10 := m10.only o19 (by omega)
    have hR := hR.only o19 (by omega)
    have hz9 := hz9.only o19 (by first | (intro h; have h2 := h.2; omega) | (intro h; rcases h.1 with h1 | h1; (have := hA _ h1; omega); (have := h.2; omega)) | (intro h; rcases h.1 with h1 | h1; (have := h1.2; omega); (have := h.2; omega)) | (intro h; rcases h.1 with h1 | h1; (exact hAS _ h1.1 rfl); (have := h.2; omega)) | (intro h; rcases h with h | h; (have := hA _ h; omega); omega) | (intro h; have := hA _ h; omega) | (intro h; rcases h with h | h; (have := h.2; omega); omega) | exact Ar.nbr | exact Ai.nbr | exact Ar.no (by omega) | exact Ai.no (by omega))
    refine s_end (hK6 _ _ ?_)
    refine wp_ret (res_cell hF rfl rfl m9 wide27 ⟨_, rfl, ⟨⟨_, rfl, hz9.mono (fun k hk => by rcases hk.1 with hk | hk; (· exact hk.1); exact .inr (by omega))⟩, hR⟩, hQ⟩)
  · have hri0 := hrng hk9.1
    unfold in64 at hri0
    refine wp_rs fun K7 hK7 => ?_
    refine s_val hF (x_fa0 fa27_0 rfl) (by decide) fun a hF => ?_
    refine s_val hF (x_load rfl (m_load flat3 (m6.cell (j := 0) rfl))) (by decide) fun a hF => ?_
    refine s_val hF (x_eql (b := true) (decide_eq_true (by omega)) rfl rfl) (by decide) fun a hF => ?_
    refine s_val hF (x_move rfl) (by decide) fun a hF => ?_
    refine s_grd 18 hF rfl rfl rfl ?_
    refine s_val hF (x_fa0 fa27_1 rfl) (by decide) fun a hF => ?_
    refine s_grd 18 hF rfl rfl rfl ?_
    refine s_val hF (x_load rfl (m_load flat3 (m6.cell (j := 1) rfl))) (by decide) fun a hF => ?_
    refine s_grd 18 hF rfl rfl rfl ?_
    refine s_val hF (x_move rfl) (by decide) fun a hF => ?_
    refine s_grd 18 hF rfl rfl rfl ?_
    refine s_val hF (x_geq (b := true) (decide_eq_true (by omega)) rfl rfl) (by decide) fun a hF => ?_
    refine s_val hF (x_pick (b := true) rfl rfl) (by decide) fun a hF => ?_
    refine s_val hF (x_move rfl) (by decide) fun a hF => ?_
    refine s_grd 24 hF rfl rfl rfl ?_
    refine s_val hF (x_fa0 fa27_1 rfl) (by decide) fun a hF => ?_
    refine s_grd 24 hF rfl rfl rfl ?_
    refine s_val hF (x_load rfl (m_load flat3 (m6.cell (j := 1) rfl))) (by decide) fun a hF => ?_
    refine s_grd 24 hF rfl rfl rfl ?_
    refine s_val hF (x_move rfl) (by decide) fun a hF => ?_
    refine s_grd 24 hF rfl rfl rfl ?_
    refine s_val hF (x_sub (by omega) (by omega) rfl rfl) (by decide) fun a hF => ?_
    refine s_grd 24 hF rfl rfl rfl ?_
    refine s_val hF (x_load rfl (m_load flat3 (mf.cell (j := 0) rfl))) (by decide) fun a hF => ?_
    refine s_grd 24 hF rfl rfl rfl ?_
    refine s_val hF (x_geq (b := false) (decide_eq_false (by omega)) rfl rfl) (by decide) fun a hF => ?_
    refine s_val hF (x_pick (b := true) rfl rfl) (by decide) fun a hF => ?_
    refine s_end (hK7 _ _ ?_)
    refine wp_if hF rfl ?_
    refine wp_skip (hK3 _ _ ?_)
    have h1Y := hy9.one
    refine wp_rs fun K8 hK8 => ?_
    refine s_val hF (x_ldW wide27 m10 rfl rfl) (by decide) fun a hF => ?_
    refine s_putW hF rfl rfl (size_wide wide27) m9 rfl h1Y fun w22 m9 o23 => ?_
    have so23 := o23.size
    have hK := hK.only o23 (by omega)
    have hQ := hQ.only o23 (by omega)
    have mp := mp.only o23 (by omega)
    have mf := mf.only o23 (by omega)
    have mb := mb.only o23 (by omega)
    have m6 := m6.only o23 (by omega)
    have m10 := m10.only o23 (by omega)
    have hR := hR.only o23 (by omega)
    have hy9 := hy9.only o23 (by first | (intro h; have h2 := h.2; omega) | (intro h; rcases h.1 with h1 | h1; (have := hA _ h1; omega); (have := h.2; omega)) | (intro h; rcases h.1 with h1 | h1; (have := h1.2; omega); (have := h.2; omega)) | (intro h; rcases h.1 with h1 | h1; (exact hAS _ h1.1 rfl); (have := h.2; omega)) | (intro h; rcases h with h | h; (have := hA _ h; omega); omega) | (intro h; have := hA _ h; omega) | (intro h; rcases h with h | h; (have := h.2; omega); omega) | exact Ar.nbr | exact Ai.nbr | exact Ar.no (by omega) | exact Ai.no (by omega))
    refine s_end (hK8 _ _ ?_)
    refine wp_ret (res_cell hF rfl rfl m9 wide27 ⟨_, rfl, ⟨⟨y9, rfl, by rw [hres (by omega)]; exact hy9.mono (fun k hk => by rcases hk.1 with hk | hk; (· exact hk.1); exact .inr (by omega))⟩, hR⟩, hQ⟩)
  · skip
    refine wp_rs fun K9 hK9 => ?_
    refine s_val hF (x_fa0 fa27_0 rfl) (by decide) fun a hF => ?_
    refine s_val hF (x_load rfl (m_load flat3 (m6.cell (j := 0) rfl))) (by decide) fun a hF => ?_
    refine s_val hF (x_eql (b := true) (decide_eq_true (by omega)) rfl rfl) (by decide) fun a hF => ?_
    refine s_val hF (x_move rfl) (by decide) fun a hF => ?_
    refine s_grd 18 hF rfl rfl rfl ?_
    refine s_val hF (x_fa0 fa27_1 rfl) (by decide) fun a hF => ?_
    refine s_grd 18 hF rfl rfl rfl ?_
    refine s_val hF (x_load rfl (m_load flat3 (m6.cell (j := 1) rfl))) (by decide) fun a hF => ?_
    refine s_grd 18 hF rfl rfl rfl ?_
    refine s_val hF (x_move rfl) (by decide) fun a hF => ?_
    refine s_grd 18 hF rfl rfl rfl ?_
    refine s_val hF (x_geq (b := false) (decide_eq_false (by omega)) rfl rfl) (by decide) fun a hF => ?_
    refine s_val hF (x_pick (b := true) rfl rfl) (by decide) fun a hF => ?_
    refine s_val hF (x_move rfl) (by decide) fun a hF => ?_
    refine s_grdn 24 hF rfl rfl (by decide) fun a hF => ?_
    refine s_grdn 24 hF rfl rfl (by decide) fun a hF => ?_
    refine s_grdn 24 hF rfl rfl (by decide) fun a hF => ?_
    refine s_grdn 24 hF rfl rfl (by decide) fun a hF => ?_
    refine s_grdn 24 hF rfl rfl (by decide) fun a hF => ?_
    refine s_grdn 24 hF rfl rfl (by decide) fun a hF => ?_
    refine s_val hF (x_pick (b := false) rfl rfl) (by decide) fun a hF => ?_
    refine s_end (hK9 _ _ ?_)
    refine wp_if hF rfl ?_
    refine wp_skip (hK3 _ _ ?_)
    have h1Y := hy9.one
    refine wp_rs fun K10 hK10 => ?_
    refine s_val hF (x_ldW wide27 m10 rfl rfl) (by decide) fun a hF => ?_
    refine s_putW hF rfl rfl (size_wide wide27) m9 rfl h1Y fun w26 m9 o27 => ?_
    have so27 := o27.size
    have hK := hK.only o27 (by omega)
    have hQ := hQ.only o27 (by omega)
    have mp := mp.only o27 (by omega)
    have mf := mf.only o27 (by omega)
    have mb := mb.only o27 (by omega)
    have m6 := m6.only o27 (by omega)
    have m10 := m10.only o27 (by omega)
    have hR := hR.only o27 (by omega)
    have hy9 := hy9.only o27 (by first | (intro h; have h2 := h.2; omega) | (intro h; rcases h.1 with h1 | h1; (have := hA _ h1; omega); (have := h.2; omega)) | (intro h; rcases h.1 with h1 | h1; (have := h1.2; omega); (have := h.2; omega)) | (intro h; rcases h.1 with h1 | h1; (exact hAS _ h1.1 rfl); (have := h.2; omega)) | (intro h; rcases h with h | h; (have := hA _ h; omega); omega) | (intro h; have := hA _ h; omega) | (intro h; rcases h with h | h; (have := h.2; omega); omega) | exact Ar.nbr | exact Ai.nbr | exact Ar.no (by omega) | exact Ai.no (by omega))
    refine s_end (hK10 _ _ ?_)
    refine wp_ret (res_cell hF rfl rfl m9 wide27 ⟨_, rfl, ⟨⟨y9, rfl, by rw [hres (by omega)]; exact hy9.mono (fun k hk => by rcases hk.1 with hk | hk; (· exact hk.1); exact .inr (by omega))⟩, hR⟩, hQ⟩)
  · skip
    refine wp_rs fun K11 hK11 => ?_
    refine s_val hF (x_fa0 fa27_0 rfl) (by decide) fun a hF => ?_
    refine s_val hF (x_load rfl (m_load flat3 (m6.cell (j := 0) rfl))) (by decide) fun a hF => ?_
    refine s_val hF (x_eql (b := false) (decide_eq_false (by omega)) rfl rfl) (by decide) fun a hF => ?_
    refine s_val hF (x_move rfl) (by decide) fun a hF => ?_
    refine s_grdn 18 hF rfl rfl (by decide) fun a hF => ?_
    refine s_grdn 18 hF rfl rfl (by decide) fun a hF => ?_
    refine s_grdn 18 hF rfl rfl (by decide) fun a hF => ?_
    refine s_grdn 18 hF rfl rfl (by decide) fun a hF => ?_
    refine s_val hF (x_pick (b := false) rfl rfl) (by decide) fun a hF => ?_
    refine s_val hF (x_move rfl) (by decide) fun a hF => ?_
    refine s_grdn 24 hF rfl rfl (by decide) fun a hF => ?_
    refine s_grdn 24 hF rfl rfl (by decide) fun a hF => ?_
    refine s_grdn 24 hF rfl rfl (by decide) fun a hF => ?_
    refine s_grdn 24 hF rfl rfl (by decide) fun a hF => ?_
    refine s_grdn 24 hF rfl rfl (by decide) fun a hF => ?_
    refine s_grdn 24 hF rfl rfl (by decide) fun a hF => ?_
    refine s_val hF (x_pick (b := false) rfl rfl) (by decide) fun a hF => ?_
    refine s_end (hK11 _ _ ?_)
    refine wp_if hF rfl ?_
    refine wp_skip (hK3 _ _ ?_)
    have h1Y := hy9.one
    refine wp_rs fun K12 hK12 => ?_
    refine s_val hF (x_ldW wide27 m10 rfl rfl) (by decide) fun a hF => ?_
    refine s_putW hF rfl rfl (size_wide wide27) m9 rfl h1Y fun w30 m9 o31 => ?_
    have so31 := o31.size
    have hK := hK.only o31 (by omega)
    have hQ := hQ.only o31 (by omega)
    have mp := mp.only o31 (by omega)
    have mf := mf.only o31 (by omega)
    have mb := mb.only o31 (by omega)
    have m6 := m6.only o31 (by omega)
    have m10 := m10.only o31 (by omega)
    have hR := hR.only o31 (by omega)
    have hy9 := hy9.only o31 (by first | (intro h; have h2 := h.2; omega) | (intro h; rcases h.1 with h1 | h1; (have := hA _ h1; omega); (have := h.2; omega)) | (intro h; rcases h.1 with h1 | h1; (have := h1.2; omega); (have := h.2; omega)) | (intro h; rcases h.1 with h1 | h1; (exact hAS _ h1.1 rfl); (have := h.2; omega)) | (intro h; rcases h with h | h; (have := hA _ h; omega); omega) | (intro h; have := hA _ h; omega) | (intro h; rcases h with h | h; (have := h.2; omega); omega) | exact Ar.nbr | exact Ai.nbr | exact Ar.no (by omega) | exact Ai.no (by omega))
    refine s_end (hK12 _ _ ?_)
    refine wp_ret (res_cell hF rfl rfl m9 wide27 ⟨_, rfl, ⟨⟨y9, rfl, by rw [hres (by omega)]; exact hy9.mono (fun k hk => by rcases hk.1 with hk | hk; (· exact hk.1); exact .inr (by omega))⟩, hR⟩, hQ⟩)

set_option maxRecDepth 100000 in
set_option maxHeartbeats 400000 in
theorem lifted93 (W : World) (br : Nat) (hbr : br < W.heap.size) (A : Nat → Prop) (hA : ∀ k, A k → k ≠ br ∧ k < W.heap.size) (c : CT) (x : C8) (hx : RC W A c x) (f b : Int) (hf : 0 ≤ f) (hb0 : -4611686018427387904 ≤ b) (hdp : (c.dep : Int) ≤ 4611686018427387904) (hR : Room W br) : Calls Try.prog 74 #[.pointer (some ⟨br, 0, none⟩), tv x, .int .i64 f, .int .i64 b] W fun e w' => ∃ u, e = .returned u ∧ ((∃ y, u = tv y ∧ RE w' (AS A W.heap.size) (c.ess.lift f b 0) y) ∧ Room w' br) ∧ Ktw br br W w' := by
  have hQ := Ktw.refl br br W
  have sQ := hQ.size
  have hA2 : ∀ k, A k → k ≠ br ∧ k ≠ br := fun k hk => ⟨(hA k hk).1, (hA k hk).1⟩
  refine calls_fs 12 [(0, .pointer (some ⟨br, 0, none⟩)), (1, tv x), (2, .int .i64 f), (3, .int .i64 b)] Try.func74 rfl rfl rfl rfl rfl fun a hF => ?_
  refine wp_rs fun K1 hK1 => ?_
  refine s_box ([.pointer (some ⟨br, 0, none⟩)]) hF (by decide) rfl rfl fun w2 b4 a eb4 m4 B3 zb4 hF => ?_
  have sB3 := B3.size
  have hQ := hQ.below B3
  have hR := hR.below B3
  refine s_box (tc x) hF (by decide) rfl rfl fun w4 b5 a eb5 m5 B5 zb5 hF => ?_
  have sB5 := B5.size
  have hQ := hQ.below B5
  have m4 := m4.old B5
  have hR := hR.below B5
  refine s_box ([.int .i64 f]) hF (by decide) rfl rfl fun w6 b6 a eb6 m6 B7 zb6 hF => ?_
  have sB7 := B7.size
  have hQ := hQ.below B7
  have m4 := m4.old B7
  have m5 := m5.old B7
  have hR := hR.below B7
  refine s_box ([.int .i64 b]) hF (by decide) rfl rfl fun w8 b7 a eb7 m7 B9 zb7 hF => ?_
  have sB9 := B9.size
  have hQ := hQ.below B9
  have m4 := m4.old B9
  have m5 := m5.old B9
  have m6 := m6.old B9
  have hR := hR.below B9
  refine s_alloc hF (by decide) zero27 fun w10 b8 a eb8 m8 B11 zb8 hF => ?_
  have sB11 := B11.size
  have hQ := hQ.below B11
  have m4 := m4.old B11
  have m5 := m5.old B11
  have m6 := m6.old B11
  have m7 := m7.old B11
  have hR := hR.below B11
  refine s_end (hK1 _ _ ?_)
  refine wp_rs fun K2 hK2 => ?_
  refine s_val hF (x_ldW wide27 m5 rfl rfl) (by decide) fun a hF => ?_
  refine s_val hF (x_mkf [_, _, _] rfl) (by decide) fun a hF => ?_
  have hx9 := hx.keep hQ.size (fun k hk hb => hQ.block k hb (hA2 k hk))
  have hA9 : ∀ k, A k → k ≠ br ∧ k < w10.heap.size := fun k hk => ⟨(hA k hk).1, by have := (hA k hk).2; omega⟩
  refine s_call (R := fun u w' => ((∃ y, u = tv y ∧ RE w' (AS A w10.heap.size) (c.fold (Gl f b) 0) y) ∧ Room w' br) ∧ Ktw br br w10 w') hF [_, _, _] (enters_of Try.func69 (by kernel_rfl) rfl) rfl (by decide) (fold88 w10 br (by omega) A hA9 114 [.pointer (some ⟨b4, 0, none⟩), .pointer (some ⟨b6, 0, none⟩), .pointer (some ⟨b7, 0, none⟩)] (enters_of Try.func114 (by kernel_rfl) rfl) 4611686018427387904 (by decide) (Gl f b) (clo131 w10 br (by omega) A hA9 f b hf hb0 b4 b6 b7 m4 m6 m7 (by omega) 4611686018427387904 (by decide)) (c.size + 1) c x 0 w10 (by omega) hx9 (by decide) (by omega) (Ktw.refl br br _) hR) ?_
  rintro _ w12 a ⟨⟨⟨y9, rfl, hy9⟩, hR⟩, k13⟩ hF
  have sk13 := k13.size
  have hQ := hQ.trans k13 (by omega)
  have m4 := m4.k2 k13 (by omega)
  have m5 := m5.k2 k13 (by omega)
  have m6 := m6.k2 k13 (by omega)
  have m7 := m7.k2 k13 (by omega)
  have m8 := m8.k2 k13 (by omega)
  refine s_putW hF rfl rfl (size_wide wide27) m8 rfl hy9.one fun w16 m8 o17 => ?_
  have so17 := o17.size
  have hQ := hQ.only o17 (by omega)
  have m4 := m4.only o17 (by omega)
  have m5 := m5.only o17 (by omega)
  have m6 := m6.only o17 (by omega)
  have m7 := m7.only o17 (by omega)
  have hR := hR.only o17 (by omega)
  have hy9 := hy9.only o17 (by first | (intro h; have h2 := h.2; omega) | (intro h; rcases h.1 with h1 | h1; (have := hA _ h1; omega); (have := h.2; omega)) | (intro h; rcases h.1 with h1 | h1; (have := h1.2; omega); (have := h.2; omega)) | (intro h; rcases h.1 with h1 | h1; (exact hAS _ h1.1 rfl); (have := h.2; omega)) | (intro h; rcases h with h | h; (have := hA _ h; omega); omega) | (intro h; have := hA _ h; omega) | (intro h; rcases h with h | h; (have := h.2; omega); omega) | exact Ar.nbr | exact Ai.nbr | exact Ar.no (by omega) | exact Ai.no (by omega))
  refine s_end (hK2 _ _ ?_)
  rw [fold_lift] at hy9
  refine wp_ret (res_cell hF rfl rfl m8 wide27 ⟨_, rfl, ⟨⟨y9, rfl, hy9.mono (AS.mono (by omega))⟩, hR⟩, hQ⟩)

set_option maxRecDepth 100000 in
set_option maxHeartbeats 400000 in
theorem clo122 (wl : World) (br : Nat) (hbr : br < wl.heap.size) (A : Nat → Prop) (hA : ∀ k, A k → k ≠ br ∧ k < wl.heap.size) (cv : CT) (xv : C8) (hv : RC wl A cv xv) (hvd : (cv.dep : Int) ≤ 4611686018427387904) (bp bv : Nat) (mp : Blk wl bp 61 [.pointer (some ⟨br, 0, none⟩)]) (mv : Blk wl bv 27 (tc xv)) (hne : bp ≠ br ∧ bv ≠ br) (D : Int) (hD : D ≤ 4611686018427387904) (W : World) (c : CT) (x : C8) (d : Int) (kv : Value) (ps : List PT) (s : Nat) (hK : Ktw br br wl W) (hR : Room W br) (hx : RC wl A c x) (hd0 : 0 ≤ d) (hdD : d ≤ D) (hs0 : wl.heap.size ≤ s) (hs1 : s ≤ W.heap.size) (hkv : RKE W (AS A s) kv ps) (hlen : ps.length = c.kids.length) :
    Calls Try.prog 103 ([tv x, .int .i64 d, kv] ++ [Value.pointer (some ⟨bp, 0, none⟩), Value.pointer (some ⟨bv, 0, none⟩)]).toArray W fun e w' => ∃ v, e = .returned v ∧ ((∃ y, v = tv y ∧ RE w' (AS A s) (Gp cv.ess c d ps) y) ∧ Room w' br) ∧ Ktw br br W w' := by
  have hQ := Ktw.refl br br W
  have sQ := hQ.size
  have sK := hK.size
  have hA2 : ∀ k, A k → k ≠ br ∧ k ≠ br := fun k hk => ⟨(hA k hk).1, (hA k hk).1⟩
  have hAS : ∀ k, AS A s k → k ≠ br := fun k hk => by rcases hk with hk | hk; (· exact (hA k hk).1); omega
  have hkv0 := hkv.valid
  have mp := mp.k2 hK (by omega)
  have mv := mv.k2 hK (by omega)
  have hpl := mp.lt
  have hvl := mv.lt
  have hrng : x.k = 1 → in64 x.n := fun h => by
    obtain ⟨n, m, rfl⟩ := hx.var_of h
    have h1 := hx.2.1
    have h2 := hx.2.2.1
    rw [h1]; exact h2
  have hV := CT.isV_eq hx d
  have hres : ¬ (x.k = 1 ∧ d ≤ x.n) → Gp cv.ess c d ps = nodeP c ps := by
    intro h
    cases c with
    | var n m =>
      have h1 := hx.1
      have h2 := hx.2.1
      simp only [Gp, nodeP]
      rw [if_neg (by omega), if_neg (by omega)]
    | _ => rfl
  refine calls_fs 35 [(0, tv x), (1, .int .i64 d), (2, kv), (3, Value.pointer (some ⟨bp, 0, none⟩)), (4, Value.pointer (some ⟨bv, 0, none⟩))] Try.func103 rfl rfl rfl rfl rfl fun a hF => ?_
  refine wp_rs fun K1 hK1 => ?_
  refine s_box (tc x) hF (by decide) rfl rfl fun w2 b5 a eb5 m5 B3 zb5 hF => ?_
  have sB3 := B3.size
  have hK := hK.below B3
  have hQ := hQ.below B3
  have mp := mp.old B3
  have mv := mv.old B3
  have hR := hR.below B3
  refine s_alloc hF (by decide) zero27 fun w4 b8 a eb8 m8 B5 zb8 hF => ?_
  have sB5 := B5.size
  have hK := hK.below B5
  have hQ := hQ.below B5
  have mp := mp.old B5
  have mv := mv.old B5
  have m5 := m5.old B5
  have hR := hR.below B5
  refine s_end (hK1 _ _ ?_)
  refine wp_seq_k fun K2 hK2 => ?_
  rcases (show (x.k = 1 ∧ x.n = d) ∨ (x.k = 1 ∧ d < x.n) ∨ (x.k = 1 ∧ x.n < d) ∨ x.k ≠ 1 by omega) with hk9 | hk9 | hk9 | hk9
  · skip
    refine wp_rs fun K4 hK4 => ?_
    refine s_val hF (x_ldW wide27 m5 rfl rfl) (by decide) fun a hF => ?_
    refine s_val hF (x_move rfl) (by decide) fun a hF => ?_
    have hiv : c.isV d = true := by rw [hV]; simp [hk9.1, hk9.2]
    refine s_callB [_, _] hF (enters_of Try.func102 (by kernel_rfl) rfl) rfl (by decide) ((isPlace121 c x _ d wl w4 hx).mono fun e w' h => ⟨by rw [h.1, hiv], h.2⟩) fun w6 a B7 hF => ?_
    have sB7 := B7.size
    have hK := hK.below B7
    have hQ := hQ.below B7
    have mp := mp.old B7
    have mv := mv.old B7
    have m5 := m5.old B7
    have m8 := m8.old B7
    have hR := hR.below B7
    refine s_end (hK4 _ _ ?_)
    refine wp_if hF rfl ?_
    refine wp_rs fun K5 hK5 => ?_
    refine s_val hF (x_load rfl (m_load flat64 (mp.cell (j := 0) rfl))) (by decide) fun a hF => ?_
    refine s_val hF (x_ldW wide27 mv rfl rfl) (by decide) fun a hF => ?_
    refine s_val hF (x_move rfl) (by decide) fun a hF => ?_
    obtain ⟨n9, mm9, rfl⟩ := hx.var_of hk9.1
    have hn9 : x.n = n9 := hx.2.1
    have hG9 : Gp cv.ess (.var n9 mm9) d ps = cv.ess.lift 0 d 0 := by simp only [Gp]; rw [if_pos (by omega)]
    refine s_call (R := fun u w' => ((∃ y, u = tv y ∧ RE w' (AS A w6.heap.size) (cv.ess.lift 0 d 0) y) ∧ Room w' br) ∧ Ktw br br w6 w') hF [_, _, _, _] (enters_of Try.func74 (by kernel_rfl) rfl) rfl (by decide) (lifted93 w6 br (by omega) A (fun k hk => ⟨(hA k hk).1, by have := (hA k hk).2; omega⟩) cv xv (hv.keep hK.size (fun k hk hb => hK.block k hb (hA2 k hk))) 0 d (by decide) (by omega) hvd hR) ?_
    rintro _ w8 a ⟨⟨⟨y9, rfl, hy9⟩, hR⟩, k9⟩ hF
    have sk9 := k9.size
    have hK := hK.trans k9 (by omega)
    have hQ := hQ.trans k9 (by omega)
    have mp := mp.k2 k9 (by omega)
    have mv := mv.k2 k9 (by omega)
    have m5 := m5.k2 k9 (by omega)
    have m8 := m8.k2 k9 (by omega)
    refine s_putW hF rfl rfl (size_wide wide27) m8 rfl hy9.one fun w12 m8 o13 => ?_
    have so13 := o13.size
    have hK := hK.only o13 (by omega)
    have hQ := hQ.only o13 (by omega)
    have mp := mp.only o13 (by omega)
    have mv := mv.only o13 (by omega)
    have m5 := m5.only o13 (by omega)
    have hR := hR.only o13 (by omega)
    have hy9 := hy9.only o13 (by first | (intro h; have h2 := h.2; omega) | (intro h; rcases h.1 with h1 | h1; (have := hA _ h1; omega); (have := h.2; omega)) | (intro h; rcases h.1 with h1 | h1; (have := h1.2; omega); (have := h.2; omega)) | (intro h; rcases h.1 with h1 | h1; (exact hAS _ h1.1 rfl); (have := h.2; omega)) | (intro h; rcases h with h | h; (have := hA _ h; omega); omega) | (intro h; have := hA _ h; omega) | (intro h; rcases h with h | h; (have := h.2; omega); omega) | exact Ar.nbr | exact Ai.nbr | exact Ar.no (by omega) | exact Ai.no (by omega))
    refine s_end (hK5 _ _ ?_)
    refine wp_ret (then_ret (res_cell hF rfl rfl m8 wide27 ⟨_, rfl, ⟨⟨y9, rfl, by rw [hG9]; exact hy9.mono (AS.mono (by omega))⟩, hR⟩, hQ⟩))
  · have hri0 := hrng hk9.1
    unfold in64 at hri0
    refine wp_rs fun K6 hK6 => ?_
    refine s_val hF (x_ldW wide27 m5 rfl rfl) (by decide) fun a hF => ?_
    refine s_val hF (x_move rfl) (by decide) fun a hF => ?_
    have hiv : c.isV d = false := by rw [hV, decide_eq_false (show ¬ x.n = d by omega), Bool.and_false]
    refine s_callB [_, _] hF (enters_of Try.func102 (by kernel_rfl) rfl) rfl (by decide) ((isPlace121 c x _ d wl w4 hx).mono fun e w' h => ⟨by rw [h.1, hiv], h.2⟩) fun w14 a B15 hF => ?_
    have sB15 := B15.size
    have hK := hK.below B15
    have hQ := hQ.below B15
    have mp := mp.old B15
    have mv := mv.old B15
    have m5 := m5.old B15
    have m8 := m8.old B15
    have hR := hR.below B15
    refine s_end (hK6 _ _ ?_)
    refine wp_if hF rfl ?_
    refine wp_skip (hK2 _ _ ?_)
    refine wp_rs fun K7 hK7 => ?_
    refine s_val hF (x_load rfl (m_load flat64 (mp.cell (j := 0) rfl))) (by decide) fun a hF => ?_
    refine s_val hF (x_ldW wide27 m5 rfl rfl) (by decide) fun a hF => ?_
    refine s_val hF (x_move rfl) (by decide) fun a hF => ?_
    refine s_call (R := fun u w' => ((∃ y, u = tv y ∧ RE w' (fun k => (AS A s k ∧ k < W.heap.size) ∨ w14.heap.size ≤ k) (nodeP c ps) y) ∧ Room w' br) ∧ Ktw br br w14 w') hF [_, _, _] (enters_of Try.func73 (by kernel_rfl) rfl) rfl (by decide) (node92 w14 br (by omega) (fun k => AS A s k ∧ k < W.heap.size) (fun k hk => ⟨hAS k hk.1, by have := hk.2; omega⟩) c x ((hx.keep hK.size (fun k hk hb => hK.block k hb (hA2 k hk))).mono (fun k hk => ⟨.inl hk, by have := hA k hk; omega⟩)) kv ps (hkv0.keep hQ.size (fun k hk hb => hQ.block k hb ⟨hAS k hk.1, hAS k hk.1⟩)) hlen hR) ?_
    rintro _ w16 a ⟨⟨⟨y9, rfl, hy9⟩, hR⟩, k17⟩ hF
    have sk17 := k17.size
    have hK := hK.trans k17 (by omega)
    have hQ := hQ.trans k17 (by omega)
    have mp := mp.k2 k17 (by omega)
    have mv := mv.k2 k17 (by omega)
    have m5 := m5.k2 k17 (by omega)
    have m8 := m8.k2 k17 (by omega)
    have hy9 := hy9.valid
    refine s_alloc hF (by decide) zero27 fun w18 b9 a eb9 m9 B19 zb9 hF => ?_
    have sB19 := B19.size
    have hK := hK.below B19
    have hQ := hQ.below B19
    have mp := mp.old B19
    have mv := mv.old B19
    have m5 := m5.old B19
    have m8 := m8.old B19
    have hR := hR.below B19
    have hy9 := hy9.below B19
    refine s_putW hF rfl rfl (size_wide wide27) m9 rfl hy9.one fun w22 m9 o23 => ?_
    have so23 := o23.size
    have hK := hK.only o23 (by omega)
    have hQ := hQ.only o23 (by omega)
    have mp := mp.only o23 (by omega)
    have mv := mv.only o23 (by omega)
    have m5 := m5.only o23 (by omega)
    have m8 := m8.only o23 (by omega)
    have hR := hR.only o23 (by omega)
    have hy9 := hy9.only o23 (by first | (intro h; have h2 := h.2; omega) | (intro h; rcases h.1 with h1 | h1; (have := hA _ h1; omega); (have := h.2; omega)) | (intro h; rcases h.1 with h1 | h1; (have := h1.2; omega); (have := h.2; omega)) | (intro h; rcases h.1 with h1 | h1; (exact hAS _ h1.1 rfl); (have := h.2; omega)) | (intro h; rcases h with h | h; (have := hA _ h; omega); omega) | (intro h; have := hA _ h; omega) | (intro h; rcases h with h | h; (have := h.2; omega); omega) | exact Ar.nbr | exact Ai.nbr | exact Ar.no (by omega) | exact Ai.no (by omega))
    refine s_end (hK7 _ _ ?_)
    refine wp_seq_k fun K8 hK8 => ?_
    refine wp_rs fun K9 hK9 => ?_
    refine s_val hF (x_fa0 fa27_0 rfl) (by decide) fun a hF => ?_
    refine s_val hF (x_load rfl (m_load flat3 (m5.cell (j := 0) rfl))) (by decide) fun a hF => ?_
    refine s_val hF (x_eql (b := true) (decide_eq_true (by omega)) rfl rfl) (by decide) fun a hF => ?_
    refine s_val hF (x_move rfl) (by decide) fun a hF => ?_
    refine s_grd 24 hF rfl rfl rfl ?_
    refine s_val hF (x_fa0 fa27_1 rfl) (by decide) fun a hF => ?_
    refine s_grd 24 hF rfl rfl rfl ?_
    refine s_val hF (x_load rfl (m_load flat3 (m5.cell (j := 1) rfl))) (by decide) fun a hF => ?_
    refine s_grd 24 hF rfl rfl rfl ?_
    refine s_val hF (x_move rfl) (by decide) fun a hF => ?_
    refine s_grd 24 hF rfl rfl rfl ?_
    refine s_val hF (x_gtr (b := true) (decide_eq_true (by omega)) rfl rfl) (by decide) fun a hF => ?_
    refine s_val hF (x_pick (b := true) rfl rfl) (by decide) fun a hF => ?_
    refine s_end (hK9 _ _ ?_)
    refine wp_if hF rfl ?_
    obtain ⟨n9, mm9, rfl⟩ := hx.var_of hk9.1
    have hn9 : x.n = n9 := hx.2.1
    have hri := hrng hk9.1
    unfold in64 at hri
    obtain ⟨c9, hc9, he9⟩ := hy9
    have hc9v : ∃ m, c9 = .var n9 m := by cases c9 <;> simp [nodeP, CT.ess] at he9; exact ⟨_, by rw [he9]⟩
    obtain ⟨mm8, rfl⟩ := hc9v
    have hyn9 : y9.n = n9 := hc9.2.1
    refine wp_region_lit ?_
    refine s_val hF (x_fa0 fa27_1 rfl) (by decide) fun a hF => ?_
    refine s_val hF (x_load rfl (m_load flat3 (m9.cell (j := 1) rfl))) (by decide) fun a hF => ?_
    refine s_val hF (x_sub (by omega) (by omega) rfl rfl) (by decide) fun a hF => ?_
    refine s_val hF (x_fa0 fa27_1 rfl) (by decide) fun a hF => ?_
    refine s_put hF rfl rfl flat3 m9 (by first | (simp; done) | (simp [tc, lc]; done) | decide) rfl fun w24 m9 o25 => ?_
    have so25 := o25.size
    have hK := hK.only o25 (by omega)
    have hQ := hQ.only o25 (by omega)
    have mp := mp.only o25 (by omega)
    have mv := mv.only o25 (by omega)
    have m5 := m5.only o25 (by omega)
    have m8 := m8.only o25 (by omega)
    have hR := hR.only o25 (by omega)
    have hc9 := hc9.only o25 (by first | (intro h; have h2 := h.2; omega) | (intro h; rcases h.1 with h1 | h1; (have := hA _ h1; omega); (have := h.2; omega)) | (intro h; rcases h.1 with h1 | h1; (have := h1.2; omega); (have := h.2; omega)) | (intro h; rcases h.1 with h1 | h1; (exact hAS _ h1.1 rfl); (have := h.2; omega)) | (intro h; rcases h with h | h; (have := hA _ h; omega); omega) | (intro h; have := hA _ h; omega) | (intro h; rcases h with h | h; (have := h.2; omega); omega) | exact Ar.nbr | exact Ai.nbr | exact Ar.no (by omega) | exact Ai.no (by omega))
    refine s_end (hK8 _ _ ?_)
    have hG9 : Gp cv.ess (.var n9 mm9) d ps = .var (y9.n - 1) := by simp only [Gp]; rw [if_neg (by omega), if_pos (by omega), hyn9]
    have hz9 : RE w24 (fun k => ((AS A s k ∧ k < W.heap.size) ∨ w14.heap.size ≤ k) ∧ k < w16.heap.size) (Gp cv.ess (.var n9 mm9) d ps) ⟨y9.k, y9.n - 1, y9.s, y9.l, y9.ls, y9.ts⟩ := by rw [hG9]; exact ⟨.var (y9.n - 1) mm8, ⟨hc9.1, rfl, by unfold in64; omega, hc9.2.2.2.1, hc9.2.2.2.2⟩, rfl⟩
    have h1Y := hz9.one
    refine wp_rs fun K10 hK10 => ?_
    refine s_val hF (x_ldW wide27 m9 rfl rfl) (by decide) fun a hF => ?_
    refine s_putW hF rfl rfl (size_wide wide27) m8 rfl h1Y fun w28 m8 o29 => ?_
    have so29 := o29.size
    have hK := hK.only o29 (by omega)
    have hQ := hQ.only o29 (by omega)
    have mp := mp.only o29 (by omega)
    have mv := mv.only o29 (by omega)
    have m5 := m5.only o29 (by omega)
    have m9 := m9.only o29 (by omega)
    have hR := hR.only o29 (by omega)
    have hz9 := hz9.only o29 (by first | (intro h; have h2 := h.2; omega) | (intro h; rcases h.1 with h1 | h1; (have := hA _ h1; omega); (have := h.2; omega)) | (intro h; rcases h.1 with h1 | h1; (have := h1.2; omega); (have := h.2; omega)) | (intro h; rcases h.1 with h1 | h1; (exact hAS _ h1.1 rfl); (have := h.2; omega)) | (intro h; rcases h with h | h; (have := hA _ h; omega); omega) | (intro h; have := hA _ h; omega) | (intro h; rcases h with h | h; (have := h.2; omega); omega) | exact Ar.nbr | exact Ai.nbr | exact Ar.no (by omega) | exact Ai.no (by omega))
    refine s_end (hK10 _ _ ?_)
    refine wp_ret (res_cell hF rfl rfl m8 wide27 ⟨_, rfl, ⟨⟨_, rfl, hz9.mono (fun k hk => by rcases hk.1 with hk | hk; (· exact hk.1); exact .inr (by omega))⟩, hR⟩, hQ⟩)
  · have hri0 := hrng hk9.1
    unfold in64 at hri0
    refine wp_rs fun K11 hK11 => ?_
    refine s_val hF (x_ldW wide27 m5 rfl rfl) (by decide) fun a hF => ?_
    refine s_val hF (x_move rfl) (by decide) fun a hF => ?_
    have hiv : c.isV d = false := by rw [hV]; first | (rw [decide_eq_false (show ¬ x.n = d by omega), Bool.and_false]; done) | (rw [decide_eq_false (show ¬ x.k = 1 by omega), Bool.false_and]; done)
    refine s_callB [_, _] hF (enters_of Try.func102 (by kernel_rfl) rfl) rfl (by decide) ((isPlace121 c x _ d wl w4 hx).mono fun e w' h => ⟨by rw [h.1, hiv], h.2⟩) fun w30 a B31 hF => ?_
    have sB31 := B31.size
    have hK := hK.below B31
    have hQ := hQ.below B31
    have mp := mp.old B31
    have mv := mv.old B31
    have m5 := m5.old B31
    have m8 := m8.old B31
    have hR := hR.below B31
    refine s_end (hK11 _ _ ?_)
    refine wp_if hF rfl ?_
    refine wp_skip (hK2 _ _ ?_)
    refine wp_rs fun K12 hK12 => ?_
    refine s_val hF (x_load rfl (m_load flat64 (mp.cell (j := 0) rfl))) (by decide) fun a hF => ?_
    refine s_val hF (x_ldW wide27 m5 rfl rfl) (by decide) fun a hF => ?_
    refine s_val hF (x_move rfl) (by decide) fun a hF => ?_
    refine s_call (R := fun u w' => ((∃ y, u = tv y ∧ RE w' (fun k => (AS A s k ∧ k < W.heap.size) ∨ w30.heap.size ≤ k) (nodeP c ps) y) ∧ Room w' br) ∧ Ktw br br w30 w') hF [_, _, _] (enters_of Try.func73 (by kernel_rfl) rfl) rfl (by decide) (node92 w30 br (by omega) (fun k => AS A s k ∧ k < W.heap.size) (fun k hk => ⟨hAS k hk.1, by have := hk.2; omega⟩) c x ((hx.keep hK.size (fun k hk hb => hK.block k hb (hA2 k hk))).mono (fun k hk => ⟨.inl hk, by have := hA k hk; omega⟩)) kv ps (hkv0.keep hQ.size (fun k hk hb => hQ.block k hb ⟨hAS k hk.1, hAS k hk.1⟩)) hlen hR) ?_
    rintro _ w32 a ⟨⟨⟨y9, rfl, hy9⟩, hR⟩, k33⟩ hF
    have sk33 := k33.size
    have hK := hK.trans k33 (by omega)
    have hQ := hQ.trans k33 (by omega)
    have mp := mp.k2 k33 (by omega)
    have mv := mv.k2 k33 (by omega)
    have m5 := m5.k2 k33 (by omega)
    have m8 := m8.k2 k33 (by omega)
    have hy9 := hy9.valid
    refine s_alloc hF (by decide) zero27 fun w34 b9 a eb9 m9 B35 zb9 hF => ?_
    have sB35 := B35.size
    have hK := hK.below B35
    have hQ := hQ.below B35
    have mp := mp.old B35
    have mv := mv.old B35
    have m5 := m5.old B35
    have m8 := m8.old B35
    have hR := hR.below B35
    have hy9 := hy9.below B35
    refine s_putW hF rfl rfl (size_wide wide27) m9 rfl hy9.one fun w38 m9 o39 => ?_
    have so39 := o39.size
    have hK := hK.only o39 (by omega)
    have hQ := hQ.only o39 (by omega)
    have mp := mp.only o39 (by omega)
    have mv := mv.only o39 (by omega)
    have m5 := m5.only o39 (by omega)
    have m8 := m8.only o39 (by omega)
    have hR := hR.only o39 (by omega)
    have hy9 := hy9.only o39 (by first | (intro h; have h2 := h.2; omega) | (intro h; rcases h.1 with h1 | h1; (have := hA _ h1; omega); (have := h.2; omega)) | (intro h; rcases h.1 with h1 | h1; (have := h1.2; omega); (have := h.2; omega)) | (intro h; rcases h.1 with h1 | h1; (exact hAS _ h1.1 rfl); (have := h.2; omega)) | (intro h; rcases h with h | h; (have := hA _ h; omega); omega) | (intro h; have := hA _ h; omega) | (intro h; rcases h with h | h; (have := h.2; omega); omega) | exact Ar.nbr | exact Ai.nbr | exact Ar.no (by omega) | exact Ai.no (by omega))
    refine s_end (hK12 _ _ ?_)
    refine wp_seq_k fun K13 hK13 => ?_
    refine wp_rs fun K14 hK14 => ?_
    refine s_val hF (x_fa0 fa27_0 rfl) (by decide) fun a hF => ?_
    refine s_val hF (x_load rfl (m_load flat3 (m5.cell (j := 0) rfl))) (by decide) fun a hF => ?_
    refine s_val hF (x_eql (b := true) (decide_eq_true (by omega)) rfl rfl) (by decide) fun a hF => ?_
    refine s_val hF (x_move rfl) (by decide) fun a hF => ?_
    refine s_grd 24 hF rfl rfl rfl ?_
    refine s_val hF (x_fa0 fa27_1 rfl) (by decide) fun a hF => ?_
    refine s_grd 24 hF rfl rfl rfl ?_
    refine s_val hF (x_load rfl (m_load flat3 (m5.cell (j := 1) rfl))) (by decide) fun a hF => ?_
    refine s_grd 24 hF rfl rfl rfl ?_
    refine s_val hF (x_move rfl) (by decide) fun a hF => ?_
    refine s_grd 24 hF rfl rfl rfl ?_
    refine s_val hF (x_gtr (b := false) (decide_eq_false (by omega)) rfl rfl) (by decide) fun a hF => ?_
    refine s_val hF (x_pick (b := true) rfl rfl) (by decide) fun a hF => ?_
    refine s_end (hK14 _ _ ?_)
    refine wp_if hF rfl ?_
    refine wp_skip (hK13 _ _ ?_)
    have h1Y := hy9.one
    refine wp_rs fun K15 hK15 => ?_
    refine s_val hF (x_ldW wide27 m9 rfl rfl) (by decide) fun a hF => ?_
    refine s_putW hF rfl rfl (size_wide wide27) m8 rfl h1Y fun w42 m8 o43 => ?_
    have so43 := o43.size
    have hK := hK.only o43 (by omega)
    have hQ := hQ.only o43 (by omega)
    have mp := mp.only o43 (by omega)
    have mv := mv.only o43 (by omega)
    have m5 := m5.only o43 (by omega)
    have m9 := m9.only o43 (by omega)
    have hR := hR.only o43 (by omega)
    have hy9 := hy9.only o43 (by first | (intro h; have h2 := h.2; omega) | (intro h; rcases h.1 with h1 | h1; (have := hA _ h1; omega); (have := h.2; omega)) | (intro h; rcases h.1 with h1 | h1; (have := h1.2; omega); (have := h.2; omega)) | (intro h; rcases h.1 with h1 | h1; (exact hAS _ h1.1 rfl); (have := h.2; omega)) | (intro h; rcases h with h | h; (have := hA _ h; omega); omega) | (intro h; have := hA _ h; omega) | (intro h; rcases h with h | h; (have := h.2; omega); omega) | exact Ar.nbr | exact Ai.nbr | exact Ar.no (by omega) | exact Ai.no (by omega))
    refine s_end (hK15 _ _ ?_)
    refine wp_ret (res_cell hF rfl rfl m8 wide27 ⟨_, rfl, ⟨⟨y9, rfl, by rw [hres (by omega)]; exact hy9.mono (fun k hk => by rcases hk.1 with hk | hk; (· exact hk.1); exact .inr (by omega))⟩, hR⟩, hQ⟩)
  · skip
    refine wp_rs fun K16 hK16 => ?_
    refine s_val hF (x_ldW wide27 m5 rfl rfl) (by decide) fun a hF => ?_
    refine s_val hF (x_move rfl) (by decide) fun a hF => ?_
    have hiv : c.isV d = false := by rw [hV]; first | (rw [decide_eq_false (show ¬ x.n = d by omega), Bool.and_false]; done) | (rw [decide_eq_false (show ¬ x.k = 1 by omega), Bool.false_and]; done)
    refine s_callB [_, _] hF (enters_of Try.func102 (by kernel_rfl) rfl) rfl (by decide) ((isPlace121 c x _ d wl w4 hx).mono fun e w' h => ⟨by rw [h.1, hiv], h.2⟩) fun w44 a B45 hF => ?_
    have sB45 := B45.size
    have hK := hK.below B45
    have hQ := hQ.below B45
    have mp := mp.old B45
    have mv := mv.old B45
    have m5 := m5.old B45
    have m8 := m8.old B45
    have hR := hR.below B45
    refine s_end (hK16 _ _ ?_)
    refine wp_if hF rfl ?_
    refine wp_skip (hK2 _ _ ?_)
    refine wp_rs fun K17 hK17 => ?_
    refine s_val hF (x_load rfl (m_load flat64 (mp.cell (j := 0) rfl))) (by decide) fun a hF => ?_
    refine s_val hF (x_ldW wide27 m5 rfl rfl) (by decide) fun a hF => ?_
    refine s_val hF (x_move rfl) (by decide) fun a hF => ?_
    refine s_call (R := fun u w' => ((∃ y, u = tv y ∧ RE w' (fun k => (AS A s k ∧ k < W.heap.size) ∨ w44.heap.size ≤ k) (nodeP c ps) y) ∧ Room w' br) ∧ Ktw br br w44 w') hF [_, _, _] (enters_of Try.func73 (by kernel_rfl) rfl) rfl (by decide) (node92 w44 br (by omega) (fun k => AS A s k ∧ k < W.heap.size) (fun k hk => ⟨hAS k hk.1, by have := hk.2; omega⟩) c x ((hx.keep hK.size (fun k hk hb => hK.block k hb (hA2 k hk))).mono (fun k hk => ⟨.inl hk, by have := hA k hk; omega⟩)) kv ps (hkv0.keep hQ.size (fun k hk hb => hQ.block k hb ⟨hAS k hk.1, hAS k hk.1⟩)) hlen hR) ?_
    rintro _ w46 a ⟨⟨⟨y9, rfl, hy9⟩, hR⟩, k47⟩ hF
    have sk47 := k47.size
    have hK := hK.trans k47 (by omega)
    have hQ := hQ.trans k47 (by omega)
    have mp := mp.k2 k47 (by omega)
    have mv := mv.k2 k47 (by omega)
    have m5 := m5.k2 k47 (by omega)
    have m8 := m8.k2 k47 (by omega)
    have hy9 := hy9.valid
    refine s_alloc hF (by decide) zero27 fun w48 b9 a eb9 m9 B49 zb9 hF => ?_
    have sB49 := B49.size
    have hK := hK.below B49
    have hQ := hQ.below B49
    have mp := mp.old B49
    have mv := mv.old B49
    have m5 := m5.old B49
    have m8 := m8.old B49
    have hR := hR.below B49
    have hy9 := hy9.below B49
    refine s_putW hF rfl rfl (size_wide wide27) m9 rfl hy9.one fun w52 m9 o53 => ?_
    have so53 := o53.size
    have hK := hK.only o53 (by omega)
    have hQ := hQ.only o53 (by omega)
    have mp := mp.only o53 (by omega)
    have mv := mv.only o53 (by omega)
    have m5 := m5.only o53 (by omega)
    have m8 := m8.only o53 (by omega)
    have hR := hR.only o53 (by omega)
    have hy9 := hy9.only o53 (by first | (intro h; have h2 := h.2; omega) | (intro h; rcases h.1 with h1 | h1; (have := hA _ h1; omega); (have := h.2; omega)) | (intro h; rcases h.1 with h1 | h1; (have := h1.2; omega); (have := h.2; omega)) | (intro h; rcases h.1 with h1 | h1; (exact hAS _ h1.1 rfl); (have := h.2; omega)) | (intro h; rcases h with h | h; (have := hA _ h; omega); omega) | (intro h; have := hA _ h; omega) | (intro h; rcases h with h | h; (have := h.2; omega); omega) | exact Ar.nbr | exact Ai.nbr | exact Ar.no (by omega) | exact Ai.no (by omega))
    refine s_end (hK17 _ _ ?_)
    refine wp_seq_k fun K18 hK18 => ?_
    refine wp_rs fun K19 hK19 => ?_
    refine s_val hF (x_fa0 fa27_0 rfl) (by decide) fun a hF => ?_
    refine s_val hF (x_load rfl (m_load flat3 (m5.cell (j := 0) rfl))) (by decide) fun a hF => ?_
    refine s_val hF (x_eql (b := false) (decide_eq_false (by omega)) rfl rfl) (by decide) fun a hF => ?_
    refine s_val hF (x_move rfl) (by decide) fun a hF => ?_
    refine s_grdn 24 hF rfl rfl (by decide) fun a hF => ?_
    refine s_grdn 24 hF rfl rfl (by decide) fun a hF => ?_
    refine s_grdn 24 hF rfl rfl (by decide) fun a hF => ?_
    refine s_grdn 24 hF rfl rfl (by decide) fun a hF => ?_
    refine s_val hF (x_pick (b := false) rfl rfl) (by decide) fun a hF => ?_
    refine s_end (hK19 _ _ ?_)
    refine wp_if hF rfl ?_
    refine wp_skip (hK18 _ _ ?_)
    have h1Y := hy9.one
    refine wp_rs fun K20 hK20 => ?_
    refine s_val hF (x_ldW wide27 m9 rfl rfl) (by decide) fun a hF => ?_
    refine s_putW hF rfl rfl (size_wide wide27) m8 rfl h1Y fun w56 m8 o57 => ?_
    have so57 := o57.size
    have hK := hK.only o57 (by omega)
    have hQ := hQ.only o57 (by omega)
    have mp := mp.only o57 (by omega)
    have mv := mv.only o57 (by omega)
    have m5 := m5.only o57 (by omega)
    have m9 := m9.only o57 (by omega)
    have hR := hR.only o57 (by omega)
    have hy9 := hy9.only o57 (by first | (intro h; have h2 := h.2; omega) | (intro h; rcases h.1 with h1 | h1; (have := hA _ h1; omega); (have := h.2; omega)) | (intro h; rcases h.1 with h1 | h1; (have := h1.2; omega); (have := h.2; omega)) | (intro h; rcases h.1 with h1 | h1; (exact hAS _ h1.1 rfl); (have := h.2; omega)) | (intro h; rcases h with h | h; (have := hA _ h; omega); omega) | (intro h; have := hA _ h; omega) | (intro h; rcases h with h | h; (have := h.2; omega); omega) | exact Ar.nbr | exact Ai.nbr | exact Ar.no (by omega) | exact Ai.no (by omega))
    refine s_end (hK20 _ _ ?_)
    refine wp_ret (res_cell hF rfl rfl m8 wide27 ⟨_, rfl, ⟨⟨y9, rfl, by rw [hres (by omega)]; exact hy9.mono (fun k hk => by rcases hk.1 with hk | hk; (· exact hk.1); exact .inr (by omega))⟩, hR⟩, hQ⟩)

set_option maxRecDepth 100000 in
set_option maxHeartbeats 400000 in
theorem put85 (W : World) (br : Nat) (hbr : br < W.heap.size) (A : Nat → Prop) (hA : ∀ k, A k → k ≠ br ∧ k < W.heap.size) (c : CT) (x : C8) (hx : RC W A c x) (cv : CT) (xv : C8) (hv : RC W A cv xv) (hvd : (cv.dep : Int) ≤ 4611686018427387904) (hdp : (c.dep : Int) ≤ 4611686018427387904) (hR : Room W br) : Calls Try.prog 66 #[.pointer (some ⟨br, 0, none⟩), tv x, tv xv] W fun e w' => ∃ u, e = .returned u ∧ ((∃ y, u = tv y ∧ RE w' (AS A W.heap.size) (PT.put cv.ess c.ess 0) y) ∧ Room w' br) ∧ Ktw br br W w' := by
  have hQ := Ktw.refl br br W
  have sQ := hQ.size
  have hA2 : ∀ k, A k → k ≠ br ∧ k ≠ br := fun k hk => ⟨(hA k hk).1, (hA k hk).1⟩
  refine calls_fs 10 [(0, .pointer (some ⟨br, 0, none⟩)), (1, tv x), (2, tv xv)] Try.func66 rfl rfl rfl rfl rfl fun a hF => ?_
  refine wp_rs fun K1 hK1 => ?_
  refine s_box ([.pointer (some ⟨br, 0, none⟩)]) hF (by decide) rfl rfl fun w2 b3 a eb3 m3 B3 zb3 hF => ?_
  have sB3 := B3.size
  have hQ := hQ.below B3
  have hR := hR.below B3
  refine s_box (tc x) hF (by decide) rfl rfl fun w4 b4 a eb4 m4 B5 zb4 hF => ?_
  have sB5 := B5.size
  have hQ := hQ.below B5
  have m3 := m3.old B5
  have hR := hR.below B5
  refine s_box (tc xv) hF (by decide) rfl rfl fun w6 b5 a eb5 m5 B7 zb5 hF => ?_
  have sB7 := B7.size
  have hQ := hQ.below B7
  have m3 := m3.old B7
  have m4 := m4.old B7
  have hR := hR.below B7
  refine s_alloc hF (by decide) zero27 fun w8 b6 a eb6 m6 B9 zb6 hF => ?_
  have sB9 := B9.size
  have hQ := hQ.below B9
  have m3 := m3.old B9
  have m4 := m4.old B9
  have m5 := m5.old B9
  have hR := hR.below B9
  refine s_end (hK1 _ _ ?_)
  refine wp_rs fun K2 hK2 => ?_
  refine s_val hF (x_ldW wide27 m4 rfl rfl) (by decide) fun a hF => ?_
  refine s_val hF (x_mkf [_, _] rfl) (by decide) fun a hF => ?_
  have hx9 := hx.keep hQ.size (fun k hk hb => hQ.block k hb (hA2 k hk))
  have hA9 : ∀ k, A k → k ≠ br ∧ k < w8.heap.size := fun k hk => ⟨(hA k hk).1, by have := (hA k hk).2; omega⟩
  refine s_call (R := fun u w' => ((∃ y, u = tv y ∧ RE w' (AS A w8.heap.size) (c.fold (Gp cv.ess) 0) y) ∧ Room w' br) ∧ Ktw br br w8 w') hF [_, _, _] (enters_of Try.func69 (by kernel_rfl) rfl) rfl (by decide) (fold88 w8 br (by omega) A hA9 103 [.pointer (some ⟨b3, 0, none⟩), .pointer (some ⟨b5, 0, none⟩)] (enters_of Try.func103 (by kernel_rfl) rfl) 4611686018427387904 (by decide) (Gp cv.ess) (clo122 w8 br (by omega) A hA9 cv xv (hv.keep hQ.size (fun k hk hb => hQ.block k hb (hA2 k hk))) hvd b3 b5 m3 m5 (by omega) 4611686018427387904 (by decide)) (c.size + 1) c x 0 w8 (by omega) hx9 (by decide) (by omega) (Ktw.refl br br _) hR) ?_
  rintro _ w10 a ⟨⟨⟨y9, rfl, hy9⟩, hR⟩, k11⟩ hF
  have sk11 := k11.size
  have hQ := hQ.trans k11 (by omega)
  have m3 := m3.k2 k11 (by omega)
  have m4 := m4.k2 k11 (by omega)
  have m5 := m5.k2 k11 (by omega)
  have m6 := m6.k2 k11 (by omega)
  refine s_putW hF rfl rfl (size_wide wide27) m6 rfl hy9.one fun w14 m6 o15 => ?_
  have so15 := o15.size
  have hQ := hQ.only o15 (by omega)
  have m3 := m3.only o15 (by omega)
  have m4 := m4.only o15 (by omega)
  have m5 := m5.only o15 (by omega)
  have hR := hR.only o15 (by omega)
  have hy9 := hy9.only o15 (by first | (intro h; have h2 := h.2; omega) | (intro h; rcases h.1 with h1 | h1; (have := hA _ h1; omega); (have := h.2; omega)) | (intro h; rcases h.1 with h1 | h1; (have := h1.2; omega); (have := h.2; omega)) | (intro h; rcases h.1 with h1 | h1; (exact hAS _ h1.1 rfl); (have := h.2; omega)) | (intro h; rcases h with h | h; (have := hA _ h; omega); omega) | (intro h; have := hA _ h; omega) | (intro h; rcases h with h | h; (have := h.2; omega); omega) | exact Ar.nbr | exact Ai.nbr | exact Ar.no (by omega) | exact Ai.no (by omega))
  refine s_end (hK2 _ _ ?_)
  rw [fold_put'] at hy9
  refine wp_ret (res_cell hF rfl rfl m6 wide27 ⟨_, rfl, ⟨⟨y9, rfl, hy9.mono (AS.mono (by omega))⟩, hR⟩, hQ⟩)
end Go.Proofs.Ytaclncmkdpjnlaa
