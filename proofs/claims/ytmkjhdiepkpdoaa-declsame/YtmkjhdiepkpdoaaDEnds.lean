/- DeclSame. -/
import Derived.Test.YtmkjhdiepkpdoaaLev6
import Derived.Test.YtmkjhdiepkpdoaaTerm22
import Derived.Test.YtmkjhdiepkpdoaaPureL
import Derived.ProofKit
import Derived.Deep.Slices
import Derived.Test.YtmkjhdiepkpdoaaLevD
import Derived.ChangeSame
import Derived.ChangeArms
import Derived.SizedLaws
import Derived.Deep.Strs
import Derived.Test.YtmkjhdiepkpdoaaTerm28
namespace Go.Proofs.Ytmkjhdiepkpdoaa
set_option maxRecDepth 100000
set_option maxHeartbeats 1600000
open Go.RowKit Go.Shelf
set_option linter.unusedVariables false
set_option linter.unusedSimpArgs false
theorem x_neSX {P : Program} {n : Nat} {l : List (Nat × Value)} {w : World} {t t' : TypeId} {x y : Operand} {p q : ByteArray} {b : Bool} (h : decide (p ≠ q) = b) (hx : ov l x = some (.string p)) (hy : ov l y = some (.string q)) : Runs P n l w (.binOp .neq t x y t') (.bool b) :=
 x_bin hx hy fun W => ⟨by simp [eqGuard], by
  subst h
  simp [binOp, Op.stringOp]
  rw [Bool.eq_iff_iff]
  simp only [bne_iff_ne, ne_eq, Bool.not_eq_true', decide_eq_false_iff_not, beq_iff_eq, decide_eq_true_eq, Bool.not_eq_eq_eq_not, Bool.not_true, beq_eq_false_iff_ne]
  refine ⟨fun h => ?_, ?_⟩
  ·
   rw [ByteArray.toList_eq, ByteArray.toList_eq] at h
   exact ByteArray.ext (Array.ext' h)
  ·
   rintro rfl
   rfl⟩
theorem row9_tm {W : World} {b off : Nat} {x : K9} (h : ∀ j u, (cc x)[j]? = some u → W.cell? ((⟨b, off, none⟩ : Addr).add j) = some u) : ∀ j u, (tc x.x)[j]? = some u → W.cell? ((⟨b, off + 1, none⟩ : Addr).add j) = some u := fun j u hj => by
 have h1 := h (j + 1) u (by show (Value.string x.nm :: tc x.x)[j + 1]? = some u; simpa using hj)
 rw [addr_addn] at h1 ⊢
 rwa [show off + 1 + j = off + (j + 1) by omega]
theorem row9_nm {W : World} {b off : Nat} {x : K9} (h : ∀ j u, (cc x)[j]? = some u → W.cell? ((⟨b, off, none⟩ : Addr).add j) = some u) : W.cell? ⟨b, off, none⟩ = some (.string x.nm) := by
 have h1 := h 0 _ rfl
 rwa [addr_addn] at h1
def sameTm (c d : CT) : Prop := c.ok ∧ d.ok ∧ sameP c.ess d.ess
def sameC (p q : ByteArray × CT) : Prop := p.1 = q.1 ∧ sameTm p.2 q.2
def sameCs (cs ds : List (ByteArray × CT)) : Prop := cs.length = ds.length ∧ ∀ (i : Nat) p q, cs[i]? = some p → ds[i]? = some q → sameC p q
/-- What Same tells. -/
def sameDl (d : D21) (t v : CT) (cs : List (ByteArray × CT)) (d' : D21) (t' v' : CT) (cs' : List (ByteArray × CT)) : Prop :=
 d.k = d'.k ∧ d.nm = d'.nm ∧ d.vars = d'.vars ∧ (1 ≤ d.k ∧ d.k ≤ 3 → sameTm t t' ∧ (d.k = 2 → sameTm v v') ∧ (d.k = 3 → d.ps = d'.ps ∧ sameCs cs cs'))
theorem sameCtor338 (x y : K9) (p q : ByteArray × CT) (w0 : World) (hp : x.nm = p.1) (hx : RC w0 (fun k => k < w0.heap.size) p.2 x.x) (hq : y.nm = q.1) (hy : RC w0 (fun k => k < w0.heap.size) q.2 y.x) (hf : p.2.fit) : Calls Try.prog 80 #[.agg (cc x).toArray, .agg (cc y).toArray] w0 fun e w' => ∃ z, e = .returned z ∧ (∃ b, z = .bool b ∧ (b = true ↔ sameC p q)) ∧ Below w0.heap.size w0 w' := by
 have hB := Below.refl w0.heap.size w0
 have sB := hB.size
 refine calls_fs 17 [(0, .agg (cc x).toArray), (1, .agg (cc y).toArray)] Try.func80 rfl rfl rfl rfl rfl fun a F => ?_
 refine wp_rs fun _ K1 => ?_
 refine s_box (cc x) F (by decide) rfl rfl fun w2 b2 a eb2 m2 B3 zb2 F => ?_
 have sB3 := B3.size
 have hB := bt hB B3
 refine s_box (cc y) F (by decide) rfl rfl fun w4 b3 a eb3 m3 B5 zb3 F => ?_
 have sB5 := B5.size
 have hB := bt hB B5
 have m2 := m2.old B5
 refine F.sg rfl fun a F => ?_
 refine s_end (K1 _ _ ?_)
 by_cases hst : x.nm = y.nm
 ·
  skip
  refine wp_rs fun _ K3 => F.vl (x_fa0 fa517_0 rfl) fun a F => F.ld m2 flat9 rfl rfl fun a F => F.vl (x_fa0 fa517_0 rfl) fun a F => F.ld m3 flat9 rfl rfl fun a F => F.vl (x_eqS (b := true) (decide_eq_true hst) rfl rfl) fun a F => F.mv rfl fun a F => s_grd 10 F rfl rfl rfl <| F.vl (x_fa0 fa517_1 rfl) fun a F => s_grd 10 F rfl rfl rfl <| F.vl (x_load rfl (m_loadP (vs := [_, _, _, _, _, _, _, _]) wide27 m2 rfl)) fun a F => s_grd 10 F rfl rfl rfl <| F.vl (x_fa0 fa517_1 rfl) fun a F => s_grd 10 F rfl rfl rfl <| F.vl (x_load rfl (m_loadP (vs := [_, _, _, _, _, _, _, _]) wide27 m3 rfl)) fun a F => s_grd 10 F rfl rfl rfl ?_
  refine s_callR (R := fun r w' => ∃ b, r = .bool b ∧ (b = true ↔ sameTm p.2 q.2)) [_, _] F E78 rfl (by decide) ((Same40 p.2 q.2 x.x y.x w4 (hx.bel hB) (hy.bel hB) (CT.fit_ess hf))) ?_
  rintro _ w6 a ⟨b15, rfl, h15⟩ B7 F
  have sB7 := B7.size
  have hB := bt hB B7
  refine F.vl (x_pick (b := true) rfl rfl) fun a F => F.sg rfl fun a F => ?_
  refine s_end (K3 _ _ ?_)
  refine wp_ret (res_slot F rfl rfl ⟨_, rfl, ⟨_, rfl, by unfold sameC; rw [← hp, ← hq, h15]; exact ⟨fun h => ⟨hst, h⟩, fun h => h.2⟩⟩, hB⟩)
 ·
  skip
  refine wp_rs fun _ K4 => F.vl (x_fa0 fa517_0 rfl) fun a F => F.ld m2 flat9 rfl rfl fun a F => F.vl (x_fa0 fa517_0 rfl) fun a F => F.ld m3 flat9 rfl rfl fun a F => F.vl (x_eqS (b := false) (decide_eq_false hst) rfl rfl) fun a F => F.mv rfl fun a F => s_grdn 10 F rfl rfl (by decide) fun a F => s_grdn 10 F rfl rfl (by decide) fun a F => s_grdn 10 F rfl rfl (by decide) fun a F => s_grdn 10 F rfl rfl (by decide) fun a F => s_grdn 10 F rfl rfl (by decide) fun a F => F.vl (x_pick (b := false) rfl rfl) fun a F => F.sg rfl fun a F => ?_
  refine s_end (K4 _ _ ?_)
  refine wp_ret (res_slot F rfl rfl ⟨_, rfl, ⟨_, rfl, by unfold sameC; rw [← hp, ← hq]; exact ⟨fun h => (by cases h), fun h => absurd h.1 hst⟩⟩, hB⟩)
theorem eqC337 (cs ds : List (ByteArray × CT)) (v u : Value) (w0 : World) (hV : RCs w0 (fun k => k < w0.heap.size) v cs) (hU : RCs w0 (fun k => k < w0.heap.size) u ds) (hlen : cs.length ≤ 9223372036854775807) (hf : ∀ c ∈ cs, c.2.fit) : Calls Try.prog 79 #[v, u, .func (.func 80) #[] #[]] w0 fun e w' => ∃ z, e = .returned z ∧ (∃ b, z = .bool b ∧ (b = true ↔ sameCs cs ds)) ∧ Below w0.heap.size w0 w' := by
 obtain ⟨av, cv, hve, _⟩ := hV.form
 subst hve
 obtain ⟨au, cu, hue, _⟩ := hU.form
 subst hue
 have hB := Below.refl w0.heap.size w0
 have sB := hB.size
 refine calls_fs 32 [(0, .slice av cs.length cv), (1, .slice au ds.length cu), (2, .func (.func 80) #[] #[])] Try.func79 rfl rfl rfl rfl rfl fun a F => ?_
 refine wp_rs fun _ K1 => F.sg rfl fun a F => ?_
 refine s_end (K1 _ _ ?_)
 refine wp_seq_k fun _ K2 => ?_
 rcases (show cs.length ≠ ds.length ∨ cs.length = ds.length by omega) with hk1 | hk1
 ·
  skip
  refine wp_rs fun _ K4 => F.mv rfl fun a F => F.vl (x_len Try.underlying45 rfl) fun a F => F.mv rfl fun a F => F.vl (x_len Try.underlying45 rfl) fun a F => F.vl (neqT (by omega) rfl rfl) fun a F => ?_
  refine s_end (K4 _ _ ?_)
  refine wp_if F rfl ?_
  refine wp_rs fun _ K5 => F.sg rfl fun a F => ?_
  refine s_end (K5 _ _ ?_)
  refine wp_ret (then_ret (res_slot F rfl rfl ⟨_, rfl, ⟨_, rfl, ⟨fun h => (by cases h), fun h => absurd h.1 hk1⟩⟩, hB⟩))
 ·
  skip
  refine wp_rs fun _ K6 => F.mv rfl fun a F => F.vl (x_len Try.underlying45 rfl) fun a F => F.mv rfl fun a F => F.vl (x_len Try.underlying45 rfl) fun a F => F.vl (neqF (by omega) rfl rfl) fun a F => ?_
  refine s_end (K6 _ _ ?_)
  refine wp_if F rfl ?_
  refine wp_skip (K2 _ _ ?_)
  refine wp_seq_k fun _ K7 => ?_
  refine wp_rs fun _ K8 => F.mv rfl fun a F => F.vl (x_len Try.underlying45 rfl) fun a F => F.mv rfl fun a F => ?_
  refine s_end (K8 _ _ ?_)
  refine wp_block ?_
  refine wp_up cs.length (fun i a w => (∀ (j : Nat) p q, j < i → cs[j]? = some p → ds[j]? = some q → sameC p q) ∧ Below w0.heap.size w0 w ∧ Fs 32 a [(1, .slice au ds.length cu), (2, .func (.func 80) #[] #[]), (15, .slice av cs.length cv), (16, .int .i64 (cs.length : Int)), (17, .int .i64 (i : Int))]) ⟨(fun j p q h => absurd h (by omega)), hB, F.sub _ rfl⟩ ?_
  clear F hB
  rintro i a w hi ⟨hok, hB, F⟩ K' hK'
  have sB := hB.size
  refine wp_rs fun K9 hK9 => F.vl (x_lss (b := decide (i < cs.length)) (decide_eq_decide.2 (by omega)) rfl rfl) fun a F => ?_
  refine s_end (hK9 _ _ ?_)
  refine wp_seq_k fun _ K10 => ?_
  refine wp_iff F rfl (fun hc18 => ?_) (fun hc18 => ?_)
  ·
   obtain ⟨b9, off9, c9, x, p, hve, hp, hxn, hrx, hAb, hbl, hrow⟩ := hV.row (i := i) (by omega)
   obtain ⟨b8, off8, c8, y, q, hue, hq, hyn, hry, hAb8, hbl8, hrow8⟩ := hU.row (i := i) (by omega)
   cases hve
   cases hue
   have h1x := one_cc hrx
   have h1y := one_cc hry
   refine wp_skip (K10 _ _ ?_)
   refine wp_seq_k fun _ K11 => ?_
   refine wp_block ?_
   refine wp_rs fun _ K12 => F.mv rfl fun a F => F.vl (x_ixa rfl rfl (m_ixsK i Try.underlying45 el500.size rfl (by omega))) fun a F => F.vl (x_ldA wide517 (hrow _ (hB.block _ hbl)) rfl rfl) fun a F => ?_
   refine s_alloc F (by decide) zero517 fun w2 b8 a eb8 m8 B3 zb8 F => ?_
   have sB3 := B3.size
   have hB := bt hB B3
   refine F.sg rfl fun a F => ?_
   refine s_putW F rfl rfl (size_wide wide517) m8 rfl h1x fun w6 m8 o7 => ?_
   have so7 := o7.size
   have hB := hB.trans (o7.below (by omega))
   refine s_end (K12 _ _ ?_)
   refine wp_rs fun _ K13 => F.mv rfl fun a F => F.mv rfl fun a F => F.vl (x_ixa rfl rfl (m_ixsK i Try.underlying45 el500.size rfl (by omega))) fun a F => F.vl (x_ldA wide517 (hrow8 _ (hB.block _ hbl8)) rfl rfl) fun a F => ?_
   refine s_alloc F (by decide) zero517 fun w8 b9 a eb9 m9 B9 zb9 F => ?_
   have sB9 := B9.size
   have hB := bt hB B9
   have m8 := m8.old B9
   refine s_putW F rfl rfl (size_wide wide517) m9 rfl h1y fun w12 m9 o13 => ?_
   have so13 := o13.size
   have hB := hB.trans (o13.below (by omega))
   have m8 := m8.only o13 (by omega)
   refine s_end (K13 _ _ ?_)
   refine wp_rs fun _ K14 => F.mv rfl fun a F => F.vl (x_ldW wide517 m8 rfl rfl) fun a F => F.vl (x_ldW wide517 m9 rfl rfl) fun a F => ?_
   refine s_callC (R := fun v w' => (∃ b, v = .bool b ∧ (b = true ↔ sameC p q)) ∧ Below w12.heap.size w12 w') (lb := []) F [_, _] rfl E80 rfl (by decide) ((sameCtor338 x y p q w12 hxn (hrx.bel hB) hyn (hry.bel hB) (hf p (List.mem_of_getElem? hp))).mono fun e w' ⟨z, h1, h2, h3⟩ => ⟨z, h1, h2, h3⟩) ?_
   rintro _ w14 a ⟨⟨b29, rfl, h29⟩, B15⟩ F
   have sB15 := B15.size
   have hB := bt hB B15
   refine F.vl (x_not rfl) fun a F => ?_
   refine s_end (K14 _ _ ?_)
   refine wp_ifb F rfl (fun hc30 => ?_) (fun hc30 => ?_)
   ·
    have hn29 : ¬ sameC p q := fun h => by have := h29.2 h; subst this; simp at hc30
    refine wp_rs fun _ K15 => F.sg rfl fun a F => ?_
    refine s_end (K15 _ _ ?_)
    refine wp_ret (inb_ret (then_ret (then_ret (inb_ret (then_ret (res_slot F rfl rfl ⟨_, rfl, ⟨_, rfl, ⟨fun h => (by cases h), fun h => (hn29 (h.2 i p q hp hq)).elim⟩⟩, hB⟩))))))
   ·
    obtain rfl : b29 = true := by simpa using hc30
    have h30 := h29.1 rfl
    refine wp_skip (K11 _ _ ?_)
    refine wp_region_lit ?_
    refine F.vl (x_addn (i + 1) (by omega) (by omega) rfl rfl) fun a F => F.mv rfl fun a F => ?_
    refine s_end (hK' _ _ (by omega) ⟨(fun j p' q' hj e1 e2 => by rcases Nat.lt_or_ge j i with h | h; (· exact hok j p' q' h e1 e2); (· obtain rfl : j = i := (by omega); rw [hp] at e1; rw [hq] at e2; cases e1; cases e2; exact h30)), hB, F.sub _ rfl⟩)
  ·
   obtain rfl : i = cs.length := by omega
   refine wp_exit (K7 _ _ ?_)
   refine wp_rs fun _ K16 => F.sg rfl fun a F => ?_
   refine s_end (K16 _ _ ?_)
   refine wp_ret (res_slot F rfl rfl ⟨_, rfl, ⟨_, rfl, ⟨fun _ => ⟨hk1, fun j p q e1 e2 => hok j p q (List.getElem?_eq_some_iff.1 e1).1 e1 e2⟩, fun _ => rfl⟩⟩, hB⟩)
theorem SameD335 (d : D21) (t v : CT) (cs : List (ByteArray × CT)) (d2 : D21) (t2 v2 : CT) (ds : List (ByteArray × CT)) (w0 : World) (hd : RD w0 (fun k => k < w0.heap.size) d t v cs) (hf : DFit d t v cs) (he : RD w0 (fun k => k < w0.heap.size) d2 t2 v2 ds) : Calls Try.prog 37 #[dvv d, dvv d2] w0 fun e w' => ∃ z, e = .returned z ∧ (∃ b, z = .bool b ∧ (b = true ↔ sameDl d t v cs d2 t2 v2 ds)) ∧ Below w0.heap.size w0 w' := by
 have hty := hd.ty
 have hvl := hd.vl
 have hcs := hd.cs
 have ety := he.ty
 have evl := he.vl
 have ecs := he.cs
 have hlc9 := hf.len
 have hB := Below.refl w0.heap.size w0
 have sB := hB.size
 refine calls_fs 68 [(0, dvv d), (1, dvv d2)] Try.func37 rfl rfl rfl rfl rfl fun a F => ?_
 refine wp_rs fun _ K1 => ?_
 refine s_box (dc d) F (by decide) rfl rfl fun w2 b2 a eb2 m2 B3 zb2 F => ?_
 have sB3 := B3.size
 have hB := bt hB B3
 refine s_box (dc d2) F (by decide) rfl rfl fun w4 b3 a eb3 m3 B5 zb3 F => ?_
 have sB5 := B5.size
 have hB := bt hB B5
 have m2 := m2.old B5
 refine F.sg rfl fun a F => ?_
 refine s_end (K1 _ _ ?_)
 refine wp_seq_k fun _ K2 => ?_
 rcases (show d.k ≠ d2.k ∨ (d.k = d2.k ∧ d.nm ≠ d2.nm) ∨ (d.k = d2.k ∧ d.nm = d2.nm ∧ d.vars ≠ d2.vars) ∨ (d.k = d2.k ∧ d.nm = d2.nm ∧ d.vars = d2.vars) by by_cases g1 : d.k = d2.k <;> by_cases g2 : d.nm = d2.nm <;> by_cases g3 : d.vars = d2.vars <;> simp [g1, g2, g3]) with hq | ⟨hq, hq2⟩ | ⟨hq, hq2, hq3⟩ | ⟨hq, hq2, hq3⟩
 ·
  have hno : ¬ sameDl d t v cs d2 t2 v2 ds := fun h => hq h.1
  refine wp_rs fun _ K4 => F.vl (x_fa0 fa502_0 rfl) fun a F => F.ld m2 flat3 rfl rfl fun a F => F.vl (x_fa0 fa502_0 rfl) fun a F => F.ld m3 flat3 rfl rfl fun a F => F.vl (neqT (by omega) rfl rfl) fun a F => F.mv rfl fun a F => s_grdn 10 F rfl rfl (by decide) fun a F => s_grdn 10 F rfl rfl (by decide) fun a F => s_grdn 10 F rfl rfl (by decide) fun a F => s_grdn 10 F rfl rfl (by decide) fun a F => s_grdn 10 F rfl rfl (by decide) fun a F => F.vl (x_pick (b := true) rfl rfl) fun a F => F.mv rfl fun a F => s_grdn 17 F rfl rfl (by decide) fun a F => s_grdn 17 F rfl rfl (by decide) fun a F => s_grdn 17 F rfl rfl (by decide) fun a F => s_grdn 17 F rfl rfl (by decide) fun a F => s_grdn 17 F rfl rfl (by decide) fun a F => F.vl (x_pick (b := true) rfl rfl) fun a F => ?_
  refine s_end (K4 _ _ ?_)
  refine wp_if F rfl ?_
  refine wp_rs fun _ K5 => F.sg rfl fun a F => ?_
  refine s_end (K5 _ _ ?_)
  refine wp_ret (then_ret (res_slot F rfl rfl ⟨_, rfl, ⟨_, rfl, ⟨fun h => (by cases h), fun h => absurd h hno⟩⟩, hB⟩))
 ·
  have hno : ¬ sameDl d t v cs d2 t2 v2 ds := fun h => hq2 h.2.1
  refine wp_rs fun _ K6 => F.vl (x_fa0 fa502_0 rfl) fun a F => F.ld m2 flat3 rfl rfl fun a F => F.vl (x_fa0 fa502_0 rfl) fun a F => F.ld m3 flat3 rfl rfl fun a F => F.vl (neqF (by omega) rfl rfl) fun a F => F.mv rfl fun a F => s_grd 10 F rfl rfl rfl <| F.vl (x_fa0 fa502_1 rfl) fun a F => s_grd 10 F rfl rfl rfl <| F.ld m2 flat9 rfl rfl fun a F => s_grd 10 F rfl rfl rfl <| F.vl (x_fa0 fa502_1 rfl) fun a F => s_grd 10 F rfl rfl rfl <| F.ld m3 flat9 rfl rfl fun a F => s_grd 10 F rfl rfl rfl <| F.vl (x_neSX (b := true) (decide_eq_true hq2) rfl rfl) fun a F => F.vl (x_pick (b := false) rfl rfl) fun a F => F.mv rfl fun a F => s_grdn 17 F rfl rfl (by decide) fun a F => s_grdn 17 F rfl rfl (by decide) fun a F => s_grdn 17 F rfl rfl (by decide) fun a F => s_grdn 17 F rfl rfl (by decide) fun a F => s_grdn 17 F rfl rfl (by decide) fun a F => F.vl (x_pick (b := true) rfl rfl) fun a F => ?_
  refine s_end (K6 _ _ ?_)
  refine wp_if F rfl ?_
  refine wp_rs fun _ K7 => F.sg rfl fun a F => ?_
  refine s_end (K7 _ _ ?_)
  refine wp_ret (then_ret (res_slot F rfl rfl ⟨_, rfl, ⟨_, rfl, ⟨fun h => (by cases h), fun h => absurd h hno⟩⟩, hB⟩))
 ·
  have hno : ¬ sameDl d t v cs d2 t2 v2 ds := fun h => hq3 h.2.2.1
  refine wp_rs fun _ K8 => F.vl (x_fa0 fa502_0 rfl) fun a F => F.ld m2 flat3 rfl rfl fun a F => F.vl (x_fa0 fa502_0 rfl) fun a F => F.ld m3 flat3 rfl rfl fun a F => F.vl (neqF (by omega) rfl rfl) fun a F => F.mv rfl fun a F => s_grd 10 F rfl rfl rfl <| F.vl (x_fa0 fa502_1 rfl) fun a F => s_grd 10 F rfl rfl rfl <| F.ld m2 flat9 rfl rfl fun a F => s_grd 10 F rfl rfl rfl <| F.vl (x_fa0 fa502_1 rfl) fun a F => s_grd 10 F rfl rfl rfl <| F.ld m3 flat9 rfl rfl fun a F => s_grd 10 F rfl rfl rfl <| F.vl (x_neSX (b := false) (decide_eq_false (fun h => h hq2)) rfl rfl) fun a F => F.vl (x_pick (b := false) rfl rfl) fun a F => F.mv rfl fun a F => s_grd 17 F rfl rfl rfl <| F.vl (x_fa0 fa502_2 rfl) fun a F => s_grd 17 F rfl rfl rfl <| F.ld m2 flat3 rfl rfl fun a F => s_grd 17 F rfl rfl rfl <| F.vl (x_fa0 fa502_2 rfl) fun a F => s_grd 17 F rfl rfl rfl <| F.ld m3 flat3 rfl rfl fun a F => s_grd 17 F rfl rfl rfl <| F.vl (neqT (by omega) rfl rfl) fun a F => F.vl (x_pick (b := false) rfl rfl) fun a F => ?_
  refine s_end (K8 _ _ ?_)
  refine wp_if F rfl ?_
  refine wp_rs fun K9 hK9 => F.sg rfl fun a F => ?_
  refine s_end (hK9 _ _ ?_)
  refine wp_ret (then_ret (res_slot F rfl rfl ⟨_, rfl, ⟨_, rfl, ⟨fun h => (by cases h), fun h => absurd h hno⟩⟩, hB⟩))
 ·
  skip
  refine wp_rs fun _ K10 => F.vl (x_fa0 fa502_0 rfl) fun a F => F.ld m2 flat3 rfl rfl fun a F => F.vl (x_fa0 fa502_0 rfl) fun a F => F.ld m3 flat3 rfl rfl fun a F => F.vl (neqF (by omega) rfl rfl) fun a F => F.mv rfl fun a F => s_grd 10 F rfl rfl rfl <| F.vl (x_fa0 fa502_1 rfl) fun a F => s_grd 10 F rfl rfl rfl <| F.ld m2 flat9 rfl rfl fun a F => s_grd 10 F rfl rfl rfl <| F.vl (x_fa0 fa502_1 rfl) fun a F => s_grd 10 F rfl rfl rfl <| F.ld m3 flat9 rfl rfl fun a F => s_grd 10 F rfl rfl rfl <| F.vl (x_neSX (b := false) (decide_eq_false (fun h => h hq2)) rfl rfl) fun a F => F.vl (x_pick (b := false) rfl rfl) fun a F => F.mv rfl fun a F => s_grd 17 F rfl rfl rfl <| F.vl (x_fa0 fa502_2 rfl) fun a F => s_grd 17 F rfl rfl rfl <| F.ld m2 flat3 rfl rfl fun a F => s_grd 17 F rfl rfl rfl <| F.vl (x_fa0 fa502_2 rfl) fun a F => s_grd 17 F rfl rfl rfl <| F.ld m3 flat3 rfl rfl fun a F => s_grd 17 F rfl rfl rfl <| F.vl (neqF (by omega) rfl rfl) fun a F => F.vl (x_pick (b := false) rfl rfl) fun a F => ?_
  refine s_end (K10 _ _ ?_)
  refine wp_if F rfl ?_
  refine wp_skip (K2 _ _ ?_)
  refine wp_seq_k fun _ K11 => ?_
  refine wp_rs fun _ K12 => F.vl (x_fa0 fa502_0 rfl) fun a F => F.ld m2 flat3 rfl rfl fun a F => ?_
  refine s_end (K12 _ _ ?_)
  refine wp_block ?_
  rcases (show d.k = 1 ∨ (d.k ≠ 1 ∧ d.k = 2) ∨ (d.k ≠ 1 ∧ d.k ≠ 2 ∧ d.k = 3 ∧ d.ps = d2.ps) ∨ (d.k ≠ 1 ∧ d.k ≠ 2 ∧ d.k = 3 ∧ d.ps ≠ d2.ps) ∨ (d.k ≠ 1 ∧ d.k ≠ 2 ∧ d.k ≠ 3) by omega) with hk | hk | hk | hk | hk
  ·
   have hP : sameDl d t v cs d2 t2 v2 ds ↔ sameTm t t2 := ⟨fun h => (h.2.2.2 (by omega)).1, fun h => ⟨hq, hq2, hq3, fun _ => ⟨h, fun h2 => by omega, fun h2 => by omega⟩⟩⟩
   refine wp_rs fun _ K14 => F.vl (eqlT (by omega) rfl rfl) fun a F => F.sg rfl fun a F => ?_
   refine s_end (K14 _ _ ?_)
   refine wp_if F rfl ?_
   refine wp_rs fun _ K15 => F.vl (x_fa0 fa502_3 rfl) fun a F => F.vl (x_load rfl (m_loadP (vs := [_, _, _, _, _, _, _, _]) wide27 m2 rfl)) fun a F => F.vl (x_fa0 fa502_3 rfl) fun a F => F.vl (x_load rfl (m_loadP (vs := [_, _, _, _, _, _, _, _]) wide27 m3 rfl)) fun a F => ?_
   refine s_callR (R := fun r w' => ∃ b, r = .bool b ∧ (b = true ↔ sameTm t t2)) [_, _] F E78 rfl (by decide) ((Same40 t t2 d.ty d2.ty w4 (hty.bel hB) (ety.bel hB) (CT.fit_ess hf.ty))) ?_
   rintro _ w6 a ⟨b32, rfl, h32⟩ B7 F
   have sB7 := B7.size
   have hB := bt hB B7
   refine F.sg rfl fun a F => ?_
   refine s_end (K15 _ _ ?_)
   refine wp_ret (inb_ret (then_ret (res_slot F rfl rfl ⟨_, rfl, ⟨_, rfl, by rw [hP]; exact h32⟩, hB⟩)))
  ·
   have hP : sameDl d t v cs d2 t2 v2 ds ↔ (sameTm t t2 ∧ sameTm v v2) := ⟨fun h => ⟨(h.2.2.2 (by omega)).1, (h.2.2.2 (by omega)).2.1 hk.2⟩, fun h => ⟨hq, hq2, hq3, fun _ => ⟨h.1, fun _ => h.2, fun h2 => by omega⟩⟩⟩
   refine wp_rs fun _ K16 => F.vl (eqlF (by omega) rfl rfl) fun a F => F.sg rfl fun a F => ?_
   refine s_end (K16 _ _ ?_)
   refine wp_if F rfl ?_
   refine wp_rs fun _ K17 => F.vl (eqlT (by omega) rfl rfl) fun a F => F.sg rfl fun a F => ?_
   refine s_end (K17 _ _ ?_)
   refine wp_if F rfl ?_
   refine wp_rs fun _ K18 => F.vl (x_fa0 fa502_3 rfl) fun a F => F.vl (x_load rfl (m_loadP (vs := [_, _, _, _, _, _, _, _]) wide27 m2 rfl)) fun a F => F.vl (x_fa0 fa502_3 rfl) fun a F => F.vl (x_load rfl (m_loadP (vs := [_, _, _, _, _, _, _, _]) wide27 m3 rfl)) fun a F => ?_
   refine s_callR (R := fun r w' => ∃ b, r = .bool b ∧ (b = true ↔ sameTm t t2)) [_, _] F E78 rfl (by decide) ((Same40 t t2 d.ty d2.ty w4 (hty.bel hB) (ety.bel hB) (CT.fit_ess hf.ty))) ?_
   rintro _ w8 a ⟨b39, rfl, h39⟩ B9 F
   have sB9 := B9.size
   have hB := bt hB B9
   have m2 := m2.old B9
   have m3 := m3.old B9
   cases b39
   ·
    refine F.mv rfl fun a F => s_grdn 40 F rfl rfl (by decide) fun a F => s_grdn 40 F rfl rfl (by decide) fun a F => s_grdn 40 F rfl rfl (by decide) fun a F => s_grdn 40 F rfl rfl (by decide) fun a F => s_grdn 40 F rfl rfl (by decide) fun a F => F.vl (x_pick (b := false) rfl rfl) fun a F => F.sg rfl fun a F => ?_
    refine s_end (K18 _ _ ?_)
    refine wp_ret (inb_ret (then_ret (res_slot F rfl rfl ⟨_, rfl, ⟨_, rfl, by rw [hP]; exact ⟨fun h => (by cases h), fun h => absurd (h39.2 h.1) (by simp)⟩⟩, hB⟩)))
   ·
    refine F.mv rfl fun a F => s_grd 40 F rfl rfl rfl <| F.vl (x_fa0 fa502_4 rfl) fun a F => s_grd 40 F rfl rfl rfl <| F.vl (x_load rfl (m_loadP (vs := [_, _, _, _, _, _, _, _]) wide27 m2 rfl)) fun a F => s_grd 40 F rfl rfl rfl <| F.vl (x_fa0 fa502_4 rfl) fun a F => s_grd 40 F rfl rfl rfl <| F.vl (x_load rfl (m_loadP (vs := [_, _, _, _, _, _, _, _]) wide27 m3 rfl)) fun a F => s_grd 40 F rfl rfl rfl ?_
    refine s_callR (R := fun r w' => ∃ b, r = .bool b ∧ (b = true ↔ sameTm v v2)) [_, _] F E78 rfl (by decide) ((Same40 v v2 d.vl d2.vl w8 (hvl.bel hB) (evl.bel hB) (CT.fit_ess hf.vl))) ?_
    rintro _ w10 a ⟨b45, rfl, h45⟩ B11 F
    have sB11 := B11.size
    have hB := bt hB B11
    refine F.vl (x_pick (b := true) rfl rfl) fun a F => F.sg rfl fun a F => ?_
    refine s_end (K18 _ _ ?_)
    refine wp_ret (inb_ret (then_ret (res_slot F rfl rfl ⟨_, rfl, ⟨_, rfl, by rw [hP]; exact ⟨fun h => ⟨h39.1 rfl, h45.1 h⟩, fun h => h45.2 h.2⟩⟩, hB⟩)))
  ·
   have hP : sameDl d t v cs d2 t2 v2 ds ↔ (sameTm t t2 ∧ sameCs cs ds) := ⟨fun h => ⟨(h.2.2.2 (by omega)).1, ((h.2.2.2 (by omega)).2.2 hk.2.2.1).2⟩, fun h => ⟨hq, hq2, hq3, fun _ => ⟨h.1, (fun h2 => by omega), fun _ => ⟨hk.2.2.2, h.2⟩⟩⟩⟩
   refine wp_rs fun _ K19 => F.vl (eqlF (by omega) rfl rfl) fun a F => F.sg rfl fun a F => ?_
   refine s_end (K19 _ _ ?_)
   refine wp_if F rfl ?_
   refine wp_rs fun _ K20 => F.vl (eqlF (by omega) rfl rfl) fun a F => F.sg rfl fun a F => ?_
   refine s_end (K20 _ _ ?_)
   refine wp_if F rfl ?_
   refine wp_rs fun _ K21 => F.vl (eqlT (by omega) rfl rfl) fun a F => F.sg rfl fun a F => ?_
   refine s_end (K21 _ _ ?_)
   refine wp_if F rfl ?_
   refine wp_rs fun _ K22 => F.vl (x_fa0 fa502_3 rfl) fun a F => F.vl (x_load rfl (m_loadP (vs := [_, _, _, _, _, _, _, _]) wide27 m2 rfl)) fun a F => F.vl (x_fa0 fa502_3 rfl) fun a F => F.vl (x_load rfl (m_loadP (vs := [_, _, _, _, _, _, _, _]) wide27 m3 rfl)) fun a F => ?_
   refine s_callR (R := fun r w' => ∃ b, r = .bool b ∧ (b = true ↔ sameTm t t2)) [_, _] F E78 rfl (by decide) ((Same40 t t2 d.ty d2.ty w4 (hty.bel hB) (ety.bel hB) (CT.fit_ess hf.ty))) ?_
   rintro _ w12 a ⟨b53, rfl, h53⟩ B13 F
   have sB13 := B13.size
   have hB := bt hB B13
   have m2 := m2.old B13
   have m3 := m3.old B13
   cases b53
   ·
    refine F.mv rfl fun a F => s_grdn 54 F rfl rfl (by decide) fun a F => s_grdn 54 F rfl rfl (by decide) fun a F => s_grdn 54 F rfl rfl (by decide) fun a F => s_grdn 54 F rfl rfl (by decide) fun a F => s_grdn 54 F rfl rfl (by decide) fun a F => F.vl (x_pick (b := false) rfl rfl) fun a F => F.mv rfl fun a F => s_grdn 61 F rfl rfl (by decide) fun a F => s_grdn 61 F rfl rfl (by decide) fun a F => s_grdn 61 F rfl rfl (by decide) fun a F => s_grdn 61 F rfl rfl (by decide) fun a F => s_grdn 61 F rfl rfl (by decide) fun a F => F.vl (x_pick (b := false) rfl rfl) fun a F => F.sg rfl fun a F => ?_
    refine s_end (K22 _ _ ?_)
    refine wp_ret (inb_ret (then_ret (res_slot F rfl rfl ⟨_, rfl, ⟨_, rfl, by rw [hP]; exact ⟨fun h => (by cases h), fun h => absurd (h53.2 h.1) (by simp)⟩⟩, hB⟩)))
   ·
    refine F.mv rfl fun a F => s_grd 54 F rfl rfl rfl <| F.vl (x_fa0 fa502_5 rfl) fun a F => s_grd 54 F rfl rfl rfl <| F.ld m2 flat3 rfl rfl fun a F => s_grd 54 F rfl rfl rfl <| F.vl (x_fa0 fa502_5 rfl) fun a F => s_grd 54 F rfl rfl rfl <| F.ld m3 flat3 rfl rfl fun a F => s_grd 54 F rfl rfl rfl <| F.vl (eqlT (by omega) rfl rfl) fun a F => F.vl (x_pick (b := true) rfl rfl) fun a F => F.mv rfl fun a F => s_grd 61 F rfl rfl rfl <| F.vl (x_fa0 fa502_6 rfl) fun a F => s_grd 61 F rfl rfl rfl <| F.ld m2 flat500 rfl rfl fun a F => s_grd 61 F rfl rfl rfl <| F.vl (x_fa0 fa502_6 rfl) fun a F => s_grd 61 F rfl rfl rfl <| F.ld m3 flat500 rfl rfl fun a F => s_grd 61 F rfl rfl rfl ?_
    refine s_callR (R := fun r w' => ∃ b, r = .bool b ∧ (b = true ↔ sameCs cs ds)) [_, _, _] F E79 rfl (by decide) ((eqC337 cs ds _ _ w12 ((hcs.keep hB.size (fun k hk _ => hB.block k hk)).mono (fun k hk => by omega)) ((ecs.keep hB.size (fun k hk _ => hB.block k hk)).mono (fun k hk => by omega)) hf.len (fun c hc => (hf.cf c hc).2))) ?_
    rintro _ w14 a ⟨b66, rfl, h66⟩ B15 F
    have sB15 := B15.size
    have hB := bt hB B15
    refine F.vl (x_pick (b := true) rfl rfl) fun a F => F.sg rfl fun a F => ?_
    refine s_end (K22 _ _ ?_)
    refine wp_ret (inb_ret (then_ret (res_slot F rfl rfl ⟨_, rfl, ⟨_, rfl, by rw [hP]; exact ⟨fun h => ⟨h53.1 rfl, h66.1 h⟩, fun h => h66.2 h.2⟩⟩, hB⟩)))
  ·
   have hno : ¬ sameDl d t v cs d2 t2 v2 ds := fun h => hk.2.2.2 ((h.2.2.2 (by omega)).2.2 hk.2.2.1).1
   refine wp_rs fun _ K23 => F.vl (eqlF (by omega) rfl rfl) fun a F => F.sg rfl fun a F => ?_
   refine s_end (K23 _ _ ?_)
   refine wp_if F rfl ?_
   refine wp_rs fun _ K24 => F.vl (eqlF (by omega) rfl rfl) fun a F => F.sg rfl fun a F => ?_
   refine s_end (K24 _ _ ?_)
   refine wp_if F rfl ?_
   refine wp_rs fun _ K25 => F.vl (eqlT (by omega) rfl rfl) fun a F => F.sg rfl fun a F => ?_
   refine s_end (K25 _ _ ?_)
   refine wp_if F rfl ?_
   refine wp_rs fun _ K26 => F.vl (x_fa0 fa502_3 rfl) fun a F => F.vl (x_load rfl (m_loadP (vs := [_, _, _, _, _, _, _, _]) wide27 m2 rfl)) fun a F => F.vl (x_fa0 fa502_3 rfl) fun a F => F.vl (x_load rfl (m_loadP (vs := [_, _, _, _, _, _, _, _]) wide27 m3 rfl)) fun a F => ?_
   refine s_callR (R := fun r w' => ∃ b, r = .bool b ∧ (b = true ↔ sameTm t t2)) [_, _] F E78 rfl (by decide) ((Same40 t t2 d.ty d2.ty w4 (hty.bel hB) (ety.bel hB) (CT.fit_ess hf.ty))) ?_
   rintro _ w16 a ⟨b53, rfl, h53⟩ B17 F
   have sB17 := B17.size
   have hB := bt hB B17
   have m2 := m2.old B17
   have m3 := m3.old B17
   cases b53
   ·
    refine F.mv rfl fun a F => s_grdn 54 F rfl rfl (by decide) fun a F => s_grdn 54 F rfl rfl (by decide) fun a F => s_grdn 54 F rfl rfl (by decide) fun a F => s_grdn 54 F rfl rfl (by decide) fun a F => s_grdn 54 F rfl rfl (by decide) fun a F => F.vl (x_pick (b := false) rfl rfl) fun a F => F.mv rfl fun a F => s_grdn 61 F rfl rfl (by decide) fun a F => s_grdn 61 F rfl rfl (by decide) fun a F => s_grdn 61 F rfl rfl (by decide) fun a F => s_grdn 61 F rfl rfl (by decide) fun a F => s_grdn 61 F rfl rfl (by decide) fun a F => F.vl (x_pick (b := false) rfl rfl) fun a F => F.sg rfl fun a F => ?_
    refine s_end (K26 _ _ ?_)
    refine wp_ret (inb_ret (then_ret (res_slot F rfl rfl ⟨_, rfl, ⟨_, rfl, ⟨fun h => (by cases h), fun h => absurd h hno⟩⟩, hB⟩)))
   ·
    refine F.mv rfl fun a F => s_grd 54 F rfl rfl rfl <| F.vl (x_fa0 fa502_5 rfl) fun a F => s_grd 54 F rfl rfl rfl <| F.ld m2 flat3 rfl rfl fun a F => s_grd 54 F rfl rfl rfl <| F.vl (x_fa0 fa502_5 rfl) fun a F => s_grd 54 F rfl rfl rfl <| F.ld m3 flat3 rfl rfl fun a F => s_grd 54 F rfl rfl rfl <| F.vl (eqlF (by omega) rfl rfl) fun a F => F.vl (x_pick (b := true) rfl rfl) fun a F => F.mv rfl fun a F => s_grdn 61 F rfl rfl (by decide) fun a F => s_grdn 61 F rfl rfl (by decide) fun a F => s_grdn 61 F rfl rfl (by decide) fun a F => s_grdn 61 F rfl rfl (by decide) fun a F => s_grdn 61 F rfl rfl (by decide) fun a F => F.vl (x_pick (b := false) rfl rfl) fun a F => F.sg rfl fun a F => ?_
    refine s_end (K26 _ _ ?_)
    refine wp_ret (inb_ret (then_ret (res_slot F rfl rfl ⟨_, rfl, ⟨_, rfl, ⟨fun h => (by cases h), fun h => absurd h hno⟩⟩, hB⟩)))
  ·
   have hyes : sameDl d t v cs d2 t2 v2 ds := ⟨hq, hq2, hq3, fun h2 => by omega⟩
   refine wp_rs fun _ K27 => F.vl (eqlF (by omega) rfl rfl) fun a F => F.sg rfl fun a F => ?_
   refine s_end (K27 _ _ ?_)
   refine wp_if F rfl ?_
   refine wp_rs fun _ K28 => F.vl (eqlF (by omega) rfl rfl) fun a F => F.sg rfl fun a F => ?_
   refine s_end (K28 _ _ ?_)
   refine wp_if F rfl ?_
   refine wp_rs fun _ K29 => F.vl (eqlF (by omega) rfl rfl) fun a F => F.sg rfl fun a F => ?_
   refine s_end (K29 _ _ ?_)
   refine wp_if F rfl ?_
   refine wp_skip (K11 _ _ ?_)
   refine wp_rs fun _ K30 => F.sg rfl fun a F => ?_
   refine s_end (K30 _ _ ?_)
   refine wp_ret (res_slot F rfl rfl ⟨_, rfl, ⟨_, rfl, ⟨fun _ => hyes, fun _ => rfl⟩⟩, hB⟩)
theorem rSameD336 (d : D21) (t v : CT) (cs : List (ByteArray × CT)) (d2 : D21) (t2 v2 : CT) (ds : List (ByteArray × CT)) (w0 : World) (hd : RD w0 (fun k => k < w0.heap.size) d t v cs) (hf : DFit d t v cs) (he : RD w0 (fun k => k < w0.heap.size) d2 t2 v2 ds) : Calls Try.prog 38 #[dvv d, dvv d2] w0 fun e w' => ∃ z, e = .returned z ∧ (∃ b, z = .bool b ∧ (b = true ↔ sameDl d t v cs d2 t2 v2 ds)) ∧ Below w0.heap.size w0 w' := by
 have hty := hd.ty
 have hvl := hd.vl
 have hcs := hd.cs
 have ety := he.ty
 have evl := he.vl
 have ecs := he.cs
 have hlc9 := hf.len
 obtain ⟨ac, kc, hdc, _⟩ := hcs.form
 obtain ⟨ae, ke, hec, _⟩ := ecs.form
 rw [hdc] at hcs
 rw [hec] at ecs
 have hB := Below.refl w0.heap.size w0
 have sB := hB.size
 refine calls_fs 95 [(0, dvv d), (1, dvv d2)] Try.func38 rfl rfl rfl rfl rfl fun a F => ?_
 refine wp_rs fun _ K1 => ?_
 refine s_box (dc d) F (by decide) rfl rfl fun w2 b2 a eb2 m2 B3 zb2 F => ?_
 have sB3 := B3.size
 have hB := bt hB B3
 refine s_box (dc d2) F (by decide) rfl rfl fun w4 b3 a eb3 m3 B5 zb3 F => ?_
 have sB5 := B5.size
 have hB := bt hB B5
 have m2 := m2.old B5
 refine F.sg rfl fun a F => ?_
 refine s_end (K1 _ _ ?_)
 refine wp_seq_k fun _ K2 => ?_
 rcases (show d.k ≠ d2.k ∨ (d.k = d2.k ∧ d.nm ≠ d2.nm) ∨ (d.k = d2.k ∧ d.nm = d2.nm ∧ d.vars ≠ d2.vars) ∨ (d.k = d2.k ∧ d.nm = d2.nm ∧ d.vars = d2.vars) by by_cases g1 : d.k = d2.k <;> by_cases g2 : d.nm = d2.nm <;> by_cases g3 : d.vars = d2.vars <;> simp [g1, g2, g3]) with hq | ⟨hq, hq2⟩ | ⟨hq, hq2, hq3⟩ | ⟨hq, hq2, hq3⟩
 ·
  have hno : ¬ sameDl d t v cs d2 t2 v2 ds := fun h => hq h.1
  refine wp_rs fun _ K4 => F.vl (x_fa0 fa502_0 rfl) fun a F => F.ld m2 flat3 rfl rfl fun a F => F.vl (x_fa0 fa502_0 rfl) fun a F => F.ld m3 flat3 rfl rfl fun a F => F.vl (neqT (by omega) rfl rfl) fun a F => F.mv rfl fun a F => s_grdn 12 F rfl rfl (by decide) fun a F => s_grdn 12 F rfl rfl (by decide) fun a F => s_grdn 12 F rfl rfl (by decide) fun a F => s_grdn 12 F rfl rfl (by decide) fun a F => s_grdn 12 F rfl rfl (by decide) fun a F => F.vl (x_pick (b := true) rfl rfl) fun a F => F.mv rfl fun a F => s_grdn 19 F rfl rfl (by decide) fun a F => s_grdn 19 F rfl rfl (by decide) fun a F => s_grdn 19 F rfl rfl (by decide) fun a F => s_grdn 19 F rfl rfl (by decide) fun a F => s_grdn 19 F rfl rfl (by decide) fun a F => F.vl (x_pick (b := true) rfl rfl) fun a F => ?_
  refine s_end (K4 _ _ ?_)
  refine wp_if F rfl ?_
  refine wp_rs fun _ K5 => F.sg rfl fun a F => ?_
  refine s_end (K5 _ _ ?_)
  refine wp_ret (then_ret (res_slot F rfl rfl ⟨_, rfl, ⟨_, rfl, ⟨fun h => (by cases h), fun h => absurd h hno⟩⟩, hB⟩))
 ·
  have hno : ¬ sameDl d t v cs d2 t2 v2 ds := fun h => hq2 h.2.1
  refine wp_rs fun _ K6 => F.vl (x_fa0 fa502_0 rfl) fun a F => F.ld m2 flat3 rfl rfl fun a F => F.vl (x_fa0 fa502_0 rfl) fun a F => F.ld m3 flat3 rfl rfl fun a F => F.vl (neqF (by omega) rfl rfl) fun a F => F.mv rfl fun a F => s_grd 12 F rfl rfl rfl <| F.vl (x_fa0 fa502_1 rfl) fun a F => s_grd 12 F rfl rfl rfl <| F.ld m2 flat9 rfl rfl fun a F => s_grd 12 F rfl rfl rfl <| F.vl (x_fa0 fa502_1 rfl) fun a F => s_grd 12 F rfl rfl rfl <| F.ld m3 flat9 rfl rfl fun a F => s_grd 12 F rfl rfl rfl <| F.vl (x_neSX (b := true) (decide_eq_true hq2) rfl rfl) fun a F => F.vl (x_pick (b := false) rfl rfl) fun a F => F.mv rfl fun a F => s_grdn 19 F rfl rfl (by decide) fun a F => s_grdn 19 F rfl rfl (by decide) fun a F => s_grdn 19 F rfl rfl (by decide) fun a F => s_grdn 19 F rfl rfl (by decide) fun a F => s_grdn 19 F rfl rfl (by decide) fun a F => F.vl (x_pick (b := true) rfl rfl) fun a F => ?_
  refine s_end (K6 _ _ ?_)
  refine wp_if F rfl ?_
  refine wp_rs fun _ K7 => F.sg rfl fun a F => ?_
  refine s_end (K7 _ _ ?_)
  refine wp_ret (then_ret (res_slot F rfl rfl ⟨_, rfl, ⟨_, rfl, ⟨fun h => (by cases h), fun h => absurd h hno⟩⟩, hB⟩))
 ·
  have hno : ¬ sameDl d t v cs d2 t2 v2 ds := fun h => hq3 h.2.2.1
  refine wp_rs fun _ K8 => F.vl (x_fa0 fa502_0 rfl) fun a F => F.ld m2 flat3 rfl rfl fun a F => F.vl (x_fa0 fa502_0 rfl) fun a F => F.ld m3 flat3 rfl rfl fun a F => F.vl (neqF (by omega) rfl rfl) fun a F => F.mv rfl fun a F => s_grd 12 F rfl rfl rfl <| F.vl (x_fa0 fa502_1 rfl) fun a F => s_grd 12 F rfl rfl rfl <| F.ld m2 flat9 rfl rfl fun a F => s_grd 12 F rfl rfl rfl <| F.vl (x_fa0 fa502_1 rfl) fun a F => s_grd 12 F rfl rfl rfl <| F.ld m3 flat9 rfl rfl fun a F => s_grd 12 F rfl rfl rfl <| F.vl (x_neSX (b := false) (decide_eq_false (fun h => h hq2)) rfl rfl) fun a F => F.vl (x_pick (b := false) rfl rfl) fun a F => F.mv rfl fun a F => s_grd 19 F rfl rfl rfl <| F.vl (x_fa0 fa502_2 rfl) fun a F => s_grd 19 F rfl rfl rfl <| F.ld m2 flat3 rfl rfl fun a F => s_grd 19 F rfl rfl rfl <| F.vl (x_fa0 fa502_2 rfl) fun a F => s_grd 19 F rfl rfl rfl <| F.ld m3 flat3 rfl rfl fun a F => s_grd 19 F rfl rfl rfl <| F.vl (neqT (by omega) rfl rfl) fun a F => F.vl (x_pick (b := false) rfl rfl) fun a F => ?_
  refine s_end (K8 _ _ ?_)
  refine wp_if F rfl ?_
  refine wp_rs fun K9 hK9 => F.sg rfl fun a F => ?_
  refine s_end (hK9 _ _ ?_)
  refine wp_ret (then_ret (res_slot F rfl rfl ⟨_, rfl, ⟨_, rfl, ⟨fun h => (by cases h), fun h => absurd h hno⟩⟩, hB⟩))
 ·
  skip
  refine wp_rs fun _ K10 => F.vl (x_fa0 fa502_0 rfl) fun a F => F.ld m2 flat3 rfl rfl fun a F => F.vl (x_fa0 fa502_0 rfl) fun a F => F.ld m3 flat3 rfl rfl fun a F => F.vl (neqF (by omega) rfl rfl) fun a F => F.mv rfl fun a F => s_grd 12 F rfl rfl rfl <| F.vl (x_fa0 fa502_1 rfl) fun a F => s_grd 12 F rfl rfl rfl <| F.ld m2 flat9 rfl rfl fun a F => s_grd 12 F rfl rfl rfl <| F.vl (x_fa0 fa502_1 rfl) fun a F => s_grd 12 F rfl rfl rfl <| F.ld m3 flat9 rfl rfl fun a F => s_grd 12 F rfl rfl rfl <| F.vl (x_neSX (b := false) (decide_eq_false (fun h => h hq2)) rfl rfl) fun a F => F.vl (x_pick (b := false) rfl rfl) fun a F => F.mv rfl fun a F => s_grd 19 F rfl rfl rfl <| F.vl (x_fa0 fa502_2 rfl) fun a F => s_grd 19 F rfl rfl rfl <| F.ld m2 flat3 rfl rfl fun a F => s_grd 19 F rfl rfl rfl <| F.vl (x_fa0 fa502_2 rfl) fun a F => s_grd 19 F rfl rfl rfl <| F.ld m3 flat3 rfl rfl fun a F => s_grd 19 F rfl rfl rfl <| F.vl (neqF (by omega) rfl rfl) fun a F => F.vl (x_pick (b := false) rfl rfl) fun a F => ?_
  refine s_end (K10 _ _ ?_)
  refine wp_if F rfl ?_
  refine wp_skip (K2 _ _ ?_)
  refine wp_seq_k fun _ K11 => ?_
  rcases (show d.k < 1 ∨ (¬ d.k < 1 ∧ 3 < d.k) ∨ (¬ d.k < 1 ∧ ¬ 3 < d.k) by omega) with hk9 | hk9 | hk9
  ·
   have hyes : sameDl d t v cs d2 t2 v2 ds := ⟨hq, hq2, hq3, fun h2 => by omega⟩
   refine wp_rs fun _ K13 => F.vl (x_fa0 fa502_0 rfl) fun a F => F.ld m2 flat3 rfl rfl fun a F => F.vl (lssT (by omega) rfl rfl) fun a F => F.mv rfl fun a F => s_grdn 29 F rfl rfl (by decide) fun a F => s_grdn 29 F rfl rfl (by decide) fun a F => s_grdn 29 F rfl rfl (by decide) fun a F => F.vl (x_pick (b := true) rfl rfl) fun a F => ?_
   refine s_end (K13 _ _ ?_)
   refine wp_if F rfl ?_
   refine wp_rs fun _ K14 => F.sg rfl fun a F => ?_
   refine s_end (K14 _ _ ?_)
   refine wp_ret (then_ret (res_slot F rfl rfl ⟨_, rfl, ⟨_, rfl, ⟨fun _ => hyes, fun _ => rfl⟩⟩, hB⟩))
  ·
   have hyes : sameDl d t v cs d2 t2 v2 ds := ⟨hq, hq2, hq3, fun h2 => by omega⟩
   refine wp_rs fun _ K15 => F.vl (x_fa0 fa502_0 rfl) fun a F => F.ld m2 flat3 rfl rfl fun a F => F.vl (lssF (by omega) rfl rfl) fun a F => F.mv rfl fun a F => s_grd 29 F rfl rfl rfl <| F.vl (x_fa0 fa502_0 rfl) fun a F => s_grd 29 F rfl rfl rfl <| F.ld m2 flat3 rfl rfl fun a F => s_grd 29 F rfl rfl rfl <| F.vl (gtrT (by omega) rfl rfl) fun a F => F.vl (x_pick (b := false) rfl rfl) fun a F => ?_
   refine s_end (K15 _ _ ?_)
   refine wp_if F rfl ?_
   refine wp_rs fun _ K16 => F.sg rfl fun a F => ?_
   refine s_end (K16 _ _ ?_)
   refine wp_ret (then_ret (res_slot F rfl rfl ⟨_, rfl, ⟨_, rfl, ⟨fun _ => hyes, fun _ => rfl⟩⟩, hB⟩))
  ·
   skip
   refine wp_rs fun _ K17 => F.vl (x_fa0 fa502_0 rfl) fun a F => F.ld m2 flat3 rfl rfl fun a F => F.vl (lssF (by omega) rfl rfl) fun a F => F.mv rfl fun a F => s_grd 29 F rfl rfl rfl <| F.vl (x_fa0 fa502_0 rfl) fun a F => s_grd 29 F rfl rfl rfl <| F.ld m2 flat3 rfl rfl fun a F => s_grd 29 F rfl rfl rfl <| F.vl (gtrF (by omega) rfl rfl) fun a F => F.vl (x_pick (b := false) rfl rfl) fun a F => ?_
   refine s_end (K17 _ _ ?_)
   refine wp_if F rfl ?_
   refine wp_skip (K11 _ _ ?_)
   refine wp_seq_k fun _ K18 => ?_
   refine wp_rs fun _ K19 => F.vl (x_fa0 fa502_3 rfl) fun a F => F.vl (x_load rfl (m_loadP (vs := [_, _, _, _, _, _, _, _]) wide27 m2 rfl)) fun a F => F.vl (x_fa0 fa502_3 rfl) fun a F => F.vl (x_load rfl (m_loadP (vs := [_, _, _, _, _, _, _, _]) wide27 m3 rfl)) fun a F => ?_
   refine s_callR (R := fun r w' => ∃ b, r = .bool b ∧ (b = true ↔ sameTm t t2)) [_, _] F E81 rfl (by decide) ((rSame41 t t2 d.ty d2.ty w4 (hty.bel hB) (ety.bel hB) (CT.fit_ess hf.ty))) ?_
   rintro _ w6 a ⟨b38, rfl, h38⟩ B7 F
   have sB7 := B7.size
   have hB := bt hB B7
   have m2 := m2.old B7
   have m3 := m3.old B7
   refine F.vl (x_not rfl) fun a F => ?_
   refine s_end (K19 _ _ ?_)
   refine wp_ifb F rfl (fun hc39 => ?_) (fun hc39 => ?_)
   ·
    have hno : ¬ sameDl d t v cs d2 t2 v2 ds := fun h => by have h9 := h38.2 (h.2.2.2 (by omega)).1; subst h9; simp at hc39
    refine wp_rs fun _ K20 => F.sg rfl fun a F => ?_
    refine s_end (K20 _ _ ?_)
    refine wp_ret (then_ret (res_slot F rfl rfl ⟨_, rfl, ⟨_, rfl, ⟨fun h => (by cases h), fun h => absurd h hno⟩⟩, hB⟩))
   ·
    obtain rfl : b38 = true := by simpa using hc39
    refine wp_skip (K18 _ _ ?_)
    refine wp_seq_k fun _ K21 => ?_
    refine wp_rs fun _ K22 => F.vl (x_fa0 fa502_0 rfl) fun a F => F.ld m2 flat3 rfl rfl fun a F => ?_
    refine s_end (K22 _ _ ?_)
    refine wp_block ?_
    have h38 := h38.1 rfl
    rcases (show d.k = 2 ∨ (d.k ≠ 2 ∧ d.k = 3) ∨ (d.k ≠ 2 ∧ d.k ≠ 3) by omega) with hk | hk | hk
    ·
     have hP : sameDl d t v cs d2 t2 v2 ds ↔ (sameTm t t2 ∧ sameTm v v2) := ⟨fun h => ⟨(h.2.2.2 (by omega)).1, (h.2.2.2 (by omega)).2.1 hk⟩, fun h => ⟨hq, hq2, hq3, fun _ => ⟨h.1, fun _ => h.2, fun h2 => by omega⟩⟩⟩
     refine wp_rs fun _ K24 => F.vl (eqlT (by omega) rfl rfl) fun a F => F.sg rfl fun a F => ?_
     refine s_end (K24 _ _ ?_)
     refine wp_if F rfl ?_
     refine wp_rs fun _ K25 => F.vl (x_fa0 fa502_4 rfl) fun a F => F.vl (x_load rfl (m_loadP (vs := [_, _, _, _, _, _, _, _]) wide27 m2 rfl)) fun a F => F.vl (x_fa0 fa502_4 rfl) fun a F => F.vl (x_load rfl (m_loadP (vs := [_, _, _, _, _, _, _, _]) wide27 m3 rfl)) fun a F => ?_
     refine s_callR (R := fun r w' => ∃ b, r = .bool b ∧ (b = true ↔ sameTm v v2)) [_, _] F E81 rfl (by decide) ((rSame41 v v2 d.vl d2.vl w6 (hvl.bel hB) (evl.bel hB) (CT.fit_ess hf.vl))) ?_
     rintro _ w8 a ⟨b48, rfl, h48⟩ B9 F
     have sB9 := B9.size
     have hB := bt hB B9
     refine F.sg rfl fun a F => ?_
     refine s_end (K25 _ _ ?_)
     refine wp_ret (inb_ret (then_ret (res_slot F rfl rfl ⟨_, rfl, ⟨_, rfl, by rw [hP]; exact ⟨fun h => ⟨h38, h48.1 h⟩, fun h => h48.2 h.2⟩⟩, hB⟩)))
    ·
     skip
     refine wp_rs fun _ K26 => F.vl (eqlF (by omega) rfl rfl) fun a F => F.sg rfl fun a F => ?_
     refine s_end (K26 _ _ ?_)
     refine wp_if F rfl ?_
     refine wp_rs fun _ K27 => F.vl (eqlT (by omega) rfl rfl) fun a F => F.sg rfl fun a F => ?_
     refine s_end (K27 _ _ ?_)
     refine wp_if F rfl ?_
     refine wp_seq_k fun _ K28 => ?_
     rcases (show d.ps ≠ d2.ps ∨ (d.ps = d2.ps ∧ cs.length ≠ ds.length) ∨ (d.ps = d2.ps ∧ cs.length = ds.length) by omega) with hp9 | hp9 | ⟨hp9, hlc⟩
     ·
      have hno : ¬ sameDl d t v cs d2 t2 v2 ds := fun h => hp9 ((h.2.2.2 (by omega)).2.2 hk.2).1
      have m2 : Blk w6 b2 47 (dq d (.slice ac cs.length kc)) := by rw [← dc_dq hdc]; exact m2
      have m3 : Blk w6 b3 47 (dq d2 (.slice ae ds.length ke)) := by rw [← dc_dq hec]; exact m3
      refine wp_rs fun _ K30 => F.vl (x_fa0 fa502_5 rfl) fun a F => F.ld m2 flat3 rfl rfl fun a F => F.vl (x_fa0 fa502_5 rfl) fun a F => F.ld m3 flat3 rfl rfl fun a F => F.vl (neqT (by omega) rfl rfl) fun a F => F.mv rfl fun a F => s_grdn 56 F rfl rfl (by decide) fun a F => s_grdn 56 F rfl rfl (by decide) fun a F => s_grdn 56 F rfl rfl (by decide) fun a F => s_grdn 56 F rfl rfl (by decide) fun a F => s_grdn 56 F rfl rfl (by decide) fun a F => s_grdn 56 F rfl rfl (by decide) fun a F => s_grdn 56 F rfl rfl (by decide) fun a F => F.vl (x_pick (b := true) rfl rfl) fun a F => ?_
      refine s_end (K30 _ _ ?_)
      refine wp_if F rfl ?_
      refine wp_rs fun _ K31 => F.sg rfl fun a F => ?_
      refine s_end (K31 _ _ ?_)
      refine wp_ret (then_ret (inb_ret (then_ret (res_slot F rfl rfl ⟨_, rfl, ⟨_, rfl, ⟨fun h => (by cases h), fun h => absurd h hno⟩⟩, hB⟩))))
     ·
      have hno : ¬ sameDl d t v cs d2 t2 v2 ds := fun h => hp9.2 ((h.2.2.2 (by omega)).2.2 hk.2).2.1
      have m2 : Blk w6 b2 47 (dq d (.slice ac cs.length kc)) := by rw [← dc_dq hdc]; exact m2
      have m3 : Blk w6 b3 47 (dq d2 (.slice ae ds.length ke)) := by rw [← dc_dq hec]; exact m3
      refine wp_rs fun _ K32 => F.vl (x_fa0 fa502_5 rfl) fun a F => F.ld m2 flat3 rfl rfl fun a F => F.vl (x_fa0 fa502_5 rfl) fun a F => F.ld m3 flat3 rfl rfl fun a F => F.vl (neqF (by omega) rfl rfl) fun a F => F.mv rfl fun a F => s_grd 56 F rfl rfl rfl <| F.vl (x_fa0 fa502_6 rfl) fun a F => s_grd 56 F rfl rfl rfl <| F.ld m2 flat500 rfl rfl fun a F => s_grd 56 F rfl rfl rfl <| F.vl (x_len Try.underlying45 rfl) fun a F => s_grd 56 F rfl rfl rfl <| F.vl (x_fa0 fa502_6 rfl) fun a F => s_grd 56 F rfl rfl rfl <| F.ld m3 flat500 rfl rfl fun a F => s_grd 56 F rfl rfl rfl <| F.vl (x_len Try.underlying45 rfl) fun a F => s_grd 56 F rfl rfl rfl <| F.vl (neqT (by omega) rfl rfl) fun a F => F.vl (x_pick (b := false) rfl rfl) fun a F => ?_
      refine s_end (K32 _ _ ?_)
      refine wp_if F rfl ?_
      refine wp_rs fun _ K33 => F.sg rfl fun a F => ?_
      refine s_end (K33 _ _ ?_)
      refine wp_ret (then_ret (inb_ret (then_ret (res_slot F rfl rfl ⟨_, rfl, ⟨_, rfl, ⟨fun h => (by cases h), fun h => absurd h hno⟩⟩, hB⟩))))
     ·
      have hP : sameDl d t v cs d2 t2 v2 ds ↔ (sameTm t t2 ∧ sameCs cs ds) := ⟨fun h => ⟨(h.2.2.2 (by omega)).1, ((h.2.2.2 (by omega)).2.2 hk.2).2⟩, fun h => ⟨hq, hq2, hq3, fun _ => ⟨h.1, (fun h2 => by omega), fun _ => ⟨hp9, h.2⟩⟩⟩⟩
      have m2 : Blk w6 b2 47 (dq d (.slice ac cs.length kc)) := by rw [← dc_dq hdc]; exact m2
      have m3 : Blk w6 b3 47 (dq d2 (.slice ae ds.length ke)) := by rw [← dc_dq hec]; exact m3
      refine wp_rs fun _ K34 => F.vl (x_fa0 fa502_5 rfl) fun a F => F.ld m2 flat3 rfl rfl fun a F => F.vl (x_fa0 fa502_5 rfl) fun a F => F.ld m3 flat3 rfl rfl fun a F => F.vl (neqF (by omega) rfl rfl) fun a F => F.mv rfl fun a F => s_grd 56 F rfl rfl rfl <| F.vl (x_fa0 fa502_6 rfl) fun a F => s_grd 56 F rfl rfl rfl <| F.ld m2 flat500 rfl rfl fun a F => s_grd 56 F rfl rfl rfl <| F.vl (x_len Try.underlying45 rfl) fun a F => s_grd 56 F rfl rfl rfl <| F.vl (x_fa0 fa502_6 rfl) fun a F => s_grd 56 F rfl rfl rfl <| F.ld m3 flat500 rfl rfl fun a F => s_grd 56 F rfl rfl rfl <| F.vl (x_len Try.underlying45 rfl) fun a F => s_grd 56 F rfl rfl rfl <| F.vl (neqF (by omega) rfl rfl) fun a F => F.vl (x_pick (b := false) rfl rfl) fun a F => ?_
      refine s_end (K34 _ _ ?_)
      refine wp_if F rfl ?_
      refine wp_skip (K28 _ _ ?_)
      refine wp_rs fun _ K35 => F.vl (x_fa0 fa502_6 rfl) fun a F => F.ld m2 flat500 rfl rfl fun a F => F.vl (x_len Try.underlying45 rfl) fun a F => F.mv rfl fun a F => ?_
      refine s_end (K35 _ _ ?_)
      refine wp_block ?_
      refine wp_up cs.length (fun i a w => (∀ (j : Nat) p q, j < i → cs[j]? = some p → ds[j]? = some q → sameC p q) ∧ Blk w b3 47 (dq d2 (.slice ae ds.length ke)) ∧ Below w0.heap.size w0 w ∧ Fs 95 a [(3, .pointer (some ⟨b3, 0, none⟩)), (66, .slice ac cs.length kc), (67, .int .i64 (cs.length : Int)), (68, .int .i64 (i : Int))]) ⟨(fun j p q h => absurd h (by omega)), m3, hB, F.sub _ rfl⟩ ?_
      have hb3w : w0.heap.size ≤ b3 := by omega
      clear hB m3
      repeat clear F
      rintro i a w hi ⟨hok, m3, hB, F⟩ K' hK'
      have sB := hB.size
      have hm3l := m3.lt
      refine wp_rs fun _ K36 => F.vl (x_lss (b := decide (i < cs.length)) (decide_eq_decide.2 (by omega)) rfl rfl) fun a F => ?_
      refine s_end (K36 _ _ ?_)
      refine wp_seq_k fun _ K37 => ?_
      refine wp_iff F rfl (fun hc69 => ?_) (fun hc69 => ?_)
      ·
       obtain ⟨b9, off9, c9, x, p, hve, hp, hxn, hrx, hAb, hbl, hrow⟩ := hcs.row (i := i) (by omega)
       obtain ⟨b8, off8, c8, y, q, hue, hpq, hyn, hry, hAb8, hbl8, hrow8⟩ := ecs.row (i := i) (by omega)
       cases hve
       cases hue
       have h1x := one_cc hrx
       have hfp := (hf.cf p (List.mem_of_getElem? hp)).2
       have sbl := hB.size
       refine wp_skip (K37 _ _ ?_)
       refine wp_seq_k fun _ K38 => ?_
       refine wp_block ?_
       refine wp_rs fun _ K39 => F.mv rfl fun a F => F.vl (x_ixa rfl rfl (m_ixsK i Try.underlying45 el500.size rfl (by omega))) fun a F => F.vl (x_ldA wide517 (hrow _ (hB.block _ hbl)) rfl rfl) fun a F => ?_
       refine s_alloc F (by decide) zero517 fun w10 b6 a eb6 m6 B11 zb6 F => ?_
       have sB11 := B11.size
       have hB := bt hB B11
       have m3 := m3.old B11
       refine F.sg rfl fun a F => ?_
       refine s_putW F rfl rfl (size_wide wide517) m6 rfl h1x fun w14 m6 o15 => ?_
       have so15 := o15.size
       have hB := hB.trans (o15.below (by omega))
       have m3 := m3.only o15 (by omega)
       refine s_end (K39 _ _ ?_)
       by_cases hst : x.nm = y.nm
       ·
        skip
        refine dk2_seq (w14.heap.size) (w14.heap.size) (ops := regOps Try.f38 16) (N := 21) (by kernel_rfl) wide_orders (by kernel_rfl) fun w16 hw16 B17 hS K41 hK41 => ?_
        have zw16 : w16.heap.size = w14.heap.size := by rw [hw16]
        have sB17 := B17.size
        have hB := bt hB B17
        have m3 := m3.old B17
        have m6 := m6.old B17
        have m3_d := m3
        have m6_d := m6
        have hB_d := hB
        refine F.dv 0 73 (.fieldAddr 93 (.tmp 6) 0) hS (fun W hW => x_fa0 fa517_0 rfl) fun a F => F.dv 1 74 (.load 9 (.tmp 73)) hS (fun W hW => x_load rfl (m_load flat9 ((m6_d.k2 hW (by omega)).cell (j := 0) rfl))) fun a F => F.dv 2 75 (.fieldAddr 47 (.tmp 3) 6) hS (fun W hW => x_fa0 fa502_6 rfl) fun a F => F.dv 3 76 (.load 45 (.tmp 75)) hS (fun W hW => x_load rfl (m_load flat500 ((m3_d.k2 hW (by omega)).cell (j := 20) rfl))) fun a F => F.dv 4 77 (.move (.tmp 5)) hS (fun W hW => x_move rfl) fun a F => F.dv 5 78 (.indexAddr 45 (.tmp 76) (.tmp 77)) hS (fun W hW => x_ixa rfl rfl (m_ixsK i Try.underlying45 el500.size rfl (by omega))) fun a F => F.dv 6 79 (.fieldAddr 93 (.tmp 78) 0) hS (fun W hW => x_fa fa517_0 rfl) fun a F => F.dv 7 80 (.load 9 (.tmp 79)) hS (fun W hW => x_load rfl (m_load flat9 (row9_nm (hrow8 _ ((hW.under hB_d (by omega)).block _ hbl8))))) fun a F => F.dv 8 81 (.binOp .neq 9 (.tmp 74) (.tmp 80) 9) hS (fun W hW => x_neSX (b := false) (decide_eq_false (fun h => h hst)) rfl rfl) fun a F => F.dv 9 82 (.move (.tmp 81)) hS (fun W hW => x_move rfl) fun a F => F.dg 10 83 82 9 false (.fieldAddr 93 (.tmp 6) 1) hS rfl (fun W hW => x_fa0 fa517_1 rfl) fun a F => F.dg 11 84 82 9 false (.load 27 (.tmp 83)) hS rfl (fun W hW => x_load rfl (m_loadP (vs := [_, _, _, _, _, _, _, _]) wide27 (m6_d.k2 hW (by omega)) rfl)) fun a F => F.dg 12 85 82 9 false (.fieldAddr 47 (.tmp 3) 6) hS rfl (fun W hW => x_fa0 fa502_6 rfl) fun a F => F.dg 13 86 82 9 false (.load 45 (.tmp 85)) hS rfl (fun W hW => x_load rfl (m_load flat500 ((m3_d.k2 hW (by omega)).cell (j := 20) rfl))) fun a F => F.dg 14 87 82 9 false (.move (.tmp 5)) hS rfl (fun W hW => x_move rfl) fun a F => F.dg 15 88 82 9 false (.indexAddr 45 (.tmp 86) (.tmp 87)) hS rfl (fun W hW => x_ixa rfl rfl (m_ixsK i Try.underlying45 el500.size rfl (by omega))) fun a F => F.dg 16 89 82 9 false (.fieldAddr 93 (.tmp 88) 1) hS rfl (fun W hW => x_fa fa517_1 rfl) fun a F => F.dg 17 90 82 9 false (.load 27 (.tmp 89)) hS rfl (fun W hW => x_ldA wide27 (row9_tm (hrow8 _ ((hW.under hB_d (by omega)).block _ hbl8))) rfl rfl) fun a F => ?_
        refine d_oneg 18 82 (some 91) (.call (.mk (.value (.func 81)) #[(.tmp 84), (.tmp 90)] #[27, 27])) (j := 9) (want := false) F (by kernel_rfl) (by kernel_rfl) (by kernel_rfl) rfl fun ty pos af => ?_
        refine s_callR (R := fun r w' => ∃ b, r = .bool b ∧ (b = true ↔ sameTm p.2 q.2)) [_, _] F E81 rfl (by decide) ((rSame41 p.2 q.2 x.x y.x w16 (hrx.bel hB) (hry.bel hB) (CT.fit_ess hfp))) ?_
        rintro _ w18 a ⟨b91, rfl, h91⟩ B19 F
        have sB19 := B19.size
        have hB := bt hB B19
        have m3 := m3.old B19
        have hS := hS.below B19
        refine s_end ⟨hS, ?_⟩
        refine F.dg 19 92 82 9 false (.unOp .not 4 (.tmp 91)) hS rfl (fun W hW => x_not rfl) fun a F => F.dv 20 93 (.pick (.tmp 82) (.const (.bool true)) (.tmp 92)) hS (fun W hW => x_pick (b := false) rfl rfl) fun a F => ?_
        refine d_end (by kernel_rfl) (hK41 _ _ ?_)
        refine wp_ifb F rfl (fun hc93 => ?_) (fun hc93 => ?_)
        ·
         have hncc : ¬ sameC p q := fun h => by have h9 := h91.2 h.2; subst h9; simp at hc93
         refine wp_rs fun _ K42 => F.sg rfl fun a F => ?_
         refine s_end (K42 _ _ ?_)
         refine wp_ret (inb_ret (then_ret (then_ret (inb_ret (inb_ret (then_ret (res_slot F rfl rfl ⟨_, rfl, ⟨_, rfl, ⟨fun h => (by cases h), fun h => absurd ((hP.1 h).2.2 i p q hp hpq) hncc⟩⟩, hB⟩)))))))
        ·
         obtain rfl : b91 = true := by simpa using hc93
         have h30 : sameC p q := ⟨by rw [← hxn, ← hyn]; exact hst, h91.1 rfl⟩
         refine wp_skip (K38 _ _ ?_)
         refine wp_region_lit ?_
         refine F.vl (x_addn (i + 1) (by omega) (by omega) rfl rfl) fun a F => F.mv rfl fun a F => ?_
         refine s_end (hK' _ _ (by omega) ⟨(fun j p' q' hj e1 e2 => by rcases Nat.lt_or_ge j i with h | h; (· exact hok j p' q' h e1 e2); (· obtain rfl : j = i := (by omega); rw [hp] at e1; rw [hpq] at e2; cases e1; cases e2; exact h30)), m3, hB, F.sub _ rfl⟩)
       ·
        have hncc : ¬ sameC p q := fun h => hst (by rw [hxn, hyn]; exact h.1)
        refine dk2_seq (w14.heap.size) (w14.heap.size) (ops := regOps Try.f38 16) (N := 21) (by kernel_rfl) wide_orders (by kernel_rfl) fun w20 hw20 B21 hS K43 hK43 => ?_
        have zw20 : w20.heap.size = w14.heap.size := by rw [hw20]
        have sB21 := B21.size
        have hB := bt hB B21
        have m3 := m3.old B21
        have m6 := m6.old B21
        have m3_d := m3
        have m6_d := m6
        have hB_d := hB
        refine F.dv 0 73 (.fieldAddr 93 (.tmp 6) 0) hS (fun W hW => x_fa0 fa517_0 rfl) fun a F => F.dv 1 74 (.load 9 (.tmp 73)) hS (fun W hW => x_load rfl (m_load flat9 ((m6_d.k2 hW (by omega)).cell (j := 0) rfl))) fun a F => F.dv 2 75 (.fieldAddr 47 (.tmp 3) 6) hS (fun W hW => x_fa0 fa502_6 rfl) fun a F => F.dv 3 76 (.load 45 (.tmp 75)) hS (fun W hW => x_load rfl (m_load flat500 ((m3_d.k2 hW (by omega)).cell (j := 20) rfl))) fun a F => F.dv 4 77 (.move (.tmp 5)) hS (fun W hW => x_move rfl) fun a F => F.dv 5 78 (.indexAddr 45 (.tmp 76) (.tmp 77)) hS (fun W hW => x_ixa rfl rfl (m_ixsK i Try.underlying45 el500.size rfl (by omega))) fun a F => F.dv 6 79 (.fieldAddr 93 (.tmp 78) 0) hS (fun W hW => x_fa fa517_0 rfl) fun a F => F.dv 7 80 (.load 9 (.tmp 79)) hS (fun W hW => x_load rfl (m_load flat9 (row9_nm (hrow8 _ ((hW.under hB_d (by omega)).block _ hbl8))))) fun a F => F.dv 8 81 (.binOp .neq 9 (.tmp 74) (.tmp 80) 9) hS (fun W hW => x_neSX (b := true) (decide_eq_true hst) rfl rfl) fun a F => F.dv 9 82 (.move (.tmp 81)) hS (fun W hW => x_move rfl) fun a F => d_skip 10 83 82 (j := 9) (want := false) (op := (.fieldAddr 93 (.tmp 6) 1)) F hS (by kernel_rfl) (by kernel_rfl) rfl (by kernel_rfl) (by decide) fun a F => d_skip 11 84 82 (j := 9) (want := false) (op := (.load 27 (.tmp 83))) F hS (by kernel_rfl) (by kernel_rfl) rfl (by kernel_rfl) (by decide) fun a F => d_skip 12 85 82 (j := 9) (want := false) (op := (.fieldAddr 47 (.tmp 3) 6)) F hS (by kernel_rfl) (by kernel_rfl) rfl (by kernel_rfl) (by decide) fun a F => d_skip 13 86 82 (j := 9) (want := false) (op := (.load 45 (.tmp 85))) F hS (by kernel_rfl) (by kernel_rfl) rfl (by kernel_rfl) (by decide) fun a F => d_skip 14 87 82 (j := 9) (want := false) (op := (.move (.tmp 5))) F hS (by kernel_rfl) (by kernel_rfl) rfl (by kernel_rfl) (by decide) fun a F => d_skip 15 88 82 (j := 9) (want := false) (op := (.indexAddr 45 (.tmp 86) (.tmp 87))) F hS (by kernel_rfl) (by kernel_rfl) rfl (by kernel_rfl) (by decide) fun a F => d_skip 16 89 82 (j := 9) (want := false) (op := (.fieldAddr 93 (.tmp 88) 1)) F hS (by kernel_rfl) (by kernel_rfl) rfl (by kernel_rfl) (by decide) fun a F => d_skip 17 90 82 (j := 9) (want := false) (op := (.load 27 (.tmp 89))) F hS (by kernel_rfl) (by kernel_rfl) rfl (by kernel_rfl) (by decide) fun a F => d_skip 18 91 82 (j := 9) (want := false) (op := (.call (.mk (.value (.func 81)) #[(.tmp 84), (.tmp 90)] #[27, 27]))) F hS (by kernel_rfl) (by kernel_rfl) rfl (by kernel_rfl) (by decide) fun a F => d_skip 19 92 82 (j := 9) (want := false) (op := (.unOp .not 4 (.tmp 91))) F hS (by kernel_rfl) (by kernel_rfl) rfl (by kernel_rfl) (by decide) fun a F => F.dv 20 93 (.pick (.tmp 82) (.const (.bool true)) (.tmp 92)) hS (fun W hW => x_pick (b := true) rfl rfl) fun a F => ?_
        refine d_end (by kernel_rfl) (hK43 _ _ ?_)
        refine wp_if F rfl ?_
        refine wp_rs fun _ K44 => F.sg rfl fun a F => ?_
        refine s_end (K44 _ _ ?_)
        refine wp_ret (inb_ret (then_ret (then_ret (inb_ret (inb_ret (then_ret (res_slot F rfl rfl ⟨_, rfl, ⟨_, rfl, ⟨fun h => (by cases h), fun h => absurd ((hP.1 h).2.2 i p q hp hpq) hncc⟩⟩, hB⟩)))))))
      ·
       obtain rfl : i = cs.length := by omega
       refine wp_exit (K21 _ _ ?_)
       refine wp_rs fun _ K45 => F.sg rfl fun a F => ?_
       refine s_end (K45 _ _ ?_)
       refine wp_ret (res_slot F rfl rfl ⟨_, rfl, ⟨_, rfl, ⟨fun _ => hP.2 ⟨h38, hlc, fun j p q e1 e2 => hok j p q (List.getElem?_eq_some_iff.1 e1).1 e1 e2⟩, fun _ => rfl⟩⟩, hB⟩)
    ·
     have hP : sameDl d t v cs d2 t2 v2 ds ↔ sameTm t t2 := ⟨fun h => (h.2.2.2 (by omega)).1, fun h => ⟨hq, hq2, hq3, fun _ => ⟨h, fun h2 => by omega, fun h2 => by omega⟩⟩⟩
     refine wp_rs fun _ K46 => F.vl (eqlF (by omega) rfl rfl) fun a F => F.sg rfl fun a F => ?_
     refine s_end (K46 _ _ ?_)
     refine wp_if F rfl ?_
     refine wp_rs fun _ K47 => F.vl (eqlF (by omega) rfl rfl) fun a F => F.sg rfl fun a F => ?_
     refine s_end (K47 _ _ ?_)
     refine wp_if F rfl ?_
     refine wp_skip (K21 _ _ ?_)
     refine wp_rs fun _ K48 => F.sg rfl fun a F => ?_
     refine s_end (K48 _ _ ?_)
     refine wp_ret (res_slot F rfl rfl ⟨_, rfl, ⟨_, rfl, ⟨fun _ => hP.2 h38, fun _ => rfl⟩⟩, hB⟩)
theorem declSame_walk (d : D21) (t v : CT) (cs : List (ByteArray × CT)) (d2 : D21) (t2 v2 : CT) (ds : List (ByteArray × CT)) (w0 : World) (hd : RD w0 (fun k => k < w0.heap.size) d t v cs) (hf : DFit d t v cs) (he : RD w0 (fun k => k < w0.heap.size) d2 t2 v2 ds) (hg : DFit d2 t2 v2 ds) : Calls Try.prog 7 #[dvv d, dvv d2] w0 fun e w' => e = .returned (.bool true) ∧ Below w0.heap.size w0 w' := by
 have hB := Below.refl w0.heap.size w0
 have sB := hB.size
 refine calls_fs 24 [(0, dvv d), (1, dvv d2)] Try.func7 rfl rfl rfl rfl rfl fun a F => ?_
 refine wp_rs fun _ K1 => ?_
 refine s_box (dc d) F (by decide) rfl rfl fun w2 b2 a eb2 m2 B3 zb2 F => ?_
 have sB3 := B3.size
 have hB := bt hB B3
 refine s_box (dc d2) F (by decide) rfl rfl fun w4 b3 a eb3 m3 B5 zb3 F => ?_
 have sB5 := B5.size
 have hB := bt hB B5
 have m2 := m2.old B5
 refine F.sg rfl fun a F => ?_
 refine s_end (K1 _ _ ?_)
 refine dk2_seq (w4.heap.size) (w4.heap.size) (ops := regOps Try.f7 1) (N := 20) (by kernel_rfl) wide_orders (by kernel_rfl) fun w6 hw6 B7 hS K2 K2 => ?_
 have zw6 : w6.heap.size = w4.heap.size := by rw [hw6]
 have sB7 := B7.size
 have hB := bt hB B7
 have m2 := m2.old B7
 have m3 := m3.old B7
 have m2_d := m2
 have m3_d := m3
 have hB_d := hB
 refine F.dv 0 5 (.load 47 (.tmp 2)) hS (fun W hW => x_ldW wide502 (m2_d.k2 hW (by omega)) rfl rfl) fun a F => F.dv 1 6 (.load 47 (.tmp 3)) hS (fun W hW => x_ldW wide502 (m3_d.k2 hW (by omega)) rfl rfl) fun a F => F.dv 3 8 (.load 47 (.tmp 2)) hS (fun W hW => x_ldW wide502 (m2_d.k2 hW (by omega)) rfl rfl) fun a F => F.dv 4 9 (.load 47 (.tmp 3)) hS (fun W hW => x_ldW wide502 (m3_d.k2 hW (by omega)) rfl rfl) fun a F => ?_
 refine d1 2 (some 7) (.call (.mk (.value (.func 37)) #[(.tmp 5), (.tmp 6)] #[47, 47])) fun ty pos af => ?_
 refine s_callR (R := fun v' w' => ∃ b, v' = .bool b ∧ (b = true ↔ sameDl d t v cs d2 t2 v2 ds)) [_, _] F E37 rfl (by decide) ((SameD335 d t v cs d2 t2 v2 ds w6 (hd.bel hB) hf (he.bel hB))) ?_
 rintro _ w8 a ⟨b7, rfl, h7⟩ B9 F
 have sB9 := B9.size
 have hB := bt hB B9
 have hS := hS.below B9
 refine s_end ⟨hS, ?_⟩
 refine d1 5 (some 10) (.call (.mk (.value (.func 38)) #[(.tmp 8), (.tmp 9)] #[47, 47])) fun ty pos af => ?_
 refine s_callR (R := fun v' w' => ∃ b, v' = .bool b ∧ (b = true ↔ sameDl d t v cs d2 t2 v2 ds)) [_, _] F E38 rfl (by decide) ((rSameD336 d t v cs d2 t2 v2 ds w8 (hd.bel hB) hf (he.bel hB))) ?_
 rintro _ w10 a ⟨b10, rfl, h10⟩ B11 F
 have sB11 := B11.size
 have hB := bt hB B11
 have hS := hS.below B11
 refine s_end ⟨hS, ?_⟩
 refine F.dv 6 11 (.binOp .eql 4 (.tmp 7) (.tmp 10) 4) hS (fun W hW => x_eqB (b := true) Try.underlying4 (by have h := h7.trans h10.symm; cases b7 <;> cases b10 <;> simp_all) rfl rfl) fun a F => F.dv 7 12 (.move (.tmp 11)) hS (fun W hW => x_move rfl) fun a F => F.dg 8 13 12 7 true (.load 47 (.tmp 2)) hS rfl (fun W hW => x_ldW wide502 (m2_d.k2 hW (by omega)) rfl rfl) fun a F => F.dg 9 14 12 7 true (.load 47 (.tmp 2)) hS rfl (fun W hW => x_ldW wide502 (m2_d.k2 hW (by omega)) rfl rfl) fun a F => F.dg 11 16 12 7 true (.load 47 (.tmp 2)) hS rfl (fun W hW => x_ldW wide502 (m2_d.k2 hW (by omega)) rfl rfl) fun a F => F.dg 12 17 12 7 true (.load 47 (.tmp 2)) hS rfl (fun W hW => x_ldW wide502 (m2_d.k2 hW (by omega)) rfl rfl) fun a F => ?_
 refine d_oneg 10 12 (some 15) (.call (.mk (.value (.func 37)) #[(.tmp 13), (.tmp 14)] #[47, 47])) (j := 7) (want := true) F (by kernel_rfl) (by kernel_rfl) (by kernel_rfl) rfl fun ty pos af => ?_
 refine s_callR (R := fun v' w' => ∃ b, v' = .bool b ∧ (b = true ↔ sameDl d t v cs d t v cs)) [_, _] F E37 rfl (by decide) ((SameD335 d t v cs d t v cs w10 (hd.bel hB) hf (hd.bel hB))) ?_
 rintro _ w12 a ⟨b15, rfl, h15⟩ B13 F
 have sB13 := B13.size
 have hB := bt hB B13
 have hS := hS.below B13
 refine s_end ⟨hS, ?_⟩
 refine d_oneg 13 12 (some 18) (.call (.mk (.value (.func 38)) #[(.tmp 16), (.tmp 17)] #[47, 47])) (j := 7) (want := true) F (by kernel_rfl) (by kernel_rfl) (by kernel_rfl) rfl fun ty pos af => ?_
 refine s_callR (R := fun v' w' => ∃ b, v' = .bool b ∧ (b = true ↔ sameDl d t v cs d t v cs)) [_, _] F E38 rfl (by decide) ((rSameD336 d t v cs d t v cs w12 (hd.bel hB) hf (hd.bel hB))) ?_
 rintro _ w14 a ⟨b18, rfl, h18⟩ B15 F
 have sB15 := B15.size
 have hB := bt hB B15
 have hS := hS.below B15
 refine s_end ⟨hS, ?_⟩
 refine F.dg 14 19 12 7 true (.binOp .eql 4 (.tmp 15) (.tmp 18) 4) hS rfl (fun W hW => x_eqB (b := true) Try.underlying4 (by have h := h15.trans h18.symm; cases b15 <;> cases b18 <;> simp_all) rfl rfl) fun a F => F.dv 15 20 (.pick (.tmp 12) (.tmp 19) (.const (.bool false))) hS (fun W hW => x_pick (b := true) rfl rfl) fun a F => F.dv 16 21 (.move (.tmp 20)) hS (fun W hW => x_move rfl) fun a F => ?_
 refine d_oneg 17 21 (some 22) (.call (.mk (.value (.func 31)) #[] #[])) (j := 16) (want := true) F (by kernel_rfl) (by kernel_rfl) (by kernel_rfl) rfl fun ty pos af => ?_
 refine s_callB [] F E31 rfl (by decide) (awake306 w14) fun w16 a B17 F => ?_
 have sB17 := B17.size
 have hB := bt hB B17
 have hS := hS.below B17
 refine s_end ⟨hS, ?_⟩
 refine F.dv 18 23 (.pick (.tmp 21) (.tmp 22) (.const (.bool false))) hS (fun W hW => x_pick (b := true) rfl rfl) fun a F => F.dv 19 4 (.assign (.tmp 23)) hS (fun W hW => x_assign rfl) fun a F => ?_
 refine d_end (by kernel_rfl) (K2 _ _ ?_)
 refine wp_ret (res_slot F rfl rfl ⟨rfl, hB⟩)
end Go.Proofs.Ytmkjhdiepkpdoaa

namespace Go.Proofs.Ytmkjhdiepkpdoaa
open Go.RowKit Go.Shelf Go.ChangeShapes Go.WideShapes
set_option linter.unusedVariables false
set_option linter.unusedSimpArgs false
section
variable {α : Type} {encA : α → List Value} {k : Nat}
theorem gfm_len : ∀ (xs : List α), (∀ x ∈ xs, (encA x).length = k) → (xs.flatMap encA).length = xs.length * k
 | [], _ => by simp
 | x :: xs, h => by
  rw [List.flatMap_cons, List.length_append, h x (by simp), gfm_len xs (fun y hy => h y (by simp [hy])), List.length_cons, Nat.succ_mul, Nat.add_comm]
theorem gfm_inv (hk : 0 < k) : ∀ (xs : List α) (j : Nat) (u : Value), (∀ x ∈ xs, (encA x).length = k) → (xs.flatMap encA)[j]? = some u → ∃ x, xs[j / k]? = some x ∧ (encA x)[j % k]? = some u
 | [], j, u, _, h => by simp at h
 | c :: xs, j, u, h32, h => by
  have h0 : (encA c).length = k := h32 c (by simp)
  rw [List.flatMap_cons] at h
  by_cases hj : j < k
  ·
   rw [List.getElem?_append_left (by omega)] at h
   exact ⟨c, by rw [Nat.div_eq_of_lt hj]; rfl, by rw [Nat.mod_eq_of_lt hj]; exact h⟩
  ·
   rw [List.getElem?_append_right (by omega), h0] at h
   obtain ⟨x, h1, h2⟩ := gfm_inv hk xs (j - k) u (fun y hy => h32 y (by simp [hy])) h
   have hkj : k ≤ j := by omega
   have e1 : j / k = (j - k) / k + 1 := Nat.div_eq_sub_div hk hkj
   have e2 : j % k = (j - k) % k := Nat.mod_eq_sub_mod hkj
   exact ⟨x, by rw [e1]; simpa using h1, by rw [e2]; exact h2⟩
end
end Go.Proofs.Ytmkjhdiepkpdoaa

namespace Go.Proofs.Ytmkjhdiepkpdoaa
open Go.RowKit Go.Shelf Go.ChangeShapes Go.WideShapes
set_option maxRecDepth 100000
set_option linter.unusedVariables false
set_option linter.unusedSimpArgs false
theorem cells24 : Try.prog.cellsOf 24 = 3 := by kernel_rfl
theorem cells3 : Try.prog.cellsOf 3 = 1 := by kernel_rfl
theorem cells22 : Try.prog.cellsOf 22 = 1 := by kernel_rfl
theorem okWide_str {P : Program} {w : World} {r : Reach} {base : Nat} {t : TypeId} {v : Value} {fs : Array Field} (ht : P.underlying t = some (.struct fs)) (h : Value.okWide P w r base t v) : ∃ cs, v = .agg cs ∧ cs.size = P.cellsOf t := by
 unfold Value.okWide at h
 rw [ht] at h
 obtain ⟨cs, h1, h2, _⟩ := h
 exact ⟨cs, h1, h2⟩
section
variable {H : Type} {enc : TypeId × Value → H} {w : World} {base : Nat} {spare : Nat → Bool} {held : Bool}
/-- A slice of levels, out of what its elements tell. -/
theorem open_lrow {n : Nat} {cs : List Value} {x : DataW H × List MemPlace} (good : C3 → Prop) (tell : ∀ m, m < n → ∀ cs' y, DataW.trod enc Try.prog w base spare held m 24 cs' = some y → ∃ c, good c ∧ cs' = lc c)
    (h : DataW.trod enc Try.prog w base spare held n 22 cs = some x) : ∃ a len cap, cs = [.slice a len cap] ∧ ∃ xs : List C3, Rd w (.slice a len cap) 3 xs.length (xs.flatMap lc) ∧ (∀ x ∈ xs, good x) ∧ xs.length ≤ 9223372036854775807 := by
  rcases DataW.trod_slice Try.underlying22 h with ⟨rfl, _⟩ | ⟨a, len, cap, elems, rest, m, hfu, rfl, _, _, hl, hm, hlen, hel, _, _⟩
  · exact ⟨none, 0, 0, rfl, [], Rd.nil _ _, by simp, by simp⟩
  · refine ⟨some a, len, cap, rfl, ?_⟩
    have one : ∀ i, i < len → ∃ d : C3, good d ∧ ∀ (j : Nat) u, (lc d)[j]? = some u → w.cell? ((a.add (i * 3)).add j) = some u := by
      intro i hil
      have h1 := hel i hil
      rw [List.getElem?_eq_getElem (by omega)] at h1
      obtain ⟨cs', hc', ht'⟩ := Option.bind_eq_some_iff.1 h1
      rw [cells24] at hc'
      obtain ⟨_, hcl, hat⟩ := World.cells?_some hc'
      obtain ⟨d, hd, rfl⟩ := tell m (by omega) _ _ ht'
      refine ⟨d, hd, fun j u hj => ?_⟩
      have hjl : j < 3 := (List.getElem?_eq_some_iff.1 hj).1
      have h2 := hat j (by omega)
      rw [h2, hj]
    have hml : len ≤ 9223372036854775807 := by unfold maxLen at hm; omega
    by_cases h0 : len = 0
    · subst h0
      exact ⟨[], ⟨by simp, .inl ⟨_, _, rfl, rfl, fun h => by cases h⟩⟩, by simp, by simp⟩
    · obtain ⟨b, off, spot⟩ := a
      obtain ⟨d0, hd0, hx0⟩ := one 0 (by omega)
      have hc0 := hx0 0 _ (List.getElem?_eq_getElem (show 0 < (lc d0).length by simp [lc]))
      have hspot : spot = none := by simpa [Addr.add] using World.cell?_spot hc0
      subst hspot
      have hb : b < w.heap.size := by
        have := World.block_lt_of_cell? w _ hc0
        rwa [addr_addn, addr_addn] at this
      have all : ∀ q, q ≤ len → ∃ ds : List C3, ds.length = q ∧ (∀ d ∈ ds, good d) ∧ ∀ i d, ds[i]? = some d → ∀ (j : Nat) u, (lc d)[j]? = some u → w.cell? ⟨b, off + i * 3 + j, none⟩ = some u := by
        intro q
        induction q with
        | zero => exact fun _ => ⟨[], rfl, by simp, by simp⟩
        | succ q ih =>
          intro hq
          obtain ⟨ds, h1, h2, h3⟩ := ih (by omega)
          obtain ⟨d, hd, hx⟩ := one q (by omega)
          refine ⟨ds ++ [d], by simp [h1], fun e he => ?_, fun i e he j u hj => ?_⟩
          · rcases List.mem_append.1 he with he | he
            · exact h2 e he
            · simp at he; subst he; exact hd
          · rw [List.getElem?_append] at he
            split at he
            · exact h3 i e he j u hj
            · next hge =>
              have hik : i = q := by
                have := (List.getElem?_eq_some_iff.1 he).1
                simp at this
                omega
              subst hik
              simp [h1] at he
              subst he
              have := hx j u hj
              rwa [addr_addn, addr_addn] at this
      obtain ⟨ds, h1, h2, h3⟩ := all len (Nat.le_refl _)
      refine ⟨ds, ⟨gfm_len (k := 3) ds (fun d hd => by simp [lc]), .inr ⟨b, off, cap, by rw [h1], by omega, hb, fun j u hj => ?_⟩⟩, h2, by omega⟩
      obtain ⟨d, e1, e2⟩ := gfm_inv (k := 3) (by decide) ds j u (fun d hd => by simp [lc]) hj
      have := h3 _ d e1 _ u e2
      have hdm := Nat.div_add_mod j 3
      rwa [show off + j / 3 * 3 + j % 3 = off + j by omega] at this
theorem rl_list {W : World} : ∀ (xs : List C3), (∀ x ∈ xs, ∃ l, RL W x l) → ∃ ls : List Lv, xs.length = ls.length ∧ ∀ (i : Nat) x l, xs[i]? = some x → ls[i]? = some l → RL W x l
 | [], _ => ⟨[], rfl, fun i x l h => by simp at h⟩
 | x :: xs, h => by
  obtain ⟨l, hl⟩ := h x (by simp)
  obtain ⟨ls, h1, h2⟩ := rl_list xs (fun y hy => h y (by simp [hy]))
  refine ⟨l :: ls, by simp [h1], fun i y m e1 e2 => ?_⟩
  cases i with
  | zero => simp at e1 e2; subst e1 e2; exact hl
  | succ i => exact h2 i y m (by simpa using e1) (by simpa using e2)
theorem open_lvl : ∀ (fuel : Nat) (cs : List Value) (x : DataW H × List MemPlace), DataW.trod enc Try.prog w base spare held fuel 24 cs = some x → ∃ c, (∃ l, RL w c l) ∧ cs = lc c := by
 intro fuel
 induction fuel using Nat.strongRecOn with
 | ind fuel ih =>
  intro cs x h
  obtain ⟨xs, n, hfu, _, hl, hlen, hf⟩ := DataW.trod_struct Try.underlying24 h
  rw [cells24] at hl
  have h0 : DataW.trod enc Try.prog w base spare held n 3 ((cs.drop 0).take (Try.prog.cellsOf 3)) = xs[0]? := hf 0 _ rfl
  have h1 : DataW.trod enc Try.prog w base spare held n 3 ((cs.drop 1).take (Try.prog.cellsOf 3)) = xs[1]? := hf 1 _ rfl
  have h2 : DataW.trod enc Try.prog w base spare held n 22 ((cs.drop 2).take (Try.prog.cellsOf 22)) = xs[2]? := hf 2 _ rfl
  rw [cells3] at h0 h1
  rw [cells22] at h2
  rw [List.getElem?_eq_getElem (by rw [hlen]; decide)] at h0 h1 h2
  match cs, hl with
  | [c0, c1, c2], _ =>
   simp only [List.drop_zero, List.drop_succ_cons, List.take_succ_cons, List.take_zero] at h0 h1 h2
   obtain ⟨z0, e0, _, _⟩ := DataW.trod_int Try.underlying3 h0
   obtain ⟨z1, e1, _, _⟩ := DataW.trod_int Try.underlying3 h1
   obtain ⟨a, len, cap, e2, ys, hR, hg, _⟩ := open_lrow (fun c => ∃ l, RL w c l) (fun m hm cs' y hy => ih m (by omega) cs' y hy) h2
   simp only [List.cons.injEq, and_true] at e0 e1 e2
   subst e0 e1 e2
   obtain ⟨ls, g1, g2⟩ := rl_list ys hg
   exact ⟨(z0, z1, .slice a len cap), ⟨.mk z0 z1 ls, .mk hR g1 g2⟩, rfl⟩
end
end Go.Proofs.Ytmkjhdiepkpdoaa

namespace Go.Proofs.Ytmkjhdiepkpdoaa
open Go.RowKit Go.Shelf Go.ChangeShapes Go.WideShapes
set_option maxRecDepth 100000
set_option linter.unusedVariables false
set_option linter.unusedSimpArgs false
theorem cells27 : Try.prog.cellsOf 27 = 8 := by kernel_rfl
theorem cells25 : Try.prog.cellsOf 25 = 1 := by kernel_rfl
theorem cells9 : Try.prog.cellsOf 9 = 1 := by kernel_rfl
theorem in64_of {n : Int} (h : (Lit.int .i64 n).wf = true) : in64 n := by
 have h2 : IntKind.i64.min = -9223372036854775808 := by decide
 have h3 : IntKind.i64.max = 9223372036854775807 := by decide
 simp only [Lit.wf, h2, h3, Bool.and_eq_true, decide_eq_true_eq] at h
 unfold in64
 omega
section
variable {H : Type} {enc : TypeId × Value → H} {w : World} {base : Nat} {spare : Nat → Bool} {held : Bool}
/-- A slice of terms, out of what its elements tell. -/
theorem open_trow {n : Nat} {cs : List Value} {x : DataW H × List MemPlace} (good : C8 → Prop) (tell : ∀ m, m < n → ∀ cs' y, DataW.trod enc Try.prog w base spare held m 27 cs' = some y → ∃ c, good c ∧ cs' = tc c)
    (h : DataW.trod enc Try.prog w base spare held n 25 cs = some x) : ∃ a len cap, cs = [.slice a len cap] ∧ ∃ xs : List C8, Rd w (.slice a len cap) 8 xs.length (xs.flatMap tc) ∧ (∀ x ∈ xs, good x) ∧ xs.length ≤ 9223372036854775807 := by
  rcases DataW.trod_slice Try.underlying25 h with ⟨rfl, _⟩ | ⟨a, len, cap, elems, rest, m, hfu, rfl, _, _, hl, hm, hlen, hel, _, _⟩
  · exact ⟨none, 0, 0, rfl, [], Rd.nil _ _, by simp, by simp⟩
  · refine ⟨some a, len, cap, rfl, ?_⟩
    have one : ∀ i, i < len → ∃ d : C8, good d ∧ ∀ (j : Nat) u, (tc d)[j]? = some u → w.cell? ((a.add (i * 8)).add j) = some u := by
      intro i hil
      have h1 := hel i hil
      rw [List.getElem?_eq_getElem (by omega)] at h1
      obtain ⟨cs', hc', ht'⟩ := Option.bind_eq_some_iff.1 h1
      rw [cells27] at hc'
      obtain ⟨_, hcl, hat⟩ := World.cells?_some hc'
      obtain ⟨d, hd, rfl⟩ := tell m (by omega) _ _ ht'
      refine ⟨d, hd, fun j u hj => ?_⟩
      have hjl : j < 8 := (List.getElem?_eq_some_iff.1 hj).1
      have h2 := hat j (by omega)
      rw [h2, hj]
    have hml : len ≤ 9223372036854775807 := by unfold maxLen at hm; omega
    by_cases h0 : len = 0
    · subst h0
      exact ⟨[], ⟨by simp, .inl ⟨_, _, rfl, rfl, fun h => by cases h⟩⟩, by simp, by simp⟩
    · obtain ⟨b, off, spot⟩ := a
      obtain ⟨d0, hd0, hx0⟩ := one 0 (by omega)
      have hc0 := hx0 0 _ (List.getElem?_eq_getElem (show 0 < (tc d0).length by simp [tc]))
      have hspot : spot = none := by simpa [Addr.add] using World.cell?_spot hc0
      subst hspot
      have hb : b < w.heap.size := by
        have := World.block_lt_of_cell? w _ hc0
        rwa [addr_addn, addr_addn] at this
      have all : ∀ q, q ≤ len → ∃ ds : List C8, ds.length = q ∧ (∀ d ∈ ds, good d) ∧ ∀ i d, ds[i]? = some d → ∀ (j : Nat) u, (tc d)[j]? = some u → w.cell? ⟨b, off + i * 8 + j, none⟩ = some u := by
        intro q
        induction q with
        | zero => exact fun _ => ⟨[], rfl, by simp, by simp⟩
        | succ q ih =>
          intro hq
          obtain ⟨ds, h1, h2, h3⟩ := ih (by omega)
          obtain ⟨d, hd, hx⟩ := one q (by omega)
          refine ⟨ds ++ [d], by simp [h1], fun e he => ?_, fun i e he j u hj => ?_⟩
          · rcases List.mem_append.1 he with he | he
            · exact h2 e he
            · simp at he; subst he; exact hd
          · rw [List.getElem?_append] at he
            split at he
            · exact h3 i e he j u hj
            · next hge =>
              have hik : i = q := by
                have := (List.getElem?_eq_some_iff.1 he).1
                simp at this
                omega
              subst hik
              simp [h1] at he
              subst he
              have := hx j u hj
              rwa [addr_addn, addr_addn] at this
      obtain ⟨ds, h1, h2, h3⟩ := all len (Nat.le_refl _)
      refine ⟨ds, ⟨gfm_len (k := 8) ds (fun d hd => by simp [tc]), .inr ⟨b, off, cap, by rw [h1], by omega, hb, fun j u hj => ?_⟩⟩, h2, by omega⟩
      obtain ⟨d, e1, e2⟩ := gfm_inv (k := 8) (by decide) ds j u (fun d hd => by simp [tc]) hj
      have := h3 _ d e1 _ u e2
      have hdm := Nat.div_add_mod j 8
      rwa [show off + j / 8 * 8 + j % 8 = off + j by omega] at this
theorem rc_make {W : World} {A : Nat → Prop} {k n : Int} {s : ByteArray} {l : C3} {lv : Lv} {vl vt : Value} {ls : List Lv} {ys : List C8} (hn : in64 n) (hs : s.size ≤ 9223372036854775807) (hll : ls.length ≤ 9223372036854775807) (hl : RLn W A l lv) (hls : RVn W A vl ls) (ht : Rn W A vt 8 ys.length (ys.flatMap tc)) (hy : ∀ y ∈ ys, ∃ c, RC W A c y ∧ c.fit) : ∃ c, RC W A c ⟨k, n, s, l, vl, vt⟩ ∧ c.fit := by
 have hok : Ok W A ⟨k, n, s, l, vl, vt⟩ := ⟨⟨_, hl⟩, _, hls⟩
 by_cases h1 : k = 1
 ·
  exact ⟨.var n ys.length, ⟨h1, rfl, hn, ⟨_, ht⟩, hok⟩, trivial⟩
 by_cases h2 : k = 2
 ·
  exact ⟨.sort lv ys.length, ⟨h2, hl, ⟨_, ht⟩, hok⟩, trivial⟩
 by_cases h7 : k = 7
 ·
  exact ⟨.cst s ls ys.length, ⟨h7, rfl, hls, ⟨_, ht⟩, hok⟩, ⟨hs, hll⟩⟩
 by_cases ho : arT k < 0 ∨ (ys.length : Int) < arT k
 ·
  exact ⟨.odd k ys.length, ⟨rfl, ho, ⟨_, ht⟩, hok⟩, trivial⟩
 by_cases h5 : k = 5
 ·
  match ys, ht, hy, ho with
  | [], _, _, ho => subst h5; simp [arT] at ho
  | [_], _, _, ho => subst h5; simp [arT] at ho
  | [_, _], _, _, ho => subst h5; simp [arT] at ho
  | y :: z :: u :: rest, ht, hy, _ =>
   obtain ⟨a, ha, fa⟩ := hy y (by simp)
   obtain ⟨b, hb, fb⟩ := hy z (by simp)
   obtain ⟨c, hc, fc⟩ := hy u (by simp)
   exact ⟨.lt a b c rest.length, ⟨h5, ⟨y, z, u, rest.flatMap tc, by simpa using ht, ha, hb, hc⟩, hok⟩, ⟨fa, fb, fc⟩⟩
 ·
  have hk : k = 3 ∨ k = 4 ∨ k = 6 := by unfold arT at ho; omega
  have h2' : arT k = 2 := by unfold arT; omega
  match ys, ht, hy, ho with
  | [], _, _, ho => simp [h2'] at ho
  | [_], _, _, ho => simp [h2'] at ho
  | y :: z :: rest, ht, hy, _ =>
   obtain ⟨a, ha, fa⟩ := hy y (by simp)
   obtain ⟨b, hb, fb⟩ := hy z (by simp)
   exact ⟨.two k a b rest.length, ⟨rfl, hk, ⟨y, z, rest.flatMap tc, by simpa using ht, ha, hb⟩, hok⟩, ⟨fa, fb⟩⟩
theorem open_trm : ∀ (fuel : Nat) (cs : List Value) (x : DataW H × List MemPlace), DataW.trod enc Try.prog w base spare held fuel 27 cs = some x → ∃ c8, (∃ c, RC w (fun k => k < w.heap.size) c c8 ∧ c.fit) ∧ cs = tc c8 := by
 intro fuel
 induction fuel using Nat.strongRecOn with
 | ind fuel ih =>
  intro cs x h
  obtain ⟨xs, n, hfu, _, hl, hlen, hf⟩ := DataW.trod_struct Try.underlying27 h
  rw [cells27] at hl
  have h0 : DataW.trod enc Try.prog w base spare held n 3 ((cs.drop 0).take (Try.prog.cellsOf 3)) = xs[0]? := hf 0 _ rfl
  have h1 : DataW.trod enc Try.prog w base spare held n 3 ((cs.drop 1).take (Try.prog.cellsOf 3)) = xs[1]? := hf 1 _ rfl
  have h2 : DataW.trod enc Try.prog w base spare held n 9 ((cs.drop 2).take (Try.prog.cellsOf 9)) = xs[2]? := hf 2 _ rfl
  have h3 : DataW.trod enc Try.prog w base spare held n 24 ((cs.drop 3).take (Try.prog.cellsOf 24)) = xs[3]? := hf 3 _ rfl
  have h4 : DataW.trod enc Try.prog w base spare held n 22 ((cs.drop 6).take (Try.prog.cellsOf 22)) = xs[4]? := hf 4 _ rfl
  have h5 : DataW.trod enc Try.prog w base spare held n 25 ((cs.drop 7).take (Try.prog.cellsOf 25)) = xs[5]? := hf 5 _ rfl
  rw [cells3] at h0 h1
  rw [cells9] at h2
  rw [cells24] at h3
  rw [cells22] at h4
  rw [cells25] at h5
  rw [List.getElem?_eq_getElem (by rw [hlen]; decide)] at h0 h1 h2 h3 h4 h5
  match cs, hl with
  | [c0, c1, c2, c3, c4, c5, c6, c7], _ =>
   simp only [List.drop_zero, List.drop_succ_cons, List.take_succ_cons, List.take_zero] at h0 h1 h2 h3 h4 h5
   obtain ⟨z0, e0, _, _⟩ := DataW.trod_int Try.underlying3 h0
   obtain ⟨z1, e1, _, hw1⟩ := DataW.trod_int Try.underlying3 h1
   obtain ⟨s, e2, _, hs⟩ := DataW.trod_string Try.underlying9 h2
   obtain ⟨l, ⟨lv, hlv⟩, e3⟩ := open_lvl _ _ _ h3
   obtain ⟨a, len, cap, e4, lrs, hlR, hlg, hll⟩ := open_lrow (fun c => ∃ l, RL w c l) (fun m hm cs' y hy => open_lvl m cs' y hy) h4
   obtain ⟨a', len', cap', e5, ys, hR, hg, _⟩ := open_trow (fun c8 => ∃ c, RC w (fun k => k < w.heap.size) c c8 ∧ c.fit) (fun m hm cs' y hy => ih m (by omega) cs' y hy) h5
   obtain ⟨ls, g1, g2⟩ := rl_list lrs hlg
   simp only [List.cons.injEq, and_true, lc] at e0 e1 e2 e3 e4 e5
   obtain ⟨e3, e3', e3''⟩ := e3
   subst e0 e1 e2 e3 e3' e3'' e4 e5
   refine ⟨⟨z0, z1, s, l, .slice a len cap, .slice a' len' cap'⟩, rc_make (in64_of hw1) (by unfold maxLen at hs; omega) (by omega) hlv.n ⟨lrs, hlR.n, g1, fun i x l e1 e2 => (g2 i x l e1 e2).n⟩ hR.n hg, rfl⟩
end
end Go.Proofs.Ytmkjhdiepkpdoaa

namespace Go.Proofs.Ytmkjhdiepkpdoaa
open Go.RowKit Go.Shelf Go.ChangeShapes Go.WideShapes
set_option maxRecDepth 100000
set_option linter.unusedVariables false
set_option linter.unusedSimpArgs false
theorem cells517 : Try.prog.cellsOf 93 = 9 := by kernel_rfl
theorem cells500 : Try.prog.cellsOf 45 = 1 := by kernel_rfl
theorem cells502 : Try.prog.cellsOf 47 = 21 := by kernel_rfl
section
variable {H : Type} {enc : TypeId × Value → H} {w : World} {base : Nat} {spare : Nat → Bool} {held : Bool}
/-- A slice of constructors, out of what its elements tell. -/
theorem open_crow {n : Nat} {cs : List Value} {x : DataW H × List MemPlace} (good : K9 → Prop) (tell : ∀ m, m < n → ∀ cs' y, DataW.trod enc Try.prog w base spare held m 93 cs' = some y → ∃ c, good c ∧ cs' = cc c)
    (h : DataW.trod enc Try.prog w base spare held n 45 cs = some x) : ∃ a len cap, cs = [.slice a len cap] ∧ ∃ xs : List K9, Rd w (.slice a len cap) 9 xs.length (xs.flatMap cc) ∧ (∀ x ∈ xs, good x) ∧ xs.length ≤ 9223372036854775807 := by
  rcases DataW.trod_slice Try.underlying45 h with ⟨rfl, _⟩ | ⟨a, len, cap, elems, rest, m, hfu, rfl, _, _, hl, hm, hlen, hel, _, _⟩
  · exact ⟨none, 0, 0, rfl, [], Rd.nil _ _, by simp, by simp⟩
  · refine ⟨some a, len, cap, rfl, ?_⟩
    have one : ∀ i, i < len → ∃ d : K9, good d ∧ ∀ (j : Nat) u, (cc d)[j]? = some u → w.cell? ((a.add (i * 9)).add j) = some u := by
      intro i hil
      have h1 := hel i hil
      rw [List.getElem?_eq_getElem (by omega)] at h1
      obtain ⟨cs', hc', ht'⟩ := Option.bind_eq_some_iff.1 h1
      rw [cells517] at hc'
      obtain ⟨_, hcl, hat⟩ := World.cells?_some hc'
      obtain ⟨d, hd, rfl⟩ := tell m (by omega) _ _ ht'
      refine ⟨d, hd, fun j u hj => ?_⟩
      have hjl : j < 9 := (List.getElem?_eq_some_iff.1 hj).1
      have h2 := hat j (by omega)
      rw [h2, hj]
    have hml : len ≤ 9223372036854775807 := by unfold maxLen at hm; omega
    by_cases h0 : len = 0
    · subst h0
      exact ⟨[], ⟨by simp, .inl ⟨_, _, rfl, rfl, fun h => by cases h⟩⟩, by simp, by simp⟩
    · obtain ⟨b, off, spot⟩ := a
      obtain ⟨d0, hd0, hx0⟩ := one 0 (by omega)
      have hc0 := hx0 0 _ (List.getElem?_eq_getElem (show 0 < (cc d0).length by simp [cc]))
      have hspot : spot = none := by simpa [Addr.add] using World.cell?_spot hc0
      subst hspot
      have hb : b < w.heap.size := by
        have := World.block_lt_of_cell? w _ hc0
        rwa [addr_addn, addr_addn] at this
      have all : ∀ q, q ≤ len → ∃ ds : List K9, ds.length = q ∧ (∀ d ∈ ds, good d) ∧ ∀ i d, ds[i]? = some d → ∀ (j : Nat) u, (cc d)[j]? = some u → w.cell? ⟨b, off + i * 9 + j, none⟩ = some u := by
        intro q
        induction q with
        | zero => exact fun _ => ⟨[], rfl, by simp, by simp⟩
        | succ q ih =>
          intro hq
          obtain ⟨ds, h1, h2, h3⟩ := ih (by omega)
          obtain ⟨d, hd, hx⟩ := one q (by omega)
          refine ⟨ds ++ [d], by simp [h1], fun e he => ?_, fun i e he j u hj => ?_⟩
          · rcases List.mem_append.1 he with he | he
            · exact h2 e he
            · simp at he; subst he; exact hd
          · rw [List.getElem?_append] at he
            split at he
            · exact h3 i e he j u hj
            · next hge =>
              have hik : i = q := by
                have := (List.getElem?_eq_some_iff.1 he).1
                simp at this
                omega
              subst hik
              simp [h1] at he
              subst he
              have := hx j u hj
              rwa [addr_addn, addr_addn] at this
      obtain ⟨ds, h1, h2, h3⟩ := all len (Nat.le_refl _)
      refine ⟨ds, ⟨gfm_len (k := 9) ds (fun d hd => by simp [cc]), .inr ⟨b, off, cap, by rw [h1], by omega, hb, fun j u hj => ?_⟩⟩, h2, by omega⟩
      obtain ⟨d, e1, e2⟩ := gfm_inv (k := 9) (by decide) ds j u (fun d hd => by simp [cc]) hj
      have := h3 _ d e1 _ u e2
      have hdm := Nat.div_add_mod j 9
      rwa [show off + j / 9 * 9 + j % 9 = off + j by omega] at this
/-- A constructor that fits. -/
def GoodC (w : World) (y : K9) : Prop := ∃ c : ByteArray × CT, y.nm = c.1 ∧ RC w (fun k => k < w.heap.size) c.2 y.x ∧ c.1.size ≤ 9223372036854775807 ∧ c.2.fit
theorem open_ctr (fuel : Nat) (cs : List Value) (x : DataW H × List MemPlace) (h : DataW.trod enc Try.prog w base spare held fuel 93 cs = some x) : ∃ y, GoodC w y ∧ cs = cc y := by
 obtain ⟨xs, n, hfu, _, hl, hlen, hf⟩ := DataW.trod_struct Try.underlying93 h
 rw [cells517] at hl
 have h0 : DataW.trod enc Try.prog w base spare held n 9 ((cs.drop 0).take (Try.prog.cellsOf 9)) = xs[0]? := hf 0 _ rfl
 have h1 : DataW.trod enc Try.prog w base spare held n 27 ((cs.drop 1).take (Try.prog.cellsOf 27)) = xs[1]? := hf 1 _ rfl
 rw [cells9] at h0
 rw [cells27] at h1
 rw [List.getElem?_eq_getElem (by rw [hlen]; decide)] at h0 h1
 match cs, hl with
 | [c0, c1, c2, c3, c4, c5, c6, c7, c8], _ =>
  simp only [List.drop_zero, List.drop_succ_cons, List.take_succ_cons, List.take_zero] at h0 h1
  obtain ⟨s, e0, _, hs⟩ := DataW.trod_string Try.underlying9 h0
  obtain ⟨y, ⟨c, hc, fc⟩, e1⟩ := open_trm _ _ _ h1
  simp only [List.cons.injEq, and_true, tc] at e0 e1
  obtain ⟨e1, e2, e3, e4, e5, e6, e7, e8⟩ := e1
  subst e0 e1 e2 e3 e4 e5 e6 e7 e8
  exact ⟨⟨s, y⟩, ⟨(s, c), rfl, hc, by unfold maxLen at hs; omega, fc⟩, rfl⟩
theorem rcs_list {W : World} : ∀ (xs : List K9), (∀ x ∈ xs, GoodC W x) → ∃ cs : List (ByteArray × CT), xs.length = cs.length ∧ (∀ (i : Nat) x c, xs[i]? = some x → cs[i]? = some c → x.nm = c.1 ∧ RC W (fun k => k < W.heap.size) c.2 x.x) ∧ ∀ c ∈ cs, c.1.size ≤ 9223372036854775807 ∧ c.2.fit
 | [], _ => ⟨[], rfl, (fun i x l h => by simp at h), fun c h => by cases h⟩
 | x :: xs, h => by
  obtain ⟨c, hn, hc, hs, hf⟩ := h x (by simp)
  obtain ⟨cs, h1, h2, h3⟩ := rcs_list xs (fun y hy => h y (by simp [hy]))
  refine ⟨c :: cs, by simp [h1], fun i y m e1 e2 => ?_, fun d hd => ?_⟩
  ·
   cases i with
   | zero => simp at e1 e2; subst e1 e2; exact ⟨hn, hc⟩
   | succ i => exact h2 i y m (by simpa using e1) (by simpa using e2)
  ·
   rcases List.mem_cons.1 hd with rfl | hd
   ·
    exact ⟨hs, hf⟩
   ·
    exact h3 d hd
theorem open_dcl (fuel : Nat) (cs : List Value) (x : DataW H × List MemPlace) (h : DataW.trod enc Try.prog w base spare held fuel 47 cs = some x) : ∃ d, (∃ t v l, RD w (fun k => k < w.heap.size) d t v l ∧ DFit d t v l) ∧ cs = dc d := by
 obtain ⟨xs, n, hfu, _, hl, hlen, hf⟩ := DataW.trod_struct Try.underlying47 h
 rw [cells502] at hl
 have h0 : DataW.trod enc Try.prog w base spare held n 3 ((cs.drop 0).take (Try.prog.cellsOf 3)) = xs[0]? := hf 0 _ rfl
 have h1 : DataW.trod enc Try.prog w base spare held n 9 ((cs.drop 1).take (Try.prog.cellsOf 9)) = xs[1]? := hf 1 _ rfl
 have h2 : DataW.trod enc Try.prog w base spare held n 3 ((cs.drop 2).take (Try.prog.cellsOf 3)) = xs[2]? := hf 2 _ rfl
 have h3 : DataW.trod enc Try.prog w base spare held n 27 ((cs.drop 3).take (Try.prog.cellsOf 27)) = xs[3]? := hf 3 _ rfl
 have h4 : DataW.trod enc Try.prog w base spare held n 27 ((cs.drop 11).take (Try.prog.cellsOf 27)) = xs[4]? := hf 4 _ rfl
 have h5 : DataW.trod enc Try.prog w base spare held n 3 ((cs.drop 19).take (Try.prog.cellsOf 3)) = xs[5]? := hf 5 _ rfl
 have h6 : DataW.trod enc Try.prog w base spare held n 45 ((cs.drop 20).take (Try.prog.cellsOf 45)) = xs[6]? := hf 6 _ rfl
 rw [cells3] at h0 h2 h5
 rw [cells9] at h1
 rw [cells27] at h3 h4
 rw [cells500] at h6
 rw [List.getElem?_eq_getElem (by rw [hlen]; decide)] at h0 h1 h2 h3 h4 h5 h6
 match cs, hl with
 | [c0, c1, c2, c3, c4, c5, c6, c7, c8, c9, c10, c11, c12, c13, c14, c15, c16, c17, c18, c19, c20], _ =>
  simp only [List.drop_zero, List.drop_succ_cons, List.take_succ_cons, List.take_zero] at h0 h1 h2 h3 h4 h5 h6
  obtain ⟨z0, e0, _, hw0⟩ := DataW.trod_int Try.underlying3 h0
  obtain ⟨s, e1, _, hs⟩ := DataW.trod_string Try.underlying9 h1
  obtain ⟨z2, e2, _, hw2⟩ := DataW.trod_int Try.underlying3 h2
  obtain ⟨y, ⟨t, ht, ft⟩, e3⟩ := open_trm _ _ _ h3
  obtain ⟨u, ⟨v, hv, fv⟩, e4⟩ := open_trm _ _ _ h4
  obtain ⟨z5, e5, _, hw5⟩ := DataW.trod_int Try.underlying3 h5
  obtain ⟨a, len, cap, e6, ys, hR, hg, hyl⟩ := open_crow (GoodC w) (fun m _ cs' y hy => open_ctr m cs' y hy) h6
  obtain ⟨l, g1, g2, g3⟩ := rcs_list ys hg
  simp only [List.cons.injEq, and_true, tc] at e0 e1 e2 e3 e4 e5 e6
  obtain ⟨p1, p2, p3, p4, p5, p6, p7, p8⟩ := e3
  obtain ⟨q1, q2, q3, q4, q5, q6, q7, q8⟩ := e4
  subst e0 e1 e2 p1 p2 p3 p4 p5 p6 p7 p8 q1 q2 q3 q4 q5 q6 q7 q8 e5 e6
  exact ⟨⟨z0, s, z2, y, u, z5, .slice a len cap⟩, ⟨t, v, l, ⟨ht, hv, ys, hR.n, g1, g2⟩, ⟨by unfold maxLen at hs; omega, ft, fv, g3, by omega, in64_of hw0, in64_of hw2, in64_of hw5⟩⟩, rfl⟩
end
end Go.Proofs.Ytmkjhdiepkpdoaa
