/- Bundles: decl's and the reference's. -/
import Derived.Test.YtmkjhdiepkpdoaaTerm54
import Derived.Test.YtmkjhdiepkpdoaaTerm5
import Derived.Test.YtmkjhdiepkpdoaaTerm46
import Derived.Test.YtmkjhdiepkpdoaaLevB
import Derived.ProofKit
import Derived.Deep.Slices
import Derived.ChangeSame
import Derived.ChangeArms
import Derived.SizedLaws
import Derived.Deep.Strs
namespace Go.Proofs.Ytmkjhdiepkpdoaa
set_option maxRecDepth 100000
set_option maxHeartbeats 1600000
open Go.RowKit Go.Shelf
set_option linter.unusedVariables false
set_option linter.unusedSimpArgs false
abbrev QD := D21 × CT × CT × List (ByteArray × CT)
def QD.rd (W : World) (A : Nat → Prop) (p : QD) : Prop := RD W A p.1 p.2.1 p.2.2.1 p.2.2.2
def QD.fit (p : QD) : Prop := DFit p.1 p.2.1 p.2.2.1 p.2.2.2
noncomputable def QD.may (p : QD) : Int := mayD p.1 p.2.1 p.2.2.1 p.2.2.2
def QD.put (p : QD) : Prop := PutD p.1 p.2.1 p.2.2.1 p.2.2.2
noncomputable def QD.enc (p : QD) : List UInt8 := encDecl p.1 p.2.1 p.2.2.1 p.2.2.2
def QD.cells (p : QD) : List Value := dc p.1
theorem qcells_len (p : QD) : p.cells.length = 21 := rfl
/-- A slice of declarations. -/
def RDs (W : World) (A : Nat → Prop) (v : Value) (ps : List QD) : Prop := Rn W A v 21 ps.length (ps.flatMap QD.cells) ∧ ∀ p ∈ ps, p.rd W A
theorem RDs.form {W : World} {A : Nat → Prop} {v : Value} {ps : List QD} (h : RDs W A v ps) : ∃ a c, v = .slice a ps.length c ∧ ps.length ≤ c ∧ (a = none → c = 0) := h.1.1.form
theorem RDs.keep {W W' : World} {A : Nat → Prop} {v : Value} {ps : List QD} (hs : W.heap.size ≤ W'.heap.size) (hk : ∀ k, A k → k < W.heap.size → W'.heap[k]? = W.heap[k]?) (h : RDs W A v ps) : RDs W' A v ps := ⟨h.1.keep hs hk, fun p hp => (h.2 p hp).keep hs hk⟩
theorem RDs.mono {W : World} {A B : Nat → Prop} {v : Value} {ps : List QD} (hAB : ∀ k, A k → B k) (h : RDs W A v ps) : RDs W B v ps := ⟨h.1.mono hAB, fun p hp => (h.2 p hp).mono hAB⟩
theorem RDs.row {W : World} {A : Nat → Prop} {v : Value} {ps : List QD} (h : RDs W A v ps) {i : Nat} (hi : i < ps.length) :
    ∃ b off cap p, v = .slice (some ⟨b, off, none⟩) ps.length cap ∧ ps[i]? = some p ∧ p.rd W A ∧ A b ∧ b < W.heap.size ∧ ∀ W' : World, W'.heap[b]? = W.heap[b]? → ∀ j u, (dc p.1)[j]? = some u → W'.cell? ((⟨b, off + i * 21, none⟩ : Addr).add j) = some u := by
  obtain ⟨h1, h3⟩ := h
  obtain ⟨b, off, c, rfl, hb⟩ := h1.1.some (by omega)
  refine ⟨b, off, c, ps[i], rfl, List.getElem?_eq_getElem hi, h3 _ (List.getElem_mem hi), h1.2 (by omega) b rfl, hb, fun W' hB j u hj => ?_⟩
  rw [addr_addn, Nat.add_assoc]
  exact (World.cell?_of_block (w := W) (a := ⟨b, off + (i * 21 + j), none⟩) hB).trans (h1.1.cell (fmG_get qcells_len ps i j _ u (List.getElem?_eq_getElem hi) hj))
theorem el510 : Elem Try.prog 57 47 21 304 := elem_of (by kernel_rfl)
abbrev z21 : List Value := [.int .i64 0, .string (ByteArray.mk #[]), .int .i64 0, .int .i64 0, .int .i64 0, .string (ByteArray.mk #[]), .int .i64 0, .int .i64 0, nilS, nilS, nilS, .int .i64 0, .int .i64 0, .string (ByteArray.mk #[]), .int .i64 0, .int .i64 0, nilS, nilS, nilS, .int .i64 0, nilS]
theorem zero502 : (Try.prog.info? 47).bind (·.zero) = some (.agg z21.toArray) := by kernel_rfl
/-- The first that may not be. -/
noncomputable def allE : List QD → Int
 | [] => 0
 | p :: ps => if p.may ≠ 0 then p.may else allE ps
theorem allE_at {ps : List QD} {i : Nat} {p : QD} (h : ps[i]? = some p) : allE (ps.drop i) = if p.may ≠ 0 then p.may else allE (ps.drop (i + 1)) := by
 rw [drop_at h, allE]
theorem allE_zero {ps : List QD} (h : allE ps = 0) : ∀ p ∈ ps, p.may = 0 := by
 induction ps with
 | nil => intro p hp; cases hp
 | cons q ps ih =>
  unfold allE at h
  split at h
  ·
   next h1 => exact absurd h h1
  ·
   next h1 =>
   intro p hp
   rcases List.mem_cons.1 hp with rfl | hp
   ·
    omega
   ·
    exact ih h p hp
noncomputable def encAll (ps : List QD) : List UInt8 := dig ps.length ++ ps.flatMap QD.enc
theorem encQ_len {W : World} {A : Nat → Prop} {p : QD} (hd : p.rd W A) (hp : p.put) : p.enc.length ≤ 40000000 := by
 have h1 := nmB_len hp.nm
 have h2 := hp.ty.len hd.ty
 have h3 := tailD_len hp hd
 have h5 := hp.vars
 have h4 := dig_len 9 p.1.vars.toNat (by omega)
 unfold QD.enc encDecl
 simp only [List.length_append, List.length_cons, List.length_nil]
 omega
theorem flatQ_len {W : World} {A : Nat → Prop} : ∀ {ps : List QD}, (∀ p ∈ ps, p.rd W A ∧ p.put) → (ps.flatMap QD.enc).length ≤ 40000000 * ps.length
 | [], _ => by simp
 | p :: ps, h => by
  have h1 := flatQ_len (ps := ps) (fun q hq => h q (List.mem_cons_of_mem _ hq))
  have h2 := encQ_len (h p List.mem_cons_self).1 (h p List.mem_cons_self).2
  rw [List.flatMap_cons, List.length_append, List.length_cons]
  omega
/-- What Bundle tells: its error, its bytes. -/
noncomputable def bunE (ps : List QD) : Int := if 16 < ps.length then 18 else if allE ps ≠ 0 then allE ps else if 8192 < (encAll ps).length then 2 else 0
noncomputable def bunB (ps : List QD) : List UInt8 := if bunE ps = 0 then encAll ps else []
theorem QD.one {W : World} {A : Nat → Prop} {p : QD} (h : p.rd W A) : ∀ u ∈ dc p.1, u.oneCell' = true := RD.one h
theorem QD.bel {W W' : World} {p : QD} (h : p.rd W (fun k => k < W.heap.size)) (hB : Below W.heap.size W W') : p.rd W' (fun k => k < W'.heap.size) := RD.bel h hB
theorem QD.mk {W : World} {A : Nat → Prop} {p : QD} (h : p.rd W A) (hm : p.may = 0) : p.put := PutD.of h hm
theorem mayAll317 (u : Value) (ps : List QD) (w0 : World) (hV : RDs w0 (fun k => k < w0.heap.size) u ps) (hf : ∀ p ∈ ps, p.fit) (hl9 : ps.length ≤ 9223372036854775807) : Calls Try.prog 76 #[u] w0 fun e w' => e = .returned (.int .i64 (allE ps)) ∧ Below w0.heap.size w0 w' := by
 obtain ⟨au, cu, hve, _⟩ := hV.form
 subst hve
 have hB := Below.refl w0.heap.size w0
 have sB := hB.size
 refine calls_fs 18 [(0, .slice au ps.length cu)] Try.func76 rfl rfl rfl rfl rfl fun a F => ?_
 refine wp_rs fun _ K1 => F.sg rfl fun a F => ?_
 refine s_end (K1 _ _ ?_)
 refine wp_seq_k fun _ K2 => ?_
 refine wp_rs fun _ K3 => F.mv rfl fun a F => F.vl (x_len Try.underlying57 rfl) fun a F => F.mv rfl fun a F => ?_
 refine s_end (K3 _ _ ?_)
 refine wp_block ?_
 refine wp_up ps.length (fun i a w => allE ps = allE (ps.drop i) ∧ Below w0.heap.size w0 w ∧ Fs 18 a [(6, .slice au ps.length cu), (7, .int .i64 (ps.length : Int)), (8, .int .i64 (i : Int))]) ⟨by rw [List.drop_zero], hB, F.sub _ rfl⟩ ?_
 clear hB
 repeat clear F
 rintro i a w hi ⟨hct, hB, F⟩ K' hK'
 have sB := hB.size
 refine wp_rs fun _ K4 => F.vl (x_lss (b := decide (i < ps.length)) (decide_eq_decide.2 (by omega)) rfl rfl) fun a F => ?_
 refine s_end (K4 _ _ ?_)
 refine wp_seq_k fun _ K5 => ?_
 refine wp_iff F rfl (fun hc9 => ?_) (fun hc9 => ?_)
 ·
  obtain ⟨b9, off9, c9, p, hve, hli, hry, hAb, hbl, hrow⟩ := hV.row (i := i) (by omega)
  cases hve
  have hfp := hf p (List.mem_of_getElem? hli)
  have h1y := QD.one hry
  refine wp_skip (K5 _ _ ?_)
  refine wp_seq_k fun _ K6 => ?_
  refine wp_block ?_
  refine wp_rs fun _ K7 => F.vl (x_ixa rfl rfl (m_ixsK i Try.underlying57 el510.size rfl (by omega))) fun a F => F.vl (x_ldA wide502 (hrow _ (hB.block _ hbl)) rfl rfl) fun a F => ?_
  refine s_alloc F (by decide) zero502 fun w2 b4 a eb4 m4 B3 zb4 F => ?_
  have sB3 := B3.size
  have hB := bt hB B3
  refine s_putW F rfl rfl (size_wide wide502) m4 rfl h1y fun w6 m4 o7 => ?_
  have so7 := o7.size
  have hB := hB.trans (o7.below (by omega))
  refine s_end (K7 _ _ ?_)
  refine wp_rs fun _ K8 => F.vl (x_ldW wide502 m4 rfl rfl) fun a F => ?_
  refine s_callB [_] F E29 rfl (by decide) (May304 p.1 p.2.1 p.2.2.1 p.2.2.2 w6 (QD.bel hry hB) hfp) fun w8 a B9 F => ?_
  have sB9 := B9.size
  have hB := bt hB B9
  refine F.sg rfl fun a F => ?_
  refine s_end (K8 _ _ ?_)
  have hat := allE_at hli
  rcases (show p.may ≠ 0 ∨ p.may = 0 by omega) with hm | hm
  ·
   rw [if_pos hm] at hat
   have hm : mayD p.1 p.2.1 p.2.2.1 p.2.2.2 ≠ 0 := hm
   refine wp_rs fun _ K10 => F.mv rfl fun a F => F.vl (neqT (by omega) rfl rfl) fun a F => ?_
   refine s_end (K10 _ _ ?_)
   refine wp_if F rfl ?_
   refine wp_rs fun _ K11 => F.mv rfl fun a F => F.sg rfl fun a F => ?_
   refine s_end (K11 _ _ ?_)
   refine wp_ret (inb_ret (then_ret (then_ret (inb_ret (then_ret (res_slot F rfl rfl ⟨by rw [hct, hat]; rfl, hB⟩))))))
  ·
   rw [if_neg (by rw [hm]; simp)] at hat
   have hm : mayD p.1 p.2.1 p.2.2.1 p.2.2.2 = 0 := hm
   refine wp_rs fun _ K12 => F.mv rfl fun a F => F.vl (neqF (by omega) rfl rfl) fun a F => ?_
   refine s_end (K12 _ _ ?_)
   refine wp_if F rfl ?_
   refine wp_skip (K6 _ _ ?_)
   refine wp_region_lit ?_
   refine F.vl (x_addn (i + 1) (by omega) (by omega) rfl rfl) fun a F => F.mv rfl fun a F => ?_
   refine s_end (hK' _ _ (by omega) ⟨hct.trans hat, hB, F.sub _ rfl⟩)
 ·
  obtain rfl : i = ps.length := by omega
  rw [List.drop_of_length_le (Nat.le_refl _)] at hct
  refine wp_exit (K2 _ _ ?_)
  refine wp_rs fun _ K13 => F.sg rfl fun a F => ?_
  refine s_end (K13 _ _ ?_)
  refine wp_ret (res_slot F rfl rfl ⟨by rw [hct]; rfl, hB⟩)
theorem PutList318 (A : Nat → Prop) (u : Value) (ps : List QD) (w0 : World) (hA : ∀ k, A k → k < w0.heap.size) (hV : RDs w0 A u ps) (hE : ∀ p ∈ ps, p.put) (hls : ps.length ≤ 16) : Calls Try.prog 77 #[nilS, u, .func (.func 65) #[] #[]] w0 (FreshY 5 w0 (encAll ps)) := by
 have hlen := flatQ_len (fun p hp => ⟨hV.2 p hp, hE p hp⟩)
 obtain ⟨au, cu, hve, _⟩ := hV.form
 subst hve
 have hdl := dig_len 9 ps.length (by omega)
 unfold encAll
 have hB := Below.refl w0.heap.size w0
 have sB := hB.size
 refine calls_fs 32 [(0, nilS), (1, .slice au ps.length cu), (2, .func (.func 65) #[] #[])] Try.func77 rfl rfl rfl rfl rfl fun a F => ?_
 refine wp_rs fun _ K1 => F.sg rfl fun a F => ?_
 refine s_end (K1 _ _ ?_)
 refine wp_seq_k fun _ K2 => ?_
 refine wp_rs fun _ K3 => F.mv rfl fun a F => F.vl (x_eqNil Try.underlying88 rfl) fun a F => ?_
 refine s_end (K3 _ _ ?_)
 refine wp_if F rfl ?_
 refine wp_skip (K2 _ _ ?_)
 refine wp_rs fun _ K4 => F.mv rfl fun a F => F.mv rfl fun a F => F.vl (x_len Try.underlying57 rfl) fun a F => F.vl (x_i2d (m := ps.length) Try.underlying3 Try.underlying54 rfl) fun a F => ?_
 refine s_call (R := fun u w' => (∃ o', w'.ownsRow w0.heap.size 5 1 u (dig ps.length).length ((dig ps.length).map encB) ∧ (∀ j, u.ownBlock = some j → j = o') ∧ (w0.heap.size ≤ o' ∧ o' < w'.heap.size)) ∧ Below w0.heap.size w0 w') F [_, _] E118 rfl (by decide) (by have h := Put326 _ [] (UInt64.ofNat ps.length) w0 (Rd.nil _ _) (by simp); rw [d2n (by omega)] at h; exact h) ?_
 rintro v1 w2 a ⟨⟨o1, h1O, h1at, h1o⟩, B3⟩ F
 have sB3 := B3.size
 have hB := bt hB B3
 have h1R := Rd.own h1O
 have hO := h1O
 have hat := h1at
 refine F.sg rfl fun a F => ?_
 refine s_end (K4 _ _ ?_)
 refine wp_seq_k fun _ K5 => ?_
 refine wp_rs fun _ K6 => F.mv rfl fun a F => F.vl (x_len Try.underlying57 rfl) fun a F => F.mv rfl fun a F => ?_
 refine s_end (K6 _ _ ?_)
 refine wp_block ?_
 refine wp_up ps.length (fun i a w => ∃ v' o', w.ownsRow w0.heap.size 5 1 v' (dig ps.length ++ (ps.take i).flatMap QD.enc).length ((dig ps.length ++ (ps.take i).flatMap QD.enc).map encB) ∧ (∀ j, v'.ownBlock = some j → j = o') ∧ (w0.heap.size ≤ o' ∧ o' < w.heap.size) ∧ Below w0.heap.size w0 w ∧ Fs 32 a [(2, .func (.func 65) #[] #[]), (7, v'), (19, .slice au ps.length cu), (20, .int .i64 (ps.length : Int)), (21, .int .i64 (i : Int))]) ⟨v1, o1, by simpa using hO, hat, by omega, hB, F.sub _ rfl⟩ ?_
 clear hO hat hB h1O h1at h1R
 repeat clear F
 rintro i a w hi ⟨v1, o1, hO, hat, ho1, hB, F⟩ K' hK'
 have sB := hB.size
 refine wp_rs fun _ K7 => F.vl (x_lss (b := decide (i < ps.length)) (decide_eq_decide.2 (by omega)) rfl rfl) fun a F => ?_
 refine s_end (K7 _ _ ?_)
 refine wp_seq_k fun _ K8 => ?_
 refine wp_iff F rfl (fun hc22 => ?_) (fun hc22 => ?_)
 ·
  obtain ⟨b9, off9, c9, p, hve, hli, hry, hAb, hbl, hrow⟩ := hV.row (i := i) (by omega)
  cases hve
  have hop := hE p (List.mem_of_getElem? hli)
  have h1y := QD.one hry
  have hfs := flat_snoc (f := QD.enc) hli
  have hfl := flat_le (f := QD.enc) hli
  refine wp_skip (K8 _ _ ?_)
  refine wp_seq_k fun _ K9 => ?_
  refine wp_block ?_
  refine wp_rs fun _ K10 => F.vl (x_ixa rfl rfl (m_ixsK i Try.underlying57 el510.size rfl (by omega))) fun a F => F.vl (x_ldA wide502 (hrow _ (hB.block _ hbl)) rfl rfl) fun a F => ?_
  refine s_alloc F (by decide) zero502 fun w4 b9 a eb9 m9 B5 zb9 F => ?_
  have sB5 := B5.size
  have hB := bt hB B5
  have hO := own_below hO B5
  refine s_putW F rfl rfl (size_wide wide502) m9 rfl h1y fun w8 m9 o9 => ?_
  have so9 := o9.size
  have hB := hB.trans (o9.below (by omega))
  have hO := own_only hO o9 (fun e => by have := hat _ e; omega)
  refine s_end (K10 _ _ ?_)
  refine wp_region_lit ?_
  refine F.mv rfl fun a F => F.mv rfl fun a F => F.vl (x_ldW wide502 m9 rfl rfl) fun a F => ?_
  refine s_callC (R := fun u w' => (∃ o', w'.ownsRow w0.heap.size 5 1 u (dig ps.length ++ (ps.take i).flatMap QD.enc ++ p.enc).length ((dig ps.length ++ (ps.take i).flatMap QD.enc ++ p.enc).map encB) ∧ (∀ j, u.ownBlock = some j → j = o') ∧ ((o' = o1 ∨ w8.heap.size ≤ o') ∧ o' < w'.heap.size)) ∧ Ktw o1 o1 w8 w') (lb := []) F [_, _] rfl E65 rfl (by decide) (putDecl311 w0.heap.size o1 v1 _ p.1 p.2.1 p.2.2.1 p.2.2.2 w8 A (hry.keep hB.size (fun k ha hk => hB.block k hk)) hop (fun k hk => by have := hA k hk; omega) hO hat (by omega) (by omega) (by simp only [List.length_append]; omega)) ?_
  rintro v5 w10 a ⟨⟨o5, hOn, hatn, hon⟩, k11⟩ F
  clear hO hat
  have hO := hOn
  have hat := hatn
  clear hOn hatn
  have sk11 := k11.size
  have hB := k11.under hB (by omega)
  refine F.sg rfl fun a F => ?_
  refine s_end (K9 _ _ ?_)
  refine wp_region_lit ?_
  refine F.vl (x_addn (i + 1) (by omega) (by omega) rfl rfl) fun a F => F.mv rfl fun a F => ?_
  refine s_end (hK' _ _ (by omega) ⟨v5, o5, by rw [hfs, ← List.append_assoc]; exact hO, hat, by omega, hB, F.sub _ rfl⟩)
 ·
  obtain rfl : i = ps.length := by omega
  rw [List.take_of_length_le (Nat.le_refl _)] at hO
  refine wp_exit (K5 _ _ ?_)
  refine wp_rs fun _ K11 => F.mv rfl fun a F => ?_
  refine s_call (R := fun u w' => (∃ o', w'.ownsRow w.heap.size 5 1 u (dig ps.length ++ ps.flatMap QD.enc).length ((dig ps.length ++ ps.flatMap QD.enc).map encB) ∧ (∀ j, u.ownBlock = some j → j = o') ∧ (w.heap.size ≤ o' ∧ o' < w'.heap.size)) ∧ Below w.heap.size w w') F [_, _] E117 rfl (by decide) (fresh325 _ (dig ps.length ++ ps.flatMap QD.enc) 0 w (Rd.own hO) (by rw [List.length_append]; omega)) ?_
  rintro v9 w12 a ⟨⟨o9, h9O, h9at, h9o⟩, B13⟩ F
  have sB13 := B13.size
  have hB := bt hB B13
  have h9R := Rd.own h9O
  refine F.sg rfl fun a F => ?_
  refine s_end (K11 _ _ ?_)
  refine wp_ret (res_slot F rfl rfl ⟨v9, rfl, ⟨o9, own_base h9O (by omega), h9at, by omega⟩, hB⟩)
theorem Bundle309 (u : Value) (ps : List QD) (w0 : World) (hV : RDs w0 (fun k => k < w0.heap.size) u ps) (hf : ∀ p ∈ ps, p.fit) (hl9 : ps.length ≤ 9223372036854775807) : Calls Try.prog 35 #[u] w0 (EncR w0 (bunB ps) (bunE ps)) := by
 obtain ⟨au, cu, hve, _⟩ := hV.form
 subst hve
 have hB := Below.refl w0.heap.size w0
 have sB := hB.size
 refine calls_fs 20 [(0, .slice au ps.length cu)] Try.func35 rfl rfl rfl rfl rfl fun a F => ?_
 refine wp_rs fun _ K1 => F.sg rfl fun a F => F.sg rfl fun a F => ?_
 refine s_end (K1 _ _ ?_)
 refine wp_seq_k fun _ K2 => ?_
 rcases (show 16 < ps.length ∨ ¬ 16 < ps.length by omega) with hq | hq
 ·
  have hr : bunE ps = 18 := by unfold bunE; rw [if_pos hq]
  have hrb : bunB ps = [] := if_neg (by rw [hr]; decide)
  refine wp_rs fun _ K4 => F.mv rfl fun a F => F.vl (x_len Try.underlying57 rfl) fun a F => F.vl (gtrT (by omega) rfl rfl) fun a F => ?_
  refine s_end (K4 _ _ ?_)
  refine wp_if F rfl ?_
  refine wp_rs fun _ K5 => F.sg rfl fun a F => F.sg rfl fun a F => ?_
  refine s_end (K5 _ _ ?_)
  refine wp_ret (then_ret (res_two F rfl rfl rfl ⟨_, by rw [hr]; try rfl, ⟨by rw [hrb]; exact Rd.nil _ _, fun j h => by cases h⟩, hB⟩))
 ·
  skip
  refine wp_rs fun _ K6 => F.mv rfl fun a F => F.vl (x_len Try.underlying57 rfl) fun a F => F.vl (gtrF (by omega) rfl rfl) fun a F => ?_
  refine s_end (K6 _ _ ?_)
  refine wp_if F rfl ?_
  refine wp_skip (K2 _ _ ?_)
  refine wp_seq_k fun _ K7 => ?_
  refine wp_rs fun _ K8 => F.mv rfl fun a F => ?_
  refine s_callB [_] F E76 rfl (by decide) (mayAll317 _ ps w0 ((hV.keep hB.size (fun k hk _ => hB.block k hk)).mono (fun k hk => by omega)) hf hl9) fun w2 a B3 F => ?_
  have sB3 := B3.size
  have hB := bt hB B3
  refine F.sg rfl fun a F => ?_
  refine s_end (K8 _ _ ?_)
  rcases (show allE ps ≠ 0 ∨ allE ps = 0 by omega) with hm | hm
  ·
   have hr : bunE ps = allE ps := by unfold bunE; rw [if_neg (by omega), if_pos hm]
   have hrb : bunB ps = [] := if_neg (by rw [hr]; exact hm)
   refine wp_rs fun _ K10 => F.mv rfl fun a F => F.vl (neqT (by omega) rfl rfl) fun a F => ?_
   refine s_end (K10 _ _ ?_)
   refine wp_if F rfl ?_
   refine wp_rs fun _ K11 => F.mv rfl fun a F => F.sg rfl fun a F => F.sg rfl fun a F => ?_
   refine s_end (K11 _ _ ?_)
   refine wp_ret (then_ret (res_two F rfl rfl rfl ⟨_, by rw [hr]; try rfl, ⟨by rw [hrb]; exact Rd.nil _ _, fun j h => by cases h⟩, hB⟩))
  ·
   skip
   refine wp_rs fun _ K12 => F.mv rfl fun a F => F.vl (neqF (by omega) rfl rfl) fun a F => ?_
   refine s_end (K12 _ _ ?_)
   refine wp_if F rfl ?_
   refine wp_skip (K7 _ _ ?_)
   refine wp_rs fun _ K13 => F.mv rfl fun a F => ?_
   refine s_call (R := fun u w' => (∃ o', w'.ownsRow w2.heap.size 5 1 u (encAll ps).length ((encAll ps).map encB) ∧ (∀ j, u.ownBlock = some j → j = o') ∧ (w2.heap.size ≤ o' ∧ o' < w'.heap.size)) ∧ Below w2.heap.size w2 w') F [_, _, _] E77 rfl (by decide) (PutList318 (fun k => k < w0.heap.size) _ ps w2 (fun k hk => by omega) (hV.keep hB.size (fun k hk _ => hB.block k hk)) (fun p hp => QD.mk (hV.2 p hp) (allE_zero hm p hp)) (by omega)) ?_
   rintro v9 w4 a ⟨⟨o9, h9O, h9at, h9o⟩, B5⟩ F
   have sB5 := B5.size
   have hB := bt hB B5
   have h9R := Rd.own h9O
   obtain ⟨a9, c9, h9f, _⟩ := h9R.form
   subst h9f
   refine F.sg rfl fun a F => ?_
   refine s_end (K13 _ _ ?_)
   refine wp_seq_k fun _ K14 => ?_
   rcases (show 8192 < (encAll ps).length ∨ ¬ 8192 < (encAll ps).length by omega) with hbl | hbl
   ·
    have hr : bunE ps = 2 := by unfold bunE; rw [if_neg (by omega), if_neg (by rw [hm]; simp), if_pos hbl]
    have hrb : bunB ps = [] := if_neg (by rw [hr]; decide)
    refine wp_rs fun _ K16 => F.mv rfl fun a F => F.vl (x_len Try.underlying48 rfl) fun a F => F.vl (gtrT (by omega) rfl rfl) fun a F => ?_
    refine s_end (K16 _ _ ?_)
    refine wp_if F rfl ?_
    refine wp_rs fun _ K17 => F.sg rfl fun a F => F.sg rfl fun a F => ?_
    refine s_end (K17 _ _ ?_)
    refine wp_ret (then_ret (res_two F rfl rfl rfl ⟨_, by rw [hr]; try rfl, ⟨by rw [hrb]; exact Rd.nil _ _, fun j h => by cases h⟩, hB⟩))
   ·
    have hr : bunE ps = 0 := by unfold bunE; rw [if_neg (by omega), if_neg (by rw [hm]; simp), if_neg hbl]
    have hrb : bunB ps = encAll ps := if_pos hr
    refine wp_rs fun _ K18 => F.mv rfl fun a F => F.vl (x_len Try.underlying48 rfl) fun a F => F.vl (gtrF (by omega) rfl rfl) fun a F => ?_
    refine s_end (K18 _ _ ?_)
    refine wp_if F rfl ?_
    refine wp_skip (K14 _ _ ?_)
    refine wp_rs fun _ K19 => F.mv rfl fun a F => F.sg rfl fun a F => F.sg rfl fun a F => ?_
    refine s_end (K19 _ _ ?_)
    refine wp_ret (res_two F rfl rfl rfl ⟨_, by rw [hr], ⟨by rw [hrb]; exact h9R, fun j h => by have := h9at j h; omega⟩, hB⟩)
theorem rBundle310 (u : Value) (ps : List QD) (w0 : World) (hV : RDs w0 (fun k => k < w0.heap.size) u ps) (hf : ∀ p ∈ ps, p.fit) (hl9 : ps.length ≤ 9223372036854775807) : Calls Try.prog 36 #[u] w0 (EncR w0 (bunB ps) (bunE ps)) := by
 obtain ⟨au, cu, hve, _⟩ := hV.form
 subst hve
 have hB := Below.refl w0.heap.size w0
 have sB := hB.size
 refine calls_fs 38 [(0, .slice au ps.length cu)] Try.func36 rfl rfl rfl rfl rfl fun a F => ?_
 refine wp_rs fun _ K1 => F.sg rfl fun a F => F.sg rfl fun a F => ?_
 refine s_end (K1 _ _ ?_)
 refine wp_seq_k fun _ K2 => ?_
 rcases (show 16 < ps.length ∨ ¬ 16 < ps.length by omega) with hq | hq
 ·
  have hr : bunE ps = 18 := by unfold bunE; rw [if_pos hq]
  have hrb : bunB ps = [] := if_neg (by rw [hr]; decide)
  refine wp_rs fun _ K4 => F.mv rfl fun a F => F.vl (x_len Try.underlying57 rfl) fun a F => F.vl (gtrT (by omega) rfl rfl) fun a F => ?_
  refine s_end (K4 _ _ ?_)
  refine wp_if F rfl ?_
  refine wp_rs fun _ K5 => F.sg rfl fun a F => F.sg rfl fun a F => ?_
  refine s_end (K5 _ _ ?_)
  refine wp_ret (then_ret (res_two F rfl rfl rfl ⟨_, by rw [hr]; try rfl, ⟨by rw [hrb]; exact Rd.nil _ _, fun j h => by cases h⟩, hB⟩))
 ·
  skip
  refine wp_rs fun _ K6 => F.mv rfl fun a F => F.vl (x_len Try.underlying57 rfl) fun a F => F.vl (gtrF (by omega) rfl rfl) fun a F => ?_
  refine s_end (K6 _ _ ?_)
  refine wp_if F rfl ?_
  refine wp_skip (K2 _ _ ?_)
  refine wp_rs fun _ K7 => F.mv rfl fun a F => F.vl (x_len Try.underlying57 rfl) fun a F => F.vl (x_i2d (m := ps.length) Try.underlying3 Try.underlying54 rfl) fun a F => ?_
  have hdl := dig_len 9 ps.length (by omega)
  have hO := World.ownsRow_nil w0 w0.heap.size 5 1
  have hat : ∀ j, nilS.ownBlock = some j → j = w0.heap.size := fun j h => by cases h
  refine s_call (R := fun u w' => (∃ o', w'.ownsRow w0.heap.size 5 1 u (dig ps.length).length ((dig ps.length).map encB) ∧ (∀ j, u.ownBlock = some j → j = o') ∧ ((o' = w0.heap.size ∨ w0.heap.size ≤ o') ∧ o' < w'.heap.size)) ∧ Ktw w0.heap.size w0.heap.size w0 w') F [_, _] E68 rfl (by decide) (by have h := Put314 w0.heap.size w0.heap.size nilS [] (UInt64.ofNat ps.length) w0 hO hat (by omega) (by omega) (by simp); rw [d2n (by omega)] at h; exact h) ?_
  rintro v1 w2 a ⟨⟨o1, hOn, hatn, hon⟩, k3⟩ F
  clear hO hat
  have hO := hOn
  have hat := hatn
  clear hOn hatn
  have sk3 := k3.size
  have hB := k3.under hB (by omega)
  refine F.sg rfl fun a F => ?_
  refine s_end (K7 _ _ ?_)
  refine wp_seq_k fun _ K8 => ?_
  refine wp_rs fun _ K9 => F.mv rfl fun a F => F.vl (x_len Try.underlying57 rfl) fun a F => F.mv rfl fun a F => ?_
  refine s_end (K9 _ _ ?_)
  refine wp_block ?_
  refine wp_up ps.length (fun i a w => ∃ v' o', w.ownsRow w0.heap.size 5 1 v' (dig ps.length ++ (ps.take i).flatMap QD.enc).length ((dig ps.length ++ (ps.take i).flatMap QD.enc).map encB) ∧ (∀ j, v'.ownBlock = some j → j = o') ∧ (w0.heap.size ≤ o' ∧ o' < w.heap.size) ∧ allE ps = allE (ps.drop i) ∧ (∀ q ∈ ps.take i, q.may = 0) ∧ Below w0.heap.size w0 w ∧ Fs 38 a [(4, v'), (16, .slice au ps.length cu), (17, .int .i64 (ps.length : Int)), (18, .int .i64 (i : Int))]) ⟨v1, o1, by simpa using hO, hat, by omega, by rw [List.drop_zero], (fun q h => by simp at h), hB, F.sub _ rfl⟩ ?_
  clear hO hat hB
  repeat clear F
  rintro i a w hi ⟨v1, o1, hO, hat, ho1, hct, hpm, hB, F⟩ K' hK'
  have sB := hB.size
  refine wp_rs fun _ K10 => F.vl (x_lss (b := decide (i < ps.length)) (decide_eq_decide.2 (by omega)) rfl rfl) fun a F => ?_
  refine s_end (K10 _ _ ?_)
  refine wp_seq_k fun _ K11 => ?_
  refine wp_iff F rfl (fun hc19 => ?_) (fun hc19 => ?_)
  ·
   obtain ⟨b9, off9, c9, p, hve, hli, hry, hAb, hbl, hrow⟩ := hV.row (i := i) (by omega)
   cases hve
   have hfp := hf p (List.mem_of_getElem? hli)
   have h1y := QD.one hry
   have hat9 := allE_at hli
   have hfs := flat_snoc (f := QD.enc) hli
   have hfl := flat_le (f := QD.enc) hli
   have htk : (ps.take i).length ≤ 16 := by rw [List.length_take]; omega
   have hll := flatQ_len (ps := ps.take i) (fun q hq => ⟨hV.2 q (List.mem_of_mem_take hq), QD.mk (hV.2 q (List.mem_of_mem_take hq)) (hpm q hq)⟩)
   refine wp_skip (K11 _ _ ?_)
   refine wp_seq_k fun _ K12 => ?_
   refine wp_block ?_
   refine wp_rs fun _ K13 => F.vl (x_ixa rfl rfl (m_ixsK i Try.underlying57 el510.size rfl (by omega))) fun a F => F.vl (x_ldA wide502 (hrow _ (hB.block _ hbl)) rfl rfl) fun a F => ?_
   refine s_alloc F (by decide) zero502 fun w4 b6 a eb6 m6 B5 zb6 F => ?_
   have sB5 := B5.size
   have hB := bt hB B5
   have hO := own_below hO B5
   refine s_putW F rfl rfl (size_wide wide502) m6 rfl h1y fun w8 m6 o9 => ?_
   have so9 := o9.size
   have hB := hB.trans (o9.below (by omega))
   have hO := own_only hO o9 (fun e => by have := hat _ e; omega)
   refine s_end (K13 _ _ ?_)
   refine wp_rs fun _ K14 => F.vl (x_ldW wide502 m6 rfl rfl) fun a F => ?_
   refine s_call (R := fun u w' => (∃ vv, u = .tuple #[vv, .int .i64 (mayD p.1 p.2.1 p.2.2.1 p.2.2.2)] ∧ Rd w' vv 1 (encA p.1 p.2.1 p.2.2.1 p.2.2.2).length ((encA p.1 p.2.1 p.2.2.1 p.2.2.2).map encB) ∧ ∀ j, vv.ownBlock = some j → w8.heap.size ≤ j) ∧ Below w8.heap.size w8 w') F [_] E28 rfl (by decide) ((Encode303 p.1 p.2.1 p.2.2.1 p.2.2.2 w8 (QD.bel hry hB) hfp).mono fun e w' ⟨u, h1, h2, h3⟩ => ⟨_, h1, ⟨u, rfl, h2.1, h2.2⟩, h3⟩) ?_
   rintro _ w10 a ⟨⟨uu, rfl, uR, uat⟩, B11⟩ F
   have sB11 := B11.size
   have hB := bt hB B11
   have hO := own_below hO B11
   refine F.mv rfl fun a F => F.vl (x_ext rfl rfl) fun a F => F.vl (x_ext rfl rfl) fun a F => F.sg rfl fun a F => F.sg rfl fun a F => ?_
   refine s_end (K14 _ _ ?_)
   refine wp_seq_k fun _ K15 => ?_
   rcases (show p.may ≠ 0 ∨ p.may = 0 by omega) with hm | hm
   ·
    rw [if_pos hm] at hat9
    rw [hat9] at hct
    have hm9 : mayD p.1 p.2.1 p.2.2.1 p.2.2.2 ≠ 0 := hm
    have hm8 : allE ps ≠ 0 := by rw [hct]; exact hm
    have hr : bunE ps = mayD p.1 p.2.1 p.2.2.1 p.2.2.2 := by unfold bunE; rw [if_neg (by omega), if_pos hm8, hct]; rfl
    have hrb : bunB ps = [] := if_neg (by rw [hr]; exact hm)
    refine wp_rs fun _ K17 => F.mv rfl fun a F => F.vl (neqT (by omega) rfl rfl) fun a F => ?_
    refine s_end (K17 _ _ ?_)
    refine wp_if F rfl ?_
    refine wp_rs fun _ K18 => F.mv rfl fun a F => F.sg rfl fun a F => F.sg rfl fun a F => ?_
    refine s_end (K18 _ _ ?_)
    refine wp_ret (then_ret (inb_ret (then_ret (then_ret (inb_ret (then_ret (res_two F rfl rfl rfl ⟨_, by rw [hr]; try rfl, ⟨by rw [hrb]; exact Rd.nil _ _, fun j h => by cases h⟩, hB⟩)))))))
   ·
    rw [if_neg (by rw [hm]; simp)] at hat9
    have hm9 : mayD p.1 p.2.1 p.2.2.1 p.2.2.2 = 0 := hm
    have hea : encA p.1 p.2.1 p.2.2.1 p.2.2.2 = p.enc := if_pos hm9
    rw [hea] at uR
    have uR9 := uR
    have hql := encQ_len hry (QD.mk hry hm)
    have hpm9 : ∀ q ∈ ps.take (i + 1), q.may = 0 := fun q h => by rw [List.take_add_one, hli] at h; rcases List.mem_append.1 h with h | h; (· exact hpm q h); have h9 : q = p := (by simpa using h); rw [h9]; exact hm
    refine wp_rs fun _ K19 => F.mv rfl fun a F => F.vl (neqF (by omega) rfl rfl) fun a F => ?_
    refine s_end (K19 _ _ ?_)
    refine wp_if F rfl ?_
    refine wp_skip (K15 _ _ ?_)
    refine wp_region_lit ?_
    refine F.mv rfl fun a F => F.mv rfl fun a F => ?_
    have hlY : (dig ps.length ++ (ps.take i).flatMap QD.enc).length + (p.enc).length ≤ 140737488355328 := by simp only [List.length_append]; omega
    refine s_appP (o := o1) (p := (p.enc).length) (ys := (p.enc).map encB) el503 F (by decide) rfl rfl hO (uR9) (oneY _) hat (by omega) (by omega) (by unfold maxLen; omega) (by omega) fun v5 w12 a o5 hOn hatn hon k13 F => ?_
    clear hO hat
    have hat := hatn
    have hO : w12.ownsRow w0.heap.size 5 1 v5 (dig ps.length ++ (ps.take i).flatMap QD.enc ++ (p.enc)).length ((dig ps.length ++ (ps.take i).flatMap QD.enc ++ (p.enc)).map encB) := by rw [List.length_append, List.map_append]; exact hOn
    clear hOn hatn
    have sk13 := k13.size
    have hB := k13.under hB (by omega)
    refine F.sg rfl fun a F => ?_
    refine s_end (K12 _ _ ?_)
    refine wp_region_lit ?_
    refine F.vl (x_addn (i + 1) (by omega) (by omega) rfl rfl) fun a F => F.mv rfl fun a F => ?_
    refine s_end (hK' _ _ (by omega) ⟨v5, o5, by rw [hfs, ← List.append_assoc]; exact hO, hat, by omega, hct.trans hat9, hpm9, hB, F.sub _ rfl⟩)
  ·
   obtain rfl : i = ps.length := by omega
   rw [List.take_of_length_le (Nat.le_refl _)] at hO
   rw [List.drop_of_length_le (Nat.le_refl _)] at hct
   have hm : allE ps = 0 := hct
   have hEA : dig ps.length ++ ps.flatMap QD.enc = encAll ps := rfl
   rw [hEA] at hO
   have h9R := Rd.own hO
   obtain ⟨a9, c9, h9f, _⟩ := h9R.form
   subst h9f
   refine wp_exit (K8 _ _ ?_)
   refine wp_seq_k fun _ K20 => ?_
   rcases (show 8192 < (encAll ps).length ∨ ¬ 8192 < (encAll ps).length by omega) with hbl | hbl
   ·
    have hr : bunE ps = 2 := by unfold bunE; rw [if_neg (by omega), if_neg (by rw [hm]; simp), if_pos hbl]
    have hrb : bunB ps = [] := if_neg (by rw [hr]; decide)
    refine wp_rs fun _ K22 => F.mv rfl fun a F => F.vl (x_len Try.underlying48 rfl) fun a F => F.vl (gtrT (by omega) rfl rfl) fun a F => ?_
    refine s_end (K22 _ _ ?_)
    refine wp_if F rfl ?_
    refine wp_rs fun _ K23 => F.sg rfl fun a F => F.sg rfl fun a F => ?_
    refine s_end (K23 _ _ ?_)
    refine wp_ret (then_ret (res_two F rfl rfl rfl ⟨_, by rw [hr]; try rfl, ⟨by rw [hrb]; exact Rd.nil _ _, fun j h => by cases h⟩, hB⟩))
   ·
    have hr : bunE ps = 0 := by unfold bunE; rw [if_neg (by omega), if_neg (by rw [hm]; simp), if_neg hbl]
    have hrb : bunB ps = encAll ps := if_pos hr
    refine wp_rs fun _ K24 => F.mv rfl fun a F => F.vl (x_len Try.underlying48 rfl) fun a F => F.vl (gtrF (by omega) rfl rfl) fun a F => ?_
    refine s_end (K24 _ _ ?_)
    refine wp_if F rfl ?_
    refine wp_skip (K20 _ _ ?_)
    refine wp_rs fun _ K25 => F.mv rfl fun a F => F.sg rfl fun a F => F.sg rfl fun a F => ?_
    refine s_end (K25 _ _ ?_)
    refine wp_ret (res_two F rfl rfl rfl ⟨_, by rw [hr], ⟨by rw [hrb]; exact h9R, fun j h => by have := hat j h; omega⟩, hB⟩)
end Go.Proofs.Ytmkjhdiepkpdoaa

namespace Go.Proofs.Ytmkjhdiepkpdoaa
open Go.RowKit Go.Shelf
set_option linter.unusedVariables false
set_option linter.unusedSimpArgs false
/-- What formOf tells. -/
def FF (w0 : World) (x : C3) (l : Lv) (w' : World) (c : Int) (vk : Value) (ks : List Int) : Prop := Rd w' vk 1 ks.length (ints ks) ∧ (¬ sndL l → c = 0 ∧ ks = []) ∧ ∀ s, RS w0 s x → s.good → c = nfC s ∧ ks = nfK s
/-- Two come to one form. -/
def eqF (a b : SL) : Prop := nfC a = nfC b ∧ nfK a = nfK b
instance (a b : SL) : Decidable (eqF a b) := inferInstanceAs (Decidable (_ ∧ _))
/-- What Equal and Leq tell. -/
def TB (w0 : World) (x y : C3) (la lb : Lv) (P : SL → SL → Prop) [∀ s t, Decidable (P s t)] (b : Bool) : Prop := (¬ (sndL la ∧ sndL lb) → b = false) ∧ ∀ s t, RS w0 s x → RS w0 t y → s.good → t.good → b = decide (P s t)
def leS (s t : SL) : Prop := eqF (.mx s t) t
instance (a b : SL) : Decidable (leS a b) := inferInstanceAs (Decidable (eqF _ _))
end Go.Proofs.Ytmkjhdiepkpdoaa

namespace Go.Proofs.Ytmkjhdiepkpdoaa
open Go.RowKit Go.Shelf
set_option linter.unusedVariables false
set_option linter.unusedSimpArgs false
def eqO : Option SL → Option SL → Prop
 | some s, some t => eqF s t
 | _, _ => False
def eqOs (os ps : List (Option SL)) : Prop := os.length = ps.length ∧ ∀ (i : Nat) o p, os[i]? = some o → ps[i]? = some p → eqO o p
def sameP : PT → PT → Prop
 | .var n, .var m => n = m
 | .sort o, .sort p => eqO o p
 | .cst s os, .cst t ps => s = t ∧ eqOs os ps
 | .odd k, .odd j => k = j
 | .two k a b, .two j c d => k = j ∧ sameP a c ∧ sameP b d
 | .lt a b c, .lt d e f => sameP a d ∧ sameP b e ∧ sameP c f
 | _, _ => False
def PT.fit : PT → Prop
 | .cst _ os => os.length ≤ 9223372036854775807
 | .two _ a b => a.fit ∧ b.fit
 | .lt a b c => a.fit ∧ b.fit ∧ c.fit
 | _ => True
theorem PT.fit_kid {c k : CT} {i : Nat} (h : c.ess.fit) (hk : c.kids[i]? = some k) : k.ess.fit := by
 cases c with
 | two _ a b _ =>
  rcases i with _ | _ | i
  ·
   simp [CT.kids] at hk; subst hk; exact h.1
  ·
   simp [CT.kids] at hk; subst hk; exact h.2
  ·
   simp [CT.kids] at hk
 | lt a b c _ =>
  rcases i with _ | _ | _ | i
  ·
   simp [CT.kids] at hk; subst hk; exact h.1
  ·
   simp [CT.kids] at hk; subst hk; exact h.2.1
  ·
   simp [CT.kids] at hk; subst hk; exact h.2.2
  ·
   simp [CT.kids] at hk
 | _ => simp [CT.kids] at hk
end Go.Proofs.Ytmkjhdiepkpdoaa

namespace Go.Proofs.Ytmkjhdiepkpdoaa
open Go.RowKit Go.Shelf
set_option linter.unusedVariables false
set_option linter.unusedSimpArgs false
section
variable {P : Program} {n : Nat} {l : List (Nat × Value)} {w : World}
theorem x_remu {t t' : TypeId} {x y : Operand} {k : IntKind} {p q : Int} (r : Int) (h0 : q ≠ 0) (h1 : p.tmod q = r) (hx : ov l x = some (.int k p)) (hy : ov l y = some (.int k q)) : Runs P n l w (.binOp .rem t x y t') (.int k r) :=
 x_bin hx hy (b_int fun W => by simp [binOp, Op.intDiv, h0, h1])
end
theorem u64_rem (z q : Int) (hq : 0 < q) (hq2 : q ≤ 1000) : 0 ≤ (z % 18446744073709551616).tmod q ∧ (z % 18446744073709551616).tmod q < q := by
 have h1 : 0 ≤ z % 18446744073709551616 := Int.emod_nonneg _ (by decide)
 rw [Int.tmod_eq_emod_of_nonneg h1]
 exact ⟨Int.emod_nonneg _ (by omega), Int.emod_lt_of_pos _ hq⟩
end Go.Proofs.Ytmkjhdiepkpdoaa

namespace Go.Proofs.Ytmkjhdiepkpdoaa
set_option maxRecDepth 100000
set_option maxHeartbeats 1600000
open Go.RowKit Go.Shelf
set_option linter.unusedVariables false
set_option linter.unusedSimpArgs false
def szs (ks : List CT) : Nat := (ks.map CT.size).sum
theorem szs_at {ks : List CT} {k : CT} {i : Nat} (h : ks[i]? = some k) : szs (ks.take (i + 1)) = szs (ks.take i) + k.size ∧ szs (ks.take (i + 1)) ≤ szs ks := by
 have e := split_at h
 have e2 : ks.take (i + 1) = ks.take i ++ [k] := by rw [List.take_add_one, h]; rfl
 refine ⟨by rw [e2]; simp [szs], ?_⟩
 rw [e2]
 conv => rhs; rw [e]
 simp [szs]
theorem CT.size_szs (c : CT) : c.size = szs c.kids + 1 := by cases c <;> simp [CT.size, CT.kids, szs] <;> omega
theorem CT.dep_top (c : CT) (M : Int) (hM : 0 ≤ M) (h : ∀ k ∈ c.kids, (k.dep : Int) ≤ M) : (c.dep : Int) ≤ M + 1 := by
 cases c with
 | two k a b m =>
  have h1 := h a (by simp [CT.kids])
  have h2 := h b (by simp [CT.kids])
  simp only [CT.dep]
  omega
 | lt a b c m =>
  have h1 := h a (by simp [CT.kids])
  have h2 := h b (by simp [CT.kids])
  have h3 := h c (by simp [CT.kids])
  simp only [CT.dep]
  omega
 | _ => simp only [CT.dep]; omega
/-- What count tells: that it goes, and how many there are then; that it doesn't. -/
def cntR (c : CT) (d : Int) (n : Nat) (b : Bool) (m : Nat) : Prop := m ≤ 20001 ∧ (b = true → m = n + c.size ∧ d + c.dep ≤ 2001 ∧ (m ≤ 20000 ∨ c.size = 1)) ∧ (b = false → ¬ (n + c.size ≤ 20000 ∧ d + c.dep ≤ 2001))
theorem count55 (w0 : World) (g : Nat) (hg : w0.heap.size ≤ g) : ∀ (N : Nat) (c : CT) (x : C8), c.size < N → RC w0 (fun k => k < w0.heap.size) c x → ∀ (d : Int) (n : Nat) (w1 : World), 0 ≤ d → d ≤ 2001 → n ≤ 20000 → Below w0.heap.size w0 w1 → Blk w1 g 3 [.int .i64 (n : Int)] →
    Calls Try.prog 39 #[tv x, .int .i64 d, .pointer (some ⟨g, 0, none⟩)] w1 fun e w' => ∃ u, e = .returned u ∧ (∃ b m, u = .bool b ∧ Blk w' g 3 [.int .i64 ((m : Nat) : Int)] ∧ cntR c d n b m) ∧ Ktw g g w1 w' := by
  intro N
  induction N with
  | zero => intro s x h; omega
  | succ N ih =>
  intro c x hN hx d n w1 hd0 hd1 hn hB mg
  have hK := Ktw.refl g g w1
  have sB := hB.size
  have sK := hK.size
  have hgl := mg.lt
  have hrg := arT_rng c.kd
  have hss := c.size_szs
  have hdp := c.dep_pos
  have hk9 := CT.kids_arT hx
  have h3 := c.kids_le
  have hleaf := leaf70 c x _ w0 w1 hx
  obtain ⟨av, nv, cv, hts, hle9, hlen9, hcap, hkid⟩ := hx.kids
  obtain ⟨xk, xn, xs, xl, xls, xts⟩ := x
  simp only at hts
  subst hts
  have hkd : xk = c.kd := hx.kd
  have hone := hx.one
  refine calls_fs 46 [(0, tv ⟨xk, xn, xs, xl, xls, .slice av nv cv⟩), (1, .int .i64 d), (2, .pointer (some ⟨g, 0, none⟩))] Try.func39 rfl rfl rfl rfl rfl fun a F => ?_
  refine wp_rs fun _ K1 => ?_
  refine s_box ([.int .i64 xk, .int .i64 xn, .string xs, .int .i64 xl.1, .int .i64 xl.2.1, xl.2.2, xls, .slice av nv cv]) F (by decide) rfl rfl fun w2 b3 a eb3 m3 B3 zb3 F => ?_
  have sB3 := B3.size
  have hB := bt hB B3
  have hK := hK.below B3
  have mg := mg.old B3
  refine F.sg rfl fun a F => ?_
  refine s_end (K1 _ _ ?_)
  refine wp_rs fun _ K2 => F.mv rfl fun a F => F.vl (x_nil rfl) fun a F => F.ld mg flat3 rfl rfl fun a F => F.vl (x_addn (n + 1) (by omega) (by omega) rfl rfl) fun a F => F.vl (x_nil rfl) fun a F => ?_
  refine s_put F rfl rfl flat3 mg (by first | (simp; done) | (simp [tc, lc]; done) | decide) rfl fun w4 mg o5 => ?_
  have so5 := o5.size
  have hB := hB.trans (o5.below (by omega))
  have hK := hK.only o5 (by omega)
  have m3 := m3.only o5 (by omega)
  refine s_end (K2 _ _ ?_)
  refine wp_seq_k fun _ K3 => ?_
  rcases (show 2000 < d ∨ ¬ 2000 < d by omega) with hz | hz
  · skip
    refine wp_rs fun _ K5 => F.mv rfl fun a F => F.vl (gtrT (by omega) rfl rfl) fun a F => ?_
    refine s_end (K5 _ _ ?_)
    refine wp_if F rfl ?_
    refine wp_rs fun _ K6 => F.sg rfl fun a F => ?_
    refine s_end (K6 _ _ ?_)
    refine wp_ret (then_ret (res_slot F rfl rfl ⟨_, rfl, ⟨false, n + 1, rfl, mg, ⟨by omega, (fun h => absurd h (by decide)), fun _ h => by omega⟩⟩, hK⟩))
  · skip
    refine wp_rs fun _ K7 => F.mv rfl fun a F => F.vl (gtrF (by omega) rfl rfl) fun a F => ?_
    refine s_end (K7 _ _ ?_)
    refine wp_if F rfl ?_
    refine wp_skip (K3 _ _ ?_)
    refine wp_seq_k fun _ K8 => ?_
    rcases (show ((arT c.kd < 0 ∨ (c.len : Int) < arT c.kd) ∧ c.kids.length = 0) ∨ (¬ (arT c.kd < 0 ∨ (c.len : Int) < arT c.kd) ∧ (c.kids.length : Int) = arT c.kd) by omega) with hy | hy
    · skip
      refine wp_rs fun _ K10 => F.vl (x_ldW wide27 m3 rfl rfl) fun a F => ?_
      refine s_callB [_] F E54 rfl (by decide) ((leaf70 c ⟨xk, xn, xs, xl, xls, .slice av nv cv⟩ _ w0 w4 hx).mono fun e w' h => ⟨by rw [h.1, decide_eq_true hy.1], h.2⟩) fun w6 a B7 F => ?_
      have sB7 := B7.size
      have hK := hK.below B7
      have mg := mg.old B7
      refine s_end (K10 _ _ ?_)
      refine wp_if F rfl ?_
      refine wp_rs fun _ K11 => F.sg rfl fun a F => ?_
      refine s_end (K11 _ _ ?_)
      have hk0 : c.kids = [] := List.eq_nil_of_length_eq_zero hy.2
      have hd9 := c.dep_top 0 (by omega) (by rw [hk0]; simp)
      rw [hk0] at hss
      have hs1 : c.size = 1 := by simpa [szs] using hss
      refine wp_ret (then_ret (res_slot F rfl rfl ⟨_, rfl, ⟨true, n + 1, rfl, mg, ⟨by omega, fun _ => ⟨by omega, by omega, .inr hs1⟩, fun h => absurd h (by decide)⟩⟩, hK⟩))
    · skip
      refine wp_rs fun _ K12 => F.vl (x_ldW wide27 m3 rfl rfl) fun a F => ?_
      refine s_callB [_] F E54 rfl (by decide) ((leaf70 c ⟨xk, xn, xs, xl, xls, .slice av nv cv⟩ _ w0 w4 hx).mono fun e w' h => ⟨by rw [h.1, decide_eq_false hy.1], h.2⟩) fun w8 a B9 F => ?_
      have sB9 := B9.size
      have hB := bt hB B9
      have hK := hK.below B9
      have mg := mg.old B9
      have m3 := m3.old B9
      refine s_end (K12 _ _ ?_)
      refine wp_if F rfl ?_
      refine wp_skip (K8 _ _ ?_)
      refine wp_seq_k fun _ K13 => ?_
      refine dk2_seq (w8.heap.size) (w8.heap.size) (ops := regOps Try.f39 6) (N := 8) (by kernel_rfl) wide_orders (by kernel_rfl) fun w10 hw10 B11 hS K14 hK14 => ?_
      have zw10 : w10.heap.size = w8.heap.size := by rw [hw10]
      have sB11 := B11.size
      have hB := bt hB B11
      have hK := hK.below B11
      have mg := mg.old B11
      have m3 := m3.old B11
      have mg_d := mg
      have m3_d := m3
      have hB_d := hB
      have hK_d := hK
      refine F.dv 0 18 (.fieldAddr 27 (.tmp 3) 5) hS (fun W hW => x_fa0 fa27_5 rfl) fun a F => F.dv 1 19 (.load 25 (.tmp 18)) hS (fun W hW => x_load rfl (m_load flat25 ((m3_d.k2 hW (by omega)).cell (j := 7) rfl))) fun a F => F.dv 2 20 (.fieldAddr 27 (.tmp 3) 0) hS (fun W hW => x_fa0 fa27_0 rfl) fun a F => F.dv 3 21 (.load 3 (.tmp 20)) hS (fun W hW => x_load rfl (m_load flat3 ((m3_d.k2 hW (by omega)).cell (j := 0) rfl))) fun a F => F.dv 7 25 (.move (.const (.int .i64 0))) hS (fun W hW => x_move rfl) fun a F => ?_
      refine d1 4 (some 22) (.call (.mk (.value (.func 82)) #[(.tmp 21)] #[3])) fun ty pos af => ?_
      refine s_callS [_] F E82 rfl (by decide) ((kids54 xk w10).mono fun e w' h => ⟨(by rw [h.1, hkd, ← hy.2] : e = .returned (.int .i64 (c.kids.length : Int))), h.2⟩) fun a F => ?_
      refine s_end ⟨hS, ?_⟩
      refine F.dv 5 23 (.slice 25 (.tmp 19) none (some (.tmp 22)) none) hS (fun W hW => x_slice (vlo := none) (vhi := some _) (vmx := none) rfl rfl rfl rfl (m_sliceUK c.kids.length Try.underlying25 el25.size (by omega) (by omega))) fun a F => F.dv 6 24 (.call (.mk (.builtin .len) #[(.tmp 23)] #[25])) hS (fun W hW => x_len Try.underlying25 rfl) fun a F => ?_
      refine d_end (by kernel_rfl) (hK14 _ _ ?_)
      refine wp_block ?_
      refine wp_up c.kids.length (fun i a w => ∃ n2 : Nat, n2 = n + 1 + szs (c.kids.take i) ∧ (∀ k ∈ c.kids.take i, d + 1 + (k.dep : Int) ≤ 2001) ∧ n2 ≤ 20001 ∧ Blk w g 3 [.int .i64 (n2 : Int)] ∧ Below w0.heap.size w0 w ∧ Ktw g g w1 w ∧ Fs 46 a [(1, .int .i64 d), (2, .pointer (some ⟨g, 0, none⟩)), (23, .slice av c.kids.length cv), (24, .int .i64 (c.kids.length : Int)), (25, .int .i64 (i : Int))]) ⟨n + 1, by simp [szs], (fun k h => by simp at h), by omega, mg, hB, hK, F.sub _ rfl⟩ ?_
      repeat clear F
      clear hB hK mg
      rintro i a w hi ⟨n2, hn2, hdk, hn3, mg, hB, hK, F⟩ K' hK'
      have sB := hB.size
      have sK := hK.size
      have hgl := mg.lt
      refine wp_rs fun _ K15 => F.vl (x_lss (b := decide (i < c.kids.length)) (decide_eq_decide.2 (by omega)) rfl rfl) fun a F => ?_
      refine s_end (K15 _ _ ?_)
      refine wp_seq_k fun _ K16 => ?_
      refine wp_iff F rfl (fun hc26 => ?_) (fun hc26 => ?_)
      · obtain ⟨b9, off9, c9, y, kd, hve, hyk, hry, hAb, hbl, hrow⟩ := hkid.row (i := i) (by omega)
        cases hve
        have hks := CT.kid_size hyk
        have hsz := szs_at hyk
        have hdp2 := kd.dep_pos
        have hsp := kd.size_pos
        refine wp_skip (K16 _ _ ?_)
        refine wp_seq_k fun _ K17 => ?_
        refine wp_block ?_
        refine wp_rs fun _ K18 => F.vl (x_ixa rfl rfl (m_ixsK i Try.underlying25 el25.size rfl (by omega))) fun a F => F.vl (x_ldA wide27 (hrow _ (hB.block _ hbl)) rfl rfl) fun a F => ?_
        refine s_alloc F (by decide) zero27 fun w12 b8 a eb8 m8 B13 zb8 F => ?_
        have sB13 := B13.size
        have hB := bt hB B13
        have hK := hK.below B13
        have mg := mg.old B13
        refine s_putW F rfl rfl (size_wide wide27) m8 rfl hry.one fun w16 m8 o17 => ?_
        have so17 := o17.size
        have hB := hB.trans (o17.below (by omega))
        have hK := hK.only o17 (by omega)
        have mg := mg.only o17 (by omega)
        refine s_end (K18 _ _ ?_)
        rcases (show 20000 < (n2 : Int) ∨ ¬ 20000 < (n2 : Int) by omega) with hw | hw
        · skip
          refine wp_rs fun _ K20 => F.mv rfl fun a F => F.vl (x_nil rfl) fun a F => F.ld mg flat3 rfl rfl fun a F => F.vl (gtrT (by omega) rfl rfl) fun a F => F.mv rfl fun a F => s_grdn 33 F rfl rfl (by decide) fun a F => s_grdn 33 F rfl rfl (by decide) fun a F => s_grdn 33 F rfl rfl (by decide) fun a F => s_grdn 33 F rfl rfl (by decide) fun a F => s_grdn 33 F rfl rfl (by decide) fun a F => s_grdn 33 F rfl rfl (by decide) fun a F => F.vl (x_pick (b := true) rfl rfl) fun a F => ?_
          refine s_end (K20 _ _ ?_)
          refine wp_if F rfl ?_
          refine wp_rs fun _ K21 => F.sg rfl fun a F => ?_
          refine s_end (K21 _ _ ?_)
          refine wp_ret (inb_ret (then_ret (then_ret (inb_ret (then_ret (res_slot F rfl rfl ⟨_, rfl, ⟨false, n2, rfl, mg, ⟨hn3, (fun h => absurd h (by decide)), fun _ h => by omega⟩⟩, hK⟩))))))
        · skip
          refine wp_rs fun _ K22 => F.mv rfl fun a F => F.vl (x_nil rfl) fun a F => F.ld mg flat3 rfl rfl fun a F => F.vl (gtrF (by omega) rfl rfl) fun a F => F.mv rfl fun a F => s_grd 33 F rfl rfl rfl <| F.vl (x_ldW wide27 m8 rfl rfl) fun a F => s_grd 33 F rfl rfl rfl <| F.mv rfl fun a F => s_grd 33 F rfl rfl rfl <| F.vl (x_add (by omega) (by omega) rfl rfl) fun a F => s_grd 33 F rfl rfl rfl <| F.mv rfl fun a F => s_grd 33 F rfl rfl rfl ?_
          refine s_call (R := fun u w' => (∃ b m, u = .bool b ∧ Blk w' g 3 [.int .i64 ((m : Nat) : Int)] ∧ cntR kd (d + 1) n2 b m) ∧ Ktw g g w16 w') F [_, _, _] E39 rfl (by decide) (ih kd y (by omega) hry (d + 1) n2 w16 (by omega) (by omega) (by omega) hB mg) ?_
          rintro _ w18 a ⟨⟨b38, q8, rfl, mg, hc8⟩, k19⟩ F
          have sk19 := k19.size
          have hB := k19.under hB (by omega)
          have hK := hK.trans k19 (by omega)
          refine s_grd 33 F rfl rfl rfl <| F.vl (x_not rfl) fun a F => F.vl (x_pick (b := false) rfl rfl) fun a F => ?_
          refine s_end (K22 _ _ ?_)
          refine wp_ifb F rfl (fun hc40 => ?_) (fun hc40 => ?_)
          · obtain rfl : b38 = false := by simpa using hc40
            refine wp_rs fun _ K23 => F.sg rfl fun a F => ?_
            refine s_end (K23 _ _ ?_)
            refine wp_ret (inb_ret (then_ret (then_ret (inb_ret (then_ret (res_slot F rfl rfl ⟨_, rfl, ⟨false, q8, rfl, mg, ⟨hc8.1, (fun h => absurd h (by decide)), fun _ h => hc8.2.2 rfl (by omega)⟩⟩, hK⟩))))))
          · obtain rfl : b38 = true := by simpa using hc40
            have hc9 := hc8.2.1 rfl
            have htk := take_snoc hyk
            refine wp_skip (K17 _ _ ?_)
            refine wp_region_lit ?_
            refine F.vl (x_addn (i + 1) (by omega) (by omega) rfl rfl) fun a F => F.mv rfl fun a F => ?_
            refine s_end (hK' _ _ (by omega) ⟨q8, by omega, (fun k hk => by rw [htk] at hk; rcases List.mem_append.1 hk with hk | hk; (· exact hdk k hk); (· rw [List.mem_singleton.1 hk]; omega)), hc8.1, mg, hB, hK, F.sub _ rfl⟩)
      · obtain rfl : i = c.kids.length := by omega
        rw [List.take_length] at hn2 hdk
        have hd9 := c.dep_top (2000 - d) (by omega) (fun k hk => by have := hdk k hk; omega)
        refine wp_exit (K13 _ _ ?_)
        refine wp_rs fun _ K24 => F.mv rfl fun a F => F.vl (x_nil rfl) fun a F => F.ld mg flat3 rfl rfl fun a F => F.vl (x_leq rfl rfl rfl) fun a F => F.sg rfl fun a F => ?_
        refine s_end (K24 _ _ ?_)
        refine wp_ret (res_slot F rfl rfl ⟨_, rfl, ⟨_, n2, rfl, mg, ⟨hn3, (fun h => ⟨by omega, by omega, .inl (by have := of_decide_eq_true h; omega)⟩), fun h h2 => by have := of_decide_eq_false h; omega⟩⟩, hK⟩)
theorem TooGreat14 (c : CT) (x : C8) (w0 : World) (hx : RC w0 (fun k => k < w0.heap.size) c x) : Calls Try.prog 8 #[tv x] w0 fun e w' => e = .returned (.bool (decide (¬ c.ok))) ∧ Below w0.heap.size w0 w' := by
 have hB := Below.refl w0.heap.size w0
 have sB := hB.size
 refine calls_fs 7 [(0, tv x)] Try.func8 rfl rfl rfl rfl rfl fun a F => ?_
 refine wp_rs fun _ K1 => ?_
 refine s_box (tc x) F (by decide) rfl rfl fun w2 b1 a eb1 m1 B3 zb1 F => ?_
 have sB3 := B3.size
 have hB := bt hB B3
 refine F.sg rfl fun a F => ?_
 refine s_end (K1 _ _ ?_)
 refine wp_rs fun _ K2 => ?_
 refine s_alloc1 F (by decide) zero3 rfl fun w4 b3 a eb3 m3 B5 zb3 F => ?_
 have sB5 := B5.size
 have hB := bt hB B5
 have m1 := m1.old B5
 refine s_put F rfl rfl flat3 m3 (by first | (simp; done) | (simp [tc, lc]; done) | decide) rfl fun w6 m3 o7 => ?_
 have so7 := o7.size
 have hB := hB.trans (o7.below (by omega))
 have m1 := m1.only o7 (by omega)
 refine s_end (K2 _ _ ?_)
 refine wp_rs fun _ K3 => F.vl (x_ldW wide27 m1 rfl rfl) fun a F => ?_
 refine s_call (R := fun u w' => (∃ b m, u = .bool b ∧ Blk w' b3 3 [.int .i64 ((m : Nat) : Int)] ∧ cntR c 1 0 b m) ∧ Ktw b3 b3 w6 w') F [_, _, _] E39 rfl (by decide) (count55 w0 b3 (by omega) (c.size + 1) c x (by omega) hx 1 0 w6 (by decide) (by decide) (by decide) hB m3) ?_
 rintro _ w8 a ⟨⟨b8, m8, rfl, m3, hc8⟩, k9⟩ F
 have sk9 := k9.size
 have hB := k9.under hB (by omega)
 have hbo : b8 = decide c.ok := by
  have hsp := c.size_pos
  cases b8
  ·
   exact (decide_eq_false fun h => hc8.2.2 rfl ⟨by have := h.1; omega, by have := h.2; omega⟩).symm
  ·
   have h := hc8.2.1 rfl
   exact (decide_eq_true (show c.ok from ⟨by omega, by omega⟩)).symm
 refine F.vl (x_not rfl) fun a F => F.sg rfl fun a F => ?_
 refine s_end (K3 _ _ ?_)
 refine wp_ret (res_slot F rfl rfl ⟨by rw [hbo]; simp, hB⟩)
end Go.Proofs.Ytmkjhdiepkpdoaa

namespace Go.Proofs.Ytmkjhdiepkpdoaa
set_option maxRecDepth 100000
set_option maxHeartbeats 1600000
open Go.RowKit Go.Shelf
set_option linter.unusedVariables false
set_option linter.unusedSimpArgs false
def dps (ks : List CT) : Nat := ks.foldl (fun m k => max m k.dep) 0
theorem dps_at {ks : List CT} {k : CT} {i : Nat} (h : ks[i]? = some k) : dps (ks.take (i + 1)) = max (dps (ks.take i)) k.dep := by
 have e2 : ks.take (i + 1) = ks.take i ++ [k] := by rw [List.take_add_one, h]; rfl
 rw [e2]
 simp [dps]
theorem CT.dep_dps (c : CT) : c.dep = dps c.kids + 1 := by cases c <;> simp [CT.dep, CT.kids, dps] <;> omega
theorem x_imaxT {P : Program} {n : Nat} {l : List (Nat × Value)} {w : World} {ts : Array TypeId} {x y : Operand} {p q : Nat} (hx : ov l x = some (.int .i64 (p : Int))) (hy : ov l y = some (.int .i64 (q : Int))) : Runs P n l w (.call { callee := .builtin .max, args := #[x, y], argTypes := ts }) (.int .i64 ((max p q : Nat) : Int)) := by
 have := x_imax (P := P) (n := n) (w := w) (ts := ts) hx hy
 rwa [show max (p : Int) q = ((max p q : Nat) : Int) by omega] at this
theorem depth75 : ∀ (N : Nat) (c : CT) (x : C8) (w0 : World), c.size < N → c.size ≤ 1000000 → RC w0 (fun k => k < w0.heap.size) c x → Calls Try.prog 75 #[tv x] w0 fun e w' => e = .returned (.int .i64 (c.dep : Int)) ∧ Below w0.heap.size w0 w' := by
 intro N
 induction N with
 | zero => intro s x w0 h; omega
 | succ N ih =>
 intro c x w0 hN hN2 hx
 have hrg := arT_rng c.kd
 have hdd := c.dep_dps
 have hk9 := CT.kids_arT hx
 have h3 := c.kids_le
 have hdl := c.dep_le
 obtain ⟨av, nv, cv, hts, hle9, hlen9, hcap, hkid⟩ := hx.kids
 obtain ⟨xk, xn, xs, xl, xls, xts⟩ := x
 simp only at hts
 subst hts
 have hkd : xk = c.kd := hx.kd
 have hone := hx.one
 have hB := Below.refl w0.heap.size w0
 have sB := hB.size
 refine calls_fs 27 [(0, tv ⟨xk, xn, xs, xl, xls, .slice av nv cv⟩)] Try.func75 rfl rfl rfl rfl rfl fun a F => ?_
 refine wp_rs fun _ K1 => ?_
 refine s_box ([.int .i64 xk, .int .i64 xn, .string xs, .int .i64 xl.1, .int .i64 xl.2.1, xl.2.2, xls, .slice av nv cv]) F (by decide) rfl rfl fun w2 b1 a eb1 m1 B3 zb1 F => ?_
 have sB3 := B3.size
 have hB := bt hB B3
 refine F.sg rfl fun a F => ?_
 refine s_end (K1 _ _ ?_)
 refine wp_rs fun _ K2 => F.sg rfl fun a F => ?_
 refine s_end (K2 _ _ ?_)
 refine wp_seq_k fun _ K3 => ?_
 rcases (show ((arT c.kd < 0 ∨ (c.len : Int) < arT c.kd) ∧ c.kids.length = 0) ∨ (¬ (arT c.kd < 0 ∨ (c.len : Int) < arT c.kd) ∧ (c.kids.length : Int) = arT c.kd) by omega) with hy | hy
 ·
  skip
  refine wp_rs fun _ K5 => F.vl (x_ldW wide27 m1 rfl rfl) fun a F => ?_
  refine s_callB [_] F E54 rfl (by decide) ((leaf70 c ⟨xk, xn, xs, xl, xls, .slice av nv cv⟩ _ w0 w2 hx).mono fun e w' h => ⟨by rw [h.1, decide_eq_true hy.1], h.2⟩) fun w4 a B5 F => ?_
  have sB5 := B5.size
  have hB := bt hB B5
  refine F.vl (x_not rfl) fun a F => ?_
  refine s_end (K5 _ _ ?_)
  refine wp_if F rfl ?_
  refine wp_skip (K3 _ _ ?_)
  refine wp_rs fun _ K6 => F.mv rfl fun a F => F.vl (x_addn (0 + 1) rfl (by decide) rfl rfl) fun a F => F.sg rfl fun a F => ?_
  refine s_end (K6 _ _ ?_)
  have hk0 : c.kids = [] := List.eq_nil_of_length_eq_zero hy.2
  rw [hk0] at hdd
  refine wp_ret (res_slot F rfl rfl ⟨by rw [hdd]; rfl, hB⟩)
 ·
  skip
  refine wp_rs fun _ K7 => F.vl (x_ldW wide27 m1 rfl rfl) fun a F => ?_
  refine s_callB [_] F E54 rfl (by decide) ((leaf70 c ⟨xk, xn, xs, xl, xls, .slice av nv cv⟩ _ w0 w2 hx).mono fun e w' h => ⟨by rw [h.1, decide_eq_false hy.1], h.2⟩) fun w6 a B7 F => ?_
  have sB7 := B7.size
  have hB := bt hB B7
  have m1 := m1.old B7
  refine F.vl (x_not rfl) fun a F => ?_
  refine s_end (K7 _ _ ?_)
  refine wp_if F rfl ?_
  refine dk2_seq (w6.heap.size) (w6.heap.size) (ops := regOps Try.f75 3) (N := 8) (by kernel_rfl) wide_orders (by kernel_rfl) fun w8 hw8 B9 hS K8 hK8 => ?_
  have zw8 : w8.heap.size = w6.heap.size := by rw [hw8]
  have sB9 := B9.size
  have hB := bt hB B9
  have m1 := m1.old B9
  have m1_d := m1
  have hB_d := hB
  refine F.dv 0 9 (.fieldAddr 27 (.tmp 1) 5) hS (fun W hW => x_fa0 fa27_5 rfl) fun a F => F.dv 1 10 (.load 25 (.tmp 9)) hS (fun W hW => x_load rfl (m_load flat25 ((m1_d.k2 hW (by omega)).cell (j := 7) rfl))) fun a F => F.dv 2 11 (.fieldAddr 27 (.tmp 1) 0) hS (fun W hW => x_fa0 fa27_0 rfl) fun a F => F.dv 3 12 (.load 3 (.tmp 11)) hS (fun W hW => x_load rfl (m_load flat3 ((m1_d.k2 hW (by omega)).cell (j := 0) rfl))) fun a F => F.dv 7 16 (.move (.const (.int .i64 0))) hS (fun W hW => x_move rfl) fun a F => ?_
  refine d1 4 (some 13) (.call (.mk (.value (.func 82)) #[(.tmp 12)] #[3])) fun ty pos af => ?_
  refine s_callS [_] F E82 rfl (by decide) ((kids54 xk w8).mono fun e w' h => ⟨(by rw [h.1, hkd, ← hy.2] : e = .returned (.int .i64 (c.kids.length : Int))), h.2⟩) fun a F => ?_
  refine s_end ⟨hS, ?_⟩
  refine F.dv 5 14 (.slice 25 (.tmp 10) none (some (.tmp 13)) none) hS (fun W hW => x_slice (vlo := none) (vhi := some _) (vmx := none) rfl rfl rfl rfl (m_sliceUK c.kids.length Try.underlying25 el25.size (by omega) (by omega))) fun a F => F.dv 6 15 (.call (.mk (.builtin .len) #[(.tmp 14)] #[25])) hS (fun W hW => x_len Try.underlying25 rfl) fun a F => ?_
  refine d_end (by kernel_rfl) (hK8 _ _ ?_)
  refine wp_block ?_
  refine wp_up c.kids.length (fun i a w => ∃ m : Nat, m = dps (c.kids.take i) ∧ m ≤ 1000000 ∧ Below w0.heap.size w0 w ∧ Fs 27 a [(3, .int .i64 (m : Int)), (14, .slice av c.kids.length cv), (15, .int .i64 (c.kids.length : Int)), (16, .int .i64 (i : Int))]) ⟨0, by simp [dps], by omega, hB, F.sub _ rfl⟩ ?_
  repeat clear F
  clear hB
  rintro i a w hi ⟨m, hm, hm2, hB, F⟩ K' hK'
  have sB := hB.size
  refine wp_rs fun _ K9 => F.vl (x_lss (b := decide (i < c.kids.length)) (decide_eq_decide.2 (by omega)) rfl rfl) fun a F => ?_
  refine s_end (K9 _ _ ?_)
  refine wp_seq_k fun _ K10 => ?_
  refine wp_iff F rfl (fun hc17 => ?_) (fun hc17 => ?_)
  ·
   obtain ⟨b9, off9, c9, y, kd, hve, hyk, hry, hAb, hbl, hrow⟩ := hkid.row (i := i) (by omega)
   cases hve
   have hks := CT.kid_size hyk
   have hdt := dps_at hyk
   have hdk := kd.dep_le
   refine wp_skip (K10 _ _ ?_)
   refine wp_seq_k fun _ K11 => ?_
   refine wp_block ?_
   refine wp_rs fun _ K12 => F.vl (x_ixa rfl rfl (m_ixsK i Try.underlying25 el25.size rfl (by omega))) fun a F => F.vl (x_ldA wide27 (hrow _ (hB.block _ hbl)) rfl rfl) fun a F => ?_
   refine s_alloc F (by decide) zero27 fun w10 b5 a eb5 m5 B11 zb5 F => ?_
   have sB11 := B11.size
   have hB := bt hB B11
   refine s_putW F rfl rfl (size_wide wide27) m5 rfl hry.one fun w14 m5 o15 => ?_
   have so15 := o15.size
   have hB := hB.trans (o15.below (by omega))
   refine s_end (K12 _ _ ?_)
   refine wp_region_lit ?_
   refine F.mv rfl fun a F => F.vl (x_ldW wide27 m5 rfl rfl) fun a F => ?_
   refine s_callB [_] F E75 rfl (by decide) (ih kd y w14 (by omega) (by omega) (hry.bel hB)) fun w16 a B17 F => ?_
   have sB17 := B17.size
   have hB := bt hB B17
   refine F.vl (x_imaxT rfl rfl) fun a F => F.sg rfl fun a F => ?_
   refine s_end (K11 _ _ ?_)
   refine wp_region_lit ?_
   refine F.vl (x_addn (i + 1) (by omega) (by omega) rfl rfl) fun a F => F.mv rfl fun a F => ?_
   refine s_end (hK' _ _ (by omega) ⟨_, by rw [hdt, ← hm], by omega, hB, F.sub _ rfl⟩)
  ·
   obtain rfl : i = c.kids.length := by omega
   rw [List.take_length] at hm
   refine wp_exit (K3 _ _ ?_)
   refine wp_rs fun _ K13 => F.mv rfl fun a F => F.vl (x_addn (m + 1) (by omega) (by omega) rfl rfl) fun a F => F.sg rfl fun a F => ?_
   refine s_end (K13 _ _ ?_)
   refine wp_ret (res_slot F rfl rfl ⟨by rw [hdd, ← hm], hB⟩)
theorem Depth35 (c : CT) (x : C8) (w0 : World) (hx : RC w0 (fun k => k < w0.heap.size) c x) : Calls Try.prog 33 #[tv x] w0 fun e w' => e = .returned (.int .i64 (c.mD : Int)) ∧ Below w0.heap.size w0 w' := by
 have hB := Below.refl w0.heap.size w0
 have sB := hB.size
 refine calls_fs 7 [(0, tv x)] Try.func33 rfl rfl rfl rfl rfl fun a F => ?_
 refine wp_rs fun _ K1 => ?_
 refine s_box (tc x) F (by decide) rfl rfl fun w2 b1 a eb1 m1 B3 zb1 F => ?_
 have sB3 := B3.size
 have hB := bt hB B3
 refine F.sg rfl fun a F => ?_
 refine s_end (K1 _ _ ?_)
 refine wp_seq_k fun _ K2 => ?_
 rcases (show ¬ c.ok ∨ c.ok by by_cases h : c.ok <;> simp [h]) with hk1 | hk1
 ·
  skip
  refine wp_rs fun _ K4 => F.vl (x_ldW wide27 m1 rfl rfl) fun a F => ?_
  refine s_callB [_] F E8 rfl (by decide) ((TooGreat14 c x w2 (hx.bel hB)).mono fun e w' h => ⟨by rw [h.1, decide_eq_true hk1], h.2⟩) fun w4 a B5 F => ?_
  have sB5 := B5.size
  have hB := bt hB B5
  refine s_end (K4 _ _ ?_)
  refine wp_if F rfl ?_
  refine wp_rs fun _ K5 => F.sg rfl fun a F => ?_
  refine s_end (K5 _ _ ?_)
  have hz : c.mD = 0 := if_neg hk1
  refine wp_ret (then_ret (res_slot F rfl rfl ⟨by rw [hz]; rfl, hB⟩))
 ·
  skip
  refine wp_rs fun _ K6 => F.vl (x_ldW wide27 m1 rfl rfl) fun a F => ?_
  refine s_callB [_] F E8 rfl (by decide) ((TooGreat14 c x w2 (hx.bel hB)).mono fun e w' h => ⟨by rw [h.1, decide_eq_false (fun h => h hk1)], h.2⟩) fun w6 a B7 F => ?_
  have sB7 := B7.size
  have hB := bt hB B7
  have m1 := m1.old B7
  refine s_end (K6 _ _ ?_)
  refine wp_if F rfl ?_
  refine wp_skip (K2 _ _ ?_)
  refine wp_rs fun _ K7 => F.vl (x_ldW wide27 m1 rfl rfl) fun a F => ?_
  refine s_callB [_] F E75 rfl (by decide) (depth75 (c.size + 1) c x w6 (by omega) (by have := hk1.1; omega) (hx.bel hB)) fun w8 a B9 F => ?_
  have sB9 := B9.size
  have hB := bt hB B9
  refine F.sg rfl fun a F => ?_
  refine s_end (K7 _ _ ?_)
  have hz : c.mD = c.dep := if_pos hk1
  refine wp_ret (res_slot F rfl rfl ⟨by rw [hz], hB⟩)
end Go.Proofs.Ytmkjhdiepkpdoaa

namespace Go.Proofs.Ytmkjhdiepkpdoaa
set_option maxRecDepth 100000
set_option maxHeartbeats 1600000
open Go.RowKit Go.Shelf
set_option linter.unusedVariables false
set_option linter.unusedSimpArgs false
def cstX (s : ByteArray) : C8 := ⟨7, 0, s, (0, 0, nilS), nilS, nilS⟩
theorem rc_cst (W : World) (A : Nat → Prop) (s : ByteArray) : RC W A (.cst s [] 0) (cstX s) := ⟨rfl, rfl, RVn.nil _ _, ⟨_, Rn.nil _ _ 8⟩, ⟨.mk 0 0 [], .mk (xs := []) (Rn.nil _ _ 3) rfl (fun i x l h => by simp at h)⟩, [], RVn.nil _ _⟩
theorem b502_0134 (k : Int) (s : ByteArray) (x y : C8) (w : World) : (Instr.build 47 [(0, Value.int .i64 k), (1, Value.string s), (3, tv x), (4, tv y)].toArray).run Try.prog w = .ok (dvv ⟨k, s, 0, x, y, 0, nilS⟩) w := run_build w 47 _ _ (by kernel_rfl)
theorem rConst307 (s : ByteArray) (w0 : World) : Calls Try.prog 32 #[.string s, nilS] w0 fun e w' => e = .returned (tv (cstX s)) ∧ Below w0.heap.size w0 w' := by
 have hB := Below.refl w0.heap.size w0
 have sB := hB.size
 refine calls_fs 8 [(0, .string s), (1, nilS)] Try.func32 rfl rfl rfl rfl rfl fun a F => ?_
 refine wp_rs fun _ K1 => ?_
 refine s_alloc F (by decide) zero27 fun w2 b4 a eb4 m4 B3 zb4 F => ?_
 have sB3 := B3.size
 have hB := bt hB B3
 refine s_end (K1 _ _ ?_)
 refine wp_rs fun _ K2 => F.mv rfl fun a F => F.mv rfl fun a F => F.vl (x_build (vs := [(0, _), (2, _), (4, _)]) rfl (b27_024 _ _ _ _ _ _)) fun a F => ?_
 refine s_putW F rfl rfl (size_wide wide27) m4 rfl (rc_cst w0 (fun _ => True) s).one fun w6 m4 o7 => ?_
 have so7 := o7.size
 have hB := hB.trans (o7.below (by omega))
 refine s_end (K2 _ _ ?_)
 refine wp_ret (res_cell F rfl rfl m4 wide27 ⟨rfl, hB⟩)
theorem rBind308 (A : Nat → Prop) (c d : CT) (x y : C8) (w0 : World) (hA : ∀ k, A k → k < w0.heap.size) (hx : RC w0 A c x) (hy : RC w0 A d y) : Calls Try.prog 34 #[.int .i64 3, tv x, tv y] w0 fun e w' => ∃ u, e = .returned u ∧ (∃ z, u = tv z ∧ RC w' (AS A w0.heap.size) (.two 3 c d 0) z) ∧ Below w0.heap.size w0 w' := by
 have hB := Below.refl w0.heap.size w0
 have sB := hB.size
 refine calls_fs 12 [(0, .int .i64 3), (1, tv x), (2, tv y)] Try.func34 rfl rfl rfl rfl rfl fun a F => ?_
 refine wp_rs fun _ K1 => ?_
 refine s_box (tc x) F (by decide) rfl rfl fun w2 b4 a eb4 m4 B3 zb4 F => ?_
 have sB3 := B3.size
 have hB := bt hB B3
 refine s_box (tc y) F (by decide) rfl rfl fun w4 b5 a eb5 m5 B5 zb5 F => ?_
 have sB5 := B5.size
 have hB := bt hB B5
 have m4 := m4.old B5
 refine s_alloc F (by decide) zero27 fun w6 b6 a eb6 m6 B7 zb6 F => ?_
 have sB7 := B7.size
 have hB := bt hB B7
 have m4 := m4.old B7
 have m5 := m5.old B7
 refine s_end (K1 _ _ ?_)
 refine wp_rs fun _ K2 => F.mv rfl fun a F => F.vl (x_ldW wide27 m4 rfl rfl) fun a F => F.vl (x_ldW wide27 m5 rfl rfl) fun a F => ?_
 refine s_litG [tv x, tv y] el25 F (by decide) rfl (by simp [Value.cells, tc]) rfl (by decide) (by decide) fun w8 bl a ebl ml B9 zbl F => ?_
 have sB9 := B9.size
 have hB := bt hB B9
 have m6 := m6.old B9
 have ml : Blk w8 bl 27 (tc x ++ tc y) := by simpa [Value.cells] using ml
 refine F.vl (x_build (vs := [(0, _), (5, _)]) rfl (b27_05 _ _ _ _ _)) fun a F => ?_
 refine s_putW F rfl rfl (size_wide wide27) m6 rfl (one_tc0 _ _ _ _ rfl) fun w12 m6 o13 => ?_
 have so13 := o13.size
 have hB := hB.trans (o13.below (by omega))
 have ml := ml.only o13 (by omega)
 refine s_end (K2 _ _ ?_)
 have hRn : Rn w12 (AS A w0.heap.size) (.slice (some ⟨bl, 0, none⟩) 2 2) 8 (0 + 2) (tc x ++ (tc y ++ [])) := ⟨by simpa using Rd.blk ml (n := 2) rfl, fun _ b hb => by simp [Value.ownBlock] at hb; subst hb; exact .inr (by omega)⟩
 refine wp_ret (res_cell F rfl rfl m6 wide27 ⟨_, rfl, ⟨⟨3, 0, emptyB, (0, 0, nilS), nilS, .slice (some ⟨bl, 0, none⟩) 2 2⟩, rfl, ⟨rfl, .inl rfl, ⟨x, y, [], hRn, (hx.keep hB.size (fun k hk _ => hB.block k (hA k hk))).mono (fun k hk => .inl hk), (hy.keep hB.size (fun k hk _ => hB.block k (hA k hk))).mono (fun k hk => .inl hk)⟩, ⟨.mk 0 0 [], .mk (xs := []) (Rn.nil _ _ 3) rfl (fun i x l h => by simp at h)⟩, [], RVn.nil _ _⟩⟩, hB⟩)
theorem declMany_walk (ni si : Int) (w0 : World) : Calls Try.prog 6 #[.int .i64 ni, .int .i64 si] w0 fun e w' => e = .returned (.bool true) ∧ Below w0.heap.size w0 w' := by
 have hNr := u64_rem ni 20 (by decide) (by decide)
 have hSr := u64_rem si 399 (by decide) (by decide)
 obtain ⟨N, hNe⟩ : ∃ N : Nat, (N : Int) = (ni % 18446744073709551616).tmod 20 := ⟨((ni % 18446744073709551616).tmod 20).toNat, by omega⟩
 obtain ⟨S, hSe⟩ : ∃ S : Nat, (S : Int) = (si % 18446744073709551616).tmod 399 := ⟨((si % 18446744073709551616).tmod 399).toNat, by omega⟩
 rw [← hNe] at hNr
 rw [← hSe] at hSr
 obtain ⟨M, hM⟩ : ∃ M : Nat, M = S / 2 := ⟨_, rfl⟩
 have hB := Below.refl w0.heap.size w0
 have sB := hB.size
 refine calls_fs 66 [(0, .int .i64 ni), (1, .int .i64 si)] Try.func6 rfl rfl rfl rfl rfl fun a F => ?_
 refine wp_rs fun _ K1 => F.sg rfl fun a F => ?_
 refine s_end (K1 _ _ ?_)
 refine wp_rs fun _ K2 => F.mv rfl fun a F => F.vl (x_cvt (k := .u64) Try.underlying3 Try.underlying54 (wrap_u64 _) rfl) fun a F => F.vl (x_remu (N : Int) (by decide) hNe.symm rfl rfl) fun a F => F.vl (x_cvt (k := .i64) (r := (N : Int)) Try.underlying54 Try.underlying3 (wrap_i64 (by omega) (by omega)) rfl) fun a F => F.mv rfl fun a F => F.vl (x_cvt (k := .u64) Try.underlying3 Try.underlying54 (wrap_u64 _) rfl) fun a F => F.vl (x_remu (S : Int) (by decide) hSe.symm rfl rfl) fun a F => F.vl (x_cvt (k := .i64) (r := (S : Int)) Try.underlying54 Try.underlying3 (wrap_i64 (by omega) (by omega)) rfl) fun a F => F.sg rfl fun a F => F.sg rfl fun a F => ?_
 refine s_end (K2 _ _ ?_)
 refine wp_rs fun _ K3 => ?_
 refine s_callB [_, _] F E32 rfl (by decide) (rConst307 axN w0) fun w2 a B3 F => ?_
 have sB3 := B3.size
 have hB := bt hB B3
 refine s_alloc F (by decide) zero27 fun w4 b5 a eb5 m5 B5 zb5 F => ?_
 have sB5 := B5.size
 have hB := bt hB B5
 refine s_putW F rfl rfl (size_wide wide27) m5 rfl (rc_cst w0 (fun _ => True) axN).one fun w8 m5 o9 => ?_
 have so9 := o9.size
 have hB := hB.trans (o9.below (by omega))
 refine s_end (K3 _ _ ?_)
 refine wp_seq_k fun _ K4 => ?_
 refine wp_rs fun _ K5 => F.mv rfl fun a F => F.vl (x_quon (M : Int) (by decide) (by omega) (by omega) (by omega) rfl rfl) fun a F => F.mv rfl fun a F => ?_
 refine s_end (K5 _ _ ?_)
 refine wp_block ?_
 refine wp_up M (fun i a w => ∃ (c : CT) (y : C8), RC w (fun k => k ≠ b5) c y ∧ c.fit ∧ Blk w b5 27 (tc y) ∧ Below w0.heap.size w0 w ∧ Fs 66 a [(0, .int .i64 (N : Int)), (5, .pointer (some ⟨b5, 0, none⟩)), (22, .int .i64 (M : Int)), (23, .int .i64 (i : Int))]) ⟨.cst axN [] 0, cstX axN, rc_cst _ _ _, ⟨by decide, by simp⟩, m5, hB, F.sub _ rfl⟩ ?_
 have hb5w : w0.heap.size ≤ b5 := by omega
 clear hB m5
 repeat clear F
 rintro i a w hi ⟨c, y, hct, hfit, m5, hB, F⟩ K' hK'
 have sB := hB.size
 have hm5l := m5.lt
 refine wp_rs fun _ K6 => F.vl (x_lss (b := decide (i < M)) (decide_eq_decide.2 (by omega)) rfl rfl) fun a F => ?_
 refine s_end (K6 _ _ ?_)
 refine wp_seq_k fun _ K7 => ?_
 refine wp_iff F rfl (fun hc24 => ?_) (fun hc24 => ?_)
 ·
  refine wp_skip (K7 _ _ ?_)
  refine wp_seq_k fun _ K8 => ?_
  refine wp_block ?_
  refine wp_rs fun _ K9 => F.vl (x_ldW wide27 m5 rfl rfl) fun a F => ?_
  refine s_callB [_] F E33 rfl (by decide) (Depth35 c y w (hct.valid.mono (fun k hk => hk.2))) fun w10 a B11 F => ?_
  have sB11 := B11.size
  have hB := bt hB B11
  have m5 := m5.old B11
  have hct := hct.below B11
  refine F.sg rfl fun a F => ?_
  refine s_end (K9 _ _ ?_)
  rcases (show (c.mD : Int) < 60 ∨ ¬ (c.mD : Int) < 60 by omega) with hq | hq
  ·
   skip
   refine wp_rs fun _ K11 => F.mv rfl fun a F => F.vl (lssT (by omega) rfl rfl) fun a F => ?_
   refine s_end (K11 _ _ ?_)
   refine wp_if F rfl ?_
   refine dlw_region (b5 + 1) (b5 + 1) 3 (ops := regOps Try.f6 7) (N := 4) (by kernel_rfl) wide_orders (by kernel_rfl) fun w12 hw12 B13 hS K12 hK12 => ?_
   have zw12 : w12.heap.size = w10.heap.size := by rw [hw12]
   have sB13 := B13.size
   have hB := bt hB B13
   have m5 := m5.old B13
   have hct := hct.below B13
   have m5_d := m5
   have hct_d := hct
   have hB_d := hB
   refine dl_val 1 30 (op := (.load 27 (.tmp 5))) F hS (by kernel_rfl) (fun W hW => x_ldW wide27 (m5_d.k2 hW (by omega)) rfl rfl) (by kernel_rfl) (by kernel_rfl) (by decide) fun a F => ?_
   refine dl_one 0 (some 29) (.call (.mk (.value (.func 32)) #[(.const (.string (ByteArray.mk #[108, 111, 110, 103, 95, 110, 97, 109, 101, 95, 111, 102, 95, 97, 95, 99, 111, 110, 115, 116, 97, 110, 116, 95, 105, 110, 95, 97, 95, 114, 111, 119]))), (.const (.slice none 0 0))] #[9, 22])) (by kernel_rfl) (by kernel_rfl) fun ty pos af => ?_
   refine s_callB [_, _] F E32 rfl (by decide) (rConst307 (ByteArray.mk #[108, 111, 110, 103, 95, 110, 97, 109, 101, 95, 111, 102, 95, 97, 95, 99, 111, 110, 115, 116, 97, 110, 116, 95, 105, 110, 95, 97, 95, 114, 111, 119]) w12) fun w14 a B15 F => ?_
   have sB15 := B15.size
   have hB := bt hB B15
   have m5 := m5.old B15
   have hS := hS.below B15
   have hct := hct.below B15
   refine s_end ⟨fun _ => hS, ?_⟩
   refine dl_one 2 (some 31) (.call (.mk (.value (.func 34)) #[(.const (.int .i64 3)), (.tmp 29), (.tmp 30)] #[3, 27, 27])) (by kernel_rfl) (by kernel_rfl) fun ty pos af => ?_
   refine s_callR (R := fun r w' => ∃ z, r = tv z ∧ RC w' (AS (fun k => k ≠ b5 ∧ k < w14.heap.size) w14.heap.size) (.two 3 (.cst (ByteArray.mk #[108, 111, 110, 103, 95, 110, 97, 109, 101, 95, 111, 102, 95, 97, 95, 99, 111, 110, 115, 116, 97, 110, 116, 95, 105, 110, 95, 97, 95, 114, 111, 119]) [] 0) c 0) z) [_, _, _] F E34 rfl (by decide) (rBind308 (fun k => k ≠ b5 ∧ k < w14.heap.size) _ c (cstX (ByteArray.mk #[108, 111, 110, 103, 95, 110, 97, 109, 101, 95, 111, 102, 95, 97, 95, 99, 111, 110, 115, 116, 97, 110, 116, 95, 105, 110, 95, 97, 95, 114, 111, 119])) y w14 (fun k hk => hk.2) (rc_cst _ _ _) hct.valid) ?_
   rintro _ w16 a ⟨zz, rfl, hzz⟩ B17 F
   have sB17 := B17.size
   have hB := bt hB B17
   have m5 := m5.old B17
   have hS := hS.below B17
   refine s_end ⟨fun _ => hS, ?_⟩
   refine dl_one 3 none (.store 27 (.tmp 5) (.tmp 31)) (by kernel_rfl) (by kernel_rfl) fun ty pos af => ?_
   refine s_putW F rfl rfl (size_wide wide27) m5 rfl hzz.one fun w20 m5 o21 => ?_
   have so21 := o21.size
   have hB := hB.trans (o21.below (by omega))
   have hzz := hzz.only o21 (by intro h; rcases h with h | h; exact h.1 rfl; omega)
   refine s_end ⟨not_lst (by kernel_rfl), ?_⟩
   refine dl_end (by kernel_rfl) (hK12 _ _ ?_)
   refine K8 _ _ ?_
   refine wp_region_lit ?_
   refine F.vl (x_addn (i + 1) (by omega) (by omega) rfl rfl) fun a F => F.mv rfl fun a F => ?_
   refine s_end (hK' _ _ (by omega) ⟨_, zz, hzz.mono (fun k hk => by rcases hk with hk | hk; (· exact hk.1); omega), ⟨⟨by decide, by simp⟩, hfit⟩, m5, hB, F.sub _ rfl⟩)
  ·
   skip
   refine wp_rs fun _ K13 => F.mv rfl fun a F => F.vl (lssF (by omega) rfl rfl) fun a F => ?_
   refine s_end (K13 _ _ ?_)
   refine wp_if F rfl ?_
   refine wp_skip (K8 _ _ ?_)
   refine wp_region_lit ?_
   refine F.vl (x_addn (i + 1) (by omega) (by omega) rfl rfl) fun a F => F.mv rfl fun a F => ?_
   refine s_end (hK' _ _ (by omega) ⟨c, y, hct, hfit, m5, hB, F.sub _ rfl⟩)
 ·
  refine wp_exit (K4 _ _ ?_)
  refine wp_rs fun _ K14 => F.sg rfl fun a F => ?_
  refine s_end (K14 _ _ ?_)
  refine wp_seq_k fun _ K15 => ?_
  refine wp_rs fun _ K16 => F.mv rfl fun a F => F.mv rfl fun a F => ?_
  refine s_end (K16 _ _ ?_)
  refine wp_block ?_
  obtain ⟨nB, hnB⟩ : ∃ n, n = w.heap.size := ⟨_, rfl⟩
  have hm5l := m5.lt
  have hct : RC w (fun k => k < nB) c y := hct.valid.mono (fun k hk => by rw [hnB]; exact hk.2)
  obtain ⟨q, hq⟩ : ∃ q : QD, q = (⟨2, ByteArray.mk #[100], 0, y, y, 0, nilS⟩, c, c, []) := ⟨_, rfl⟩
  have hqc : q.cells = dc ⟨2, ByteArray.mk #[100], 0, y, y, 0, nilS⟩ := by rw [hq]; rfl
  refine wp_up N (fun i a w => ∃ v' o', w.ownsRow nB 47 21 v' (List.replicate i q).length ((List.replicate i q).flatMap QD.cells) ∧ (∀ j, v'.ownBlock = some j → j = o') ∧ (nB ≤ o' ∧ o' ≤ w.heap.size) ∧ nB ≤ w.heap.size ∧ RC w (fun k => k < nB) c y ∧ Blk w b5 27 (tc y) ∧ Below w0.heap.size w0 w ∧ Fs 66 a [(5, .pointer (some ⟨b5, 0, none⟩)), (7, v'), (33, .int .i64 (N : Int)), (34, .int .i64 (i : Int))]) ⟨nilS, nB, World.ownsRow_nil _ _ _ _, (fun j h => by cases h), by omega, by omega, hct, m5, hB, F.sub _ rfl⟩ ?_
  have hb5w : w0.heap.size ≤ b5 ∧ b5 < nB := by omega
  clear hB m5 hct
  repeat clear F
  rintro i a w hi ⟨v1, o1, hO, hat, ho1, hnw, hct, m5, hB, F⟩ K' hK'
  have sB := hB.size
  have hm5l := m5.lt
  have h1y := hct.one
  refine wp_rs fun _ K17 => F.vl (x_lss (b := decide (i < N)) (decide_eq_decide.2 (by omega)) rfl rfl) fun a F => ?_
  refine s_end (K17 _ _ ?_)
  refine wp_seq_k fun _ K18 => ?_
  refine wp_iff F rfl (fun hc35 => ?_) (fun hc35 => ?_)
  ·
   refine wp_skip (K18 _ _ ?_)
   refine wp_seq_k fun _ K19 => ?_
   refine wp_block ?_
   refine wp_region_lit ?_
   refine F.mv rfl fun a F => F.vl (x_ldW wide27 m5 rfl rfl) fun a F => F.vl (x_ldW wide27 m5 rfl rfl) fun a F => F.vl (x_build (vs := [(0, _), (1, _), (3, _), (4, _)]) rfl (b502_0134 _ _ _ _ _)) fun a F => ?_
   refine s_litG [dvv ⟨2, ByteArray.mk #[100], 0, y, y, 0, nilS⟩] el510 F (by decide) rfl (by simp [Value.cells, dc]) rfl (by decide) (by decide) fun w22 bl a ebl ml B23 zbl F => ?_
   have sB23 := B23.size
   have hB := bt hB B23
   have m5 := m5.old B23
   have hO := own_below hO B23
   have hct := hct.below B23
   have ml : Blk w22 bl 47 q.cells := by rw [hqc]; simpa [Value.cells] using ml
   refine s_appP (o := o1) (p := 1) (ys := q.cells) el510 F (by decide) rfl rfl hO (Rd.blk ml rfl) (by rw [hqc]; intro u hu; have h := RD.one (t := c) (v := c) (cs := []) (d := ⟨2, ByteArray.mk #[100], 0, y, y, 0, nilS⟩) ⟨hct, hct, [], Rn.nil _ _ 9, rfl, fun i x c h => by simp at h⟩; exact h u hu) hat (by omega) (by rw [List.length_replicate]; omega) (by rw [List.length_replicate]; unfold maxLen; omega) (by omega) fun v2 w24 a o2 hOn hatn hon k25 F => ?_
   clear hO hat
   have hat := hatn
   have hO : w24.ownsRow nB 47 21 v2 (List.replicate (i + 1) q).length ((List.replicate (i + 1) q).flatMap QD.cells) := by rw [List.replicate_succ', List.length_append, List.flatMap_append]; simpa using hOn
   clear hOn hatn
   have sk25 := k25.size
   have hB := k25.under hB (by omega)
   have m5 := m5.k2 k25 (by omega)
   have hct := hct.k2 k25 (fun h => by omega) (fun h => by omega)
   refine F.sg rfl fun a F => ?_
   refine s_end (K19 _ _ ?_)
   refine wp_region_lit ?_
   refine F.vl (x_addn (i + 1) (by omega) (by omega) rfl rfl) fun a F => F.mv rfl fun a F => ?_
   refine s_end (hK' _ _ (by omega) ⟨v2, o2, hO, hat, by omega, by omega, hct, m5, hB, F.sub _ rfl⟩)
  ·
   obtain rfl : i = N := by omega
   have hVd : RDs w (fun k => k < w.heap.size) v1 (List.replicate i q) := ⟨⟨Rd.own hO, fun _ b hb => (hO.lt b hb).2⟩, fun p hp => by rw [List.eq_of_mem_replicate hp, hq]; have h := hct.mono (B := fun k => k < w.heap.size) (fun k hk => Nat.lt_of_lt_of_le hk hnw); exact ⟨h, h, [], Rn.nil _ _ 9, rfl, fun i x c h => by simp at h⟩⟩
   have hfq : ∀ p ∈ List.replicate i q, p.fit := fun p hp => by rw [List.eq_of_mem_replicate hp, hq]; exact ⟨by show (ByteArray.mk #[100]).size ≤ _; decide, hfit, hfit, (fun c h => by cases h), by simp, by show in64 2; unfold in64; decide, by show in64 0; unfold in64; decide, by show in64 0; unfold in64; decide⟩
   have hBd := Below.refl w.heap.size w
   have sBd := hBd.size
   refine wp_exit (K15 _ _ ?_)
   refine wp_rs fun _ K20 => F.mv rfl fun a F => ?_
   refine s_call (R := fun u w' => (∃ vv, u = .tuple #[vv, .int .i64 (bunE (List.replicate i q))] ∧ Rd w' vv 1 (bunB (List.replicate i q)).length ((bunB (List.replicate i q)).map encB) ∧ ∀ j, vv.ownBlock = some j → w.heap.size ≤ j) ∧ Below w.heap.size w w') F [_] E35 rfl (by decide) ((Bundle309 _ (List.replicate i q) w ((hVd.keep (by omega) (fun k hk _ => hBd.block k hk)).mono (fun k hk => by omega)) hfq (by rw [List.length_replicate]; omega)).mono fun e w' ⟨u, h1, h2, h3⟩ => ⟨_, h1, ⟨u, rfl, h2.1, h2.2⟩, h3⟩) ?_
   rintro _ w26 a ⟨⟨u, rfl, uR, uat⟩, B27⟩ F
   have sB27 := B27.size
   have hB := bt hB B27
   have hBd := bt hBd B27
   refine F.mv rfl fun a F => F.vl (x_ext rfl rfl) fun a F => F.vl (x_ext rfl rfl) fun a F => F.sg rfl fun a F => F.sg rfl fun a F => ?_
   refine s_end (K20 _ _ ?_)
   refine wp_rs fun _ K21 => F.mv rfl fun a F => ?_
   refine s_call (R := fun u w' => (∃ vv, u = .tuple #[vv, .int .i64 (bunE (List.replicate i q))] ∧ Rd w' vv 1 (bunB (List.replicate i q)).length ((bunB (List.replicate i q)).map encB) ∧ ∀ j, vv.ownBlock = some j → w26.heap.size ≤ j) ∧ Below w26.heap.size w26 w') F [_] E36 rfl (by decide) ((rBundle310 _ (List.replicate i q) w26 ((hVd.keep (by omega) (fun k hk _ => hBd.block k hk)).mono (fun k hk => by omega)) hfq (by rw [List.length_replicate]; omega)).mono fun e w' ⟨u, h1, h2, h3⟩ => ⟨_, h1, ⟨u, rfl, h2.1, h2.2⟩, h3⟩) ?_
   rintro _ w28 a ⟨⟨r, rfl, rR, rat⟩, B29⟩ F
   have sB29 := B29.size
   have hB := bt hB B29
   have uR := uR.below B29
   refine F.mv rfl fun a F => F.vl (x_ext rfl rfl) fun a F => F.vl (x_ext rfl rfl) fun a F => F.sg rfl fun a F => F.sg rfl fun a F => ?_
   refine s_end (K21 _ _ ?_)
   refine wp_rs fun _ K22 => F.mv rfl fun a F => F.vl (x_strR Try.underlying48 Try.underlying5 Try.underlying9 uR rfl) fun a F => F.mv rfl fun a F => F.vl (x_strR Try.underlying48 Try.underlying5 Try.underlying9 rR rfl) fun a F => F.vl (x_eqS (b := true) (decide_eq_true rfl) rfl rfl) fun a F => F.mv rfl fun a F => s_grd 58 F rfl rfl rfl <| F.mv rfl fun a F => s_grd 58 F rfl rfl rfl <| F.mv rfl fun a F => s_grd 58 F rfl rfl rfl <| F.vl (x_eql (b := true) (decide_eq_true rfl) rfl rfl) fun a F => F.vl (x_pick (b := true) rfl rfl) fun a F => F.mv rfl fun a F => s_grd 63 F rfl rfl rfl ?_
   refine s_callB [] F E31 rfl (by decide) (awake306 w28) fun w30 a B31 F => ?_
   have sB31 := B31.size
   have hB := bt hB B31
   refine F.vl (x_pick (b := true) rfl rfl) fun a F => F.sg rfl fun a F => ?_
   refine s_end (K22 _ _ ?_)
   refine wp_ret (res_slot F rfl rfl ⟨rfl, hB⟩)
end Go.Proofs.Ytmkjhdiepkpdoaa

namespace Go.Proofs.Ytmkjhdiepkpdoaa
open Go.RowKit Go.Shelf Go.ChangeShapes Go.WideShapes
set_option linter.unusedVariables false
set_option linter.unusedSimpArgs false
section
variable {α : Type} {encA : α → List Value} {k : Nat}
end
end Go.Proofs.Ytmkjhdiepkpdoaa

namespace Go.Proofs.Ytmkjhdiepkpdoaa
open Go.RowKit Go.Shelf Go.ChangeShapes Go.WideShapes
set_option maxRecDepth 100000
set_option linter.unusedVariables false
set_option linter.unusedSimpArgs false
section
variable {H : Type} {enc : TypeId × Value → H} {w : World} {base : Nat} {spare : Nat → Bool} {held : Bool}
end
end Go.Proofs.Ytmkjhdiepkpdoaa

namespace Go.Proofs.Ytmkjhdiepkpdoaa
open Go.RowKit Go.Shelf Go.ChangeShapes Go.WideShapes
set_option maxRecDepth 100000
set_option linter.unusedVariables false
set_option linter.unusedSimpArgs false
section
variable {H : Type} {enc : TypeId × Value → H} {w : World} {base : Nat} {spare : Nat → Bool} {held : Bool}
end
end Go.Proofs.Ytmkjhdiepkpdoaa
