/- maps.Values of a map of pairs of a string and nothing. -/
import Derived.Test.YtikomlcghplchaaSetS
import Derived.Test.YtikomlcghplchaaSeqP
import Derived.Test.YtikomlcghplchaaSlices
import Derived.Maps.RangeWalk
namespace Go.Proofs.Ytikomlcghplchaa
open Go.RowKit Go.Shelf
set_option linter.unusedVariables false
set_option linter.unusedSimpArgs false
attribute [local go_sem] Oper.semAt_some wide_fn wide_depth

/-- A string; a pair of a string and nothing. -/
abbrev encS (x : ByteArray) : Value := .string x
abbrev encP (x : ByteArray) : Value := .agg #[.string x]
/-- The table of these keys. -/
def ul (ks : List ByteArray) : List (ByteArray × Unit) := ks.map fun x => (x, ())
theorem ul_fst (l : List (ByteArray × Unit)) : ul (l.map (·.1)) = l := by
  induction l with
  | nil => rfl
  | cons p r ih => simpa [ul] using ih
theorem fst_ul (ks : List ByteArray) : (ul ks).map (·.1) = ks := by
  induction ks with
  | nil => rfl
  | cons p r ih => simpa [ul] using ih
theorem up_ul {ks : List ByteArray} (h : Up (ul ks)) : ks.Pairwise (fun a b => sl a b = true) := by simpa [Up, ul, List.pairwise_map] using h
theorem at_ul {ks : List ByteArray} {x x' : ByteArray} (h : (pairS.tab (ul ks)).atKey (kl x) (.map []) = pairS.dat x' ()) : x ∈ ks ∧ x = x' := by
  rw [PairK.tab_at] at h
  cases hg : getK x (ul ks) with
  | none => rw [hg] at h; cases h
  | some v =>
    rw [hg] at h
    refine ⟨?_, (pairS.inj _ _ _ _ h).1⟩
    have h2 : hasK x (ul ks) = true := by rw [hasK_getK, hg]; rfl
    obtain ⟨p, hp, rfl⟩ := hasK_true.1 h2
    simp only [ul, List.mem_map] at hp
    obtain ⟨y, hy, rfl⟩ := hp
    exact hy
theorem ranges_only {k : TypeId} {P : Program} {R : Value → Option (DataW Unit × List MemPlace)} {W W' : World} {b r n : Nat} {D : DataW Unit} {left : Lit → Bool} {cnt : Nat} {H : Nat → Prop} (h : W.ranges P k R b r n D left cnt) (ho : Only H W W') (hb : ¬ H b) (hr : ¬ H r) : W'.ranges P k R b r n D left cnt := by
  have h1 := h.owns.lt
  have h2 := h.lt
  obtain ⟨es, clock, since, seen, c0, hbl, F, hs, hD, hrl, rest⟩ := h
  exact ⟨es, clock, since, seen, c0, (ho.block b h1 hb).trans hbl, F, hs, hD, (ho.block r h2 hr).trans hrl, rest⟩

theorem perm_pick {l : List ByteArray} (hnd : l.Nodup) {x : ByteArray} (hx : x ∈ l) : l.Perm (x :: l.filter fun y => !decide (y = x)) := by
  induction l with
  | nil => cases hx
  | cons y r ih =>
    have hn := List.nodup_cons.1 hnd
    by_cases h : y = x
    · subst h
      have : r.filter (fun z => !decide (z = y)) = r := List.filter_eq_self.2 fun z hz => by
        have : z ≠ y := fun e => hn.1 (e ▸ hz)
        simp [this]
      simp [this]
    · have hm : x ∈ r := (List.mem_cons.1 hx).resolve_left (fun e => h e.symm)
      simp only [List.filter_cons, h, decide_false, Bool.not_false, if_true]
      exact ((ih hn.2 hm).cons y).trans (List.Perm.swap x y _)
/-- Those of ks that are still to come. -/
def leftL (ks : List ByteArray) (left : Lit → Bool) : List ByteArray := ks.filter fun x => left (kl x)
theorem leftL_all (ks : List ByteArray) : leftL ks (Maps.has (pairS.tab (ul ks))) = ks := by
  unfold leftL
  exact List.filter_eq_self.2 fun x hx => by rw [PairK.tab_has, hasK_true]; exact ⟨(x, ()), by simpa [ul] using hx, rfl⟩
theorem leftL_step {ks : List ByteArray} (h : Up (ul ks)) {left : Lit → Bool} {x : ByteArray} (hx : x ∈ ks) (hl : left (kl x) = true) : (leftL ks left).Perm (x :: leftL ks (fun z => left z && !z.sameKey (kl x))) := by
  have hm : x ∈ leftL ks left := List.mem_filter.2 ⟨hx, hl⟩
  have hnd : (leftL ks left).Nodup := ((up_ul h).imp (fun {a b} hab => sl_ne hab)).filter _
  have e1 : leftL ks (fun z => left z && !z.sameKey (kl x)) = (leftL ks left).filter fun y => !decide (y = x) := by
    unfold leftL
    rw [List.filter_filter]
    apply List.filter_congr
    intro y _
    simp only [same_kl]
    by_cases hy : y = x <;> simp [hy]
  rw [e1]
  exact perm_pick hnd hm
theorem leftL_none (ks : List ByteArray) {left : Lit → Bool} (h : ∀ kl, left kl = false) : leftL ks left = [] := by simp [leftL, h]

set_option maxRecDepth 100000 in
set_option maxHeartbeats 1000000 in
theorem val148 (ks : List ByteArray) (N : Nat) (y : Value) (hy : ∃ fn lb, y = .func fn #[] lb) (bs b : Nat) (W : World) (hbs : Boxed W bs 74 (.map (some b))) (hM : pairS.Map Try.prog 9 W b N (ul ks)) (H : Nat → Prop) (hHb : ¬ H b)
    (J Jx : List ByteArray → (Nat → Prop) → World → Prop) (hJ : Inv W.heap.size J) (hJx : Inv W.heap.size Jx)
    (hr : ∀ pre x H1 W1, (∃ rest, (pre ++ x :: rest).Perm ks) → J pre H1 W1 → CallV Try.prog y #[encP x] W1 (RoundR J Jx (pre ++ [x]) H1 W1)) (h0 : J [] H W) :
    Calls Try.prog 148 #[y, .pointer (some ⟨bs, 0, none⟩)] W (EndP J Jx ks H W) := by
  obtain ⟨fn, lb, rfl⟩ := hy
  refine (callsIn_wide (n := 0)).1 ?_
  refine callsIn_of_wp Try.func148 rfl trivial ?_ rfl
  simp only [Try.ntmps148, List.size_toArray, List.length_cons, List.length_nil, Nat.reduceAdd, Nat.reduceSub, Array.replicate_succ, Array.replicate_zero, List.push_toArray, List.append_toArray, List.nil_append, List.cons_append]
  have hc1 := hbs.cell
  obtain ⟨w1, hrun, hrg, hgr, hsz⟩ := hM.2.range keyS Try.underlying74
  have hHlt := hJ.lt _ _ _ h0
  have o1 : Only H W w1 := Only.of_grownBy hgr (fun k hk => by cases hk)
  have hj1 : J [] H w1 := hJ.stable _ _ _ _ h0 (Only.of_grownBy hgr (fun k hk => by cases hk))
  have hrs := hM.1
  have hHr : ¬ H W.heap.size := fun e => by have := hHlt _ e; omega
  have Hr := Lib.hid hr
  have hbW := hM.2.lt
  clear hr hM hgr
  gi_wp2
  gi_loopw [] (fun wr => ∃ (pre : List ByteArray) (left : Lit → Bool) (cnt : Nat) (H1 : Nat → Prop), wr.ranges Try.prog 9 pairS.R b W.heap.size N (pairS.tab (ul ks)) left cnt ∧ (pre ++ leftL ks left).Perm ks ∧ J pre H1 wr ∧ ¬ H1 b ∧ ¬ H1 W.heap.size ∧ Grows H W H1 ∧ Only H W wr) (fun wr => wr.rangeLeft b W.heap.size)
  case atStart => exact ⟨[], _, _, H, hrg, by simp [leftL_all], hj1, hHb, hHr, Grows.refl _ _, o1⟩
  case round =>
    obtain ⟨pre, left, cnt, H1, hrg, hperm, hj, h1b, h1r, hg, ho⟩ := hrel
    have hmeas := hrg.left_eq
    rcases hrg.next keyS 0 with ⟨h0', hl, hrun⟩ | ⟨key, v, kl, yv, w2, cnt', hkey, hlk, hv, hat, hrun, hrg2, hlt, hgr2, hsz2, hen⟩
    · have Hfin : Hid (EndP J Jx ks H W (.returned (.tuple #[])) wr) := ⟨⟨_, rfl⟩, H1, hg, ho, .inl ⟨pre, by simpa [leftL_none ks hl] using hperm, hj⟩⟩
      clear hperm hj hg ho hmeas
      gi_wp2
      go_end0
      exact Hfin.out
    · obtain ⟨x, rfl, rfl, hwx⟩ := WideMaps.string_of_keyOf Try.underlying9 hkey
      obtain ⟨x', u', rfl, hd, _, _⟩ := pairS.inv _ _ hv
      subst hd
      rw [show pairS.cell x' u' = .agg #[.string x'] from rfl] at hrun hen
      obtain ⟨hx, rfl⟩ : x ∈ ks ∧ x = x' := at_ul (hat (.map []))
      have hj2 : J pre H1 w2 := hJ.stable _ _ _ _ hj (Only.of_grownBy hgr2 (fun k hk => by cases hk; exact ⟨Nat.le_refl _, h1r⟩))
      have hj3 := hJ.alloc hj2 (.cells #[.string x] 111)
      have hp2 := hperm.symm.trans ((List.Perm.refl pre).append (leftL_step hrs.1 hx hlk))
      have hcall := Lib.hid (Hr.out pre x H1 _ ⟨_, hp2.symm⟩ hj3)
      have hp3 : ((pre ++ [x]) ++ leftL ks (fun z => left z && !z.sameKey (kl x))).Perm ks := by simpa using hp2.symm
      have hrg3 := hrg2.alloc (.cells #[.string x] 111)
      have ho3 : Only H W (w2.alloc (.cells #[.string x] 111)) := (ho.trans (Only.of_grownBy (H := fun k => k = W.heap.size) hgr2 (fun k hk => by simpa using hk.symm)) (fun k hk => .inr (by omega))).trans (Only.alloc _ _ _) (Grows.refl _ _)
      have HJ := Lib.hid (And.intro hp3 (And.intro hrg3 ho3))
      clear hj2 hj3 hp2 hp3 hrg3 ho3 hrg2 hat hv hkey hperm hj ho hgr2
      gi_wp2_with (refine wpListIn_callV (o := ⟨some 13, _, _, _, _, _⟩) rfl rfl _ _ _ rfl _ _ rfl rfl hcall.out ?_)
      rintro e W3 ⟨H3, hg3, hoR, hend⟩
      obtain ⟨hp3, hrg3, ho3⟩ := HJ.out
      have hs3 := ho3.size
      have hgF : Grows H W H3 := hg.trans hg3 hs3
      have hoF : Only H W W3 := ho3.trans hoR hg
      have h3b : ¬ H3 b := fun e => (hg3 _ e).elim h1b (fun e' => by omega)
      have h3r : ¬ H3 W.heap.size := fun e => (hg3 _ e).elim h1r (fun e' => by have := hrg3.lt; omega)
      have hrgF := ranges_only hrg3 hoR h1b h1r
      have hmF := hrgF.left_eq
      rcases hend with ⟨rfl, hj3⟩ | ⟨rfl, hj3⟩
      · have HF := Lib.hid (And.intro hgF (And.intro hoF (And.intro hp3 (And.intro hrgF hj3))))
        have hml : W3.rangeLeft b W.heap.size < wr.rangeLeft b W.heap.size := by rw [hmF, hmeas]; exact hlt
        clear hgF hoF hg3 hoR hp3 hrg3 ho3 hrgF hj3 hcall HJ
        refine ⟨_, rfl, ?_⟩
        gi_wp2
        go_roundw
        case rel => exact ⟨_, _, _, H3, HF.out.2.2.2.1, HF.out.2.2.1, HF.out.2.2.2.2, h3b, h3r, HF.out.1, HF.out.2.1⟩
        case measure => exact hml
      · have HF := Lib.hid (And.intro hgF (And.intro hoF hj3))
        clear hgF hoF hg3 hoR hp3 hrg3 ho3 hrgF hj3 hcall HJ
        refine ⟨_, rfl, ?_⟩
        gi_wp2
        refine bodyPost_ret (results_none rfl _ _ _) rfl ?_
        exact ⟨⟨_, rfl⟩, H3, HF.out.1, HF.out.2.1, .inr ⟨_, HF.out.2.2⟩⟩
end Go.Proofs.Ytikomlcghplchaa
