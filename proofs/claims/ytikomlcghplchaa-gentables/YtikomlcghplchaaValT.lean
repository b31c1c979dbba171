/- maps.Values of a map of pairs of a string and an int. -/
import Derived.Test.YtikomlcghplchaaSetT
import Derived.Test.YtikomlcghplchaaValS
import Derived.Maps.RangeWalk
namespace Go.Proofs.Ytikomlcghplchaa
open Go.RowKit Go.Shelf
set_option linter.unusedVariables false
set_option linter.unusedSimpArgs false
attribute [local go_sem] Oper.semAt_some wide_fn wide_depth

/-- A pair of a string and an int. -/
abbrev encQ (x : ByteArray × Int) : Value := .agg #[.string x.1, .int .i64 x.2]
theorem at_tl {ks : List (ByteArray × Int)} {x x' : ByteArray} {u : Int} (h : (pairT.tab ks).atKey (kl x) (.map []) = pairT.dat x' u) : (x, u) ∈ ks ∧ x = x' := by
  rw [PairK.tab_at] at h
  cases hg : getK x ks with
  | none => rw [hg] at h; cases h
  | some v =>
    rw [hg] at h
    obtain ⟨rfl, rfl⟩ := pairT.inj _ _ _ _ h
    refine ⟨?_, rfl⟩
    unfold getK at hg
    obtain ⟨p, hp, rfl⟩ := Option.map_eq_some_iff.1 hg
    have h1 := List.mem_of_find?_eq_some hp
    have h2 := List.find?_some hp
    obtain ⟨a, b⟩ := p
    simp at h2
    subst h2
    exact h1
theorem perm_pickT {l : List (ByteArray × Int)} (hnd : l.Pairwise fun a b => a.1 ≠ b.1) {x : ByteArray × Int} (hx : x ∈ l) : l.Perm (x :: l.filter fun y => !decide (y.1 = x.1)) := by
  induction l with
  | nil => cases hx
  | cons y r ih =>
    have hn := List.pairwise_cons.1 hnd
    by_cases h : y = x
    · subst h
      have : r.filter (fun z => !decide (z.1 = y.1)) = r := List.filter_eq_self.2 fun z hz => by
        have : z.1 ≠ y.1 := fun e => hn.1 z hz e.symm
        simp [this]
      simp [this]
    · have hm : x ∈ r := (List.mem_cons.1 hx).resolve_left (fun e => h e.symm)
      have hne : y.1 ≠ x.1 := hn.1 x hm
      simp only [List.filter_cons, hne, decide_false, Bool.not_false, if_true]
      exact ((ih hn.2 hm).cons y).trans (List.Perm.swap x y _)
/-- Those of ks that are still to come. -/
def leftT (ks : List (ByteArray × Int)) (left : Lit → Bool) : List (ByteArray × Int) := ks.filter fun x => left (kl x.1)
theorem leftT_all (ks : List (ByteArray × Int)) : leftT ks (Maps.has (pairT.tab ks)) = ks := by
  unfold leftT
  exact List.filter_eq_self.2 fun x hx => by rw [PairK.tab_has, hasK_true]; exact ⟨x, hx, rfl⟩
theorem leftT_step {ks : List (ByteArray × Int)} (h : Up ks) {left : Lit → Bool} {x : ByteArray} {u : Int} (hx : (x, u) ∈ ks) (hl : left (kl x) = true) : (leftT ks left).Perm ((x, u) :: leftT ks (fun z => left z && !z.sameKey (kl x))) := by
  have hm : (x, u) ∈ leftT ks left := List.mem_filter.2 ⟨hx, hl⟩
  have hnd : (leftT ks left).Pairwise fun a b => a.1 ≠ b.1 := (List.Pairwise.imp (fun {a b} hab => sl_ne hab) h).filter _
  have e1 : leftT ks (fun z => left z && !z.sameKey (kl x)) = (leftT ks left).filter fun y => !decide (y.1 = x) := by
    unfold leftT
    rw [List.filter_filter]
    apply List.filter_congr
    intro y _
    simp only [same_kl]
    by_cases hy : y.1 = x <;> simp [hy]
  rw [e1]
  exact perm_pickT hnd hm
theorem leftT_none (ks : List (ByteArray × Int)) {left : Lit → Bool} (h : ∀ kl, left kl = false) : leftT ks left = [] := by simp [leftT, h]

set_option maxRecDepth 100000 in
set_option maxHeartbeats 1000000 in
theorem val133 (ks : List (ByteArray × Int)) (N : Nat) (y : Value) (hy : ∃ fn lb, y = .func fn #[] lb) (bs b : Nat) (W : World) (hbs : Boxed W bs 86 (.map (some b))) (hM : pairT.Map Try.prog 9 W b N ks) (H : Nat → Prop) (hHb : ¬ H b)
    (J Jx : List (ByteArray × Int) → (Nat → Prop) → World → Prop) (hJ : Inv W.heap.size J) (hJx : Inv W.heap.size Jx)
    (hr : ∀ pre x H1 W1, (∃ rest, (pre ++ x :: rest).Perm ks) → J pre H1 W1 → CallV Try.prog y #[encQ x] W1 (RoundR J Jx (pre ++ [x]) H1 W1)) (h0 : J [] H W) :
    Calls Try.prog 133 #[y, .pointer (some ⟨bs, 0, none⟩)] W (EndP J Jx ks H W) := by
  obtain ⟨fn, lb, rfl⟩ := hy
  refine (callsIn_wide (n := 0)).1 ?_
  refine callsIn_of_wp Try.func133 rfl trivial ?_ rfl
  simp only [Try.ntmps133, List.size_toArray, List.length_cons, List.length_nil, Nat.reduceAdd, Nat.reduceSub, Array.replicate_succ, Array.replicate_zero, List.push_toArray, List.append_toArray, List.nil_append, List.cons_append]
  have hc1 := hbs.cell
  obtain ⟨w1, hrun, hrg, hgr, hsz⟩ := hM.2.range keyT Try.underlying86
  have hHlt := hJ.lt _ _ _ h0
  have o1 : Only H W w1 := Only.of_grownBy hgr (fun k hk => by cases hk)
  have hj1 : J [] H w1 := hJ.stable _ _ _ _ h0 (Only.of_grownBy hgr (fun k hk => by cases hk))
  have hrs := hM.1
  have hHr : ¬ H W.heap.size := fun e => by have := hHlt _ e; omega
  have Hr := Lib.hid hr
  have hbW := hM.2.lt
  clear hr hM hgr
  gi_wp2
  gi_loopw [] (fun wr => ∃ (pre : List (ByteArray × Int)) (left : Lit → Bool) (cnt : Nat) (H1 : Nat → Prop), wr.ranges Try.prog 9 pairT.R b W.heap.size N (pairT.tab ks) left cnt ∧ (pre ++ leftT ks left).Perm ks ∧ J pre H1 wr ∧ ¬ H1 b ∧ ¬ H1 W.heap.size ∧ Grows H W H1 ∧ Only H W wr) (fun wr => wr.rangeLeft b W.heap.size)
  case atStart => exact ⟨[], _, _, H, hrg, by simp [leftT_all], hj1, hHb, hHr, Grows.refl _ _, o1⟩
  case round =>
    obtain ⟨pre, left, cnt, H1, hrg, hperm, hj, h1b, h1r, hg, ho⟩ := hrel
    have hmeas := hrg.left_eq
    rcases hrg.next keyT 0 with ⟨h0', hl, hrun⟩ | ⟨key, v, kl, yv, w2, cnt', hkey, hlk, hv, hat, hrun, hrg2, hlt, hgr2, hsz2, hen⟩
    · have Hfin : Hid (EndP J Jx ks H W (.returned (.tuple #[])) wr) := ⟨⟨_, rfl⟩, H1, hg, ho, .inl ⟨pre, by simpa [leftT_none ks hl] using hperm, hj⟩⟩
      clear hperm hj hg ho hmeas
      gi_wp2
      go_end0
      exact Hfin.out
    · obtain ⟨x, rfl, rfl, hwx⟩ := WideMaps.string_of_keyOf Try.underlying9 hkey
      obtain ⟨x', u', rfl, hd, _, _⟩ := pairT.inv _ _ hv
      subst hd
      rw [show pairT.cell x' u' = .agg #[.string x', .int .i64 u'] from rfl] at hrun hen
      obtain ⟨hx, rfl⟩ : (x, u') ∈ ks ∧ x = x' := at_tl (hat (.map []))
      have hj2 : J pre H1 w2 := hJ.stable _ _ _ _ hj (Only.of_grownBy hgr2 (fun k hk => by cases hk; exact ⟨Nat.le_refl _, h1r⟩))
      have hj3 := hJ.alloc hj2 (.cells #[.string x, .int .i64 u'] 90)
      have hp2 := hperm.symm.trans ((List.Perm.refl pre).append (leftT_step hrs.1 hx hlk))
      have hcall := Lib.hid (Hr.out pre (x, u') H1 _ ⟨_, hp2.symm⟩ hj3)
      have hp3 : ((pre ++ [(x, u')]) ++ leftT ks (fun z => left z && !z.sameKey (kl x))).Perm ks := by simpa using hp2.symm
      have hrg3 := hrg2.alloc (.cells #[.string x, .int .i64 u'] 90)
      have ho3 : Only H W (w2.alloc (.cells #[.string x, .int .i64 u'] 90)) := (ho.trans (Only.of_grownBy (H := fun k => k = W.heap.size) hgr2 (fun k hk => by simpa using hk.symm)) (fun k hk => .inr (by omega))).trans (Only.alloc _ _ _) (Grows.refl _ _)
      have HJ := Lib.hid (And.intro hp3 (And.intro hrg3 ho3))
      clear hj2 hj3 hp2 hp3 hrg3 ho3 hrg2 hat hv hkey hperm hj ho hgr2
      gi_wp2_with (refine wpListIn_callV (o := ⟨some 13, _, _, _, _, _⟩) rfl rfl _ _ _ rfl _ _ rfl rfl hcall.out ?_)
      rintro e W3 ⟨H3, hg3, hoR, hend⟩
      obtain ⟨hp3, hrg3, ho3⟩ := HJ.out
      have hs3 := ho3.size
      have hgF : Grows H W H3 := hg.trans hg3 hs3
      have hoF : Only H W W3 := ho3.trans hoR hg
      have h3b : ¬ H3 b := fun e => (hg3 _ e).elim h1b (fun e' => by omega)
      have h3r : ¬ H3 W.heap.size := fun e => (hg3 _ e).elim h1r (fun e' => by have := hrg3.lt; omega)
      have hrgF := ranges_only hrg3 hoR h1b h1r
      have hmF := hrgF.left_eq
      rcases hend with ⟨rfl, hj3⟩ | ⟨rfl, hj3⟩
      · have HF := Lib.hid (And.intro hgF (And.intro hoF (And.intro hp3 (And.intro hrgF hj3))))
        have hml : W3.rangeLeft b W.heap.size < wr.rangeLeft b W.heap.size := by rw [hmF, hmeas]; exact hlt
        clear hgF hoF hg3 hoR hp3 hrg3 ho3 hrgF hj3 hcall HJ
        refine ⟨_, rfl, ?_⟩
        gi_wp2
        go_roundw
        case rel => exact ⟨_, _, _, H3, HF.out.2.2.2.1, HF.out.2.2.1, HF.out.2.2.2.2, h3b, h3r, HF.out.1, HF.out.2.1⟩
        case measure => exact hml
      · have HF := Lib.hid (And.intro hgF (And.intro hoF hj3))
        clear hgF hoF hg3 hoR hp3 hrg3 ho3 hrgF hj3 hcall HJ
        refine ⟨_, rfl, ?_⟩
        gi_wp2
        refine bodyPost_ret (results_none rfl _ _ _) rfl ?_
        exact ⟨⟨_, rfl⟩, H3, HF.out.1, HF.out.2.1, .inr ⟨_, HF.out.2.2⟩⟩
end Go.Proofs.Ytikomlcghplchaa
