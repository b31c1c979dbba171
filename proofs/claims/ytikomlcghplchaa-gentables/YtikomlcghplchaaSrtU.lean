/- slices.SortFunc at pairs; the sorted list of a table from strings to ints; its keys. -/
import Derived.Test.YtikomlcghplchaaSrtT
import Derived.Shelf.SlSortCmp.WholeK
import Derived.Shelf.SlSortCmp.NoneTotal
import Derived.Shelf.Lay
import Derived.Shelf.SlGeneric
import Derived.Ground.SlsfProg
namespace Go.Proofs.Ytikomlcghplchaa
open Go.RowKit Go.Shelf
open Go.Sort (SWO PermIn SortedIn HoldsK flatK grow)
set_option linter.unusedVariables false
set_option linter.unusedSimpArgs false
attribute [local go_sem] Oper.semAt_some wide_fn wide_depth
shelf_lay_g SlLaysF0.n6 Slsf 6 at Try 132 as Try.sortQ

/-- slices.SortFunc of a row of one's own: rising, where no two are one. -/
theorem sf132 (xs ks : List (ByteArray × Int)) (hlen : xs.length ≤ 100000) (hr : Up ks) (hp : xs.Perm ks) (v : Value) (base : Nat) (W : World) (hv : W.ownsRow base 90 2 v xs.length (xs.flatMap cellsQ)) :
    Calls Try.prog 132 #[v, .func (.func 109) #[] #[]] W fun e w' => (∃ u, e = .returned u) ∧ ReadsQ w' v ks ∧ Only (fun k => v.ownBlock = some k) W w' := by
  rcases hv.2 with ⟨rfl, h0⟩ | ⟨g, cap, cur, rfl, hg, hh, h1, h2, h3, h4⟩
  · have hks : ks = [] := by
      have := hp.length_eq
      exact List.eq_nil_of_length_eq_zero (by omega)
    subst hks
    have hcon := AnyF.slices_SortFunc_none Try.sortQ none 0 (.func (.func 109) #[] #[]) W
    change Calls Try.prog 132 _ _ _ at hcon
    refine hcon.mono ?_
    rintro e w' ⟨rfl, rfl⟩
    exact ⟨⟨_, rfl⟩, .inl ⟨⟨_, _, rfl⟩, rfl⟩, Only.refl _ _⟩
  · obtain ⟨d, hd⟩ : ∃ d : Array (ByteArray × Int), d.toList = xs := ⟨xs.toArray, rfl⟩
    have hds : d.size = xs.length := by rw [← hd]; simp
    have eg : ∀ args w, (callFunc 109 args).run Try.prog w = .ok (.enter 109 args) w := enters_of Try.func109 (by kernel_rfl) rfl
    have hblk : g < W.heap.size := (Array.getElem?_eq_some_iff.1 hh).1
    rw [← hds, ← hd] at hv
    have hH := holds_of_row2 hv
    have hcon := AnyQ.slices_SortFunc Try.sortQ 2 Try.isAgg90 Try.sizeOf90 cellsQ (fun _ => rfl) (fun x v hv => by simp [cellsQ] at hv; rcases hv with rfl | rfl <;> rfl) cmpQ swo_cmpQ 109 #[] g 0 cap d W eg (cmpLays109 g 0 d.size W) hH hblk (by omega)
    change Calls Try.prog 132 _ _ _ at hcon
    rw [hds] at hcon
    refine hcon.mono ?_
    rintro e w' ⟨rfl, d', n, os, hperm, hsort, rfl⟩
    rw [← hds] at hperm hsort
    have hs' : d'.size = d.size := hperm.1
    have hp' : d'.toList.Perm ks := by
      have := hperm.2.2
      rw [show d'.extract 0 d.size = d' by rw [← hs']; simp, show d.extract 0 d.size = d by simp, hd] at this
      exact this.trans hp
    have hks : d'.toList = ks := sorted_isQ hr hp' (by rw [hs']; exact hsort)
    have hlk : xs.length = ks.length := hp.length_eq
    refine ⟨⟨_, rfl⟩, .inr ⟨g, 0, cap, by rw [hlk], by omega, fun j u hj => ?_⟩, ?_⟩
    · have hH' := holdsK_sortWorldK_c cellsQ 2 W g 0 d d' n os hH hblk hs'
      obtain ⟨e1, e2⟩ := flatQ_even ks j u hj
      have hl := flatQ_length ks
      have l1 := (List.getElem?_eq_some_iff.1 e1).1
      have l2 := (List.getElem?_eq_some_iff.1 e2).1
      have c1 := (hH' (j * 2) (by rw [flat2, hks]; simpa using l1)).1
      have c2 := (hH' (j * 2 + 1) (by rw [flat2, hks]; simpa using l2)).1
      rw [flat2, hks] at c1 c2
      rw [getElem!_pos _ (j * 2) (by simpa using l1)] at c1
      rw [getElem!_pos _ (j * 2 + 1) (by simpa using l2)] at c2
      simp only [List.getElem_toArray, (List.getElem?_eq_some_iff.1 e1).2, (List.getElem?_eq_some_iff.1 e2).2, id] at c1 c2
      exact ⟨c1, by rw [Nat.add_assoc]; exact c2⟩
    · exact only_sortWorld2.mono fun k _ e => by rw [e]; rfl

set_option maxRecDepth 100000 in
set_option maxHeartbeats 1000000 in
theorem sortedFunc107 {W : World} {ks : List (ByteArray × Int)} (hlen : ks.length ≤ 100000) (hr : Up ks) (s : Value) (C : Nat → Prop) (hs : SeqP Try.prog s C encQ ks W) :
    Calls Try.prog 107 #[s, .func (.func 109) #[] #[]] W fun e w' => ∃ v, e = .returned v ∧ ReadsQ w' v ks ∧ Below W.heap.size W w' := by
  obtain ⟨gs, ls, hsf⟩ := hs.func
  refine (callsIn_wide (n := 0)).1 ?_
  refine callsIn_of_wp Try.func107 rfl trivial ?_ rfl
  simp only [Try.ntmps107, List.size_toArray, List.length_cons, List.length_nil, Nat.reduceAdd, Nat.reduceSub, Array.replicate_succ, Array.replicate_zero, List.push_toArray, List.append_toArray, List.nil_append, List.cons_append]
  subst hsf
  gi_wp2_with fail
  refine ((callsIn_wide (n := 0)).2 (c131 ks hlen _ C W hs)).mono ?_
  rintro e w1 ⟨xs, hperm, v, rfl, hrow, hB1⟩
  obtain ⟨a, c, hvf⟩ := (ReadsQ.of_row hrow).form
  have hb : ∀ k, v.ownBlock = some k → W.heap.size ≤ k := fun k hk => (hrow.lt k hk).1
  have Hsf := Lib.hid (sf132 xs ks (by rw [hperm.length_eq]; exact hlen) hr hperm _ _ w1 hrow)
  have Hfin : Hid (∀ w2, Only (fun k => v.ownBlock = some k) w1 w2 → Below W.heap.size W w2) := fun w2 ho => ((Only.of_below (H := fun _ => False) hB1).trans ho (fun k hk => .inr (hb k hk))).below (fun b hb => hb.elim)
  generalize xs.length = n at hvf
  clear hrow hb hperm hB1 hs hr hlen
  subst hvf
  gi_wp2_with fail
  refine ((callsIn_wide (n := 0)).2 Hsf.out).mono ?_
  rintro e w2 ⟨⟨u, rfl⟩, hrd, ho⟩
  have Hrd := Lib.hid hrd
  have Ho := Lib.hid ho
  clear hrd ho Hsf
  gi_wp2
  go_ret
  exact ⟨_, rfl, Hrd.out, Hfin.out _ Ho.out⟩

set_option maxRecDepth 100000 in
set_option maxHeartbeats 1000000 in
theorem sorted80 {W : World} {T N : Nat} {m : Option Nat} {ks : List (ByteArray × Int)} (h : TabT W T m N ks) (hlen : ks.length ≤ 100000) :
    Calls Try.prog 80 #[.pointer (some ⟨T, 0, none⟩)] W fun e w' => ∃ v, e = .returned v ∧ ReadsQ w' v ks ∧ Below W.heap.size W w' := by
  refine (callsIn_wide (n := 0)).1 ?_
  refine callsIn_of_wp Try.func80 rfl trivial ?_ rfl
  simp only [Try.ntmps80, List.size_toArray, List.length_cons, List.length_nil, Nat.reduceAdd, Nat.reduceSub, Array.replicate_succ, Array.replicate_zero, List.push_toArray, List.append_toArray, List.nil_append, List.cons_append]
  have hc := h.1.cell
  have hl := h.1.lt
  have Hh := Lib.hid h
  have hr := h.fine.1
  clear h
  gi_wp2_with fail
  refine ((callsIn_wide (n := 0)).2 (values_callT Hh.out)).mono ?_
  rintro e w1 ⟨s, rfl, hs, hB1⟩
  obtain ⟨gs, ls, rfl⟩ := hs.func
  gi_wp2_with fail
  refine ((callsIn_wide (n := 0)).2 (sortedFunc107 hlen hr _ _ hs)).mono ?_
  rintro e w2 ⟨v, rfl, hrd, hB2⟩
  have Hrd := Lib.hid hrd
  obtain ⟨a, c, rfl⟩ := hrd.form
  clear hrd
  gi_wp2
  go_ret
  exact ⟨_, rfl, Hrd.out, hB1.trans (hB2.mono hB1.size)⟩

set_option maxRecDepth 100000 in
set_option maxHeartbeats 1000000 in
theorem key81 (x : ByteArray × Int) (w : World) : Calls Try.prog 81 #[encQ x] w fun e w' => e = .returned (encS x.1) ∧ Below w.heap.size w w' := by
  refine (callsIn_wide (n := 0)).1 ?_
  refine callsIn_of_wp Try.func81 rfl trivial ?_ rfl
  simp only [Try.ntmps81, List.size_toArray, List.length_cons, List.length_nil, Nat.reduceAdd, Nat.reduceSub, Array.replicate_succ, Array.replicate_zero, List.push_toArray, List.append_toArray, List.nil_append, List.cons_append]
  gi_wp2
  go_ret
  exact ⟨rfl, (Below.refl _ w).alloc (Nat.le_refl _) _⟩
theorem key_pureT (w : World) : PureF Try.prog (.func (.func 81) #[] #[]) (fun _ => False) encQ encS (fun x => x.1) w :=
  ⟨fun _ h => h.elim, ⟨_, _, rfl⟩, fun x W _ => .inl ⟨81, #[], rfl, enters_of Try.func81 (by kernel_rfl) rfl, key81 x W⟩⟩

set_option maxRecDepth 100000 in
set_option maxHeartbeats 1000000 in
theorem keys46 {W : World} {T N : Nat} {m : Option Nat} {ks : List (ByteArray × Int)} (h : TabT W T m N ks) (hlen : ks.length ≤ 100000) :
    Calls Try.prog 46 #[.pointer (some ⟨T, 0, none⟩)] W (GivesSeq Try.prog (fun _ => False) encS (ks.map (·.1)) W) := by
  refine (callsIn_wide (n := 0)).1 ?_
  refine callsIn_of_wp Try.func46 rfl trivial ?_ rfl
  simp only [Try.ntmps46, List.size_toArray, List.length_cons, List.length_nil, Nat.reduceAdd, Nat.reduceSub, Array.replicate_succ, Array.replicate_zero, List.push_toArray, List.append_toArray, List.nil_append, List.cons_append]
  have Hh := Lib.hid h
  clear h
  gi_wp2_with fail
  refine ((callsIn_wide (n := 0)).2 (sorted80 Hh.out hlen)).mono ?_
  rintro e w1 ⟨v, rfl, hrd, hB1⟩
  have Hrd := Lib.hid hrd
  obtain ⟨a, c, rfl⟩ := hrd.form
  clear hrd
  gi_wp2_with fail
  refine ((callsIn_wide (n := 0)).2 (of79 ks hlen _ w1 Hrd.out)).mono ?_
  rintro e w2 ⟨s, C2, rfl, hs, hB2, hC2⟩
  obtain ⟨gs, ls, rfl⟩ := hs.func
  gi_wp2_with fail
  refine ((callsIn_wide (n := 0)).2 (map_callT (fun x => x.1) hs (key_pureT w2))).mono ?_
  rintro e w3 ⟨s3, C3, rfl, hs3, hB3, hC3⟩
  have Hs3 := Lib.hid hs3
  obtain ⟨g3, l3, rfl⟩ := hs3.func
  clear hs hs3
  gi_wp2
  go_ret
  refine ⟨_, C3, rfl, Hs3.out, (hB1.trans (hB2.mono hB1.size)).trans (hB3.mono (Nat.le_trans hB1.size hB2.size)), fun b hb => .inr ?_⟩
  have h1 := hB1.size
  have h2 := hB2.size
  rcases hC3 b hb with (h | h) | h
  · rcases hC2 b h with h | h
    · exact h.elim
    · omega
  · exact h.elim
  · omega

end Go.Proofs.Ytikomlcghplchaa
