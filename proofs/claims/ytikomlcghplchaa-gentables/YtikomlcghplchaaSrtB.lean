/- slices.SortFunc at pairs; the sorted list of a set of strings; its keys; a set's All. -/
import Derived.Test.YtikomlcghplchaaSrtA
import Derived.Shelf.SlSortCmp.WholeK
import Derived.Shelf.SlSortCmp.NoneTotal
import Derived.Shelf.Lay
import Derived.Shelf.SlGeneric
import Derived.Ground.SlsfProg
namespace Go.Proofs.Ytikomlcghplchaa
open Go.RowKit Go.Shelf
open Go.Sort (SWO PermIn SortedIn HoldsK flatK grow)
set_option linter.unusedVariables false
set_option linter.unusedSimpArgs false
attribute [local go_sem] Oper.semAt_some wide_fn wide_depth
shelf_lay_g SlLaysF0.n6 Slsf 6 at Try 147 as Try.sortP

/-- slices.SortFunc of a row of one's own: rising, where no two are one. -/
theorem sf147 (xs ks : List ByteArray) (hlen : xs.length ≤ 100000) (hr : ks.Pairwise (fun a b => sl a b = true)) (hp : xs.Perm ks) (v : Value) (base : Nat) (W : World) (hv : W.ownsRow base 111 1 v xs.length (xs.map encS)) :
    Calls Try.prog 147 #[v, .func (.func 127) #[] #[]] W fun e w' => (∃ u, e = .returned u) ∧ Reads encS w' v ks ∧ Only (fun k => v.ownBlock = some k) W w' := by
  rcases hv.2 with ⟨rfl, h0⟩ | ⟨g, cap, cur, rfl, hg, hh, h1, h2, h3, h4⟩
  · have hks : ks = [] := by
      have := hp.length_eq
      exact List.eq_nil_of_length_eq_zero (by omega)
    subst hks
    have hcon := AnyF.slices_SortFunc_none Try.sortP none 0 (.func (.func 127) #[] #[]) W
    change Calls Try.prog 147 _ _ _ at hcon
    refine hcon.mono ?_
    rintro e w' ⟨rfl, rfl⟩
    exact ⟨⟨_, rfl⟩, .inl ⟨⟨_, _, rfl⟩, rfl⟩, Only.refl _ _⟩
  · obtain ⟨d, hd⟩ : ∃ d : Array ByteArray, d.toList = xs := ⟨xs.toArray, rfl⟩
    have hds : d.size = xs.length := by rw [← hd]; simp
    have eg : ∀ args w, (callFunc 127 args).run Try.prog w = .ok (.enter 127 args) w := enters_of Try.func127 (by kernel_rfl) rfl
    have hblk : g < W.heap.size := (Array.getElem?_eq_some_iff.1 hh).1
    rw [← hds, ← hd] at hv
    have hH := holds_of_row hv
    have hcon := AnyQ.slices_SortFunc Try.sortP 1 Try.isAgg111 Try.sizeOf111 encC (fun _ => rfl) (fun x v hv => by simp [encC] at hv; subst hv; rfl) cmpS swo_cmp 127 #[] g 0 cap d W eg (cmpLays127 g 0 d.size W) hH hblk (by omega)
    change Calls Try.prog 147 _ _ _ at hcon
    rw [hds] at hcon
    refine hcon.mono ?_
    rintro e w' ⟨rfl, d', n, os, hperm, hsort, rfl⟩
    rw [← hds] at hperm hsort
    have hs' : d'.size = d.size := hperm.1
    have hp' : d'.toList.Perm ks := by
      have := hperm.2.2
      rw [show d'.extract 0 d.size = d' by rw [← hs']; simp, show d.extract 0 d.size = d by simp, hd] at this
      exact this.trans hp
    have hks : d'.toList = ks := sorted_is hr hp' (by rw [hs']; exact hsort)
    have hlk : xs.length = ks.length := hp.length_eq
    refine ⟨⟨_, rfl⟩, .inr ⟨g, 0, cap, by rw [hlk], by omega, fun j u hj => ?_⟩, ?_⟩
    · have hH' := holdsK_sortWorldK_c encC 1 W g 0 d d' n os hH hblk hs'
      have hjl : j < d'.size := by rw [← hks] at hj; simpa using (List.getElem?_eq_some_iff.1 hj).1
      have := (hH' j (by rw [flat1]; simpa using hjl)).1
      rw [this, flat1]
      rw [← hks] at hj
      rw [Array.getElem?_toList, Array.getElem?_eq_getElem hjl] at hj
      simp only [Option.some.injEq] at hj
      subst hj
      simp [hjl]
    · exact only_sortWorld.mono fun k _ e => by rw [e]; rfl

set_option maxRecDepth 100000 in
set_option maxHeartbeats 1000000 in
theorem sortedFunc125 {W : World} {ks : List ByteArray} (hlen : ks.length ≤ 100000) (hr : ks.Pairwise (fun a b => sl a b = true)) (s : Value) (C : Nat → Prop) (hs : SeqP Try.prog s C encP ks W) :
    Calls Try.prog 125 #[s, .func (.func 127) #[] #[]] W fun e w' => ∃ v, e = .returned v ∧ Reads encS w' v ks ∧ Below W.heap.size W w' := by
  obtain ⟨gs, ls, hsf⟩ := hs.func
  refine (callsIn_wide (n := 0)).1 ?_
  refine callsIn_of_wp Try.func125 rfl trivial ?_ rfl
  simp only [Try.ntmps125, List.size_toArray, List.length_cons, List.length_nil, Nat.reduceAdd, Nat.reduceSub, Array.replicate_succ, Array.replicate_zero, List.push_toArray, List.append_toArray, List.nil_append, List.cons_append]
  subst hsf
  gi_wp2_with fail
  refine ((callsIn_wide (n := 0)).2 (c146 ks hlen _ C W hs)).mono ?_
  rintro e w1 ⟨xs, hperm, v, rfl, hrow, hB1⟩
  obtain ⟨a, c, hvf⟩ := (Reads.of_row hrow).form
  have hb : ∀ k, v.ownBlock = some k → W.heap.size ≤ k := fun k hk => (hrow.lt k hk).1
  have Hsf := Lib.hid (sf147 xs ks (by rw [hperm.length_eq]; exact hlen) hr hperm _ _ w1 hrow)
  have Hfin : Hid (∀ w2, Only (fun k => v.ownBlock = some k) w1 w2 → Below W.heap.size W w2) := fun w2 ho => ((Only.of_below (H := fun _ => False) hB1).trans ho (fun k hk => .inr (hb k hk))).below (fun b hb => hb.elim)
  generalize xs.length = n at hvf
  clear hrow hb hperm hB1 hs hr hlen
  subst hvf
  gi_wp2_with fail
  refine ((callsIn_wide (n := 0)).2 Hsf.out).mono ?_
  rintro e w2 ⟨⟨u, rfl⟩, hrd, ho⟩
  have Hrd := Lib.hid hrd
  have Ho := Lib.hid ho
  clear hrd ho Hsf
  gi_wp2
  go_ret
  exact ⟨_, rfl, Hrd.out, Hfin.out _ Ho.out⟩

set_option maxRecDepth 100000 in
set_option maxHeartbeats 1000000 in
theorem sorted101 {W : World} {T N : Nat} {m : Option Nat} {ks : List ByteArray} (h : TabS W T m N (ul ks)) (hlen : ks.length ≤ 100000) :
    Calls Try.prog 101 #[.pointer (some ⟨T, 0, none⟩)] W fun e w' => ∃ v, e = .returned v ∧ Reads encS w' v ks ∧ Below W.heap.size W w' := by
  refine (callsIn_wide (n := 0)).1 ?_
  refine callsIn_of_wp Try.func101 rfl trivial ?_ rfl
  simp only [Try.ntmps101, List.size_toArray, List.length_cons, List.length_nil, Nat.reduceAdd, Nat.reduceSub, Array.replicate_succ, Array.replicate_zero, List.push_toArray, List.append_toArray, List.nil_append, List.cons_append]
  have hc := h.1.cell
  have hl := h.1.lt
  have Hh := Lib.hid h
  have hr := up_ul h.fine.1
  clear h
  gi_wp2_with fail
  refine ((callsIn_wide (n := 0)).2 (values_call Hh.out)).mono ?_
  rintro e w1 ⟨s, rfl, hs, hB1⟩
  obtain ⟨gs, ls, rfl⟩ := hs.func
  gi_wp2_with fail
  refine ((callsIn_wide (n := 0)).2 (sortedFunc125 hlen hr _ _ hs)).mono ?_
  rintro e w2 ⟨v, rfl, hrd, hB2⟩
  have Hrd := Lib.hid hrd
  obtain ⟨a, c, rfl⟩ := hrd.form
  clear hrd
  gi_wp2
  go_ret
  exact ⟨_, rfl, Hrd.out, hB1.trans (hB2.mono hB1.size)⟩

set_option maxRecDepth 100000 in
set_option maxHeartbeats 1000000 in
theorem key102 (x : ByteArray) (w : World) : Calls Try.prog 102 #[encP x] w fun e w' => e = .returned (encS x) ∧ Below w.heap.size w w' := by
  refine (callsIn_wide (n := 0)).1 ?_
  refine callsIn_of_wp Try.func102 rfl trivial ?_ rfl
  simp only [Try.ntmps102, List.size_toArray, List.length_cons, List.length_nil, Nat.reduceAdd, Nat.reduceSub, Array.replicate_succ, Array.replicate_zero, List.push_toArray, List.append_toArray, List.nil_append, List.cons_append]
  gi_wp2
  go_ret
  exact ⟨rfl, (Below.refl _ w).alloc (Nat.le_refl _) _⟩
theorem key_pure (w : World) : PureF Try.prog (.func (.func 102) #[] #[]) (fun _ => False) encP encS (fun x => x) w :=
  ⟨fun _ h => h.elim, ⟨_, _, rfl⟩, fun x W _ => .inl ⟨102, #[], rfl, enters_of Try.func102 (by kernel_rfl) rfl, key102 x W⟩⟩

set_option maxRecDepth 100000 in
set_option maxHeartbeats 1000000 in
theorem keys77 {W : World} {T N : Nat} {m : Option Nat} {ks : List ByteArray} (h : TabS W T m N (ul ks)) (hlen : ks.length ≤ 100000) :
    Calls Try.prog 77 #[.pointer (some ⟨T, 0, none⟩)] W (GivesSeq Try.prog (fun _ => False) encS ks W) := by
  refine (callsIn_wide (n := 0)).1 ?_
  refine callsIn_of_wp Try.func77 rfl trivial ?_ rfl
  simp only [Try.ntmps77, List.size_toArray, List.length_cons, List.length_nil, Nat.reduceAdd, Nat.reduceSub, Array.replicate_succ, Array.replicate_zero, List.push_toArray, List.append_toArray, List.nil_append, List.cons_append]
  have Hh := Lib.hid h
  clear h
  gi_wp2_with fail
  refine ((callsIn_wide (n := 0)).2 (sorted101 Hh.out hlen)).mono ?_
  rintro e w1 ⟨v, rfl, hrd, hB1⟩
  have Hrd := Lib.hid hrd
  obtain ⟨a, c, rfl⟩ := hrd.form
  clear hrd
  gi_wp2_with fail
  refine ((callsIn_wide (n := 0)).2 (of100 ks hlen _ w1 Hrd.out)).mono ?_
  rintro e w2 ⟨s, C2, rfl, hs, hB2, hC2⟩
  obtain ⟨gs, ls, rfl⟩ := hs.func
  gi_wp2_with fail
  refine ((callsIn_wide (n := 0)).2 (map_callB (fun x => x) hs (key_pure w2))).mono ?_
  rintro e w3 ⟨s3, C3, rfl, hs3, hB3, hC3⟩
  rw [List.map_id'] at hs3
  have Hs3 := Lib.hid hs3
  obtain ⟨g3, l3, rfl⟩ := hs3.func
  clear hs hs3
  gi_wp2
  go_ret
  refine ⟨_, C3, rfl, Hs3.out, (hB1.trans (hB2.mono hB1.size)).trans (hB3.mono (Nat.le_trans hB1.size hB2.size)), fun b hb => .inr ?_⟩
  have h1 := hB1.size
  have h2 := hB2.size
  rcases hC3 b hb with (h | h) | h
  · rcases hC2 b h with h | h
    · exact h.elim
    · omega
  · exact h.elim
  · omega

set_option maxRecDepth 100000 in
set_option maxHeartbeats 1000000 in
/-- s.All(). -/
theorem all40 {W : World} {T N : Nat} {m : Option Nat} {ks : List ByteArray} (h : TabS W T m N (ul ks)) (hlen : ks.length ≤ 100000) :
    Calls Try.prog 40 #[.pointer (some ⟨T, 0, none⟩)] W (GivesSeq Try.prog (fun _ => False) encS ks W) := by
  refine (callsIn_wide (n := 0)).1 ?_
  refine callsIn_of_wp Try.func40 rfl trivial ?_ rfl
  simp only [Try.ntmps40, List.size_toArray, List.length_cons, List.length_nil, Nat.reduceAdd, Nat.reduceSub, Array.replicate_succ, Array.replicate_zero, List.push_toArray, List.append_toArray, List.nil_append, List.cons_append]
  have hc := h.1.cell
  have hl := h.1.lt
  have Hh := Lib.hid h
  clear h
  gi_wp2_with fail
  refine ((callsIn_wide (n := 0)).2 (keys77 Hh.out hlen)).mono ?_
  rintro e w3 ⟨s3, C3, rfl, hs3, hB3, hC3⟩
  have Hs3 := Lib.hid hs3
  obtain ⟨g3, l3, rfl⟩ := hs3.func
  clear hs3
  gi_wp2
  go_ret
  exact ⟨_, C3, rfl, Hs3.out, hB3, hC3⟩
end Go.Proofs.Ytikomlcghplchaa
