/- The comparison of pairs of a string and an int; what a sort leaves of the world. -/
import Derived.Test.YtikomlcghplchaaSrtA
import Derived.Test.YtikomlcghplchaaMapT
namespace Go.Proofs.Ytikomlcghplchaa
open Go.RowKit Go.Shelf
open Go.Sort (SWO PermIn SortedIn HoldsK flatK grow)
set_option linter.unusedVariables false
set_option linter.unusedSimpArgs false
attribute [local go_sem] Oper.semAt_some wide_fn wide_depth

def cmpQ (x y : ByteArray × Int) : Int := cmpS x.1 y.1

set_option maxRecDepth 100000 in
set_option maxHeartbeats 1000000 in
theorem cls109 (x y : ByteArray × Int) (w : World) : Calls Try.prog 109 #[encQ x, encQ y] w fun e w' => e = .returned (.int .i64 (cmpQ x y)) ∧ ∃ q os', w' = grow (w.drewN q) os' := by
  unfold cmpQ
  refine (callsIn_wide (n := 0)).1 ?_
  refine callsIn_of_wp Try.func109 rfl trivial ?_ rfl
  simp only [Try.ntmps109, List.size_toArray, List.length_cons, List.length_nil, Nat.reduceAdd, Nat.reduceSub, Array.replicate_succ, Array.replicate_zero, List.push_toArray, List.append_toArray, List.nil_append, List.cons_append]
  have hcon := fun W' => cmp110 x.1 y.1 W'
  generalize cmpS x.1 y.1 = r at hcon ⊢
  gi_wp2_with (gi_at_call 110; refine ((callsIn_wide (n := 0)).2 (hcon _)).mono ?_; rintro e w' ⟨rfl, rfl⟩)
  go_ret
  exact ⟨rfl, 0, _, by rw [Sort.alloc_eq_grow, Sort.alloc_eq_grow, Sort.grow_grow]; rfl⟩

theorem cmpLays109 (blk off size : Nat) (w : World) : CmpLays Try.prog 109 #[] cellsQ 2 cmpQ blk off size w :=
  fun _ _ _ _ x y => cls109 x y _
theorem lt_cmpQ (x y : ByteArray × Int) : ltOf cmpQ x y = sl x.1 y.1 := lt_cmp x.1 y.1
theorem swo_cmpQ : SWO (ltOf cmpQ) where
  irrefl x := swo_cmp.irrefl x.1
  trans x y z h1 h2 := swo_cmp.trans x.1 y.1 z.1 h1 h2
  ntrans x y z h1 h2 := swo_cmp.ntrans x.1 y.1 z.1 h1 h2
theorem flat2 (d : Array (ByteArray × Int)) : flatK cellsQ 2 d = (d.toList.flatMap cellsQ).toArray := by
  apply Array.ext
  · have h1 := flatQ_length d.toList
    show (flatK cellsQ 2 d).size = (d.toList.flatMap cellsQ).length
    rw [h1]; simp
  · intro i h1 h2
    have h3 : i < d.size * 2 := by simpa using h1
    have hk : i / 2 < d.size := by omega
    have hu : d.toList[i / 2]? = some d[i / 2] := by simp [hk]
    obtain ⟨e1, e2⟩ := flatQ_even d.toList (i / 2) _ hu
    have e3 : (flatK cellsQ 2 d)[i] = (cellsQ d[i / 2])[i % 2]! := by simp [flatK, hk]
    have e4 : (d.toList.flatMap cellsQ).toArray[i] = (d.toList.flatMap cellsQ)[i]'(by simpa using h2) := by simp only [List.getElem_toArray]
    rw [e3, e4]
    rcases Nat.mod_two_eq_zero_or_one i with h0 | h0
    · have ej : i / 2 * 2 = i := by omega
      rw [ej] at e1
      rw [(List.getElem?_eq_some_iff.1 e1).2, h0]; rfl
    · have ej : i / 2 * 2 + 1 = i := by omega
      rw [ej] at e2
      rw [(List.getElem?_eq_some_iff.1 e2).2, h0]; rfl
/-- A row of one's own holds what it holds. -/
theorem holds_of_row2 {W : World} {base g cap : Nat} {d : Array (ByteArray × Int)} (h : W.ownsRow base 90 2 (.slice (some ⟨g, 0, none⟩) d.size cap) d.size (d.toList.flatMap cellsQ)) : HoldsK cellsQ 2 W g 0 d := by
  intro j hj
  rw [flat2] at hj ⊢
  have hj : j < (d.toList.flatMap cellsQ).length := by simpa using hj
  have hc := h.cells (g := g) rfl j (d.toList.flatMap cellsQ)[j] (by rw [List.getElem?_eq_getElem hj])
  rw [addr_add] at hc
  refine ⟨by rw [hc, getElem!_pos _ j (by simpa using hj)]; simp, ?_⟩
  rcases h.2 with ⟨e, _⟩ | ⟨g', cap', cur, e, _, hh, _⟩
  · cases e
  · simp at e
    obtain ⟨rfl, rfl⟩ := e
    simp [World.frozen?, hh]
theorem only_sortWorld2 {w : World} {blk off n : Nat} {d : Array (ByteArray × Int)} {os : Array Obj} : Only (fun k => k = blk) w (sortWorldK cellsQ 2 w blk off n d os) := by
  refine ⟨rfl, rfl, rfl, size_sortWorldK_c _ _ _ _ _ _ _ _, fun b hb hn => ?_⟩
  unfold sortWorldK
  rw [show ∀ (W : World) (os : Array Obj), b < W.heap.size → (grow W os).heap[b]? = W.heap[b]? from fun W os h => by simp [grow, Array.getElem?_append, h]]
  · simp [Sort.putRowK, Sort.putRow, Sort.mapBlock, Array.getElem?_modify, Ne.symm hn, Sort.ahead]
  · simpa [Sort.putRowK, Sort.putRow, Sort.mapBlock, Sort.ahead] using hb
theorem Up.asym {ks : List (ByteArray × Int)} (h : Up ks) : ks.Pairwise fun a b => sl b.1 a.1 = false := List.Pairwise.imp (R := fun p q : ByteArray × Int => sl p.1 q.1 = true) (fun h => sl_asymm h) h
theorem up_one {ks : List (ByteArray × Int)} (h : Up ks) {a b : ByteArray × Int} (ha : a ∈ ks) (hb : b ∈ ks) (he : a.1 = b.1) : a = b := by
  induction ks with
  | nil => cases ha
  | cons p r ih =>
    have hp := Up.cons.1 h
    rcases List.mem_cons.1 ha with rfl | ha' <;> rcases List.mem_cons.1 hb with rfl | hb'
    · rfl
    · exact absurd he (sl_ne (hp.1 b hb'))
    · exact absurd he.symm (sl_ne (hp.1 a ha'))
    · exact ih hp.2 ha' hb'
/-- A rising list is the one order of its elements in which none is less than an earlier one. -/
theorem sorted_isQ {ks : List (ByteArray × Int)} {d : Array (ByteArray × Int)} (hr : Up ks) (hp : d.toList.Perm ks) (hs : SortedIn (ltOf cmpQ) 0 d.size d) : d.toList = ks := by
  have h1 : d.toList.Pairwise fun a b => sl b.1 a.1 = false := by
    rw [List.pairwise_iff_getElem]
    intro i j hi hj hij
    have := hs i j (Nat.zero_le _) hij (by simpa using hj)
    rw [lt_cmpQ] at this
    simp at hi hj
    rw [getElem!_pos d j hj, getElem!_pos d i hi] at this
    simpa using this
  exact hp.eq_of_pairwise (le := fun a b => sl b.1 a.1 = false) (fun a b ha hb h1 h2 => up_one hr (hp.mem_iff.1 ha) hb (Decidable.byContradiction fun hne => (sl_total hne).elim (fun h => by rw [h] at h2; cases h2) (fun h => by rw [h] at h1; cases h1))) h1 (hr.asym)
end Go.Proofs.Ytikomlcghplchaa
