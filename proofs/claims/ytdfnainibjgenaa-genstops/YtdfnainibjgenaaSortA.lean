/- The comparison of pairs; what a sort leaves of the world. -/
import Derived.Test.YtdfnainibjgenaaMapB
import Derived.Shelf.SlSortCmp.InsertionK
import Derived.Shelf.SlSortFuncK.ComposeK
import Derived.Lib.Small
namespace Go.Proofs.Ytdfnainibjgenaa
open Go.RowKit Go.Shelf
open Go.Sort (SWO PermIn SortedIn HoldsK flatK grow)
set_option linter.unusedVariables false
set_option linter.unusedSimpArgs false
attribute [local go_sem] Oper.semAt_some wide_fn wide_depth

def encC (x : Int) : List Value := [.int .i64 x]

set_option maxRecDepth 100000 in
set_option maxHeartbeats 1000000 in
theorem nan158 (x : Int) (w : World) : Calls Try.prog 158 #[.int .i64 x] w fun e w' => e = .returned (.bool false) ∧ w = w' := by
  refine (callsIn_wide (n := 0)).1 ?_
  refine callsIn_of_wp Try.func158 rfl trivial ?_ rfl
  simp only [Try.ntmps158, List.size_toArray, List.length_cons, List.length_nil, Nat.reduceAdd, Nat.reduceSub, Array.replicate_succ, Array.replicate_zero, List.push_toArray, List.append_toArray, List.nil_append, List.cons_append]
  have hne : (x != x) = false := by simp
  gi_wp2
  go_ret
  exact ⟨rfl, rfl⟩

set_option maxRecDepth 100000 in
set_option maxHeartbeats 1000000 in
theorem cmp142 (x y : Int) (w : World) : Calls Try.prog 142 #[.int .i64 x, .int .i64 y] w fun e w' => e = .returned (.int .i64 (Lib.compareInt x y)) ∧ w = w' := by
  refine (callsIn_wide (n := 0)).1 ?_
  refine callsIn_of_wp Try.func142 rfl trivial ?_ rfl
  simp only [Try.ntmps142, List.size_toArray, List.length_cons, List.length_nil, Nat.reduceAdd, Nat.reduceSub, Array.replicate_succ, Array.replicate_zero, List.push_toArray, List.append_toArray, List.nil_append, List.cons_append]
  by_cases h1 : x < y
  · have hr : Lib.compareInt x y = -1 := by simp [Lib.compareInt, h1]
    rw [hr]
    gi_wp2_with fail
    refine ((callsIn_wide (n := 0)).2 (nan158 x w)).mono ?_
    rintro e w' ⟨rfl, rfl⟩
    gi_wp2_with fail
    refine ((callsIn_wide (n := 0)).2 (nan158 y w)).mono ?_
    rintro e w' ⟨rfl, rfl⟩
    gi_wp2
    go_ret
    exact ⟨rfl, rfl⟩
  · by_cases h2 : y < x
    · have hr : Lib.compareInt x y = 1 := by simp [Lib.compareInt, h1, h2]
      rw [hr]
      gi_wp2_with fail
      refine ((callsIn_wide (n := 0)).2 (nan158 x w)).mono ?_
      rintro e w' ⟨rfl, rfl⟩
      gi_wp2_with fail
      refine ((callsIn_wide (n := 0)).2 (nan158 y w)).mono ?_
      rintro e w' ⟨rfl, rfl⟩
      gi_wp2
      go_ret
      exact ⟨rfl, rfl⟩
    · have hr : Lib.compareInt x y = 0 := by simp [Lib.compareInt, h1, h2]
      rw [hr]
      gi_wp2_with fail
      refine ((callsIn_wide (n := 0)).2 (nan158 x w)).mono ?_
      rintro e w' ⟨rfl, rfl⟩
      gi_wp2_with fail
      refine ((callsIn_wide (n := 0)).2 (nan158 y w)).mono ?_
      rintro e w' ⟨rfl, rfl⟩
      gi_wp2
      go_ret
      exact ⟨rfl, rfl⟩

set_option maxRecDepth 100000 in
set_option maxHeartbeats 1000000 in
theorem cls141 (x y : Int) (w : World) : Calls Try.prog 141 #[encP x, encP y] w fun e w' => e = .returned (.int .i64 (Lib.compareInt x y)) ∧ ∃ q os', w' = grow (w.drewN q) os' := by
  refine (callsIn_wide (n := 0)).1 ?_
  refine callsIn_of_wp Try.func141 rfl trivial ?_ rfl
  simp only [Try.ntmps141, List.size_toArray, List.length_cons, List.length_nil, Nat.reduceAdd, Nat.reduceSub, Array.replicate_succ, Array.replicate_zero, List.push_toArray, List.append_toArray, List.nil_append, List.cons_append]
  have hcon := fun W' => cmp142 x y W'
  generalize Lib.compareInt x y = r at hcon ⊢
  gi_wp2_with (gi_at_call 142; refine ((callsIn_wide (n := 0)).2 (hcon _)).mono ?_; rintro e w' ⟨rfl, rfl⟩)
  go_ret
  exact ⟨rfl, 0, _, by rw [Sort.alloc_eq_grow, Sort.alloc_eq_grow, Sort.grow_grow]; rfl⟩

theorem cmpLays141 (blk off size : Nat) (w : World) : CmpLays Try.prog 141 #[] encC 1 Lib.compareInt blk off size w :=
  fun _ _ _ _ x y => cls141 x y _
theorem lt_cmp (x y : Int) : ltOf Lib.compareInt x y = decide (x < y) := by
  unfold ltOf Lib.compareInt
  by_cases h1 : x < y
  · simp [h1]
  · by_cases h2 : y < x <;> simp [h1, h2]
theorem swo_cmp : SWO (ltOf Lib.compareInt) where
  irrefl x := by rw [lt_cmp]; simp
  trans x y z h1 h2 := by rw [lt_cmp] at *; simp at *; omega
  ntrans x y z h1 h2 := by rw [lt_cmp] at *; simp at *; omega

theorem flat1 (d : Array Int) : flatK encC 1 d = d.map (Value.int .i64) := by
  apply Array.ext
  · simp [flatK]
  · intro i h1 h2
    simp [flatK, encC, Nat.mod_one]
    simp at h2
    rw [getElem!_pos d i h2]
/-- A row of one's own holds what it holds. -/
theorem holds_of_row {W : World} {base g cap : Nat} {d : Array Int} (h : W.ownsRow base 132 1 (.slice (some ⟨g, 0, none⟩) d.size cap) d.size (d.toList.map encI)) : HoldsK encC 1 W g 0 d := by
  intro j hj
  rw [flat1] at hj ⊢
  simp at hj
  have hc := h.cells (g := g) rfl j (.int .i64 d[j]) (by simp [hj])
  rw [addr_add] at hc
  refine ⟨by rw [hc]; simp [hj], ?_⟩
  rcases h.2 with ⟨e, _⟩ | ⟨g', cap', cur, e, _, hh, _⟩
  · cases e
  · simp at e
    obtain ⟨rfl, rfl⟩ := e
    simp [World.frozen?, hh]
theorem only_sortWorld {w : World} {blk off n : Nat} {d : Array Int} {os : Array Obj} : Only (fun k => k = blk) w (sortWorldK encC 1 w blk off n d os) := by
  refine ⟨rfl, rfl, rfl, size_sortWorldK_c _ _ _ _ _ _ _ _, fun b hb hn => ?_⟩
  unfold sortWorldK
  rw [show ∀ (W : World) (os : Array Obj), b < W.heap.size → (grow W os).heap[b]? = W.heap[b]? from fun W os h => by simp [grow, Array.getElem?_append, h]]
  · simp [Sort.putRowK, Sort.putRow, Sort.mapBlock, Array.getElem?_modify, Ne.symm hn, Sort.ahead]
  · simpa [Sort.putRowK, Sort.putRow, Sort.mapBlock, Sort.ahead] using hb

/-- A rising list is the one order of its elements in which none is less than an earlier one. -/
theorem sorted_is {ks : List Int} {d : Array Int} (hr : ks.Pairwise (· < ·)) (hp : d.toList.Perm ks) (hs : SortedIn (ltOf Lib.compareInt) 0 d.size d) : d.toList = ks := by
  have h1 : d.toList.Pairwise (· ≤ ·) := by
    rw [List.pairwise_iff_getElem]
    intro i j hi hj hij
    have := hs i j (Nat.zero_le _) hij (by simpa using hj)
    rw [lt_cmp] at this
    simp at hi hj
    rw [getElem!_pos d j hj, getElem!_pos d i hi] at this
    simpa using this
  exact hp.eq_of_pairwise (le := (· ≤ ·)) (fun a b _ _ h1 h2 => Int.le_antisymm h1 h2) h1 (hr.imp fun h => Int.le_of_lt h)
end Go.Proofs.Ytdfnainibjgenaa
