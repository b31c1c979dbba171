/- The comparison of pairs; what a sort leaves of the world. -/
import Derived.Test.YtikomlcghplchaaCollX
import Derived.Shelf.SlSortCmp.InsertionK
import Derived.Shelf.SlSortFuncK.ComposeK
import Derived.Lib.Small
import Derived.Laws.Strings
import Derived.Laws.Cover1
namespace Go.Proofs.Ytikomlcghplchaa
open Go.RowKit Go.Shelf
open Go.Sort (SWO PermIn SortedIn HoldsK flatK grow)
set_option linter.unusedVariables false
set_option linter.unusedSimpArgs false
attribute [local go_sem] Oper.semAt_some wide_fn wide_depth

def encC (x : ByteArray) : List Value := [.string x]
theorem less_sl (a b : ByteArray) : Op.bytesLess a.toList b.toList = sl a b := by rw [less_before, ByteArray.toList_eq, ByteArray.toList_eq]; rfl
theorem eq_sl (a b : ByteArray) : (a.toList == b.toList) = decide (a = b) := by
  rw [ByteArray.toList_eq, ByteArray.toList_eq]
  by_cases h : a = b
  · simp [h]
  · simp only [h, decide_false, beq_eq_false_iff_ne, ne_eq]
    exact fun e => h (bytes_ext e)
def cmpS (x y : ByteArray) : Int := if sl x y = true then -1 else if sl y x = true then 1 else 0

set_option maxRecDepth 100000 in
set_option maxHeartbeats 1000000 in
theorem nan134 (x : ByteArray) (w : World) : Calls Try.prog 134 #[.string x] w fun e w' => e = .returned (.bool false) ∧ w = w' := by
  refine (callsIn_wide (n := 0)).1 ?_
  refine callsIn_of_wp Try.func134 rfl trivial ?_ rfl
  simp only [Try.ntmps134, List.size_toArray, List.length_cons, List.length_nil, Nat.reduceAdd, Nat.reduceSub, Array.replicate_succ, Array.replicate_zero, List.push_toArray, List.append_toArray, List.nil_append, List.cons_append]
  have hne : (x.toList == x.toList) = true := by simp
  gi_wp2
  go_ret
  exact ⟨rfl, rfl⟩

set_option maxRecDepth 100000 in
set_option maxHeartbeats 1000000 in
theorem cmp110 (x y : ByteArray) (w : World) : Calls Try.prog 110 #[.string x, .string y] w fun e w' => e = .returned (.int .i64 (cmpS x y)) ∧ w = w' := by
  refine (callsIn_wide (n := 0)).1 ?_
  refine callsIn_of_wp Try.func110 rfl trivial ?_ rfl
  simp only [Try.ntmps110, List.size_toArray, List.length_cons, List.length_nil, Nat.reduceAdd, Nat.reduceSub, Array.replicate_succ, Array.replicate_zero, List.push_toArray, List.append_toArray, List.nil_append, List.cons_append]
  have hls := less_sl x y
  have heq := eq_sl x y
  rcases Decidable.em (sl x y = true) with h1 | h1
  · have hr : cmpS x y = -1 := by simp [cmpS, h1]
    rw [hr]
    rw [h1] at hls
    clear heq
    gi_wp2_with fail
    refine ((callsIn_wide (n := 0)).2 (nan134 x w)).mono ?_
    rintro e w' ⟨rfl, rfl⟩
    gi_wp2_with fail
    refine ((callsIn_wide (n := 0)).2 (nan134 y w)).mono ?_
    rintro e w' ⟨rfl, rfl⟩
    gi_wp2
    go_ret
    exact ⟨rfl, rfl⟩
  · have h1' : sl x y = false := by simpa using h1
    rw [h1'] at hls
    rcases Decidable.em (sl y x = true) with h2 | h2
    · have hr : cmpS x y = 1 := by simp [cmpS, h1', h2]
      rw [hr]
      have hne : x ≠ y := fun e => sl_ne h2 e.symm
      simp only [hne, decide_false] at heq
      gi_wp2_with fail
      refine ((callsIn_wide (n := 0)).2 (nan134 x w)).mono ?_
      rintro e w' ⟨rfl, rfl⟩
      gi_wp2_with fail
      refine ((callsIn_wide (n := 0)).2 (nan134 y w)).mono ?_
      rintro e w' ⟨rfl, rfl⟩
      gi_wp2
      go_ret
      exact ⟨rfl, rfl⟩
    · have hr : cmpS x y = 0 := by simp [cmpS, h1', h2]
      rw [hr]
      have he : x = y := Decidable.byContradiction fun hne => (sl_total hne).elim h1 h2
      rw [show decide (x = y) = true by simp [he]] at heq
      clear he
      gi_wp2_with fail
      refine ((callsIn_wide (n := 0)).2 (nan134 x w)).mono ?_
      rintro e w' ⟨rfl, rfl⟩
      gi_wp2_with fail
      refine ((callsIn_wide (n := 0)).2 (nan134 y w)).mono ?_
      rintro e w' ⟨rfl, rfl⟩
      gi_wp2
      go_ret
      exact ⟨rfl, rfl⟩

set_option maxRecDepth 100000 in
set_option maxHeartbeats 1000000 in
theorem cls127 (x y : ByteArray) (w : World) : Calls Try.prog 127 #[encP x, encP y] w fun e w' => e = .returned (.int .i64 (cmpS x y)) ∧ ∃ q os', w' = grow (w.drewN q) os' := by
  refine (callsIn_wide (n := 0)).1 ?_
  refine callsIn_of_wp Try.func127 rfl trivial ?_ rfl
  simp only [Try.ntmps127, List.size_toArray, List.length_cons, List.length_nil, Nat.reduceAdd, Nat.reduceSub, Array.replicate_succ, Array.replicate_zero, List.push_toArray, List.append_toArray, List.nil_append, List.cons_append]
  have hcon := fun W' => cmp110 x y W'
  generalize cmpS x y = r at hcon ⊢
  gi_wp2_with (gi_at_call 110; refine ((callsIn_wide (n := 0)).2 (hcon _)).mono ?_; rintro e w' ⟨rfl, rfl⟩)
  go_ret
  exact ⟨rfl, 0, _, by rw [Sort.alloc_eq_grow, Sort.alloc_eq_grow, Sort.grow_grow]; rfl⟩

theorem cmpLays127 (blk off size : Nat) (w : World) : CmpLays Try.prog 127 #[] encC 1 cmpS blk off size w :=
  fun _ _ _ _ x y => cls127 x y _
theorem lt_cmp (x y : ByteArray) : ltOf cmpS x y = sl x y := by
  unfold ltOf cmpS
  cases h1 : sl x y
  · cases h2 : sl y x <;> simp
  · simp
theorem swo_cmp : SWO (ltOf cmpS) where
  irrefl x := by rw [lt_cmp]; exact sl_irrefl x
  trans x y z h1 h2 := by rw [lt_cmp] at *; exact sl_trans h1 h2
  ntrans x y z h1 h2 := by
    rw [lt_cmp] at *
    cases h3 : sl x z with
    | false => rfl
    | true =>
      by_cases e : y = z
      · subst e; rw [h1] at h3; cases h3
      · have h4 := (sl_total e).resolve_left (by rw [h2]; simp)
        have := sl_trans h3 h4
        rw [h1] at this; cases this

theorem flat1 (d : Array ByteArray) : flatK encC 1 d = d.map (Value.string) := by
  apply Array.ext
  · simp [flatK]
  · intro i h1 h2
    simp [flatK, encC, Nat.mod_one]
    simp at h2
    rw [getElem!_pos d i h2]
/-- A row of one's own holds what it holds. -/
theorem holds_of_row {W : World} {base g cap : Nat} {d : Array ByteArray} (h : W.ownsRow base 111 1 (.slice (some ⟨g, 0, none⟩) d.size cap) d.size (d.toList.map encS)) : HoldsK encC 1 W g 0 d := by
  intro j hj
  rw [flat1] at hj ⊢
  simp at hj
  have hc := h.cells (g := g) rfl j (.string d[j]) (by simp [hj])
  rw [addr_add] at hc
  refine ⟨by rw [hc]; simp [hj], ?_⟩
  rcases h.2 with ⟨e, _⟩ | ⟨g', cap', cur, e, _, hh, _⟩
  · cases e
  · simp at e
    obtain ⟨rfl, rfl⟩ := e
    simp [World.frozen?, hh]
theorem only_sortWorld {w : World} {blk off n : Nat} {d : Array ByteArray} {os : Array Obj} : Only (fun k => k = blk) w (sortWorldK encC 1 w blk off n d os) := by
  refine ⟨rfl, rfl, rfl, size_sortWorldK_c _ _ _ _ _ _ _ _, fun b hb hn => ?_⟩
  unfold sortWorldK
  rw [show ∀ (W : World) (os : Array Obj), b < W.heap.size → (grow W os).heap[b]? = W.heap[b]? from fun W os h => by simp [grow, Array.getElem?_append, h]]
  · simp [Sort.putRowK, Sort.putRow, Sort.mapBlock, Array.getElem?_modify, Ne.symm hn, Sort.ahead]
  · simpa [Sort.putRowK, Sort.putRow, Sort.mapBlock, Sort.ahead] using hb

/-- A rising list is the one order of its elements in which none is less than an earlier one. -/
theorem sorted_is {ks : List ByteArray} {d : Array ByteArray} (hr : ks.Pairwise fun a b => sl a b = true) (hp : d.toList.Perm ks) (hs : SortedIn (ltOf cmpS) 0 d.size d) : d.toList = ks := by
  have h1 : d.toList.Pairwise fun a b => sl b a = false := by
    rw [List.pairwise_iff_getElem]
    intro i j hi hj hij
    have := hs i j (Nat.zero_le _) hij (by simpa using hj)
    rw [lt_cmp] at this
    simp at hi hj
    rw [getElem!_pos d j hj, getElem!_pos d i hi] at this
    simpa using this
  exact hp.eq_of_pairwise (le := fun a b => sl b a = false) (fun a b _ _ h1 h2 => Decidable.byContradiction fun hne => (sl_total hne).elim (fun h => by rw [h] at h2; cases h2) (fun h => by rw [h] at h1; cases h1)) h1 (hr.imp fun h => sl_asymm h)
end Go.Proofs.Ytikomlcghplchaa
