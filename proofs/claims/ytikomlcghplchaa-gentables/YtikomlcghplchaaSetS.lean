/- The methods of a set of strings. -/
import Derived.Test.YtikomlcghplchaaTabB
import Derived.Test.YtikomlcghplchaaProg
import Derived.WalkSpells
import Derived.WalkLawsBesides
import Derived.Lib.Hide
import Derived.Laws.ResultCell
namespace Go.Proofs.Ytikomlcghplchaa
open Go.RowKit Go.Shelf
open Go.Maps (Keyed)
set_option linter.unusedVariables false
set_option linter.unusedSimpArgs false
attribute [local go_sem] Oper.semAt_some wide_fn wide_depth

abbrev TabS := TabB pairS Try.prog 9 78
abbrev StoredS := StoredB pairS Try.prog 9 78
theorem keyS : Keyed Try.prog 9 := Maps.string_keyed Try.underlying9
theorem zeroS (w : World) : (zeroValue 111).run Try.prog w = .ok (pairS.cell ByteArray.empty pairS.zero) w := Try.zeroValue111 w
theorem lookS {W : World} {b n : Nat} {l : List (ByteArray × Unit)} (h : pairS.Map Try.prog 9 W b n l) {x : ByteArray} (hx : x.size ≤ maxLen) :
    (Instr.lookup 74 (.map (some b)) (.string x) true).run Try.prog W = .ok (.tuple #[pairS.cellAt ByteArray.empty x l, .bool (hasK x l)]) W :=
  h.look Try.underlying9 Try.underlying74 (zeroS W) (by decide) hx
theorem cells111 : Try.prog.cellsOf 111 = 1 := by kernel_rfl
theorem bytes111 : Try.prog.bytesOf 111 = 24 := by kernel_rfl
theorem boc111 : byteOfCell Try.prog Try.prog.depth 111 0 = some 0 := by kernel_rfl
theorem part111 {w : World} {b : Nat} {v : Value} (h : Boxed w b 111 v) : (partAt ⟨b, 0, none⟩ 1 16).run Try.prog w = .ok ⟨b, 1, some 16⟩ w := by
  have h' : w.heap[b]? = some (.cells #[v] 111) := h
  have hs : w.shape? b = some (111, 1) := by simp [World.shape?, h']
  simp [partAt, byteOf, noView, viewAt, hs, cells111, bytes111, boc111, Result.andThen, Sem.run_bind]
theorem part111n (w : World) (o : Obj) (v : Value) : (partAt ⟨w.heap.size + 1, 0, none⟩ 1 16).run Try.prog ((w.alloc o).alloc (.cells #[v] 111)) = .ok ⟨w.heap.size + 1, 1, some 16⟩ ((w.alloc o).alloc (.cells #[v] 111)) := by
  have := Boxed.new (w.alloc o) 111 v
  rw [World.size_alloc] at this
  exact part111 this
theorem fold0 (f : Array Value → Value × Nat → Array Value) (a : Array Value) : Array.foldl f a (#[] : Array Value).zipIdx 0 0 = a := rfl
attribute [local go_sem] fold0

set_option maxRecDepth 100000 in
set_option maxHeartbeats 1000000 in
theorem get72 {W : World} {T N : Nat} {m : Option Nat} {l : List (ByteArray × Unit)} (h : TabS W T m N l) {x : ByteArray} (hx : x.size ≤ maxLen) :
    Calls Try.prog 72 #[.pointer (some ⟨T, 0, none⟩), .string x] W fun e w' => e = .returned (.tuple #[.agg #[], .bool (hasK x l)]) ∧ Below W.heap.size W w' := by
  refine (callsIn_wide (n := 0)).1 ?_
  refine callsIn_of_wp Try.func72 rfl trivial ?_ rfl
  simp only [Try.ntmps72, List.size_toArray, List.length_cons, List.length_nil, Nat.reduceAdd, Nat.reduceSub, Array.replicate_succ, Array.replicate_zero, List.push_toArray, List.append_toArray, List.nil_append, List.cons_append]
  have hp := part111n W (.cells #[] 80)
  have hc := h.1.cell
  have hl := h.1.lt
  rcases h.2 with ⟨rfl, rfl⟩ | ⟨b, rfl, hne, hm⟩
  · have hk := fun w => Maps.look_nil (P := Try.prog) (w := w) true keyS Try.underlying74 (zeroS w) (WideMaps.keyOf_string_mk Try.underlying9 hx)
    simp only [if_true, pairS] at hk
    have e0 : hasK x ([] : List (ByteArray × Unit)) = false := rfl
    rw [e0]
    gi_wp2
    refine bodyPost_ret (by simp [results, Try.f72, go_sem]) rfl ⟨rfl, ?_⟩
    exact ((Below.refl _ W).alloc (Nat.le_refl _) _).alloc (by simp) _
  · have hk : ∀ o, ∃ u, (Instr.lookup 74 (.map (some b)) (.string x) true).run Try.prog (W.alloc o) = .ok (.tuple #[.agg #[.string u], .bool (hasK x l)]) (W.alloc o) := fun o => by
      have := lookS (hm.alloc o) hx
      unfold PairK.cellAt at this
      cases hg : getK x l with
      | none => rw [hg] at this; exact ⟨_, this⟩
      | some v => rw [hg] at this; exact ⟨_, this⟩
    obtain ⟨u, hk⟩ := hk (.cells #[] 80)
    generalize hasK x l = r at hk ⊢
    gi_wp2
    refine bodyPost_ret (by simp [results, Try.f72, go_sem]) rfl ⟨rfl, ?_⟩
    exact ((Below.refl _ W).alloc (Nat.le_refl _) _).alloc (by simp) _

set_option maxRecDepth 100000 in
set_option maxHeartbeats 1000000 in
theorem len73 {W : World} {T N : Nat} {m : Option Nat} {l : List (ByteArray × Unit)} (h : TabS W T m N l) :
    Calls Try.prog 73 #[.pointer (some ⟨T, 0, none⟩)] W fun e w' => e = .returned (.int .i64 l.length) ∧ W = w' := by
  refine (callsIn_wide (n := 0)).1 ?_
  refine callsIn_of_wp Try.func73 rfl trivial ?_ rfl
  simp only [Try.ntmps73, List.size_toArray, List.length_cons, List.length_nil, Nat.reduceAdd, Nat.reduceSub, Array.replicate_succ, Array.replicate_zero, List.push_toArray, List.append_toArray, List.nil_append, List.cons_append]
  have hc := h.1.cell
  have hl := h.1.lt
  rcases h.2 with ⟨rfl, rfl⟩ | ⟨b, rfl, hne, hm⟩
  · have hk := fun w => Maps.len_nil (P := Try.prog) (w := w) Try.underlying74
    gi_wp2
    go_ret
    exact ⟨rfl, rfl⟩
  · have hk := hm.len Try.underlying74
    gi_wp2
    go_ret
    exact ⟨rfl, rfl⟩

set_option maxRecDepth 100000 in
set_option maxHeartbeats 1000000 in
theorem len38 {W : World} {T N : Nat} {m : Option Nat} {l : List (ByteArray × Unit)} (h : TabS W T m N l) :
    Calls Try.prog 38 #[.pointer (some ⟨T, 0, none⟩)] W fun e w' => e = .returned (.int .i64 l.length) ∧ W = w' := by
  refine (callsIn_wide (n := 0)).1 ?_
  refine callsIn_of_wp Try.func38 rfl trivial ?_ rfl
  simp only [Try.ntmps38, List.size_toArray, List.length_cons, List.length_nil, Nat.reduceAdd, Nat.reduceSub, Array.replicate_succ, Array.replicate_zero, List.push_toArray, List.append_toArray, List.nil_append, List.cons_append]
  have hc := h.1.cell
  have Hg := Lib.hid (len73 h)
  gi_wp2_with (gi_at_call 73; refine ((callsIn_wide (n := 0)).2 Hg.out).mono ?_; rintro e w1 ⟨rfl, rfl⟩)
  go_ret
  exact ⟨rfl, rfl⟩

set_option maxRecDepth 100000 in
set_option maxHeartbeats 1000000 in
theorem has37 {W : World} {T N : Nat} {m : Option Nat} {l : List (ByteArray × Unit)} (h : TabS W T m N l) {x : ByteArray} (hx : x.size ≤ maxLen) :
    Calls Try.prog 37 #[.pointer (some ⟨T, 0, none⟩), .string x] W fun e w' => e = .returned (.bool (hasK x l)) ∧ Below W.heap.size W w' := by
  refine (callsIn_wide (n := 0)).1 ?_
  refine callsIn_of_wp Try.func37 rfl trivial ?_ rfl
  simp only [Try.ntmps37, List.size_toArray, List.length_cons, List.length_nil, Nat.reduceAdd, Nat.reduceSub, Array.replicate_succ, Array.replicate_zero, List.push_toArray, List.append_toArray, List.nil_append, List.cons_append]
  have hc := h.1.cell
  have hg := get72 h hx
  generalize hasK x l = r at hg ⊢
  have Hg := Lib.hid hg
  clear h hg
  gi_wp2_with (gi_at_call 72; refine ((callsIn_wide (n := 0)).2 Hg.out).mono ?_; rintro e w1 ⟨rfl, hB1⟩)
  go_ret
  exact ⟨rfl, hB1.alloc hB1.size _⟩

set_option maxRecDepth 100000 in
set_option maxHeartbeats 1000000 in
theorem put70 {W : World} {T N : Nat} {m : Option Nat} {l : List (ByteArray × Unit)} (h : TabS W T m N l) (hN : N < 100000) {x : ByteArray} (hx : x.size ≤ maxLen) :
    Calls Try.prog 70 #[.pointer (some ⟨T, 0, none⟩), .string x, .agg #[]] W fun e w' => (∃ v, e = .returned v) ∧ StoredS T m W (N + 1) (putK x () l) w' := by
  refine (callsIn_wide (n := 0)).1 ?_
  refine callsIn_of_wp Try.func70 rfl trivial ?_ rfl
  simp only [Try.ntmps70, List.size_toArray, List.length_cons, List.length_nil, Nat.reduceAdd, Nat.reduceSub, Array.replicate_succ, Array.replicate_zero, List.push_toArray, List.append_toArray, List.nil_append, List.cons_append]
  have hmx : Try.prog.follows .mixedOrders = true := by kernel_rfl
  have hq := fun w r => run_eql_map_nil (P := Try.prog) w 74 9 111 r Try.underlying74
  have hmk := fun w => run_makeMap (P := Try.prog) 74 w
  have hT := h.1
  have hc := hT.cell
  have hl := hT.lt
  have hf := hT.frozen
  have hN' : N < maxLen := by unfold maxLen; omega
  rcases h.2 with ⟨rfl, rfl⟩ | ⟨b, rfl, hne, hm⟩
  · obtain ⟨W0, hW0⟩ : ∃ W0, W0 = (W.setCell ⟨T, 0, none⟩ (.map (some (W.heap.size + 1)))) := ⟨_, rfl⟩
    have hT2 : Boxed (((W0.alloc (.cells #[] 80)).alloc (.map #[] 0)).drew) T 78 (.map (some (W.heap.size + 1))) := by rw [hW0]; exact ((hT.set _).alloc _).alloc _
    have hmade : (((W0.alloc (.cells #[] 80)).alloc (.map #[] 0)).drew).ownsMap Try.prog 9 pairS.R (W.heap.size + 1) N (pairS.tab []) := by
      have := World.ownsMap_made (W0.alloc (.cells #[] 80)) Try.prog 9 pairS.R
      simp only [World.size_alloc, hW0, World.size_setCell] at this
      rw [hW0]
      exact (this.mono (Nat.zero_le _)).drew
    obtain ⟨W', hup, hm', hg'⟩ := PairK.Map.put (K := pairS) ⟨pairS.fine_nil, hmade⟩ hN' Try.underlying9 Try.underlying74 hx trivial (v := ())
    have hon : Only (fun k => k = T ∨ none = some k) W W' := by
      have e1 : Only (fun k => k = T ∨ none = some k) W (((W0.alloc (.cells #[] 80)).alloc (.map #[] 0)).drew) := by
        rw [hW0]
        exact ((Only.setCell (a := ⟨T, 0, none⟩) (.inl (.inl rfl)) _).trans (Only.alloc _ _ _) (Grows.refl _ _)).trans (Only.alloc _ _ _) (Grows.refl _ _) |>.trans (Only.drew _ _) (Grows.refl _ _)
      exact e1.trans (Only.of_grownBy (H := fun k => k = W.heap.size + 1) hg' (fun k hk => by simpa using hk.symm)) (fun k hk => .inr (by omega))
    have hc2 := hT2.cell
    have Hfin : Hid (StoredS T none W (N + 1) (putK x () []) W') := ⟨some (W.heap.size + 1), ⟨(hg'.block T hT2.lt (by simp; omega)).trans hT2, .inr ⟨_, rfl, by omega, hm'⟩⟩, fun k hk => .inr (by simp at hk; omega), hon⟩
    clear hon hm' hg' hmade hT2 hT h
    simp only [pairS] at hup
    subst hW0
    gi_wp2
    gi_region_with_o (fail)
    all_goals
      (try gi_wp2)
      go_end0
      exact ⟨⟨_, rfl⟩, Hfin.out⟩
  · obtain ⟨W', hup, hm', hg'⟩ := PairK.Map.put (K := pairS) (W := (W.alloc (.cells #[] 80)).drew) (hm.alloc _).drew hN' Try.underlying9 Try.underlying74 hx trivial (v := ())
    have hon : Only (fun k => k = T ∨ some b = some k) W W' :=
      ((Only.alloc _ W _).trans (Only.drew _ _) (Grows.refl _ _)).trans (Only.of_grownBy (H := fun k => k = T ∨ some b = some k) hg' (fun k hk => .inr hk)) (Grows.refl _ _)
    have hT2 : Boxed (W.alloc (.cells #[] 80)).drew T 78 (.map (some b)) := hT.alloc _
    have Hfin : Hid (StoredS T (some b) W (N + 1) (putK x () l) W') := ⟨some b, ⟨(hg'.block T hT2.lt (by simp; omega)).trans hT2, .inr ⟨_, rfl, hne, hm'⟩⟩, fun k hk => .inl hk, hon⟩
    clear hon hm' hg' hT2 hT h hm
    simp only [pairS] at hup
    gi_wp2
    gi_region_with_o (fail)
    all_goals
      (try gi_wp2)
      go_end0
      exact ⟨⟨_, rfl⟩, Hfin.out⟩

set_option maxRecDepth 100000 in
set_option maxHeartbeats 1000000 in
/-- s.Add(x). -/
theorem add35 {W : World} {T N : Nat} {m : Option Nat} {l : List (ByteArray × Unit)} (h : TabS W T m N l) (hN : N < 100000) {x : ByteArray} (hx : x.size ≤ maxLen) :
    Calls Try.prog 35 #[.pointer (some ⟨T, 0, none⟩), .string x] W fun e w' => e = .returned (.bool (!hasK x l)) ∧ StoredS T m W (N + 1) (if hasK x l then l else putK x () l) w' := by
  refine (callsIn_wide (n := 0)).1 ?_
  refine callsIn_of_wp Try.func35 rfl trivial ?_ rfl
  simp only [Try.ntmps35, List.size_toArray, List.length_cons, List.length_nil, Nat.reduceAdd, Nat.reduceSub, Array.replicate_succ, Array.replicate_zero, List.push_toArray, List.append_toArray, List.nil_append, List.cons_append]
  have hc := h.1.cell
  have Hh := Lib.hid h
  have Hg := has37 h hx
  cases hm : hasK x l with
  | true =>
    simp only [hm] at Hg ⊢
    have Hg := Lib.hid Hg
    have Hst := Lib.hid (fun w1 (hB : Below W.heap.size W w1) => (h.mono (Nat.le_succ N)).same hB)
    clear h
    gi_wp2_with (gi_at_call 37; refine ((callsIn_wide (n := 0)).2 Hg.out).mono ?_; rintro e w1 ⟨rfl, hB1⟩)
    go_ret
    exact ⟨rfl, Hst.out _ hB1⟩
  | false =>
    simp only [hm] at Hg ⊢
    have Hg := Lib.hid Hg
    clear h
    gi_wp2_with (gi_at_call 37; refine ((callsIn_wide (n := 0)).2 Hg.out).mono ?_; rintro e w1 ⟨rfl, hB1⟩; have hc1 := (Hh.out.below hB1).1.cell)
    refine ((callsIn_wide (n := 0)).2 (put70 (Hh.out.below hB1) hN hx)).mono ?_
    rintro e w2 ⟨⟨u, rfl⟩, m2, h2, hm2, ho2⟩
    gi_wp2
    go_ret
    exact ⟨rfl, m2, h2, fun k hk => (hm2 k hk).imp id (Nat.le_trans hB1.size), (Only.of_below hB1).trans ho2 (Grows.refl _ _)⟩

set_option maxRecDepth 100000 in
set_option maxHeartbeats 1000000 in
theorem del71 {W : World} {T N : Nat} {m : Option Nat} {l : List (ByteArray × Unit)} (h : TabS W T m N l) {x : ByteArray} (hx : x.size ≤ maxLen) :
    Calls Try.prog 71 #[.pointer (some ⟨T, 0, none⟩), .string x] W fun e w' => e = .returned (.bool (hasK x l)) ∧ StoredS T m W N (delK x l) w' := by
  refine (callsIn_wide (n := 0)).1 ?_
  refine callsIn_of_wp Try.func71 rfl trivial ?_ rfl
  simp only [Try.ntmps71, List.size_toArray, List.length_cons, List.length_nil, Nat.reduceAdd, Nat.reduceSub, Array.replicate_succ, Array.replicate_zero, List.push_toArray, List.append_toArray, List.nil_append, List.cons_append]
  have hc := h.1.cell
  have Hh := Lib.hid h
  have Hg := get72 h hx
  cases hm : hasK x l with
  | false =>
    simp only [hm] at Hg ⊢
    have Hg := Lib.hid Hg
    have Hst := Lib.hid (fun w1 (hB : Below W.heap.size W w1) => h.same hB)
    rw [delK_none hm]
    clear h
    gi_wp2_with (gi_at_call 72; refine ((callsIn_wide (n := 0)).2 Hg.out).mono ?_; rintro e w1 ⟨rfl, hB1⟩)
    go_ret
    exact ⟨rfl, Hst.out _ (hB1.alloc hB1.size _)⟩
  | true =>
    simp only [hm] at Hg ⊢
    obtain ⟨b, rfl⟩ : ∃ b, m = some b := by
      rcases h.2 with ⟨_, rfl⟩ | ⟨b, e, _⟩
      · simp [hasK] at hm
      · exact ⟨b, e⟩
    have hD : ∀ w1, Below W.heap.size W w1 → ∃ W', (Builtin.delete_ #[74, 9] 0 #[.map (some b), .string x]).run Try.prog (w1.alloc (.cells #[] 80)) = .ok (.tuple #[]) W' ∧ StoredS T (some b) W N (delK x l) W' := fun w1 hB => by
      have hB' := hB.alloc hB.size (.cells #[] 80)
      have h1 := h.below hB'
      obtain ⟨hne, hM⟩ := h1.map
      obtain ⟨W', hdel, hm', hg'⟩ := hM.drop Try.underlying9 Try.underlying74 hx 0
      exact ⟨W', hdel, some b, ⟨(hg'.block T h1.lt (by simpa using hne.symm)).trans h1.1, .inr ⟨b, rfl, hne, hm'⟩⟩, fun k hk => .inl hk,
        (Only.of_below (H := fun k => k = T ∨ some b = some k) hB').trans (Only.of_grownBy hg' (fun k hk => .inr hk)) (Grows.refl _ _)⟩
    have HD := Lib.hid hD
    have Hg := Lib.hid Hg
    clear h hD
    gi_wp2_with (gi_at_call 72; refine ((callsIn_wide (n := 0)).2 Hg.out).mono ?_; rintro e w1 ⟨rfl, hB1⟩; have hc1 := (Hh.out.below hB1).1.cell; have hl1 := (Hh.out.below hB1).lt; obtain ⟨W', hdel, hst⟩ := HD.out w1 hB1)
    go_ret
    exact ⟨rfl, hst⟩

set_option maxRecDepth 100000 in
set_option maxHeartbeats 1000000 in
/-- s.Remove(x). -/
theorem remove36 {W : World} {T N : Nat} {m : Option Nat} {l : List (ByteArray × Unit)} (h : TabS W T m N l) {x : ByteArray} (hx : x.size ≤ maxLen) :
    Calls Try.prog 36 #[.pointer (some ⟨T, 0, none⟩), .string x] W fun e w' => e = .returned (.bool (hasK x l)) ∧ StoredS T m W N (delK x l) w' := by
  refine (callsIn_wide (n := 0)).1 ?_
  refine callsIn_of_wp Try.func36 rfl trivial ?_ rfl
  simp only [Try.ntmps36, List.size_toArray, List.length_cons, List.length_nil, Nat.reduceAdd, Nat.reduceSub, Array.replicate_succ, Array.replicate_zero, List.push_toArray, List.append_toArray, List.nil_append, List.cons_append]
  have hc := h.1.cell
  have Hg := Lib.hid (del71 h hx)
  clear h
  gi_wp2_with (gi_at_call 71; refine ((callsIn_wide (n := 0)).2 Hg.out).mono ?_; rintro e w1 ⟨rfl, hst⟩)
  go_ret
  exact ⟨rfl, hst⟩

set_option maxRecDepth 100000 in
set_option maxHeartbeats 1000000 in
/-- gen.NewSet[string](). -/
theorem new34 (W : World) : Calls Try.prog 34 #[.slice none 0 0] W fun e w' => e = .returned (.pointer (some ⟨W.heap.size, 0, none⟩)) ∧ TabS w' W.heap.size none 0 [] ∧ Below W.heap.size W w' := by
  refine (callsIn_wide (n := 0)).1 ?_
  refine callsIn_of_wp Try.func34 rfl trivial ?_ rfl
  simp only [Try.ntmps34, List.size_toArray, List.length_cons, List.length_nil, Nat.reduceAdd, Nat.reduceSub, Array.replicate_succ, Array.replicate_zero, List.push_toArray, List.append_toArray, List.nil_append, List.cons_append]
  gi_wp2
  gi_loopw [10] (fun i wr => i = .int .i64 0 ∧ TabS wr W.heap.size none 0 [] ∧ Below W.heap.size W wr) (fun _ _ => 0)
  case atStart => exact ⟨rfl, TabB.empty W, (Below.refl _ W).alloc (Nat.le_refl _) _⟩
  case round =>
    obtain ⟨rfl, hT, hB⟩ := hrel
    gi_wp2
    go_ret
    exact ⟨rfl, hT, hB⟩
end Go.Proofs.Ytikomlcghplchaa
