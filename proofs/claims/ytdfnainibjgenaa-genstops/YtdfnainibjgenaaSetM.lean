/- The methods of a table and a set of ints. -/
import Derived.Test.YtdfnainibjgenaaSetI
import Derived.Laws.ResultCell
namespace Go.Proofs.Ytdfnainibjgenaa
open Go.RowKit Go.Shelf
open Go.Maps (Keyed)
set_option linter.unusedVariables false
set_option linter.unusedSimpArgs false
attribute [local go_sem] Oper.semAt_some wide_fn wide_depth

/-- The table in block T, its map m, holds ks. -/
def TabI (W : World) (T : Nat) (m : Option Nat) (N : Nat) (ks : List Int) : Prop :=
  Boxed W T 103 (.map m) ∧ ((m = none ∧ ks = []) ∨ ∃ b, m = some b ∧ b ≠ T ∧ TabM W b N ks)
theorem TabM.alloc {W : World} {b n : Nat} {ks : List Int} (h : TabM W b n ks) (o : Obj) : TabM (W.alloc o) b n ks := ⟨h.1, h.2.alloc o⟩
theorem TabI.rising {W : World} {T : Nat} {m : Option Nat} {N : Nat} {ks : List Int} (h : TabI W T m N ks) : Rising ks := by
  rcases h.2 with ⟨_, rfl⟩ | ⟨b, _, _, hm⟩
  · exact rising_nil
  · exact hm.1
/-- The table stays while other blocks turn. -/
theorem TabI.only {W W' : World} {T : Nat} {m : Option Nat} {N : Nat} {ks : List Int} {H : Nat → Prop} (h : TabI W T m N ks) (ho : Only H W W') (hT : ¬ H T) (hb : ∀ b, m = some b → ¬ H b) : TabI W' T m N ks := by
  refine ⟨ho.boxed h.1 hT, h.2.imp id ?_⟩
  rintro ⟨b, hm, hne, hr, hown⟩
  refine ⟨b, hm, hne, hr, ?_⟩
  have hlt := hown.lt
  obtain ⟨es, clock, hbl, r⟩ := hown
  exact ⟨es, clock, (ho.block b hlt (hb b hm)).trans hbl, r⟩
theorem TabI.below {W W' : World} {T : Nat} {m : Option Nat} {N : Nat} {ks : List Int} (h : TabI W T m N ks) (ho : Below W.heap.size W W') : TabI W' T m N ks :=
  h.only (Only.of_below (H := fun _ => False) ho) (fun h => h) (fun _ _ h => h)
theorem TabI.lt {W : World} {T : Nat} {m : Option Nat} {N : Nat} {ks : List Int} (h : TabI W T m N ks) : T < W.heap.size := h.1.lt
theorem TabI.mlt {W : World} {T : Nat} {m : Option Nat} {N : Nat} {ks : List Int} (h : TabI W T m N ks) {b : Nat} (hb : m = some b) : b < W.heap.size := by
  rcases h.2 with ⟨hn, _⟩ | ⟨b', hm, _, hr⟩
  · rw [hn] at hb; cases hb
  · rw [hm] at hb; cases hb; exact hr.2.lt
theorem cells132 : Try.prog.cellsOf 132 = 1 := by kernel_rfl
theorem bytes132 : Try.prog.bytesOf 132 = 16 := by kernel_rfl
theorem boc132 : byteOfCell Try.prog Try.prog.depth 132 0 = some 0 := by kernel_rfl
theorem part132 {w : World} {b : Nat} {v : Value} (h : Boxed w b 132 v) : (partAt ⟨b, 0, none⟩ 1 8).run Try.prog w = .ok ⟨b, 1, some 8⟩ w := by
  have h' : w.heap[b]? = some (.cells #[v] 132) := h
  have hs : w.shape? b = some (132, 1) := by simp [World.shape?, h']
  simp [partAt, byteOf, noView, viewAt, hs, cells132, bytes132, boc132, Result.andThen, Sem.run_bind]
theorem part132n (w : World) (o : Obj) (v : Value) : (partAt ⟨w.heap.size + 1, 0, none⟩ 1 8).run Try.prog ((w.alloc o).alloc (.cells #[v] 132)) = .ok ⟨w.heap.size + 1, 1, some 8⟩ ((w.alloc o).alloc (.cells #[v] 132)) := by
  have := Boxed.new (w.alloc o) 132 v
  rw [World.size_alloc] at this
  exact part132 this

set_option maxRecDepth 100000 in
set_option maxHeartbeats 1000000 in
theorem get85 {W : World} {T N : Nat} {m : Option Nat} {ks : List Int} (h : TabI W T m N ks) {x : Int} (hx : (Lit.int .i64 x).wf = true) :
    Calls Try.prog 85 #[.pointer (some ⟨T, 0, none⟩), .int .i64 x] W fun e w' => e = .returned (.tuple #[.agg #[], .bool (decide (x ∈ ks))]) ∧ Below W.heap.size W w' := by
  refine (callsIn_wide (n := 0)).1 ?_
  refine callsIn_of_wp Try.func85 rfl trivial ?_ rfl
  simp only [Try.ntmps85, List.size_toArray, List.length_cons, List.length_nil, Nat.reduceAdd, Nat.reduceSub, Array.replicate_succ, Array.replicate_zero, List.push_toArray, List.append_toArray, List.nil_append, List.cons_append]
  have hp := part132n W (.cells #[] 80)
  have hc := h.1.cell
  have hl := h.1.lt
  rcases h.2 with ⟨rfl, rfl⟩ | ⟨b, rfl, hne, hm⟩
  · have hk := fun w => Maps.look_nil (P := Try.prog) (w := w) true keyed3 Try.underlying99 (zero132 w) (Maps.keyOf_int_mk Try.underlying3 hx)
    simp only [if_true] at hk
    gi_wp2
    refine bodyPost_ret (by simp [results, Try.f85, go_sem]) rfl ⟨rfl, ?_⟩
    exact ((Below.refl _ W).alloc (Nat.le_refl _) _).alloc (by simp) _
  · have hk := fun o => (hm.alloc o).look hx
    generalize (if x ∈ ks then x else 0) = u at hk
    generalize decide (x ∈ ks) = r at hk ⊢
    gi_wp2
    refine bodyPost_ret (by simp [results, Try.f85, go_sem]) rfl ⟨rfl, ?_⟩
    exact ((Below.refl _ W).alloc (Nat.le_refl _) _).alloc (by simp) _

set_option maxRecDepth 100000 in
set_option maxHeartbeats 1000000 in
theorem len83 {W : World} {T N : Nat} {m : Option Nat} {ks : List Int} (h : TabI W T m N ks) :
    Calls Try.prog 83 #[.pointer (some ⟨T, 0, none⟩)] W fun e w' => e = .returned (.int .i64 ks.length) ∧ W = w' := by
  refine (callsIn_wide (n := 0)).1 ?_
  refine callsIn_of_wp Try.func83 rfl trivial ?_ rfl
  simp only [Try.ntmps83, List.size_toArray, List.length_cons, List.length_nil, Nat.reduceAdd, Nat.reduceSub, Array.replicate_succ, Array.replicate_zero, List.push_toArray, List.append_toArray, List.nil_append, List.cons_append]
  have hc := h.1.cell
  have hl := h.1.lt
  rcases h.2 with ⟨rfl, rfl⟩ | ⟨b, rfl, hne, hm⟩
  · have hk := fun w => Maps.len_nil (P := Try.prog) (w := w) Try.underlying99
    gi_wp2
    go_ret
    exact ⟨rfl, rfl⟩
  · have hk := hm.2.len Try.underlying99
    rw [setD_size] at hk
    gi_wp2
    go_ret
    exact ⟨rfl, rfl⟩

set_option maxRecDepth 100000 in
set_option maxHeartbeats 1000000 in
theorem len51 {W : World} {T N : Nat} {m : Option Nat} {ks : List Int} (h : TabI W T m N ks) :
    Calls Try.prog 51 #[.pointer (some ⟨T, 0, none⟩)] W fun e w' => e = .returned (.int .i64 ks.length) ∧ W = w' := by
  refine (callsIn_wide (n := 0)).1 ?_
  refine callsIn_of_wp Try.func51 rfl trivial ?_ rfl
  simp only [Try.ntmps51, List.size_toArray, List.length_cons, List.length_nil, Nat.reduceAdd, Nat.reduceSub, Array.replicate_succ, Array.replicate_zero, List.push_toArray, List.append_toArray, List.nil_append, List.cons_append]
  have hc := h.1.cell
  have Hg := Lib.hid (len83 h)
  gi_wp2_with (gi_at_call 83; refine ((callsIn_wide (n := 0)).2 Hg.out).mono ?_; rintro e w1 ⟨rfl, rfl⟩)
  go_ret
  exact ⟨rfl, rfl⟩

set_option maxRecDepth 100000 in
set_option maxHeartbeats 1000000 in
theorem has56 {W : World} {T N : Nat} {m : Option Nat} {ks : List Int} (h : TabI W T m N ks) {x : Int} (hx : (Lit.int .i64 x).wf = true) :
    Calls Try.prog 56 #[.pointer (some ⟨T, 0, none⟩), .int .i64 x] W fun e w' => e = .returned (.bool (decide (x ∈ ks))) ∧ Below W.heap.size W w' := by
  refine (callsIn_wide (n := 0)).1 ?_
  refine callsIn_of_wp Try.func56 rfl trivial ?_ rfl
  simp only [Try.ntmps56, List.size_toArray, List.length_cons, List.length_nil, Nat.reduceAdd, Nat.reduceSub, Array.replicate_succ, Array.replicate_zero, List.push_toArray, List.append_toArray, List.nil_append, List.cons_append]
  have hc := h.1.cell
  have hg := get85 h hx
  generalize decide (x ∈ ks) = r at hg ⊢
  have Hg := Lib.hid hg
  clear h hg
  gi_wp2_with (gi_at_call 85; refine ((callsIn_wide (n := 0)).2 Hg.out).mono ?_; rintro e w1 ⟨rfl, hB1⟩)
  go_ret
  exact ⟨rfl, hB1.alloc hB1.size _⟩

/-- x is put into the map. -/
theorem TabM.put {W : World} {b n : Nat} {ks : List Int} (h : TabM W b n ks) (hn : n < 100000) {x : Int} (hx : (Lit.int .i64 x).wf = true) :
    ∃ W', (Instr.mapUpdate 99 (.map (some b)) (.int .i64 x) (.agg #[.int .i64 x])).run Try.prog W = .ok () W' ∧ TabM W' b (n + 1) (ins x ks) ∧ W.grownBy W' (some b) := by
  obtain ⟨W', hrun, r1, r2⟩ := h.2.update keyed3 Try.underlying99 (by unfold maxLen; omega) (Maps.keyOf_int_mk Try.underlying3 hx) (pairI_mk hx)
  exact ⟨W', hrun, ⟨ins_rising hx h.1, by rw [← setD_put h.1]; exact r1⟩, r2⟩
theorem fold0 (f : Array Value → Value × Nat → Array Value) (a : Array Value) : Array.foldl f a (#[] : Array Value).zipIdx 0 0 = a := rfl
attribute [local go_sem] fold0
/-- Behind a store into the table: its new state; nothing else has turned. -/
def Stored (T : Nat) (m : Option Nat) (W : World) (N : Nat) (ks : List Int) (w' : World) : Prop :=
  ∃ m', TabI w' T m' N ks ∧ (∀ k, m' = some k → m = some k ∨ W.heap.size ≤ k) ∧ Only (fun k => k = T ∨ m = some k) W w'

set_option maxRecDepth 100000 in
set_option maxHeartbeats 1000000 in
theorem put84 {W : World} {T N : Nat} {m : Option Nat} {ks : List Int} (h : TabI W T m N ks) (hN : N < 100000) {x : Int} (hx : (Lit.int .i64 x).wf = true) :
    Calls Try.prog 84 #[.pointer (some ⟨T, 0, none⟩), .int .i64 x, .agg #[]] W fun e w' => (∃ v, e = .returned v) ∧ Stored T m W (N + 1) (ins x ks) w' := by
  refine (callsIn_wide (n := 0)).1 ?_
  refine callsIn_of_wp Try.func84 rfl trivial ?_ rfl
  simp only [Try.ntmps84, List.size_toArray, List.length_cons, List.length_nil, Nat.reduceAdd, Nat.reduceSub, Array.replicate_succ, Array.replicate_zero, List.push_toArray, List.append_toArray, List.nil_append, List.cons_append]
  have hmx : Try.prog.follows .mixedOrders = true := by kernel_rfl
  have hq := fun w r => run_eql_map_nil (P := Try.prog) w 99 3 132 r Try.underlying99
  have hmk := fun w => run_makeMap (P := Try.prog) 99 w
  have hT := h.1
  have hc := hT.cell
  have hl := hT.lt
  have hf := hT.frozen
  rcases h.2 with ⟨rfl, rfl⟩ | ⟨b, rfl, hne, hm⟩
  · have hT2 : Boxed ((((W.setCell ⟨T, 0, none⟩ (.map (some (W.heap.size + 1)))).alloc (.cells #[] 80)).alloc (.map #[] 0)).drew) T 103 (.map (some (W.heap.size + 1))) := ((hT.set _).alloc _).alloc _
    have hmade : ((((W.setCell ⟨T, 0, none⟩ (.map (some (W.heap.size + 1)))).alloc (.cells #[] 80)).alloc (.map #[] 0)).drew).ownsMap Try.prog 3 pairI (W.heap.size + 1) N (setD []) := by
      have := World.ownsMap_made ((W.setCell ⟨T, 0, none⟩ (.map (some (W.heap.size + 1)))).alloc (.cells #[] 80)) Try.prog 3 pairI
      rw [World.size_alloc, World.size_setCell] at this
      exact (this.mono (Nat.zero_le _)).drew
    obtain ⟨W', hup, hm', hg'⟩ := TabM.put ⟨rising_nil, hmade⟩ hN hx
    have hon : Only (fun k => k = T ∨ none = some k) W W' := by
      have e1 : Only (fun k => k = T ∨ none = some k) W ((((W.setCell ⟨T, 0, none⟩ (.map (some (W.heap.size + 1)))).alloc (.cells #[] 80)).alloc (.map #[] 0)).drew) :=
        (((Only.setCell (a := ⟨T, 0, none⟩) (.inl (.inl rfl)) _).trans (Only.alloc _ _ _) (Grows.refl _ _)).trans (Only.alloc _ _ _) (Grows.refl _ _)).trans (Only.drew _ _) (Grows.refl _ _)
      exact e1.trans (Only.of_grownBy (H := fun k => k = W.heap.size + 1) hg' (fun k hk => by simpa using hk.symm)) (fun k hk => .inr (by omega))
    have hc2 := hT2.cell
    have Hfin : Hid (Stored T none W (N + 1) (ins x []) W') := ⟨some (W.heap.size + 1), ⟨(hg'.block T hT2.lt (by simp; omega)).trans hT2, .inr ⟨_, rfl, by omega, hm'⟩⟩, fun k hk => .inr (by simp at hk; omega), hon⟩
    clear hon hm' hg' hmade hT2 hT h
    gi_wp2
    gi_region_with_o (fail)
    all_goals
      (try gi_wp2)
      go_end0
      exact ⟨⟨_, rfl⟩, Hfin.out⟩
  · obtain ⟨W', hup, hm', hg'⟩ := TabM.put (W := (W.alloc (.cells #[] 80)).drew) ⟨hm.1, (hm.2.alloc _).drew⟩ hN hx
    have hon : Only (fun k => k = T ∨ some b = some k) W W' :=
      ((Only.alloc _ W _).trans (Only.drew _ _) (Grows.refl _ _)).trans (Only.of_grownBy (H := fun k => k = T ∨ some b = some k) hg' (fun k hk => .inr hk)) (Grows.refl _ _)
    have hT2 : Boxed (W.alloc (.cells #[] 80)).drew T 103 (.map (some b)) := hT.alloc _
    have Hfin : Hid (Stored T (some b) W (N + 1) (ins x ks) W') := ⟨some b, ⟨(hg'.block T hT2.lt (by simp; omega)).trans hT2, .inr ⟨_, rfl, hne, hm'⟩⟩, fun k hk => .inl hk, hon⟩
    clear hon hm' hg' hT2 hT h hm
    gi_wp2
    gi_region_with_o (fail)
    all_goals
      (try gi_wp2)
      go_end0
      exact ⟨⟨_, rfl⟩, Hfin.out⟩

set_option maxRecDepth 100000 in
set_option maxHeartbeats 1000000 in
/-- s.Add(x). -/
theorem add52 {W : World} {T N : Nat} {m : Option Nat} {ks : List Int} (h : TabI W T m N ks) (hN : N < 100000) {x : Int} (hx : (Lit.int .i64 x).wf = true) :
    Calls Try.prog 52 #[.pointer (some ⟨T, 0, none⟩), .int .i64 x] W fun e w' => e = .returned (.bool (!decide (x ∈ ks))) ∧ Stored T m W (N + 1) (ins x ks) w' := by
  refine (callsIn_wide (n := 0)).1 ?_
  refine callsIn_of_wp Try.func52 rfl trivial ?_ rfl
  simp only [Try.ntmps52, List.size_toArray, List.length_cons, List.length_nil, Nat.reduceAdd, Nat.reduceSub, Array.replicate_succ, Array.replicate_zero, List.push_toArray, List.append_toArray, List.nil_append, List.cons_append]
  have hc := h.1.cell
  have Hh := Lib.hid h
  have Hg := has56 h hx
  by_cases hm : x ∈ ks
  · simp only [hm, decide_true] at Hg ⊢
    have Hg := Lib.hid Hg
    rw [ins_of_mem h.rising.1 hm]
    have hst : ∀ w1, Below W.heap.size W w1 → Stored T m W (N + 1) ks w1 := by
      intro w1 hB
      have h1 := h.below hB
      refine ⟨m, ⟨h1.1, h1.2.imp id ?_⟩, fun k hk => .inl hk, Only.of_below hB⟩
      rintro ⟨b, hb, hne, hr, hown⟩
      exact ⟨b, hb, hne, hr, hown.mono (by omega)⟩
    have Hst := Lib.hid hst
    clear hst h
    gi_wp2_with (gi_at_call 56; refine ((callsIn_wide (n := 0)).2 Hg.out).mono ?_; rintro e w1 ⟨rfl, hB1⟩)
    go_ret
    exact ⟨rfl, Hst.out _ hB1⟩
  · simp only [hm, decide_false] at Hg ⊢
    have Hg := Lib.hid Hg
    clear h
    gi_wp2_with (gi_at_call 56; refine ((callsIn_wide (n := 0)).2 Hg.out).mono ?_; rintro e w1 ⟨rfl, hB1⟩; have hc1 := (Hh.out.below hB1).1.cell)
    refine ((callsIn_wide (n := 0)).2 (put84 (Hh.out.below hB1) hN hx)).mono ?_
    rintro e w2 ⟨⟨u, rfl⟩, m2, h2, hm2, ho2⟩
    gi_wp2
    go_ret
    exact ⟨rfl, m2, h2, fun k hk => (hm2 k hk).imp id (Nat.le_trans hB1.size), (Only.of_below hB1).trans ho2 (Grows.refl _ _)⟩
end Go.Proofs.Ytdfnainibjgenaa
