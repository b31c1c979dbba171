/- slices.Clone, slices.Values, gen.Of at pairs of a string and an int. -/
import Derived.Test.YtikomlcghplchaaSndT
namespace Go.Proofs.Ytikomlcghplchaa
open Go.RowKit Go.Shelf
set_option linter.unusedVariables false
set_option linter.unusedSimpArgs false
attribute [local go_sem] Oper.semAt_some wide_fn wide_depth

/-- The slice v reads as xs: two cells each. -/
def ReadsQ (W : World) (v : Value) (xs : List (ByteArray × Int)) : Prop :=
  ((∃ a c, v = .slice a 0 c) ∧ xs = []) ∨ ∃ b off cap, v = .slice (some ⟨b, off, none⟩) xs.length cap ∧ xs.length ≤ cap ∧ ∀ j u, xs[j]? = some u → W.cell? ⟨b, off + j * 2, none⟩ = some (.string u.1) ∧ W.cell? ⟨b, off + j * 2 + 1, none⟩ = some (.int .i64 u.2)
theorem flatQ_even : ∀ (xs : List (ByteArray × Int)) (j : Nat) (u : ByteArray × Int), xs[j]? = some u → (xs.flatMap cellsQ)[j * 2]? = some (.string u.1) ∧ (xs.flatMap cellsQ)[j * 2 + 1]? = some (.int .i64 u.2)
  | [], j, u, h => by simp at h
  | x :: r, 0, u, h => by simp at h; subst h; simp [cellsQ]
  | x :: r, j + 1, u, h => by
    have := flatQ_even r j u (by simpa using h)
    simpa [List.flatMap_cons, cellsQ, Nat.add_mul] using this
theorem flatQ_length (xs : List (ByteArray × Int)) : (xs.flatMap cellsQ).length = xs.length * 2 := by
  induction xs with
  | nil => rfl
  | cons x r ih => simp [List.flatMap_cons, ih, Nat.add_mul]
theorem flatQ_one (xs : List (ByteArray × Int)) : ∀ u ∈ xs.flatMap cellsQ, u.oneCell' = true := by
  intro u hu
  obtain ⟨x, _, hx⟩ := List.mem_flatMap.1 hu
  simp [cellsQ] at hx
  rcases hx with rfl | rfl <;> rfl
theorem flatQ_cells {W : World} {b off : Nat} {xs : List (ByteArray × Int)} (h : ∀ j u, xs[j]? = some u → W.cell? ⟨b, off + j * 2, none⟩ = some (.string u.1) ∧ W.cell? ⟨b, off + j * 2 + 1, none⟩ = some (.int .i64 u.2)) (j : Nat) (u : Value) (hj : (xs.flatMap cellsQ)[j]? = some u) : W.cell? ⟨b, off + j, none⟩ = some u := by
  have hlt : j < xs.length * 2 := by rw [← flatQ_length]; exact (List.getElem?_eq_some_iff.1 hj).1
  have hk : j / 2 < xs.length := by omega
  have hu : xs[j / 2]? = some xs[j / 2] := by simp [hk]
  obtain ⟨e1, e2⟩ := flatQ_even xs (j / 2) _ hu
  obtain ⟨c1, c2⟩ := h _ _ hu
  rcases Nat.mod_two_eq_zero_or_one j with h0 | h0
  · have ej : j / 2 * 2 = j := by omega
    rw [ej] at e1 c1
    rw [e1] at hj
    rw [c1, hj]
  · have ej : j / 2 * 2 + 1 = j := by omega
    rw [ej] at e2
    rw [Nat.add_assoc, ej] at c2
    rw [e2] at hj
    rw [c2, hj]
theorem ReadsQ.of_row {W : World} {base e : Nat} {v : Value} {xs : List (ByteArray × Int)} (h : W.ownsRow base e 2 v xs.length (xs.flatMap cellsQ)) : ReadsQ W v xs := by
  rcases h.2 with ⟨rfl, h0⟩ | ⟨g, cap, cur, rfl, hg, hh, h1, h2, h3, h4⟩
  · exact .inl ⟨⟨_, _, rfl⟩, List.eq_nil_of_length_eq_zero h0⟩
  · refine .inr ⟨g, 0, cap, rfl, h1, fun j u hj => ?_⟩
    obtain ⟨e1, e2⟩ := flatQ_even xs j u hj
    have c1 := h.cells (g := g) rfl _ _ e1
    have c2 := h.cells (g := g) rfl _ _ e2
    rw [addr_add] at c1 c2
    exact ⟨c1, by rw [Nat.add_assoc]; exact c2⟩
theorem ReadsQ.below {W W' : World} {v : Value} {xs : List (ByteArray × Int)} (h : ReadsQ W v xs) (hB : Below W.heap.size W W') : ReadsQ W' v xs := by
  rcases h with h | ⟨b, off, cap, rfl, h1, h2⟩
  · exact .inl h
  · refine .inr ⟨b, off, cap, rfl, h1, fun j u hj => ?_⟩
    obtain ⟨c1, c2⟩ := h2 j u hj
    obtain ⟨o, ho, _⟩ := cells_of_cell c1
    exact ⟨(hB.cell (p := ⟨b, off + j * 2, none⟩) (Array.getElem?_eq_some_iff.1 ho).1).trans c1, (hB.cell (p := ⟨b, off + j * 2 + 1, none⟩) (Array.getElem?_eq_some_iff.1 ho).1).trans c2⟩
theorem ReadsQ.form {W : World} {v : Value} {xs : List (ByteArray × Int)} (h : ReadsQ W v xs) : ∃ a cap, v = .slice a xs.length cap := by
  rcases h with ⟨⟨a, c, rfl⟩, rfl⟩ | ⟨b, off, cap, rfl, _⟩
  · exact ⟨_, _, rfl⟩
  · exact ⟨_, _, rfl⟩

set_option maxRecDepth 100000 in
set_option maxHeartbeats 1000000 in
theorem cl106 (xs : List (ByteArray × Int)) (hlen : xs.length ≤ 100000) (v : Value) (w : World) (hv : ReadsQ w v xs) : Calls Try.prog 106 #[v] w (GivesPairsT xs w) := by
  obtain ⟨i0, hi, hz0, hz1, hz2⟩ := info_parts info90
  refine (callsIn_wide (n := 0)).1 ?_
  refine callsIn_of_wp Try.func106 rfl trivial ?_ rfl
  simp only [Try.ntmps106, List.size_toArray, List.length_cons, List.length_nil, Nat.reduceAdd, Nat.reduceSub, Array.replicate_succ, Array.replicate_zero, List.push_toArray, List.append_toArray, List.nil_append, List.cons_append]
  rcases hv with ⟨⟨a, c, rfl⟩, rfl⟩ | ⟨b, off, cap, rfl, h1, h2⟩
  · have q104 := fun w => Lib.run_eql_slice_nil (P := Try.prog) w 96 90 a 0 c 0 0 Try.underlying96
    cases a with
    | none =>
      gi_wp2
      go_ret
      exact ⟨_, rfl, World.ownsRow_nil _ _ _ _, Below.refl _ _⟩
    | some a =>
      gi_wp2_with (gi_at_builtin; refine wpListIn_append_own _ rfl _ _ 96 rfl w.heap.size 90 i0 (.agg #[.string ByteArray.empty, .int .i64 0]) 2 24 Try.underlying96 hi hz0 hz1 hz2 rfl (by decide) _ _ _ rfl (World.ownsRow_lit w #[] 0 (Nat.le_refl _) (by decide) rfl) a 0 c [] rfl (by simp) (by simp) (by simp) (by unfold maxLen; omega) (by omega) (by simp) ?_)
      intro v' w1 hown hgrow _
      gi_wp2
      go_ret
      refine ⟨_, rfl, by simpa using hown, ((Below.refl w.heap.size w).alloc (Nat.le_refl _) _).grown hgrow (by simp) (fun k hk => ?_)⟩
      simp [Value.ownBlock] at hk
      omega
  · have q104 := fun w => Lib.run_eql_slice_nil (P := Try.prog) w 96 90 (some ⟨b, off, none⟩) xs.length cap 0 0 Try.underlying96
    have H2 := Lib.hid h2
    clear h2
    gi_wp2_with (gi_at_builtin; refine wpListIn_append_own _ rfl _ _ 96 rfl w.heap.size 90 i0 (.agg #[.string ByteArray.empty, .int .i64 0]) 2 24 Try.underlying96 hi hz0 hz1 hz2 rfl (by decide) _ _ _ rfl (World.ownsRow_lit w #[] 0 (Nat.le_refl _) (by decide) rfl) ⟨b, off, none⟩ xs.length cap (xs.flatMap cellsQ) rfl (flatQ_length xs) ?_ (flatQ_one xs) (by unfold maxLen; omega) (by omega) (by simp) ?_)
    · intro j u hj
      rw [addr_add]
      have hc := flatQ_cells H2.out j u hj
      obtain ⟨o, ho, _⟩ := cells_of_cell hc
      exact (((Below.refl w.heap.size w).alloc (Nat.le_refl _) _).cell (p := ⟨b, off + j, none⟩) (Array.getElem?_eq_some_iff.1 ho).1).trans hc
    · intro v' w1 hown hgrow _
      gi_wp2
      go_ret
      refine ⟨_, rfl, by simpa using hown, ((Below.refl w.heap.size w).alloc (Nat.le_refl _) _).grown hgrow (by simp) (fun k hk => ?_)⟩
      simp [Value.ownBlock] at hk
      omega

set_option maxRecDepth 100000 in
set_option maxHeartbeats 1000000 in
theorem v105 (v : Value) (hv : ∃ a l c, v = .slice a l c) (w : World) :
    Calls Try.prog 105 #[v] w fun e w' => e = .returned (.func (.func 130) #[] #[.pointer (some ⟨w.heap.size, 0, none⟩)]) ∧ w.alloc (.cells #[v] 96) = w' := by
  obtain ⟨a, l, c, rfl⟩ := hv
  refine (callsIn_wide (n := 0)).1 ?_
  refine callsIn_of_wp Try.func105 rfl trivial ?_ rfl
  simp only [Try.ntmps105, List.size_toArray, List.length_cons, List.length_nil, Nat.reduceAdd, Nat.reduceSub, Array.replicate_succ, Array.replicate_zero, List.push_toArray, List.append_toArray, List.nil_append, List.cons_append]
  gi_wp2
  go_ret
  exact ⟨rfl, rfl⟩

set_option maxRecDepth 100000 in
set_option maxHeartbeats 1000000 in
theorem v130 (xs : List (ByteArray × Int)) (hlen : xs.length ≤ 100000) (fn : Fn) (lb : Array Value) (y v : Value) (hy : y = .func fn #[] lb) (bs : Nat) (C H : Nat → Prop) (W : World) (hb : Boxed W bs 96 v) (hv : ReadsQ W v xs)
    (hC : ∀ b, (b = bs ∨ ∃ o l c, v = .slice (some ⟨b, o, none⟩) l c) → ¬ H b) (J Jx : List (ByteArray × Int) → (Nat → Prop) → World → Prop) (hJ : Inv W.heap.size J) (hJx : Inv W.heap.size Jx)
    (hr : ∀ pre x rest H1 W1, xs = pre ++ x :: rest → J pre H1 W1 → CallV Try.prog y #[encQ x] W1 (RoundR J Jx (pre ++ [x]) H1 W1)) (h0 : J [] H W) :
    Calls Try.prog 130 #[y, .pointer (some ⟨bs, 0, none⟩)] W (EndR J Jx xs H W) := by
  subst hy
  refine (callsIn_wide (n := 0)).1 ?_
  refine callsIn_of_wp Try.func130 rfl trivial ?_ rfl
  simp only [Try.ntmps130, List.size_toArray, List.length_cons, List.length_nil, Nat.reduceAdd, Nat.reduceSub, Array.replicate_succ, Array.replicate_zero, List.push_toArray, List.append_toArray, List.nil_append, List.cons_append]
  have hc1 := hb.cell
  have Hr := Lib.hid hr
  clear hr
  rcases hv with ⟨⟨a, c, rfl⟩, rfl⟩ | ⟨b, off, cap, rfl, h1, h2⟩
  · gi_wp2
    gi_loopw [7] (fun i wr => i = .int .i64 0 ∧ wr = W) (fun _ _ => 0)
    case atStart => exact ⟨rfl, rfl⟩
    case round =>
      obtain ⟨rfl, rfl⟩ := hrel
      gi_wp2
      go_end0
      exact ⟨⟨_, rfl⟩, H, Grows.refl _ _, Only.refl _ _, .inl h0⟩
  · have H2 := Lib.hid h2
    clear h2
    gi_wp2
    gi_loopw [7] (fun i wr => ∃ (k : Nat) (H1 : Nat → Prop), k ≤ xs.length ∧ i = .int .i64 k ∧ J (xs.take k) H1 wr ∧ Grows H W H1 ∧ Only H W wr) (fun i _ => xs.length - (intOf i).toNat)
    case atStart => exact ⟨0, H, Nat.zero_le _, rfl, by simpa using h0, Grows.refl _ _, Only.refl _ _⟩
    case round =>
      obtain ⟨k, H1, hk, rfl, hj, hg, ho⟩ := hrel
      by_cases hlt : k < xs.length
      · have hcx : wr.cell? ⟨b, off + k * 2, none⟩ = some (.string xs[k].1) := by
          have hc := (H2.out k xs[k] (by simp [hlt])).1
          obtain ⟨o, ho', _⟩ := cells_of_cell hc
          exact (ho.cell (p := ⟨b, off + k * 2, none⟩) (Array.getElem?_eq_some_iff.1 ho').1 (hC b (.inr ⟨_, _, _, rfl⟩))).trans hc
        have hcy : wr.cell? ⟨b, off + k * 2 + 1, none⟩ = some (.int .i64 xs[k].2) := by
          have hc := (H2.out k xs[k] (by simp [hlt])).2
          obtain ⟨o, ho', _⟩ := cells_of_cell hc
          exact (ho.cell (p := ⟨b, off + k * 2 + 1, none⟩) (Array.getElem?_eq_some_iff.1 ho').1 (hC b (.inr ⟨_, _, _, rfl⟩))).trans hc
        obtain ⟨hx1, hx2⟩ := take_split hlt
        have hcall := Lib.hid (Hr.out (xs.take k) xs[k] (xs.drop (k + 1)) H1 (wr.alloc (.cells #[.string xs[k].1, .int .i64 xs[k].2] 90)) hx1 (hJ.alloc hj _))
        rw [hx2] at hcall
        clear hx1 hx2
        generalize xs[k] = x at *
        gi_wp2_with (refine wpListIn_callV (o := ⟨some 13, _, _, _, _, _⟩) rfl rfl _ _ _ rfl _ _ rfl rfl hcall.out ?_)
        rintro e W3 ⟨H3, hg3, ho3, hend⟩
        have hg3 : Grows H1 wr H3 := fun b hb => (hg3 b hb).imp id (fun e => by simp at e; omega)
        have ho3 := (Only.alloc H1 wr _).trans ho3 (Grows.refl _ _)
        have hg' : Grows H W H3 := hg.trans hg3 ho.size
        have ho' : Only H W W3 := ho.trans ho3 hg
        have HG := Lib.hid hg'
        have HO := Lib.hid ho'
        clear hg' ho' hg3 ho3 hcx hcy hcall
        rcases hend with ⟨rfl, hj3⟩ | ⟨rfl, hj3⟩
        · refine ⟨_, rfl, ?_⟩
          gi_wp2
          go_roundw
          case rel => exact ⟨k + 1, H3, by omega, by simp, hj3, HG.out, HO.out⟩
          case measure => simp [intOf]; omega
        · refine ⟨_, rfl, ?_⟩
          gi_wp2
          refine bodyPost_ret (results_none rfl _ _ _) rfl ?_
          exact ⟨⟨_, rfl⟩, H3, HG.out, HO.out, .inr ⟨_, List.take_prefix _ _, hj3⟩⟩
      · obtain rfl : k = xs.length := by omega
        gi_wp2
        go_end0
        rw [List.take_length] at hj
        exact ⟨⟨_, rfl⟩, H1, hg, ho, .inl hj⟩

/-- slices.Values's closure over a slice that reads as xs. -/
theorem values_seqT (xs : List (ByteArray × Int)) (hlen : xs.length ≤ 100000) {w : World} {v : Value} {bs : Nat} (hb : Boxed w bs 96 v) (hv : ReadsQ w v xs) (hlt : ∀ b, (∃ o l c, v = .slice (some ⟨b, o, none⟩) l c) → b < w.heap.size) :
    SeqV Try.prog (.func (.func 130) #[] #[.pointer (some ⟨bs, 0, none⟩)]) (fun k => k = bs ∨ ∃ o l c, v = .slice (some ⟨k, o, none⟩) l c) encQ xs w := by
  refine ⟨?_, 130, _, rfl, enters_of Try.func130 (by kernel_rfl) rfl, ?_⟩
  · rintro k (rfl | hk)
    · exact hb.lt
    · exact hlt k hk
  rintro y J Jx H W ⟨fn, lb, hy⟩ hC hCH hJ hJx hr h0
  refine v130 xs hlen fn lb y v hy bs (fun _ => False) H W ((hC bs (.inl rfl)).trans hb) ?_ (fun b hb' => hCH b hb') J Jx hJ hJx hr h0
  rcases hv with h | ⟨b, off, cap, rfl, h1, h2⟩
  · exact .inl h
  · exact .inr ⟨b, off, cap, rfl, h1, fun j u hj => ⟨(World.cell?_of_block (hC b (.inr ⟨_, _, _, rfl⟩))).trans (h2 j u hj).1, (World.cell?_of_block (hC b (.inr ⟨_, _, _, rfl⟩))).trans (h2 j u hj).2⟩⟩

set_option maxRecDepth 100000 in
set_option maxHeartbeats 1000000 in
/-- gen.Of(l). -/
theorem of79 (xs : List (ByteArray × Int)) (hlen : xs.length ≤ 100000) (v : Value) (w : World) (hv : ReadsQ w v xs) : Calls Try.prog 79 #[v] w (GivesSeq Try.prog (fun _ => False) encQ xs w) := by
  refine (callsIn_wide (n := 0)).1 ?_
  refine callsIn_of_wp Try.func79 rfl trivial ?_ rfl
  simp only [Try.ntmps79, List.size_toArray, List.length_cons, List.length_nil, Nat.reduceAdd, Nat.reduceSub, Array.replicate_succ, Array.replicate_zero, List.push_toArray, List.append_toArray, List.nil_append, List.cons_append]
  obtain ⟨a, l, c, hvs⟩ : ∃ a l c, v = .slice a l c := by
    rcases hv with ⟨⟨a, c, rfl⟩, _⟩ | ⟨b, off, cap, rfl, _⟩
    · exact ⟨_, _, _, rfl⟩
    · exact ⟨_, _, _, rfl⟩
  have Hv := Lib.hid hv
  clear hv
  subst hvs
  gi_wp2_with (gi_at_call 106; refine ((callsIn_wide (n := 0)).2 (cl106 xs hlen _ w Hv.out)).mono ?_; rintro e w1 ⟨v1, rfl, hrow, hB1⟩)
  have hvs : ∃ a l c, v1 = .slice a l c := by
    rcases hrow.2 with ⟨rfl, _⟩ | ⟨g, cap, cur, rfl, _⟩
    · exact ⟨_, _, _, rfl⟩
    · exact ⟨_, _, _, rfl⟩
  refine ((callsIn_wide (n := 0)).2 (v105 v1 hvs w1)).mono ?_
  rintro e w2 ⟨rfl, rfl⟩
  gi_wp2_with (gi_at_call 104; refine ((callsIn_wide (n := 0)).2 (sound104 _ _ _ _ (.inl rfl) _)).mono ?_; rintro e w' ⟨rfl, rfl⟩)
  go_ret
  have hB2 : Below w1.heap.size w1 ((w1.alloc (.cells #[v1] 96)).alloc (.cells #[.func (.func 130) #[] #[.pointer (some ⟨w1.heap.size, 0, none⟩)]] 94)) := ((Below.refl _ w1).alloc (Nat.le_refl _) _).alloc (by simp) _
  have b1 : Boxed ((w1.alloc (.cells #[v1] 96)).alloc (.cells #[.func (.func 130) #[] #[.pointer (some ⟨w1.heap.size, 0, none⟩)]] 94)) w1.heap.size 96 v1 := (Boxed.new w1 96 v1).alloc _
  have b2 : Boxed ((w1.alloc (.cells #[v1] 96)).alloc (.cells #[.func (.func 130) #[] #[.pointer (some ⟨w1.heap.size, 0, none⟩)]] 94)) (w1.heap.size + 1) 94 (.func (.func 130) #[] #[.pointer (some ⟨w1.heap.size, 0, none⟩)]) := by
    have := Boxed.new (w1.alloc (.cells #[v1] 96)) 94 (.func (.func 130) #[] #[.pointer (some ⟨w1.heap.size, 0, none⟩)]); rwa [World.size_alloc] at this
  have hblk : ∀ b, (∃ o l c, v1 = .slice (some ⟨b, o, none⟩) l c) → w.heap.size ≤ b ∧ b < w1.heap.size := by
    rintro b ⟨o, l, c, rfl⟩
    exact hrow.lt b rfl
  refine ⟨_, _, rfl, sound_seqT (values_seqT xs hlen b1 ((ReadsQ.of_row hrow).below hB2) (fun b hb => by have := (hblk b hb).2; have := hB2.size; omega)) b2, hB1.trans (hB2.mono hB1.size), ?_⟩
  have := hB1.size
  rintro k ((rfl | hk) | rfl)
  · exact .inr (by omega)
  · exact .inr (hblk k hk).1
  · exact .inr (by omega)
end Go.Proofs.Ytikomlcghplchaa
