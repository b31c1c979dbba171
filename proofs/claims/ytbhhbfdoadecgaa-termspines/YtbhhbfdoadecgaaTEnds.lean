/- What the rows tell of terms, as the walks want it. -/
import Derived.Test.YtbhhbfdoadecgaaEnds
import Derived.Test.YtbhhbfdoadecgaaLev6
namespace Go.Proofs.Ytbhhbfdoadecgaa
open Go.RowKit Go.Shelf Go.ChangeShapes Go.WideShapes
set_option maxRecDepth 100000
set_option linter.unusedVariables false
set_option linter.unusedSimpArgs false
theorem cells27 : Try.prog.cellsOf 27 = 8 := by kernel_rfl
theorem cells25 : Try.prog.cellsOf 25 = 1 := by kernel_rfl
theorem cells9 : Try.prog.cellsOf 9 = 1 := by kernel_rfl
theorem in64_of {n : Int} (h : (Lit.int .i64 n).wf = true) : in64 n := by
 have h2 : IntKind.i64.min = -9223372036854775808 := by decide
 have h3 : IntKind.i64.max = 9223372036854775807 := by decide
 simp only [Lit.wf, h2, h3, Bool.and_eq_true, decide_eq_true_eq] at h
 unfold in64
 omega
section
variable {H : Type} {enc : TypeId × Value → H} {w : World} {base : Nat} {spare : Nat → Bool} {held : Bool}
/-- A slice of terms, out of what its elements tell. -/
theorem open_trow {n : Nat} {cs : List Value} {x : DataW H × List MemPlace} (good : C8 → Prop) (tell : ∀ m, m < n → ∀ cs' y, DataW.trod enc Try.prog w base spare held m 27 cs' = some y → ∃ c, good c ∧ cs' = tc c)
    (h : DataW.trod enc Try.prog w base spare held n 25 cs = some x) : ∃ a len cap, cs = [.slice a len cap] ∧ ∃ xs : List C8, Rd w (.slice a len cap) 8 xs.length (xs.flatMap tc) ∧ (∀ x ∈ xs, good x) ∧ xs.length ≤ 9223372036854775807 := by
  rcases DataW.trod_slice Try.underlying25 h with ⟨rfl, _⟩ | ⟨a, len, cap, elems, rest, m, hfu, rfl, _, _, hl, hm, hlen, hel, _, _⟩
  · exact ⟨none, 0, 0, rfl, [], Rd.nil _ _, by simp, by simp⟩
  · refine ⟨some a, len, cap, rfl, ?_⟩
    have one : ∀ i, i < len → ∃ d : C8, good d ∧ ∀ (j : Nat) u, (tc d)[j]? = some u → w.cell? ((a.add (i * 8)).add j) = some u := by
      intro i hil
      have h1 := hel i hil
      rw [List.getElem?_eq_getElem (by omega)] at h1
      obtain ⟨cs', hc', ht'⟩ := Option.bind_eq_some_iff.1 h1
      rw [cells27] at hc'
      obtain ⟨_, hcl, hat⟩ := World.cells?_some hc'
      obtain ⟨d, hd, rfl⟩ := tell m (by omega) _ _ ht'
      refine ⟨d, hd, fun j u hj => ?_⟩
      have hjl : j < 8 := (List.getElem?_eq_some_iff.1 hj).1
      have h2 := hat j (by omega)
      rw [h2, hj]
    have hml : len ≤ 9223372036854775807 := by unfold maxLen at hm; omega
    by_cases h0 : len = 0
    · subst h0
      exact ⟨[], ⟨by simp, .inl ⟨_, _, rfl, rfl, fun h => by cases h⟩⟩, by simp, by simp⟩
    · obtain ⟨b, off, spot⟩ := a
      obtain ⟨d0, hd0, hx0⟩ := one 0 (by omega)
      have hc0 := hx0 0 _ (List.getElem?_eq_getElem (show 0 < (tc d0).length by simp [tc]))
      have hspot : spot = none := by simpa [Addr.add] using World.cell?_spot hc0
      subst hspot
      have hb : b < w.heap.size := by
        have := World.block_lt_of_cell? w _ hc0
        rwa [addr_addn, addr_addn] at this
      have all : ∀ q, q ≤ len → ∃ ds : List C8, ds.length = q ∧ (∀ d ∈ ds, good d) ∧ ∀ i d, ds[i]? = some d → ∀ (j : Nat) u, (tc d)[j]? = some u → w.cell? ⟨b, off + i * 8 + j, none⟩ = some u := by
        intro q
        induction q with
        | zero => exact fun _ => ⟨[], rfl, by simp, by simp⟩
        | succ q ih =>
          intro hq
          obtain ⟨ds, h1, h2, h3⟩ := ih (by omega)
          obtain ⟨d, hd, hx⟩ := one q (by omega)
          refine ⟨ds ++ [d], by simp [h1], fun e he => ?_, fun i e he j u hj => ?_⟩
          · rcases List.mem_append.1 he with he | he
            · exact h2 e he
            · simp at he; subst he; exact hd
          · rw [List.getElem?_append] at he
            split at he
            · exact h3 i e he j u hj
            · next hge =>
              have hik : i = q := by
                have := (List.getElem?_eq_some_iff.1 he).1
                simp at this
                omega
              subst hik
              simp [h1] at he
              subst he
              have := hx j u hj
              rwa [addr_addn, addr_addn] at this
      obtain ⟨ds, h1, h2, h3⟩ := all len (Nat.le_refl _)
      refine ⟨ds, ⟨gfm_len (k := 8) ds (fun d hd => by simp [tc]), .inr ⟨b, off, cap, by rw [h1], by omega, hb, fun j u hj => ?_⟩⟩, h2, by omega⟩
      obtain ⟨d, e1, e2⟩ := gfm_inv (k := 8) (by decide) ds j u (fun d hd => by simp [tc]) hj
      have := h3 _ d e1 _ u e2
      have hdm := Nat.div_add_mod j 8
      rwa [show off + j / 8 * 8 + j % 8 = off + j by omega] at this
theorem rc_make {W : World} {A : Nat → Prop} {k n : Int} {s : ByteArray} {l : C3} {lv : Lv} {vl vt : Value} {ls : List Lv} {ys : List C8} (hn : in64 n) (hs : s.size ≤ 9223372036854775807) (hll : ls.length ≤ 9223372036854775807) (hl : RLn W A l lv) (hls : RVn W A vl ls) (ht : Rn W A vt 8 ys.length (ys.flatMap tc)) (hy : ∀ y ∈ ys, ∃ c, RC W A c y ∧ c.fit) : ∃ c, RC W A c ⟨k, n, s, l, vl, vt⟩ ∧ c.fit := by
 have hok : Ok W A ⟨k, n, s, l, vl, vt⟩ := ⟨⟨_, hl⟩, _, hls⟩
 by_cases h1 : k = 1
 ·
  exact ⟨.var n ys.length, ⟨h1, rfl, hn, ⟨_, ht⟩, hok⟩, trivial⟩
 by_cases h2 : k = 2
 ·
  exact ⟨.sort lv ys.length, ⟨h2, hl, ⟨_, ht⟩, hok⟩, trivial⟩
 by_cases h7 : k = 7
 ·
  exact ⟨.cst s ls ys.length, ⟨h7, rfl, hls, ⟨_, ht⟩, hok⟩, ⟨hs, hll⟩⟩
 by_cases ho : arT k < 0 ∨ (ys.length : Int) < arT k
 ·
  exact ⟨.odd k ys.length, ⟨rfl, ho, ⟨_, ht⟩, hok⟩, trivial⟩
 by_cases h5 : k = 5
 ·
  match ys, ht, hy, ho with
  | [], _, _, ho => subst h5; simp [arT] at ho
  | [_], _, _, ho => subst h5; simp [arT] at ho
  | [_, _], _, _, ho => subst h5; simp [arT] at ho
  | y :: z :: u :: rest, ht, hy, _ =>
   obtain ⟨a, ha, fa⟩ := hy y (by simp)
   obtain ⟨b, hb, fb⟩ := hy z (by simp)
   obtain ⟨c, hc, fc⟩ := hy u (by simp)
   exact ⟨.lt a b c rest.length, ⟨h5, ⟨y, z, u, rest.flatMap tc, by simpa using ht, ha, hb, hc⟩, hok⟩, ⟨fa, fb, fc⟩⟩
 ·
  have hk : k = 3 ∨ k = 4 ∨ k = 6 := by unfold arT at ho; omega
  have h2' : arT k = 2 := by unfold arT; omega
  match ys, ht, hy, ho with
  | [], _, _, ho => simp [h2'] at ho
  | [_], _, _, ho => simp [h2'] at ho
  | y :: z :: rest, ht, hy, _ =>
   obtain ⟨a, ha, fa⟩ := hy y (by simp)
   obtain ⟨b, hb, fb⟩ := hy z (by simp)
   exact ⟨.two k a b rest.length, ⟨rfl, hk, ⟨y, z, rest.flatMap tc, by simpa using ht, ha, hb⟩, hok⟩, ⟨fa, fb⟩⟩
theorem open_trm : ∀ (fuel : Nat) (cs : List Value) (x : DataW H × List MemPlace), DataW.trod enc Try.prog w base spare held fuel 27 cs = some x → ∃ c8, (∃ c, RC w (fun k => k < w.heap.size) c c8 ∧ c.fit) ∧ cs = tc c8 := by
 intro fuel
 induction fuel using Nat.strongRecOn with
 | ind fuel ih =>
  intro cs x h
  obtain ⟨xs, n, hfu, _, hl, hlen, hf⟩ := DataW.trod_struct Try.underlying27 h
  rw [cells27] at hl
  have h0 : DataW.trod enc Try.prog w base spare held n 3 ((cs.drop 0).take (Try.prog.cellsOf 3)) = xs[0]? := hf 0 _ rfl
  have h1 : DataW.trod enc Try.prog w base spare held n 3 ((cs.drop 1).take (Try.prog.cellsOf 3)) = xs[1]? := hf 1 _ rfl
  have h2 : DataW.trod enc Try.prog w base spare held n 9 ((cs.drop 2).take (Try.prog.cellsOf 9)) = xs[2]? := hf 2 _ rfl
  have h3 : DataW.trod enc Try.prog w base spare held n 24 ((cs.drop 3).take (Try.prog.cellsOf 24)) = xs[3]? := hf 3 _ rfl
  have h4 : DataW.trod enc Try.prog w base spare held n 22 ((cs.drop 6).take (Try.prog.cellsOf 22)) = xs[4]? := hf 4 _ rfl
  have h5 : DataW.trod enc Try.prog w base spare held n 25 ((cs.drop 7).take (Try.prog.cellsOf 25)) = xs[5]? := hf 5 _ rfl
  rw [cells3] at h0 h1
  rw [cells9] at h2
  rw [cells24] at h3
  rw [cells22] at h4
  rw [cells25] at h5
  rw [List.getElem?_eq_getElem (by rw [hlen]; decide)] at h0 h1 h2 h3 h4 h5
  match cs, hl with
  | [c0, c1, c2, c3, c4, c5, c6, c7], _ =>
   simp only [List.drop_zero, List.drop_succ_cons, List.take_succ_cons, List.take_zero] at h0 h1 h2 h3 h4 h5
   obtain ⟨z0, e0, _, _⟩ := DataW.trod_int Try.underlying3 h0
   obtain ⟨z1, e1, _, hw1⟩ := DataW.trod_int Try.underlying3 h1
   obtain ⟨s, e2, _, hs⟩ := DataW.trod_string Try.underlying9 h2
   obtain ⟨l, ⟨lv, hlv⟩, e3⟩ := open_lvl _ _ _ h3
   obtain ⟨a, len, cap, e4, lrs, hlR, hlg, hll⟩ := open_lrow (fun c => ∃ l, RL w c l) (fun m hm cs' y hy => open_lvl m cs' y hy) h4
   obtain ⟨a', len', cap', e5, ys, hR, hg, _⟩ := open_trow (fun c8 => ∃ c, RC w (fun k => k < w.heap.size) c c8 ∧ c.fit) (fun m hm cs' y hy => ih m (by omega) cs' y hy) h5
   obtain ⟨ls, g1, g2⟩ := rl_list lrs hlg
   simp only [List.cons.injEq, and_true, lc] at e0 e1 e2 e3 e4 e5
   obtain ⟨e3, e3', e3''⟩ := e3
   subst e0 e1 e2 e3 e3' e3'' e4 e5
   refine ⟨⟨z0, z1, s, l, .slice a len cap, .slice a' len' cap'⟩, rc_make (in64_of hw1) (by unfold maxLen at hs; omega) (by omega) hlv.n ⟨lrs, hlR.n, g1, fun i x l e1 e2 => (g2 i x l e1 e2).n⟩ hR.n hg, rfl⟩
theorem open_lvn {fuel : Nat} {x : DataW H × List MemPlace} {a0 : Option Addr} {len0 cap0 : Nat} (h : DataW.trod enc Try.prog w base spare held fuel 22 [.slice a0 len0 cap0] = some x) : ∃ ls : List Lv, RVn w (fun k => k < w.heap.size) (.slice a0 len0 cap0) ls ∧ ls.length ≤ 9223372036854775807 := by
 obtain ⟨xs, h1, ⟨ls, h2, h3⟩, h4⟩ := open_lvls h
 exact ⟨ls, ⟨xs, h1.n, h2, fun i x l e1 e2 => (h3 i x l e1 e2).n⟩, by omega⟩
end
end Go.Proofs.Ytbhhbfdoadecgaa
