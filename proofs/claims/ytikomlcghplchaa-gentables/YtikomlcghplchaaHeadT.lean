/- What GenTables keeps from call to call. -/
import Derived.Test.YtikomlcghplchaaRegT
import Derived.Test.YtikomlcghplchaaHeadS
import Derived.Test.YtikomlcghplchaaSrtU
namespace Go.Proofs.Ytikomlcghplchaa
open Go.RowKit Go.Shelf
set_option linter.unusedVariables false
set_option linter.unusedSimpArgs false

/-- The law's two lists, and the table. -/
def TH (w wr : World) (kv iv : Value) (mm : Option Nat) (N : Nat) (ys : List ByteArray) (zs : List Int) (tab : List (ByteArray × Int)) : Prop :=
  RS wr kv ys ∧ wr.ownsRow (w.heap.size + 1) 3 1 iv zs.length (zs.map encI) ∧ TabT wr w.heap.size mm N tab ∧ (∀ b, mm = some b → w.heap.size ≤ b) ∧
  (∀ b, kv.ownBlock = some b → w.heap.size < b ∧ b < wr.heap.size ∧ mm ≠ some b ∧ iv.ownBlock ≠ some b) ∧ (∀ b, iv.ownBlock = some b → mm ≠ some b) ∧ Below w.heap.size w wr
section
variable {w wr W' : World} {kv iv kv' iv' : Value} {mm : Option Nat} {N N' : Nat} {ys ys' : List ByteArray} {zs zs' : List Int} {tab tab' : List (ByteArray × Int)}
theorem row_below {base e n : Nat} {v : Value} {xs : List Value} {W : World} (h : W.ownsRow base e 1 v n xs) (hB : Below W.heap.size W W') : W'.ownsRow base e 1 v n xs :=
  row_only h (Only.of_below (H := fun _ => False) hB) (fun _ _ e => e)
theorem TH.below (h : TH w wr kv iv mm N ys zs tab) (hB : Below wr.heap.size wr W') : TH w W' kv iv mm N ys zs tab := by
  obtain ⟨h1, h2, h3, h4, h5, h6, h7⟩ := h
  exact ⟨h1.below hB, row_below h2 hB, h3.below hB, h4, fun b hb => ⟨(h5 b hb).1, Nat.lt_of_lt_of_le (h5 b hb).2.1 hB.size, (h5 b hb).2.2⟩, h6, h7.trans (hB.mono h7.size)⟩
theorem TH.mono (h : TH w wr kv iv mm N ys zs tab) (hN : N ≤ N') : TH w wr kv iv mm N' ys zs tab := by
  obtain ⟨h1, h2, h3, h4, h5, h6, h7⟩ := h
  exact ⟨h1, h2, h3.mono hN, h4, h5, h6, h7⟩
/-- A call that changes the table lets the lists be. -/
theorem TH.stored (h : TH w wr kv iv mm N ys zs tab) (hst : StoredT w.heap.size mm wr N' tab' W') : ∃ mm', TH w W' kv iv mm' N' ys zs tab' := by
  obtain ⟨h1, h2, h3, h4, h5, h6, h7⟩ := h
  obtain ⟨mm', ht, hm, ho⟩ := hst
  have hi : ∀ b, iv.ownBlock = some b → w.heap.size + 1 ≤ b ∧ b < wr.heap.size := fun b hb => h2.lt b hb
  refine ⟨mm', h1.only ho (fun b hb e => ?_), row_only h2 ho (fun b hb e => ?_), ht, fun b hb => ?_, fun b hb => ⟨(h5 b hb).1, Nat.lt_of_lt_of_le (h5 b hb).2.1 ho.size, fun e => ?_, (h5 b hb).2.2.2⟩, fun b hb e => ?_, ?_⟩
  · rcases e with e | e
    · have := (h5 b hb).1; omega
    · exact (h5 b hb).2.2.1 e
  · rcases e with e | e
    · have := (hi b hb).1; omega
    · exact h6 b hb e
  · rcases hm b hb with e | e
    · exact h4 b e
    · exact Nat.le_trans h7.size e
  · rcases hm b e with e | e
    · exact (h5 b hb).2.2.1 e
    · have := (h5 b hb).2.1; omega
  · rcases hm b e with e | e
    · exact h6 b hb e
    · have := (hi b hb).2; omega
  · exact ((Only.of_below (H := fun _ => False) h7).trans ho (fun b hb => .inr (by rcases hb with rfl | hb; omega; exact h4 b hb))).below (fun b hb => hb.elim)
/-- The keys made anew. -/
theorem TH.keys (h : TH w wr kv iv mm N ys zs tab) (hrow : W'.ownsRow wr.heap.size 9 1 kv' ys'.length (ys'.map encS)) (hB : Below wr.heap.size wr W') : TH w W' kv' iv mm N ys' zs tab := by
  have h0 := h.2.1
  have hT := h.2.2.1
  obtain ⟨h1, h2, h3, h4, h5, h6, h7⟩ := h.below hB
  refine ⟨?_, h2, h3, h4, fun b hb => ?_, h6, h7⟩
  · rcases hrow.2 with ⟨rfl, h0⟩ | ⟨g, cap, cur, rfl, hg, hh, g1, g2, g3, g4⟩
    · exact .inl ⟨_, _, rfl, List.eq_nil_of_length_eq_zero h0, fun _ => rfl⟩
    · exact RS.of_row hrow
  · obtain ⟨q1, q2⟩ := hrow.lt b hb
    have := hT.lt
    refine ⟨by omega, q2, fun e => ?_, fun e => ?_⟩
    · have := hT.mlt e; omega
    · have := (h0.lt b e).2; omega
/-- The items made anew. -/
theorem TH.items (h : TH w wr kv iv mm N ys zs tab) (hrow : W'.ownsRow wr.heap.size 3 1 iv' zs'.length (zs'.map encI)) (hB : Below wr.heap.size wr W') : TH w W' kv iv' mm N ys zs' tab := by
  have hT := h.2.2.1
  have h50 := h.2.2.2.2.1
  obtain ⟨h1, h2, h3, h4, h5, h6, h7⟩ := h.below hB
  have := hT.lt
  refine ⟨h1, row_base hrow (by omega), h3, h4, fun b hb => ⟨(h5 b hb).1, (h5 b hb).2.1, (h5 b hb).2.2.1, fun e => ?_⟩, fun b hb e => ?_, h7⟩
  · have := (hrow.lt b e).1
    have := (h50 b hb).2.1
    omega
  · have := (hrow.lt b hb).1
    have := hT.mlt e
    omega
theorem row_set {W : World} {base e n g cap : Nat} {xs : List Value} (h : W.ownsRow base e 1 (.slice (some ⟨g, 0, none⟩) n cap) n xs) {j : Nat} (hj : j < n) (u : Value) : (W.setCell ⟨g, j, none⟩ u).ownsRow base e 1 (.slice (some ⟨g, 0, none⟩) n cap) n (xs.set j u) := by
  refine ⟨by simpa using h.1, ?_⟩
  rcases h.2 with ⟨e, _⟩ | ⟨g', cap', cur, e, hb, hh, h1, h2, h3, h4⟩
  · cases e
  · simp only [Value.slice.injEq, Option.some.injEq, Addr.mk.injEq, and_true, true_and] at e
    obtain ⟨rfl, rfl⟩ := e
    refine .inr ⟨g, cap, cur.setIfInBounds j u, rfl, hb, ?_, h1, h2, by simpa using h3, ?_⟩
    · obtain ⟨hlt, hk⟩ := Array.getElem?_eq_some_iff.1 hh
      show (W.heap.modify g _)[g]? = _
      rw [Array.getElem?_eq_getElem (by rw [Array.size_modify]; exact hlt), Array.getElem_modify_self, hk]
      rfl
    · rw [Array.toList_setIfInBounds, List.take_set, h4]
/-- One item laid down in place. -/
theorem TH.set (h : TH w wr kv iv mm N ys zs tab) {g cap : Nat} (hiv : iv = .slice (some ⟨g, 0, none⟩) zs.length cap) {j : Nat} (hj : j < zs.length) (x : Int) : TH w (wr.setCell ⟨g, j, none⟩ (.int .i64 x)) kv iv mm N ys (zs.set j x) tab := by
  obtain ⟨h1, h2, h3, h4, h5, h6, h7⟩ := h
  subst hiv
  have ho : Only (fun k => k = g) wr (wr.setCell ⟨g, j, none⟩ (.int .i64 x)) := Only.setCell (H := fun k => k = g) (a := ⟨g, j, none⟩) (.inl rfl) _
  have hg := h2.lt g rfl
  refine ⟨h1.only ho (fun b hb e => (h5 b hb).2.2.2 (by rw [e]; rfl)), ?_, h3.only ho (by omega) (fun b hb e => h6 g rfl (by rw [← e]; exact hb)), h4, fun b hb => ⟨(h5 b hb).1, Nat.lt_of_lt_of_le (h5 b hb).2.1 ho.size, (h5 b hb).2.2⟩, h6, ?_⟩
  · have := row_set h2 hj (.int .i64 x)
    rw [List.length_set]
    rw [List.map_set]
    exact this
  · exact ((Only.of_below (H := fun _ => False) h7).trans ho (fun b hb => .inr (by omega))).below (fun b hb => hb.elim)
theorem TH.ri (h : TH w wr kv iv mm N ys zs tab) : RI wr iv zs := by
  have h2 := h.2.1
  rcases h2.2 with ⟨rfl, h0⟩ | ⟨g, cap, cur, rfl, hg, hh, g1, g2, g3, g4⟩
  · exact .inl ⟨_, _, rfl, List.eq_nil_of_length_eq_zero h0, fun _ => rfl⟩
  · exact RI.of_row h2
theorem RI.idx {W : World} {a : Option Addr} {n c : Nat} {xs : List Int} (h : RI W (.slice a n c) xs) {j : Nat} (hj : j < xs.length) :
    ∃ ad : Addr, (∀ w, (Instr.indexAt 22 (.slice a n c) (.int .i64 j)).run Try.prog w = .ok (.pointer (some ad)) w) ∧ W.cell? ad = some (.int .i64 xs[j]) := by
  rcases h with ⟨a', c', e, rfl, _⟩ | ⟨b, off, cap, e, h1, hc⟩
  · simp at hj
  · cases e
    refine ⟨⟨b, off + j, none⟩, fun w => ?_, hc j _ (List.getElem?_eq_getElem hj)⟩
    have hs : ∀ w, (Go.sizeOf 3).run Try.prog w = .ok 1 w := Try.sizeOf3
    have hj' : (0 : Int) ≤ j ∧ (j : Int) < xs.length := by omega
    rw [run_indexAt_slice (P := Try.prog) w 22 ⟨b, off, none⟩ xs.length c .i64 j (by rw [show Try.prog.elem 22 = 3 by kernel_rfl]; exact Try.underlying22)]
    simp [hj'.2, show Try.prog.elem 22 = 3 by kernel_rfl, hs, addr_add, Result.andThen]
/-- Where item j lies, to be written. -/
theorem TH.spot {ai : Option Addr} {n ci : Nat} (h : TH w wr kv (.slice ai n ci) mm N ys zs tab) {j : Nat} (hj : j < zs.length) :
    ∃ g, ai = some ⟨g, 0, none⟩ ∧ n = zs.length ∧ (∀ w, (Instr.indexAt 22 (.slice (some ⟨g, 0, none⟩) zs.length ci) (.int .i64 j)).run Try.prog w = .ok (.pointer (some ⟨g, j, none⟩)) w) ∧ wr.cell? ⟨g, j, none⟩ = some (.int .i64 zs[j]) ∧ wr.frozen? ⟨g, j, none⟩ = false ∧ g < wr.heap.size := by
  have h2 := h.2.1
  rcases h2.2 with ⟨e, h0⟩ | ⟨g, cap, cur, e, hg, hh, g1, g2, g3, g4⟩
  · omega
  · cases e
    refine ⟨g, rfl, rfl, fun w => ?_, ?_, by simp [World.frozen?, hh], (Array.getElem?_eq_some_iff.1 hh).1⟩
    · have hs : ∀ w, (Go.sizeOf 3).run Try.prog w = .ok 1 w := Try.sizeOf3
      have hj' : (0 : Int) ≤ j ∧ (j : Int) < zs.length := by omega
      rw [run_indexAt_slice (P := Try.prog) w 22 ⟨g, 0, none⟩ zs.length ci .i64 j (by rw [show Try.prog.elem 22 = 3 by kernel_rfl]; exact Try.underlying22)]
      simp [hj'.2, show Try.prog.elem 22 = 3 by kernel_rfl, hs, addr_add, Result.andThen]
    · have := h2.cells (g := g) rfl j (.int .i64 zs[j]) (by simp [hj])
      rw [addr_add] at this
      simpa using this
end
/-- The call at j: its three fields. -/
theorem RO.three {W : World} {a : Option Addr} {n c : Nat} {os : List OpG} (h : RO W (.slice a n c) os) {j : Nat} (hj : j < os.length) :
    ∃ b o : Nat, (∀ w, (Instr.indexAt 45 (.slice a n c) (.int .i64 j)).run Try.prog w = .ok (.pointer (some ⟨b, o, none⟩)) w) ∧ W.cell? ⟨b, o, none⟩ = some (.int .i64 os[j].what) ∧ W.cell? ⟨b, o + 1, none⟩ = some (.string os[j].key) ∧ W.cell? ⟨b, o + 2, none⟩ = some (.int .i64 os[j].item) := by
  rcases h with ⟨_, rfl⟩ | ⟨b, off, cap, e, hc⟩
  · simp at hj
  · cases e
    obtain ⟨c1, c2, c3⟩ := hc j _ (List.getElem?_eq_getElem hj)
    refine ⟨b, off + 3 * j, fun w => ?_, c1, c2, c3⟩
    have hs : ∀ w, (Go.sizeOf 50).run Try.prog w = .ok 3 w := Try.sizeOf50
    have hj' : (0 : Int) ≤ j ∧ (j : Int) < os.length := by omega
    rw [run_indexAt_slice (P := Try.prog) w 45 ⟨b, off, none⟩ os.length c .i64 j (by rw [show Try.prog.elem 45 = 50 by kernel_rfl]; exact Try.underlying45)]
    simp [hj'.2, show Try.prog.elem 45 = 50 by kernel_rfl, hs, addr_add, Result.andThen]
end Go.Proofs.Ytikomlcghplchaa
