/- What GenSets keeps from call to call. -/
import Derived.Test.YtikomlcghplchaaFrmS
import Derived.BigQuiet
import Derived.Deep.QuietTactic
namespace Go.Proofs.Ytikomlcghplchaa
open Go.RowKit Go.Shelf
set_option linter.unusedVariables false
set_option linter.unusedSimpArgs false

theorem RS.idx {W : World} {a : Option Addr} {n c : Nat} {xs : List ByteArray} (h : RS W (.slice a n c) xs) {j : Nat} (hj : j < xs.length) :
    ∃ ad : Addr, (∀ w, (Instr.indexAt 48 (.slice a n c) (.int .i64 j)).run Try.prog w = .ok (.pointer (some ad)) w) ∧ W.cell? ad = some (.string xs[j]) := by
  rcases h with ⟨a', c', e, rfl, _⟩ | ⟨b, off, cap, e, h1, hc⟩
  · simp at hj
  · cases e
    refine ⟨⟨b, off + j, none⟩, fun w => ?_, hc j _ (List.getElem?_eq_getElem hj)⟩
    have hs : ∀ w, (Go.sizeOf 9).run Try.prog w = .ok 1 w := Try.sizeOf9
    have hj' : (0 : Int) ≤ j ∧ (j : Int) < xs.length := by omega
    rw [run_indexAt_slice (P := Try.prog) w 48 ⟨b, off, none⟩ xs.length c .i64 j (by rw [show Try.prog.elem 48 = 9 by kernel_rfl]; exact Try.underlying48)]
    simp [hj'.2, show Try.prog.elem 48 = 9 by kernel_rfl, hs, addr_add, Result.andThen]

theorem RO.spot {W : World} {a : Option Addr} {n c : Nat} {os : List OpG} (h : RO W (.slice a n c) os) {j : Nat} (hj : j < os.length) :
    ∃ b o : Nat, (∀ w, (Instr.indexAt 45 (.slice a n c) (.int .i64 j)).run Try.prog w = .ok (.pointer (some ⟨b, o, none⟩)) w) ∧ W.cell? ⟨b, o, none⟩ = some (.int .i64 os[j].what) ∧ W.cell? ⟨b, o + 1, none⟩ = some (.string os[j].key) := by
  rcases h with ⟨_, rfl⟩ | ⟨b, off, cap, e, hc⟩
  · simp at hj
  · cases e
    obtain ⟨c1, c2, c3⟩ := hc j _ (List.getElem?_eq_getElem hj)
    refine ⟨b, off + 3 * j, fun w => ?_, c1, c2⟩
    have hs : ∀ w, (Go.sizeOf 50).run Try.prog w = .ok 3 w := Try.sizeOf50
    have hj' : (0 : Int) ≤ j ∧ (j : Int) < os.length := by omega
    rw [run_indexAt_slice (P := Try.prog) w 45 ⟨b, off, none⟩ os.length c .i64 j (by rw [show Try.prog.elem 45 = 50 by kernel_rfl]; exact Try.underlying45)]
    simp [hj'.2, show Try.prog.elem 45 = 50 by kernel_rfl, hs, addr_add, Result.andThen]

/-- What holds at the head of the law's loop. -/
def SetHead (w : World) (os : List OpG) (mv : Value) (k : Nat) (ks : List ByteArray) (mm : Option Nat) (wr : World) : Prop :=
  k ≤ os.length ∧ k ≤ 60 ∧ ks.length ≤ k ∧ RS wr mv ks ∧ TabS wr w.heap.size mm k (ul ks) ∧ (∀ b, mm = some b → w.heap.size ≤ b) ∧ (∀ b, mv.ownBlock = some b → w.heap.size < b ∧ b < wr.heap.size ∧ mm ≠ some b) ∧ Below w.heap.size w wr

theorem SetHead.below {w : World} {os : List OpG} {mv : Value} {k : Nat} {ks : List ByteArray} {mm : Option Nat} {wr wr' : World} (h : SetHead w os mv k ks mm wr) (hB : Below wr.heap.size wr wr') : SetHead w os mv k ks mm wr' := by
  obtain ⟨h1, h2, h3, h4, h5, h6, h7, h8⟩ := h
  exact ⟨h1, h2, h3, h4.below hB, h5.below hB, h6, fun b hb => ⟨(h7 b hb).1, Nat.lt_of_lt_of_le (h7 b hb).2.1 hB.size, (h7 b hb).2.2⟩, h8.trans (hB.mono h8.size)⟩
theorem below_drewN (W : World) (q : Nat) : Below W.heap.size W (W.drewN q) := by
  induction q with
  | zero => exact Below.refl _ _
  | succ q ih => exact ih.drew

theorem RS.only {W W' : World} {v : Value} {bs : List ByteArray} {H : Nat → Prop} (h : RS W v bs) (ho : Only H W W') (hne : ∀ b, v.ownBlock = some b → ¬ H b) : RS W' v bs := by
  rcases h with h | ⟨b, off, cap, rfl, h1, h2⟩
  · exact .inl h
  · refine .inr ⟨b, off, cap, rfl, h1, fun j u hj => ?_⟩
    have hc := h2 j u hj
    exact (ho.cell (p := ⟨b, off + j, none⟩) (cells_blockS hc) (hne b rfl)).trans hc
/-- A call that changes the table lets the rest be. -/
theorem SetHead.stored {w : World} {os : List OpG} {mv : Value} {k N : Nat} {ks ks' : List ByteArray} {mm : Option Nat} {W W' : World} (h : SetHead w os mv k ks mm W) (hN : N ≤ k + 1) (hst : StoredS w.heap.size mm W N (ul ks') W') :
    ∃ mm', TabS W' w.heap.size mm' (k + 1) (ul ks') ∧ RS W' mv ks ∧ (∀ b, mm' = some b → w.heap.size ≤ b) ∧ (∀ b, mv.ownBlock = some b → w.heap.size < b ∧ b < W'.heap.size ∧ mm' ≠ some b) ∧ Below w.heap.size w W' := by
  obtain ⟨h1, h2, h3, h4, h5, h6, h7, h8⟩ := h
  obtain ⟨mm', ht, hm, ho⟩ := hst
  refine ⟨mm', ht.mono hN, h4.only ho (fun b hb e => ?_), fun b hb => ?_, fun b hb => ⟨(h7 b hb).1, Nat.lt_of_lt_of_le (h7 b hb).2.1 ho.size, fun e => ?_⟩, ?_⟩
  · rcases e with e | e
    · have := (h7 b hb).1; omega
    · exact (h7 b hb).2.2 e
  · rcases hm b hb with e | e
    · exact h6 b e
    · exact Nat.le_trans h8.size e
  · rcases hm b e with e | e
    · exact (h7 b hb).2.2 e
    · have := (h7 b hb).2.1; omega
  · exact ((Only.of_below (H := fun _ => False) h8).trans ho (fun b hb => .inr (by rcases hb with rfl | hb; omega; exact h6 b hb))).below (fun b hb => hb.elim)
/-- .. and the law's own list, if it stays as it is. -/
theorem SetHead.kept {w : World} {os : List OpG} {mv : Value} {k N : Nat} {ks : List ByteArray} {mm : Option Nat} {W W' : World} (h : SetHead w os mv k ks mm W) (h1 : k < os.length) (h2 : k < 60) (hN : N ≤ k + 1) (hst : StoredS w.heap.size mm W N (ul ks) W') :
    ∃ mm', SetHead w os mv (k + 1) ks mm' W' := by
  have h3 := h.2.2.1
  obtain ⟨mm', a, b, c, d, e⟩ := h.stored hN hst
  exact ⟨mm', by omega, by omega, by omega, b, a, c, d, e⟩
/-- .. or is made anew behind it. -/
theorem SetHead.fresh {w : World} {os : List OpG} {mv mv' : Value} {k N : Nat} {ks ks' : List ByteArray} {mm : Option Nat} {W W1 W' : World} (h : SetHead w os mv k ks mm W) (h1 : k < os.length) (h2 : k < 60) (hN : N ≤ k + 1) (hst : StoredS w.heap.size mm W N (ul ks') W1) (hl : ks'.length ≤ k + 1)
    (hrow : W'.ownsRow W1.heap.size 9 1 mv' ks'.length (ks'.map encS)) (hB : Below W1.heap.size W1 W') : ∃ mm', SetHead w os mv' (k + 1) ks' mm' W' := by
  obtain ⟨mm', a, b, c, d, e⟩ := h.stored hN hst
  refine ⟨mm', by omega, by omega, hl, ?_, a.below hB, c, fun q hq => ?_, e.trans (hB.mono e.size)⟩
  · rcases hrow.2 with ⟨rfl, h0⟩ | ⟨g, cap, cur, rfl, hg, hh, g1, g2, g3, g4⟩
    · exact .inl ⟨_, _, rfl, List.eq_nil_of_length_eq_zero h0, fun _ => rfl⟩
    · exact RS.of_row hrow
  · obtain ⟨q1, q2⟩ := hrow.lt q hq
    have hT := a.lt
    refine ⟨by omega, q2, fun e' => ?_⟩
    have := a.mlt e'
    omega
theorem len_ul {W : World} {T N : Nat} {m : Option Nat} {ks : List ByteArray} (h : TabS W T m N (ul ks)) : Calls Try.prog 38 #[.pointer (some ⟨T, 0, none⟩)] W fun e w' => e = .returned (.int .i64 (ks.length : Int)) ∧ W = w' := by
  have := len38 h
  simpa [ul] using this
end Go.Proofs.Ytikomlcghplchaa
