/- assizeref2.Reader: Number, Bytes. -/
import Derived.Test.YtllpohacomknfaaRows2
namespace Go.Proofs.Ytllpohacomknfaa
open Go.RowKit
set_option linter.unusedVariables false
set_option linter.unusedSimpArgs false

/-- The reader at block R: what is left, the error. -/
def Rd (W : World) (R : Nat) (bv : Value) (e : Int) : Prop := W.heap[R]? = some (.cells #[bv, .int .i64 e] 43 (0, 0))

theorem Rd.lt {W : World} {R : Nat} {bv : Value} {e : Int} (h : Rd W R bv e) : R < W.heap.size := (Array.getElem?_eq_some_iff.1 h).1
theorem Rd.facts {W : World} {R : Nat} {bv : Value} {e : Int} (h : Rd W R bv e) : W.cell? ⟨R, 0, none⟩ = some bv ∧ W.cell? ⟨R, 1, none⟩ = some (.int .i64 e) ∧ W.frozen? ⟨R, 0, none⟩ = false ∧ W.frozen? ⟨R, 1, none⟩ = false := by
  unfold Rd at h
  refine ⟨?_, ?_, ?_, ?_⟩ <;> simp [World.cell?, World.frozen?, h]
theorem Rd.below {W W' : World} {R : Nat} {bv : Value} {e : Int} (h : Rd W R bv e) (hB : Below W.heap.size W W') : Rd W' R bv e := (hB.block R h.lt).trans h
theorem Rd.set0 {W : World} {R : Nat} {bv x : Value} {e : Int} (h : Rd W R bv e) : Rd (W.setCell ⟨R, 0, none⟩ x) R x e := by
  unfold Rd at *
  simp [World.setCell, Array.getElem?_modify, h]
theorem Rd.set1 {W : World} {R : Nat} {bv : Value} {e e' : Int} (h : Rd W R bv e) : Rd (W.setCell ⟨R, 1, none⟩ (.int .i64 e')) R bv e' := by
  unfold Rd at *
  simp [World.setCell, Array.getElem?_modify, h]

/-- A value that stands for block R. -/
def blk (R : Nat) : Value := .slice (some ⟨R, 0, none⟩) 0 0
theorem Kept.setCell (W : World) (R i : Nat) (x : Value) : Kept (blk R) W (W.setCell ⟨R, i, none⟩ x) :=
  ⟨fun B hB hk => (Below.refl B W).setCell (hk R rfl) x, fun k hk hn => Below.heap_setCell _ _ _ _ (fun e => hn (by rw [e]; rfl))⟩
theorem Kept.of_below {v : Value} {W W' : World} (h : Below W.heap.size W W') : Kept v W W' := ⟨fun B hB _ => h.mono hB, fun k hk _ => h.block k hk⟩
theorem Kept.then {v : Value} {W W1 W2 : World} (h : Kept v W W1) (k : Kept v W1 W2) : Kept v W W2 := h.trans k (.inl rfl)

/-- Bytes do not lie in the reader. -/
theorem RB.apart {W : World} {v : Value} {bs : List UInt8} {R : Nat} {a : Option Addr} {l c : Nat} {e : Int} (h : RB W v bs) (hr : Rd W R (.slice a l c) e) {W' : World} (hk : Kept (blk R) W W') : RB W' v bs := by
  rcases h with h | ⟨b, off, cap, rfl, h1, h2⟩
  · exact .inl h
  · refine .inr ⟨b, off, cap, rfl, h1, fun j u hj => ?_⟩
    have hc := h2 j u hj
    have hb : b ≠ R := by
      rintro rfl
      unfold Rd at hr
      simp [World.cell?, hr] at hc
      rcases (show off + j = 0 ∨ off + j = 1 ∨ 2 ≤ off + j by omega) with e1 | e1 | e1
      · rw [e1] at hc; simp [encU] at hc
      · rw [e1] at hc; simp [encU] at hc
      · rw [List.getElem?_eq_none (by simpa using e1)] at hc; cases hc
    have hh := hk.block b (cells_block hc) (fun e' => hb (by simpa [blk, Value.ownBlock] using e'.symm))
    exact (World.cell?_of_block (w := W) hh).trans hc

set_option maxRecDepth 100000 in
set_option maxHeartbeats 1000000 in
theorem number25 (bs : List UInt8) (hl : bs.length ≤ 140737488355328) (a : Option Addr) (c R : Nat) (w w0 : World) (hr : Rd w R (.slice a bs.length c) 0) (hv : RB w (.slice a bs.length c) bs) (hv0 : RB w0 (.slice a bs.length c) bs) {n k : Nat} (h : tk bs = (n, k, 0)) :
    Calls Try.prog 25 #[.pointer (some ⟨R, 0, none⟩), .int .u64 18446744073709551615, .int .i64 18] w fun e w' => e = .returned (.int .u64 (n : Int)) ∧ Kept (blk R) w w' ∧ ∃ a' c', Rd w' R (.slice a' (bs.length - k) c') 0 ∧ RB w0 (.slice a' (bs.length - k) c') (bs.drop k) := by
  obtain ⟨f0, f1, f2, f3⟩ := hr.facts
  have HR := Lib.hid hr
  have HV := Lib.hid hv0
  have H11 := Lib.hid (take11' h hl _ w hv)
  obtain ⟨hn, hk⟩ : n < 2 ^ 64 ∧ k ≤ bs.length := by have := tk_lt bs; rw [h] at this; exact ⟨this.1, this.2.1⟩
  obtain ⟨a1, c1, e1, hc, hn0⟩ := hv.form
  cases e1
  have HN := Lib.hid hn0
  clear hr hv h hn0 hv0
  by_cases hck : c = k
  · subst hck
    have HF := Lib.hid (HV.out.from hk 0 (by omega) a (fun h => absurd rfl h) (fun _ => rfl))
    go_enter Try.func25, Try.ntmps25
    go_wp2_with (go_at_call 11; refine H11.out.mono ?_; rintro e w' ⟨rfl, rfl⟩)
    go_ret
    have e0 : bs.length - c = 0 := by omega
    have HF' := HF.out
    rw [e0] at HF' ⊢
    exact ⟨rfl, Kept.setCell _ _ _ _, _, _, HR.out.set0, HF'⟩
  · have HF := Lib.hid (HV.out.from hk (c - k) rfl (a.map (·.add k)) (fun _ => rfl) (fun h => by have := HN.out (by simpa using h); omega))
    go_enter Try.func25, Try.ntmps25
    go_wp2_with (go_at_call 11; refine H11.out.mono ?_; rintro e w' ⟨rfl, rfl⟩)
    go_ret
    exact ⟨rfl, Kept.setCell _ _ _ _, _, _, HR.out.set0, HF.out⟩

set_option maxRecDepth 100000 in
set_option maxHeartbeats 1000000 in
theorem number25_err (bs : List UInt8) (hl : bs.length ≤ 140737488355328) (a : Option Addr) (c R : Nat) (w : World) (hr : Rd w R (.slice a bs.length c) 0) (hv : RB w (.slice a bs.length c) bs) {e : Nat} (h : tk bs = (0, 0, e)) (he : e ≠ 0) :
    Calls Try.prog 25 #[.pointer (some ⟨R, 0, none⟩), .int .u64 18446744073709551615, .int .i64 18] w fun e' w' => e' = .returned (.int .u64 0) ∧ Kept (blk R) w w' ∧ Rd w' R (.slice a bs.length c) (e : Int) := by
  obtain ⟨f0, f1, f2, f3⟩ := hr.facts
  have HR := Lib.hid hr
  have H11 := Lib.hid (take11' h hl _ w hv)
  have hne : ((e : Int) != 0) = true := by simp; omega
  have heq : ((e : Int) == 0) = false := by simp; omega
  clear hr hv h he
  go_enter Try.func25, Try.ntmps25
  go_wp2_with (go_at_call 11; refine H11.out.mono ?_; rintro e w' ⟨rfl, rfl⟩)
  go_ret
  exact ⟨rfl, Kept.setCell _ _ _ _, HR.out.set1⟩

/-- What Bytes leaves. -/
def GivesR (r : List UInt8 × Nat × Nat) (bs : List UInt8) (R : Nat) (w0 w : World) (e : Ending) (w' : World) : Prop :=
  ∃ v, e = .returned v ∧ Kept (blk R) w w' ∧ w'.ownsRow w.heap.size 5 1 v r.1.length (r.1.map encU) ∧ ∃ a' c' m, Rd w' R (.slice a' m c') (r.2.2 : Int) ∧ (r.2.2 = 0 → m = bs.length - r.2.1 ∧ RB w0 (.slice a' m c') (bs.drop r.2.1))

set_option maxRecDepth 100000 in
set_option maxHeartbeats 1000000 in
theorem bytes26 (bs : List UInt8) (hl : bs.length ≤ 140737488355328) (a : Option Addr) (c R : Nat) (w w0 : World) (hr : Rd w R (.slice a bs.length c) 0) (hv : RB w (.slice a bs.length c) bs) (hv0 : RB w0 (.slice a bs.length c) bs) :
    Calls Try.prog 26 #[.pointer (some ⟨R, 0, none⟩), .int .i64 5] w (GivesR (tb bs 5) bs R w0 w) := by
  obtain ⟨f0, f1, f2, f3⟩ := hr.facts
  have HR := Lib.hid hr
  have HV := Lib.hid hv0
  have H20 := Lib.hid (tb20 bs hl 5 (by decide) (by decide) _ w hv)
  have hk := (tb_le bs 5).1
  have hz : (tb bs 5).2.2 ≠ 0 → (tb bs 5).1 = [] ∧ (tb bs 5).2.1 = 0 := tb_zero
  obtain ⟨r, hrr⟩ : ∃ r, tb bs 5 = r := ⟨_, rfl⟩
  rw [hrr] at H20 hk hz ⊢
  obtain ⟨o, k, e⟩ := r
  simp only at hk hz
  obtain ⟨a1, c1, e1, hc, hn0⟩ := hv.form
  cases e1
  have HN := Lib.hid hn0
  clear hr hv hrr hn0 hv0
  by_cases he : e = 0
  · subst he
    clear hz
    by_cases hck : c = k
    · subst hck
      have HF := Lib.hid (HV.out.from hk 0 (by omega) a (fun h => absurd rfl h) (fun _ => rfl))
      go_enter Try.func26, Try.ntmps26
      go_wp2_with fail
      refine H20.out.mono ?_
      rintro e w1 ⟨v1, rfl, ho1, hB1⟩
      have hr1 := HR.out.below hB1
      obtain ⟨g0, g1, g2, g3⟩ := hr1.facts
      have HR1 := Lib.hid hr1
      have HO1 := Lib.hid ho1
      clear f0 f1 f2 f3 hr1 ho1 H20
      simp only
      go_wp2
      go_ret
      have e0 : bs.length - c = 0 := by omega
      have HF' := HF.out
      rw [e0] at HF'
      refine ⟨_, rfl, (Kept.of_below hB1).then (Kept.setCell _ _ _ _), ?_, _, _, _, HR1.out.set0, fun _ => ⟨by dsimp only; omega, HF'⟩⟩
      exact row_kept HO1.out (Kept.setCell _ _ _ _) (fun j hj e' => by have h1 := (HO1.out.lt j hj).1; have h2 := HR.out.lt; simp [blk, Value.ownBlock] at e'; omega)
    · have HF := Lib.hid (HV.out.from hk (c - k) rfl (a.map (·.add k)) (fun _ => rfl) (fun h => by have := HN.out (by simpa using h); omega))
      go_enter Try.func26, Try.ntmps26
      go_wp2_with fail
      refine H20.out.mono ?_
      rintro e w1 ⟨v1, rfl, ho1, hB1⟩
      have hr1 := HR.out.below hB1
      obtain ⟨g0, g1, g2, g3⟩ := hr1.facts
      have HR1 := Lib.hid hr1
      have HO1 := Lib.hid ho1
      clear f0 f1 f2 f3 hr1 ho1 H20
      simp only
      go_wp2
      go_ret
      refine ⟨_, rfl, (Kept.of_below hB1).then (Kept.setCell _ _ _ _), ?_, _, _, _, HR1.out.set0, fun _ => ⟨rfl, HF.out⟩⟩
      exact row_kept HO1.out (Kept.setCell _ _ _ _) (fun j hj e' => by have h1 := (HO1.out.lt j hj).1; have h2 := HR.out.lt; simp [blk, Value.ownBlock] at e'; omega)
  · obtain ⟨rfl, rfl⟩ := hz he
    have hne : ((e : Int) != 0) = true := by simp; omega
    have HEe := Lib.hid he
    clear he hz
    go_enter Try.func26, Try.ntmps26
    go_wp2_with fail
    refine H20.out.mono ?_
    rintro e' w1 ⟨v1, rfl, ho1, hB1⟩
    have hr1 := HR.out.below hB1
    obtain ⟨g0, g1, g2, g3⟩ := hr1.facts
    have HR1 := Lib.hid hr1
    clear f0 f1 f2 f3 hr1 ho1 H20
    simp only
    go_wp2
    go_ret
    exact ⟨_, rfl, (Kept.of_below hB1).then (Kept.setCell _ _ _ _), World.ownsRow_nil _ _ _ _, _, _, _, HR1.out.set1, fun h => absurd h HEe.out⟩
end Go.Proofs.Ytllpohacomknfaa
