/- GenSorted answers true: its walk. -/
import Derived.Test.YtdfnainibjgenaaIdx
namespace Go.Proofs.Ytdfnainibjgenaa
open Go.RowKit Go.Shelf
set_option linter.unusedVariables false
set_option linter.unusedSimpArgs false
attribute [local go_sem] Oper.semAt_some wide_fn wide_depth

theorem setOfL_rising {xs : List Int} (h : ∀ x ∈ xs, (Lit.int .i64 x).wf = true) : Rising (setOfL xs) := by
  suffices ∀ (xs : List Int) (a : List Int), (∀ x ∈ xs, (Lit.int .i64 x).wf = true) → Rising a → Rising (xs.foldl (fun a x => ins x a) a) from this xs [] h rising_nil
  intro xs
  induction xs with
  | nil => exact fun a _ h => h
  | cons x r ih => exact fun a hw ha => ih _ (fun y hy => hw y (by simp [hy])) (ins_rising (hw x (by simp)) ha)
theorem mem_setOfL {xs : List Int} {z : Int} : z ∈ setOfL xs ↔ z ∈ xs := by
  suffices ∀ (xs : List Int) (a : List Int), z ∈ xs.foldl (fun a x => ins x a) a ↔ z ∈ a ∨ z ∈ xs from by simpa [setOfL] using this xs []
  intro xs
  induction xs with
  | nil => simp
  | cons x r ih => intro a; rw [List.foldl_cons, ih, mem_ins, List.mem_cons, or_assoc, or_left_comm]
theorem setOfL_length {xs : List Int} : (setOfL xs).length ≤ xs.length := by
  suffices ∀ (xs : List Int) (a : List Int), (xs.foldl (fun a x => ins x a) a).length ≤ a.length + xs.length from by simpa [setOfL] using this xs []
  intro xs
  induction xs with
  | nil => simp
  | cons x r ih => intro a; have := ih (ins x a); have := ins_length_le x a; simp at *; omega
/-- Rising lists of the same elements are one. -/
theorem rising_ext {a b : List Int} (ha : a.Pairwise (· < ·)) (hb : b.Pairwise (· < ·)) (h : ∀ z, z ∈ a ↔ z ∈ b) : a = b := by
  have na : a.Nodup := ha.imp (fun h => by omega)
  have nb : b.Nodup := hb.imp (fun h => by omega)
  have hp : a.Perm b := (List.perm_ext_iff_of_nodup na nb).2 h
  exact hp.eq_of_pairwise (le := (· < ·)) (fun x y _ _ h1 h2 => by omega) ha hb

set_option maxRecDepth 100000 in
set_option maxHeartbeats 2000000 in
theorem genSorted_walk (l : List Int) (hm : l.length ≤ maxLen) (hwf : ∀ x ∈ l, (Lit.int .i64 x).wf = true) (v : Value) (w : World) (hv : Reads encI w v l) :
    Calls Try.prog 13 #[v] w fun e w' => e = .returned (.bool true) ∧ Below w.heap.size w w' := by
  refine (callsIn_wide (n := 0)).1 ?_
  refine callsIn_of_wp Try.func13 rfl trivial ?_ rfl
  simp only [Try.ntmps13, List.size_toArray, List.length_cons, List.length_nil, Nat.reduceAdd, Nat.reduceSub, Array.replicate_succ, Array.replicate_zero, List.push_toArray, List.append_toArray, List.nil_append, List.cons_append]
  obtain ⟨a0, c0, e0⟩ := hv.form
  have Hv := Lib.hid hv
  have Hm := Lib.hid hm
  clear hv hm
  subst e0
  gi_wp2_with fail
  refine ((callsIn_wide (n := 0)).2 (short14 l Hm.out _ w Hv.out)).mono ?_
  rintro e w' ⟨⟨v1, rfl, hv1⟩, rfl⟩
  have hwf1 : ∀ x ∈ l.take 60, (Lit.int .i64 x).wf = true := fun x hx => hwf x (List.mem_of_mem_take hx)
  have hlen : (l.take 60).length ≤ 60 := by simp; omega
  generalize l.take 60 = ys at *
  obtain ⟨al, cl, e1⟩ := hv1.form
  have Hl := Lib.hid hv1
  have Hw := Lib.hid hwf1
  clear hv1 hwf1 hwf Hv Hm
  subst e1
  gi_wp2_with fail
  refine ((callsIn_wide (n := 0)).2 (newset49 ys (by omega) Hw.out _ w Hl.out)).mono ?_
  rintro e w1 ⟨ma, Na, rfl, hNa, hA1, hmA, hB1⟩
  gi_wp2_with fail
  refine ((callsIn_wide (n := 0)).2 (newset49 [] (by simp) (by simp) _ w1 (.inl ⟨⟨_, _, rfl⟩, rfl⟩))).mono ?_
  rintro e w2 ⟨mb, Nb, rfl, hNb, hb2, hmB, hB2⟩
  have HA := Lib.hid hA1
  have Hb := Lib.hid hb2
  have Hs := Lib.hid (And.intro hNa (And.intro hNb (And.intro hmB (And.intro hB1 hB2))))
  have hsz1 := hB1.size
  have hsz2 := hB2.size
  clear hA1 hb2 hNa hNb hmA hmB hB1 hB2
  gi_wp2
  gi_loopw [18] (fun i wr => ∃ (k N : Nat) (m : Option Nat), k ≤ ys.length ∧ i = .int .i64 k ∧ N ≤ 1000 + k ∧ TabI wr w1.heap.size m N (setOfL (ys.reverse.take k)) ∧ (∀ b, m = some b → w1.heap.size ≤ b) ∧ Below w1.heap.size w1 wr) (fun i _ => ys.length - (intOf i).toNat)
  case atStart => exact ⟨0, Nb, mb, Nat.zero_le _, rfl, Hs.out.2.1, by simpa using Hb.out, Hs.out.2.2.1, Hs.out.2.2.2.2⟩
  case round =>
    obtain ⟨k, N, m, hk, rfl, hN, hT, hmb, hB⟩ := hrel
    by_cases hlt : k < ys.length
    · have hB' := Hs.out.2.2.2.1.trans (hB.mono hsz1)
      obtain ⟨j, hj⟩ : ∃ j, j = ys.length - 1 - k := ⟨_, rfl⟩
      have hjl : j < ys.length := by omega
      obtain ⟨ad, hidx, hcx⟩ := idx_reads (Hl.out.below hB') hjl
      have hrl : k < ys.reverse.length := by simpa using hlt
      have hrk : ys.reverse[k]'hrl = ys[j] := by simp [hj]
      obtain ⟨hx1, hx2⟩ := take_split hrl
      have hwx := Hw.out ys[j] (by simp)
      have hsn : setOfL (ys.reverse.take (k + 1)) = ins ys[j] (setOfL (ys.reverse.take k)) := by rw [← hx2, setOfL_snoc, hrk]
      have hje : (j : Int) = (ys.length : Int) - 1 - k := by omega
      rw [hje] at hidx
      clear hje
      obtain ⟨x, hx⟩ : ∃ x, x = ys[j] := ⟨_, rfl⟩
      rw [← hx] at hcx hwx hsn
      have Ha := Lib.hid (add52 hT (by omega) hwx)
      have Hsn := Lib.hid hsn
      have HBB := Lib.hid hB
      clear hx1 hx2 hrk hsn hT hB hB' hj hx hrl
      gi_wp2_with (gi_at_call 52; refine ((callsIn_wide (n := 0)).2 Ha.out).mono ?_; rintro e w3 ⟨rfl, m2, h2, hm2, ho2⟩)
      go_roundw
      case rel =>
        have hB := HBB.out
        refine ⟨k + 1, N + 1, m2, by omega, by simp, by omega, by rw [Hsn.out]; exact h2, fun b hb => ?_, ?_⟩
        · rcases hm2 b hb with h | h
          · exact hmb b h
          · exact Nat.le_trans hB.size h
        · exact ((Only.of_below (H := fun _ => False) hB).trans ho2 (fun b hb => .inr (by rcases hb with rfl | hb; omega; exact hmb b hb))).below (fun b hb => hb.elim)
      case measure => simp [intOf]; omega
    · have hge : ¬ ((k : Int) < (ys.length : Int)) := by omega
      have hks : setOfL (ys.reverse.take k) = setOfL ys := by
        rw [List.take_of_length_le (by simp; omega)]
        exact rising_ext (setOfL_rising (fun x hx => Hw.out x (by simpa using hx))).1 (setOfL_rising Hw.out).1 (fun z => by rw [mem_setOfL, mem_setOfL]; simp)
      rw [hks] at hT
      have hkl : (setOfL ys).length ≤ 60 := Nat.le_trans setOfL_length hlen
      obtain ⟨ks, hkse⟩ : ∃ ks, ks = setOfL ys := ⟨_, rfl⟩
      have Hrs : Hid (Rising ks) := hkse ▸ setOfL_rising Hw.out
      have Hmem : Hid (∀ z, z ∈ ys → z ∈ ks) := fun z hz => hkse ▸ mem_setOfL.2 hz
      have HA2 := HA.out.below hB
      rw [← hkse] at hT hkl HA2
      have HA2 := Lib.hid HA2
      have HT2 := Lib.hid hT
      have HBw := Lib.hid (Hs.out.2.2.2.1.trans (hB.mono hsz1))
      have Hl2 := Lib.hid (Hl.out.below HBw.out)
      clear hT hB HA Hb Hs hks hmb hkse Hl hk hlt hN
      gi_wp2_with fail
      refine ((callsIn_wide (n := 0)).2 (all50 HA2.out (by omega))).mono ?_
      rintro e w4 ⟨s4, C4, rfl, hs4, hB4, _⟩
      have Hs4 := Lib.hid hs4
      obtain ⟨g4, l4, rfl⟩ := hs4.func
      clear hs4
      gi_wp2_with fail
      refine ((callsIn_wide (n := 0)).2 (c16 ks _ _ _ Hs4.out 99 (by decide) (by simp; omega))).mono ?_
      rintro e w5 ⟨v5, rfl, hrow5, hB5⟩
      rw [List.take_of_length_le (by simpa using Nat.le_trans hkl (by decide))] at hrow5
      have Hx := Lib.hid (Reads.of_row hrow5)
      obtain ⟨a5, c5, e5⟩ := Hx.out.form
      have hB45 := hB4.trans (hB5.mono hB4.size)
      have HA5 := Lib.hid (HA2.out.below hB45)
      have HT5 := Lib.hid (HT2.out.below hB45)
      have Hl5 := Lib.hid (Hl2.out.below hB45)
      have HB5 := Lib.hid (HBw.out.trans (hB45.mono HBw.out.size))
      clear hrow5 hB4 hB5 hB45 HA2 HT2 Hl2 HBw Hs4
      subst e5
      gi_wp2
      gi_loopw [37] (fun i wr => ∃ k : Nat, k ≤ ks.length ∧ i = .int .i64 k ∧ Below w5.heap.size w5 wr) (fun i _ => ks.length - (intOf i).toNat)
      case atStart => exact ⟨0, Nat.zero_le _, rfl, Below.refl _ _⟩
      case round =>
        obtain ⟨k2, hk2, rfl, hB⟩ := hrel
        by_cases hlt : k2 < ks.length
        · obtain ⟨ad, hidx, hcx⟩ := idx_reads (Hx.out.below hB) hlt
          have hmx := List.getElem_mem hlt
          have hhas := has56 (HT5.out.below hB) (Hrs.out.2 _ hmx)
          rw [decide_eq_true hmx] at hhas
          have Hhas := Lib.hid hhas
          have HBB := Lib.hid hB
          clear hhas hmx
          by_cases hz : k2 = 0
          · obtain ⟨x, hx⟩ : ∃ x, x = ks[k2] := ⟨_, rfl⟩
            rw [← hx] at hcx Hhas
            have hz0 : ¬ ((0 : Int) < (k2 : Int)) := by omega
            clear hx hz hB
            gi_wp2_with (gi_at_call 56; refine ((callsIn_wide (n := 0)).2 Hhas.out).mono ?_; rintro e w6 ⟨rfl, hB6⟩)
            go_roundw
            case rel => exact ⟨k2 + 1, by omega, by simp, HBB.out.trans (hB6.mono HBB.out.size)⟩
            case measure => simp [intOf]; omega
          · have hj1 : k2 - 1 < ks.length := by omega
            obtain ⟨ad1, hidx1, hcx1⟩ := idx_reads (Hx.out.below hB) hj1
            have hje : ((k2 - 1 : Nat) : Int) = (k2 : Int) - 1 := by omega
            rw [hje] at hidx1
            have hlt1 : ks[k2 - 1] < ks[k2] := (List.pairwise_iff_getElem.1 Hrs.out.1) _ _ hj1 hlt (by omega)
            obtain ⟨x, hx⟩ : ∃ x, x = ks[k2] := ⟨_, rfl⟩
            obtain ⟨x1, hx1⟩ : ∃ x1, x1 = ks[k2 - 1] := ⟨_, rfl⟩
            rw [← hx] at hcx Hhas hlt1
            rw [← hx1] at hcx1 hlt1
            have hz0 : (0 : Int) < (k2 : Int) := by omega
            have hnge : ¬ (x ≤ x1) := by omega
            obtain ⟨o1, ho1, _⟩ := cells_of_cell hcx1
            have hbl1 := (Array.getElem?_eq_some_iff.1 ho1).1
            clear hx hx1 hz hB hje hlt1 ho1
            gi_wp2_with (gi_at_call 56; refine ((callsIn_wide (n := 0)).2 Hhas.out).mono ?_; rintro e w6 ⟨rfl, hB6⟩; have hc6 := (hB6.cell (p := ad1) hbl1).trans hcx1)
            go_roundw
            case rel => exact ⟨k2 + 1, by omega, by simp, HBB.out.trans (hB6.mono HBB.out.size)⟩
            case measure => simp [intOf]; omega
        · have hge2 : ¬ ((k2 : Int) < (ks.length : Int)) := by omega
          have HA6 := Lib.hid (HA5.out.below hB)
          have HT6 := Lib.hid (HT5.out.below hB)
          have Hl6 := Lib.hid (Hl5.out.below hB)
          have Hx6 := Lib.hid (Hx.out.below hB)
          have HB6 := Lib.hid (HB5.out.trans (hB.mono HB5.out.size))
          clear HA5 HT5 Hl5 Hx HB5 hB hk2 hlt
          gi_wp2
          gi_loopw [62] (fun i w7 => ∃ k : Nat, k ≤ ys.length ∧ i = .int .i64 k ∧ Below wr.heap.size wr w7) (fun i _ => ys.length - (intOf i).toNat)
          case atStart => exact ⟨0, Nat.zero_le _, rfl, Below.refl _ _⟩
          case round =>
            obtain ⟨k3, hk3, rfl, hB⟩ := hrel
            by_cases hlt : k3 < ys.length
            · obtain ⟨ad, hidx, hcx⟩ := idx_reads (Hl6.out.below hB) hlt
              have hmx := Hmem.out _ (List.getElem_mem hlt)
              have hhas := has56 (HA6.out.below hB) (Hrs.out.2 _ hmx)
              rw [decide_eq_true hmx] at hhas
              have Hhas := Lib.hid hhas
              have HBB := Lib.hid hB
              clear hhas hmx
              obtain ⟨x, hx⟩ : ∃ x, x = ys[k3] := ⟨_, rfl⟩
              rw [← hx] at hcx Hhas
              clear hx hB
              gi_wp2_with (gi_at_call 56; refine ((callsIn_wide (n := 0)).2 Hhas.out).mono ?_; rintro e w6 ⟨rfl, hB6⟩)
              go_roundw
              case rel => exact ⟨k3 + 1, by omega, by simp, HBB.out.trans (hB6.mono HBB.out.size)⟩
              case measure => simp [intOf]; omega
            · have hge3 : ¬ ((k3 : Int) < (ys.length : Int)) := by omega
              have HA7 := Lib.hid (len51 (HA6.out.below hB))
              have HT7 := Lib.hid (HT6.out.below hB)
              have Hx7 := Lib.hid (Hx6.out.below hB)
              have HB7 := Lib.hid (HB6.out.trans (hB.mono HB6.out.size))
              have heq : ((ks.length : Int) == (ks.length : Int)) = true := by simp
              clear HA6 HT6 Hl6 Hx6 HB6 hB hk3 hlt
              gi_wp2_with fail
              refine ((callsIn_wide (n := 0)).2 HA7.out).mono ?_
              rintro e w8 ⟨rfl, rfl⟩
              gi_wp2_with fail
              refine ((callsIn_wide (n := 0)).2 (all50 HT7.out (by omega))).mono ?_
              rintro e w9 ⟨s9, C9, rfl, hs9, hB9, _⟩
              have Hs9 := Lib.hid hs9
              obtain ⟨g9, l9, rfl⟩ := hs9.func
              clear hs9
              gi_wp2_with fail
              refine ((callsIn_wide (n := 0)).2 (c16 ks _ _ _ Hs9.out 99 (by decide) (by simp; omega))).mono ?_
              rintro e w10 ⟨v10, rfl, hrow10, hB10⟩
              rw [List.take_of_length_le (by simpa using Nat.le_trans hkl (by decide))] at hrow10
              have Hx10 := Lib.hid (Reads.of_row hrow10)
              obtain ⟨a10, c10, e10⟩ := Hx10.out.form
              have hB910 := hB9.trans (hB10.mono hB9.size)
              have Hsame := Lib.hid (same15 ks (by omega) _ _ w10 (Hx7.out.below hB910) Hx10.out)
              have HB10 := Lib.hid (HB7.out.trans (hB910.mono HB7.out.size))
              clear hrow10 hB9 hB10 hB910 HB7 Hx7 HT7 HA7 Hs9 Hx10
              subst e10
              gi_wp2_with fail
              refine ((callsIn_wide (n := 0)).2 Hsame.out).mono ?_
              rintro e w11 ⟨rfl, hB11⟩
              have HB11 := Lib.hid (HB10.out.trans (hB11.mono HB10.out.size))
              clear hB11 HB10 Hsame
              gi_wp2_with fail
              refine ((callsIn_wide (n := 0)).2 (awake19 w11)).mono ?_
              rintro e w12 ⟨rfl, hB12⟩
              gi_wp2
              go_ret
              exact ⟨rfl, HB11.out.trans (hB12.mono HB11.out.size)⟩
end Go.Proofs.Ytdfnainibjgenaa
