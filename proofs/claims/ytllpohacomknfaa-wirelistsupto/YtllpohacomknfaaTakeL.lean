/- wire.TakeList at rows of bytes. -/
import Derived.Test.YtllpohacomknfaaRows2
namespace Go.Proofs.Ytllpohacomknfaa
open Go.RowKit
set_option linter.unusedVariables false
set_option linter.unusedSimpArgs false

set_option maxRecDepth 100000 in
set_option maxHeartbeats 1000000 in
theorem small34 (bs : List UInt8) (hl : bs.length ≤ 140737488355328) (v : Value) (w : World) (hv : RB w v bs) :
    Calls Try.prog 34 #[v] w (GivesT (tb bs 300) w) := by
  have H := Lib.hid (tb19 bs hl 300 (by decide) (by decide) v w hv)
  go_enter Try.func34, Try.ntmps34
  go_wp2_with fail
  refine H.out.mono ?_
  rintro e w1 hG
  have HG := Lib.hid hG
  obtain ⟨v1, rfl, _⟩ := hG
  go_wp2
  go_ret3
  exact HG.out

set_option maxRecDepth 100000 in
set_option maxHeartbeats 4000000 in
theorem takel_34 (bs : List UInt8) (hl : bs.length ≤ 1048576000) (most : Int) (h1 : -9223372036854775808 ≤ most) (h2 : most ≤ 9223372036854775807) (v : Value) (w : World) (hv : RB w v bs) :
    Calls Try.prog 23 #[v, .int .i64 most, .func (.func 34) #[] #[]] w (GivesL (tl bs most 300) w) := by
  have q40 := fun w => run_eql_func_nil (P := Try.prog) w 40 Try.underlying40
  obtain ⟨i0, hi, hz0, hz1, hz2⟩ := info_parts info22
  obtain ⟨a, c, e1, hc, hn0⟩ := hv.form
  have HV := Lib.hid hv
  have HN := Lib.hid hn0
  have hl' : bs.length ≤ 140737488355328 := by omega
  clear hv hn0
  subst e1
  rcases tk_cases bs with ⟨n, k0, h, hn, hk, hkl⟩ | h | h
  rotate_left
  iterate 2
    rw [tl_err h (by decide)]
    have H10 := Lib.hid (take10' h hl' _ w HV.out)
    clear h
    go_enter Try.func23, Try.ntmps23
    go_wp2_with (go_at_call 10; refine H10.out.mono ?_; rintro e w' ⟨rfl, rfl⟩)
    go_ret3
    exact GivesL.none 0 _ (Below.refl _ _)
  have H10 := Lib.hid (take10' h hl' _ w HV.out)
  by_cases hm : most < 0 ∨ most < (n : Int)
  · have HB := Lib.hid (bey39_true n hn most h1 h2 w hm)
    rw [tl_many h hm]
    clear hm h
    go_enter Try.func23, Try.ntmps23
    go_wp2_with (first | (go_at_call 10; refine H10.out.mono ?_; rintro e w' ⟨rfl, rfl⟩) | (go_at_call 39; refine HB.out.mono ?_; rintro e w' ⟨rfl, rfl⟩))
    go_ret3
    exact GivesL.none 0 18 (Below.refl _ _)
  have hm0 : 0 ≤ most := by omega
  have hm1 : (n : Int) ≤ most := by omega
  have HB := Lib.hid (bey39_false n hn most hm0 h2 w hm1)
  rw [tl_go h hm0 hm1]
  clear hm h
  go_enter Try.func23, Try.ntmps23
  go_wp2_with (first | (go_at_call 10; refine H10.out.mono ?_; rintro e w' ⟨rfl, rfl⟩) | (go_at_call 39; refine HB.out.mono ?_; rintro e w' ⟨rfl, rfl⟩))
  clear H10 HB
  go_loopw [10, 12, 32] (fun f u t wr => ∃ (j fin : Nat) (acc : List (List UInt8)) (vals : List Value), j ≤ n ∧ t = .int .u64 (j : Int) ∧ f = .int .i64 (fin : Int) ∧ fin ≤ bs.length ∧ vals.length ≤ fin ∧ Hid (tla 300 bs n k0 [] = tla 300 bs (n - j) fin acc) ∧ wr.ownsRow w.heap.size 22 1 u vals.length vals ∧ RO wr w.heap.size vals acc ∧ Below w.heap.size w wr)
    (fun _ _ t _ => n - (intOf t).toNat)
  case atStart => exact ⟨0, k0, [], [], Nat.zero_le _, rfl, rfl, hkl, Nat.zero_le _, Lib.hid rfl, World.ownsRow_nil _ _ _ _, RO.nil _ _, Below.refl _ _⟩
  case round =>
    obtain ⟨j, fin, acc, vals, hj, rfl, rfl, hfin, hva, HT, hrow, hro, hB⟩ := hrel
    by_cases hlt : j < n
    · obtain ⟨d, hd⟩ : ∃ d, n - j = d + 1 := ⟨n - j - 1, by omega⟩
      have HVr := Lib.hid (HV.out.below hB)
      obtain ⟨r, hr⟩ : ∃ r, tb (bs.drop fin) 300 = r := ⟨_, rfl⟩
      obtain ⟨o, k, e⟩ := r
      have hkl2 : k ≤ bs.length - fin := by have := (tb_le (bs.drop fin) 300).1; rw [hr] at this; simpa using this
      have hpos : e = 0 → 1 ≤ k := by intro he; have := tb_pos (bs := bs.drop fin) (M := 300); rw [hr] at this; exact this he
      have HR := Lib.hid hr
      have HD := Lib.hid hd
      clear hr hd
      have HF : Hid (∀ (a' : Option Addr) (c' : Nat), RB wr (.slice a' (bs.length - fin) c') (bs.drop fin) → Calls Try.prog 34 #[.slice a' (bs.length - fin) (bs.length - fin)] wr (GivesT (o, k, e) wr)) := fun a' c' hp => by
        have e0 : (bs.drop fin).length = bs.length - fin := by simp
        have := small34 (bs.drop fin) (by simp; omega) _ wr (RB.fence (c := c') (by rw [e0]; exact hp))
        rw [e0, HR.out] at this
        exact this
      by_cases he : e = 0
      · subst he
        have hk1 := hpos rfl
        clear hpos
        have HT' := Lib.hid (show tla 300 bs n k0 [] = tla 300 bs (n - (j + 1)) (fin + k) (acc ++ [o]) from by
          rw [HT.out, HD.out, tla_go HR.out]; congr 1; have := HD.out; omega)
        by_cases hck : c = fin
        · have HC := Lib.hid (HF.out a 0 (HVr.out.from hfin 0 (by omega) a (fun h => absurd hck h) (fun _ => rfl)))
          have H40 := Lib.hid (fenced40 a (bs.length - fin) 0 (by omega) (by omega) wr)
          exfalso
          omega
        · have HC := Lib.hid (HF.out (a.map (·.add fin)) (c - fin) (HVr.out.from hfin (c - fin) rfl (a.map (·.add fin)) (fun _ => rfl) (fun h => by have := HN.out (by simpa using h); omega)))
          have H40 := Lib.hid (fenced40 (a.map (·.add fin)) (bs.length - fin) (c - fin) (by omega) (by omega) wr)
          clear HF
          go_wp2_with (first | (go_at_call 40; refine H40.out.mono ?_; rintro e w' ⟨rfl, rfl⟩) | fail)
          refine HC.out.mono ?_
          rintro e w1 ⟨xv, rfl, hx, hB1⟩
          obtain ⟨xa, xc, e1, _, _⟩ := (RB.of_row hx).form
          simp only at e1
          subst e1
          have hrow1 := row_below hrow hB1
          have hs1 : w.heap.size ≤ w1.heap.size := Nat.le_trans hB.size hB1.size
          go_wp2_with (at_builtin; refine wpList_append_one w1 rfl _ _ 37 rfl w.heap.size 22 i0 (.slice none 0 0) 24 Try.underlying37 hi hz0 hz1 hz2 rfl _ _ _ rfl hrow1 _ rfl (by rfl) (by rfl) (by unfold maxLen; omega) (by omega) hs1 ?_; intro v' w2 hrow' hk' hw')
          have R := rows_more hB hrow hro hx hB1 hrow' hk'
          clear hrow' hk' hw' hrow hro hx hB1 hrow1 HC H40 HVr
          go_roundw
          case rel => exact ⟨j + 1, fin + k, acc ++ [o], _, by omega, by go_num, by go_num, by omega, by simp; omega, HT', R.2.1, R.2.2, R.1⟩
          case measure => simp [intOf]; omega
      · have hne : ((e : Int) != 0) = true := by simp; omega
        have HT' := Lib.hid (show tla 300 bs n k0 [] = ([], 0, e) from by rw [HT.out, HD.out, tla_stop HR.out he])
        clear hpos he
        by_cases hck : c = fin
        · subst hck
          have HC := Lib.hid (HF.out a 0 (HVr.out.from hfin 0 (by omega) a (fun h => absurd rfl h) (fun _ => rfl)))
          have H40 := Lib.hid (fenced40 a (bs.length - c) 0 (by omega) (by omega) wr)
          have e00 : bs.length - c = 0 := by omega
          rw [e00] at HC H40
          clear HF e00
          go_wp2_with (first | (go_at_call 40; refine H40.out.mono ?_; rintro e w' ⟨rfl, rfl⟩) | fail)
          refine HC.out.mono ?_
          rintro e w1 ⟨xv, rfl, hx, hB1⟩
          go_wp2
          go_ret3
          rw [HT'.out]
          exact GivesL.none 0 _ (hB.trans (hB1.mono hB.size))
        · have HC := Lib.hid (HF.out (a.map (·.add fin)) (c - fin) (HVr.out.from hfin (c - fin) rfl (a.map (·.add fin)) (fun _ => rfl) (fun h => by have := HN.out (by simpa using h); omega)))
          have H40 := Lib.hid (fenced40 (a.map (·.add fin)) (bs.length - fin) (c - fin) (by omega) (by omega) wr)
          clear HF
          go_wp2_with (first | (go_at_call 40; refine H40.out.mono ?_; rintro e w' ⟨rfl, rfl⟩) | fail)
          refine HC.out.mono ?_
          rintro e w1 ⟨xv, rfl, hx, hB1⟩
          go_wp2
          go_ret3
          rw [HT'.out]
          exact GivesL.none 0 _ (hB.trans (hB1.mono hB.size))
    · obtain rfl : j = n := by omega
      have HT' := Lib.hid (show tla 300 bs j k0 [] = (acc, fin, 0) from by rw [HT.out, Nat.sub_self]; rfl)
      clear HT
      go_wp2
      go_ret3
      rw [HT'.out]
      exact ⟨_, vals, rfl, hrow, hro, hB⟩

set_option maxRecDepth 100000 in
set_option maxHeartbeats 4000000 in
theorem takel_24 (bs : List UInt8) (hl : bs.length ≤ 1048576000) (most : Int) (h1 : -9223372036854775808 ≤ most) (h2 : most ≤ 9223372036854775807) (v : Value) (w : World) (hv : RB w v bs) :
    Calls Try.prog 23 #[v, .int .i64 most, .func (.func 24) #[] #[]] w (GivesL (tl bs most 5) w) := by
  have q40 := fun w => run_eql_func_nil (P := Try.prog) w 40 Try.underlying40
  obtain ⟨i0, hi, hz0, hz1, hz2⟩ := info_parts info22
  obtain ⟨a, c, e1, hc, hn0⟩ := hv.form
  have HV := Lib.hid hv
  have HN := Lib.hid hn0
  have hl' : bs.length ≤ 140737488355328 := by omega
  clear hv hn0
  subst e1
  rcases tk_cases bs with ⟨n, k0, h, hn, hk, hkl⟩ | h | h
  rotate_left
  iterate 2
    rw [tl_err h (by decide)]
    have H10 := Lib.hid (take10' h hl' _ w HV.out)
    clear h
    go_enter Try.func23, Try.ntmps23
    go_wp2_with (go_at_call 10; refine H10.out.mono ?_; rintro e w' ⟨rfl, rfl⟩)
    go_ret3
    exact GivesL.none 0 _ (Below.refl _ _)
  have H10 := Lib.hid (take10' h hl' _ w HV.out)
  by_cases hm : most < 0 ∨ most < (n : Int)
  · have HB := Lib.hid (bey39_true n hn most h1 h2 w hm)
    rw [tl_many h hm]
    clear hm h
    go_enter Try.func23, Try.ntmps23
    go_wp2_with (first | (go_at_call 10; refine H10.out.mono ?_; rintro e w' ⟨rfl, rfl⟩) | (go_at_call 39; refine HB.out.mono ?_; rintro e w' ⟨rfl, rfl⟩))
    go_ret3
    exact GivesL.none 0 18 (Below.refl _ _)
  have hm0 : 0 ≤ most := by omega
  have hm1 : (n : Int) ≤ most := by omega
  have HB := Lib.hid (bey39_false n hn most hm0 h2 w hm1)
  rw [tl_go h hm0 hm1]
  clear hm h
  go_enter Try.func23, Try.ntmps23
  go_wp2_with (first | (go_at_call 10; refine H10.out.mono ?_; rintro e w' ⟨rfl, rfl⟩) | (go_at_call 39; refine HB.out.mono ?_; rintro e w' ⟨rfl, rfl⟩))
  clear H10 HB
  go_loopw [10, 12, 32] (fun f u t wr => ∃ (j fin : Nat) (acc : List (List UInt8)) (vals : List Value), j ≤ n ∧ t = .int .u64 (j : Int) ∧ f = .int .i64 (fin : Int) ∧ fin ≤ bs.length ∧ vals.length ≤ fin ∧ Hid (tla 5 bs n k0 [] = tla 5 bs (n - j) fin acc) ∧ wr.ownsRow w.heap.size 22 1 u vals.length vals ∧ RO wr w.heap.size vals acc ∧ Below w.heap.size w wr)
    (fun _ _ t _ => n - (intOf t).toNat)
  case atStart => exact ⟨0, k0, [], [], Nat.zero_le _, rfl, rfl, hkl, Nat.zero_le _, Lib.hid rfl, World.ownsRow_nil _ _ _ _, RO.nil _ _, Below.refl _ _⟩
  case round =>
    obtain ⟨j, fin, acc, vals, hj, rfl, rfl, hfin, hva, HT, hrow, hro, hB⟩ := hrel
    by_cases hlt : j < n
    · obtain ⟨d, hd⟩ : ∃ d, n - j = d + 1 := ⟨n - j - 1, by omega⟩
      have HVr := Lib.hid (HV.out.below hB)
      obtain ⟨r, hr⟩ : ∃ r, tb (bs.drop fin) 5 = r := ⟨_, rfl⟩
      obtain ⟨o, k, e⟩ := r
      have hkl2 : k ≤ bs.length - fin := by have := (tb_le (bs.drop fin) 5).1; rw [hr] at this; simpa using this
      have hpos : e = 0 → 1 ≤ k := by intro he; have := tb_pos (bs := bs.drop fin) (M := 5); rw [hr] at this; exact this he
      have HR := Lib.hid hr
      have HD := Lib.hid hd
      clear hr hd
      have HF : Hid (∀ (a' : Option Addr) (c' : Nat), RB wr (.slice a' (bs.length - fin) c') (bs.drop fin) → Calls Try.prog 24 #[.slice a' (bs.length - fin) (bs.length - fin)] wr (GivesT (o, k, e) wr)) := fun a' c' hp => by
        have e0 : (bs.drop fin).length = bs.length - fin := by simp
        have := small24 (bs.drop fin) (by simp; omega) _ wr (RB.fence (c := c') (by rw [e0]; exact hp))
        rw [e0, HR.out] at this
        exact this
      by_cases he : e = 0
      · subst he
        have hk1 := hpos rfl
        clear hpos
        have HT' := Lib.hid (show tla 5 bs n k0 [] = tla 5 bs (n - (j + 1)) (fin + k) (acc ++ [o]) from by
          rw [HT.out, HD.out, tla_go HR.out]; congr 1; have := HD.out; omega)
        by_cases hck : c = fin
        · have HC := Lib.hid (HF.out a 0 (HVr.out.from hfin 0 (by omega) a (fun h => absurd hck h) (fun _ => rfl)))
          have H40 := Lib.hid (fenced40 a (bs.length - fin) 0 (by omega) (by omega) wr)
          exfalso
          omega
        · have HC := Lib.hid (HF.out (a.map (·.add fin)) (c - fin) (HVr.out.from hfin (c - fin) rfl (a.map (·.add fin)) (fun _ => rfl) (fun h => by have := HN.out (by simpa using h); omega)))
          have H40 := Lib.hid (fenced40 (a.map (·.add fin)) (bs.length - fin) (c - fin) (by omega) (by omega) wr)
          clear HF
          go_wp2_with (first | (go_at_call 40; refine H40.out.mono ?_; rintro e w' ⟨rfl, rfl⟩) | fail)
          refine HC.out.mono ?_
          rintro e w1 ⟨xv, rfl, hx, hB1⟩
          obtain ⟨xa, xc, e1, _, _⟩ := (RB.of_row hx).form
          simp only at e1
          subst e1
          have hrow1 := row_below hrow hB1
          have hs1 : w.heap.size ≤ w1.heap.size := Nat.le_trans hB.size hB1.size
          go_wp2_with (at_builtin; refine wpList_append_one w1 rfl _ _ 37 rfl w.heap.size 22 i0 (.slice none 0 0) 24 Try.underlying37 hi hz0 hz1 hz2 rfl _ _ _ rfl hrow1 _ rfl (by rfl) (by rfl) (by unfold maxLen; omega) (by omega) hs1 ?_; intro v' w2 hrow' hk' hw')
          have R := rows_more hB hrow hro hx hB1 hrow' hk'
          clear hrow' hk' hw' hrow hro hx hB1 hrow1 HC H40 HVr
          go_roundw
          case rel => exact ⟨j + 1, fin + k, acc ++ [o], _, by omega, by go_num, by go_num, by omega, by simp; omega, HT', R.2.1, R.2.2, R.1⟩
          case measure => simp [intOf]; omega
      · have hne : ((e : Int) != 0) = true := by simp; omega
        have HT' := Lib.hid (show tla 5 bs n k0 [] = ([], 0, e) from by rw [HT.out, HD.out, tla_stop HR.out he])
        clear hpos he
        by_cases hck : c = fin
        · subst hck
          have HC := Lib.hid (HF.out a 0 (HVr.out.from hfin 0 (by omega) a (fun h => absurd rfl h) (fun _ => rfl)))
          have H40 := Lib.hid (fenced40 a (bs.length - c) 0 (by omega) (by omega) wr)
          have e00 : bs.length - c = 0 := by omega
          rw [e00] at HC H40
          clear HF e00
          go_wp2_with (first | (go_at_call 40; refine H40.out.mono ?_; rintro e w' ⟨rfl, rfl⟩) | fail)
          refine HC.out.mono ?_
          rintro e w1 ⟨xv, rfl, hx, hB1⟩
          go_wp2
          go_ret3
          rw [HT'.out]
          exact GivesL.none 0 _ (hB.trans (hB1.mono hB.size))
        · have HC := Lib.hid (HF.out (a.map (·.add fin)) (c - fin) (HVr.out.from hfin (c - fin) rfl (a.map (·.add fin)) (fun _ => rfl) (fun h => by have := HN.out (by simpa using h); omega)))
          have H40 := Lib.hid (fenced40 (a.map (·.add fin)) (bs.length - fin) (c - fin) (by omega) (by omega) wr)
          clear HF
          go_wp2_with (first | (go_at_call 40; refine H40.out.mono ?_; rintro e w' ⟨rfl, rfl⟩) | fail)
          refine HC.out.mono ?_
          rintro e w1 ⟨xv, rfl, hx, hB1⟩
          go_wp2
          go_ret3
          rw [HT'.out]
          exact GivesL.none 0 _ (hB.trans (hB1.mono hB.size))
    · obtain rfl : j = n := by omega
      have HT' := Lib.hid (show tla 5 bs j k0 [] = (acc, fin, 0) from by rw [HT.out, Nat.sub_self]; rfl)
      clear HT
      go_wp2
      go_ret3
      rw [HT'.out]
      exact ⟨_, vals, rfl, hrow, hro, hB⟩
end Go.Proofs.Ytllpohacomknfaa
