/- WireLists' walk. -/
import Derived.Test.YtllpohacomknfaaReader
import Derived.Test.YtllpohacomknfaaWlReg
import Derived.Test.YtllpohacomknfaaTakeL
namespace Go.Proofs.Ytllpohacomknfaa
open Go.RowKit Go.Shelf
set_option linter.unusedVariables false
set_option linter.unusedSimpArgs false

set_option maxRecDepth 100000 in
set_option maxHeartbeats 8000000 in
theorem wl_err (bs : List UInt8) (ls : List (List UInt8)) (hb : bs.length ≤ 2000) (htot : tot ls ≤ 20971520) (hll : ls.length ≤ 50) (HLS : Hid (∀ s ∈ ls, s.length ≤ 1048576)) (most : Int) (h1 : -9223372036854775808 ≤ most) (h2 : most ≤ 9223372036854775807) (a a2 : Option Addr) (c c2 : Nat) (vals : List Value) (w : World) (hc : bs.length ≤ c) (hc2 : ls.length ≤ c2) (HL : Hid (vals.length = ls.length)) (HV : Hid (RB w (.slice a bs.length c) bs)) (HU : Hid (RV w (.slice a2 ls.length c2) vals)) (HR : Hid (RL w vals ls)) (HC : Hid (∀ q x, vals[q]? = some x → ∃ b off, a2 = some ⟨b, off, none⟩ ∧ w.cell? ⟨b, off + q, none⟩ = some x)) {er : Nat} (h : tk bs = (0, 0, er)) (her : er ≠ 0) :
    Calls Try.prog 5 #[.slice a bs.length c, .int .i64 most, .slice a2 ls.length c2] w (Yes w) := by
  have H23 := Lib.hid (takel_24 bs (by omega) most h1 h2 _ w HV.out)
  rw [tl_err h her] at H23
  have hbs : bs.length ≤ 140737488355328 := by omega
  have HT := Lib.hid h
  have HE := Lib.hid her
  have hne : ((er : Int) != 0) = true := by simp; omega
  have heq : ((er : Int) == 0) = false := by simp; omega
  have hself : ((er : Int) != (er : Int)) = false := by simp
  clear h her
  go_enter Try.func5, Try.ntmps5
  go_wp2_with fail
  refine H23.out.mono ?_
  rintro e w1 ⟨xv, xs, rfl, hrow, hro, hB1⟩
  obtain ⟨W2, hW2⟩ : ∃ W2, w1.alloc (.cells #[.slice a bs.length c, .int .i64 0] 43) = W2 := ⟨_, rfl⟩
  have hB2 : Below w1.heap.size w1 W2 := by rw [← hW2]; exact (Below.refl _ _).alloc (Nat.le_refl _) _
  have hRd : Rd W2 w1.heap.size (.slice a bs.length c) 0 := by rw [← hW2]; show (w1.heap.push _)[w1.heap.size]? = _; simp
  have HW2 := Lib.hid hW2
  have HV1 := Lib.hid (HV.out.below hB1)
  have HV2 := Lib.hid (HV1.out.below hB2)
  have HRd := Lib.hid hRd
  have HB12 := Lib.hid (hB1.trans (hB2.mono hB1.size))
  have hs1 := hB1.size
  clear hW2 hRd H23
  have hx0 : xs = [] := List.eq_nil_of_length_eq_zero (by simpa using hro.1)
  subst hx0
  obtain ⟨xa, xc, e9, _, _⟩ := (RV.of_row hrow).form
  simp only [List.length_nil] at e9
  subst e9
  clear hrow hro
  by_cases hmp : 0 < most
  all_goals
    go_wp2_with fail
    rw [HW2.out]
    refine (number25_err bs hbs a c w1.heap.size W2 HRd.out HV2.out HT.out HE.out).mono ?_
    rintro e' Wq ⟨rfl, hK, hRq⟩
    obtain ⟨q0, q1, q2, q3⟩ := hRq.facts
    have HQ := Lib.hid (HB12.out.trans (hK.below w.heap.size HB12.out.size (fun j hj => by simp [blk, Value.ownBlock] at hj; omega)))
    clear hK hRq HRd HV2 HW2 HB12 hB2 hB1 HV1
    go_wp2_with fail
    go_loopw [14] (fun t wr => t = .int .u64 0 ∧ Wq = wr) (fun _ _ => 0)
    case atStart => exact ⟨rfl, rfl⟩
    case round =>
      obtain ⟨rfl, rfl⟩ := hrel
      go_wp2_with (at_builtin; refine wpList_append_rb rfl _ _ rfl w.heap.size _ [] rfl (empty_row _ HQ.out.size) _ bs rfl ((HV.out.below HQ.out).below ((Below.refl _ _).alloc (Nat.le_refl _) _)) (by simp; omega) (by have := HQ.out.size; simp; omega) ?_; intro v5 w5 ho5 hB5; have HW5 := Lib.hid ((HQ.out.alloc HQ.out.size _).trans hB5))
      simp only [List.nil_append] at ho5
      refine (put15 w.heap.size ls.length (by omega) bs (by omega) v5 w5 HW5.out.size ho5).mono ?_
      rintro e6 w6 ⟨v6, rfl, ho6, hB6, hz6⟩
      have hB6' := HW5.out.trans hB6
      clear ho5 hB5 hB6 HW5 hz6
      go_wp2_with fail
      go_loopw [15, 126] (fun o i wr => ∃ q : Nat, q ≤ ls.length ∧ i = .int .i64 (q : Int) ∧ wr.ownsRow w.heap.size 5 1 o (bs ++ (dig ls.length ++ (ls.take q).flatMap pb)).length ((bs ++ (dig ls.length ++ (ls.take q).flatMap pb)).map encU) ∧ Below w.heap.size w wr) (fun _ i _ => ls.length - (intOf i).toNat)
      case atStart => exact ⟨0, Nat.zero_le _, rfl, by simpa using ho6, hB6'⟩
      case round =>
        obtain ⟨q, hq, rfl, hoq, hBq⟩ := hrel
        have hlen2 : ((ls.take q).flatMap pb).length ≤ tot ls := Nat.le_trans (flat_le _ (fun s hs => by have := HLS.out s (List.mem_of_mem_take hs); omega)) (tot_take ls q)
        have hd10 := dig_len10 (n := ls.length) (by omega)
        by_cases hlq : q < ls.length
        · obtain ⟨x, hx⟩ : ∃ x, vals[q]? = some x := ⟨_, List.getElem?_eq_getElem (by have := HL.out; omega)⟩
          obtain ⟨s, hs⟩ : ∃ s, ls[q]? = some s := ⟨_, List.getElem?_eq_getElem hlq⟩
          obtain ⟨b, off, rfl, hcell0⟩ := HC.out q x hx
          have hcell := (hBq.cell (p := ⟨b, off + q, none⟩) (cells_block hcell0)).trans hcell0
          have hxs := HR.out.2 q x s hx hs
          obtain ⟨xa2, xc2, e9, _, _⟩ := hxs.form
          subst e9
          have hsl := HLS.out s (List.mem_of_getElem? hs)
          have hsn : ls.take (q + 1) = ls.take q ++ [s] := by rw [List.take_add_one, hs]; rfl
          have HSN := Lib.hid hsn
          have H22 := Lib.hid (put22 w.heap.size _ s (by simp only [List.length_append]; omega) _ _ w _ hxs (Nat.le_refl _) hBq hBq.size hoq)
          clear hx hs hsn hxs hcell0 hoq
          go_wp2_with fail
          refine H22.out.mono ?_
          rintro e7 w7 ⟨v7, rfl, ho7, hB7, hz7⟩
          have ho7' : w7.ownsRow w.heap.size 5 1 v7 (bs ++ (dig ls.length ++ (ls.take (q + 1)).flatMap pb)).length ((bs ++ (dig ls.length ++ (ls.take (q + 1)).flatMap pb)).map encU) := by
            rw [HSN.out]
            have e0 : bs ++ (dig ls.length ++ (ls.take q ++ [s]).flatMap pb) = bs ++ (dig ls.length ++ (ls.take q).flatMap pb) ++ pb s := by simp
            rw [e0]; exact ho7
          have hB7' := hBq.trans hB7
          clear ho7 hB7 hBq H22 hz7
          go_wp2
          go_roundw
          case rel => exact ⟨q + 1, by omega, by go_num, ho7', hB7'⟩
          case measure => simp [intOf]; omega
        · obtain rfl : q = ls.length := by omega
          rw [List.take_of_length_le (Nat.le_refl _)] at hoq
          have HZ := Lib.hid (show RB _ _ (bs ++ pl ls) from RB.of_row hoq)
          have HBq := Lib.hid hBq
          clear hoq hBq
          go_wp2_with fail
          refine draw_as (ops := regOps Try.f5 27) (by kernel_rfl) ?_
          refine draw_start (K := Tells 144 6 _) (S := S0 _) (N := 11) (by kernel_rfl) (by kernel_rfl) ?_ (wl_region bs ls (by omega) (by omega) (fun s hs => by have := HLS.out s hs; omega) _ _ _ vals _ _ (Fr.of_list rfl rfl (by kernel_rfl)) (HV.out.below HBq.out) (HU.out.below HBq.out) (HR.out.below HBq.out) HZ.out)
          intro a9 w9 hT
          go_wp2
          exact bodyPost_ret (v := .bool true) (by simp [results, Try.results5, hT.1.slot 6 _ rfl]) hT.1.defers ⟨rfl, HBq.out.trans (hT.2.mono HBq.out.size)⟩

set_option maxRecDepth 100000 in
set_option maxHeartbeats 8000000 in
theorem wl_many (bs : List UInt8) (ls : List (List UInt8)) (hb : bs.length ≤ 2000) (htot : tot ls ≤ 20971520) (hll : ls.length ≤ 50) (HLS : Hid (∀ s ∈ ls, s.length ≤ 1048576)) (most : Int) (h1 : -9223372036854775808 ≤ most) (h2 : most ≤ 9223372036854775807) (a a2 : Option Addr) (c c2 : Nat) (vals : List Value) (w : World) (hc : bs.length ≤ c) (hc2 : ls.length ≤ c2) (HL : Hid (vals.length = ls.length)) (HV : Hid (RB w (.slice a bs.length c) bs)) (HU : Hid (RV w (.slice a2 ls.length c2) vals)) (HR : Hid (RL w vals ls)) (HC : Hid (∀ q x, vals[q]? = some x → ∃ b off, a2 = some ⟨b, off, none⟩ ∧ w.cell? ⟨b, off + q, none⟩ = some x)) {n k : Nat} (h : tk bs = (n, k, 0)) (hm : most < 0 ∨ most < (n : Int)) :
    Calls Try.prog 5 #[.slice a bs.length c, .int .i64 most, .slice a2 ls.length c2] w (Yes w) := by
  have H23 := Lib.hid (takel_24 bs (by omega) most h1 h2 _ w HV.out)
  rw [tl_many h hm] at H23
  have hbs : bs.length ≤ 140737488355328 := by omega
  have HT := Lib.hid h
  have hn64 : n < 2 ^ 64 := by have := (tk_lt bs).1; rw [h] at this; exact this
  clear h
  go_enter Try.func5, Try.ntmps5
  go_wp2_with fail
  refine H23.out.mono ?_
  rintro e w1 ⟨xv, xs, rfl, hrow, hro, hB1⟩
  obtain ⟨W2, hW2⟩ : ∃ W2, w1.alloc (.cells #[.slice a bs.length c, .int .i64 0] 43) = W2 := ⟨_, rfl⟩
  have hB2 : Below w1.heap.size w1 W2 := by rw [← hW2]; exact (Below.refl _ _).alloc (Nat.le_refl _) _
  have hRd : Rd W2 w1.heap.size (.slice a bs.length c) 0 := by rw [← hW2]; show (w1.heap.push _)[w1.heap.size]? = _; simp
  have HW2 := Lib.hid hW2
  have HV1 := Lib.hid (HV.out.below hB1)
  have HV2 := Lib.hid (HV1.out.below hB2)
  have HRd := Lib.hid hRd
  have HB12 := Lib.hid (hB1.trans (hB2.mono hB1.size))
  have hs1 := hB1.size
  clear hW2 hRd H23
  have hx0 : xs = [] := List.eq_nil_of_length_eq_zero (by simpa using hro.1)
  subst hx0
  obtain ⟨xa, xc, e9, _, _⟩ := (RV.of_row hrow).form
  simp only [List.length_nil] at e9
  subst e9
  clear hrow hro
  rcases (show (most < 0 ∧ n ≤ 0) ∨ (most < 0 ∧ 0 < n) ∨ (0 ≤ most ∧ most ≤ 0 ∧ 0 < n) ∨ (0 < most ∧ most < (n : Int) ∧ 0 < n) by omega) with ⟨g1, g2⟩ | ⟨g1, g2⟩ | ⟨g1, g2, g3⟩ | ⟨g1, g2, g3⟩
  all_goals
    clear hm
    go_wp2_with fail
    rw [HW2.out]
    refine (number25 bs hbs a c w1.heap.size W2 w HRd.out HV2.out HV.out HT.out).mono ?_
    rintro e' W3 ⟨rfl, hK, a', c', hRq, _⟩
    obtain ⟨q0, q1, q2, q3⟩ := hRq.facts
    obtain ⟨Wq, hWq⟩ : ∃ Wq, W3.setCell ⟨w1.heap.size, 1, none⟩ (.int .i64 18) = Wq := ⟨_, rfl⟩
    have hRq2 : Rd Wq w1.heap.size (.slice a' (bs.length - k) c') 18 := by rw [← hWq]; exact hRq.set1
    have hK2 : Kept (blk w1.heap.size) W3 Wq := by rw [← hWq]; exact Kept.setCell _ _ _ _
    obtain ⟨p0, p1, p2, p3⟩ := hRq2.facts
    have hK := hK.then hK2
    have HQ := Lib.hid (HB12.out.trans (hK.below w.heap.size HB12.out.size (fun j hj => by simp [blk, Value.ownBlock] at hj; omega)))
    have HWq := Lib.hid hWq
    clear hK hK2 hRq hRq2 HRd HV2 HW2 HB12 hB2 hB1 HV1 hWq
    go_wp2_with fail
    rw [HWq.out]
    go_loopw [14] (fun t wr => t = .int .u64 0 ∧ Wq = wr) (fun _ _ => 0)
    case atStart => exact ⟨rfl, rfl⟩
    case round =>
      obtain ⟨rfl, rfl⟩ := hrel
      clear q0 q1 q2 q3
      go_wp2_with (at_builtin; refine wpList_append_rb rfl _ _ rfl w.heap.size _ [] rfl (empty_row _ HQ.out.size) _ bs rfl ((HV.out.below HQ.out).below ((Below.refl _ _).alloc (Nat.le_refl _) _)) (by simp; omega) (by have := HQ.out.size; simp; omega) ?_; intro v5 w5 ho5 hB5; have HW5 := Lib.hid ((HQ.out.alloc HQ.out.size _).trans hB5))
      simp only [List.nil_append] at ho5
      refine (put15 w.heap.size ls.length (by omega) bs (by omega) v5 w5 HW5.out.size ho5).mono ?_
      rintro e6 w6 ⟨v6, rfl, ho6, hB6, hz6⟩
      have hB6' := HW5.out.trans hB6
      clear ho5 hB5 hB6 HW5 hz6
      go_wp2_with fail
      go_loopw [15, 126] (fun o i wr => ∃ q : Nat, q ≤ ls.length ∧ i = .int .i64 (q : Int) ∧ wr.ownsRow w.heap.size 5 1 o (bs ++ (dig ls.length ++ (ls.take q).flatMap pb)).length ((bs ++ (dig ls.length ++ (ls.take q).flatMap pb)).map encU) ∧ Below w.heap.size w wr) (fun _ i _ => ls.length - (intOf i).toNat)
      case atStart => exact ⟨0, Nat.zero_le _, rfl, by simpa using ho6, hB6'⟩
      case round =>
        obtain ⟨q, hq, rfl, hoq, hBq⟩ := hrel
        have hlen2 : ((ls.take q).flatMap pb).length ≤ tot ls := Nat.le_trans (flat_le _ (fun s hs => by have := HLS.out s (List.mem_of_mem_take hs); omega)) (tot_take ls q)
        have hd10 := dig_len10 (n := ls.length) (by omega)
        by_cases hlq : q < ls.length
        · obtain ⟨x, hx⟩ : ∃ x, vals[q]? = some x := ⟨_, List.getElem?_eq_getElem (by have := HL.out; omega)⟩
          obtain ⟨s, hs⟩ : ∃ s, ls[q]? = some s := ⟨_, List.getElem?_eq_getElem hlq⟩
          obtain ⟨b, off, rfl, hcell0⟩ := HC.out q x hx
          have hcell := (hBq.cell (p := ⟨b, off + q, none⟩) (cells_block hcell0)).trans hcell0
          have hxs := HR.out.2 q x s hx hs
          obtain ⟨xa2, xc2, e9, _, _⟩ := hxs.form
          subst e9
          have hsl := HLS.out s (List.mem_of_getElem? hs)
          have hsn : ls.take (q + 1) = ls.take q ++ [s] := by rw [List.take_add_one, hs]; rfl
          have HSN := Lib.hid hsn
          have H22 := Lib.hid (put22 w.heap.size _ s (by simp only [List.length_append]; omega) _ _ w _ hxs (Nat.le_refl _) hBq hBq.size hoq)
          clear hx hs hsn hxs hcell0 hoq
          go_wp2_with fail
          refine H22.out.mono ?_
          rintro e7 w7 ⟨v7, rfl, ho7, hB7, hz7⟩
          have ho7' : w7.ownsRow w.heap.size 5 1 v7 (bs ++ (dig ls.length ++ (ls.take (q + 1)).flatMap pb)).length ((bs ++ (dig ls.length ++ (ls.take (q + 1)).flatMap pb)).map encU) := by
            rw [HSN.out]
            have e0 : bs ++ (dig ls.length ++ (ls.take q ++ [s]).flatMap pb) = bs ++ (dig ls.length ++ (ls.take q).flatMap pb) ++ pb s := by simp
            rw [e0]; exact ho7
          have hB7' := hBq.trans hB7
          clear ho7 hB7 hBq H22 hz7
          go_wp2
          go_roundw
          case rel => exact ⟨q + 1, by omega, by go_num, ho7', hB7'⟩
          case measure => simp [intOf]; omega
        · obtain rfl : q = ls.length := by omega
          rw [List.take_of_length_le (Nat.le_refl _)] at hoq
          have HZ := Lib.hid (show RB _ _ (bs ++ pl ls) from RB.of_row hoq)
          have HBq := Lib.hid hBq
          clear hoq hBq
          go_wp2_with fail
          refine draw_as (ops := regOps Try.f5 27) (by kernel_rfl) ?_
          refine draw_start (K := Tells 144 6 _) (S := S0 _) (N := 11) (by kernel_rfl) (by kernel_rfl) ?_ (wl_region bs ls (by omega) (by omega) (fun s hs => by have := HLS.out s hs; omega) _ _ _ vals _ _ (Fr.of_list rfl rfl (by kernel_rfl)) (HV.out.below HBq.out) (HU.out.below HBq.out) (HR.out.below HBq.out) HZ.out)
          intro a9 w9 hT
          go_wp2
          exact bodyPost_ret (v := .bool true) (by simp [results, Try.results5, hT.1.slot 6 _ rfl]) hT.1.defers ⟨rfl, HBq.out.trans (hT.2.mono HBq.out.size)⟩

end Go.Proofs.Ytllpohacomknfaa
