/- WireLists' walk: the way on which rows are read, and the whole. -/
import Derived.Test.YtllpohacomknfaaWlA
namespace Go.Proofs.Ytllpohacomknfaa
open Go.RowKit Go.Shelf
set_option linter.unusedVariables false
set_option linter.unusedSimpArgs false

theorem RO.keptR {W W' : World} {base R : Nat} {vals : List Value} {ls : List (List UInt8)} (h : RO W base vals ls) (hk : Kept (blk R) W W') (hb : R < base) : RO W' base vals ls :=
  ⟨h.1, fun i v l hv hl => row_kept (h.2 i v l hv hl) hk (fun j hj e => by have := ((h.2 i v l hv hl).lt j hj).1; simp [blk, Value.ownBlock] at e; omega)⟩
theorem row_keptR {W W' : World} {base R e n : Nat} {v : Value} {xs : List Value} (h : W.ownsRow base e 1 v n xs) (hk : Kept (blk R) W W') (hb : R < base) : W'.ownsRow base e 1 v n xs :=
  row_kept h hk (fun j hj e' => by have := (h.lt j hj).1; simp [blk, Value.ownBlock] at e'; omega)
theorem Rd.kept {W W' : World} {R base n : Nat} {bv v : Value} {e : Int} {xs : List Value} (h : Rd W R bv e) (hv : W.ownsRow base 22 1 v n xs) (hb : R < base) (hk : Kept v W W') : Rd W' R bv e :=
  (hk.block R h.lt (fun e' => by have := (hv.lt R e').1; omega)).trans h

/-- What the loop that reads keeps. -/
structure Reads (bs : List UInt8) (n k : Nat) (w1 wr : World) (y : Value) (j fin e : Nat) (acc : List (List UInt8)) (vs : List Value) (a' : Option Addr) (c' m' : Nat) : Prop where
  rd : Rd wr w1.heap.size (.slice a' m' c') (e : Int)
  below : Below w1.heap.size w1 wr
  row : wr.ownsRow (w1.heap.size + 1) 22 1 y vs.length vs
  ok : e = 0 → m' = bs.length - fin ∧ fin ≤ bs.length ∧ vs.length ≤ fin ∧ RB w1 (.slice a' m' c') (bs.drop fin) ∧ RO wr (w1.heap.size + 1) vs acc ∧ tla 5 bs n k [] = tla 5 bs (n - j) fin acc
  bad : e ≠ 0 → tla 5 bs n k [] = ([], 0, e)

theorem Reads.step {bs : List UInt8} {n k : Nat} {w1 wr W4 W5 : World} {y y' sv : Value} {j fin : Nat} {acc : List (List UInt8)} {vs : List Value} {a' a4 : Option Addr} {c' m' c4 m4 : Nat} {o : List UInt8} {u e : Nat}
    (h : Reads bs n k w1 wr y j fin 0 acc vs a' c' m') (hj : j < n) (ht : tb (bs.drop fin) 5 = (o, u, e)) (hK4 : Kept (blk w1.heap.size) wr W4) (hs : W4.ownsRow wr.heap.size 5 1 sv o.length (o.map encU)) (hR4 : Rd W4 w1.heap.size (.slice a4 m4 c4) (e : Int))
    (h4 : e = 0 → m4 = (bs.drop fin).length - u ∧ RB w1 (.slice a4 m4 c4) ((bs.drop fin).drop u)) (hrow' : W5.ownsRow (w1.heap.size + 1) 22 1 y' (vs.length + 1) (vs ++ [sv])) (hk5 : Kept y W4 W5) :
    Reads bs n k w1 W5 y' (j + 1) (fin + u) e (acc ++ [o]) (vs ++ [sv]) a4 c4 m4 := by
  obtain ⟨hm, hfin, hvs, hrb, hro, htl⟩ := h.ok rfl
  have hlt := h.rd.lt
  have hrow4 := row_keptR h.row hK4 (Nat.lt_succ_self _)
  have hB4 : Below w1.heap.size w1 W4 := h.below.trans (hK4.below w1.heap.size h.below.size (fun b hb => by simp [blk, Value.ownBlock] at hb; omega))
  have hle := (tb_le (bs.drop fin) 5).1
  rw [ht] at hle
  simp at hle
  have hd : n - j = (n - (j + 1)) + 1 := by omega
  refine ⟨hR4.kept hrow4 (Nat.lt_succ_self _) hk5, hB4.trans (hk5.below w1.heap.size hB4.size (fun b hb => by have := (hrow4.lt b hb).1; omega)), by simpa using hrow', fun he => ?_, fun he => ?_⟩
  · subst he
    obtain ⟨e1, e2⟩ := h4 rfl
    have hu : 1 ≤ u := by have := tb_pos (bs := bs.drop fin) (M := 5); rw [ht] at this; exact this rfl
    refine ⟨by simp at e1; omega, by omega, by simp; omega, by rw [List.drop_drop] at e2; exact e2, ?_, by rw [htl, hd, tla_go ht]⟩
    refine RO.snoc ((hro.keptR hK4 (Nat.lt_succ_self _)).kept hrow4 hk5) ?_
    exact row_kept (row_base hs hlt) hk5 (kinds_apart hs hrow4 (by decide))
  · rw [htl, hd, tla_stop ht he]

set_option maxRecDepth 100000 in
set_option maxHeartbeats 8000000 in
theorem wl_go (bs : List UInt8) (ls : List (List UInt8)) (hb : bs.length ≤ 2000) (htot : tot ls ≤ 20971520) (hll : ls.length ≤ 50) (HLS : Hid (∀ s ∈ ls, s.length ≤ 1048576)) (most : Int) (h1 : -9223372036854775808 ≤ most) (h2 : most ≤ 9223372036854775807) (a a2 : Option Addr) (c c2 : Nat) (vals : List Value) (w : World) (hc : bs.length ≤ c) (hc2 : ls.length ≤ c2) (HL : Hid (vals.length = ls.length)) (HV : Hid (RB w (.slice a bs.length c) bs)) (HU : Hid (RV w (.slice a2 ls.length c2) vals)) (HR : Hid (RL w vals ls)) (HC : Hid (∀ q x, vals[q]? = some x → ∃ b off, a2 = some ⟨b, off, none⟩ ∧ w.cell? ⟨b, off + q, none⟩ = some x)) {n k : Nat} (h : tk bs = (n, k, 0)) (hm0 : 0 ≤ most) (hm1 : (n : Int) ≤ most) (hkl : k ≤ bs.length) :
    Calls Try.prog 5 #[.slice a bs.length c, .int .i64 most, .slice a2 ls.length c2] w (Yes w) := by
  have H23 := Lib.hid (takel_24 bs (by omega) most h1 h2 _ w HV.out)
  obtain ⟨i0, hi, hz0, hz1, hz2⟩ := info_parts info22
  obtain ⟨r, hr⟩ : ∃ r, tl bs most 5 = r := ⟨_, rfl⟩
  rw [hr] at H23
  have HTL := Lib.hid (show tla 5 bs n k [] = r from by rw [← hr, tl_go h hm0 hm1])
  obtain ⟨r1, r2, r3⟩ := r
  have hbs : bs.length ≤ 140737488355328 := by omega
  have HT := Lib.hid h
  have hn64 : n < 2 ^ 64 := by have := (tk_lt bs).1; rw [h] at this; exact this
  clear h hr
  go_enter Try.func5, Try.ntmps5
  go_wp2_with fail
  refine H23.out.mono ?_
  rintro e w1 ⟨xv, xs, rfl, hrow, hro, hB1⟩
  obtain ⟨W2, hW2⟩ : ∃ W2, w1.alloc (.cells #[.slice a bs.length c, .int .i64 0] 43) = W2 := ⟨_, rfl⟩
  have hB2 : Below w1.heap.size w1 W2 := by rw [← hW2]; exact (Below.refl _ _).alloc (Nat.le_refl _) _
  have hRd : Rd W2 w1.heap.size (.slice a bs.length c) 0 := by rw [← hW2]; show (w1.heap.push _)[w1.heap.size]? = _; simp
  have HW2 := Lib.hid hW2
  have HV1 := Lib.hid (HV.out.below hB1)
  have HV2 := Lib.hid (HV1.out.below hB2)
  have HRd := Lib.hid hRd
  have HB12 := Lib.hid (hB1.trans (hB2.mono hB1.size))
  have hs1 := hB1.size
  clear hW2 hRd H23
  simp only
  rcases (show (0 ≤ most ∧ most ≤ 0 ∧ n ≤ 0) ∨ 0 < most by omega) with ⟨g1, g2, g3⟩ | g1
  · go_wp2_with fail
    rw [HW2.out]
    refine (number25 bs hbs a c w1.heap.size W2 w1 HRd.out HV2.out HV1.out HT.out).mono ?_
    rintro e' W3 ⟨rfl, hK, a', c', hRq, hrb⟩
    obtain ⟨q0, q1, q2, q3⟩ := hRq.facts
    have hB3 : Below w1.heap.size w1 W3 := hB2.trans (hK.below w1.heap.size hB2.size (fun j hj => by simp [blk, Value.ownBlock] at hj; omega))
    have h0 : Reads bs n k w1 W3 (.slice none 0 0) 0 k 0 [] [] a' c' (bs.length - k) := ⟨hRq, hB3, World.ownsRow_nil _ _ _ _, fun _ => ⟨rfl, hkl, Nat.zero_le _, hrb, RO.nil _ _, rfl⟩, fun h => absurd rfl h⟩
    have H0 := Lib.hid h0
    have HB1 := Lib.hid hB1
    clear h0 hK hRq hrb hB3 HRd HV2 HW2 HB12 hB2 hB1 HV1
    go_wp2_with fail
    clear q0 q1 q2 q3
    go_loopw [13, 14] (fun y t wr => ∃ (j fin e : Nat) (acc : List (List UInt8)) (vs : List Value) (a' : Option Addr) (c' m' : Nat), t = .int .u64 (j : Int) ∧ j ≤ n ∧ Reads bs n k w1 wr y j fin e acc vs a' c' m') (fun _ t _ => n - (intOf t).toNat)
    case atStart => exact ⟨0, k, 0, [], [], _, _, _, rfl, Nat.zero_le _, H0.out⟩
    case round =>
      obtain ⟨j, fin, e, acc, vs, a', c', m', rfl, hj, hI⟩ := hrel
      obtain ⟨q0, q1, q2, q3⟩ := hI.rd.facts
      have HI := Lib.hid hI
      have HQ0 := Lib.hid (HB1.out.trans (hI.below.mono HB1.out.size))
      clear hI
      by_cases he : e = 0
      · subst he
        by_cases hjn : j < n
        · skip
          exfalso
          omega
        · obtain rfl : j = n := by omega
          obtain ⟨hm, hfin, hvs, hrb, hroy, htl⟩ := HI.out.ok rfl
          have hrow9 := HI.out.row
          have hfe : (r1, r2, r3) = (acc, fin, 0) := by rw [← HTL.out, htl, Nat.sub_self]; rfl
          simp only [Prod.mk.injEq] at hfe
          obtain ⟨rfl, rfl, rfl⟩ := hfe
          subst hm
          have hacc : r1.length ≤ 140737488355328 := by rw [← hroy.1]; omega
          have H27 := Lib.hid (same27 r1 hacc _ _ xs vs _ ((RV.of_row hrow).below HI.out.below) (RV.of_row hrow9) (hro.reads.below HI.out.below) hroy.reads)
          have hsub : (bs.length : Int) - ((bs.length - r2 : Nat) : Int) = (r2 : Int) := by omega
          have hself : ((r2 : Int) != (r2 : Int)) = false := by simp
          clear hroy hrow9 hrb htl HTL HI hrow hro
          go_wp2_with fail
          refine H27.out.mono ?_
          rintro e' w' ⟨rfl, mm, rfl⟩
          have hQ1 := HQ0.out.trans (show Below w.heap.size wr (wr.drewN mm) from ⟨rfl, rfl, rfl, Nat.le_refl _, fun _ _ => rfl⟩)
          obtain ⟨Wq, hWq⟩ : ∃ Wq, wr.drewN mm = Wq := ⟨_, rfl⟩
          have p0 : Wq.cell? ⟨w1.heap.size, 0, none⟩ = some (.slice a' (bs.length - r2) c') := by rw [← hWq]; exact q0
          rw [hWq] at hQ1 ⊢
          have HQ := Lib.hid hQ1
          clear hWq hQ1 q0 q1 q2 q3 HQ0
          go_wp2_with (at_builtin; refine wpList_append_rb rfl _ _ rfl w.heap.size _ [] rfl (empty_row _ HQ.out.size) _ bs rfl ((HV.out.below HQ.out).below ((Below.refl _ _).alloc (Nat.le_refl _) _)) (by simp; omega) (by have := HQ.out.size; simp; omega) ?_; intro v5 w5 ho5 hB5; have HW5 := Lib.hid ((HQ.out.alloc HQ.out.size _).trans hB5))
          simp only [List.nil_append] at ho5
          refine (put15 w.heap.size ls.length (by omega) bs (by omega) v5 w5 HW5.out.size ho5).mono ?_
          rintro e6 w6 ⟨v6, rfl, ho6, hB6, hz6⟩
          have hB6' := HW5.out.trans hB6
          clear ho5 hB5 hB6 HW5 hz6
          go_wp2_with fail
          go_loopw [15, 126] (fun o i wr => ∃ q : Nat, q ≤ ls.length ∧ i = .int .i64 (q : Int) ∧ wr.ownsRow w.heap.size 5 1 o (bs ++ (dig ls.length ++ (ls.take q).flatMap pb)).length ((bs ++ (dig ls.length ++ (ls.take q).flatMap pb)).map encU) ∧ Below w.heap.size w wr) (fun _ i _ => ls.length - (intOf i).toNat)
          case atStart => exact ⟨0, Nat.zero_le _, rfl, by simpa using ho6, hB6'⟩
          case round =>
            obtain ⟨q, hq, rfl, hoq, hBq⟩ := hrel
            have hlen2 : ((ls.take q).flatMap pb).length ≤ tot ls := Nat.le_trans (flat_le _ (fun s hs => by have := HLS.out s (List.mem_of_mem_take hs); omega)) (tot_take ls q)
            have hd10 := dig_len10 (n := ls.length) (by omega)
            by_cases hlq : q < ls.length
            · obtain ⟨x, hx⟩ : ∃ x, vals[q]? = some x := ⟨_, List.getElem?_eq_getElem (by have := HL.out; omega)⟩
              obtain ⟨s, hs⟩ : ∃ s, ls[q]? = some s := ⟨_, List.getElem?_eq_getElem hlq⟩
              obtain ⟨b, off, rfl, hcell0⟩ := HC.out q x hx
              have hcell := (hBq.cell (p := ⟨b, off + q, none⟩) (cells_block hcell0)).trans hcell0
              have hxs := HR.out.2 q x s hx hs
              obtain ⟨xa2, xc2, e9, _, _⟩ := hxs.form
              subst e9
              have hsl := HLS.out s (List.mem_of_getElem? hs)
              have hsn : ls.take (q + 1) = ls.take q ++ [s] := by rw [List.take_add_one, hs]; rfl
              have HSN := Lib.hid hsn
              have H22 := Lib.hid (put22 w.heap.size _ s (by simp only [List.length_append]; omega) _ _ w _ hxs (Nat.le_refl _) hBq hBq.size hoq)
              clear hx hs hsn hxs hcell0 hoq
              go_wp2_with fail
              refine H22.out.mono ?_
              rintro e7 w7 ⟨v7, rfl, ho7, hB7, hz7⟩
              have ho7' : w7.ownsRow w.heap.size 5 1 v7 (bs ++ (dig ls.length ++ (ls.take (q + 1)).flatMap pb)).length ((bs ++ (dig ls.length ++ (ls.take (q + 1)).flatMap pb)).map encU) := by
                rw [HSN.out]
                have e0 : bs ++ (dig ls.length ++ (ls.take q ++ [s]).flatMap pb) = bs ++ (dig ls.length ++ (ls.take q).flatMap pb) ++ pb s := by simp
                rw [e0]; exact ho7
              have hB7' := hBq.trans hB7
              clear ho7 hB7 hBq H22 hz7
              go_wp2
              go_roundw
              case rel => exact ⟨q + 1, by omega, by go_num, ho7', hB7'⟩
              case measure => simp [intOf]; omega
            · obtain rfl : q = ls.length := by omega
              rw [List.take_of_length_le (Nat.le_refl _)] at hoq
              have HZ := Lib.hid (show RB _ _ (bs ++ pl ls) from RB.of_row hoq)
              have HBq := Lib.hid hBq
              clear hoq hBq
              go_wp2_with fail
              refine draw_as (ops := regOps Try.f5 27) (by kernel_rfl) ?_
              refine draw_start (K := Tells 144 6 _) (S := S0 _) (N := 11) (by kernel_rfl) (by kernel_rfl) ?_ (wl_region bs ls (by omega) (by omega) (fun s hs => by have := HLS.out s hs; omega) _ _ _ vals _ _ (Fr.of_list rfl rfl (by kernel_rfl)) (HV.out.below HBq.out) (HU.out.below HBq.out) (HR.out.below HBq.out) HZ.out)
              intro a9 w9 hT
              go_wp2
              exact bodyPost_ret (v := .bool true) (by simp [results, Try.results5, hT.1.slot 6 _ rfl]) hT.1.defers ⟨rfl, HBq.out.trans (hT.2.mono HBq.out.size)⟩
      · have hfe : (r1, r2, r3) = ([], 0, e) := by rw [← HTL.out, HI.out.bad he]
        simp only [Prod.mk.injEq] at hfe
        obtain ⟨rfl, rfl, rfl⟩ := hfe
        have hne : ((r3 : Int) != 0) = true := by simp; omega
        have heq : ((r3 : Int) == 0) = false := by simp; omega
        have hself : ((r3 : Int) != (r3 : Int)) = false := by simp
        have hx0 : xs = [] := List.eq_nil_of_length_eq_zero (by simpa using hro.1)
        subst hx0
        obtain ⟨xa, xc, e9, _, _⟩ := (RV.of_row hrow).form
        simp only [List.length_nil] at e9
        subst e9
        have HQ := HQ0
        clear hrow hro HTL HI he
        have hjn : ¬ j < n := by omega
        all_goals
          go_wp2_with (at_builtin; refine wpList_append_rb rfl _ _ rfl w.heap.size _ [] rfl (empty_row _ HQ.out.size) _ bs rfl ((HV.out.below HQ.out).below ((Below.refl _ _).alloc (Nat.le_refl _) _)) (by simp; omega) (by have := HQ.out.size; simp; omega) ?_; intro v5 w5 ho5 hB5; have HW5 := Lib.hid ((HQ.out.alloc HQ.out.size _).trans hB5))
          simp only [List.nil_append] at ho5
          refine (put15 w.heap.size ls.length (by omega) bs (by omega) v5 w5 HW5.out.size ho5).mono ?_
          rintro e6 w6 ⟨v6, rfl, ho6, hB6, hz6⟩
          have hB6' := HW5.out.trans hB6
          clear ho5 hB5 hB6 HW5 hz6
          go_wp2_with fail
          go_loopw [15, 126] (fun o i wr => ∃ q : Nat, q ≤ ls.length ∧ i = .int .i64 (q : Int) ∧ wr.ownsRow w.heap.size 5 1 o (bs ++ (dig ls.length ++ (ls.take q).flatMap pb)).length ((bs ++ (dig ls.length ++ (ls.take q).flatMap pb)).map encU) ∧ Below w.heap.size w wr) (fun _ i _ => ls.length - (intOf i).toNat)
          case atStart => exact ⟨0, Nat.zero_le _, rfl, by simpa using ho6, hB6'⟩
          case round =>
            obtain ⟨q, hq, rfl, hoq, hBq⟩ := hrel
            have hlen2 : ((ls.take q).flatMap pb).length ≤ tot ls := Nat.le_trans (flat_le _ (fun s hs => by have := HLS.out s (List.mem_of_mem_take hs); omega)) (tot_take ls q)
            have hd10 := dig_len10 (n := ls.length) (by omega)
            by_cases hlq : q < ls.length
            · obtain ⟨x, hx⟩ : ∃ x, vals[q]? = some x := ⟨_, List.getElem?_eq_getElem (by have := HL.out; omega)⟩
              obtain ⟨s, hs⟩ : ∃ s, ls[q]? = some s := ⟨_, List.getElem?_eq_getElem hlq⟩
              obtain ⟨b, off, rfl, hcell0⟩ := HC.out q x hx
              have hcell := (hBq.cell (p := ⟨b, off + q, none⟩) (cells_block hcell0)).trans hcell0
              have hxs := HR.out.2 q x s hx hs
              obtain ⟨xa2, xc2, e9, _, _⟩ := hxs.form
              subst e9
              have hsl := HLS.out s (List.mem_of_getElem? hs)
              have hsn : ls.take (q + 1) = ls.take q ++ [s] := by rw [List.take_add_one, hs]; rfl
              have HSN := Lib.hid hsn
              have H22 := Lib.hid (put22 w.heap.size _ s (by simp only [List.length_append]; omega) _ _ w _ hxs (Nat.le_refl _) hBq hBq.size hoq)
              clear hx hs hsn hxs hcell0 hoq
              go_wp2_with fail
              refine H22.out.mono ?_
              rintro e7 w7 ⟨v7, rfl, ho7, hB7, hz7⟩
              have ho7' : w7.ownsRow w.heap.size 5 1 v7 (bs ++ (dig ls.length ++ (ls.take (q + 1)).flatMap pb)).length ((bs ++ (dig ls.length ++ (ls.take (q + 1)).flatMap pb)).map encU) := by
                rw [HSN.out]
                have e0 : bs ++ (dig ls.length ++ (ls.take q ++ [s]).flatMap pb) = bs ++ (dig ls.length ++ (ls.take q).flatMap pb) ++ pb s := by simp
                rw [e0]; exact ho7
              have hB7' := hBq.trans hB7
              clear ho7 hB7 hBq H22 hz7
              go_wp2
              go_roundw
              case rel => exact ⟨q + 1, by omega, by go_num, ho7', hB7'⟩
              case measure => simp [intOf]; omega
            · obtain rfl : q = ls.length := by omega
              rw [List.take_of_length_le (Nat.le_refl _)] at hoq
              have HZ := Lib.hid (show RB _ _ (bs ++ pl ls) from RB.of_row hoq)
              have HBq := Lib.hid hBq
              clear hoq hBq
              go_wp2_with fail
              refine draw_as (ops := regOps Try.f5 27) (by kernel_rfl) ?_
              refine draw_start (K := Tells 144 6 _) (S := S0 _) (N := 11) (by kernel_rfl) (by kernel_rfl) ?_ (wl_region bs ls (by omega) (by omega) (fun s hs => by have := HLS.out s hs; omega) _ _ _ vals _ _ (Fr.of_list rfl rfl (by kernel_rfl)) (HV.out.below HBq.out) (HU.out.below HBq.out) (HR.out.below HBq.out) HZ.out)
              intro a9 w9 hT
              go_wp2
              exact bodyPost_ret (v := .bool true) (by simp [results, Try.results5, hT.1.slot 6 _ rfl]) hT.1.defers ⟨rfl, HBq.out.trans (hT.2.mono HBq.out.size)⟩
  · go_wp2_with fail
    rw [HW2.out]
    refine (number25 bs hbs a c w1.heap.size W2 w1 HRd.out HV2.out HV1.out HT.out).mono ?_
    rintro e' W3 ⟨rfl, hK, a', c', hRq, hrb⟩
    obtain ⟨q0, q1, q2, q3⟩ := hRq.facts
    have hB3 : Below w1.heap.size w1 W3 := hB2.trans (hK.below w1.heap.size hB2.size (fun j hj => by simp [blk, Value.ownBlock] at hj; omega))
    have h0 : Reads bs n k w1 W3 (.slice none 0 0) 0 k 0 [] [] a' c' (bs.length - k) := ⟨hRq, hB3, World.ownsRow_nil _ _ _ _, fun _ => ⟨rfl, hkl, Nat.zero_le _, hrb, RO.nil _ _, rfl⟩, fun h => absurd rfl h⟩
    have H0 := Lib.hid h0
    have HB1 := Lib.hid hB1
    clear h0 hK hRq hrb hB3 HRd HV2 HW2 HB12 hB2 hB1 HV1
    go_wp2_with fail
    clear q0 q1 q2 q3
    go_loopw [13, 14] (fun y t wr => ∃ (j fin e : Nat) (acc : List (List UInt8)) (vs : List Value) (a' : Option Addr) (c' m' : Nat), t = .int .u64 (j : Int) ∧ j ≤ n ∧ Reads bs n k w1 wr y j fin e acc vs a' c' m') (fun _ t _ => n - (intOf t).toNat)
    case atStart => exact ⟨0, k, 0, [], [], _, _, _, rfl, Nat.zero_le _, H0.out⟩
    case round =>
      obtain ⟨j, fin, e, acc, vs, a', c', m', rfl, hj, hI⟩ := hrel
      obtain ⟨q0, q1, q2, q3⟩ := hI.rd.facts
      have HI := Lib.hid hI
      have HQ0 := Lib.hid (HB1.out.trans (hI.below.mono HB1.out.size))
      clear hI
      by_cases he : e = 0
      · subst he
        by_cases hjn : j < n
        · skip
          obtain ⟨hm, hfin, hvs, hrb, hroy, htl⟩ := HI.out.ok rfl
          have hvl : vs.length ≤ 2000 := by omega
          have e0 : (bs.drop fin).length = bs.length - fin := by simp
          obtain ⟨rt, hrt⟩ : ∃ rt, tb (bs.drop fin) 5 = rt := ⟨_, rfl⟩
          have HRT := Lib.hid hrt
          subst hm
          have H26 := Lib.hid (bytes26 (bs.drop fin) (by simp; omega) a' c' w1.heap.size _ w1 (by rw [e0]; exact HI.out.rd) (by rw [e0]; exact hrb.below HI.out.below) (by rw [e0]; exact hrb))
          rw [hrt] at H26
          obtain ⟨o, u, er⟩ := rt
          clear hrb hroy htl e0 hrt hvs
          go_wp2_with fail
          refine H26.out.mono ?_
          rintro e' W4 ⟨sv, rfl, hK4, hs, a4, c4, m4, hR4, h4⟩
          obtain ⟨sa, sc, e9, _, _⟩ := (RB.of_row hs).form
          simp only at e9
          subst e9
          have hrow4 := row_keptR HI.out.row hK4 (Nat.lt_succ_self _)
          have hs4 : w1.heap.size + 1 ≤ W4.heap.size := hR4.lt
          have HK4 := Lib.hid hK4
          have HS4 := Lib.hid hs
          have HR4 := Lib.hid hR4
          have H4 := Lib.hid h4
          clear hK4 hs hR4 h4 q0 q1 q2 q3 H26
          go_wp2_with (at_builtin; refine wpList_append_one W4 rfl _ _ 37 rfl (w1.heap.size + 1) 22 i0 (.slice none 0 0) 24 Try.underlying37 hi hz0 hz1 hz2 rfl _ _ _ rfl hrow4 _ rfl (by rfl) (by rfl) (by unfold maxLen; omega) (by omega) hs4 ?_; intro y' W5 hrow5 hk5 hw5)
          have hN := Reads.step HI.out hjn HRT.out HK4.out HS4.out HR4.out H4.out hrow5 hk5
          clear hrow5 hk5 hw5 hrow4
          go_roundw
          case rel => exact ⟨j + 1, fin + u, er, acc ++ [o], _, a4, c4, m4, by go_num, by omega, hN⟩
          case measure => simp [intOf]; omega
        · obtain rfl : j = n := by omega
          obtain ⟨hm, hfin, hvs, hrb, hroy, htl⟩ := HI.out.ok rfl
          have hrow9 := HI.out.row
          have hfe : (r1, r2, r3) = (acc, fin, 0) := by rw [← HTL.out, htl, Nat.sub_self]; rfl
          simp only [Prod.mk.injEq] at hfe
          obtain ⟨rfl, rfl, rfl⟩ := hfe
          subst hm
          have hacc : r1.length ≤ 140737488355328 := by rw [← hroy.1]; omega
          have H27 := Lib.hid (same27 r1 hacc _ _ xs vs _ ((RV.of_row hrow).below HI.out.below) (RV.of_row hrow9) (hro.reads.below HI.out.below) hroy.reads)
          have hsub : (bs.length : Int) - ((bs.length - r2 : Nat) : Int) = (r2 : Int) := by omega
          have hself : ((r2 : Int) != (r2 : Int)) = false := by simp
          clear hroy hrow9 hrb htl HTL HI hrow hro
          go_wp2_with fail
          refine H27.out.mono ?_
          rintro e' w' ⟨rfl, mm, rfl⟩
          have hQ1 := HQ0.out.trans (show Below w.heap.size wr (wr.drewN mm) from ⟨rfl, rfl, rfl, Nat.le_refl _, fun _ _ => rfl⟩)
          obtain ⟨Wq, hWq⟩ : ∃ Wq, wr.drewN mm = Wq := ⟨_, rfl⟩
          have p0 : Wq.cell? ⟨w1.heap.size, 0, none⟩ = some (.slice a' (bs.length - r2) c') := by rw [← hWq]; exact q0
          rw [hWq] at hQ1 ⊢
          have HQ := Lib.hid hQ1
          clear hWq hQ1 q0 q1 q2 q3 HQ0
          go_wp2_with (at_builtin; refine wpList_append_rb rfl _ _ rfl w.heap.size _ [] rfl (empty_row _ HQ.out.size) _ bs rfl ((HV.out.below HQ.out).below ((Below.refl _ _).alloc (Nat.le_refl _) _)) (by simp; omega) (by have := HQ.out.size; simp; omega) ?_; intro v5 w5 ho5 hB5; have HW5 := Lib.hid ((HQ.out.alloc HQ.out.size _).trans hB5))
          simp only [List.nil_append] at ho5
          refine (put15 w.heap.size ls.length (by omega) bs (by omega) v5 w5 HW5.out.size ho5).mono ?_
          rintro e6 w6 ⟨v6, rfl, ho6, hB6, hz6⟩
          have hB6' := HW5.out.trans hB6
          clear ho5 hB5 hB6 HW5 hz6
          go_wp2_with fail
          go_loopw [15, 126] (fun o i wr => ∃ q : Nat, q ≤ ls.length ∧ i = .int .i64 (q : Int) ∧ wr.ownsRow w.heap.size 5 1 o (bs ++ (dig ls.length ++ (ls.take q).flatMap pb)).length ((bs ++ (dig ls.length ++ (ls.take q).flatMap pb)).map encU) ∧ Below w.heap.size w wr) (fun _ i _ => ls.length - (intOf i).toNat)
          case atStart => exact ⟨0, Nat.zero_le _, rfl, by simpa using ho6, hB6'⟩
          case round =>
            obtain ⟨q, hq, rfl, hoq, hBq⟩ := hrel
            have hlen2 : ((ls.take q).flatMap pb).length ≤ tot ls := Nat.le_trans (flat_le _ (fun s hs => by have := HLS.out s (List.mem_of_mem_take hs); omega)) (tot_take ls q)
            have hd10 := dig_len10 (n := ls.length) (by omega)
            by_cases hlq : q < ls.length
            · obtain ⟨x, hx⟩ : ∃ x, vals[q]? = some x := ⟨_, List.getElem?_eq_getElem (by have := HL.out; omega)⟩
              obtain ⟨s, hs⟩ : ∃ s, ls[q]? = some s := ⟨_, List.getElem?_eq_getElem hlq⟩
              obtain ⟨b, off, rfl, hcell0⟩ := HC.out q x hx
              have hcell := (hBq.cell (p := ⟨b, off + q, none⟩) (cells_block hcell0)).trans hcell0
              have hxs := HR.out.2 q x s hx hs
              obtain ⟨xa2, xc2, e9, _, _⟩ := hxs.form
              subst e9
              have hsl := HLS.out s (List.mem_of_getElem? hs)
              have hsn : ls.take (q + 1) = ls.take q ++ [s] := by rw [List.take_add_one, hs]; rfl
              have HSN := Lib.hid hsn
              have H22 := Lib.hid (put22 w.heap.size _ s (by simp only [List.length_append]; omega) _ _ w _ hxs (Nat.le_refl _) hBq hBq.size hoq)
              clear hx hs hsn hxs hcell0 hoq
              go_wp2_with fail
              refine H22.out.mono ?_
              rintro e7 w7 ⟨v7, rfl, ho7, hB7, hz7⟩
              have ho7' : w7.ownsRow w.heap.size 5 1 v7 (bs ++ (dig ls.length ++ (ls.take (q + 1)).flatMap pb)).length ((bs ++ (dig ls.length ++ (ls.take (q + 1)).flatMap pb)).map encU) := by
                rw [HSN.out]
                have e0 : bs ++ (dig ls.length ++ (ls.take q ++ [s]).flatMap pb) = bs ++ (dig ls.length ++ (ls.take q).flatMap pb) ++ pb s := by simp
                rw [e0]; exact ho7
              have hB7' := hBq.trans hB7
              clear ho7 hB7 hBq H22 hz7
              go_wp2
              go_roundw
              case rel => exact ⟨q + 1, by omega, by go_num, ho7', hB7'⟩
              case measure => simp [intOf]; omega
            · obtain rfl : q = ls.length := by omega
              rw [List.take_of_length_le (Nat.le_refl _)] at hoq
              have HZ := Lib.hid (show RB _ _ (bs ++ pl ls) from RB.of_row hoq)
              have HBq := Lib.hid hBq
              clear hoq hBq
              go_wp2_with fail
              refine draw_as (ops := regOps Try.f5 27) (by kernel_rfl) ?_
              refine draw_start (K := Tells 144 6 _) (S := S0 _) (N := 11) (by kernel_rfl) (by kernel_rfl) ?_ (wl_region bs ls (by omega) (by omega) (fun s hs => by have := HLS.out s hs; omega) _ _ _ vals _ _ (Fr.of_list rfl rfl (by kernel_rfl)) (HV.out.below HBq.out) (HU.out.below HBq.out) (HR.out.below HBq.out) HZ.out)
              intro a9 w9 hT
              go_wp2
              exact bodyPost_ret (v := .bool true) (by simp [results, Try.results5, hT.1.slot 6 _ rfl]) hT.1.defers ⟨rfl, HBq.out.trans (hT.2.mono HBq.out.size)⟩
      · have hfe : (r1, r2, r3) = ([], 0, e) := by rw [← HTL.out, HI.out.bad he]
        simp only [Prod.mk.injEq] at hfe
        obtain ⟨rfl, rfl, rfl⟩ := hfe
        have hne : ((r3 : Int) != 0) = true := by simp; omega
        have heq : ((r3 : Int) == 0) = false := by simp; omega
        have hself : ((r3 : Int) != (r3 : Int)) = false := by simp
        have hx0 : xs = [] := List.eq_nil_of_length_eq_zero (by simpa using hro.1)
        subst hx0
        obtain ⟨xa, xc, e9, _, _⟩ := (RV.of_row hrow).form
        simp only [List.length_nil] at e9
        subst e9
        have HQ := HQ0
        clear hrow hro HTL HI he
        by_cases hjn : j < n
        all_goals
          go_wp2_with (at_builtin; refine wpList_append_rb rfl _ _ rfl w.heap.size _ [] rfl (empty_row _ HQ.out.size) _ bs rfl ((HV.out.below HQ.out).below ((Below.refl _ _).alloc (Nat.le_refl _) _)) (by simp; omega) (by have := HQ.out.size; simp; omega) ?_; intro v5 w5 ho5 hB5; have HW5 := Lib.hid ((HQ.out.alloc HQ.out.size _).trans hB5))
          simp only [List.nil_append] at ho5
          refine (put15 w.heap.size ls.length (by omega) bs (by omega) v5 w5 HW5.out.size ho5).mono ?_
          rintro e6 w6 ⟨v6, rfl, ho6, hB6, hz6⟩
          have hB6' := HW5.out.trans hB6
          clear ho5 hB5 hB6 HW5 hz6
          go_wp2_with fail
          go_loopw [15, 126] (fun o i wr => ∃ q : Nat, q ≤ ls.length ∧ i = .int .i64 (q : Int) ∧ wr.ownsRow w.heap.size 5 1 o (bs ++ (dig ls.length ++ (ls.take q).flatMap pb)).length ((bs ++ (dig ls.length ++ (ls.take q).flatMap pb)).map encU) ∧ Below w.heap.size w wr) (fun _ i _ => ls.length - (intOf i).toNat)
          case atStart => exact ⟨0, Nat.zero_le _, rfl, by simpa using ho6, hB6'⟩
          case round =>
            obtain ⟨q, hq, rfl, hoq, hBq⟩ := hrel
            have hlen2 : ((ls.take q).flatMap pb).length ≤ tot ls := Nat.le_trans (flat_le _ (fun s hs => by have := HLS.out s (List.mem_of_mem_take hs); omega)) (tot_take ls q)
            have hd10 := dig_len10 (n := ls.length) (by omega)
            by_cases hlq : q < ls.length
            · obtain ⟨x, hx⟩ : ∃ x, vals[q]? = some x := ⟨_, List.getElem?_eq_getElem (by have := HL.out; omega)⟩
              obtain ⟨s, hs⟩ : ∃ s, ls[q]? = some s := ⟨_, List.getElem?_eq_getElem hlq⟩
              obtain ⟨b, off, rfl, hcell0⟩ := HC.out q x hx
              have hcell := (hBq.cell (p := ⟨b, off + q, none⟩) (cells_block hcell0)).trans hcell0
              have hxs := HR.out.2 q x s hx hs
              obtain ⟨xa2, xc2, e9, _, _⟩ := hxs.form
              subst e9
              have hsl := HLS.out s (List.mem_of_getElem? hs)
              have hsn : ls.take (q + 1) = ls.take q ++ [s] := by rw [List.take_add_one, hs]; rfl
              have HSN := Lib.hid hsn
              have H22 := Lib.hid (put22 w.heap.size _ s (by simp only [List.length_append]; omega) _ _ w _ hxs (Nat.le_refl _) hBq hBq.size hoq)
              clear hx hs hsn hxs hcell0 hoq
              go_wp2_with fail
              refine H22.out.mono ?_
              rintro e7 w7 ⟨v7, rfl, ho7, hB7, hz7⟩
              have ho7' : w7.ownsRow w.heap.size 5 1 v7 (bs ++ (dig ls.length ++ (ls.take (q + 1)).flatMap pb)).length ((bs ++ (dig ls.length ++ (ls.take (q + 1)).flatMap pb)).map encU) := by
                rw [HSN.out]
                have e0 : bs ++ (dig ls.length ++ (ls.take q ++ [s]).flatMap pb) = bs ++ (dig ls.length ++ (ls.take q).flatMap pb) ++ pb s := by simp
                rw [e0]; exact ho7
              have hB7' := hBq.trans hB7
              clear ho7 hB7 hBq H22 hz7
              go_wp2
              go_roundw
              case rel => exact ⟨q + 1, by omega, by go_num, ho7', hB7'⟩
              case measure => simp [intOf]; omega
            · obtain rfl : q = ls.length := by omega
              rw [List.take_of_length_le (Nat.le_refl _)] at hoq
              have HZ := Lib.hid (show RB _ _ (bs ++ pl ls) from RB.of_row hoq)
              have HBq := Lib.hid hBq
              clear hoq hBq
              go_wp2_with fail
              refine draw_as (ops := regOps Try.f5 27) (by kernel_rfl) ?_
              refine draw_start (K := Tells 144 6 _) (S := S0 _) (N := 11) (by kernel_rfl) (by kernel_rfl) ?_ (wl_region bs ls (by omega) (by omega) (fun s hs => by have := HLS.out s hs; omega) _ _ _ vals _ _ (Fr.of_list rfl rfl (by kernel_rfl)) (HV.out.below HBq.out) (HU.out.below HBq.out) (HR.out.below HBq.out) HZ.out)
              intro a9 w9 hT
              go_wp2
              exact bodyPost_ret (v := .bool true) (by simp [results, Try.results5, hT.1.slot 6 _ rfl]) hT.1.defers ⟨rfl, HBq.out.trans (hT.2.mono HBq.out.size)⟩
end Go.Proofs.Ytllpohacomknfaa
