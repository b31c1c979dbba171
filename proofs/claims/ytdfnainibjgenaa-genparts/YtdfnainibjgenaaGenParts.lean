/- GenParts answers true: its walk (written call by call by mkparts.py). -/
import Derived.Test.YtdfnainibjgenaaChain
import Derived.Laws.EntriesVeiled
namespace Go.Proofs.Ytdfnainibjgenaa
open Go.RowKit Go.Shelf
set_option linter.unusedVariables false
set_option linter.unusedSimpArgs false
attribute [local go_sem] Oper.semAt_some wide_fn wide_depth

theorem lstep {a b c : World} (h : Below a.heap.size a b) (k : Below b.heap.size b c) : Below a.heap.size a c := h.trans (k.mono h.size)
theorem reads_two (W : World) (x1 x2 : FV) : Reads encF (W.alloc (.cells #[encF x1, encF x2] 27)) (.slice (some ⟨W.heap.size, 0, none⟩) 2 2) [x1, x2] :=
  Reads.of_row (xs := [x1, x2]) (World.ownsRow_lit W #[encF x1, encF x2] 2 (Nat.le_refl _) (by decide) rfl)
theorem alloc_later (W : World) (o : Obj) : Below W.heap.size W (W.alloc o) := (Below.refl _ _).alloc (Nat.le_refl _) _
theorem two_seqs {W : World} {x1 x2 : FV} {l1 l2 : List Int} {C1 C2 : Nat → Prop} (h1 : SeqV Try.prog (encF x1) C1 encI l1 W) (h2 : SeqV Try.prog (encF x2) C2 encI l2 W) : AllSeqs (fun b => b < W.heap.size) [(x1, l1), (x2, l2)] W := by
  refine ⟨fun _ h => h, fun p hp => ?_⟩
  simp at hp
  rcases hp with rfl | rfl
  · exact .inr ⟨C1, h1, h1.1⟩
  · exact .inr ⟨C2, h2, h2.1⟩
theorem few_taken (l : List Int) {m : Int} {k : Nat} (h : l.length ≤ k) (hm : m = k) : (l.take m.toNat).length ≤ 100000 ∨ 100000 < k := by
  by_cases hk : 100000 < k
  · exact .inr hk
  · exact .inl (by simp; omega)

set_option maxRecDepth 100000 in
set_option maxHeartbeats 4000000 in
theorem genParts_walk (l : List Int) (hm : l.length ≤ maxLen) (l' : List Int) (hm' : l'.length ≤ maxLen) (v v' : Value) (n : Int) (hn : (Lit.int .i64 n).wf = true) (w0 : World) (hv : Reads encI w0 v l) (hv' : Reads encI w0 v' l') :
    Calls Try.prog 10 #[v, v', .int .i64 n] w0 fun e w' => e = .returned (.bool true) ∧ Below w0.heap.size w0 w' := by
  refine (callsIn_wide (n := 0)).1 ?_
  refine callsIn_of_wp Try.func10 rfl trivial ?_ rfl
  simp only [Try.ntmps10, List.size_toArray, List.length_cons, List.length_nil, Nat.reduceAdd, Nat.reduceSub, Array.replicate_succ, Array.replicate_zero, List.push_toArray, List.append_toArray, List.nil_append, List.cons_append]
  obtain ⟨a0, c0, e0⟩ := hv.form
  obtain ⟨a0', c0', e0'⟩ := hv'.form
  have Hv := Lib.hid hv
  have Hv' := Lib.hid hv'
  have Hn := Lib.hid hn
  clear hv hn hv'
  subst e0 e0'
  gi_wp2_with fail
  refine ((callsIn_wide (n := 0)).2 (short14 l hm _ w0 Hv.out)).mono ?_
  rintro e w' ⟨⟨v1, rfl, hv1⟩, rfl⟩
  obtain ⟨xs, hxs⟩ : ∃ xs, l.take 60 = xs := ⟨_, rfl⟩
  rw [hxs] at hv1
  have hlen : xs.length ≤ 60 := by rw [← hxs]; simp; omega
  clear hxs
  obtain ⟨a1, c1, e1⟩ := hv1.form
  subst e1
  gi_wp2_with fail
  refine ((callsIn_wide (n := 0)).2 (short14 l' hm' _ w0 Hv'.out)).mono ?_
  rintro e w' ⟨⟨v2, rfl, hv2⟩, rfl⟩
  obtain ⟨zs, hzs⟩ : ∃ zs, l'.take 60 = zs := ⟨_, rfl⟩
  rw [hzs] at hv2
  have hlen' : zs.length ≤ 60 := by rw [← hzs]; simp; omega
  clear hzs
  obtain ⟨a2, c2, e2⟩ := hv2.form
  subst e2
  have HA := Lib.hid hv1
  have HZ := Lib.hid hv2
  clear hv1 hv2 Hv Hv' hm hm'
  gi_wp2_with fail
  refine ((callsIn_wide (n := 0)).2 (of17 _ (by omega) _ _ (HA.out.below (Below.refl _ _)))).mono ?_
  rintro e w1 ⟨sav, saC, rfl, sa, hB1, _⟩
  obtain ⟨sag, sal, sae⟩ := sa.func
  subst sae
  gi_wp2_with fail
  refine ((callsIn_wide (n := 0)).2 (take_call sa Hn.out)).mono ?_
  rintro e w2 ⟨sbv, sbC, rfl, sb, hB2, _⟩
  obtain ⟨sbg, sbl, sbe⟩ := sb.func
  subst sbe
  gi_wp2_with fail
  refine ((callsIn_wide (n := 0)).2 (of17 _ (by omega) _ _ (HA.out.below (lstep hB1 hB2)))).mono ?_
  rintro e w3 ⟨scv, scC, rfl, sc, hB3, _⟩
  obtain ⟨scg, scl, sce⟩ := sc.func
  subst sce
  gi_wp2_with fail
  refine ((callsIn_wide (n := 0)).2 (drop_call sc Hn.out)).mono ?_
  rintro e w4 ⟨sdv, sdC, rfl, sd, hB4, _⟩
  obtain ⟨sdg, sdl, sde⟩ := sd.func
  subst sde
  clear sa sc
  gi_wp2_with fail
  have hv2s := reads_two w4 (some (.func sbg, sbl)) (some (.func sdg, sdl))
  have hB5 := alloc_later w4 (.cells #[encF (some (.func sbg, sbl)), encF (some (.func sdg, sdl))] 27)
  have hall := two_seqs (x1 := some (.func sbg, sbl)) (x2 := some (.func sdg, sdl)) (sb.below (lstep (lstep hB3 hB4) hB5)) (sd.below hB5)
  obtain ⟨w5, hw5⟩ : ∃ w5, w4.alloc (.cells #[encF (some (.func sbg, sbl)), encF (some (.func sdg, sdl))] 27) = w5 := ⟨_, rfl⟩
  rw [hw5] at hv2s hB5 hall
  have hw5' : w4.alloc (.cells #[.func (.func sbg) #[] sbl, .func (.func sdg) #[] sdl] 27) = w5 := hw5
  rw [hw5']
  clear hw5 hw5'
  refine ((callsIn_wide (n := 0)).2 (chain27 [(some (.func sbg, sbl), _), (some (.func sdg, sdl), _)] (by simp) _ _ hv2s hall)).mono ?_
  rintro e w6 ⟨sev, seC, rfl, se, hB6, _⟩
  clear hv2s hall
  simp only [List.flatMap_cons, List.flatMap_nil, List.append_nil] at se
  obtain ⟨seg, sel, see⟩ := se.func
  subst see
  rw [List.take_append_drop] at se
  clear sb sd
  gi_wp2_with fail
  refine ((callsIn_wide (n := 0)).2 (c16 _ _ _ _ se 99 (by decide) (by show (xs.take 99).length ≤ 100000; simp; omega))).mono ?_
  rintro e w7 ⟨rav, rfl, rar, hB7⟩
  have ra := Reads.of_row rar
  clear rar
  have ha99 : xs.take (99 : Int).toNat = xs := List.take_of_length_le (by show xs.length ≤ 99; omega)
  rw [ha99] at ra
  gi_wp2_with fail
  refine ((callsIn_wide (n := 0)).2 (same15 xs (by omega) _ _ _ ra (HA.out.below (lstep (lstep (lstep (lstep (lstep (lstep hB1 hB2) hB3) hB4) hB5) hB6) hB7)))).mono ?_
  rintro e w8 ⟨rfl, hB8⟩
  gi_wp2_with fail
  refine ((callsIn_wide (n := 0)).2 (c16 _ _ _ _ (se.below (lstep hB7 hB8)) 99 (by decide) (by show (xs.take 99).length ≤ 100000; simp; omega))).mono ?_
  rintro e w9 ⟨rbv, rfl, rbr, hB9⟩
  have rb := Reads.of_row rbr
  clear rbr
  rw [ha99] at rb
  clear ha99
  gi_wp2_with fail
  refine ((callsIn_wide (n := 0)).2 (same15 xs (by omega) _ _ _ rb (HA.out.below (lstep (lstep (lstep (lstep (lstep (lstep (lstep (lstep hB1 hB2) hB3) hB4) hB5) hB6) hB7) hB8) hB9)))).mono ?_
  rintro e w10 ⟨rfl, hB10⟩
  clear ra rb se
  gi_wp2_with fail
  refine ((callsIn_wide (n := 0)).2 (of17 _ (by omega) _ _ (HA.out.below (lstep (lstep (lstep (lstep (lstep (lstep (lstep (lstep (lstep hB1 hB2) hB3) hB4) hB5) hB6) hB7) hB8) hB9) hB10)))).mono ?_
  rintro e w11 ⟨sfv, sfC, rfl, sf, hB11, _⟩
  obtain ⟨sfg, sfl, sfe⟩ := sf.func
  subst sfe
  gi_wp2_with fail
  refine ((callsIn_wide (n := 0)).2 (of17 _ (by omega) _ _ (HZ.out.below (lstep (lstep (lstep (lstep (lstep (lstep (lstep (lstep (lstep (lstep hB1 hB2) hB3) hB4) hB5) hB6) hB7) hB8) hB9) hB10) hB11)))).mono ?_
  rintro e w12 ⟨sgv, sgC, rfl, sg, hB12, _⟩
  obtain ⟨sgg, sgl, sge⟩ := sg.func
  subst sge
  gi_wp2_with fail
  have hv2s := reads_two w12 (some (.func sfg, sfl)) (some (.func sgg, sgl))
  have hB13 := alloc_later w12 (.cells #[encF (some (.func sfg, sfl)), encF (some (.func sgg, sgl))] 27)
  have hall := two_seqs (x1 := some (.func sfg, sfl)) (x2 := some (.func sgg, sgl)) (sf.below (lstep hB12 hB13)) (sg.below hB13)
  obtain ⟨w13, hw13⟩ : ∃ w13, w12.alloc (.cells #[encF (some (.func sfg, sfl)), encF (some (.func sgg, sgl))] 27) = w13 := ⟨_, rfl⟩
  rw [hw13] at hv2s hB13 hall
  have hw13' : w12.alloc (.cells #[.func (.func sfg) #[] sfl, .func (.func sgg) #[] sgl] 27) = w13 := hw13
  rw [hw13']
  clear hw13 hw13'
  refine ((callsIn_wide (n := 0)).2 (chain27 [(some (.func sfg, sfl), _), (some (.func sgg, sgl), _)] (by simp) _ _ hv2s hall)).mono ?_
  rintro e w14 ⟨shv, shC, rfl, sh, hB14, _⟩
  clear hv2s hall
  simp only [List.flatMap_cons, List.flatMap_nil, List.append_nil] at sh
  obtain ⟨shg, shl, she⟩ := sh.func
  subst she
  clear sf sg
  gi_wp2_with fail
  refine ((callsIn_wide (n := 0)).2 (keep_call oddB sh (odd_pure w14))).mono ?_
  rintro e w15 ⟨siv, siC, rfl, si, hB15, _⟩
  obtain ⟨sig, sil, sie⟩ := si.func
  subst sie
  have hl1 : (((xs ++ zs).filter oddB).take (999 : Int).toNat).length ≤ 100000 := by show (((xs ++ zs).filter oddB).take 999).length ≤ 100000; simp; omega
  have ht1 : ((xs ++ zs).filter oddB).take (999 : Int).toNat = (xs ++ zs).filter oddB := List.take_of_length_le (by show ((xs ++ zs).filter oddB).length ≤ 999; have := List.length_filter_le oddB (xs ++ zs); simp at this ⊢; omega)
  have Hl1 := Lib.hid hl1
  have Ht1 := Lib.hid ht1
  clear hl1 ht1
  gi_wp2_with fail
  refine ((callsIn_wide (n := 0)).2 (c16 _ _ _ _ si 999 (by decide) Hl1.out)).mono ?_
  rintro e w16 ⟨rxv, rfl, rxr, hB16⟩
  have rx := Reads.of_row rxr
  clear rxr
  rw [Ht1.out] at rx
  clear si sh
  gi_wp2_with fail
  refine ((callsIn_wide (n := 0)).2 (of17 _ (by omega) _ _ (HA.out.below (lstep (lstep (lstep (lstep (lstep (lstep (lstep (lstep (lstep (lstep (lstep (lstep (lstep (lstep (lstep hB1 hB2) hB3) hB4) hB5) hB6) hB7) hB8) hB9) hB10) hB11) hB12) hB13) hB14) hB15) hB16)))).mono ?_
  rintro e w17 ⟨sjv, sjC, rfl, sj, hB17, _⟩
  obtain ⟨sjg, sjl, sje⟩ := sj.func
  subst sje
  gi_wp2_with fail
  refine ((callsIn_wide (n := 0)).2 (keep_call oddB sj (odd_pure w17))).mono ?_
  rintro e w18 ⟨skv, skC, rfl, sk, hB18, _⟩
  obtain ⟨skg, skl, ske⟩ := sk.func
  subst ske
  gi_wp2_with fail
  refine ((callsIn_wide (n := 0)).2 (of17 _ (by omega) _ _ (HZ.out.below (lstep (lstep (lstep (lstep (lstep (lstep (lstep (lstep (lstep (lstep (lstep (lstep (lstep (lstep (lstep (lstep (lstep hB1 hB2) hB3) hB4) hB5) hB6) hB7) hB8) hB9) hB10) hB11) hB12) hB13) hB14) hB15) hB16) hB17) hB18)))).mono ?_
  rintro e w19 ⟨slv, slC, rfl, sl, hB19, _⟩
  obtain ⟨slg, sll, sle⟩ := sl.func
  subst sle
  gi_wp2_with fail
  refine ((callsIn_wide (n := 0)).2 (keep_call oddB sl (odd_pure w19))).mono ?_
  rintro e w20 ⟨smv, smC, rfl, sm, hB20, _⟩
  obtain ⟨smg, sml, sme⟩ := sm.func
  subst sme
  clear sj sl
  gi_wp2_with fail
  have hv2s := reads_two w20 (some (.func skg, skl)) (some (.func smg, sml))
  have hB21 := alloc_later w20 (.cells #[encF (some (.func skg, skl)), encF (some (.func smg, sml))] 27)
  have hall := two_seqs (x1 := some (.func skg, skl)) (x2 := some (.func smg, sml)) (sk.below (lstep (lstep hB19 hB20) hB21)) (sm.below hB21)
  obtain ⟨w21, hw21⟩ : ∃ w21, w20.alloc (.cells #[encF (some (.func skg, skl)), encF (some (.func smg, sml))] 27) = w21 := ⟨_, rfl⟩
  rw [hw21] at hv2s hB21 hall
  have hw21' : w20.alloc (.cells #[.func (.func skg) #[] skl, .func (.func smg) #[] sml] 27) = w21 := hw21
  rw [hw21']
  clear hw21 hw21'
  refine ((callsIn_wide (n := 0)).2 (chain27 [(some (.func skg, skl), _), (some (.func smg, sml), _)] (by simp) _ _ hv2s hall)).mono ?_
  rintro e w22 ⟨snv, snC, rfl, sn, hB22, _⟩
  clear hv2s hall
  simp only [List.flatMap_cons, List.flatMap_nil, List.append_nil] at sn
  obtain ⟨sng, snl, sne⟩ := sn.func
  subst sne
  rw [← List.filter_append] at sn
  clear sk sm
  gi_wp2_with fail
  refine ((callsIn_wide (n := 0)).2 (c16 _ _ _ _ sn 999 (by decide) Hl1.out)).mono ?_
  rintro e w23 ⟨ryv, rfl, ryr, hB23⟩
  have ry := Reads.of_row ryr
  clear ryr
  rw [Ht1.out] at ry
  clear sn
  gi_wp2_with fail
  refine ((callsIn_wide (n := 0)).2 (of17 _ (by omega) _ _ (HA.out.below (lstep (lstep (lstep (lstep (lstep (lstep (lstep (lstep (lstep (lstep (lstep (lstep (lstep (lstep (lstep (lstep (lstep (lstep (lstep (lstep (lstep (lstep hB1 hB2) hB3) hB4) hB5) hB6) hB7) hB8) hB9) hB10) hB11) hB12) hB13) hB14) hB15) hB16) hB17) hB18) hB19) hB20) hB21) hB22) hB23)))).mono ?_
  rintro e w24 ⟨sov, soC, rfl, so, hB24, _⟩
  obtain ⟨sog, sol, soe⟩ := so.func
  subst soe
  gi_wp2_with fail
  refine ((callsIn_wide (n := 0)).2 (map_call (fun x => wrap64 (2 * x)) so (twice_pure w24))).mono ?_
  rintro e w25 ⟨spv, spC, rfl, sp, hB25, _⟩
  obtain ⟨spg, spl, spe⟩ := sp.func
  subst spe
  clear so
  have hl2 : ((xs.map fun x => wrap64 (2 * x)).take (99 : Int).toNat).length ≤ 100000 := by show ((xs.map fun x => wrap64 (2 * x)).take 99).length ≤ 100000; simp; omega
  have Hl2 := Lib.hid hl2
  clear hl2
  gi_wp2_with fail
  refine ((callsIn_wide (n := 0)).2 (same15 _ (Nat.le_trans (List.length_filter_le _ _) (by simp; omega)) _ _ _ (rx.below (lstep (lstep (lstep (lstep (lstep (lstep (lstep (lstep hB17 hB18) hB19) hB20) hB21) hB22) hB23) hB24) hB25)) (ry.below (lstep hB24 hB25)))).mono ?_
  rintro e w26 ⟨rfl, hB26⟩
  clear rx ry
  gi_wp2_with fail
  refine ((callsIn_wide (n := 0)).2 (c16 _ _ _ _ (sp.below hB26) 99 (by decide) Hl2.out)).mono ?_
  rintro e w27 ⟨rmv, rfl, rmr, hB27⟩
  have rm := Reads.of_row rmr
  clear rmr
  gi_wp2_with fail
  refine ((callsIn_wide (n := 0)).2 (c16 _ _ _ _ (sp.below (lstep hB26 hB27)) 99 (by decide) Hl2.out)).mono ?_
  rintro e w28 ⟨rnv, rfl, rnr, hB28⟩
  have rn := Reads.of_row rnr
  clear rnr
  gi_wp2_with fail
  refine ((callsIn_wide (n := 0)).2 (same15 _ Hl2.out _ _ _ (rm.below hB28) rn)).mono ?_
  rintro e w29 ⟨rfl, hB29⟩
  clear rm rn sp
  gi_wp2_with fail
  refine ((callsIn_wide (n := 0)).2 (awake19 _)).mono ?_
  rintro e w30 ⟨rfl, hB30⟩
  have hfin := (lstep (lstep (lstep (lstep (lstep (lstep (lstep (lstep (lstep (lstep (lstep (lstep (lstep (lstep (lstep (lstep (lstep (lstep (lstep (lstep (lstep (lstep (lstep (lstep (lstep (lstep (lstep (lstep (lstep hB1 hB2) hB3) hB4) hB5) hB6) hB7) hB8) hB9) hB10) hB11) hB12) hB13) hB14) hB15) hB16) hB17) hB18) hB19) hB20) hB21) hB22) hB23) hB24) hB25) hB26) hB27) hB28) hB29) hB30)
  have Hfin := Lib.hid hfin
  gi_wp2
  go_ret
  exact ⟨rfl, Hfin.out⟩
end Go.Proofs.Ytdfnainibjgenaa
