/- GenSets' walk. -/
import Derived.Test.YtmobidmdnkjinaaRegW
namespace Go.Proofs.Ytmobidmdnkjinaa
open Go.RowKit Go.Shelf
set_option linter.unusedVariables false
set_option linter.unusedSimpArgs false

theorem SetHead.both {w : World} {os : List OpG} {mv : Value} {k N : Nat} {ks ks' : List ByteArray} {mm : Option Nat} {W W' : World} (h : SetHead w os mv k ks mm W) (hst : StoredS w.heap.size mm W N (ul ks') W') : ∃ W, SetHead w os mv k ks mm W ∧ StoredS w.heap.size mm W N (ul ks') W' := ⟨W, h, hst⟩

set_option maxRecDepth 100000 in
set_option maxHeartbeats 4000000 in
theorem genSets_walk (os : List OpG) (hk : ∀ o ∈ os, o.key.size ≤ maxLen) (v : Value) (w : World) (hv : RO w v os) :
    Calls Try.prog 8 #[v] w fun e w' => e = .returned (.bool true) ∧ Below w.heap.size w w' := by
  obtain ⟨ao, co, rfl⟩ := hv.form
  have HV := Lib.hid hv
  clear hv
  go_enter Try.func8, Try.ntmps8
  go_wp2_with (go_at_call 34; refine (new34 w).mono ?_; rintro e w1 ⟨rfl, hT, hB⟩)
  go_loopw [4, 5] (fun mv i wr => ∃ (k : Nat) (ks : List ByteArray) (mm : Option Nat), i = .int .i64 (k : Int) ∧ SetHead w os mv k ks mm wr) (fun _ i _ => 60 - (intOf i).toNat)
  case atStart =>
    exact ⟨0, [], none, rfl, Nat.zero_le _, by omega, Nat.zero_le _, .inl ⟨_, _, rfl, rfl, fun _ => rfl⟩, hT, by simp, by simp [Value.ownBlock], hB⟩
  case round =>
    obtain ⟨k, ks, mm, rfl, hh⟩ := hrel
    have HH := Lib.hid hh
    have hk1 := hh.1
    have hk2 := hh.2.1
    have hk3 := hh.2.2.1
    obtain ⟨am, cm, rfl, hcm, _⟩ := hh.2.2.2.1.form
    clear hh hT hB
    by_cases hlt : k < os.length ∧ k < 60
    · obtain ⟨hl1, hl2⟩ := hlt
      have hkx := hk os[k] (by simp)
      obtain ⟨b0, o0, hix, hdo, hkey⟩ := HV.out.spot hl1
      generalize hx : os[k].key = x at hkx hkey
      generalize hdn : os[k].what = dn at hdo
      have Hx := Lib.hid hx
      clear hx hdn
      have hcells : ∀ W, Below w.heap.size w W → W.cell? ⟨b0, o0, none⟩ = some (.int .i64 dn) ∧ W.cell? ⟨b0, o0 + 1, none⟩ = some (.string x) := fun W hW => ⟨(hW.cell (cells_blockS hdo)).trans hdo, (hW.cell (cells_blockS hkey)).trans hkey⟩
      go_wp2_with (fail)
      go_loopw [6] (fun at' wr2 => ∃ i : Nat, at' = .int .i64 (i : Int) ∧ i ≤ ks.length ∧ (∀ y ∈ ks.take i, sl y x = true) ∧ SetHead w os (.slice am ks.length cm) k ks mm wr2) (fun at' _ => ks.length - (intOf at').toNat)
      case atStart => exact ⟨0, rfl, Nat.zero_le _, by simp, HH.out⟩
      case round =>
        obtain ⟨i, rfl, hi, hbef, hh2⟩ := hrel
        have H2 := Lib.hid hh2
        have hc0 := (hcells _ hh2.2.2.2.2.2.2.2).1
        have hc1 := (hcells _ hh2.2.2.2.2.2.2.2).2
        have hrs := hh2.2.2.2.1
        have hup := hh2.2.2.2.2.1.fine.1
        clear hh2
        by_cases hik : i < ks.length
        · obtain ⟨am1, hm1, hm2⟩ := hrs.idx hik
          have hls := less_sl ks[i] x
          generalize hy : ks[i] = y at hm2 hls
          have Hy := Lib.hid hy
          clear hy
          have hd1 : decide ((i : Int) < ks.length) = true := by simpa using hik
          cases hsl : sl y x with
          | true =>
            rw [hsl] at hls
            clear hrs
            go_wp2_with (fail)
            go_quiet (fail)
            go_wp2_with (fail)
            go_roundw
            case rel => exact ⟨i + 1, by simp, by omega, At.next hbef hik (by rw [Hy.out]; exact hsl), H2.out.below (below_drewN _ _)⟩
            case measure => simp [intOf]; omega
          | false =>
            rw [hsl] at hls
            have hat : At ks x i := ⟨by omega, hbef, fun z hz => by rw [List.getElem?_eq_getElem hik, Hy.out] at hz; cases hz; exact hsl⟩
            have heq := eq_sl y x
            clear hrs
            cases hyx : decide (y = x) with
            | true =>
              rw [hyx] at heq
              have Hhas := Lib.hid (show hasK x (ul ks) = true by rw [hat.has hup, List.getElem?_eq_getElem hik, Hy.out]; simpa using hyx)
              have hup' := Lib.hid hup
              have hat' := Lib.hid hat
              clear hup hat hbef
              go_wp2_with (fail)
              go_quiet (fail)
              go_wp2_with (fail)
              go_quiet (fail)
              by_cases hd0 : dn = 0
              · subst hd0
                have hC : Hid (∀ q, Calls Try.prog 35 #[.pointer (some ⟨w.heap.size, 0, none⟩), .string x] (wr.drewN q) fun e w' => e = .returned (.bool false) ∧ StoredS w.heap.size mm (wr.drewN q) (k + 1) (ul ks) w') := fun q => by
                  have h0 := (H2.out.below (below_drewN wr q)).2.2.2.2.1
                  have := add35 h0 (by omega) hkx
                  rw [Hhas.out] at this
                  simpa using this
                go_wp2_with (first
                  | (go_at_call 35; refine (hC.out _).mono ?_; rintro e w3 ⟨rfl, hst⟩; obtain ⟨mm3, hh3⟩ := (H2.out.below (below_drewN wr _)).kept hl1 hl2 (by omega) hst; have H3 := Lib.hid hh3; clear hh3 hst)
                  | (go_at_call 38; refine (len_ul H3.out.2.2.2.2.1).mono ?_; rintro e w4 ⟨rfl, rfl⟩))
                go_roundw
                case rel => exact ⟨k + 1, ks, mm3, by simp, H3.out⟩
                case measure => simp [intOf]; omega
              · by_cases hd1 : dn = 1
                · subst hd1
                  have hC : Hid (∀ q, Calls Try.prog 36 #[.pointer (some ⟨w.heap.size, 0, none⟩), .string x] (wr.drewN q) fun e w' => e = .returned (.bool true) ∧ StoredS w.heap.size mm (wr.drewN q) k (ul (ks.take i ++ ks.drop (i + 1))) w') := fun q => by
                    have h0 := (H2.out.below (below_drewN wr q)).2.2.2.2.1
                    have := remove36 h0 hkx
                    rw [Hhas.out, hat'.out.del hup'.out Hhas.out] at this
                    exact this
                  go_wp2_with (go_at_call 36; refine (hC.out _).mono ?_; rintro e w3 ⟨rfl, hst⟩; have HS := Lib.hid (SetHead.both (H2.out.below (below_drewN wr _)) hst); clear hst)
                  obtain ⟨W0, hs0, hst⟩ := HS.out
                  obtain ⟨mm1, hT1, hrs1, _, _, hB1⟩ := hs0.stored (by omega) hst
                  refine draw_as (ops := regOps Try.f8 24) (by kernel_rfl) (reg24 _ rfl rfl rfl (by omega) hrs1 hik ?_)
                  intro y112 y113 y114 y115 y116 y117 y118 y119 y120 y121 v' w5 hrow hB5
                  obtain ⟨mm5, hh5⟩ := hs0.fresh hl1 hl2 (by omega) hst (by simp; omega) hrow hB5
                  clear hrow hst hT1 hrs1 hB5 hB1 hs0 HS hC
                  generalize ks.take i ++ ks.drop (i + 1) = ks' at hh5
                  have H5 := Lib.hid hh5
                  obtain ⟨a5, c5, rfl, _⟩ := hh5.2.2.2.1.form
                  clear hh5
                  simp only [List.setIfInBounds_toArray, List.set_cons_succ, List.set_cons_zero]
                  go_wp2_with (go_at_call 38; refine (len_ul H5.out.2.2.2.2.1).mono ?_; rintro e w6 ⟨rfl, rfl⟩)
                  go_roundw
                  case rel => exact ⟨k + 1, ks', mm5, by simp, H5.out⟩
                  case measure => simp [intOf]; omega
                · have e0 : (dn == 0) = false := by simpa using hd0
                  have e1 : (dn == 1) = false := by simpa using hd1
                  have hC : Hid (∀ q, Calls Try.prog 37 #[.pointer (some ⟨w.heap.size, 0, none⟩), .string x] (wr.drewN q) fun e w' => e = .returned (.bool true) ∧ StoredS w.heap.size mm (wr.drewN q) k (ul ks) w') := fun q => by
                    have h0 := (H2.out.below (below_drewN wr q)).2.2.2.2.1
                    have := has37 h0 hkx
                    rw [Hhas.out] at this
                    exact this.mono fun e w1 h => ⟨h.1, h0.same h.2⟩
                  go_wp2_with (first
                    | (go_at_call 37; refine (hC.out _).mono ?_; rintro e w3 ⟨rfl, hst⟩; obtain ⟨mm3, hh3⟩ := (H2.out.below (below_drewN wr _)).kept hl1 hl2 (by omega) hst; have H3 := Lib.hid hh3; clear hh3 hst)
                    | (go_at_call 38; refine (len_ul H3.out.2.2.2.2.1).mono ?_; rintro e w4 ⟨rfl, rfl⟩))
                  go_roundw
                  case rel => exact ⟨k + 1, ks, mm3, by simp, H3.out⟩
                  case measure => simp [intOf]; omega
            | false =>
              rw [hyx] at heq
              have Hhas := Lib.hid (show hasK x (ul ks) = false by rw [hat.has hup, List.getElem?_eq_getElem hik, Hy.out]; simpa using hyx)
              have hup' := Lib.hid hup
              have hat' := Lib.hid hat
              clear hup hat hbef
              go_wp2_with (fail)
              go_quiet (fail)
              go_wp2_with (fail)
              go_quiet (fail)
              by_cases hd0 : dn = 0
              · subst hd0
                have hC : Hid (∀ q, Calls Try.prog 35 #[.pointer (some ⟨w.heap.size, 0, none⟩), .string x] (wr.drewN q) fun e w' => e = .returned (.bool true) ∧ StoredS w.heap.size mm (wr.drewN q) (k + 1) (ul (ks.take i ++ [x] ++ ks.drop i)) w') := fun q => by
                  have h0 := (H2.out.below (below_drewN wr q)).2.2.2.2.1
                  have := add35 h0 (by omega) hkx
                  rw [Hhas.out] at this
                  rw [← hat'.out.put hup'.out Hhas.out]
                  simpa using this
                go_wp2_with (go_at_call 35; refine (hC.out _).mono ?_; rintro e w3 ⟨rfl, hst⟩; have HS := Lib.hid (SetHead.both (H2.out.below (below_drewN wr _)) hst); clear hst)
                obtain ⟨W0, hs0, hst⟩ := HS.out
                obtain ⟨mm1, hT1, hrs1, _, _, hB1⟩ := hs0.stored (by omega) hst
                refine draw_as (ops := regOps Try.f8 19) (by kernel_rfl) (reg19 _ rfl rfl rfl rfl rfl (by omega) hrs1 (HV.out.below hB1) hi hl1 ?_)
                intro y84 y85 y86 y87 y88 y89 y90 y91 y92 y93 y94 y95 y96 y97 y98 y99 v' w5 hrow hB5
                rw [Hx.out] at hrow
                obtain ⟨mm5, hh5⟩ := hs0.fresh hl1 hl2 (by omega) hst (by simp; omega) hrow hB5
                clear hrow hst hT1 hrs1 hB5 hB1 hs0 HS hC
                generalize ks.take i ++ [x] ++ ks.drop i = ks' at hh5
                have H5 := Lib.hid hh5
                obtain ⟨a5, c5, rfl, _⟩ := hh5.2.2.2.1.form
                clear hh5
                simp only [List.setIfInBounds_toArray, List.set_cons_succ, List.set_cons_zero]
                go_wp2_with (go_at_call 38; refine (len_ul H5.out.2.2.2.2.1).mono ?_; rintro e w6 ⟨rfl, rfl⟩)
                go_roundw
                case rel => exact ⟨k + 1, ks', mm5, by simp, H5.out⟩
                case measure => simp [intOf]; omega
              · by_cases hd1 : dn = 1
                · subst hd1
                  have hC : Hid (∀ q, Calls Try.prog 36 #[.pointer (some ⟨w.heap.size, 0, none⟩), .string x] (wr.drewN q) fun e w' => e = .returned (.bool false) ∧ StoredS w.heap.size mm (wr.drewN q) k (ul ks) w') := fun q => by
                    have h0 := (H2.out.below (below_drewN wr q)).2.2.2.2.1
                    have := remove36 h0 hkx
                    rw [Hhas.out, delK_none Hhas.out] at this
                    exact this
                  go_wp2_with (first
                    | (go_at_call 36; refine (hC.out _).mono ?_; rintro e w3 ⟨rfl, hst⟩; obtain ⟨mm3, hh3⟩ := (H2.out.below (below_drewN wr _)).kept hl1 hl2 (by omega) hst; have H3 := Lib.hid hh3; clear hh3 hst)
                    | (go_at_call 38; refine (len_ul H3.out.2.2.2.2.1).mono ?_; rintro e w4 ⟨rfl, rfl⟩))
                  go_roundw
                  case rel => exact ⟨k + 1, ks, mm3, by simp, H3.out⟩
                  case measure => simp [intOf]; omega
                · have e0 : (dn == 0) = false := by simpa using hd0
                  have e1 : (dn == 1) = false := by simpa using hd1
                  have hC : Hid (∀ q, Calls Try.prog 37 #[.pointer (some ⟨w.heap.size, 0, none⟩), .string x] (wr.drewN q) fun e w' => e = .returned (.bool false) ∧ StoredS w.heap.size mm (wr.drewN q) k (ul ks) w') := fun q => by
                    have h0 := (H2.out.below (below_drewN wr q)).2.2.2.2.1
                    have := has37 h0 hkx
                    rw [Hhas.out] at this
                    exact this.mono fun e w1 h => ⟨h.1, h0.same h.2⟩
                  go_wp2_with (first
                    | (go_at_call 37; refine (hC.out _).mono ?_; rintro e w3 ⟨rfl, hst⟩; obtain ⟨mm3, hh3⟩ := (H2.out.below (below_drewN wr _)).kept hl1 hl2 (by omega) hst; have H3 := Lib.hid hh3; clear hh3 hst)
                    | (go_at_call 38; refine (len_ul H3.out.2.2.2.2.1).mono ?_; rintro e w4 ⟨rfl, rfl⟩))
                  go_roundw
                  case rel => exact ⟨k + 1, ks, mm3, by simp, H3.out⟩
                  case measure => simp [intOf]; omega
        · have hat : At ks x i := ⟨by omega, hbef, fun z hz => by rw [List.getElem?_eq_none (by omega)] at hz; cases hz⟩
          have hd1 : decide ((i : Int) < ks.length) = false := by simpa using hik
          have Hhas : Hid (hasK x (ul ks) = false) := by rw [hat.has hup, List.getElem?_eq_none (by omega)]; rfl
          have hup' := Lib.hid hup
          have hat' := Lib.hid hat
          clear hup hat hbef
          go_wp2_with (fail)
          go_quiet (fail)
          go_wp2_with (fail)
          go_quiet (fail)
          by_cases hd0 : dn = 0
          · subst hd0
            have hC : Hid (∀ q, Calls Try.prog 35 #[.pointer (some ⟨w.heap.size, 0, none⟩), .string x] (wr.drewN q) fun e w' => e = .returned (.bool true) ∧ StoredS w.heap.size mm (wr.drewN q) (k + 1) (ul (ks.take i ++ [x] ++ ks.drop i)) w') := fun q => by
              have h0 := (H2.out.below (below_drewN wr q)).2.2.2.2.1
              have := add35 h0 (by omega) hkx
              rw [Hhas.out] at this
              rw [← hat'.out.put hup'.out Hhas.out]
              simpa using this
            go_wp2_with (go_at_call 35; refine (hC.out _).mono ?_; rintro e w3 ⟨rfl, hst⟩; have HS := Lib.hid (SetHead.both (H2.out.below (below_drewN wr _)) hst); clear hst)
            obtain ⟨W0, hs0, hst⟩ := HS.out
            obtain ⟨mm1, hT1, hrs1, _, _, hB1⟩ := hs0.stored (by omega) hst
            refine draw_as (ops := regOps Try.f8 19) (by kernel_rfl) (reg19 _ rfl rfl rfl rfl rfl (by omega) hrs1 (HV.out.below hB1) hi hl1 ?_)
            intro y84 y85 y86 y87 y88 y89 y90 y91 y92 y93 y94 y95 y96 y97 y98 y99 v' w5 hrow hB5
            rw [Hx.out] at hrow
            obtain ⟨mm5, hh5⟩ := hs0.fresh hl1 hl2 (by omega) hst (by simp; omega) hrow hB5
            clear hrow hst hT1 hrs1 hB5 hB1 hs0 HS hC
            generalize ks.take i ++ [x] ++ ks.drop i = ks' at hh5
            have H5 := Lib.hid hh5
            obtain ⟨a5, c5, rfl, _⟩ := hh5.2.2.2.1.form
            clear hh5
            simp only [List.setIfInBounds_toArray, List.set_cons_succ, List.set_cons_zero]
            go_wp2_with (go_at_call 38; refine (len_ul H5.out.2.2.2.2.1).mono ?_; rintro e w6 ⟨rfl, rfl⟩)
            go_roundw
            case rel => exact ⟨k + 1, ks', mm5, by simp, H5.out⟩
            case measure => simp [intOf]; omega
          · by_cases hd1 : dn = 1
            · subst hd1
              have hC : Hid (∀ q, Calls Try.prog 36 #[.pointer (some ⟨w.heap.size, 0, none⟩), .string x] (wr.drewN q) fun e w' => e = .returned (.bool false) ∧ StoredS w.heap.size mm (wr.drewN q) k (ul ks) w') := fun q => by
                have h0 := (H2.out.below (below_drewN wr q)).2.2.2.2.1
                have := remove36 h0 hkx
                rw [Hhas.out, delK_none Hhas.out] at this
                exact this
              go_wp2_with (first
                | (go_at_call 36; refine (hC.out _).mono ?_; rintro e w3 ⟨rfl, hst⟩; obtain ⟨mm3, hh3⟩ := (H2.out.below (below_drewN wr _)).kept hl1 hl2 (by omega) hst; have H3 := Lib.hid hh3; clear hh3 hst)
                | (go_at_call 38; refine (len_ul H3.out.2.2.2.2.1).mono ?_; rintro e w4 ⟨rfl, rfl⟩))
              go_roundw
              case rel => exact ⟨k + 1, ks, mm3, by simp, H3.out⟩
              case measure => simp [intOf]; omega
            · have e0 : (dn == 0) = false := by simpa using hd0
              have e1 : (dn == 1) = false := by simpa using hd1
              have hC : Hid (∀ q, Calls Try.prog 37 #[.pointer (some ⟨w.heap.size, 0, none⟩), .string x] (wr.drewN q) fun e w' => e = .returned (.bool false) ∧ StoredS w.heap.size mm (wr.drewN q) k (ul ks) w') := fun q => by
                have h0 := (H2.out.below (below_drewN wr q)).2.2.2.2.1
                have := has37 h0 hkx
                rw [Hhas.out] at this
                exact this.mono fun e w1 h => ⟨h.1, h0.same h.2⟩
              go_wp2_with (first
                | (go_at_call 37; refine (hC.out _).mono ?_; rintro e w3 ⟨rfl, hst⟩; obtain ⟨mm3, hh3⟩ := (H2.out.below (below_drewN wr _)).kept hl1 hl2 (by omega) hst; have H3 := Lib.hid hh3; clear hh3 hst)
                | (go_at_call 38; refine (len_ul H3.out.2.2.2.2.1).mono ?_; rintro e w4 ⟨rfl, rfl⟩))
              go_roundw
              case rel => exact ⟨k + 1, ks, mm3, by simp, H3.out⟩
              case measure => simp [intOf]; omega
    · have hk99 : ks.take (99 : Int).toNat = ks := List.take_of_length_le (by simp; omega)
      by_cases hlo : k < os.length
      · have h60 : k = 60 := by omega
        subst h60
        go_wp2_with (first
          | (go_at_call 40; refine (all40 HH.out.2.2.2.2.1 (by omega)).mono ?_; rintro e w3 ⟨s3, C3, rfl, hs3, hB3, hC3⟩; have Hs3 := Lib.hid hs3; have HB3 := Lib.hid hB3; obtain ⟨g3, l3, rfl⟩ := hs3.func; clear hs3 hC3 hB3)
          | (go_at_call 39; refine (c39 ks _ C3 w3 Hs3.out 99 (by decide) (by simp; omega)).mono ?_; rintro e w4 ⟨v4, rfl, hrow, hB4⟩; rw [hk99] at hrow; have hr4 := RS.of_row hrow; have HR4 := Lib.hid hr4; have HB4 := Lib.hid hB4; obtain ⟨a4, c4, rfl, _⟩ := hr4.form; clear hr4 hrow hB4))
        have HM : Hid (RS w4 (.slice am ks.length cm) ks) := ((HH.out.2.2.2.1).below HB3.out).below HB4.out
        have HBF : Hid (Below w.heap.size w w4) := (HH.out.2.2.2.2.2.2.2.trans (HB3.out.mono HH.out.2.2.2.2.2.2.2.size)).trans (HB4.out.mono (Nat.le_trans HH.out.2.2.2.2.2.2.2.size HB3.out.size))
        go_loopw [137] (fun j' wr2 => ∃ j : Nat, j' = .int .i64 (j : Int) ∧ j ≤ ks.length ∧ Below w4.heap.size w4 wr2) (fun j' _ => ks.length - (intOf j').toNat)
        case atStart => exact ⟨0, rfl, Nat.zero_le _, Below.refl _ _⟩
        case round =>
          obtain ⟨j, rfl, hj, hBj⟩ := hrel
          have HBj := Lib.hid hBj
          by_cases hjl : j < ks.length
          · obtain ⟨p1, hp1, hq1⟩ := (HM.out.below hBj).idx hjl
            obtain ⟨p2, hp2, hq2⟩ := (HR4.out.below hBj).idx hjl
            generalize ks[j] = z at hq1 hq2
            have hzz : (z.toList == z.toList) = true := by simp
            clear hBj
            go_wp2_with (fail)
            go_quiet (fail)
            go_wp2_with (fail)
            go_roundw
            case rel => exact ⟨j + 1, by simp, by omega, HBj.out.trans ((below_drewN _ _).mono HBj.out.size)⟩
            case measure => simp [intOf]; omega
          · clear hBj
            go_wp2_with (go_at_call 19; refine (awake19 _).mono ?_; rintro e w6 ⟨rfl, hB6⟩)
            go_ret
            exact ⟨rfl, (HBF.out.trans (HBj.out.mono HBF.out.size)).trans (hB6.mono (Nat.le_trans HBF.out.size HBj.out.size))⟩
      · have h60 : k = os.length := by omega
        subst h60
        go_wp2_with (first
          | (go_at_call 40; refine (all40 HH.out.2.2.2.2.1 (by omega)).mono ?_; rintro e w3 ⟨s3, C3, rfl, hs3, hB3, hC3⟩; have Hs3 := Lib.hid hs3; have HB3 := Lib.hid hB3; obtain ⟨g3, l3, rfl⟩ := hs3.func; clear hs3 hC3 hB3)
          | (go_at_call 39; refine (c39 ks _ C3 w3 Hs3.out 99 (by decide) (by simp; omega)).mono ?_; rintro e w4 ⟨v4, rfl, hrow, hB4⟩; rw [hk99] at hrow; have hr4 := RS.of_row hrow; have HR4 := Lib.hid hr4; have HB4 := Lib.hid hB4; obtain ⟨a4, c4, rfl, _⟩ := hr4.form; clear hr4 hrow hB4))
        have HM : Hid (RS w4 (.slice am ks.length cm) ks) := ((HH.out.2.2.2.1).below HB3.out).below HB4.out
        have HBF : Hid (Below w.heap.size w w4) := (HH.out.2.2.2.2.2.2.2.trans (HB3.out.mono HH.out.2.2.2.2.2.2.2.size)).trans (HB4.out.mono (Nat.le_trans HH.out.2.2.2.2.2.2.2.size HB3.out.size))
        go_loopw [137] (fun j' wr2 => ∃ j : Nat, j' = .int .i64 (j : Int) ∧ j ≤ ks.length ∧ Below w4.heap.size w4 wr2) (fun j' _ => ks.length - (intOf j').toNat)
        case atStart => exact ⟨0, rfl, Nat.zero_le _, Below.refl _ _⟩
        case round =>
          obtain ⟨j, rfl, hj, hBj⟩ := hrel
          have HBj := Lib.hid hBj
          by_cases hjl : j < ks.length
          · obtain ⟨p1, hp1, hq1⟩ := (HM.out.below hBj).idx hjl
            obtain ⟨p2, hp2, hq2⟩ := (HR4.out.below hBj).idx hjl
            generalize ks[j] = z at hq1 hq2
            have hzz : (z.toList == z.toList) = true := by simp
            clear hBj
            go_wp2_with (fail)
            go_quiet (fail)
            go_wp2_with (fail)
            go_roundw
            case rel => exact ⟨j + 1, by simp, by omega, HBj.out.trans ((below_drewN _ _).mono HBj.out.size)⟩
            case measure => simp [intOf]; omega
          · clear hBj
            go_wp2_with (go_at_call 19; refine (awake19 _).mono ?_; rintro e w6 ⟨rfl, hB6⟩)
            go_ret
            exact ⟨rfl, (HBF.out.trans (HBj.out.mono HBF.out.size)).trans (hB6.mono (Nat.le_trans HBF.out.size HBj.out.size))⟩
end Go.Proofs.Ytmobidmdnkjinaa
