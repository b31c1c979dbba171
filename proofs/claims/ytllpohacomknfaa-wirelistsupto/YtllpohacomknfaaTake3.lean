/- assizeref2.Take. -/
import Derived.Test.YtllpohacomknfaaTake2
namespace Go.Proofs.Ytllpohacomknfaa
open Go.RowKit
set_option linter.unusedVariables false
set_option linter.unusedSimpArgs false

theorem mask7 {c : Int} (h0 : 0 ≤ c) (h1 : c < 256) : bits .and .u8 c 127 = c % 128 := bits_mask .u8 8 (by decide) wraps_u8 7 (by decide) c h0 (by omega)

theorem val_drop_all (bs : List UInt8) (m : Nat) : val ((bs.take m).drop m) = 0 := by rw [List.drop_eq_nil_of_le (by simp; omega)]; rfl

set_option maxRecDepth 100000 in
set_option maxHeartbeats 1000000 in
theorem take11 (bs : List UInt8) (hl : bs.length ≤ 140737488355328) (v : Value) (w : World) (hv : RB w v bs) :
    Calls Try.prog 11 #[v] w fun e w' => e = TkE (tk bs) ∧ w = w' := by
  rcases hv with ⟨a, c, rfl, rfl, h⟩ | ⟨b, off, cap, rfl, h1, h2⟩
  · go_enter Try.func11, Try.ntmps11
    go_wp2
    go_loop [5] (fun i => i = .int .i64 0) (fun _ => 0)
    case atStart => rfl
    case round =>
      subst hrel
      go_wp2
      go_ret3
      exact ⟨rfl, rfl⟩
  have H2 := Lib.hid h2
  clear h2
  cases he : elen bs with
  | none =>
    have HT := Lib.hid (tk_none he)
    have HE := Lib.hid (elen_none he)
    clear he
    go_enter Try.func11, Try.ntmps11
    go_wp2
    go_loop [5] (fun i => ∃ k : Nat, k ≤ bs.length ∧ i = .int .i64 k) (fun i => bs.length - (intOf i).toNat)
    case atStart => exact ⟨0, Nat.zero_le _, rfl⟩
    case round =>
      obtain ⟨k, hk, rfl⟩ := hrel
      by_cases hlt : k < bs.length
      · obtain ⟨c, hc⟩ : ∃ c, bs[k]? = some c := ⟨_, List.getElem?_eq_getElem hlt⟩
        have hcell := H2.out k c hc
        have hb := HE.out k c hc
        have hu := UInt8.toNat_lt c
        unfold encU at hcell
        clear hc
        go_wp2
        go_round
        case rel => exact ⟨k + 1, by omega, by go_num⟩
        case measure => simp [intOf]; omega
      · obtain rfl : k = bs.length := by omega
        go_wp2
        go_ret3
        exact ⟨by rw [HT.out]; rfl, rfl⟩
  | some J =>
    have hJ := elen_lt he
    have HE := Lib.hid (elen_some he)
    have HEJ := Lib.hid he
    obtain ⟨⟨c0, hc0, hcl0⟩, _⟩ := elen_some he
    have hcell0 := H2.out J c0 hc0
    have hu0 := UInt8.toNat_lt c0
    unfold encU at hcell0
    have hcs : bs[J]?.getD 0 = c0 := by rw [hc0]; rfl
    have HCS := Lib.hid hcs
    have HC0 := Lib.hid hc0
    clear hcs hc0 he
    go_enter Try.func11, Try.ntmps11
    go_wp2
    go_loop [5] (fun i => ∃ k : Nat, k ≤ J ∧ i = .int .i64 k) (fun i => bs.length - (intOf i).toNat)
    case atStart => exact ⟨0, Nat.zero_le _, rfl⟩
    case round =>
      obtain ⟨k, hk, rfl⟩ := hrel
      by_cases hkJ : k < J
      · obtain ⟨c, hc⟩ : ∃ c, bs[k]? = some c := ⟨_, List.getElem?_eq_getElem (by omega)⟩
        have hcell := H2.out k c hc
        have hb := HE.out.2 k c hkJ hc
        have hu := UInt8.toNat_lt c
        unfold encU at hcell
        clear hc
        go_wp2
        go_round
        case rel => exact ⟨k + 1, by omega, by go_num⟩
        case measure => simp [intOf]; omega
      · obtain rfl : k = J := by omega
        rcases (show (0 < k ∧ c0.toNat ≤ 0) ∨ (9 < k ∧ 0 < c0.toNat) ∨ (k = 9 ∧ 1 < c0.toNat) ∨ (k = 9 ∧ 0 < c0.toNat ∧ c0.toNat ≤ 1) ∨ (k = 0) ∨ (0 < k ∧ k < 9 ∧ 0 < c0.toNat) from by omega) with ⟨g, g'⟩ | ⟨g, g'⟩ | ⟨g, g'⟩ | ⟨g, g', g''⟩ | g | ⟨g, g', g''⟩
        · have HT := Lib.hid (tk_bad HEJ.out (by rw [HCS.out, snd_nat]; simp; omega))
          go_wp2
          go_ret3
          exact ⟨by rw [HT.out]; rfl, rfl⟩
        · have HT := Lib.hid (tk_bad HEJ.out (by rw [HCS.out, snd_nat]; simp; omega))
          go_wp2
          go_ret3
          exact ⟨by rw [HT.out]; rfl, rfl⟩
        · have HT := Lib.hid (tk_bad HEJ.out (by rw [HCS.out, snd_nat]; simp; omega))
          subst g
          go_wp2
          go_ret3
          exact ⟨by rw [HT.out]; rfl, rfl⟩
        all_goals
          have HSn := Lib.hid (show snd k (bs[k]?.getD 0) = true from by rw [HCS.out, snd_nat]; simp; omega)
          have HT := Lib.hid (tk_good HEJ.out HSn.out)
        · subst g
          have hne := Bool.eq_false_iff.2 (mt beq_iff_eq.1 (show ¬ (c0.toNat : Int) = 0 by omega))
          go_wp2
          go_loop [6, 7] (fun n i => ∃ m : Nat, m ≤ 9 + 1 ∧ i = .int .i64 ((m : Int) - 1) ∧ n = .int .u64 ((val ((bs.take (9 + 1)).drop m) : Nat) : Int)) (fun _ i => (intOf i + 1).toNat)
          case atStart => exact ⟨9 + 1, Nat.le_refl _, by go_num, by rw [val_drop_all]; rfl⟩
          case round =>
            obtain ⟨m, hm, rfl, rfl⟩ := hrel
            by_cases h0 : 0 < m
            · obtain ⟨j, rfl⟩ : ∃ j, m = j + 1 := ⟨m - 1, by omega⟩
              obtain ⟨d, hd⟩ : ∃ d, bs[j]? = some d := ⟨_, List.getElem?_eq_getElem (by omega)⟩
              have hcell := H2.out j d hd
              have hu := UInt8.toNat_lt d
              unfold encU at hcell
              have HU := Lib.hid (or_down HEJ.out HSn.out (by omega) hd)
              have HM := Lib.hid (mask7 (c := (d.toNat : Int)) (by omega) (by omega))
              clear hd
              go_wp2
              go_round
              case rel =>
                refine ⟨j, by omega, by go_num, ?_⟩
                rw [← HU.out, HM.out, IntWalk.u64_in ((d.toNat : Int) % 128) ⟨by omega, by omega⟩, Int.natCast_emod]
                rfl
              case measure => simp [intOf]
            · obtain rfl : m = 0 := by omega
              go_wp2
              go_ret3
              exact ⟨by rw [HT.out]; rfl, rfl⟩
        · subst g
          have hcell1 : w.cell? ⟨b, off, none⟩ = some (.int .u8 (c0.toNat : Int)) := hcell0
          clear hcell0
          go_wp2
          go_loop [6, 7] (fun n i => ∃ m : Nat, m ≤ 0 + 1 ∧ i = .int .i64 ((m : Int) - 1) ∧ n = .int .u64 ((val ((bs.take (0 + 1)).drop m) : Nat) : Int)) (fun _ i => (intOf i + 1).toNat)
          case atStart => exact ⟨0 + 1, Nat.le_refl _, by go_num, by rw [val_drop_all]; rfl⟩
          case round =>
            obtain ⟨m, hm, rfl, rfl⟩ := hrel
            by_cases h0 : 0 < m
            · obtain ⟨j, rfl⟩ : ∃ j, m = j + 1 := ⟨m - 1, by omega⟩
              obtain ⟨d, hd⟩ : ∃ d, bs[j]? = some d := ⟨_, List.getElem?_eq_getElem (by omega)⟩
              have hcell := H2.out j d hd
              have hu := UInt8.toNat_lt d
              unfold encU at hcell
              have HU := Lib.hid (or_down HEJ.out HSn.out (by omega) hd)
              have HM := Lib.hid (mask7 (c := (d.toNat : Int)) (by omega) (by omega))
              clear hd
              go_wp2
              go_round
              case rel =>
                refine ⟨j, by omega, by go_num, ?_⟩
                rw [← HU.out, HM.out, IntWalk.u64_in ((d.toNat : Int) % 128) ⟨by omega, by omega⟩, Int.natCast_emod]
                rfl
              case measure => simp [intOf]
            · obtain rfl : m = 0 := by omega
              go_wp2
              go_ret3
              exact ⟨by rw [HT.out]; rfl, rfl⟩
        · have hne := Bool.eq_false_iff.2 (mt beq_iff_eq.1 (show ¬ (c0.toNat : Int) = 0 by omega))
          go_wp2
          go_loop [6, 7] (fun n i => ∃ m : Nat, m ≤ k + 1 ∧ i = .int .i64 ((m : Int) - 1) ∧ n = .int .u64 ((val ((bs.take (k + 1)).drop m) : Nat) : Int)) (fun _ i => (intOf i + 1).toNat)
          case atStart => exact ⟨k + 1, Nat.le_refl _, by go_num, by rw [val_drop_all]; rfl⟩
          case round =>
            obtain ⟨m, hm, rfl, rfl⟩ := hrel
            by_cases h0 : 0 < m
            · obtain ⟨j, rfl⟩ : ∃ j, m = j + 1 := ⟨m - 1, by omega⟩
              obtain ⟨d, hd⟩ : ∃ d, bs[j]? = some d := ⟨_, List.getElem?_eq_getElem (by omega)⟩
              have hcell := H2.out j d hd
              have hu := UInt8.toNat_lt d
              unfold encU at hcell
              have HU := Lib.hid (or_down HEJ.out HSn.out (by omega) hd)
              have HM := Lib.hid (mask7 (c := (d.toNat : Int)) (by omega) (by omega))
              clear hd
              go_wp2
              go_round
              case rel =>
                refine ⟨j, by omega, by go_num, ?_⟩
                rw [← HU.out, HM.out, IntWalk.u64_in ((d.toNat : Int) % 128) ⟨by omega, by omega⟩, Int.natCast_emod]
                rfl
              case measure => simp [intOf]
            · obtain rfl : m = 0 := by omega
              go_wp2
              go_ret3
              exact ⟨by rw [HT.out]; rfl, rfl⟩
end Go.Proofs.Ytllpohacomknfaa
