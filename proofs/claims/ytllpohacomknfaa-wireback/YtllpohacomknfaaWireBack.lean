/- WireBack's walk. -/
import Derived.Test.YtllpohacomknfaaApp
import Derived.Deep.QuietTactic
import Derived.BigQuiet
import Derived.Deep.RegionWith
namespace Go.Proofs.Ytllpohacomknfaa
open Go.RowKit
set_option linter.unusedVariables false
set_option linter.unusedSimpArgs false

theorem Below.drewN' (B : Nat) (w : World) (n : Nat) : Below B w (w.drewN n) := ⟨rfl, rfl, rfl, Nat.le_refl _, fun _ _ => rfl⟩

theorem RB.drew {W : World} {v : Value} {bs : List UInt8} (h : RB W v bs) : RB W.drew v bs := h

set_option maxRecDepth 100000 in
set_option maxHeartbeats 12000000 in
theorem wireBack_walk (n : Nat) (hn : n < 2 ^ 64) (i : Int) (h1 : -9223372036854775808 ≤ i) (h2 : i ≤ 9223372036854775807) (bs : List UInt8) (hb : bs.length + 4096 ≤ 140737488355328) (v : Value) (w : World) (hv : RB w v bs) :
    Calls Try.prog 8 #[.int .u64 (n : Int), .int .i64 i, v] w (Yes w) := by
  have hd := dig_len10 hn
  have HP := Lib.hid (put14 n hn [] (by decide) (.slice none 0 0) w (RB.nil w))
  rw [List.nil_append] at HP
  have HV := Lib.hid hv
  clear hv
  go_enter Try.func8, Try.ntmps8
  go_wp2_with fail
  refine HP.out.mono ?_
  rintro e w1 ⟨v1, rfl, ho1, hB1⟩
  have HR1 := Lib.hid (RB.of_row ho1)
  have HV1 := Lib.hid (HV.out.below hB1)
  clear ho1
  go_wp2_with (first
    | (at_builtin; refine wpList_append_rb rfl (.tmp 24) (.tmp 25) rfl w1.heap.size _ _ rfl (empty_row w1 (Nat.le_refl _)) v1 (dig n) rfl (HR1.out.below ((Below.refl _ _).alloc (Nat.le_refl _) _)) (by simp; omega) (by simp) ?_; intro v2 w2 ho2 hB2; have hB2' := Below.trans ((Below.refl w1.heap.size w1).alloc (Nat.le_refl _) _) hB2; simp only [List.nil_append] at ho2)
    | (at_builtin; refine wpList_append_rb rfl (.tmp 26) (.tmp 27) rfl w1.heap.size _ _ rfl ho2 v bs rfl (HV1.out.below hB2') (by omega) hB2'.size ?_; intro v3 w3 ho3 hB3; have hB3' := hB2'.trans hB3))
  have H10 := Lib.hid (take10' (tk_dig hn bs) (by simp; omega) v3 w3 (RB.of_row ho3))
  have HR3 := Lib.hid (HR1.out.below hB3')
  have HV3 := Lib.hid (HV1.out.below hB3')
  have HB3 := Lib.hid (hB1.trans (hB3'.mono hB1.size))
  clear ho3 hB3 ho2 hB2 hB2' hB3' HR1 HV1 hB1
  refine H10.out.mono ?_
  rintro e w' ⟨rfl, rfl⟩
  go_wp2_with fail
  have HP2 := Lib.hid (puti16 i h1 h2 [] (by decide) (.slice none 0 0) w3 (RB.nil w3))
  rw [List.nil_append] at HP2
  refine HP2.out.mono ?_
  rintro e w4 ⟨v4, rfl, ho4, hB4⟩
  have hu := usg_lt h1 h2
  have H12 := Lib.hid (tint12 (dig (usg i)) (by have := dig_len10 hu; omega) v4 w4 (RB.of_row ho4))
  have e4 := tk_dig hu []
  rw [List.append_nil] at e4
  rw [e4] at H12
  simp only [TiE, sgn_usg] at H12
  have HR4 := Lib.hid (HR3.out.below hB4)
  have HV4 := Lib.hid (HV3.out.below hB4)
  have HB4 := Lib.hid (HB3.out.trans (hB4.mono HB3.out.size))
  clear ho4 hB4 e4 HR3 HV3 HB3 HP2 H10 HP
  go_wp2_with fail
  refine H12.out.mono ?_
  rintro e w' ⟨rfl, rfl⟩
  clear H12
  obtain ⟨a1, c1, e1, hc1, _⟩ := HR4.out.form
  have HL := Lib.hid hd
  subst e1
  go_wp2_with fail
  go_loop [64] (fun t => ∃ k : Nat, k ≤ (dig n).length ∧ t = .int .i64 (k : Int)) (fun t => (dig n).length - (intOf t).toNat)
  case atStart => exact ⟨0, Nat.zero_le _, rfl⟩
  case round =>
    obtain ⟨k, hk, rfl⟩ := hrel
    by_cases hlt : k < (dig n).length
    · have H10 := Lib.hid (take10' (tk_cut hlt) (by simp; omega) (.slice a1 k c1) w4 (HR4.out.upto hk))
      go_wp2_with (go_at_call 10; refine H10.out.mono ?_; rintro e w' ⟨rfl, rfl⟩)
      go_round
      case rel => exact ⟨k + 1, by omega, by go_num⟩
      case measure => simp [intOf]; omega
    · clear HR4
      have hbl : bs.length ≤ 140737488355328 := by omega
      rcases tk_cases bs with ⟨m, q, h, hm, hq, hql⟩ | h | h
      · have H10 := Lib.hid (take10' h hbl v w4 HV4.out)
        have HD := Lib.hid (dig_tk (bs := bs) (by rw [h]))
        rw [h] at HD
        simp only at HD
        have HP4 : Hid (∀ W : World, Calls Try.prog 14 #[.slice none 0 0, .int .u64 (m : Int)] W (Gives (bs.take q) W)) := fun W => by
          have := put14 m hm [] (by decide) (.slice none 0 0) W (RB.nil W)
          rw [List.nil_append, HD.out] at this
          exact this
        obtain ⟨a, c, e1, hc, _⟩ := HV4.out.form
        have HRq := Lib.hid ((e1 ▸ HV4.out : RB w4 (.slice a bs.length c) bs).upto hql)
        subst e1
        have hqc : q ≤ c := by omega
        have hs0 := (RB.drew HRq.out).str
        clear h
        go_wp2_with (go_at_call 10; refine H10.out.mono ?_; rintro e w' ⟨rfl, rfl⟩)
        go_region_with (go_at_call 14; refine (HP4.out _).mono ?_; rintro e w5 ⟨v5, rfl, ho5, hB5⟩; have hs5 := (RB.of_row ho5).str; have hs6 := (RB.below (RB.drew HRq.out) hB5).str; have hB5' := HB4.out.trans (Below.trans (Below.drew (Below.refl w.heap.size w4)) (hB5.mono HB4.out.size)))
        all_goals
          go_wp2_with (go_at_call 18; refine (awake18 _).mono ?_; rintro e w6 ⟨rfl, hB6⟩)
          go_ret
          exact ⟨rfl, hB5'.trans (hB6.mono hB5'.size)⟩
      all_goals
        have H10 := Lib.hid (take10' h hbl v w4 HV4.out)
        clear h
        go_wp2_with (go_at_call 10; refine H10.out.mono ?_; rintro e w' ⟨rfl, rfl⟩)
        go_quiet (fail)
        go_wp2_with fail
        refine (awake18 _).mono ?_
        rintro e w5 ⟨rfl, hB5⟩
        go_wp2
        go_ret
        exact ⟨rfl, HB4.out.trans (Below.trans (Below.drewN' _ _ _) (hB5.mono HB4.out.size))⟩
end Go.Proofs.Ytllpohacomknfaa
