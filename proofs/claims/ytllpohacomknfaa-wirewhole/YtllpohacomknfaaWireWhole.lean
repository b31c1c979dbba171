/- WireWhole's walk. -/
import Derived.Test.YtllpohacomknfaaWhole
namespace Go.Proofs.Ytllpohacomknfaa
open Go.RowKit
set_option linter.unusedVariables false
set_option linter.unusedSimpArgs false

set_option maxRecDepth 100000 in
set_option maxHeartbeats 2000000 in
theorem wireWhole_walk (bs : List UInt8) (hb : bs.length + 4096 ≤ 140737488355328) (v : Value) (w : World) (hv : RB w v bs) :
    Calls Try.prog 6 #[v] w (Yes w) := by
  have hl : bs.length ≤ 140737488355328 := by omega
  obtain ⟨a, c, e1, hc, hn0⟩ := hv.form
  subst e1
  have HV := Lib.hid hv
  have HW := Lib.hid (whole29 bs hl _ w hv)
  clear hv hn0
  have hle := (tb_le bs 5).1
  have H20 : Hid (∀ W, RB W (.slice a bs.length c) bs → Calls Try.prog 20 #[.slice a bs.length c, .int .i64 5] W (GivesT (tb bs 5) W)) := fun W h => tb20 bs hl 5 (by decide) (by decide) _ W h
  have hz : (tb bs 5).2.2 ≠ 0 → (tb bs 5).1 = [] ∧ (tb bs 5).2.1 = 0 := tb_zero
  obtain ⟨r, hr⟩ : ∃ r, tb bs 5 = r := ⟨_, rfl⟩
  rw [hr] at HW H20 hle hz
  obtain ⟨out, k, e⟩ := r
  simp only at hle hz
  clear hr
  by_cases he : e = 0
  · subst he
    clear hz
    by_cases hk : k = bs.length
    · subst hk
      have HX := Lib.hid (show wh (out, bs.length, 0) bs.length = (out, 0) from by simp [wh])
      rw [HX.out] at HW
      clear HX
      go_enter Try.func6, Try.ntmps6
      go_wp2_with fail
      refine HW.out.mono ?_
      rintro e w1 ⟨v1, rfl, ho1, hB1⟩
      go_wp2_with fail
      refine (H20.out _ (HV.out.below hB1)).mono ?_
      rintro e w2 ⟨v2, rfl, ho2, hB2⟩
      have hs1 := ((RB.of_row ho1).below hB2).str
      have hs2 := (RB.of_row ho2).str
      simp only at hs1 hs2
      clear ho1 ho2
      go_wp2_with (go_at_call 18; refine (awake18 _).mono ?_; rintro e w3 ⟨rfl, hB3⟩)
      go_ret
      exact ⟨rfl, hB1.trans ((hB2.trans (hB3.mono hB2.size)).mono hB1.size)⟩
    · have HX := Lib.hid (show wh (out, k, 0) bs.length = ([], 4) from by simp [wh, hk])
      rw [HX.out] at HW
      have hlt : k < bs.length := by omega
      clear HX hk
      go_enter Try.func6, Try.ntmps6
      go_wp2_with fail
      refine HW.out.mono ?_
      rintro e w1 ⟨v1, rfl, ho1, hB1⟩
      go_wp2_with fail
      refine (H20.out _ (HV.out.below hB1)).mono ?_
      rintro e w2 ⟨v2, rfl, ho2, hB2⟩
      obtain ⟨a1, c1, e1, _, _⟩ := (RB.of_row ho1).form
      simp only [List.length_nil] at e1
      subst e1
      clear ho1 ho2
      go_wp2_with (go_at_call 18; refine (awake18 _).mono ?_; rintro e w3 ⟨rfl, hB3⟩)
      go_ret
      exact ⟨rfl, hB1.trans ((hB2.trans (hB3.mono hB2.size)).mono hB1.size)⟩
  · have HX := Lib.hid (show wh (out, k, e) bs.length = ([], e) from by simp [wh, he])
    rw [HX.out] at HW
    have hne : ((e : Int) != 0) = true := by simp; omega
    have heq : ((e : Int) == 0) = false := by simp; omega
    obtain ⟨rfl, rfl⟩ := hz he
    clear HX he hz
    go_enter Try.func6, Try.ntmps6
    go_wp2_with fail
    refine HW.out.mono ?_
    rintro e w1 ⟨v1, rfl, ho1, hB1⟩
    go_wp2_with fail
    refine (H20.out _ (HV.out.below hB1)).mono ?_
    rintro e w2 ⟨v2, rfl, ho2, hB2⟩
    obtain ⟨a1, c1, e1, _, _⟩ := (RB.of_row ho1).form
    simp only [List.length_nil] at e1
    subst e1
    clear ho1 ho2
    go_wp2_with (go_at_call 18; refine (awake18 _).mono ?_; rintro e w3 ⟨rfl, hB3⟩)
    go_ret
    exact ⟨rfl, hB1.trans ((hB2.trans (hB3.mono hB2.size)).mono hB1.size)⟩
end Go.Proofs.Ytllpohacomknfaa
