/- WireRows' walk. -/
import Derived.Test.YtllpohacomknfaaPutL
import Derived.Test.YtllpohacomknfaaTakeL
namespace Go.Proofs.Ytllpohacomknfaa
open Go.RowKit
set_option linter.unusedVariables false
set_option linter.unusedSimpArgs false

theorem tot_small {ls : List (List UInt8)} (hn : ls.length ≤ 40) (h : ∀ s ∈ ls, s.length ≤ 300) : tot ls ≤ 12400 := by
  have : tot ls ≤ ls.length * 310 := by
    clear hn
    induction ls with
    | nil => simp [tot]
    | cons s t ih =>
      have := ih (fun x hx => h x (by simp [hx]))
      have := h s (by simp)
      simp only [tot, List.map_cons, List.sum_cons, List.length_cons] at *
      omega
  omega

theorem Below.drewN2 (B : Nat) (w : World) (n : Nat) : Below B w (w.drewN n) := ⟨rfl, rfl, rfl, Nat.le_refl _, fun _ _ => rfl⟩

set_option maxRecDepth 100000 in
set_option maxHeartbeats 4000000 in
theorem wireRows_walk (ls : List (List UInt8)) (hlen : ls.length ≤ 9223372036854775807) (hll : ∀ s ∈ ls, s.length ≤ 9223372036854775807) (v : Value) (vals : List Value) (w : World) (hv : RV w v vals) (hr : RL w vals ls) :
    Calls Try.prog 9 #[v] w (Yes w) := by
  have hvl := hr.1
  have HV := Lib.hid hv
  have HR := Lib.hid hr
  have HLL := Lib.hid hll
  have main : Hid (ls.length ≤ 40 → (∀ s ∈ ls, s.length ≤ 300) → ∀ W, RV W v vals → RL W vals ls →
      Calls Try.prog 28 #[.slice none 0 0, v, .func (.func 21) #[] #[]] W (Gives (pl ls) W)) := fun h1 h2 W hW hrW => by
    have := tot_small h1 h2
    have h := putl28 [] ls (by simp; omega) (by omega) (fun s hs => by have := h2 s hs; omega) (.slice none 0 0) v vals W (RB.nil W) hW hrW
    rwa [List.nil_append] at h
  clear hr hll
  obtain ⟨a, c, e1, hc, hn0⟩ := hv.form
  have HC : Hid (∀ k x, vals[k]? = some x → ∃ b off, a = some ⟨b, off, none⟩ ∧ w.cell? ⟨b, off + k, none⟩ = some x) := fun k x hx => by
    rcases hv with ⟨_, _, _, rfl, _⟩ | ⟨b, off, cap, e2, _, h2⟩
    · simp at hx
    · rw [e2] at e1
      cases e1
      exact ⟨b, off, rfl, h2 k x hx⟩
  clear hv
  subst e1
  have hvl2 : vals.length ≤ 9223372036854775807 := by omega
  have HL := Lib.hid hvl
  clear hvl hn0
  go_enter Try.func9, Try.ntmps9
  go_wp2_with fail
  go_loop [15] (fun i => ∃ k : Nat, k ≤ vals.length ∧ i = .int .i64 (k : Int) ∧ Hid (∀ j s, j < k → ls[j]? = some s → j < 40 ∧ s.length ≤ 300)) (fun i => vals.length - (intOf i).toNat)
  case atStart => exact ⟨0, Nat.zero_le _, rfl, fun j s h => by omega⟩
  case round =>
    obtain ⟨k, hk, rfl, HG⟩ := hrel
    by_cases hlt : k < vals.length
    · obtain ⟨x, hx⟩ : ∃ x, vals[k]? = some x := ⟨_, List.getElem?_eq_getElem hlt⟩
      obtain ⟨s, hs⟩ : ∃ s, ls[k]? = some s := ⟨_, List.getElem?_eq_getElem (by have := HL.out; omega)⟩
      obtain ⟨b, off, rfl, hcell⟩ := HC.out k x hx
      have hsl := HLL.out s (List.mem_of_getElem? hs)
      obtain ⟨xa, xc, e1, _, _⟩ := (HR.out.2 k x s hx hs).form
      subst e1
      have HX := Lib.hid hs
      clear hx hs main
      by_cases h40 : 40 ≤ k
      · go_wp2_with (go_at_call 18; refine (awake18 _).mono ?_; rintro e w6 ⟨rfl, hB6⟩)
        go_ret
        exact ⟨rfl, hB6⟩
      by_cases h300 : 300 < s.length
      · go_wp2_with (go_at_call 18; refine (awake18 _).mono ?_; rintro e w6 ⟨rfl, hB6⟩)
        go_ret
        exact ⟨rfl, hB6⟩
      have HG' : Hid (∀ j s, j < k + 1 → ls[j]? = some s → j < 40 ∧ s.length ≤ 300) := fun j t hj ht => by
        by_cases e : j = k
        · subst e
          rw [HX.out] at ht
          cases ht
          omega
        · exact HG.out j t (by omega) ht
      go_wp2
      go_round
      case rel => exact ⟨k + 1, by omega, by go_num, HG'⟩
      case measure => simp [intOf]; omega
    · obtain rfl : k = vals.length := by omega
      have hn40 : ls.length ≤ 40 := by
        rcases Nat.lt_or_ge 40 ls.length with h | h
        · obtain ⟨s, hs⟩ : ∃ s, ls[40]? = some s := ⟨_, List.getElem?_eq_getElem h⟩
          have := HG.out 40 s (by have := HL.out; omega) hs
          omega
        · exact h
      have h300 : ∀ s ∈ ls, s.length ≤ 300 := fun s hs => by
        obtain ⟨j, hj, e⟩ := List.getElem_of_mem hs
        exact (HG.out j s (by have := HL.out; omega) (by rw [← e]; exact List.getElem?_eq_getElem hj)).2
      have htot := tot_small hn40 h300
      have hpl1 : (pl ls).length ≤ 13000 := by
        have h1 := flat_le ls (fun s hs => by have := h300 s hs; omega)
        have h2 := dig_len10 (n := ls.length) (by omega)
        simp only [pl, List.length_append]; omega
      have hpl0 : 0 < (pl ls).length := by have := dig_pos ls.length; simp only [pl, List.length_append]; omega
      have HP := Lib.hid (main.out hn40 h300 w HV.out HR.out)
      have hbnd : ∀ s ∈ ls, (s.length : Int) ≤ 300 ∧ s.length < 2 ^ 64 := fun s hs => by have := h300 s hs; omega
      have T1 := Lib.hid (tl_pl ls 40 300 (by omega) (by omega) hbnd)
      have T2 := Lib.hid (tl_cut ls 40 300 (by omega) (by omega) hbnd)
      clear HG hbnd h300 main
      go_wp2_with fail
      refine HP.out.mono ?_
      rintro e w1 ⟨v1, rfl, ho1, hB1⟩
      have HB := Lib.hid (RB.of_row ho1)
      obtain ⟨a1, c1, e1, hc1, _⟩ := HB.out.form
      subst e1
      have H23 := Lib.hid (takel_34 (pl ls) (by omega) 40 (by decide) (by decide) _ w1 HB.out)
      rw [T1.out] at H23
      clear ho1 HP T1
      go_wp2_with fail
      refine H23.out.mono ?_
      rintro e w2 ⟨xv, xs, rfl, hrow, hro, hB2⟩
      have H27 := Lib.hid (same27 ls (by omega) xv _ xs vals w2 (RV.of_row hrow) (HV.out.below (hB1.trans (hB2.mono hB1.size))) hro.reads (HR.out.below (hB1.trans (hB2.mono hB1.size))))
      have HB2 := Lib.hid (HB.out.below hB2)
      have hBB := hB1.trans (hB2.mono hB1.size)
      clear hrow hro H23 HB hB1 hB2
      simp only
      go_wp2_with fail
      refine H27.out.mono ?_
      rintro e w' ⟨rfl, m, rfl⟩
      clear H27
      have hle : (pl ls).length - 1 ≤ (pl ls).length := by omega
      have hcut : ((pl ls).length : Int) - 1 = (((pl ls).length - 1 : Nat) : Int) := by omega
      have HC2 := Lib.hid (takel_34 ((pl ls).take ((pl ls).length - 1)) (by simp; omega) 40 (by decide) (by decide) (.slice a1 ((pl ls).length - 1) c1) (w2.drewN m) (RB.upto (show RB (w2.drewN m) _ _ from HB2.out) hle))
      rw [← List.dropLast_eq_take, T2.out] at HC2
      go_wp2_with fail
      refine HC2.out.mono ?_
      rintro e w3 ⟨yv, ys, rfl, _, _, hB3⟩
      simp only
      go_wp2_with (go_at_call 18; refine (awake18 _).mono ?_; rintro e w6 ⟨rfl, hB6⟩)
      go_ret
      exact ⟨rfl, (hBB.trans (Below.drewN2 _ _ m)).trans ((hB3.trans (hB6.mono hB3.size)).mono hBB.size)⟩
end Go.Proofs.Ytllpohacomknfaa
