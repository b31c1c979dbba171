/- wire.PutList at rows of bytes; assizeref2.SameBytes. -/
import Derived.Test.YtllpohacomknfaaRows2
import Derived.Deep.QuietTactic
import Derived.BigQuiet
namespace Go.Proofs.Ytllpohacomknfaa
open Go.RowKit
set_option linter.unusedVariables false
set_option linter.unusedSimpArgs false

set_option maxRecDepth 100000 in
set_option maxHeartbeats 2000000 in
theorem putl28 (bs : List UInt8) (ls : List (List UInt8)) (hb : bs.length + tot ls + 20 ≤ 140737488355328) (hlen : ls.length ≤ 140737488355328) (hls : ∀ s ∈ ls, s.length < 2 ^ 64) (v u : Value) (vals : List Value) (w : World) (hv : RB w v bs) (hu : RV w u vals) (hr : RL w vals ls) :
    Calls Try.prog 28 #[v, u, .func (.func 21) #[] #[]] w (Gives (bs ++ pl ls) w) := by
  have q35 := fun w => run_eql_func_nil (P := Try.prog) w 35 Try.underlying35
  have hvl := hr.1
  have HV := Lib.hid hv
  have hd := dig_len10 (n := ls.length) (by omega)
  have HR := Lib.hid hr
  have HLS := Lib.hid hls
  clear hv hr hls
  rcases hu with ⟨a, c, rfl, rfl, hn0⟩ | ⟨b, off, cap, rfl, hc1, hc2⟩
  · obtain rfl : ls = [] := List.eq_nil_of_length_eq_zero (by simpa using hvl.symm)
    have H14 : Hid (Calls Try.prog 14 #[v, .int .u64 0] w (Gives (bs ++ dig 0) w)) := put14 0 (by decide) bs (by omega) v w HV.out
    clear hvl
    go_enter Try.func28, Try.ntmps28
    go_wp2_with fail
    refine H14.out.mono ?_
    rintro e w1 ⟨v1, rfl, ho1, hB1⟩
    have HF := Lib.hid (fresh38_0 _ (by simp; simp at hd; omega) v1 w1 (RB.of_row ho1))
    clear ho1 H14
    go_wp2_with fail
    go_loopw [7, 21] (fun o i wr => o = v1 ∧ i = .int .i64 0 ∧ wr = w1) (fun _ _ _ => 0)
    case atStart => exact ⟨rfl, rfl, rfl⟩
    case round =>
      obtain ⟨rfl, rfl, rfl⟩ := hrel
      go_wp2_with fail
      refine HF.out.mono ?_
      rintro e w2 ⟨v2, rfl, ho2, hB2⟩
      go_wp2
      go_ret
      exact ⟨v2, rfl, by simpa [pl] using row_base ho2 hB1.size, hB1.trans (hB2.mono hB1.size)⟩
  · have HC := Lib.hid hc2
    have HL := Lib.hid hvl
    have hvl' : vals.length ≤ 140737488355328 := by omega
    have hcap : vals.length ≤ cap := hc1
    have H14 := Lib.hid (put14 vals.length (by omega) bs (by omega) v w HV.out)
    clear hc2 hvl hc1
    go_enter Try.func28, Try.ntmps28
    go_wp2_with fail
    refine H14.out.mono ?_
    rintro e w1 ⟨v1, rfl, ho1, hB1⟩
    have HR1 := Lib.hid (RB.of_row ho1)
    rw [HL.out] at HR1
    clear ho1 H14
    go_wp2_with fail
    go_loopw [7, 21] (fun o i wr => ∃ k : Nat, k ≤ vals.length ∧ i = .int .i64 (k : Int) ∧ RB wr o (bs ++ (dig ls.length ++ (ls.take k).flatMap pb)) ∧ Below w.heap.size w wr) (fun _ i _ => vals.length - (intOf i).toNat)
    case atStart => exact ⟨0, Nat.zero_le _, rfl, by simpa using HR1.out, hB1⟩
    case round =>
      obtain ⟨k, hk, rfl, hro, hB⟩ := hrel
      have hlen2 : ((ls.take k).flatMap pb).length ≤ tot ls := Nat.le_trans (flat_le _ (fun s hs => HLS.out s (List.mem_of_mem_take hs))) (tot_take ls k)
      by_cases hlt : k < vals.length
      · obtain ⟨x, hx⟩ : ∃ x, vals[k]? = some x := ⟨_, List.getElem?_eq_getElem hlt⟩
        obtain ⟨s, hs⟩ : ∃ s, ls[k]? = some s := ⟨_, List.getElem?_eq_getElem (by have := HL.out; omega)⟩
        have hcell := (hB.cell (p := ⟨b, off + k, none⟩) (cells_block (HC.out k x hx))).trans (HC.out k x hx)
        have HX := Lib.hid ((HR.out.2 k x s hx hs).below hB)
        obtain ⟨xa, xc, e1, _, _⟩ := HX.out.form
        subst e1
        have htot : ((ls.take (k + 1)).flatMap pb).length ≤ tot ls := Nat.le_trans (flat_le _ (fun s hs => HLS.out s (List.mem_of_mem_take hs))) (tot_take ls (k + 1))
        have hsn : ls.take (k + 1) = ls.take k ++ [s] := by rw [List.take_add_one, hs]; rfl
        have HS := Lib.hid hsn
        have hpbl : s.length ≤ (pb s).length := by simp [pb]
        have hsl : ((ls.take k).flatMap pb).length + (pb s).length ≤ tot ls := by rw [hsn] at htot; simpa using htot
        have hp1 : ((bs ++ (dig ls.length ++ (ls.take k).flatMap pb)).length + s.length + 10 ≤ 140737488355328) := by simp only [List.length_append]; omega
        have HP := Lib.hid (put21 _ s hp1 _ _ wr hro HX.out)
        clear hx hs hsn hro
        go_wp2_with fail
        refine HP.out.mono ?_
        rintro e w2 ⟨v2, rfl, ho2, hB2⟩
        have HN2 := Lib.hid (show RB w2 v2 (bs ++ (dig ls.length ++ (ls.take (k + 1)).flatMap pb)) from by
          have := RB.of_row ho2
          rw [HS.out]
          simpa [List.append_assoc] using this)
        have hBn := hB.trans (hB2.mono hB.size)
        clear ho2 HP HX hB hB2
        go_wp2
        go_roundw
        case rel => exact ⟨k + 1, by omega, by go_num, HN2.out, hBn⟩
        case measure => simp [intOf]; omega
      · obtain rfl : k = vals.length := by omega
        have htk : ls.take vals.length = ls := List.take_of_length_le (by have := HL.out; omega)
        rw [htk] at hro hlen2
        have HF := Lib.hid (fresh38_0 _ (by simp only [List.length_append]; omega) _ wr hro)
        clear hro htk
        go_wp2_with fail
        refine HF.out.mono ?_
        rintro e w2 ⟨v2, rfl, ho2, hB2⟩
        go_wp2
        go_ret
        exact ⟨v2, rfl, row_base ho2 hB.size, hB.trans (hB2.mono hB.size)⟩

/-- It answers true; the tape alone has moved. -/
def YesD (w : World) (e : Ending) (w' : World) : Prop := e = .returned (.bool true) ∧ ∃ m, w' = w.drewN m

set_option maxRecDepth 100000 in
set_option maxHeartbeats 2000000 in
theorem same27 (ls : List (List UInt8)) (hlen : ls.length ≤ 140737488355328) (v u : Value) (vs us : List Value) (w : World) (hv : RV w v vs) (hu : RV w u us) (hr : RL w vs ls) (hs : RL w us ls) :
    Calls Try.prog 27 #[v, u] w (YesD w) := by
  have hvl := hr.1
  have hul := hs.1
  have HR := Lib.hid hr
  have HS := Lib.hid hs
  clear hr hs
  by_cases h0 : ls = []
  · subst h0
    obtain rfl : vs = [] := List.eq_nil_of_length_eq_zero (by simpa using hvl)
    obtain rfl : us = [] := List.eq_nil_of_length_eq_zero (by simpa using hul)
    obtain ⟨a, c, e1, _, _⟩ := hv.form
    obtain ⟨a', c', e2, _, _⟩ := hu.form
    simp only [List.length_nil] at e1 e2
    subst e1 e2
    clear hv hu hvl hul
    go_enter Try.func27, Try.ntmps27
    go_wp2
    go_loopw [13] (fun i wr => i = .int .i64 0 ∧ wr = w) (fun _ _ => 0)
    case atStart => exact ⟨rfl, rfl⟩
    case round =>
      obtain ⟨rfl, rfl⟩ := hrel
      go_wp2
      go_ret
      exact ⟨rfl, 0, rfl⟩
  · have hpos : 0 < ls.length := List.length_pos_iff.2 h0
    rcases hv with ⟨_, _, _, rfl, _⟩ | ⟨b, off, cap, rfl, hc1, hc2⟩
    · simp at hvl; omega
    rcases hu with ⟨_, _, _, rfl, _⟩ | ⟨b', off', cap', rfl, hd1, hd2⟩
    · simp at hul; omega
    have HC := Lib.hid hc2
    have HD := Lib.hid hd2
    rw [hvl, hul]
    rw [hvl] at hc1
    rw [hul] at hd1
    have HL := Lib.hid hvl
    have HM := Lib.hid hul
    clear hc2 hd2 hvl hul h0
    go_enter Try.func27, Try.ntmps27
    go_wp2
    go_loopw [13] (fun i wr => ∃ k m : Nat, k ≤ ls.length ∧ i = .int .i64 (k : Int) ∧ wr = w.drewN m) (fun i _ => ls.length - (intOf i).toNat)
    case atStart => exact ⟨0, 0, Nat.zero_le _, rfl, rfl⟩
    case round =>
      obtain ⟨k, m, hk, rfl, rfl⟩ := hrel
      by_cases hlt : k < ls.length
      · obtain ⟨x, hx⟩ : ∃ x, vs[k]? = some x := ⟨_, List.getElem?_eq_getElem (by have := HL.out; omega)⟩
        obtain ⟨y, hy⟩ : ∃ y, us[k]? = some y := ⟨_, List.getElem?_eq_getElem (by have := HM.out; omega)⟩
        obtain ⟨s, hs⟩ : ∃ s, ls[k]? = some s := ⟨_, List.getElem?_eq_getElem hlt⟩
        have hcx := HC.out k x hx
        have hcy := HD.out k y hy
        have hbx := HR.out.2 k x s hx hs
        have hby := HS.out.2 k y s hy hs
        obtain ⟨xa, xc, e1, _, _⟩ := hbx.form
        obtain ⟨ya, yc, e2, _, _⟩ := hby.form
        subst e1 e2
        have hsx : ∀ q, (convert 22 9 (.slice xa s.length xc)).run Try.prog (w.drewN q) = .ok (.string ⟨s.toArray⟩) (w.drewN q) := fun q => (show RB (w.drewN q) _ s from hbx).str
        have hsy : ∀ q, (convert 22 9 (.slice ya s.length yc)).run Try.prog (w.drewN q) = .ok (.string ⟨s.toArray⟩) (w.drewN q) := fun q => (show RB (w.drewN q) _ s from hby).str
        have hk0 : (0 : Int) ≤ (k : Int) := Int.natCast_nonneg _
        have hk1 : (k : Int) < (ls.length : Int) := by omega
        clear hbx hby hx hy hs
        go_wp2
        go_quiet (fail)
        go_wp2
        go_roundw
        case rel => exact ⟨k + 1, _, by omega, by go_num, rfl⟩
        case measure => simp [intOf]; omega
      · go_wp2
        go_ret
        exact ⟨rfl, m, rfl⟩
end Go.Proofs.Ytllpohacomknfaa
