/- WireOdd's walk. -/
import Derived.Test.YtllpohacomknfaaOddReg
namespace Go.Proofs.Ytllpohacomknfaa
open Go.RowKit Go.Shelf
set_option linter.unusedVariables false
set_option linter.unusedSimpArgs false

theorem cell_below {B : Nat} {W W' : World} {x : Value} (h : W.cell? ⟨B, 0, none⟩ = some x) (hB : Below W.heap.size W W') : W'.cell? ⟨B, 0, none⟩ = some x := (hB.cell (p := ⟨B, 0, none⟩) (cells_block h)).trans h

set_option maxRecDepth 100000 in
set_option maxHeartbeats 4000000 in
theorem wireOdd_walk (bs : List UInt8) (hb : bs.length + 4096 ≤ 140737488355328) (count : Int) (h1 : -9223372036854775808 ≤ count) (h2 : count ≤ 9223372036854775807) (v : Value) (w : World) (hv : RB w v bs) :
    Calls Try.prog 7 #[v, .int .i64 count] w (Yes w) := by
  obtain ⟨a, c, e1, hc, hn0⟩ := hv.form
  obtain ⟨W1, hW1⟩ : ∃ W1, w.alloc (.cells #[.int .i64 count] 3) = W1 := ⟨_, rfl⟩
  have hB1 : Below w.heap.size w W1 := by rw [← hW1]; exact (Below.refl _ _).alloc (Nat.le_refl _) _
  have hcell : W1.cell? ⟨w.heap.size, 0, none⟩ = some (.int .i64 count) := by rw [← hW1]; simp
  have HW1 := Lib.hid hW1
  have HV1 := Lib.hid (hv.below hB1)
  have H31 := Lib.hid (whole31 bs (by omega) count h1 h2 w.heap.size v W1 HV1.out hcell)
  have hl0 : bs.length ≤ 140737488355328 := by omega
  subst e1
  clear hv hn0 hW1
  have fin : Hid (∀ m, ∀ x : Int, Calls Try.prog 14 #[.slice none 0 0, .int .u64 1] (W1.drewN m) (Gives [1] (W1.drewN m))) := fun m x => by
    have := put14 1 (by decide) [] (by decide) (.slice none 0 0) (W1.drewN m) (RB.nil _)
    rw [List.nil_append, dig_lt (by decide)] at this
    exact this
  by_cases he : count = (bs.length : Int)
  all_goals
    first
      | (rw [if_pos he, if_pos he] at H31; have hne : (count != (bs.length : Int)) = false := by rw [he]; simp)
      | (rw [if_neg he, if_neg he] at H31; have hne : (count != (bs.length : Int)) = true := by simpa using he)
    have H32 : Hid (∀ (u : Value) (W : World), RB W u (1 :: bs) → W.cell? ⟨w.heap.size, 0, none⟩ = some (.int .i64 count) → Calls Try.prog 32 #[u, .int .i64 5, .func (.func 30) #[] #[.pointer (some ⟨w.heap.size, 0, none⟩)]] W fun e w' => (∃ x y, e = .returned (.tuple #[x, y, .int .i64 (oddE count bs.length)])) ∧ Below W.heap.size W w') := fun u W hu hcl => take32 bs hb count h1 h2 w.heap.size u W hu hcl
    unfold oddF at H31
    clear he
    go_enter Try.func7, Try.ntmps7
    go_wp2_with fail
    rw [HW1.out]
    refine H31.out.mono ?_
    rintro e w' ⟨rfl, m, rfl⟩
    clear H31
    go_wp2_with (first | (go_at_call 32; refine (take32_nil _ _ _ _).mono ?_; rintro e w' ⟨rfl, rfl⟩) | (go_at_call 31; refine (whole31_nil _ _ _ _).mono ?_; rintro e w' ⟨rfl, rfl⟩) | fail)
    refine (fin.out m 0).mono ?_
    rintro e w5 ⟨v5, rfl, ho5, hB5⟩
    have hBd0 : Below W1.heap.size W1 (W1.drewN m) := ⟨rfl, rfl, rfl, Nat.le_refl _, fun _ _ => rfl⟩
    have hBd : Below W1.heap.size W1 w5 := hBd0.trans (show Below W1.heap.size (W1.drewN m) w5 from hB5)
    have HV5 := Lib.hid (HV1.out.below hBd)
    have hl5 : ([1] : List UInt8).length + bs.length ≤ 140737488355328 := by simp; omega
    have hbase5 : (W1.drewN m).heap.size ≤ w5.heap.size := hB5.size
    clear fin
    go_wp2_with (at_builtin; refine wpList_append_rb rfl _ _ rfl (W1.drewN m).heap.size _ [1] rfl ho5 _ bs rfl HV5.out hl5 hbase5 ?_; intro v6 w6 ho6 hB6)
    have hB6' : Below W1.heap.size W1 w6 := hBd.trans (show Below W1.heap.size w5 w6 from hB6)
    have hc6 := cell_below hcell hB6'
    refine (H32.out v6 w6 (RB.of_row ho6) hc6).mono ?_
    rintro e w7 ⟨⟨x, y, rfl⟩, hB7⟩
    have hc7 := Lib.hid (cell_below hc6 hB7)
    have HV7 := Lib.hid ((HV1.out.below hB6').below hB7)
    have HBw := Lib.hid ((hB1.trans (hB6'.mono hB1.size)).trans (hB7.mono (Nat.le_trans hB1.size hB6'.size)))
    clear ho5 hB5 hBd HV5 ho6 hB6 hB6' hc6 hB7 H32 hcell HV1
    rcases (show count < 1 ∨ (1 ≤ count ∧ (bs.length : Int) < count) ∨ (1 ≤ count ∧ count ≤ (bs.length : Int)) by omega) with hcn | ⟨hcn, hcm⟩ | ⟨hcn, hcm⟩
    · rw [show oddE count bs.length = 4 from if_neg (by omega)]
      go_wp2_with fail
      refine draw_as (ops := regOps Try.f7 12) (by kernel_rfl) ?_
      refine draw_start (K := Tells 99 4 w7) (S := S0 w7) (N := 40) (by kernel_rfl) (by kernel_rfl) ?_ ?_
      · intro a w' hT
        go_wp2
        exact bodyPost_ret (v := .bool true) (by simp [results, Try.results7, hT.1.slot 4 _ rfl]) hT.1.defers ⟨rfl, HBw.out.trans (hT.2.mono HBw.out.size)⟩
      · exact wo_low bs hb count hcn w.heap.size a c w7 _ (Fr.of_list rfl rfl (by kernel_rfl)) HV7.out hc7.out
    · rw [show oddE count bs.length = 4 from if_neg (by omega)]
      go_wp2_with fail
      refine draw_as (ops := regOps Try.f7 12) (by kernel_rfl) ?_
      refine draw_start (K := Tells 99 4 w7) (S := S0 w7) (N := 40) (by kernel_rfl) (by kernel_rfl) ?_ ?_
      · intro a w' hT
        go_wp2
        exact bodyPost_ret (v := .bool true) (by simp [results, Try.results7, hT.1.slot 4 _ rfl]) hT.1.defers ⟨rfl, HBw.out.trans (hT.2.mono HBw.out.size)⟩
      · exact wo_high bs hb count hcn hcm w.heap.size a c w7 _ (Fr.of_list rfl rfl (by kernel_rfl)) HV7.out hc7.out
    · rw [show oddE count bs.length = 0 from if_pos ⟨hcn, hcm⟩]
      go_wp2_with fail
      refine draw_as (ops := regOps Try.f7 12) (by kernel_rfl) ?_
      refine draw_start (K := Tells 99 4 w7) (S := S0 w7) (N := 40) (by kernel_rfl) (by kernel_rfl) ?_ ?_
      · intro a w' hT
        go_wp2
        exact bodyPost_ret (v := .bool true) (by simp [results, Try.results7, hT.1.slot 4 _ rfl]) hT.1.defers ⟨rfl, HBw.out.trans (hT.2.mono HBw.out.size)⟩
      · exact wo_ok bs hb count hcn hcm w.heap.size a c w7 _ (Fr.of_list rfl rfl (by kernel_rfl)) HV7.out hc7.out
end Go.Proofs.Ytllpohacomknfaa
