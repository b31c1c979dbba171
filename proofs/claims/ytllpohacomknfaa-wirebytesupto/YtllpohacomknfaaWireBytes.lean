/- WireBytes' walk. -/
import Derived.Test.YtllpohacomknfaaWbReg
import Derived.Test.YtllpohacomknfaaTakeB
namespace Go.Proofs.Ytllpohacomknfaa
open Go.RowKit Go.Shelf
set_option linter.unusedVariables false
set_option linter.unusedSimpArgs false

set_option maxRecDepth 100000 in
set_option maxHeartbeats 2000000 in
theorem wireBytes_walk (bs s : List UInt8) (hb : bs.length + s.length + 4096 ≤ 140737488355328) (most : Int) (h1 : -9223372036854775808 ≤ most) (h2 : most ≤ 9223372036854775807) (v u : Value) (w : World) (hv : RB w v bs) (hu : RB w u s) :
    Calls Try.prog 4 #[v, u, .int .i64 most] w (Yes w) := by
  have T19 := Lib.hid (tb19 bs (by omega) most h1 h2 v w hv)
  have T20 : Hid (∀ W, RB W v bs → Calls Try.prog 20 #[v, .int .i64 most] W (GivesT (tb bs most) W)) := fun W h => tb20 bs (by omega) most h1 h2 v W h
  have HV := Lib.hid hv
  have HU := Lib.hid hu
  clear hv hu
  obtain ⟨r, hr⟩ : ∃ r, tb bs most = r := ⟨_, rfl⟩
  rw [hr] at T19 T20
  clear hr
  go_enter Try.func4, Try.ntmps4
  go_wp2_with fail
  refine T19.out.mono ?_
  rintro e w1 ⟨xv, rfl, hox, hB1⟩
  go_wp2_with fail
  refine (T20.out w1 (HV.out.below hB1)).mono ?_
  rintro e w2 ⟨yv, rfl, hoy, hB2⟩
  go_wp2_with fail
  refine draw_as (ops := regOps Try.f4 3) (by kernel_rfl) ?_
  refine draw_start (K := Tells 58 6 w2) (S := S0 w2) (N := 32) (by kernel_rfl) (by kernel_rfl) ?_ ?_
  · intro a w' hT
    go_wp2
    exact bodyPost_ret (v := .bool true) (by simp [results, Try.results4, hT.1.slot 6 _ rfl]) hT.1.defers ⟨rfl, hB1.trans ((hB2.trans (hT.2.mono hB2.size)).mono hB1.size)⟩
  · have hBB := hB1.trans (hB2.mono hB1.size)
    exact wb_pre bs s hb r.1 (r.2.1 : Int) (r.2.2 : Int) v u xv yv w2 _ (Fr.of_list rfl rfl (by kernel_rfl)) (HV.out.below hBB) (HU.out.below hBB) ((RB.of_row hox).below hB2) (RB.of_row hoy)
end Go.Proofs.Ytllpohacomknfaa
