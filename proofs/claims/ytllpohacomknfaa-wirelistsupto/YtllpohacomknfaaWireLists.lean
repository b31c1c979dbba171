/- WireLists' walk. -/
import Derived.Test.YtllpohacomknfaaWlB
namespace Go.Proofs.Ytllpohacomknfaa
open Go.RowKit Go.Shelf
set_option linter.unusedVariables false
set_option linter.unusedSimpArgs false

set_option maxRecDepth 100000 in
set_option maxHeartbeats 4000000 in
theorem wireLists_walk (bs : List UInt8) (ls : List (List UInt8)) (hb : bs.length ≤ 1048576) (htot : tot ls ≤ 20971520) (hll : ls.length ≤ 1048576) (hls : ∀ s ∈ ls, s.length ≤ 1048576) (most : Int) (h1 : -9223372036854775808 ≤ most) (h2 : most ≤ 9223372036854775807) (v u : Value) (vals : List Value) (w : World) (hv : RB w v bs) (hu : RV w u vals) (hr : RL w vals ls) :
    Calls Try.prog 5 #[v, .int .i64 most, u] w (Yes w) := by
  obtain ⟨a, c, e1, hc, hn0⟩ := hv.form
  obtain ⟨a2, c2, e2, hc2, hn2⟩ := hu.form
  have hvl := hr.1
  subst e1
  have HC : Hid (∀ q x, vals[q]? = some x → ∃ b off, a2 = some ⟨b, off, none⟩ ∧ w.cell? ⟨b, off + q, none⟩ = some x) := fun q x hx => by
    rcases hu with ⟨_, _, _, rfl, _⟩ | ⟨b, off, cap, e3, _, h3⟩
    · simp at hx
    · rw [e3] at e2
      cases e2
      exact ⟨b, off, rfl, h3 q x hx⟩
  subst e2
  rw [hvl] at hc2 ⊢
  have HV := Lib.hid hv
  have HU := Lib.hid hu
  have HR := Lib.hid hr
  have HL := Lib.hid hvl
  have HLS := Lib.hid hls
  rw [hvl] at HU
  clear hn0 hn2 hv hu hr hvl hls
  by_cases hbig : 2000 < bs.length
  · go_enter Try.func5, Try.ntmps5
    go_wp2_with (go_at_call 18; refine (awake18 _).mono ?_; rintro e w6 ⟨rfl, hB6⟩)
    go_ret
    exact ⟨rfl, hB6⟩
  by_cases hbig2 : 50 < ls.length
  · go_enter Try.func5, Try.ntmps5
    go_wp2_with (go_at_call 18; refine (awake18 _).mono ?_; rintro e w6 ⟨rfl, hB6⟩)
    go_ret
    exact ⟨rfl, hB6⟩
  rcases tk_cases bs with ⟨n, k, h, hn, hk, hkl⟩ | h | h
  · by_cases hm : most < 0 ∨ most < (n : Int)
    · exact wl_many bs ls (by omega) htot (by omega) HLS most h1 h2 a a2 c c2 vals w hc hc2 HL HV HU HR HC h hm
    · exact wl_go bs ls (by omega) htot (by omega) HLS most h1 h2 a a2 c c2 vals w hc hc2 HL HV HU HR HC h (by omega) (by omega) hkl
  · exact wl_err bs ls (by omega) htot (by omega) HLS most h1 h2 a a2 c c2 vals w hc hc2 HL HV HU HR HC h (by decide)
  · exact wl_err bs ls (by omega) htot (by omega) HLS most h1 h2 a a2 c c2 vals w hc hc2 HL HV HU HR HC h (by decide)
end Go.Proofs.Ytllpohacomknfaa
