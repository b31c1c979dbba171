/- ShaBack, ShaPieces, ShaApart: the walks. -/
import Derived.Test.YtjohaokdfgkdjaaDoorAwake
namespace Go.Proofs.YtjohaokdfgkdjaaDoor
open Go.RowKit Go.Shelf
set_option linter.unusedVariables false
set_option linter.unusedSimpArgs false

theorem guard24 : Tryd.prog.eqGuardType Tryd.prog.depth 24 = false := by kernel_rfl
theorem parse_hex (ds : List UInt8) (h : ds.length = 32) : parseOk (hexL ds) = true ∧ parseV (hexL ds) = ds := by
  have h1 : parseOk (hexL ds) = true := by
    simp only [parseOk, Bool.and_eq_true, decide_eq_true_eq, List.all_eq_true]
    exact ⟨by rw [hexL_length, h], hexL_isD ds⟩
  exact ⟨h1, by rw [parseV, if_pos h1, unhex_hexL]⟩

set_option maxRecDepth 100000 in
set_option maxHeartbeats 800000 in
theorem shaBack_walk (ds : List UInt8) (hds : ds.length = 32) (v : Value) (w0 : World) (hT : Tab w0) : Calls Tryd.prog 7 #[.agg (ds.map encB).toArray, v] w0 fun e w' => e = .returned (.bool true) ∧ Below w0.heap.size w0 w' := by
  have hl32 : (ds.map encB).length = 32 := by rw [List.length_map, hds]
  have hp := parse_hex ds hds
  refine calls_fs 42 [(0, .agg (ds.map encB).toArray), (1, v)] Tryd.func7 rfl rfl rfl rfl rfl fun a hF => ?_
  refine wp_rs fun K1 hK1 => ?_
  refine s_box (ds.map encB) hF (by decide) rfl rfl fun w1 b2 a e2 m2 B1 z1 hF => ?_
  refine s_val hF (x_assign rfl) (by decide) fun a hF => ?_
  refine s_end (hK1 _ _ ?_)
  refine wp_rs fun K2 hK2 => ?_
  refine s_val hF (x_load rfl (m_loadW (by rw [hl32]; exact wide24) m2)) (by decide) fun a hF => ?_
  refine s_call1 (R := fun v w' => v = .string ⟨(hexL ds).toArray⟩ ∧ Below w1.heap.size w1 w') hF (enters_of Tryd.func10 (by kernel_rfl) rfl) rfl (by decide) ((hex10 ds hds w1).mono fun e w' h => ⟨_, h.1, rfl, h.2⟩) ?_
  rintro _ w2 a ⟨rfl, B2⟩ hF
  refine s_call1 (R := fun v w' => v = .tuple #[.agg ((parseV (hexL ds)).map encB).toArray, .bool (parseOk (hexL ds))] ∧ Below w2.heap.size w2 w') hF (enters_of Tryd.func14 (by kernel_rfl) rfl) rfl (by decide) ((parse14 (hexL ds) w2).mono fun e w' h => ⟨_, h.1, rfl, h.2⟩) ?_
  rintro _ w3 a ⟨rfl, B3⟩ hF
  rw [hp.1, hp.2] at hF
  refine s_val hF (x_move rfl) (by decide) fun a hF => ?_
  refine s_val hF (x_ext rfl rfl) (by decide) fun a hF => ?_
  refine s_val hF (x_ext rfl rfl) (by decide) fun a hF => ?_
  refine s_alloc hF (by decide) zero24 fun w4 b5 a e5 m5 B4 z4 hF => ?_
  refine s_putW hF rfl rfl (by rw [hl32]; exact size_wide wide24) m5 (by rw [hl32]; rfl) (oneB _) fun w5 m5 o5 => ?_
  have hB3 := B1.trans ((B2.trans (B3.mono B2.size)).mono (by omega))
  have hB5 := (hB3.trans (B4.mono hB3.size)).trans (o5.below (by have := hB3.size; omega))
  have s2 := B2.size
  have s3 := B3.size
  have m2 := (((m2.old B2).old B3).old B4).only o5 (by omega)
  refine s_val hF (x_assign rfl) (by decide) fun a hF => ?_
  refine s_end (hK2 _ _ ?_)
  refine wp_rs fun K3 hK3 => ?_
  refine s_val hF (x_assign rfl) (by decide) fun a hF => ?_
  refine s_end (hK3 _ _ ?_)
  refine wp_rs fun K4 hK4 => ?_
  refine s_val hF (x_move rfl) (by decide) fun a hF => ?_
  refine s_val hF (x_move rfl) (by decide) fun a hF => ?_
  refine s_call2 (R := fun v w' => w' = w5) hF (enters_of Tryd.func16 (by kernel_rfl) rfl) rfl rfl (by decide) ((write16n _ w5).mono fun e w' h => ⟨_, h.1, h.2⟩) ?_
  rintro v6 _ a rfl hF
  refine s_end (hK4 _ _ ?_)
  refine wp_rs fun K5 hK5 => ?_
  refine s_val hF (x_move rfl) (by decide) fun a hF => ?_
  refine s_val hF (x_move rfl) (by decide) fun a hF => ?_
  refine s_grd 18 hF rfl rfl rfl ?_
  refine s_val hF (x_load rfl (m_loadW (by rw [hl32]; exact wide24) m5)) (by decide) fun a hF => ?_
  refine s_grd 18 hF rfl rfl rfl ?_
  refine s_val hF (x_load rfl (m_loadW (by rw [hl32]; exact wide24) m2)) (by decide) fun a hF => ?_
  refine s_grd 18 hF rfl rfl rfl ?_
  refine s_val hF (x_eqA (b := true) under24 Tryd.underlying5 flat5 guard24 hds hds (by simp) rfl rfl) (by decide) fun a hF => ?_
  refine s_val hF (x_pick rfl rfl) (by decide) fun a hF => ?_
  refine s_val hF (x_move rfl) (by decide) fun a hF => ?_
  refine s_grd 23 hF rfl rfl rfl ?_
  refine s_val hF (x_move rfl) (by decide) fun a hF => ?_
  refine s_grd 23 hF rfl rfl rfl ?_
  refine s_call1 (R := fun v w' => v = .int .i64 0 ∧ w' = _) hF (enters_of Tryd.func17 (by kernel_rfl) rfl) rfl (by decide) ((len17n _).mono fun e w' h => ⟨_, h.1, rfl, h.2⟩) ?_
  rintro _ _ a ⟨rfl, rfl⟩ hF
  refine s_grd 23 hF rfl rfl rfl ?_
  refine s_val hF (x_eql (b := true) (decide_eq_true rfl) rfl rfl) (by decide) fun a hF => ?_
  refine s_val hF (x_pick rfl rfl) (by decide) fun a hF => ?_
  refine s_val hF (x_move rfl) (by decide) fun a hF => ?_
  refine s_grd 28 hF rfl rfl rfl ?_
  refine s_val hF (x_move rfl) (by decide) fun a hF => ?_
  refine s_grd 28 hF rfl rfl rfl ?_
  refine s_call1 (R := fun v w' => v = .agg ((List.replicate 32 (0 : UInt8)).map encB).toArray ∧ Below (World.heap _).size _ w') hF (enters_of Tryd.func18 (by kernel_rfl) rfl) rfl (by decide) ((sum18n _).mono fun e w' h => ⟨_, h.1, rfl, h.2⟩) ?_
  rintro _ w7 a ⟨rfl, B7⟩ hF
  have hB7 := hB5.trans (B7.mono hB5.size)
  refine s_grd 28 hF rfl rfl rfl ?_
  refine s_val hF (x_build (parts := []) (vs := []) rfl (built24 _)) (by decide) fun a hF => ?_
  refine s_grd 28 hF rfl rfl rfl ?_
  refine s_val hF (x_eqA (b := true) under24 Tryd.underlying5 flat5 guard24 rfl rfl (by simp) rfl rfl) (by decide) fun a hF => ?_
  refine s_val hF (x_pick rfl rfl) (by decide) fun a hF => ?_
  refine s_val hF (x_move rfl) (by decide) fun a hF => ?_
  refine s_grd 34 hF rfl rfl rfl ?_
  refine s_lit [97, 98, 99] hF (by decide) rfl Tryd.underlying22 (size_flat flat5) zero5 rfl (by decide) (by decide) fun w8 b8 a e8 m8 B8 z8 hF => ?_
  refine s_grd 34 hF rfl rfl rfl ?_
  refine s_mark (bs := [97, 98, 99]) (b8 + 1) hF (by decide) rfl m8 (by omega) fun w9 a hR o9 hF => ?_
  have hB8 := hB7.trans (B8.mono hB7.size)
  have hB9 : Below w0.heap.size w0 w9 := hB8.trans (o9.below (by have := hB7.size; omega))
  refine s_grd 34 hF rfl rfl rfl ?_
  refine s_call1 (R := fun v w' => v = .agg ((shaL kTab [97, 98, 99]).map encB).toArray ∧ Below w9.heap.size w9 w') hF (enters_of Tryd.func9 (by kernel_rfl) rfl) rfl (by decide) ((sum9 (b8 + 1) [97, 98, 99] _ w9 hR (hT.old hB9) (by decide)).mono fun e w' h => ⟨_, h.1, rfl, h.2⟩) ?_
  rintro _ w10 a ⟨rfl, B10⟩ hF
  refine s_grd 34 hF rfl rfl rfl ?_
  refine s_call1 (R := fun v w' => v = .string ⟨(hexL (shaL kTab [97, 98, 99])).toArray⟩ ∧ Below w10.heap.size w10 w') hF (enters_of Tryd.func10 (by kernel_rfl) rfl) rfl (by decide) ((hex10 (shaL kTab [97, 98, 99]) (shaL_length _ _) w10).mono fun e w' h => ⟨_, h.1, rfl, h.2⟩) ?_
  rintro _ w11 a ⟨rfl, B11⟩ hF
  refine s_grd 34 hF rfl rfl rfl ?_
  refine s_val hF (x_slice (vlo := none) (vhi := some (.int .i64 4)) (vmx := none) rfl rfl rfl rfl (m_sliceS 4 Tryd.underlying9 rfl (by rw [hexSize _ (shaL_length _ _)]; decide))) (by decide) fun a hF => ?_
  refine s_grd 34 hF rfl rfl rfl ?_
  refine s_val hF (x_eqT abc4 rfl rfl) (by decide) fun a hF => ?_
  refine s_val hF (x_pick rfl rfl) (by decide) fun a hF => ?_
  refine s_val hF (x_assign rfl) (by decide) fun a hF => ?_
  refine s_end (hK5 _ _ ?_)
  have hB10 := hB9.trans (B10.mono hB9.size)
  refine wp_ret (res_slot hF rfl rfl ⟨rfl, hB10.trans (B11.mono hB10.size)⟩)

/-- A slice of values that came in. -/
def RV (W : World) (v : Value) (vals : List Value) : Prop :=
  (∃ a c, v = .slice a 0 c ∧ vals = [] ∧ (a = none → c = 0)) ∨
  ∃ b off cap, v = .slice (some ⟨b, off, none⟩) vals.length cap ∧ vals.length ≤ cap ∧ b < W.heap.size ∧ ∀ j u, vals[j]? = some u → W.cell? ⟨b, off + j, none⟩ = some u
/-- A slice of slices of bytes that came in. -/
def RM (W : World) (v : Value) (ls : List (List UInt8)) : Prop := ∃ vals, RV W v vals ∧ vals.length = ls.length ∧ ∀ (i : Nat) u l, vals[i]? = some u → ls[i]? = some l → RB W.heap.size W u l
theorem RM.form {W : World} {v : Value} {ls : List (List UInt8)} (h : RM W v ls) : ∃ a c, v = .slice a ls.length c := by
  obtain ⟨vals, hv, hl, _⟩ := h
  rcases hv with ⟨a, c, rfl, rfl, _⟩ | ⟨b, off, cap, rfl, _⟩
  · exact ⟨a, c, by rw [← hl]; rfl⟩
  · exact ⟨_, cap, by rw [hl]⟩
/-- One of its rows, in whatever later world. -/
theorem RM.row {W : World} {v : Value} {ls : List (List UInt8)} (h : RM W v ls) {i : Nat} (hi : i < ls.length) :
    ∃ b off c u, v = .slice (some ⟨b, off, none⟩) ls.length c ∧ ∀ W', Below W.heap.size W W' → W'.cell? ⟨b, off + i, none⟩ = some u ∧ ∀ ex, W.heap.size ≤ ex → RB ex W' u (ls.getD i []) := by
  obtain ⟨vals, hv, hl, hr⟩ := h
  rcases hv with ⟨a, c, rfl, rfl, _⟩ | ⟨b, off, cap, rfl, _, hb, hc⟩
  · simp at hl; omega
  · obtain ⟨u, hu⟩ : ∃ u, vals[i]? = some u := ⟨_, List.getElem?_eq_getElem (by omega)⟩
    exact ⟨b, off, cap, u, by rw [hl], fun W' hB => ⟨(hB.cell (p := ⟨b, off + i, none⟩) hb).trans (hc i u hu), fun ex hx => ((hr i u _ hu (getD_get ls i [] hi)).young hx).below hB⟩⟩
theorem flat22 : Flat Tryd.prog 22 = true := by kernel_rfl

set_option maxRecDepth 100000 in
set_option maxHeartbeats 800000 in
theorem shaPieces_walk (ls : List (List UInt8)) (hls : ls.length ≤ 9223372036854775807) (v : Value) (w0 : World) (hM : RM w0 v ls) (hp : ∀ l ∈ ls, l.length ≤ 9223372036854775807) (hT : Tab w0) : Calls Tryd.prog 6 #[v] w0 fun e w' => e = .returned (.bool true) ∧ Below w0.heap.size w0 w' := by
  obtain ⟨av, cv, rfl⟩ := hM.form
  have h0 := hT.lt
  refine calls_fs 51 [(0, .slice av ls.length cv)] Tryd.func6 rfl rfl rfl rfl rfl fun a hF => ?_
  refine wp_rs fun K1 hK1 => ?_
  refine s_val hF (x_assign rfl) (by decide) fun a hF => ?_
  refine s_end (hK1 _ _ ?_)
  refine wp_rs fun K2 hK2 => ?_
  refine s_call0 (R := fun v w' => ∃ bh, v = .pointer (some ⟨bh, 0, none⟩) ∧ bh = w0.heap.size ∧ HR w' bh [] ∧ Below w0.heap.size w0 w') hF (enters_of Tryd.func15 (by kernel_rfl) rfl) (by decide) ((new15 w0).mono fun e w' h => by obtain ⟨b, h1, h2⟩ := h; exact ⟨_, h1, b, rfl, h2⟩) ?_
  rintro _ w1 a ⟨bh, rfl, ebh, hH, hB⟩ hF
  refine s_val hF (x_assign rfl) (by decide) fun a hF => ?_
  refine s_end (hK2 _ _ ?_)
  refine wp_seq_k fun K3 hK3 => ?_
  refine wp_rs fun K4 hK4 => ?_
  refine s_val hF (x_move rfl) (by decide) fun a hF => ?_
  refine s_val hF (x_ptr Tryd.underlying35 rfl rfl) (by decide) fun a hF => ?_
  refine s_end (hK4 _ _ ?_)
  refine wp_if hF rfl ?_

  refine wp_skip (hK3 _ _ ?_)
  refine wp_rs fun K5 hK5 => ?_
  refine s_val hF (x_assign rfl) (by decide) fun a hF => ?_
  refine s_end (hK5 _ _ ?_)
  refine wp_seq_k fun K6 hK6 => ?_
  have key6 : ∀ a w msg v, HR w bh msg → Own w0.heap.size w v msg → Below w0.heap.size w0 w → msg.length ≤ 3600 → Fs 51 a [(3, .pointer (some ⟨bh, 0, none⟩)), (4, v)] → K6 a w := by
    clear hH hB hF
    intro a w msg v hH hO hB hml hF
    have hTw := hT.old hB
    refine hK6 _ _ ?_
    refine wp_rs fun K7 hK7 => ?_
    refine s_val hF (x_move rfl) (by decide) fun a hF => ?_
    refine s_call1 (R := fun v w' => v = .agg ((shaL kTab (msg)).map encB).toArray ∧ Below (World.heap w).size w w') hF (enters_of Tryd.func18 (by kernel_rfl) rfl) rfl (by decide) ((sum18 bh (msg) w hH hTw (by omega)).mono fun e w' h => ⟨_, h.1, rfl, h.2⟩) ?_
    rintro _ wa a ⟨rfl, Bwa⟩ hF
    refine s_val hF (x_move rfl) (by decide) fun a hF => ?_
    refine s_call1 (R := fun v w' => v = .agg ((shaL kTab (msg)).map encB).toArray ∧ Below (World.heap wa).size wa w') hF (enters_of Tryd.func9 (by kernel_rfl) rfl) rfl (by decide) ((sum9 _ (msg) _ wa ((hO.below Bwa).rb (ex := wa.heap.size) (fun e => by have := ((hO.below Bwa).block_lt e).2; omega)) (hTw.old Bwa) (by omega)).mono fun e w' h => ⟨_, h.1, rfl, h.2⟩) ?_
    rintro _ wb a ⟨rfl, Bwb⟩ hF
    refine s_val hF (x_eqA (b := true) under24 Tryd.underlying5 flat5 guard24 (shaL_length _ _) (shaL_length _ _) (by simp) rfl rfl) (by decide) fun a hF => ?_
    refine s_val hF (x_move rfl) (by decide) fun a hF => ?_
    refine s_grd 48 hF rfl rfl rfl ?_
    refine s_call0 (R := fun v w' => v = .bool true ∧ Below wb.heap.size wb w') hF (enters_of Tryd.func13 (by kernel_rfl) rfl) (by decide) ((awake13 wb ((hTw.old Bwa).old Bwb)).mono fun e w' h => ⟨_, h.1, rfl, h.2⟩) ?_
    rintro _ wc a ⟨rfl, Bwc⟩ hF
    refine s_val hF (x_pick rfl rfl) (by decide) fun a hF => ?_
    refine s_val hF (x_assign rfl) (by decide) fun a hF => ?_
    refine s_end (hK7 _ _ ?_)
    have hBa := hB.trans (Bwa.mono hB.size)
    have hBb := hBa.trans (Bwb.mono hBa.size)
    refine wp_ret (res_slot hF rfl rfl ⟨rfl, hBb.trans (Bwc.mono hBb.size)⟩)
  refine wp_rs fun K8 hK8 => ?_
  refine s_val hF (x_move rfl) (by decide) fun a hF => ?_
  refine s_val hF (x_len Tryd.underlying34 rfl) (by decide) fun a hF => ?_
  refine s_val hF (x_move rfl) (by decide) fun a hF => ?_
  refine s_end (hK8 _ _ ?_)
  refine wp_block ?_
  refine wp_up ls.length (fun k a w => ∃ msg vv, HR w bh msg ∧ Own w0.heap.size w vv msg ∧ Below w0.heap.size w0 w ∧ msg.length ≤ 300 * k ∧ k ≤ 12 ∧ Fs 51 a [(12, .int .i64 (k : Int)), (11, .int .i64 (ls.length : Int)), (10, .slice av ls.length cv), (3, .pointer (some ⟨bh, 0, none⟩)), (4, vv)]) ⟨[], .slice none 0 0, hH, Own.nil _ _, hB, by simp, by omega, hF.sub _ rfl⟩ ?_
  clear hH hF hB
  rintro k a w hk ⟨msg, vv, hH, hO, hB, hml, hk12, hF⟩ K' hK'
  have hTw := hT.old hB
  refine wp_rs fun K9 hK9 => ?_
  refine s_val hF (x_lss rfl rfl rfl) (by decide) fun a hF => ?_
  refine s_end (hK9 _ _ ?_)
  refine wp_seq_k fun K10 hK10 => ?_
  refine wp_iff hF rfl (fun hc13 => ?_) (fun hc13 => ?_)
  · obtain ⟨b, off, c, u, hv, hrow⟩ := hM.row (show k < ls.length by omega)
    cases hv
    have hcu := (hrow w hB).1
    have hR := (hrow w hB).2
    obtain ⟨p, hp0⟩ : ∃ p, p = ls.getD k [] := ⟨_, rfl⟩
    rw [← hp0] at hR
    have hpl : p.length ≤ 9223372036854775807 := by rw [hp0]; exact hp _ (List.mem_of_getElem? (getD_get ls k [] (by omega)))
    obtain ⟨au, cu, rfl, _, _⟩ := (hR w0.heap.size (Nat.le_refl _)).form
    refine wp_skip (hK10 _ _ ?_)
    refine wp_seq_k fun K11 hK11 => ?_
    refine wp_block ?_
    refine wp_rs fun K12 hK12 => ?_
    refine s_val hF (x_move rfl) (by decide) fun a hF => ?_
    refine s_val hF (x_ixa rfl rfl (m_ixs k Tryd.underlying34 (size_flat flat22) rfl (by omega))) (by decide) fun a hF => ?_
    refine s_val hF (x_load rfl (m_load flat22 hcu)) (by decide) fun a hF => ?_
    refine s_val hF (x_assign rfl) (by decide) fun a hF => ?_
    refine s_val hF (x_assign rfl) (by decide) fun a hF => ?_
    refine s_end (hK12 _ _ ?_)
    refine wp_seq_k fun K13 hK13 => ?_
    by_cases h12 : 12 ≤ k
    · refine wp_rs fun K14 hK14 => ?_
      refine s_val hF (x_move rfl) (by decide) fun a hF => ?_
      refine s_val hF (x_geq (b := true) (decide_eq_true (by omega)) rfl rfl) (by decide) fun a hF => ?_
      refine s_val hF (x_move rfl) (by decide) fun a hF => ?_
      refine s_grdn 19 hF rfl rfl (by decide) fun a hF => ?_
      refine s_grdn 19 hF rfl rfl (by decide) fun a hF => ?_
      refine s_grdn 19 hF rfl rfl (by decide) fun a hF => ?_
      refine s_val hF (x_pick rfl rfl) (by decide) fun a hF => ?_
      refine s_end (hK14 _ _ ?_)
      refine wp_if hF rfl ?_
      refine wp_exit ?_
      exact key6 _ _ msg vv hH hO hB (by omega) (hF.sub _ rfl)
    · by_cases h300 : 300 < p.length
      · refine wp_rs fun K15 hK15 => ?_
        refine s_val hF (x_move rfl) (by decide) fun a hF => ?_
        refine s_val hF (x_geq (b := false) (decide_eq_false (by omega)) rfl rfl) (by decide) fun a hF => ?_
        refine s_val hF (x_move rfl) (by decide) fun a hF => ?_
        refine s_grd 19 hF rfl rfl rfl ?_
        refine s_val hF (x_move rfl) (by decide) fun a hF => ?_
        refine s_grd 19 hF rfl rfl rfl ?_
        refine s_val hF (x_len Tryd.underlying22 rfl) (by decide) fun a hF => ?_
        refine s_grd 19 hF rfl rfl rfl ?_
        refine s_val hF (x_gtr (b := true) (decide_eq_true (by omega)) rfl rfl) (by decide) fun a hF => ?_
        refine s_val hF (x_pick rfl rfl) (by decide) fun a hF => ?_
        refine s_end (hK15 _ _ ?_)
        refine wp_if hF rfl ?_
        refine wp_exit ?_
        exact key6 _ _ msg vv hH hO hB (by omega) (hF.sub _ rfl)
      · refine wp_rs fun K16 hK16 => ?_
        refine s_val hF (x_move rfl) (by decide) fun a hF => ?_
        refine s_val hF (x_geq (b := false) (decide_eq_false (by omega)) rfl rfl) (by decide) fun a hF => ?_
        refine s_val hF (x_move rfl) (by decide) fun a hF => ?_
        refine s_grd 19 hF rfl rfl rfl ?_
        refine s_val hF (x_move rfl) (by decide) fun a hF => ?_
        refine s_grd 19 hF rfl rfl rfl ?_
        refine s_val hF (x_len Tryd.underlying22 rfl) (by decide) fun a hF => ?_
        refine s_grd 19 hF rfl rfl rfl ?_
        refine s_val hF (x_gtr (b := false) (decide_eq_false (by omega)) rfl rfl) (by decide) fun a hF => ?_
        refine s_val hF (x_pick rfl rfl) (by decide) fun a hF => ?_
        refine s_end (hK16 _ _ ?_)
        refine wp_if hF rfl ?_
        refine wp_skip (hK13 _ _ ?_)
        refine wp_rs fun K17 hK17 => ?_
        refine s_val hF (x_move rfl) (by decide) fun a hF => ?_
        refine s_val hF (x_move rfl) (by decide) fun a hF => ?_
        refine s_call2 (R := fun v w' => HR w' bh (msg ++ p) ∧ Kp bh w w') hF (enters_of Tryd.func16 (by kernel_rfl) rfl) rfl rfl (by decide) ((write16 bh msg p _ w hH (hR bh (by omega)) hTw (by omega) (by omega)).mono fun e w' h => ⟨_, h.1, h.2⟩) ?_
        rintro v5 w5 a ⟨hH5, K5⟩ hF
        have hB5 := K5.young hB (by omega)
        have hO5 := hO.kp K5 (hO.neH hH)
        refine s_end (hK17 _ _ ?_)
        refine wp_rs fun K18 hK18 => ?_
        refine s_val hF (x_move rfl) (by decide) fun a hF => ?_
        refine s_val hF (x_move rfl) (by decide) fun a hF => ?_
        refine s_append hF (by decide) rfl rfl hO5 ((hR bh (by omega)).kp K5) (by omega) (Nat.le_trans (by omega) hB5.size) fun v6 w6 a hO6 G6 _ hF => ?_
        have hH6 := G6.hr hH5 (hO5.neH hH5)
        have hB6 := hB5.trans (G6.below hB5.size fun k hk => (hO5.block_lt hk).1)
        have hT6 := hT.old hB6
        have hlm : (msg ++ p).length ≤ 300 * (k + 1) := by rw [List.length_append]; omega
        obtain ⟨a6, c6, rfl⟩ := hO6.form
        refine s_val hF (x_assign rfl) (by decide) fun a hF => ?_
        refine s_end (hK18 _ _ ?_)
        refine wp_rs fun K19 hK19 => ?_
        refine s_val hF (x_move rfl) (by decide) fun a hF => ?_
        refine s_call1 (R := fun v w' => v = .int .i64 ((msg ++ p).length : Int) ∧ w' = w6) hF (enters_of Tryd.func17 (by kernel_rfl) rfl) rfl (by decide) ((len17 bh (msg ++ p) w6 hH6).mono fun e w' h => ⟨_, h.1, rfl, h.2⟩) ?_
        rintro _ _ a ⟨rfl, rfl⟩ hF
        refine s_val hF (x_move rfl) (by decide) fun a hF => ?_
        refine s_val hF (x_len Tryd.underlying22 rfl) (by decide) fun a hF => ?_
        refine s_val hF (x_neq (b := false) (decide_eq_false (by simp)) rfl rfl) (by decide) fun a hF => ?_
        refine s_val hF (x_move rfl) (by decide) fun a hF => ?_
        refine s_grd 35 hF rfl rfl rfl ?_
        refine s_val hF (x_move rfl) (by decide) fun a hF => ?_
        refine s_grd 35 hF rfl rfl rfl ?_
        refine s_call1 (R := fun v w' => v = .agg ((shaL kTab (msg ++ p)).map encB).toArray ∧ Below (World.heap _).size _ w') hF (enters_of Tryd.func18 (by kernel_rfl) rfl) rfl (by decide) ((sum18 bh (msg ++ p) _ hH6 hT6 (by omega)).mono fun e w' h => ⟨_, h.1, rfl, h.2⟩) ?_
        rintro _ w7 a ⟨rfl, Bw7⟩ hF
        refine s_grd 35 hF rfl rfl rfl ?_
        refine s_val hF (x_move rfl) (by decide) fun a hF => ?_
        refine s_grd 35 hF rfl rfl rfl ?_
        refine s_call1 (R := fun v w' => v = .agg ((shaL kTab (msg ++ p)).map encB).toArray ∧ Below (World.heap w7).size w7 w') hF (enters_of Tryd.func9 (by kernel_rfl) rfl) rfl (by decide) ((sum9 _ (msg ++ p) _ w7 ((hO6.below Bw7).rb (ex := w7.heap.size) (fun e => by have := ((hO6.below Bw7).block_lt e).2; omega)) (hT6.old Bw7) (by omega)).mono fun e w' h => ⟨_, h.1, rfl, h.2⟩) ?_
        rintro _ w8 a ⟨rfl, Bw8⟩ hF
        refine s_grd 35 hF rfl rfl rfl ?_
        refine s_val hF (x_neA (b := false) under24 Tryd.underlying5 flat5 guard24 (shaL_length _ _) (shaL_length _ _) (by simp) rfl rfl) (by decide) fun a hF => ?_
        refine s_val hF (x_pick rfl rfl) (by decide) fun a hF => ?_
        refine s_end (hK19 _ _ ?_)
        refine wp_if hF rfl ?_
        refine wp_skip (hK11 _ _ ?_)
        refine wp_region_lit ?_
        refine s_val hF (x_addn (k + 1) (by omega) (by omega) rfl rfl) (by decide) fun a hF => ?_
        refine s_val hF (x_move rfl) (by decide) fun a hF => ?_
        have hB7 := hB6.trans (Bw7.mono hB6.size)
        have hB8 := hB7.trans (Bw8.mono hB7.size)
        refine s_end (hK' _ _ (by omega) ⟨msg ++ p, _, (hH6.below Bw7).below Bw8, (hO6.below Bw7).below Bw8, hB8, hlm, by omega, hF.sub _ rfl⟩)
  · refine wp_exit ?_
    exact key6 _ _ msg vv hH hO hB (by omega) (hF.sub _ rfl)

/-- Two rows of the call's own lie apart. -/
def Apart (u v : Value) : Prop := ∀ k, u.ownBlock = some k → v.ownBlock ≠ some k
/-- What ShaApart keeps from round to round. -/
structure ApI (w0 w : World) (bx bv : Nat) (mp mq : List UInt8) (vp vq : Value) : Prop where
  hx : HR w bx mp
  hy : HR w bv mq
  op : Own w0.heap.size w vp mp
  oq : Own w0.heap.size w vq mq
  below : Below w0.heap.size w0 w
  ox : w0.heap.size ≤ bx
  oy : w0.heap.size ≤ bv
  ne : bx ≠ bv
  ap : Apart vp vq
theorem ApI.old {w0 w w' : World} {bx bv : Nat} {mp mq : List UInt8} {vp vq : Value} (h : ApI w0 w bx bv mp mq vp vq) (hB : Below w.heap.size w w') : ApI w0 w' bx bv mp mq vp vq :=
  ⟨h.hx.below hB, h.hy.below hB, h.op.below hB, h.oq.below hB, h.below.trans (hB.mono h.below.size), h.ox, h.oy, h.ne, h.ap⟩
theorem ApI.turn {w0 w : World} {bx bv : Nat} {mp mq : List UInt8} {vp vq : Value} (h : ApI w0 w bx bv mp mq vp vq) : ApI w0 w bv bx mq mp vq vp :=
  ⟨h.hy, h.hx, h.oq, h.op, h.below, h.oy, h.ox, Ne.symm h.ne, fun k hk hk' => h.ap k hk' hk⟩
/-- A piece comes to the first, and behind its row. -/
theorem ApI.write {w0 w w5 w6 : World} {bx bv : Nat} {mp mq p : List UInt8} {vp vq v6 : Value} (h : ApI w0 w bx bv mp mq vp vq) (hH5 : HR w5 bx (mp ++ p)) (K5 : Kp bx w w5) (hO6 : Own w0.heap.size w6 v6 (mp ++ p)) (G6 : Gr vp w5 w6) (N6 : ∀ k, v6.ownBlock = some k → vp.ownBlock = some k ∨ w5.heap.size ≤ k) : ApI w0 w6 bx bv (mp ++ p) mq v6 vq := by
  have hO5 := h.op.kp K5 (h.op.neH h.hx)
  have hQ5 := h.oq.kp K5 (h.oq.neH h.hx)
  have hy5 := h.hy.kp K5 (Ne.symm h.ne)
  have hB5 := K5.young h.below h.ox
  refine ⟨G6.hr hH5 (hO5.neH hH5), G6.hr hy5 (hO5.neH hy5), hO6, ?_, hB5.trans (G6.below hB5.size fun k hk => (hO5.block_lt hk).1), h.ox, h.oy, h.ne, ?_⟩
  · exact hQ5.keep fun k hk => G6.g.block k (hQ5.block_lt hk).2 (fun e => h.ap k e.symm hk)
  · intro k hk hk'
    rcases N6 k hk with e | e
    · exact h.ap k e hk'
    · have := (hQ5.block_lt hk').2
      omega

set_option maxRecDepth 100000 in
set_option maxHeartbeats 1600000 in
theorem shaApart_walk (la lb : List (List UInt8)) (hla : la.length ≤ 9223372036854775807) (hlb : lb.length ≤ 9223372036854775807) (va vb : Value) (w0 : World) (hMa : RM w0 va la) (hMb : RM w0 vb lb) (hpa : ∀ l ∈ la, l.length ≤ 9223372036854775807) (hpb : ∀ l ∈ lb, l.length ≤ 9223372036854775807) (hT : Tab w0) : Calls Tryd.prog 8 #[va, vb] w0 fun e w' => e = .returned (.bool true) ∧ Below w0.heap.size w0 w' := by
  obtain ⟨aa, ca, rfl⟩ := hMa.form
  obtain ⟨ab, cb, rfl⟩ := hMb.form
  have h0 := hT.lt
  refine calls_fs 104 [(0, .slice aa la.length ca), (1, .slice ab lb.length cb)] Tryd.func8 rfl rfl rfl rfl rfl fun a hF => ?_
  refine wp_rs fun K1 hK1 => ?_
  refine s_val hF (x_assign rfl) (by decide) fun a hF => ?_
  refine s_end (hK1 _ _ ?_)
  refine wp_rs fun K2 hK2 => ?_
  refine s_call0 (R := fun v w' => ∃ bh, v = .pointer (some ⟨bh, 0, none⟩) ∧ bh = (World.heap w0).size ∧ HR w' bh [] ∧ Below (World.heap w0).size w0 w') hF (enters_of Tryd.func15 (by kernel_rfl) rfl) (by decide) ((new15 w0).mono fun e w' h => by obtain ⟨b, h1, h2⟩ := h; exact ⟨_, h1, b, rfl, h2⟩) ?_
  rintro _ w1 a ⟨bx, rfl, ebx, hbx, Bbx⟩ hF
  refine s_call0 (R := fun v w' => ∃ bh, v = .pointer (some ⟨bh, 0, none⟩) ∧ bh = (World.heap w1).size ∧ HR w' bh [] ∧ Below (World.heap w1).size w1 w') hF (enters_of Tryd.func15 (by kernel_rfl) rfl) (by decide) ((new15 w1).mono fun e w' h => by obtain ⟨b, h1, h2⟩ := h; exact ⟨_, h1, b, rfl, h2⟩) ?_
  rintro _ w2 a ⟨bv, rfl, ebv, hbv, Bbv⟩ hF
  refine s_val hF (x_assign rfl) (by decide) fun a hF => ?_
  refine s_val hF (x_assign rfl) (by decide) fun a hF => ?_
  refine s_end (hK2 _ _ ?_)
  refine wp_seq_k fun K3 hK3 => ?_
  refine wp_rs fun K4 hK4 => ?_
  refine s_val hF (x_move rfl) (by decide) fun a hF => ?_
  refine s_val hF (x_ptr Tryd.underlying35 rfl rfl) (by decide) fun a hF => ?_
  refine s_val hF (x_move rfl) (by decide) fun a hF => ?_
  refine s_grd 14 hF rfl rfl rfl ?_
  refine s_val hF (x_move rfl) (by decide) fun a hF => ?_
  refine s_grd 14 hF rfl rfl rfl ?_
  refine s_val hF (x_ptr Tryd.underlying35 rfl rfl) (by decide) fun a hF => ?_
  refine s_val hF (x_pick rfl rfl) (by decide) fun a hF => ?_
  refine s_end (hK4 _ _ ?_)
  refine wp_if hF rfl ?_

  refine wp_skip (hK3 _ _ ?_)
  refine wp_rs fun K5 hK5 => ?_
  refine s_val hF (x_assign rfl) (by decide) fun a hF => ?_
  refine s_val hF (x_assign rfl) (by decide) fun a hF => ?_
  refine s_end (hK5 _ _ ?_)
  refine wp_seq_k fun K6 hK6 => ?_
  refine wp_rs fun K7 hK7 => ?_
  refine s_val hF (x_assign (v := .int .i64 ((0 : Nat) : Int)) rfl) (by decide) fun a hF => ?_
  refine s_end (hK7 _ _ ?_)
  refine wp_block ?_
  have hI : ApI w0 w2 bx bv [] [] (.slice none 0 0) (.slice none 0 0) := ⟨hbx.below Bbv, hbv, Own.nil _ _, Own.nil _ _, Bbx.trans (Bbv.mono Bbx.size), by omega, by have := Bbx.size; omega, by have := hbx.lt; omega, fun k hk => by cases hk⟩
  refine wp_up 8 (fun k a w => ∃ mp mq vp vq, ApI w0 w bx bv mp mq vp vq ∧ mp.length ≤ 300 * k ∧ mq.length ≤ 300 * k ∧ Fs 104 a [(9, .int .i64 (k : Int)), (0, .slice aa la.length ca), (1, .slice ab lb.length cb), (5, .pointer (some ⟨bx, 0, none⟩)), (6, .pointer (some ⟨bv, 0, none⟩)), (7, vp), (8, vq)]) ⟨[], [], _, _, hI, by simp, by simp, hF.sub _ rfl⟩ ?_
  clear hI hF hbx hbv
  rintro k a w hk ⟨mp, mq, vp, vq, hI, hml, hmq, hF⟩ K' hK'
  have hTw := hT.old hI.below
  refine wp_seq_k fun K8 hK8 => ?_
  refine wp_rs fun K9 hK9 => ?_
  refine s_val hF (x_move rfl) (by decide) fun a hF => ?_
  refine s_val hF (x_lss rfl rfl rfl) (by decide) fun a hF => ?_
  refine s_end (hK9 _ _ ?_)
  refine wp_iff hF rfl (fun hc19 => ?_) (fun hc19 => ?_)
  · refine wp_skip (hK8 _ _ ?_)
    refine wp_seq_k fun K10 hK10 => ?_
    refine wp_block ?_
    refine wp_seq_k fun K11 hK11 => ?_
    have key11 : ∀ a w mp vp, ApI w0 w bx bv mp mq vp vq → mp.length ≤ 300 * (k + 1) → Fs 104 a [(9, .int .i64 (k : Int)), (0, .slice aa la.length ca), (1, .slice ab lb.length cb), (5, .pointer (some ⟨bx, 0, none⟩)), (6, .pointer (some ⟨bv, 0, none⟩)), (7, vp), (8, vq)] → K11 a w := by
      clear hI hF hml hTw
      intro a w mp vp hI hml hF
      have hTw := hT.old hI.below
      refine hK11 _ _ ?_
      refine wp_seq_k fun K12 hK12 => ?_
      refine wp_rs fun K13 hK13 => ?_
      refine s_val hF (x_move rfl) (by decide) fun a hF => ?_
      refine s_call1 (R := fun v w' => v = .agg ((shaL kTab (mp)).map encB).toArray ∧ Below (World.heap w).size w w') hF (enters_of Tryd.func18 (by kernel_rfl) rfl) rfl (by decide) ((sum18 bx (mp) w hI.hx (hT.old hI.below) (by omega)).mono fun e w' h => ⟨_, h.1, rfl, h.2⟩) ?_
      rintro _ wa a ⟨rfl, Bwa⟩ hF
      refine s_val hF (x_move rfl) (by decide) fun a hF => ?_
      refine s_call1 (R := fun v w' => v = .agg ((shaL kTab (mp)).map encB).toArray ∧ Below (World.heap wa).size wa w') hF (enters_of Tryd.func9 (by kernel_rfl) rfl) rfl (by decide) ((sum9 _ (mp) _ wa ((hI.op.below Bwa).rb (ex := (World.heap wa).size) (fun e => by have := ((hI.op.below Bwa).block_lt e).2; omega)) ((hT.old hI.below).old Bwa) (by omega)).mono fun e w' h => ⟨_, h.1, rfl, h.2⟩) ?_
      rintro _ wb a ⟨rfl, Bwb⟩ hF
      refine s_val hF (x_neA (b := false) under24 Tryd.underlying5 flat5 guard24 (shaL_length _ _) (shaL_length _ _) (by simp) rfl rfl) (by decide) fun a hF => ?_
      refine s_end (hK13 _ _ ?_)
      refine wp_if hF rfl ?_
      refine wp_skip (hK12 _ _ ?_)
      clear hTw
      have hIw := (hI.old Bwa).old Bwb
      clear hI
      have hI := hIw
      clear hIw
      generalize wb = w at hI
      have hTw := hT.old hI.below
      by_cases hkl : k < lb.length
      · obtain ⟨b, off, c, u, hv, hrow⟩ := hMb.row hkl
        cases hv
        obtain ⟨p, hp0⟩ : ∃ p, p = lb.getD k [] := ⟨_, rfl⟩
        rw [← hp0] at hrow
        have hpl : p.length ≤ 9223372036854775807 := by rw [hp0]; exact hpb _ (List.mem_of_getElem? (getD_get lb k [] hkl))
        have hcu := (hrow w hI.below).1
        have hR := (hrow w hI.below).2
        have hcv := fun w5 h5 => (hrow w5 h5).1
        obtain ⟨au, cu, rfl, _, _⟩ := (hR w0.heap.size (Nat.le_refl _)).form
        by_cases h300 : p.length ≤ 300
        · refine wp_rs fun K14 hK14 => ?_
          refine s_val hF (x_move rfl) (by decide) fun a hF => ?_
          refine s_val hF (x_move rfl) (by decide) fun a hF => ?_
          refine s_val hF (x_len Tryd.underlying34 rfl) (by decide) fun a hF => ?_
          refine s_val hF (x_lss (b := true) (decide_eq_true (by omega)) rfl rfl) (by decide) fun a hF => ?_
          refine s_val hF (x_move rfl) (by decide) fun a hF => ?_
          refine s_grd 55 hF rfl rfl rfl ?_
          refine s_val hF (x_move rfl) (by decide) fun a hF => ?_
          refine s_grd 55 hF rfl rfl rfl ?_
          refine s_val hF (x_move rfl) (by decide) fun a hF => ?_
          refine s_grd 55 hF rfl rfl rfl ?_
          refine s_val hF (x_ixa rfl rfl (m_ixs k Tryd.underlying34 (size_flat flat22) rfl (by omega))) (by decide) fun a hF => ?_
          refine s_grd 55 hF rfl rfl rfl ?_
          refine s_val hF (x_load rfl (m_load flat22 hcu)) (by decide) fun a hF => ?_
          refine s_grd 55 hF rfl rfl rfl ?_
          refine s_val hF (x_len Tryd.underlying22 rfl) (by decide) fun a hF => ?_
          refine s_grd 55 hF rfl rfl rfl ?_
          refine s_val hF (x_leq (b := true) (decide_eq_true (by omega)) rfl rfl) (by decide) fun a hF => ?_
          refine s_val hF (x_pick rfl rfl) (by decide) fun a hF => ?_
          refine s_end (hK14 _ _ ?_)
          refine wp_if hF rfl ?_
          have hIt := hI.turn
          refine wp_rs fun K15 hK15 => ?_
          refine s_val hF (x_move rfl) (by decide) fun a hF => ?_
          refine s_val hF (x_move rfl) (by decide) fun a hF => ?_
          refine s_val hF (x_move rfl) (by decide) fun a hF => ?_
          refine s_val hF (x_ixa rfl rfl (m_ixs k Tryd.underlying34 (size_flat flat22) rfl (by omega))) (by decide) fun a hF => ?_
          refine s_val hF (x_load rfl (m_load flat22 hcu)) (by decide) fun a hF => ?_
          refine s_call2 (R := fun v w' => HR w' bv (mq ++ p) ∧ Kp bv w w') hF (enters_of Tryd.func16 (by kernel_rfl) rfl) rfl rfl (by decide) ((write16 bv mq p _ w hIt.hx (hR bv hIt.ox) hTw (by have := hIt.ox; omega) (by omega)).mono fun e w' h => ⟨_, h.1, h.2⟩) ?_
          rintro v5 w5 a ⟨hH5, K5⟩ hF
          have hO5 := hIt.op.kp K5 (hIt.op.neH hIt.hx)
          have hB5 := K5.young hIt.below hIt.ox
          have hcu5 := hcv w5 hB5
          refine s_end (hK15 _ _ ?_)
          refine wp_region_lit ?_
          refine s_val hF (x_move rfl) (by decide) fun a hF => ?_
          refine s_val hF (x_move rfl) (by decide) fun a hF => ?_
          refine s_val hF (x_move rfl) (by decide) fun a hF => ?_
          refine s_val hF (x_ixa rfl rfl (m_ixs k Tryd.underlying34 (size_flat flat22) rfl (by omega))) (by decide) fun a hF => ?_
          refine s_val hF (x_load rfl (m_load flat22 hcu5)) (by decide) fun a hF => ?_
          refine s_append hF (by decide) rfl rfl hO5 ((hR bv hIt.ox).kp K5) (by omega) hB5.size fun v6 w6 a hO6 G6 N6 hF => ?_
          have hI6 := hIt.write hH5 K5 hO6 G6 N6
          refine s_val hF (x_assign rfl) (by decide) fun a hF => ?_
          refine s_end (hK10 _ _ ?_)
          refine wp_region_lit ?_
          refine s_val hF (x_move rfl) (by decide) fun a hF => ?_
          refine s_val hF (x_addn (k + 1) (by omega) (by omega) rfl rfl) (by decide) fun a hF => ?_
          refine s_val hF (x_assign rfl) (by decide) fun a hF => ?_
          refine s_end (hK' _ _ (by omega) ⟨mp, mq ++ p, vp, _, hI6.turn, by omega, by rw [List.length_append]; omega, hF.sub _ rfl⟩)
        · refine wp_rs fun K16 hK16 => ?_
          refine s_val hF (x_move rfl) (by decide) fun a hF => ?_
          refine s_val hF (x_move rfl) (by decide) fun a hF => ?_
          refine s_val hF (x_len Tryd.underlying34 rfl) (by decide) fun a hF => ?_
          refine s_val hF (x_lss (b := true) (decide_eq_true (by omega)) rfl rfl) (by decide) fun a hF => ?_
          refine s_val hF (x_move rfl) (by decide) fun a hF => ?_
          refine s_grd 55 hF rfl rfl rfl ?_
          refine s_val hF (x_move rfl) (by decide) fun a hF => ?_
          refine s_grd 55 hF rfl rfl rfl ?_
          refine s_val hF (x_move rfl) (by decide) fun a hF => ?_
          refine s_grd 55 hF rfl rfl rfl ?_
          refine s_val hF (x_ixa rfl rfl (m_ixs k Tryd.underlying34 (size_flat flat22) rfl (by omega))) (by decide) fun a hF => ?_
          refine s_grd 55 hF rfl rfl rfl ?_
          refine s_val hF (x_load rfl (m_load flat22 hcu)) (by decide) fun a hF => ?_
          refine s_grd 55 hF rfl rfl rfl ?_
          refine s_val hF (x_len Tryd.underlying22 rfl) (by decide) fun a hF => ?_
          refine s_grd 55 hF rfl rfl rfl ?_
          refine s_val hF (x_leq (b := false) (decide_eq_false (by omega)) rfl rfl) (by decide) fun a hF => ?_
          refine s_val hF (x_pick rfl rfl) (by decide) fun a hF => ?_
          refine s_end (hK16 _ _ ?_)
          refine wp_if hF rfl ?_
          refine wp_skip (hK10 _ _ ?_)
          refine wp_region_lit ?_
          refine s_val hF (x_move rfl) (by decide) fun a hF => ?_
          refine s_val hF (x_addn (k + 1) (by omega) (by omega) rfl rfl) (by decide) fun a hF => ?_
          refine s_val hF (x_assign rfl) (by decide) fun a hF => ?_
          refine s_end (hK' _ _ (by omega) ⟨mp, mq, vp, vq, hI, by omega, by omega, hF.sub _ rfl⟩)
      · refine wp_rs fun K17 hK17 => ?_
        refine s_val hF (x_move rfl) (by decide) fun a hF => ?_
        refine s_val hF (x_move rfl) (by decide) fun a hF => ?_
        refine s_val hF (x_len Tryd.underlying34 rfl) (by decide) fun a hF => ?_
        refine s_val hF (x_lss (b := false) (decide_eq_false (by omega)) rfl rfl) (by decide) fun a hF => ?_
        refine s_val hF (x_move rfl) (by decide) fun a hF => ?_
        refine s_grdn 55 hF rfl rfl (by decide) fun a hF => ?_
        refine s_grdn 55 hF rfl rfl (by decide) fun a hF => ?_
        refine s_grdn 55 hF rfl rfl (by decide) fun a hF => ?_
        refine s_grdn 55 hF rfl rfl (by decide) fun a hF => ?_
        refine s_grdn 55 hF rfl rfl (by decide) fun a hF => ?_
        refine s_grdn 55 hF rfl rfl (by decide) fun a hF => ?_
        refine s_val hF (x_pick rfl rfl) (by decide) fun a hF => ?_
        refine s_end (hK17 _ _ ?_)
        refine wp_if hF rfl ?_
        refine wp_skip (hK10 _ _ ?_)
        refine wp_region_lit ?_
        refine s_val hF (x_move rfl) (by decide) fun a hF => ?_
        refine s_val hF (x_addn (k + 1) (by omega) (by omega) rfl rfl) (by decide) fun a hF => ?_
        refine s_val hF (x_assign rfl) (by decide) fun a hF => ?_
        refine s_end (hK' _ _ (by omega) ⟨mp, mq, vp, vq, hI, by omega, by omega, hF.sub _ rfl⟩)
    by_cases hkl : k < la.length
    · obtain ⟨b, off, c, u, hv, hrow⟩ := hMa.row hkl
      cases hv
      obtain ⟨p, hp0⟩ : ∃ p, p = la.getD k [] := ⟨_, rfl⟩
      rw [← hp0] at hrow
      have hpl : p.length ≤ 9223372036854775807 := by rw [hp0]; exact hpa _ (List.mem_of_getElem? (getD_get la k [] hkl))
      have hcu := (hrow w hI.below).1
      have hR := (hrow w hI.below).2
      have hcv := fun w5 h5 => (hrow w5 h5).1
      obtain ⟨au, cu, rfl, _, _⟩ := (hR w0.heap.size (Nat.le_refl _)).form
      by_cases h300 : p.length ≤ 300
      · refine wp_rs fun K18 hK18 => ?_
        refine s_val hF (x_move rfl) (by decide) fun a hF => ?_
        refine s_val hF (x_move rfl) (by decide) fun a hF => ?_
        refine s_val hF (x_len Tryd.underlying34 rfl) (by decide) fun a hF => ?_
        refine s_val hF (x_lss (b := true) (decide_eq_true (by omega)) rfl rfl) (by decide) fun a hF => ?_
        refine s_val hF (x_move rfl) (by decide) fun a hF => ?_
        refine s_grd 26 hF rfl rfl rfl ?_
        refine s_val hF (x_move rfl) (by decide) fun a hF => ?_
        refine s_grd 26 hF rfl rfl rfl ?_
        refine s_val hF (x_move rfl) (by decide) fun a hF => ?_
        refine s_grd 26 hF rfl rfl rfl ?_
        refine s_val hF (x_ixa rfl rfl (m_ixs k Tryd.underlying34 (size_flat flat22) rfl (by omega))) (by decide) fun a hF => ?_
        refine s_grd 26 hF rfl rfl rfl ?_
        refine s_val hF (x_load rfl (m_load flat22 hcu)) (by decide) fun a hF => ?_
        refine s_grd 26 hF rfl rfl rfl ?_
        refine s_val hF (x_len Tryd.underlying22 rfl) (by decide) fun a hF => ?_
        refine s_grd 26 hF rfl rfl rfl ?_
        refine s_val hF (x_leq (b := true) (decide_eq_true (by omega)) rfl rfl) (by decide) fun a hF => ?_
        refine s_val hF (x_pick rfl rfl) (by decide) fun a hF => ?_
        refine s_end (hK18 _ _ ?_)
        refine wp_if hF rfl ?_
        refine wp_rs fun K19 hK19 => ?_
        refine s_val hF (x_move rfl) (by decide) fun a hF => ?_
        refine s_val hF (x_move rfl) (by decide) fun a hF => ?_
        refine s_val hF (x_move rfl) (by decide) fun a hF => ?_
        refine s_val hF (x_ixa rfl rfl (m_ixs k Tryd.underlying34 (size_flat flat22) rfl (by omega))) (by decide) fun a hF => ?_
        refine s_val hF (x_load rfl (m_load flat22 hcu)) (by decide) fun a hF => ?_
        refine s_call2 (R := fun v w' => HR w' bx (mp ++ p) ∧ Kp bx w w') hF (enters_of Tryd.func16 (by kernel_rfl) rfl) rfl rfl (by decide) ((write16 bx mp p _ w hI.hx (hR bx hI.ox) hTw (by have := hI.ox; omega) (by omega)).mono fun e w' h => ⟨_, h.1, h.2⟩) ?_
        rintro v5 w5 a ⟨hH5, K5⟩ hF
        have hO5 := hI.op.kp K5 (hI.op.neH hI.hx)
        have hB5 := K5.young hI.below hI.ox
        have hcu5 := hcv w5 hB5
        refine s_end (hK19 _ _ ?_)
        refine wp_region_lit ?_
        refine s_val hF (x_move rfl) (by decide) fun a hF => ?_
        refine s_val hF (x_move rfl) (by decide) fun a hF => ?_
        refine s_val hF (x_move rfl) (by decide) fun a hF => ?_
        refine s_val hF (x_ixa rfl rfl (m_ixs k Tryd.underlying34 (size_flat flat22) rfl (by omega))) (by decide) fun a hF => ?_
        refine s_val hF (x_load rfl (m_load flat22 hcu5)) (by decide) fun a hF => ?_
        refine s_append hF (by decide) rfl rfl hO5 ((hR bx hI.ox).kp K5) (by omega) hB5.size fun v6 w6 a hO6 G6 N6 hF => ?_
        have hI6 := hI.write hH5 K5 hO6 G6 N6
        refine s_val hF (x_assign rfl) (by decide) fun a hF => ?_
        refine s_end ?_
        exact key11 _ _ _ _ hI6 (by rw [List.length_append]; omega) (hF.sub _ rfl)
      · refine wp_rs fun K20 hK20 => ?_
        refine s_val hF (x_move rfl) (by decide) fun a hF => ?_
        refine s_val hF (x_move rfl) (by decide) fun a hF => ?_
        refine s_val hF (x_len Tryd.underlying34 rfl) (by decide) fun a hF => ?_
        refine s_val hF (x_lss (b := true) (decide_eq_true (by omega)) rfl rfl) (by decide) fun a hF => ?_
        refine s_val hF (x_move rfl) (by decide) fun a hF => ?_
        refine s_grd 26 hF rfl rfl rfl ?_
        refine s_val hF (x_move rfl) (by decide) fun a hF => ?_
        refine s_grd 26 hF rfl rfl rfl ?_
        refine s_val hF (x_move rfl) (by decide) fun a hF => ?_
        refine s_grd 26 hF rfl rfl rfl ?_
        refine s_val hF (x_ixa rfl rfl (m_ixs k Tryd.underlying34 (size_flat flat22) rfl (by omega))) (by decide) fun a hF => ?_
        refine s_grd 26 hF rfl rfl rfl ?_
        refine s_val hF (x_load rfl (m_load flat22 hcu)) (by decide) fun a hF => ?_
        refine s_grd 26 hF rfl rfl rfl ?_
        refine s_val hF (x_len Tryd.underlying22 rfl) (by decide) fun a hF => ?_
        refine s_grd 26 hF rfl rfl rfl ?_
        refine s_val hF (x_leq (b := false) (decide_eq_false (by omega)) rfl rfl) (by decide) fun a hF => ?_
        refine s_val hF (x_pick rfl rfl) (by decide) fun a hF => ?_
        refine s_end (hK20 _ _ ?_)
        refine wp_if hF rfl ?_
        refine wp_skip ?_
        exact key11 _ _ _ _ hI (by omega) (hF.sub _ rfl)
    · refine wp_rs fun K21 hK21 => ?_
      refine s_val hF (x_move rfl) (by decide) fun a hF => ?_
      refine s_val hF (x_move rfl) (by decide) fun a hF => ?_
      refine s_val hF (x_len Tryd.underlying34 rfl) (by decide) fun a hF => ?_
      refine s_val hF (x_lss (b := false) (decide_eq_false (by omega)) rfl rfl) (by decide) fun a hF => ?_
      refine s_val hF (x_move rfl) (by decide) fun a hF => ?_
      refine s_grdn 26 hF rfl rfl (by decide) fun a hF => ?_
      refine s_grdn 26 hF rfl rfl (by decide) fun a hF => ?_
      refine s_grdn 26 hF rfl rfl (by decide) fun a hF => ?_
      refine s_grdn 26 hF rfl rfl (by decide) fun a hF => ?_
      refine s_grdn 26 hF rfl rfl (by decide) fun a hF => ?_
      refine s_grdn 26 hF rfl rfl (by decide) fun a hF => ?_
      refine s_val hF (x_pick rfl rfl) (by decide) fun a hF => ?_
      refine s_end (hK21 _ _ ?_)
      refine wp_if hF rfl ?_
      refine wp_skip ?_
      exact key11 _ _ _ _ hI (by omega) (hF.sub _ rfl)
  · obtain ⟨ap0, cp0, rfl⟩ := hI.op.form
    obtain ⟨aq0, cq0, rfl⟩ := hI.oq.form
    refine wp_exit (hK6 _ _ ?_)
    refine wp_rs fun K22 hK22 => ?_
    refine s_val hF (x_move rfl) (by decide) fun a hF => ?_
    refine s_call1 (R := fun v w' => v = .agg ((shaL kTab (mp)).map encB).toArray ∧ Below (World.heap w).size w w') hF (enters_of Tryd.func18 (by kernel_rfl) rfl) rfl (by decide) ((sum18 bx (mp) w hI.hx (hT.old hI.below) (by omega)).mono fun e w' h => ⟨_, h.1, rfl, h.2⟩) ?_
    rintro _ wa a ⟨rfl, Bwa⟩ hF
    refine s_val hF (x_move rfl) (by decide) fun a hF => ?_
    refine s_call1 (R := fun v w' => v = .agg ((shaL kTab (mp)).map encB).toArray ∧ Below (World.heap wa).size wa w') hF (enters_of Tryd.func9 (by kernel_rfl) rfl) rfl (by decide) ((sum9 _ (mp) _ wa ((hI.op.below Bwa).rb (ex := (World.heap wa).size) (fun e => by have := ((hI.op.below Bwa).block_lt e).2; omega)) ((hT.old hI.below).old Bwa) (by omega)).mono fun e w' h => ⟨_, h.1, rfl, h.2⟩) ?_
    rintro _ wb a ⟨rfl, Bwb⟩ hF
    refine s_val hF (x_eqA (b := true) under24 Tryd.underlying5 flat5 guard24 (shaL_length _ _) (shaL_length _ _) (by simp) rfl rfl) (by decide) fun a hF => ?_
    refine s_val hF (x_move rfl) (by decide) fun a hF => ?_
    refine s_grd 80 hF rfl rfl rfl ?_
    refine s_val hF (x_move rfl) (by decide) fun a hF => ?_
    refine s_grd 80 hF rfl rfl rfl ?_
    have hI2 := ((hI.old Bwa).old Bwb).turn
    refine s_call1 (R := fun v w' => v = .agg ((shaL kTab (mq)).map encB).toArray ∧ Below (World.heap wb).size wb w') hF (enters_of Tryd.func18 (by kernel_rfl) rfl) rfl (by decide) ((sum18 bv (mq) wb hI2.hx (hT.old hI2.below) (by omega)).mono fun e w' h => ⟨_, h.1, rfl, h.2⟩) ?_
    rintro _ wc a ⟨rfl, Bwc⟩ hF
    refine s_grd 80 hF rfl rfl rfl ?_
    refine s_val hF (x_move rfl) (by decide) fun a hF => ?_
    refine s_grd 80 hF rfl rfl rfl ?_
    refine s_call1 (R := fun v w' => v = .agg ((shaL kTab (mq)).map encB).toArray ∧ Below (World.heap wc).size wc w') hF (enters_of Tryd.func9 (by kernel_rfl) rfl) rfl (by decide) ((sum9 _ (mq) _ wc ((hI2.op.below Bwc).rb (ex := wc.heap.size) (fun e => by have := ((hI2.op.below Bwc).block_lt e).2; omega)) ((hT.old hI2.below).old Bwc) (by omega)).mono fun e w' h => ⟨_, h.1, rfl, h.2⟩) ?_
    rintro _ wd a ⟨rfl, Bwd⟩ hF
    refine s_grd 80 hF rfl rfl rfl ?_
    refine s_val hF (x_eqA (b := true) under24 Tryd.underlying5 flat5 guard24 (shaL_length _ _) (shaL_length _ _) (by simp) rfl rfl) (by decide) fun a hF => ?_
    refine s_val hF (x_pick rfl rfl) (by decide) fun a hF => ?_
    refine s_val hF (x_move rfl) (by decide) fun a hF => ?_
    refine s_grd 87 hF rfl rfl rfl ?_
    refine s_val hF (x_move rfl) (by decide) fun a hF => ?_
    refine s_grd 87 hF rfl rfl rfl ?_
    have hI3 := (hI2.old Bwc).old Bwd
    refine s_call1 (R := fun v w' => v = .int .i64 (mp.length : Int) ∧ w' = wd) hF (enters_of Tryd.func17 (by kernel_rfl) rfl) rfl (by decide) ((len17 bx mp wd hI3.hy).mono fun e w' h => ⟨_, h.1, rfl, h.2⟩) ?_
    rintro _ _ a ⟨rfl, rfl⟩ hF
    refine s_grd 87 hF rfl rfl rfl ?_
    refine s_val hF (x_move rfl) (by decide) fun a hF => ?_
    refine s_grd 87 hF rfl rfl rfl ?_
    refine s_val hF (x_len Tryd.underlying22 rfl) (by decide) fun a hF => ?_
    refine s_grd 87 hF rfl rfl rfl ?_
    refine s_val hF (x_eql (b := true) (decide_eq_true rfl) rfl rfl) (by decide) fun a hF => ?_
    refine s_val hF (x_pick rfl rfl) (by decide) fun a hF => ?_
    refine s_val hF (x_move rfl) (by decide) fun a hF => ?_
    refine s_grd 94 hF rfl rfl rfl ?_
    refine s_val hF (x_move rfl) (by decide) fun a hF => ?_
    refine s_grd 94 hF rfl rfl rfl ?_
    refine s_call1 (R := fun v w' => v = .int .i64 (mq.length : Int) ∧ w' = _) hF (enters_of Tryd.func17 (by kernel_rfl) rfl) rfl (by decide) ((len17 bv mq _ hI3.hx).mono fun e w' h => ⟨_, h.1, rfl, h.2⟩) ?_
    rintro _ _ a ⟨rfl, rfl⟩ hF
    refine s_grd 94 hF rfl rfl rfl ?_
    refine s_val hF (x_move rfl) (by decide) fun a hF => ?_
    refine s_grd 94 hF rfl rfl rfl ?_
    refine s_val hF (x_len Tryd.underlying22 rfl) (by decide) fun a hF => ?_
    refine s_grd 94 hF rfl rfl rfl ?_
    refine s_val hF (x_eql (b := true) (decide_eq_true rfl) rfl rfl) (by decide) fun a hF => ?_
    refine s_val hF (x_pick rfl rfl) (by decide) fun a hF => ?_
    refine s_val hF (x_move rfl) (by decide) fun a hF => ?_
    refine s_grd 101 hF rfl rfl rfl ?_
    refine s_call0 (R := fun v w' => v = .bool true ∧ Below (World.heap _).size _ w') hF (enters_of Tryd.func13 (by kernel_rfl) rfl) (by decide) ((awake13 _ (hT.old hI3.below)).mono fun e w' h => ⟨_, h.1, rfl, h.2⟩) ?_
    rintro _ we a ⟨rfl, Bwe⟩ hF
    refine s_val hF (x_pick rfl rfl) (by decide) fun a hF => ?_
    refine s_val hF (x_assign rfl) (by decide) fun a hF => ?_
    refine s_end (hK22 _ _ ?_)
    refine wp_ret (res_slot hF rfl rfl ⟨rfl, hI3.below.trans (Bwe.mono hI3.below.size)⟩)
end Go.Proofs.YtjohaokdfgkdjaaDoor
