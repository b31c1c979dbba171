/- GenTables' walk. -/
import Derived.Test.YtikomlcghplchaaHelpT
namespace Go.Proofs.Ytikomlcghplchaa
open Go.RowKit Go.Shelf
set_option linter.unusedVariables false
set_option linter.unusedSimpArgs false

theorem wp_index {P : Program} {o : Oper} {a : Act} {w : World} {K : Act → World → Prop} {Q : Exit → Act → World → Prop} {t : TypeId} {x y : Operand} {v : Value} (ho : o.op = .indexAddr t x y) (hrun : (Instr.indexAt t (a.eval x) (a.eval y)).run P w = .ok v w) (h : K (a.put o.dst v) w) : Oper.wp P o a w K Q := by
  unfold Oper.wp
  simp [execOp, ho, hrun, Result.andThen]
  exact h
theorem wp_store {P : Program} {o : Oper} {a : Act} {w w' : World} {K : Act → World → Prop} {Q : Exit → Act → World → Prop} {t : TypeId} {x y : Operand} (ho : o.op = .store t x y) (hrun : (Instr.storeAt t (a.eval x) (a.eval y)).run P w = .ok () w') (h : K (a.put o.dst undef) w') : Oper.wp P o a w K Q := by
  unfold Oper.wp
  simp [execOp, ho, hrun, Result.andThen]
  exact h
theorem store_ad {w : World} {ad : Addr} {u : Value} {x : Int} (h1 : w.cell? ad = some u) (h2 : w.frozen? ad = false) : (Instr.storeAt 3 (.pointer (some ad)) (.int .i64 x)).run Try.prog w = .ok () (w.setCell ad (.int .i64 x)) := by
  go_simp
theorem keys_set {ks : List (ByteArray × Int)} {i : Nat} (hi : i < ks.length) {x : ByteArray} {it : Int} (hx : ks[i].1 = x) : ks.map (·.1) = (ks.take i ++ (x, it) :: ks.drop (i + 1)).map (·.1) := by
  have e : ks = ks.take i ++ ks[i] :: ks.drop (i + 1) := by simp
  rw [List.map_append, List.map_cons]
  conv => lhs; rw [e]
  rw [List.map_append, List.map_cons, hx]
theorem items_set {ks : List (ByteArray × Int)} {i : Nat} (hi : i < ks.length) {x : ByteArray} {it : Int} : (ks.map (·.2)).set i it = (ks.take i ++ (x, it) :: ks.drop (i + 1)).map (·.2) := by
  rw [List.set_eq_take_append_cons_drop, if_pos (by simpa using hi)]
  simp [List.map_take, List.map_drop]

set_option maxRecDepth 100000 in
set_option maxHeartbeats 8000000 in
theorem genTables_walk (os : List OpG) (hk : ∀ o ∈ os, o.key.size ≤ maxLen ∧ (Lit.int .i64 o.item).wf = true) (v : Value) (w : World) (hv : RO w v os) :
    Calls Try.prog 9 #[v] w fun e w' => e = .returned (.bool true) ∧ Below w.heap.size w w' := by
  obtain ⟨ao, co, rfl⟩ := hv.form
  have HV := Lib.hid hv
  clear hv
  go_enter Try.func9, Try.ntmps9
  go_wp2_with (go_at_call 41; refine (new41 w).mono ?_; rintro e w1 ⟨rfl, hT, hB⟩)
  go_loopw [4, 5, 6] (fun kv iv i wr => ∃ (k : Nat) (ks : List (ByteArray × Int)) (mm : Option Nat), i = .int .i64 (k : Int) ∧ TB w os kv iv k ks mm wr) (fun _ _ i _ => 60 - (intOf i).toNat)
  case atStart =>
    exact ⟨0, [], none, rfl, Nat.zero_le _, by omega, Nat.zero_le _, .inl ⟨_, _, rfl, rfl, fun _ => rfl⟩, World.ownsRow_nil _ _ _ _, hT, by simp, by simp [Value.ownBlock], by simp [Value.ownBlock], hB⟩
  case round =>
    obtain ⟨k, ks, mm, rfl, hh⟩ := hrel
    have HH := Lib.hid hh
    have hk1 := hh.1
    have hk2 := hh.2.1
    have hk3 := hh.2.2.1
    obtain ⟨am, cm, ai, ci, rfl, rfl⟩ := hh.form
    clear hh hT hB
    by_cases hlt : k < os.length ∧ k < 60
    · obtain ⟨hl1, hl2⟩ := hlt
      have hkx := (hk os[k] (by simp)).1
      have hwf := (hk os[k] (by simp)).2
      obtain ⟨b0, o0, hix, hdo, hkey, hitm⟩ := HV.out.three hl1
      generalize hx : os[k].key = x at hkx hkey
      generalize hit : os[k].item = it at hwf hitm
      generalize hdn : os[k].what = dn at hdo
      have Hx := Lib.hid hx
      have Hit := Lib.hid hit
      have Hwf := Lib.hid hwf
      clear hx hdn hit hwf
      have hcells : ∀ W, Below w.heap.size w W → W.cell? ⟨b0, o0, none⟩ = some (.int .i64 dn) ∧ W.cell? ⟨b0, o0 + 1, none⟩ = some (.string x) ∧ W.cell? ⟨b0, o0 + 2, none⟩ = some (.int .i64 it) := fun W hW => ⟨(hW.cell (cells_blockS hdo)).trans hdo, (hW.cell (cells_blockS hkey)).trans hkey, (hW.cell (cells_blockS hitm)).trans hitm⟩
      have hb0 : b0 < w.heap.size := cells_blockS hitm
      go_wp2_with (fail)
      go_loopw [7] (fun at' wr2 => ∃ i : Nat, at' = .int .i64 (i : Int) ∧ i ≤ ks.length ∧ (∀ p ∈ ks.take i, sl p.1 x = true) ∧ TB w os (.slice am ks.length cm) (.slice ai ks.length ci) k ks mm wr2) (fun at' _ => ks.length - (intOf at').toNat)
      case atStart => exact ⟨0, rfl, Nat.zero_le _, by simp, HH.out⟩
      case round =>
        obtain ⟨i, rfl, hi, hbef, hh2⟩ := hrel
        have H2 := Lib.hid hh2
        have hc0 := (hcells _ hh2.B).1
        have hc1 := (hcells _ hh2.B).2.1
        have hup := hh2.tab.fine.1
        clear hh2
        by_cases hik : i < ks.length
        · obtain ⟨am1, hm1, hm2⟩ := H2.out.key hik
          have hls := less_sl ks[i].1 x
          have heq := eq_sl ks[i].1 x
          generalize hy : ks[i].1 = y at hm2 hls heq
          have Hy := Lib.hid hy
          clear hy
          have hd1 : decide ((i : Int) < ks.length) = true := by simpa using hik
          cases hsl : sl y x with
          | true =>
            rw [hsl] at hls
            clear heq
            go_wp2_with (fail)
            go_quiet (fail)
            go_wp2_with (fail)
            go_roundw
            case rel => exact ⟨i + 1, by simp, by omega, next_bef hbef hik (by rw [Hy.out]; exact hsl), H2.out.below (below_drewN _ _)⟩
            case measure => simp [intOf]; omega
          | false =>
            rw [hsl] at hls
            have hat : Stands ks x i := stands_at hik hbef (by rw [Hy.out]; exact hsl)
            cases hyx : decide (y = x) with
            | true =>
              rw [hyx] at heq
              have Hhas := Lib.hid (show hasK x ks = true by rw [has_at hup hat hik, Hy.out]; exact hyx)
              have hup' := Lib.hid hup
              have hat' := Lib.hid hat
              clear hup hat hbef
              go_wp2_with (fail)
              go_quiet (fail)
              go_wp2_with (fail)
              go_quiet (fail)
              by_cases hd0 : dn = 0
              · subst hd0
                have hC : Hid (∀ q, Calls Try.prog 42 #[.pointer (some ⟨w.heap.size, 0, none⟩), .string os[k].key, .int .i64 os[k].item] (wr.drewN q).drew fun e w' => (∃ v, e = .returned v) ∧ SB w w' ∧ ∃ mm3, TH w w' (.slice am ks.length cm) (.slice ai ks.length ci) mm3 (k + 1) (ks.map (·.1)) (ks.map (·.2)) (putK x it ks)) := fun q => by
                  have h0 := H2.out.below ((below_drewN wr q).drew)
                  rw [Hx.out, Hit.out]
                  refine (put42 h0.tab (by omega) hkx Hwf.out).mono ?_
                  rintro e w' ⟨hv, hst⟩
                  obtain ⟨mm3, h3⟩ := h0.2.2.2.stored hst
                  exact ⟨hv, h3.2.2.2.2.2.2, mm3, h3⟩
                go_wp2_with (fail)
                refine draw_as (ops := regOps Try.f9 18) (by kernel_rfl) (regt18 _ rfl rfl rfl rfl ((H2.out.below ((below_drewN wr _).drew)).B) HV.out hl1 (hC.out _) ?_)
                intro y102 y103 y104 y105 y106 y107 y108 y109 y110 y111 y112 v3 w3 hR
                obtain ⟨mm3, hth⟩ := hR
                simp only [List.setIfInBounds_toArray, List.set_cons_succ, List.set_cons_zero]
                rw [hat'.out.put_old hup'.out Hhas.out] at hth
                obtain ⟨g, hai, hnn, hg1, hg2, hg3, hg4⟩ := hth.spot (j := i) (by simpa using hik)
                clear hnn
                have hc3 := (hcells _ hth.2.2.2.2.2.2).2.2
                have hh5 : TB w os (.slice am ks.length cm) (.slice ai ks.length ci) (k + 1) (ks.take i ++ (x, it) :: ks.drop (i + 1)) mm3 (w3.setCell ⟨g, i, none⟩ (.int .i64 it)) := ⟨by omega, by omega, by simp; omega, by
                  have h5 := hth.set (g := g) (cap := ci) (by simp [hai]) (j := i) (by simpa using hik) it
                  have e1 : ks.map (·.1) = (ks.take i ++ (x, it) :: ks.drop (i + 1)).map (·.1) := keys_set hik (by rw [Hy.out]; simpa using hyx)
                  have e2 : (ks.map (·.2)).set i it = (ks.take i ++ (x, it) :: ks.drop (i + 1)).map (·.2) := items_set hik
                  rw [e1, e2] at h5
                  exact h5⟩
                have hlen : (ks.take i ++ (x, it) :: ks.drop (i + 1)).length = ks.length := by simp; omega
                generalize ks.take i ++ (x, it) :: ks.drop (i + 1) = ks' at hh5 hlen
                generalize mm3 = mm5 at hh5
                have H5 := Lib.hid hh5
                clear hh5 hth
                simp only [List.length_map] at hg1
                rw [← hai] at hg1
                clear hai
                obtain ⟨ad, had⟩ : ∃ ad : Addr, ad = ⟨g, i, none⟩ := ⟨_, rfl⟩
                rw [← had] at hg1 hg2 hg3 H5
                clear had
                replace hg2 : ∃ u5, w3.cell? ad = some u5 := ⟨_, hg2⟩
                obtain ⟨u5, hg2⟩ := hg2
                have Hlen := Lib.hid hlen
                clear hlen
                go_wp2_with (go_at_call 45; refine (len45 H5.out.tab).mono ?_; rintro e w6 ⟨rfl, rfl⟩; rw [Hlen.out])
                go_roundw
                case rel => exact ⟨k + 1, ks', mm5, by simp, H5.out⟩
                case measure => simp [intOf]; omega
              · by_cases hd1 : dn = 1
                · subst hd1
                  have hC : Hid (∀ q, Calls Try.prog 43 #[.pointer (some ⟨w.heap.size, 0, none⟩), .string x] (wr.drewN q) fun e w' => e = .returned (.bool true) ∧ ∃ mm3, TH w w' (.slice am ks.length cm) (.slice ai ks.length ci) mm3 k (ks.map (·.1)) (ks.map (·.2)) (ks.take i ++ ks.drop (i + 1))) := fun q => by
                    have h0 := H2.out.below (below_drewN wr q)
                    have := del43 h0.tab hkx
                    rw [Hhas.out, hat'.out.del hup'.out Hhas.out] at this
                    refine this.mono ?_
                    rintro e w' ⟨rfl, hst⟩
                    exact ⟨rfl, h0.2.2.2.stored hst⟩
                  go_wp2_with (go_at_call 43; refine (hC.out _).mono ?_; rintro e w3 ⟨rfl, hR⟩; have HR := Lib.hid hR; clear hR)
                  obtain ⟨mm3, hth⟩ := HR.out
                  refine draw_as (ops := regOps Try.f9 27) (by kernel_rfl) (regt27 _ rfl rfl rfl (by simp; omega) hth.1 (by simpa using hik) ?_)
                  intro y167 y168 y169 y170 y171 y172 y173 y174 y175 y176 v4 w4 hrow4 hB4
                  have h4 := hth.keys hrow4 hB4
                  clear hrow4
                  simp only [List.setIfInBounds_toArray, List.set_cons_succ, List.set_cons_zero]
                  go_wp2_with (fail)
                  refine draw_as (ops := regOps Try.f9 28) (by kernel_rfl) (regt28 _ rfl rfl rfl (by simp; omega) h4.ri (by simpa using hik) ?_)
                  intro y177 y178 y179 y180 y181 y182 y183 y184 y185 y186 v5 w5 hrow5 hB5
                  have h5 := h4.items hrow5 hB5
                  clear hrow5
                  have hh5 : TB w os v4 v5 (k + 1) (ks.take i ++ ks.drop (i + 1)) mm3 w5 := ⟨by omega, by omega, by simp; omega, by
                    have e1 : (ks.map (·.1)).take i ++ (ks.map (·.1)).drop (i + 1) = (ks.take i ++ ks.drop (i + 1)).map (·.1) := by simp [List.map_take, List.map_drop]
                    have e2 : (ks.map (·.2)).take i ++ (ks.map (·.2)).drop (i + 1) = (ks.take i ++ ks.drop (i + 1)).map (·.2) := by simp [List.map_take, List.map_drop]
                    rw [e1, e2] at h5
                    exact h5.mono (by omega)⟩
                  clear h5 h4 hth hB4 hB5
                  generalize ks.take i ++ ks.drop (i + 1) = ks' at hh5
                  generalize mm3 = mm5 at hh5
                  have H5 := Lib.hid hh5
                  obtain ⟨a5, c5, a6, c6, rfl, rfl⟩ := hh5.form
                  clear hh5
                  simp only [List.setIfInBounds_toArray, List.set_cons_succ, List.set_cons_zero]
                  go_wp2_with (go_at_call 45; refine (len45 H5.out.tab).mono ?_; rintro e w6 ⟨rfl, rfl⟩)
                  go_roundw
                  case rel => exact ⟨k + 1, ks', mm5, by simp, H5.out⟩
                  case measure => simp [intOf]; omega
                · have e0 : (dn == 0) = false := by simpa using hd0
                  have e1 : (dn == 1) = false := by simpa using hd1
                  have Hz := Lib.hid (hat'.out.get hup'.out hik Hhas.out)
                  have hC : Hid (∀ q, Calls Try.prog 44 #[.pointer (some ⟨w.heap.size, 0, none⟩), .string x] (wr.drewN q) fun e w' => e = .returned (.tuple #[.int .i64 ks[i].2, .bool true]) ∧ StoredT w.heap.size mm (wr.drewN q) k ks w') := fun q => by
                    have h0 := H2.out.below (below_drewN wr q)
                    have := get44 h0.tab hkx
                    rw [Hhas.out, Hz.out] at this
                    exact this.mono fun e w1 h => ⟨h.1, h0.tab.same h.2⟩
                  go_wp2_with (first
                    | (go_at_call 44; refine (hC.out _).mono ?_; rintro e w3 ⟨rfl, hst⟩; obtain ⟨mm5, hh5⟩ := (H2.out.below (below_drewN wr _)).kept hl1 hl2 (by omega) hst; have H5 := Lib.hid hh5; clear hh5 hst; obtain ⟨p1, hp1, hq1⟩ := H5.out.item hik)
                    | (go_at_call 45; refine (len45 H5.out.tab).mono ?_; rintro e w6 ⟨rfl, rfl⟩))
                  go_roundw
                  case rel => exact ⟨k + 1, ks, mm5, by simp, H5.out⟩
                  case measure => simp [intOf]; omega
            | false =>
              rw [hyx] at heq
              have Hhas := Lib.hid (show hasK x ks = false by rw [has_at hup hat hik, Hy.out]; exact hyx)
              have hup' := Lib.hid hup
              have hat' := Lib.hid hat
              clear hup hat hbef
              go_wp2_with (fail)
              go_quiet (fail)
              go_wp2_with (fail)
              go_quiet (fail)
              by_cases hd0 : dn = 0
              · subst hd0
                have hC : Hid (∀ q, Calls Try.prog 42 #[.pointer (some ⟨w.heap.size, 0, none⟩), .string os[k].key, .int .i64 os[k].item] (wr.drewN q).drew fun e w' => (∃ v, e = .returned v) ∧ SB w w' ∧ ∃ mm3, TH w w' (.slice am ks.length cm) (.slice ai ks.length ci) mm3 (k + 1) (ks.map (·.1)) (ks.map (·.2)) (putK x it ks)) := fun q => by
                  have h0 := H2.out.below ((below_drewN wr q).drew)
                  rw [Hx.out, Hit.out]
                  refine (put42 h0.tab (by omega) hkx Hwf.out).mono ?_
                  rintro e w' ⟨hv, hst⟩
                  obtain ⟨mm3, h3⟩ := h0.2.2.2.stored hst
                  exact ⟨hv, h3.2.2.2.2.2.2, mm3, h3⟩
                go_wp2_with (fail)
                refine draw_as (ops := regOps Try.f9 18) (by kernel_rfl) (regt18 _ rfl rfl rfl rfl ((H2.out.below ((below_drewN wr _).drew)).B) HV.out hl1 (hC.out _) ?_)
                intro y102 y103 y104 y105 y106 y107 y108 y109 y110 y111 y112 v3 w3 hR
                obtain ⟨mm3, hth⟩ := hR
                simp only [List.setIfInBounds_toArray, List.set_cons_succ, List.set_cons_zero]
                rw [hat'.out.put_new hup'.out Hhas.out] at hth
                go_wp2_with (fail)
                refine draw_as (ops := regOps Try.f9 21) (by kernel_rfl) (regt21 _ rfl rfl rfl rfl rfl (by simp; omega) hth.1 (HV.out.below hth.2.2.2.2.2.2) (by simpa using hi) hl1 ?_)
                intro y123 y124 y125 y126 y127 y128 y129 y130 y131 y132 y133 y134 y135 y136 y137 y138 v4 w4 hrow4 hB4
                rw [Hx.out] at hrow4
                have h4 := hth.keys hrow4 hB4
                clear hrow4
                simp only [List.setIfInBounds_toArray, List.set_cons_succ, List.set_cons_zero]
                go_wp2_with (fail)
                refine draw_as (ops := regOps Try.f9 22) (by kernel_rfl) (regt22 _ rfl rfl rfl rfl rfl (by simp; omega) h4.ri (HV.out.below h4.2.2.2.2.2.2) (by simpa using hi) hl1 ?_)
                intro y139 y140 y141 y142 y143 y144 y145 y146 y147 y148 y149 y150 y151 y152 y153 y154 v5 w5 hrow5 hB5
                rw [Hit.out] at hrow5
                have h5 := h4.items hrow5 hB5
                clear hrow5
                have hh5 : TB w os v4 v5 (k + 1) (ks.take i ++ (x, it) :: ks.drop i) mm3 w5 := ⟨by omega, by omega, by simp; omega, by
                  have e1 : (ks.map (·.1)).take i ++ [x] ++ (ks.map (·.1)).drop i = (ks.take i ++ (x, it) :: ks.drop i).map (·.1) := by simp [List.map_take, List.map_drop]
                  have e2 : (ks.map (·.2)).take i ++ [it] ++ (ks.map (·.2)).drop i = (ks.take i ++ (x, it) :: ks.drop i).map (·.2) := by simp [List.map_take, List.map_drop]
                  rw [e1, e2] at h5
                  exact h5.mono (by omega)⟩
                clear h5 h4 hth hB4 hB5
                generalize ks.take i ++ (x, it) :: ks.drop i = ks' at hh5
                generalize mm3 = mm5 at hh5
                have H5 := Lib.hid hh5
                obtain ⟨a5, c5, a6, c6, rfl, rfl⟩ := hh5.form
                clear hh5
                simp only [List.setIfInBounds_toArray, List.set_cons_succ, List.set_cons_zero]
                go_wp2_with (go_at_call 45; refine (len45 H5.out.tab).mono ?_; rintro e w6 ⟨rfl, rfl⟩)
                go_roundw
                case rel => exact ⟨k + 1, ks', mm5, by simp, H5.out⟩
                case measure => simp [intOf]; omega
              · by_cases hd1 : dn = 1
                · subst hd1
                  have hC : Hid (∀ q, Calls Try.prog 43 #[.pointer (some ⟨w.heap.size, 0, none⟩), .string x] (wr.drewN q) fun e w' => e = .returned (.bool false) ∧ StoredT w.heap.size mm (wr.drewN q) k ks w') := fun q => by
                    have h0 := H2.out.below (below_drewN wr q)
                    have := del43 h0.tab hkx
                    rw [Hhas.out, delK_none Hhas.out] at this
                    exact this
                  go_wp2_with (first
                    | (go_at_call 43; refine (hC.out _).mono ?_; rintro e w3 ⟨rfl, hst⟩; obtain ⟨mm5, hh5⟩ := (H2.out.below (below_drewN wr _)).kept hl1 hl2 (by omega) hst; have H5 := Lib.hid hh5; clear hh5 hst)
                    | (go_at_call 45; refine (len45 H5.out.tab).mono ?_; rintro e w6 ⟨rfl, rfl⟩))
                  go_roundw
                  case rel => exact ⟨k + 1, ks, mm5, by simp, H5.out⟩
                  case measure => simp [intOf]; omega
                · have e0 : (dn == 0) = false := by simpa using hd0
                  have e1 : (dn == 1) = false := by simpa using hd1
                  have hC : Hid (∀ q, Calls Try.prog 44 #[.pointer (some ⟨w.heap.size, 0, none⟩), .string x] (wr.drewN q) fun e w' => e = .returned (.tuple #[.int .i64 0, .bool false]) ∧ StoredT w.heap.size mm (wr.drewN q) k ks w') := fun q => by
                    have h0 := H2.out.below (below_drewN wr q)
                    have := get44 h0.tab hkx
                    rw [Hhas.out, getK_none Hhas.out] at this
                    exact this.mono fun e w1 h => ⟨h.1, h0.tab.same h.2⟩
                  go_wp2_with (first
                    | (go_at_call 44; refine (hC.out _).mono ?_; rintro e w3 ⟨rfl, hst⟩; obtain ⟨mm5, hh5⟩ := (H2.out.below (below_drewN wr _)).kept hl1 hl2 (by omega) hst; have H5 := Lib.hid hh5; clear hh5 hst)
                    | (go_at_call 45; refine (len45 H5.out.tab).mono ?_; rintro e w6 ⟨rfl, rfl⟩))
                  go_roundw
                  case rel => exact ⟨k + 1, ks, mm5, by simp, H5.out⟩
                  case measure => simp [intOf]; omega
        · have hat : Stands ks x i := stands_end hi hik hbef
          have hd1 : decide ((i : Int) < ks.length) = false := by simpa using hik
          have Hhas : Hid (hasK x ks = false) := has_end hup hat hik
          have hup' := Lib.hid hup
          have hat' := Lib.hid hat
          clear hup hat hbef
          go_wp2_with (fail)
          go_quiet (fail)
          go_wp2_with (fail)
          go_quiet (fail)
          by_cases hd0 : dn = 0
          · subst hd0
            have hC : Hid (∀ q, Calls Try.prog 42 #[.pointer (some ⟨w.heap.size, 0, none⟩), .string os[k].key, .int .i64 os[k].item] (wr.drewN q).drew fun e w' => (∃ v, e = .returned v) ∧ SB w w' ∧ ∃ mm3, TH w w' (.slice am ks.length cm) (.slice ai ks.length ci) mm3 (k + 1) (ks.map (·.1)) (ks.map (·.2)) (putK x it ks)) := fun q => by
              have h0 := H2.out.below ((below_drewN wr q).drew)
              rw [Hx.out, Hit.out]
              refine (put42 h0.tab (by omega) hkx Hwf.out).mono ?_
              rintro e w' ⟨hv, hst⟩
              obtain ⟨mm3, h3⟩ := h0.2.2.2.stored hst
              exact ⟨hv, h3.2.2.2.2.2.2, mm3, h3⟩
            go_wp2_with (fail)
            refine draw_as (ops := regOps Try.f9 18) (by kernel_rfl) (regt18 _ rfl rfl rfl rfl ((H2.out.below ((below_drewN wr _).drew)).B) HV.out hl1 (hC.out _) ?_)
            intro y102 y103 y104 y105 y106 y107 y108 y109 y110 y111 y112 v3 w3 hR
            obtain ⟨mm3, hth⟩ := hR
            simp only [List.setIfInBounds_toArray, List.set_cons_succ, List.set_cons_zero]
            rw [hat'.out.put_new hup'.out Hhas.out] at hth
            go_wp2_with (fail)
            refine draw_as (ops := regOps Try.f9 21) (by kernel_rfl) (regt21 _ rfl rfl rfl rfl rfl (by simp; omega) hth.1 (HV.out.below hth.2.2.2.2.2.2) (by simpa using hi) hl1 ?_)
            intro y123 y124 y125 y126 y127 y128 y129 y130 y131 y132 y133 y134 y135 y136 y137 y138 v4 w4 hrow4 hB4
            rw [Hx.out] at hrow4
            have h4 := hth.keys hrow4 hB4
            clear hrow4
            simp only [List.setIfInBounds_toArray, List.set_cons_succ, List.set_cons_zero]
            go_wp2_with (fail)
            refine draw_as (ops := regOps Try.f9 22) (by kernel_rfl) (regt22 _ rfl rfl rfl rfl rfl (by simp; omega) h4.ri (HV.out.below h4.2.2.2.2.2.2) (by simpa using hi) hl1 ?_)
            intro y139 y140 y141 y142 y143 y144 y145 y146 y147 y148 y149 y150 y151 y152 y153 y154 v5 w5 hrow5 hB5
            rw [Hit.out] at hrow5
            have h5 := h4.items hrow5 hB5
            clear hrow5
            have hh5 : TB w os v4 v5 (k + 1) (ks.take i ++ (x, it) :: ks.drop i) mm3 w5 := ⟨by omega, by omega, by simp; omega, by
              have e1 : (ks.map (·.1)).take i ++ [x] ++ (ks.map (·.1)).drop i = (ks.take i ++ (x, it) :: ks.drop i).map (·.1) := by simp [List.map_take, List.map_drop]
              have e2 : (ks.map (·.2)).take i ++ [it] ++ (ks.map (·.2)).drop i = (ks.take i ++ (x, it) :: ks.drop i).map (·.2) := by simp [List.map_take, List.map_drop]
              rw [e1, e2] at h5
              exact h5.mono (by omega)⟩
            clear h5 h4 hth hB4 hB5
            generalize ks.take i ++ (x, it) :: ks.drop i = ks' at hh5
            generalize mm3 = mm5 at hh5
            have H5 := Lib.hid hh5
            obtain ⟨a5, c5, a6, c6, rfl, rfl⟩ := hh5.form
            clear hh5
            simp only [List.setIfInBounds_toArray, List.set_cons_succ, List.set_cons_zero]
            go_wp2_with (go_at_call 45; refine (len45 H5.out.tab).mono ?_; rintro e w6 ⟨rfl, rfl⟩)
            go_roundw
            case rel => exact ⟨k + 1, ks', mm5, by simp, H5.out⟩
            case measure => simp [intOf]; omega
          · by_cases hd1 : dn = 1
            · subst hd1
              have hC : Hid (∀ q, Calls Try.prog 43 #[.pointer (some ⟨w.heap.size, 0, none⟩), .string x] (wr.drewN q) fun e w' => e = .returned (.bool false) ∧ StoredT w.heap.size mm (wr.drewN q) k ks w') := fun q => by
                have h0 := H2.out.below (below_drewN wr q)
                have := del43 h0.tab hkx
                rw [Hhas.out, delK_none Hhas.out] at this
                exact this
              go_wp2_with (first
                | (go_at_call 43; refine (hC.out _).mono ?_; rintro e w3 ⟨rfl, hst⟩; obtain ⟨mm5, hh5⟩ := (H2.out.below (below_drewN wr _)).kept hl1 hl2 (by omega) hst; have H5 := Lib.hid hh5; clear hh5 hst)
                | (go_at_call 45; refine (len45 H5.out.tab).mono ?_; rintro e w6 ⟨rfl, rfl⟩))
              go_roundw
              case rel => exact ⟨k + 1, ks, mm5, by simp, H5.out⟩
              case measure => simp [intOf]; omega
            · have e0 : (dn == 0) = false := by simpa using hd0
              have e1 : (dn == 1) = false := by simpa using hd1
              have hC : Hid (∀ q, Calls Try.prog 44 #[.pointer (some ⟨w.heap.size, 0, none⟩), .string x] (wr.drewN q) fun e w' => e = .returned (.tuple #[.int .i64 0, .bool false]) ∧ StoredT w.heap.size mm (wr.drewN q) k ks w') := fun q => by
                have h0 := H2.out.below (below_drewN wr q)
                have := get44 h0.tab hkx
                rw [Hhas.out, getK_none Hhas.out] at this
                exact this.mono fun e w1 h => ⟨h.1, h0.tab.same h.2⟩
              go_wp2_with (first
                | (go_at_call 44; refine (hC.out _).mono ?_; rintro e w3 ⟨rfl, hst⟩; obtain ⟨mm5, hh5⟩ := (H2.out.below (below_drewN wr _)).kept hl1 hl2 (by omega) hst; have H5 := Lib.hid hh5; clear hh5 hst)
                | (go_at_call 45; refine (len45 H5.out.tab).mono ?_; rintro e w6 ⟨rfl, rfl⟩))
              go_roundw
              case rel => exact ⟨k + 1, ks, mm5, by simp, H5.out⟩
              case measure => simp [intOf]; omega
    · have hk99 : (ks.map (·.1)).take (99 : Int).toNat = ks.map (·.1) := List.take_of_length_le (by simp; omega)
      by_cases hlo : k < os.length
      · have h60 : k = 60 := by omega
        subst h60
        go_wp2_with (first
          | (go_at_call 46; refine (keys46 HH.out.tab (by omega)).mono ?_; rintro e w3 ⟨s3, C3, rfl, hs3, hB3, hC3⟩; have Hs3 := Lib.hid hs3; have HB3 := Lib.hid hB3; obtain ⟨g3, l3, rfl⟩ := hs3.func; clear hs3 hC3 hB3)
          | (go_at_call 39; refine (c39 (ks.map (·.1)) _ C3 w3 Hs3.out 99 (by decide) (by simp; omega)).mono ?_; rintro e w4 ⟨v4, rfl, hrow, hB4⟩; rw [hk99] at hrow; have hr4 := RS.of_row hrow; have HR4 := Lib.hid hr4; have HB4 := Lib.hid hB4; obtain ⟨a4, c4, hf4, _⟩ := hr4.form; simp only [List.length_map] at hf4; clear hr4 hrow hB4; subst hf4))
        have HM := Lib.hid ((HH.out.below HB3.out).below HB4.out)
        have HBF : Hid (Below w.heap.size w w4) := HM.out.B
        go_loopw [202] (fun j' wr2 => ∃ j : Nat, j' = .int .i64 (j : Int) ∧ j ≤ ks.length ∧ Below w4.heap.size w4 wr2) (fun j' _ => ks.length - (intOf j').toNat)
        case atStart => exact ⟨0, rfl, Nat.zero_le _, Below.refl _ _⟩
        case round =>
          obtain ⟨j, rfl, hj, hBj⟩ := hrel
          have HBj := Lib.hid hBj
          by_cases hjl : j < ks.length
          · obtain ⟨p1, hp1, hq1⟩ := (HM.out.below hBj).key hjl
            have hg := get_at HM.out.tab.fine.1 hjl
            have hks := (HM.out.tab.fine.2 ks[j] (by simp)).1
            have hC : Hid (∀ W, Below w4.heap.size w4 W → Calls Try.prog 44 #[.pointer (some ⟨w.heap.size, 0, none⟩), .string ks[j].1] W fun e w' => e = .returned (.tuple #[.int .i64 ks[j].2, .bool true]) ∧ Below W.heap.size W w') := fun W hW => by
              have := get44 (HM.out.below hW).tab hks
              rw [hg.1, hg.2] at this
              exact this
            have HI : Hid (∀ W, Below w4.heap.size w4 W → ∃ p2 p3 : Addr, (∀ w, (Instr.indexAt 48 (.slice a4 ks.length c4) (.int .i64 j)).run Try.prog w = .ok (.pointer (some p2)) w) ∧ W.cell? p2 = some (.string ks[j].1) ∧ (∀ w, (Instr.indexAt 22 (.slice ai ks.length ci) (.int .i64 j)).run Try.prog w = .ok (.pointer (some p3)) w) ∧ W.cell? p3 = some (.int .i64 ks[j].2)) := fun W hW => by
              obtain ⟨p2, h1, h2⟩ := (HR4.out.below hW).idx (j := j) (by simpa using hjl)
              obtain ⟨p3, h3, h4⟩ := (HM.out.below hW).item hjl
              exact ⟨p2, p3, h1, by simpa using h2, h3, h4⟩
            generalize ks[j].1 = z at hq1 hC HI hg hks
            generalize ks[j].2 = u at hC HI hg
            have hzz : (z.toList == z.toList) = true := by simp
            clear hBj hg hks
            go_wp2_with (go_at_call 44; refine (hC.out _ HBj.out).mono ?_; rintro e w6 ⟨rfl, hB6⟩; have HB6 : Hid (Below w4.heap.size w4 w6) := HBj.out.trans (hB6.mono HBj.out.size); clear hB6; obtain ⟨p2, p3, hi1, hi2, hi3, hi4⟩ := HI.out _ HB6.out)
            go_roundw
            case rel => exact ⟨j + 1, by simp, by omega, HB6.out⟩
            case measure => simp [intOf]; omega
          · clear hBj
            go_wp2_with (go_at_call 19; refine (awake19 _).mono ?_; rintro e w6 ⟨rfl, hB6⟩)
            go_ret
            exact ⟨rfl, (HBF.out.trans (HBj.out.mono HBF.out.size)).trans (hB6.mono (Nat.le_trans HBF.out.size HBj.out.size))⟩
      · have h60 : k = os.length := by omega
        subst h60
        go_wp2_with (first
          | (go_at_call 46; refine (keys46 HH.out.tab (by omega)).mono ?_; rintro e w3 ⟨s3, C3, rfl, hs3, hB3, hC3⟩; have Hs3 := Lib.hid hs3; have HB3 := Lib.hid hB3; obtain ⟨g3, l3, rfl⟩ := hs3.func; clear hs3 hC3 hB3)
          | (go_at_call 39; refine (c39 (ks.map (·.1)) _ C3 w3 Hs3.out 99 (by decide) (by simp; omega)).mono ?_; rintro e w4 ⟨v4, rfl, hrow, hB4⟩; rw [hk99] at hrow; have hr4 := RS.of_row hrow; have HR4 := Lib.hid hr4; have HB4 := Lib.hid hB4; obtain ⟨a4, c4, hf4, _⟩ := hr4.form; simp only [List.length_map] at hf4; clear hr4 hrow hB4; subst hf4))
        have HM := Lib.hid ((HH.out.below HB3.out).below HB4.out)
        have HBF : Hid (Below w.heap.size w w4) := HM.out.B
        go_loopw [202] (fun j' wr2 => ∃ j : Nat, j' = .int .i64 (j : Int) ∧ j ≤ ks.length ∧ Below w4.heap.size w4 wr2) (fun j' _ => ks.length - (intOf j').toNat)
        case atStart => exact ⟨0, rfl, Nat.zero_le _, Below.refl _ _⟩
        case round =>
          obtain ⟨j, rfl, hj, hBj⟩ := hrel
          have HBj := Lib.hid hBj
          by_cases hjl : j < ks.length
          · obtain ⟨p1, hp1, hq1⟩ := (HM.out.below hBj).key hjl
            have hg := get_at HM.out.tab.fine.1 hjl
            have hks := (HM.out.tab.fine.2 ks[j] (by simp)).1
            have hC : Hid (∀ W, Below w4.heap.size w4 W → Calls Try.prog 44 #[.pointer (some ⟨w.heap.size, 0, none⟩), .string ks[j].1] W fun e w' => e = .returned (.tuple #[.int .i64 ks[j].2, .bool true]) ∧ Below W.heap.size W w') := fun W hW => by
              have := get44 (HM.out.below hW).tab hks
              rw [hg.1, hg.2] at this
              exact this
            have HI : Hid (∀ W, Below w4.heap.size w4 W → ∃ p2 p3 : Addr, (∀ w, (Instr.indexAt 48 (.slice a4 ks.length c4) (.int .i64 j)).run Try.prog w = .ok (.pointer (some p2)) w) ∧ W.cell? p2 = some (.string ks[j].1) ∧ (∀ w, (Instr.indexAt 22 (.slice ai ks.length ci) (.int .i64 j)).run Try.prog w = .ok (.pointer (some p3)) w) ∧ W.cell? p3 = some (.int .i64 ks[j].2)) := fun W hW => by
              obtain ⟨p2, h1, h2⟩ := (HR4.out.below hW).idx (j := j) (by simpa using hjl)
              obtain ⟨p3, h3, h4⟩ := (HM.out.below hW).item hjl
              exact ⟨p2, p3, h1, by simpa using h2, h3, h4⟩
            generalize ks[j].1 = z at hq1 hC HI hg hks
            generalize ks[j].2 = u at hC HI hg
            have hzz : (z.toList == z.toList) = true := by simp
            clear hBj hg hks
            go_wp2_with (go_at_call 44; refine (hC.out _ HBj.out).mono ?_; rintro e w6 ⟨rfl, hB6⟩; have HB6 : Hid (Below w4.heap.size w4 w6) := HBj.out.trans (hB6.mono HBj.out.size); clear hB6; obtain ⟨p2, p3, hi1, hi2, hi3, hi4⟩ := HI.out _ HB6.out)
            go_roundw
            case rel => exact ⟨j + 1, by simp, by omega, HB6.out⟩
            case measure => simp [intOf]; omega
          · clear hBj
            go_wp2_with (go_at_call 19; refine (awake19 _).mono ?_; rintro e w6 ⟨rfl, hB6⟩)
            go_ret
            exact ⟨rfl, (HBF.out.trans (HBj.out.mono HBF.out.size)).trans (hB6.mono (Nat.le_trans HBF.out.size HBj.out.size))⟩
end Go.Proofs.Ytikomlcghplchaa
