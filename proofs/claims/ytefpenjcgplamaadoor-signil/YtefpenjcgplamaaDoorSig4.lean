/- SigLedgers. -/
import Derived.Test.YtefpenjcgplamaaDoorSig3
namespace Go.Proofs.YtefpenjcgplamaaDoor
open Go.RowKit Go.Shelf
set_option linter.unusedVariables false
set_option linter.unusedSimpArgs false

/-- A slice of bools. -/
def RO (W : World) (v : Value) (zs : List Bool) : Prop := Rd W v 1 zs.length (zs.map Value.bool)
section
variable {W W' : World} {v : Value} {zs : List Bool}
theorem RO.form (h : RO W v zs) : ∃ a c, v = .slice a zs.length c ∧ zs.length ≤ c := by
  obtain ⟨a, c, h1, h2, _⟩ := Rd.form h
  exact ⟨a, c, h1, h2⟩
theorem RO.below (h : RO W v zs) (hB : Below W.heap.size W W') : RO W' v zs := Rd.below h hB
theorem RO.some (h : RO W v zs) (hn : 0 < zs.length) : ∃ b off c, v = .slice (some ⟨b, off, none⟩) zs.length c ∧ b < W.heap.size := Rd.some h hn
theorem RO.load {b off N c : Nat} {n : Nat} {l : List (Nat × Value)} {x : Operand} {u : Bool} (h : RO W (.slice (Option.some ⟨b, off, none⟩) N c) zs) {j : Nat} (hj : zs[j]? = Option.some u) (hx : ov l x = Option.some (.pointer (Option.some ⟨b, off + j, none⟩))) : Runs Tryd.prog n l W (.load 4 x) (.bool u) :=
  x_load hx (m_load flat4 (Rd.cell h (by rw [List.getElem?_map, hj]; rfl)))
end
theorem x_neB {P : Program} {n : Nat} {l : List (Nat × Value)} {w : World} {t t' : TypeId} {x y : Operand} {p q b : Bool} (ht : P.underlying t = some .bool) (h : (!(p == q)) = b) (hx : ov l x = some (.bool p)) (hy : ov l y = some (.bool q)) : Runs P n l w (.binOp .neq t x y t') (.bool b) :=
  x_bin hx hy fun W => ⟨by simp [eqGuard], by
    subst h
    have h := fun d => run_equalIn_bool' (P := P) W d t p q ht
    have h := h 9999
    simp only [binOp, Op.equal, Op.maxDepth]
    simp [h]⟩
/-- The four ways of i in the list of those to issue. -/
theorem ways (bs : List Bool) (i : Nat) : (∃ u, bs[i]? = some u ∧ i < bs.length) ∨ bs.length ≤ i := by
  rcases Nat.lt_or_ge i bs.length with h | h
  · exact .inl ⟨_, List.getElem?_eq_getElem h, h⟩
  · exact .inr h
/-- What the law holds: the ledger and its own list. -/
structure LI (w0 w : World) (g : Nat) (m : Option Nat) (ss : List Sg) (v : Value) : Prop where
  lg : LG w g m ss
  yg : Yg w0.heap.size m
  own : w.ownsRow w0.heap.size 26 33 v ss.length (ss.flatMap sigL)
  good : ∀ s ∈ ss, goodS s
  below : Below w0.heap.size w0 w
theorem LI.rg {w0 w : World} {g : Nat} {m : Option Nat} {ss : List Sg} {v : Value} (h : LI w0 w g m ss v) : RG w v ss := ⟨Rd.own h.own, h.good⟩
theorem LI.old {w0 w w' : World} {g : Nat} {m : Option Nat} {ss : List Sg} {v : Value} (h : LI w0 w g m ss v) (B : Below w.heap.size w w') : LI w0 w' g m ss v := ⟨h.lg.below B, h.yg, own_below h.own B, h.good, h.below.trans (B.mono h.below.size)⟩
theorem th_two {s x : Sg} {ts ts' : List Sg} {th : Bool} (h : th = decide (s ∈ ts)) (e : ts' = ts ++ [x]) : (bif th then true else decide (x = s)) = decide (s ∈ ts') := th_step h e
theorem th_rev {s x : Sg} {ts ts' : List Sg} {th : Bool} (h : th = decide (s ∈ ts)) (e : ts' = ts ++ [x]) : (bif th then true else decide (s = x)) = decide (s ∈ ts') := by
  rw [← th_step h e, show decide (s = x) = decide (x = s) from decide_eq_decide.2 eq_comm]
theorem th_key {k x : Int} {q : Bool} {zs zs' : List Int} {th : Bool} (h : th = (q || decide (k ∈ zs))) (e : zs' = zs ++ [x]) : (bif th then true else decide (k = x)) = (q || decide (k ∈ zs')) := by
  subst e
  subst h
  cases q
  · by_cases h1 : k ∈ zs
    · simp [h1]
    · by_cases h2 : k = x
      · simp [h2]
      · simp [h1, h2]
  · simp
theorem der_next {ss : List Sg} {zs : List Int} {ts : List Sg} {i : Nat} {q th : Bool} (hi : i < ts.length) (h : q = der ss zs (ts.take i)) (h1 : th = (decide (ts.getD i z0 ∈ ss) || decide ((ts.getD i z0).1 ∈ zs))) : (bif q then th else false) = der ss zs (ts.take (i + 1)) := by
  rw [take_snoc ts i z0 hi, der_snoc, ← h, h1, Bool.or_comm]
  cases q <;> simp

theorem ways6 (bs : List Bool) (i : Nat) (th : Bool) : (bs[i]? = some true ∧ i < bs.length ∧ th = false) ∨ (bs[i]? = some true ∧ i < bs.length ∧ th = true) ∨ (bs[i]? = some false ∧ i < bs.length ∧ th = false) ∨ (bs[i]? = some false ∧ i < bs.length ∧ th = true) ∨ (bs.length ≤ i ∧ th = false) ∨ (bs.length ≤ i ∧ th = true) := by
  rcases ways bs i with ⟨u, hu, hi⟩ | hi
  · cases u <;> cases th
    · exact .inr (.inr (.inl ⟨hu, hi, rfl⟩))
    · exact .inr (.inr (.inr (.inl ⟨hu, hi, rfl⟩)))
    · exact .inl ⟨hu, hi, rfl⟩
    · exact .inr (.inl ⟨hu, hi, rfl⟩)
  · cases th
    · exact .inr (.inr (.inr (.inr (.inl ⟨hi, rfl⟩))))
    · exact .inr (.inr (.inr (.inr (.inr ⟨hi, rfl⟩))))

set_option maxRecDepth 100000 in
set_option maxHeartbeats 3200000 in
theorem sigLedgers_walk (ls ts : List Sg) (os : List Bool) (zs : List Int) (v0 v1 v2 v3 : Value) (w0 : World) (hR : RG w0 v0 ls) (hO : RO w0 v1 os) (hR2 : RG w0 v2 ts) (hR3 : RI w0 v3 zs) (hn : ls.length ≤ 9223372036854775807) (hn2 : ts.length ≤ 9223372036854775807) (hn3 : zs.length ≤ 9223372036854775807) (hn1 : os.length ≤ 9223372036854775807) (hT : Tab w0) : Calls Tryd.prog 4 #[v0, v1, v2, v3] w0 fun e w' => e = .returned (.bool true) ∧ Below w0.heap.size w0 w' := by
  have hB := Below.refl w0.heap.size w0
  have sB := hB.size
  obtain ⟨a0, c0, rfl, _⟩ := hR.form
  obtain ⟨a1, c1, rfl, _⟩ := hO.form
  obtain ⟨a2, c2, rfl, _⟩ := hR2.form
  obtain ⟨a3, c3, rfl, _⟩ := hR3.form
  refine calls_fs 139 [(0, .slice a0 ls.length c0), (1, .slice a1 os.length c1), (2, .slice a2 ts.length c2), (3, .slice a3 zs.length c3)] Tryd.func4 rfl rfl rfl rfl rfl fun a hF => ?_
  refine wp_rs fun K1 hK1 => ?_
  refine s_val hF (x_assign rfl) (by decide) fun a hF => ?_
  refine s_end (hK1 _ _ ?_)
  refine wp_rs fun K2 hK2 => ?_
  refine s_callR (R := fun v w' => ∃ g, v = .pointer (some ⟨g, 0, none⟩) ∧ g = w0.heap.size ∧ Blk w' g 52 [.map none]) [] hF (enters_of Tryd.func12 (by kernel_rfl) rfl) rfl (by decide) (new12 w0) ?_
  rintro _ w2 a ⟨g, rfl, eg, mg⟩ B3 hF
  have sB3 := B3.size
  have hB := hB.trans (B3.mono hB.size)
  have hg0 : w0.heap.size ≤ g := by have := hB.size; omega
  have hL : LG w2 g none [] := ⟨mg, .inl ⟨rfl, rfl⟩⟩
  have hY : Yg w0.heap.size none := fun b hb => by cases hb
  refine s_val hF (x_assign rfl) (by decide) fun a hF => ?_
  refine s_end (hK2 _ _ ?_)
  refine wp_seq_k fun K3 hK3 => ?_
  refine wp_rs fun K4 hK4 => ?_
  refine s_val hF (x_move rfl) (by decide) fun a hF => ?_
  refine s_val hF (x_ptr Tryd.underlying34 rfl rfl) (by decide) fun a hF => ?_
  refine s_end (hK4 _ _ ?_)
  refine wp_if hF rfl ?_
  refine wp_skip (hK3 _ _ ?_)
  refine wp_rs fun K5 hK5 => ?_
  refine s_val hF (x_assign rfl) (by decide) fun a hF => ?_
  refine s_end (hK5 _ _ ?_)
  refine wp_seq_k fun K6 hK6 => ?_
  have key6 : ∀ a w m ss av cv, LI w0 w g m ss (.slice av ss.length cv) → ss.length ≤ 9223372036854775807 → Fs 139 a [(10, .slice av ss.length cv), (3, .slice a3 zs.length c3), (2, .slice a2 ts.length c2), (9, .pointer (some ⟨g, 0, none⟩))] → K6 a w := by
    clear hF hB hL hY mg
    rintro a w m ss av cv hI hsi hF
    obtain ⟨hL, hY, hOw, hG, hB⟩ := hI
    have sB := hB.size
    refine hK6 _ _ ?_
    refine wp_rs fun K7 hK7 => ?_
    refine s_val hF (x_assign rfl) (by decide) fun a hF => ?_
    refine s_end (hK7 _ _ ?_)
    refine wp_seq_k fun K8 hK8 => ?_
    refine wp_rs fun K9 hK9 => ?_
    refine s_val hF (x_move rfl) (by decide) fun a hF => ?_
    refine s_val hF (x_len Tryd.underlying31 rfl) (by decide) fun a hF => ?_
    refine s_val hF (x_move rfl) (by decide) fun a hF => ?_
    refine s_end (hK9 _ _ ?_)
    refine wp_block ?_
    refine wp_up ts.length (fun i a w => ∃ q, q = der ss zs (ts.take i) ∧ LI w0 w g m ss (.slice av ss.length cv) ∧ Fs 139 a [(94, .int .i64 (i : Int)), (93, .int .i64 (ts.length : Int)), (92, .slice a2 ts.length c2), (15, .bool q), (10, .slice av ss.length cv), (3, .slice a3 zs.length c3), (2, .slice a2 ts.length c2), (9, .pointer (some ⟨g, 0, none⟩))]) ⟨true, by simp [der], ⟨hL, hY, hOw, hG, hB⟩, hF.sub _ rfl⟩ ?_
    clear hF hB hL hOw
    rintro i a w hi ⟨q, hq, hI, hF⟩ K' hK'
    obtain ⟨hL, hY, hOw, hG, hB⟩ := hI
    have sB := hB.size
    refine wp_rs fun K10 hK10 => ?_
    refine s_val hF (x_lss (b := decide (i < ts.length)) (decide_eq_decide.2 (by omega)) rfl rfl) (by decide) fun a hF => ?_
    refine s_end (hK10 _ _ ?_)
    refine wp_seq_k fun K11 hK11 => ?_
    refine wp_iff hF rfl (fun hc95 => ?_) (fun hc95 => ?_)
    · obtain ⟨bq, off, c, hve, _⟩ := hR2.some (by omega)
      cases hve
      refine wp_skip (hK11 _ _ ?_)
      refine wp_seq_k fun K12 hK12 => ?_
      refine wp_block ?_
      refine wp_rs fun K13 hK13 => ?_
      refine s_val hF (x_ixa rfl rfl (m_ixsK i Tryd.underlying31 el31.size rfl (by omega))) (by decide) fun a hF => ?_
      refine s_val hF ((hR2.below hB).load (j := i) (by omega) rfl) (by decide) fun a hF => ?_
      refine s_alloc hF (by decide) zero26 fun w4 b17 a eb17 m17 B5 zb17 hF => ?_
      refine s_putG z0g (hR2.good (j := i) (by omega)) m17 hF rfl rfl fun w6 m17 o7 => ?_
      have X8 := B5.trans (o7.below (by omega))
      have sX8 := X8.size
      have hB := hB.trans (X8.mono hB.size)
      have hL := hL.below X8
      have hOw := own_below hOw X8
      refine s_end (hK13 _ _ ?_)
      refine wp_rs fun K14 hK14 => ?_
      refine s_val hF (x_assign rfl) (by decide) fun a hF => ?_
      refine s_end (hK14 _ _ ?_)
      refine wp_seq_k fun K15 hK15 => ?_
      refine wp_rs fun K16 hK16 => ?_
      refine s_val hF (x_move rfl) (by decide) fun a hF => ?_
      refine s_val hF (x_len Tryd.underlying31 rfl) (by decide) fun a hF => ?_
      refine s_val hF (x_move rfl) (by decide) fun a hF => ?_
      refine s_end (hK16 _ _ ?_)
      refine wp_block ?_
      refine wp_up ss.length (fun j a w => ∃ th, th = decide ((ts.getD i z0) ∈ ss.take j) ∧ LI w0 w g m ss (.slice av ss.length cv) ∧ Blk w b17 26 (sigL (ts.getD i z0)) ∧ Fs 139 a [(100, .int .i64 (j : Int)), (99, .int .i64 (ss.length : Int)), (98, .slice av ss.length cv), (18, .bool th), (17, .pointer (some ⟨b17, 0, none⟩)), (94, .int .i64 (i : Int)), (93, .int .i64 (ts.length : Int)), (92, .slice (some ⟨bq, off, none⟩) ts.length c2), (15, .bool q), (10, .slice av ss.length cv), (3, .slice a3 zs.length c3), (2, .slice (some ⟨bq, off, none⟩) ts.length c2), (9, .pointer (some ⟨g, 0, none⟩))]) ⟨false, by simp, ⟨hL, hY, hOw, hG, hB⟩, m17, hF.sub _ rfl⟩ ?_
      clear hF hB hL hOw m17
      rintro j a w hj ⟨th, hth, hI, m17, hF⟩ K'' hK''
      obtain ⟨hL, hY, hOw, hG, hB⟩ := hI
      have sB := hB.size
      refine wp_rs fun K17 hK17 => ?_
      refine s_val hF (x_lss (b := decide (j < ss.length)) (decide_eq_decide.2 (by omega)) rfl rfl) (by decide) fun a hF => ?_
      refine s_end (hK17 _ _ ?_)
      refine wp_seq_k fun K18 hK18 => ?_
      refine wp_iff hF rfl (fun hc101 => ?_) (fun hc101 => ?_)
      · obtain ⟨bq, off, c, hve, _⟩ := (Rd.own hOw).some (by omega)
        cases hve
        refine wp_skip (hK18 _ _ ?_)
        refine wp_seq_k fun K19 hK19 => ?_
        refine wp_block ?_
        refine wp_rs fun K20 hK20 => ?_
        refine s_val hF (x_ixa rfl rfl (m_ixsK j Tryd.underlying31 el31.size rfl (by omega))) (by decide) fun a hF => ?_
        refine s_val hF ((RG.load ⟨Rd.own hOw, hG⟩ (j := j) (by omega) rfl)) (by decide) fun a hF => ?_
        refine s_alloc hF (by decide) zero26 fun w9 b20 a eb20 m20 B10 zb20 hF => ?_
        refine s_putG z0g (hG _ (List.mem_of_getElem? (getD_get ss j z0 (by omega)))) m20 hF rfl rfl fun w11 m20 o12 => ?_
        have X13 := B10.trans (o12.below (by omega))
        have sX13 := X13.size
        have hB := hB.trans (X13.mono hB.size)
        have hL := hL.below X13
        have hOw := own_below hOw X13
        have m17 := m17.old X13
        refine s_end (hK20 _ _ ?_)
        cases th
        · skip
          refine wp_region_lit ?_
          refine s_val hF (x_move rfl) (by decide) fun a hF => ?_
          refine s_val hF (x_move rfl) (by decide) fun a hF => ?_
          refine s_grd 105 hF rfl rfl rfl ?_
          refine s_val hF (x_loadG (hR2.good (j := i) (by omega)) m17 rfl) (by decide) fun a hF => ?_
          refine s_grd 105 hF rfl rfl rfl ?_
          refine s_val hF (x_loadG (hG _ (List.mem_of_getElem? (getD_get ss j z0 (by omega)))) m20 rfl) (by decide) fun a hF => ?_
          refine s_grd 105 hF rfl rfl rfl ?_
          refine s_val hF (x_eqG (hR2.good (j := i) (by omega)) (hG _ (List.mem_of_getElem? (getD_get ss j z0 (by omega)))) rfl rfl rfl) (by decide) fun a hF => ?_
          refine s_val hF (x_pick rfl rfl) (by decide) fun a hF => ?_
          refine s_val hF (x_assign rfl) (by decide) fun a hF => ?_
          refine s_end (hK19 _ _ ?_)
          refine wp_region_lit ?_
          refine s_val hF (x_addn (j + 1) (by omega) (by omega) rfl rfl) (by decide) fun a hF => ?_
          refine s_val hF (x_move rfl) (by decide) fun a hF => ?_
          refine s_end (hK'' _ _ (by omega) ⟨_, th_rev hth (take_snoc ss j z0 (by omega)), ⟨hL, hY, hOw, hG, hB⟩, m17, hF.sub _ rfl⟩)
        · skip
          refine wp_region_lit ?_
          refine s_val hF (x_move rfl) (by decide) fun a hF => ?_
          refine s_val hF (x_move rfl) (by decide) fun a hF => ?_
          refine s_grdn 105 hF rfl rfl (by decide) fun a hF => ?_
          refine s_grdn 105 hF rfl rfl (by decide) fun a hF => ?_
          refine s_grdn 105 hF rfl rfl (by decide) fun a hF => ?_
          refine s_val hF (x_pick rfl rfl) (by decide) fun a hF => ?_
          refine s_val hF (x_assign rfl) (by decide) fun a hF => ?_
          refine s_end (hK19 _ _ ?_)
          refine wp_region_lit ?_
          refine s_val hF (x_addn (j + 1) (by omega) (by omega) rfl rfl) (by decide) fun a hF => ?_
          refine s_val hF (x_move rfl) (by decide) fun a hF => ?_
          refine s_end (hK'' _ _ (by omega) ⟨_, th_rev hth (take_snoc ss j z0 (by omega)), ⟨hL, hY, hOw, hG, hB⟩, m17, hF.sub _ rfl⟩)
      · obtain rfl : j = ss.length := by omega
        rw [List.take_length] at hth
        refine wp_exit (hK15 _ _ ?_)
        refine wp_seq_k fun K21 hK21 => ?_
        refine wp_rs fun K22 hK22 => ?_
        refine s_val hF (x_move rfl) (by decide) fun a hF => ?_
        refine s_val hF (x_len Tryd.underlying33 rfl) (by decide) fun a hF => ?_
        refine s_val hF (x_move rfl) (by decide) fun a hF => ?_
        refine s_end (hK22 _ _ ?_)
        refine wp_block ?_
        refine wp_up zs.length (fun j a w => ∃ th, th = (decide ((ts.getD i z0) ∈ ss) || decide ((ts.getD i z0).1 ∈ zs.take j)) ∧ LI w0 w g m ss (.slice av ss.length cv) ∧ Blk w b17 26 (sigL (ts.getD i z0)) ∧ Fs 139 a [(113, .int .i64 (j : Int)), (112, .int .i64 (zs.length : Int)), (111, .slice a3 zs.length c3), (18, .bool th), (17, .pointer (some ⟨b17, 0, none⟩)), (94, .int .i64 (i : Int)), (93, .int .i64 (ts.length : Int)), (92, .slice (some ⟨bq, off, none⟩) ts.length c2), (15, .bool q), (10, .slice av ss.length cv), (3, .slice a3 zs.length c3), (2, .slice (some ⟨bq, off, none⟩) ts.length c2), (9, .pointer (some ⟨g, 0, none⟩))]) ⟨th, by simpa using hth, ⟨hL, hY, hOw, hG, hB⟩, m17, hF.sub _ rfl⟩ ?_
        clear hF hB hL hOw m17 hth
        rintro j a w hj ⟨th, hth, hI, m17, hF⟩ K'' hK''
        obtain ⟨hL, hY, hOw, hG, hB⟩ := hI
        have sB := hB.size
        refine wp_rs fun K23 hK23 => ?_
        refine s_val hF (x_lss (b := decide (j < zs.length)) (decide_eq_decide.2 (by omega)) rfl rfl) (by decide) fun a hF => ?_
        refine s_end (hK23 _ _ ?_)
        refine wp_seq_k fun K24 hK24 => ?_
        refine wp_iff hF rfl (fun hc114 => ?_) (fun hc114 => ?_)
        · obtain ⟨bq, off, c, hve, _⟩ := hR3.some (by omega)
          cases hve
          refine wp_skip (hK24 _ _ ?_)
          refine wp_seq_k fun K25 hK25 => ?_
          refine wp_block ?_
          refine wp_rs fun K26 hK26 => ?_
          refine s_val hF (x_ixa rfl rfl (m_ixs j Tryd.underlying33 el33.size rfl (by omega))) (by decide) fun a hF => ?_
          refine s_val hF ((hR3.below hB).load (j := j) (by omega) rfl) (by decide) fun a hF => ?_
          refine s_val hF (x_assign rfl) (by decide) fun a hF => ?_
          refine s_end (hK26 _ _ ?_)
          cases th
          · skip
            refine wp_region_lit ?_
            refine s_val hF (x_move rfl) (by decide) fun a hF => ?_
            refine s_val hF (x_move rfl) (by decide) fun a hF => ?_
            refine s_grd 118 hF rfl rfl rfl ?_
            refine s_val hF (x_key rfl) (by decide) fun a hF => ?_
            refine s_grd 118 hF rfl rfl rfl ?_
            refine s_val hF (x_loadK m17 rfl) (by decide) fun a hF => ?_
            refine s_grd 118 hF rfl rfl rfl ?_
            refine s_val hF (x_move rfl) (by decide) fun a hF => ?_
            refine s_grd 118 hF rfl rfl rfl ?_
            refine s_val hF (x_eql rfl rfl rfl) (by decide) fun a hF => ?_
            refine s_val hF (x_pick rfl rfl) (by decide) fun a hF => ?_
            refine s_val hF (x_assign rfl) (by decide) fun a hF => ?_
            refine s_end (hK25 _ _ ?_)
            refine wp_region_lit ?_
            refine s_val hF (x_addn (j + 1) (by omega) (by omega) rfl rfl) (by decide) fun a hF => ?_
            refine s_val hF (x_move rfl) (by decide) fun a hF => ?_
            refine s_end (hK'' _ _ (by omega) ⟨_, th_key hth (take_snoc zs j 0 (by omega)), ⟨hL, hY, hOw, hG, hB⟩, m17, hF.sub _ rfl⟩)
          · skip
            refine wp_region_lit ?_
            refine s_val hF (x_move rfl) (by decide) fun a hF => ?_
            refine s_val hF (x_move rfl) (by decide) fun a hF => ?_
            refine s_grdn 118 hF rfl rfl (by decide) fun a hF => ?_
            refine s_grdn 118 hF rfl rfl (by decide) fun a hF => ?_
            refine s_grdn 118 hF rfl rfl (by decide) fun a hF => ?_
            refine s_grdn 118 hF rfl rfl (by decide) fun a hF => ?_
            refine s_val hF (x_pick rfl rfl) (by decide) fun a hF => ?_
            refine s_val hF (x_assign rfl) (by decide) fun a hF => ?_
            refine s_end (hK25 _ _ ?_)
            refine wp_region_lit ?_
            refine s_val hF (x_addn (j + 1) (by omega) (by omega) rfl rfl) (by decide) fun a hF => ?_
            refine s_val hF (x_move rfl) (by decide) fun a hF => ?_
            refine s_end (hK'' _ _ (by omega) ⟨_, th_key hth (take_snoc zs j 0 (by omega)), ⟨hL, hY, hOw, hG, hB⟩, m17, hF.sub _ rfl⟩)
        · obtain rfl : j = zs.length := by omega
          rw [List.take_length] at hth
          refine wp_exit (hK21 _ _ ?_)
          cases q
          · skip
            refine wp_region_lit ?_
            refine s_val hF (x_move rfl) (by decide) fun a hF => ?_
            refine s_val hF (x_move rfl) (by decide) fun a hF => ?_
            refine s_grdn 126 hF rfl rfl (by decide) fun a hF => ?_
            refine s_val hF (x_pick rfl rfl) (by decide) fun a hF => ?_
            refine s_val hF (x_assign rfl) (by decide) fun a hF => ?_
            refine s_end (hK12 _ _ ?_)
            refine wp_region_lit ?_
            refine s_val hF (x_addn (i + 1) (by omega) (by omega) rfl rfl) (by decide) fun a hF => ?_
            refine s_val hF (x_move rfl) (by decide) fun a hF => ?_
            refine s_end (hK' _ _ (by omega) ⟨_, der_next (by omega) hq hth, ⟨hL, hY, hOw, hG, hB⟩, hF.sub _ rfl⟩)
          · skip
            refine wp_region_lit ?_
            refine s_val hF (x_move rfl) (by decide) fun a hF => ?_
            refine s_val hF (x_move rfl) (by decide) fun a hF => ?_
            refine s_grd 126 hF rfl rfl rfl ?_
            refine s_val hF (x_move rfl) (by decide) fun a hF => ?_
            refine s_val hF (x_pick rfl rfl) (by decide) fun a hF => ?_
            refine s_val hF (x_assign rfl) (by decide) fun a hF => ?_
            refine s_end (hK12 _ _ ?_)
            refine wp_region_lit ?_
            refine s_val hF (x_addn (i + 1) (by omega) (by omega) rfl rfl) (by decide) fun a hF => ?_
            refine s_val hF (x_move rfl) (by decide) fun a hF => ?_
            refine s_end (hK' _ _ (by omega) ⟨_, der_next (by omega) hq hth, ⟨hL, hY, hOw, hG, hB⟩, hF.sub _ rfl⟩)
    · obtain rfl : i = ts.length := by omega
      rw [List.take_length] at hq
      refine wp_exit (hK8 _ _ ?_)
      refine wp_rs fun K27 hK27 => ?_
      refine s_val hF (x_move rfl) (by decide) fun a hF => ?_
      refine s_val hF (x_move rfl) (by decide) fun a hF => ?_
      refine s_val hF (x_move rfl) (by decide) fun a hF => ?_
      refine s_callB [.pointer (some ⟨g, 0, none⟩), _, _] hF (enters_of Tryd.func16 (by kernel_rfl) rfl) rfl (by decide) (der16 g m ss ts zs _ _ w hL (hR2.below hB) (hR3.below hB) hn2 hn3) fun w14 a B15 hF => ?_
      have sB15 := B15.size
      have hB := hB.trans (B15.mono hB.size)
      have hL := hL.below B15
      have hOw := own_below hOw B15
      refine s_val hF (x_move rfl) (by decide) fun a hF => ?_
      refine s_val hF (x_eqB (b := true) Tryd.underlying4 (by rw [hq]; exact beq_self_eq_true _) rfl rfl) (by decide) fun a hF => ?_
      refine s_val hF (x_move rfl) (by decide) fun a hF => ?_
      refine s_grd 136 hF rfl rfl rfl ?_
      refine s_callB [] hF (enters_of Tryd.func11 (by kernel_rfl) rfl) rfl (by decide) (awake11 w14 (hT.old hB)) fun w16 a B17 hF => ?_
      have sB17 := B17.size
      have hB := hB.trans (B17.mono hB.size)
      have hL := hL.below B17
      have hOw := own_below hOw B17
      refine s_val hF (x_pick rfl rfl) (by decide) fun a hF => ?_
      refine s_val hF (x_assign rfl) (by decide) fun a hF => ?_
      refine s_end (hK27 _ _ ?_)
      refine wp_ret (res_slot hF rfl rfl ⟨rfl, hB⟩)
  refine wp_rs fun K28 hK28 => ?_
  refine s_val hF (x_assign rfl) (by decide) fun a hF => ?_
  refine s_end (hK28 _ _ ?_)
  refine wp_block ?_
  refine wp_up ls.length (fun i a w => ∃ m ss av cv, LI w0 w g m ss (.slice av ss.length cv) ∧ ss.length ≤ i ∧ Fs 139 a [(11, .int .i64 (i : Int)), (10, .slice av ss.length cv), (3, .slice a3 zs.length c3), (2, .slice a2 ts.length c2), (1, .slice a1 os.length c1), (0, .slice a0 ls.length c0), (9, .pointer (some ⟨g, 0, none⟩))]) ⟨none, [], none, 0, ⟨hL, hY, ⟨by simp, .inl ⟨rfl, rfl⟩⟩, by simp, hB⟩, by simp, hF.sub _ rfl⟩ ?_
  clear hF hB hL hY mg
  rintro i a w hi ⟨m, ss, av, cv, hI, hsi, hF⟩ K' hK'
  obtain ⟨hL, hY, hOw, hG, hB⟩ := hI
  have sB := hB.size
  refine wp_seq_k fun K29 hK29 => ?_
  rcases three i ls.length with h3 | h3 | h3
  · obtain ⟨bl0, offl, cl, hvl, _⟩ := hR.some (by omega)
    cases hvl
    refine wp_rs fun K31 hK31 => ?_
    refine s_val hF (x_move rfl) (by decide) fun a hF => ?_
    refine s_val hF (x_move rfl) (by decide) fun a hF => ?_
    refine s_val hF (x_len Tryd.underlying31 rfl) (by decide) fun a hF => ?_
    refine s_val hF (x_lss (b := true) (decide_eq_true (by omega)) rfl rfl) (by decide) fun a hF => ?_
    refine s_val hF (x_move rfl) (by decide) fun a hF => ?_
    refine s_grd 30 hF rfl rfl rfl ?_
    refine s_val hF (x_move rfl) (by decide) fun a hF => ?_
    refine s_grd 30 hF rfl rfl rfl ?_
    refine s_val hF (x_lss (b := true) (decide_eq_true (by omega)) rfl rfl) (by decide) fun a hF => ?_
    refine s_val hF (x_pick rfl rfl) (by decide) fun a hF => ?_
    refine s_end (hK31 _ _ ?_)
    refine wp_if hF rfl ?_
    refine wp_skip (hK29 _ _ ?_)
    refine wp_seq_k fun K32 hK32 => ?_
    refine wp_block ?_
    refine wp_rs fun K33 hK33 => ?_
    refine s_val hF (x_assign rfl) (by decide) fun a hF => ?_
    refine s_end (hK33 _ _ ?_)
    refine wp_seq_k fun K34 hK34 => ?_
    refine wp_rs fun K35 hK35 => ?_
    refine s_val hF (x_move rfl) (by decide) fun a hF => ?_
    refine s_val hF (x_len Tryd.underlying31 rfl) (by decide) fun a hF => ?_
    refine s_val hF (x_move rfl) (by decide) fun a hF => ?_
    refine s_end (hK35 _ _ ?_)
    refine wp_block ?_
    refine wp_up ss.length (fun j a w => ∃ th, th = decide ((ls.getD i z0) ∈ ss.take j) ∧ LI w0 w g m ss (.slice av ss.length cv) ∧ Fs 139 a [(38, .int .i64 (j : Int)), (37, .int .i64 (ss.length : Int)), (36, .slice av ss.length cv), (12, .bool th), (11, .int .i64 (i : Int)), (10, .slice av ss.length cv), (3, .slice a3 zs.length c3), (2, .slice a2 ts.length c2), (1, .slice a1 os.length c1), (0, .slice (some ⟨bl0, offl, none⟩) ls.length c0), (9, .pointer (some ⟨g, 0, none⟩))]) ⟨false, by simp, ⟨hL, hY, hOw, hG, hB⟩, hF.sub _ rfl⟩ ?_
    clear hF hB hL hOw
    rintro j a w hj ⟨th, hth, hI, hF⟩ K'' hK''
    obtain ⟨hL, hY, hOw, hG, hB⟩ := hI
    have sB := hB.size
    refine wp_rs fun K36 hK36 => ?_
    refine s_val hF (x_lss (b := decide (j < ss.length)) (decide_eq_decide.2 (by omega)) rfl rfl) (by decide) fun a hF => ?_
    refine s_end (hK36 _ _ ?_)
    refine wp_seq_k fun K37 hK37 => ?_
    refine wp_iff hF rfl (fun hc39 => ?_) (fun hc39 => ?_)
    · obtain ⟨bq, off, c, hve, _⟩ := (Rd.own hOw).some (by omega)
      cases hve
      refine wp_skip (hK37 _ _ ?_)
      refine wp_seq_k fun K38 hK38 => ?_
      refine wp_block ?_
      refine wp_rs fun K39 hK39 => ?_
      refine s_val hF (x_ixa rfl rfl (m_ixsK j Tryd.underlying31 el31.size rfl (by omega))) (by decide) fun a hF => ?_
      refine s_val hF ((RG.load ⟨Rd.own hOw, hG⟩ (j := j) (by omega) rfl)) (by decide) fun a hF => ?_
      refine s_alloc hF (by decide) zero26 fun w18 b14 a eb14 m14 B19 zb14 hF => ?_
      refine s_putG z0g (hG _ (List.mem_of_getElem? (getD_get ss j z0 (by omega)))) m14 hF rfl rfl fun w20 m14 o21 => ?_
      have X22 := B19.trans (o21.below (by omega))
      have sX22 := X22.size
      have hB := hB.trans (X22.mono hB.size)
      have hL := hL.below X22
      have hOw := own_below hOw X22
      refine s_end (hK39 _ _ ?_)
      cases th
      · have hm14 := m14.lt
        refine dk_one (w20.heap.size) (ops := regOps Tryd.f4 12) (N := 10) (by kernel_rfl) wide_orders (by kernel_rfl) fun w23 hw23 B24 hS K40 hK40 => ?_
        have zw23 : w23.heap.size = w20.heap.size := by rw [hw23]
        have sB24 := B24.size
        have hB := hB.trans (B24.mono hB.size)
        have hL := hL.below B24
        have hOw := own_below hOw B24
        have m14 := m14.old B24
        have hL_d := hL
        have hOw_d := hOw
        have m14_d := m14
        have hB_d := hB
        refine d_val 0 42 (op := (Go.Op.move (Go.Operand.tmp 12))) hF hS (by kernel_rfl) (fun W hW => x_move rfl) (by kernel_rfl) (by decide) fun a hF => ?_
        refine d_val 1 43 (op := (Go.Op.move (Go.Operand.tmp 42))) hF hS (by kernel_rfl) (fun W hW => x_move rfl) (by kernel_rfl) (by decide) fun a hF => ?_
        refine d_valg 2 44 43 (j := 1) (want := false) (op := (Go.Op.load 26 (Go.Operand.tmp 14))) hF hS (by kernel_rfl) (by kernel_rfl) rfl (fun W hW => x_loadG (hG _ (List.mem_of_getElem? (getD_get ss j z0 (by omega)))) (m14_d.kq hW (by omega)) rfl) (by kernel_rfl) (by decide) fun a hF => ?_
        refine d_valg 3 45 43 (j := 1) (want := false) (op := (Go.Op.move (Go.Operand.tmp 0))) hF hS (by kernel_rfl) (by kernel_rfl) rfl (fun W hW => x_move rfl) (by kernel_rfl) (by decide) fun a hF => ?_
        refine d_valg 4 46 43 (j := 1) (want := false) (op := (Go.Op.move (Go.Operand.tmp 11))) hF hS (by kernel_rfl) (by kernel_rfl) rfl (fun W hW => x_move rfl) (by kernel_rfl) (by decide) fun a hF => ?_
        refine d_valg 5 47 43 (j := 1) (want := false) (op := (Go.Op.indexAddr 31 (Go.Operand.tmp 45) (Go.Operand.tmp 46))) hF hS (by kernel_rfl) (by kernel_rfl) rfl (fun W hW => x_ixa rfl rfl (m_ixsK i Tryd.underlying31 el31.size rfl (by omega))) (by kernel_rfl) (by decide) fun a hF => ?_
        refine d_valg 6 48 43 (j := 1) (want := false) (op := (Go.Op.load 26 (Go.Operand.tmp 47))) hF hS (by kernel_rfl) (by kernel_rfl) rfl (fun W hW => (hR.below (hW.under hB_d (by omega))).load (j := i) (by omega) rfl) (by kernel_rfl) (by decide) fun a hF => ?_
        refine d_valg 7 49 43 (j := 1) (want := false) (op := (Go.Op.binOp Go.BinOp.eql 26 (Go.Operand.tmp 44) (Go.Operand.tmp 48) 26)) hF hS (by kernel_rfl) (by kernel_rfl) rfl (fun W hW => x_eqG (hG _ (List.mem_of_getElem? (getD_get ss j z0 (by omega)))) (hR.good (j := i) (by omega)) rfl rfl rfl) (by kernel_rfl) (by decide) fun a hF => ?_
        refine d_val 8 50 (op := (Go.Op.pick (Go.Operand.tmp 43) (Go.Operand.const (Go.Value.bool true)) (Go.Operand.tmp 49))) hF hS (by kernel_rfl) (fun W hW => x_pick rfl rfl) (by kernel_rfl) (by decide) fun a hF => ?_
        refine d_val 9 12 (op := (Go.Op.assign (Go.Operand.tmp 50))) hF hS (by kernel_rfl) (fun W hW => x_assign rfl) (by kernel_rfl) (by decide) fun a hF => ?_
        refine d_end (by kernel_rfl) (hK40 _ _ ?_)
        refine hK38 _ _ ?_
        refine wp_region_lit ?_
        refine s_val hF (x_addn (j + 1) (by omega) (by omega) rfl rfl) (by decide) fun a hF => ?_
        refine s_val hF (x_move rfl) (by decide) fun a hF => ?_
        refine s_end (hK'' _ _ (by omega) ⟨_, th_two hth (take_snoc ss j z0 (by omega)), ⟨hL, hY, hOw, hG, hB⟩, hF.sub _ rfl⟩)
      · skip
        refine dk_one (w20.heap.size) (ops := regOps Tryd.f4 12) (N := 10) (by kernel_rfl) wide_orders (by kernel_rfl) fun w25 hw25 B26 hS K41 hK41 => ?_
        have zw25 : w25.heap.size = w20.heap.size := by rw [hw25]
        have sB26 := B26.size
        have hB := hB.trans (B26.mono hB.size)
        have hL := hL.below B26
        have hOw := own_below hOw B26
        have m14 := m14.old B26
        have hL_d := hL
        have hOw_d := hOw
        have m14_d := m14
        have hB_d := hB
        refine d_val 0 42 (op := (Go.Op.move (Go.Operand.tmp 12))) hF hS (by kernel_rfl) (fun W hW => x_move rfl) (by kernel_rfl) (by decide) fun a hF => ?_
        refine d_val 1 43 (op := (Go.Op.move (Go.Operand.tmp 42))) hF hS (by kernel_rfl) (fun W hW => x_move rfl) (by kernel_rfl) (by decide) fun a hF => ?_
        refine d_skip 2 44 43 (j := 1) (want := false) (op := (Go.Op.load 26 (Go.Operand.tmp 14))) hF hS (by kernel_rfl) (by kernel_rfl) rfl (by kernel_rfl) (by decide) fun a hF => ?_
        refine d_skip 3 45 43 (j := 1) (want := false) (op := (Go.Op.move (Go.Operand.tmp 0))) hF hS (by kernel_rfl) (by kernel_rfl) rfl (by kernel_rfl) (by decide) fun a hF => ?_
        refine d_skip 4 46 43 (j := 1) (want := false) (op := (Go.Op.move (Go.Operand.tmp 11))) hF hS (by kernel_rfl) (by kernel_rfl) rfl (by kernel_rfl) (by decide) fun a hF => ?_
        refine d_skip 5 47 43 (j := 1) (want := false) (op := (Go.Op.indexAddr 31 (Go.Operand.tmp 45) (Go.Operand.tmp 46))) hF hS (by kernel_rfl) (by kernel_rfl) rfl (by kernel_rfl) (by decide) fun a hF => ?_
        refine d_skip 6 48 43 (j := 1) (want := false) (op := (Go.Op.load 26 (Go.Operand.tmp 47))) hF hS (by kernel_rfl) (by kernel_rfl) rfl (by kernel_rfl) (by decide) fun a hF => ?_
        refine d_skip 7 49 43 (j := 1) (want := false) (op := (Go.Op.binOp Go.BinOp.eql 26 (Go.Operand.tmp 44) (Go.Operand.tmp 48) 26)) hF hS (by kernel_rfl) (by kernel_rfl) rfl (by kernel_rfl) (by decide) fun a hF => ?_
        refine d_val 8 50 (op := (Go.Op.pick (Go.Operand.tmp 43) (Go.Operand.const (Go.Value.bool true)) (Go.Operand.tmp 49))) hF hS (by kernel_rfl) (fun W hW => x_pick rfl rfl) (by kernel_rfl) (by decide) fun a hF => ?_
        refine d_val 9 12 (op := (Go.Op.assign (Go.Operand.tmp 50))) hF hS (by kernel_rfl) (fun W hW => x_assign rfl) (by kernel_rfl) (by decide) fun a hF => ?_
        refine d_end (by kernel_rfl) (hK41 _ _ ?_)
        refine hK38 _ _ ?_
        refine wp_region_lit ?_
        refine s_val hF (x_addn (j + 1) (by omega) (by omega) rfl rfl) (by decide) fun a hF => ?_
        refine s_val hF (x_move rfl) (by decide) fun a hF => ?_
        refine s_end (hK'' _ _ (by omega) ⟨_, th_two hth (take_snoc ss j z0 (by omega)), ⟨hL, hY, hOw, hG, hB⟩, hF.sub _ rfl⟩)
    · obtain rfl : j = ss.length := by omega
      rw [List.take_length] at hth
      refine wp_exit (hK34 _ _ ?_)
      refine wp_seq_k fun K42 hK42 => ?_
      have key42 : ∀ a w m ss av cv, LI w0 w g m ss (.slice av ss.length cv) → ss.length ≤ i + 1 → Fs 139 a [(11, .int .i64 (i : Int)), (10, .slice av ss.length cv), (3, .slice a3 zs.length c3), (2, .slice a2 ts.length c2), (1, .slice a1 os.length c1), (0, .slice (some ⟨bl0, offl, none⟩) ls.length c0), (9, .pointer (some ⟨g, 0, none⟩))] → K42 a w := by
        clear hF hB hL hOw hG hY hsi hth
        rintro a w m ss av cv hI hsi hF
        obtain ⟨hL, hY, hOw, hG, hB⟩ := hI
        have sB := hB.size
        refine hK42 _ _ ?_
        refine wp_rs fun K43 hK43 => ?_
        refine s_val hF (x_move rfl) (by decide) fun a hF => ?_
        refine s_callB [.pointer (some ⟨g, 0, none⟩)] hF (enters_of Tryd.func15 (by kernel_rfl) rfl) rfl (by decide) (len15 g m ss w hL) fun w27 a B28 hF => ?_
        have sB28 := B28.size
        have hB := hB.trans (B28.mono hB.size)
        have hL := hL.below B28
        have hOw := own_below hOw B28
        refine s_val hF (x_move rfl) (by decide) fun a hF => ?_
        refine s_val hF (x_len Tryd.underlying31 rfl) (by decide) fun a hF => ?_
        refine s_val hF (x_neq (b := false) (decide_eq_false (by simp)) rfl rfl) (by decide) fun a hF => ?_
        refine s_end (hK43 _ _ ?_)
        refine wp_if hF rfl ?_
        refine wp_skip (hK32 _ _ ?_)
        refine wp_region_lit ?_
        refine s_val hF (x_move rfl) (by decide) fun a hF => ?_
        refine s_val hF (x_addn (i + 1) (by omega) (by omega) rfl rfl) (by decide) fun a hF => ?_
        refine s_val hF (x_assign rfl) (by decide) fun a hF => ?_
        refine s_end (hK' _ _ (by omega) ⟨m, ss, av, cv, ⟨hL, hY, hOw, hG, hB⟩, by omega, hF.sub _ rfl⟩)
      rcases ways6 os i th with ⟨hu, hiu, rfl⟩ | ⟨hu, hiu, rfl⟩ | ⟨hu, hiu, rfl⟩ | ⟨hu, hiu, rfl⟩ | ⟨hiu, rfl⟩ | ⟨hiu, rfl⟩
      · have hno : ls.getD i z0 ∉ ss := by simpa using hth.symm
        obtain ⟨bq, off, c, hve, _⟩ := hO.some (by omega)
        cases hve
        refine wp_rs fun K45 hK45 => ?_
        refine s_val hF (x_move rfl) (by decide) fun a hF => ?_
        refine s_val hF (x_move rfl) (by decide) fun a hF => ?_
        refine s_val hF (x_len Tryd.underlying32 rfl) (by decide) fun a hF => ?_
        refine s_val hF (x_lss (b := true) (decide_eq_true (by omega)) rfl rfl) (by decide) fun a hF => ?_
        refine s_val hF (x_move rfl) (by decide) fun a hF => ?_
        refine s_grd 56 hF rfl rfl rfl ?_
        refine s_val hF (x_move rfl) (by decide) fun a hF => ?_
        refine s_grd 56 hF rfl rfl rfl ?_
        refine s_val hF (x_move rfl) (by decide) fun a hF => ?_
        refine s_grd 56 hF rfl rfl rfl ?_
        refine s_val hF (x_ixa rfl rfl (m_ixs i Tryd.underlying32 el32.size rfl (by omega))) (by decide) fun a hF => ?_
        refine s_grd 56 hF rfl rfl rfl ?_
        refine s_val hF ((hO.below hB).load (u := true) hu rfl) (by decide) fun a hF => ?_
        refine s_val hF (x_pick rfl rfl) (by decide) fun a hF => ?_
        refine s_end (hK45 _ _ ?_)
        refine wp_if hF rfl ?_
        refine wp_seq_k fun K46 hK46 => ?_
        refine wp_rs fun K47 hK47 => ?_
        refine s_val hF (x_move rfl) (by decide) fun a hF => ?_
        refine s_val hF (x_move rfl) (by decide) fun a hF => ?_
        refine s_val hF (x_move rfl) (by decide) fun a hF => ?_
        refine s_val hF (x_ixa rfl rfl (m_ixsK i Tryd.underlying31 el31.size rfl (by omega))) (by decide) fun a hF => ?_
        refine s_val hF ((hR.below hB).load (j := i) (by omega) rfl) (by decide) fun a hF => ?_
        have hY0 := hY
        refine s_call (R := fun v w' => v = .bool true ∧ KL g m w w' ∧ ∃ m', LG w' g m' (ss ++ [(ls.getD i z0)]) ∧ Yg w0.heap.size m') hF [.pointer (some ⟨g, 0, none⟩), sigv ((ls.getD i z0))] (enters_of Tryd.func13 (by kernel_rfl) rfl) rfl (by decide) (issue13y w0.heap.size g m ss _ (hR.good (j := i) (by omega)) w hL hY (by omega) hno) ?_
        rintro _ w29 a ⟨rfl, KL30, m, hL2, hY⟩ hF
        have sKL30 := KL30.size
        have hB := KL30.young hB hg0 hY0
        have hOw := KL30.own hL hOw
        have hL := hL2
        refine s_val hF (x_move rfl) (by decide) fun a hF => ?_
        refine s_val hF (x_eqB (b := false) Tryd.underlying4 rfl rfl rfl) (by decide) fun a hF => ?_
        refine s_end (hK47 _ _ ?_)
        refine wp_if hF rfl ?_
        refine wp_skip (hK46 _ _ ?_)
        refine wp_rs fun K48 hK48 => ?_
        refine s_val hF (x_move rfl) (by decide) fun a hF => ?_
        refine s_val hF (x_not rfl) (by decide) fun a hF => ?_
        refine s_end (hK48 _ _ ?_)
        refine wp_if hF rfl ?_
        refine wp_region_lit ?_
        refine s_val hF (x_move rfl) (by decide) fun a hF => ?_
        refine s_val hF (x_move rfl) (by decide) fun a hF => ?_
        refine s_val hF (x_move rfl) (by decide) fun a hF => ?_
        refine s_val hF (x_ixa rfl rfl (m_ixsK i Tryd.underlying31 el31.size rfl (by omega))) (by decide) fun a hF => ?_
        refine s_val hF ((hR.below hB).load (j := i) (by omega) rfl) (by decide) fun a hF => ?_
        refine s_litG [sigv (ls.getD i z0)] el31 hF (by decide) rfl (lit_size (hR.good (j := i) (by omega))) rfl (by decide) (by decide) fun w31 bl a ebl ml B32 zbl hF => ?_
        have sB32 := B32.size
        have hB := hB.trans (B32.mono hB.size)
        have hL := hL.below B32
        have hOw := own_below hOw B32
        rw [lit_cells] at ml
        refine s_appG el31 hF (by decide) rfl rfl hOw (RG.one (hR.good (j := i) (by omega)) ml).1 (by simpa using gm_one [(ls.getD i z0)]) (by simp only [List.length_singleton]; omega) (by unfold maxLen; simp only [List.length_singleton]; omega) (by omega) fun va w33 a hO2 G34 hwG34 hF => ?_
        have sG34 := G34.size
        have hL := hL.grown hOw G34
        have hB := hB.trans (grown_below G34 hB.size (fun k hk => (hOw.lt k hk).1))
        have hOw : w33.ownsRow w0.heap.size 26 33 va (ss ++ [(ls.getD i z0)]).length ((ss ++ [(ls.getD i z0)]).flatMap sigL) := by rw [List.length_append, List.flatMap_append]; exact hO2
        obtain ⟨av, cv, rfl, _⟩ := (Rd.own hOw).form
        refine s_val hF (x_assign rfl) (by decide) fun a hF => ?_
        refine s_end ?_
        exact key42 _ _ m (ss ++ [(ls.getD i z0)]) av cv ⟨hL, hY, hOw, (fun s hs => by rcases List.mem_append.1 hs with hs | hs; exact hG s hs; rw [List.mem_singleton.1 hs]; exact (hR.good (j := i) (by omega))), hB⟩ (by simp only [List.length_append, List.length_singleton]; omega) (hF.sub _ rfl)
      · have hin : ls.getD i z0 ∈ ss := by simpa using hth.symm
        obtain ⟨bq, off, c, hve, _⟩ := hO.some (by omega)
        cases hve
        refine wp_rs fun K49 hK49 => ?_
        refine s_val hF (x_move rfl) (by decide) fun a hF => ?_
        refine s_val hF (x_move rfl) (by decide) fun a hF => ?_
        refine s_val hF (x_len Tryd.underlying32 rfl) (by decide) fun a hF => ?_
        refine s_val hF (x_lss (b := true) (decide_eq_true (by omega)) rfl rfl) (by decide) fun a hF => ?_
        refine s_val hF (x_move rfl) (by decide) fun a hF => ?_
        refine s_grd 56 hF rfl rfl rfl ?_
        refine s_val hF (x_move rfl) (by decide) fun a hF => ?_
        refine s_grd 56 hF rfl rfl rfl ?_
        refine s_val hF (x_move rfl) (by decide) fun a hF => ?_
        refine s_grd 56 hF rfl rfl rfl ?_
        refine s_val hF (x_ixa rfl rfl (m_ixs i Tryd.underlying32 el32.size rfl (by omega))) (by decide) fun a hF => ?_
        refine s_grd 56 hF rfl rfl rfl ?_
        refine s_val hF ((hO.below hB).load (u := true) hu rfl) (by decide) fun a hF => ?_
        refine s_val hF (x_pick rfl rfl) (by decide) fun a hF => ?_
        refine s_end (hK49 _ _ ?_)
        refine wp_if hF rfl ?_
        refine wp_seq_k fun K50 hK50 => ?_
        refine wp_rs fun K51 hK51 => ?_
        refine s_val hF (x_move rfl) (by decide) fun a hF => ?_
        refine s_val hF (x_move rfl) (by decide) fun a hF => ?_
        refine s_val hF (x_move rfl) (by decide) fun a hF => ?_
        refine s_val hF (x_ixa rfl rfl (m_ixsK i Tryd.underlying31 el31.size rfl (by omega))) (by decide) fun a hF => ?_
        refine s_val hF ((hR.below hB).load (j := i) (by omega) rfl) (by decide) fun a hF => ?_
        have hY0 := hY
        refine s_call (R := fun v w' => v = .bool false ∧ KL g m w w' ∧ ∃ m', LG w' g m' ss ∧ Yg w0.heap.size m') hF [.pointer (some ⟨g, 0, none⟩), sigv ((ls.getD i z0))] (enters_of Tryd.func13 (by kernel_rfl) rfl) rfl (by decide) (issue13t w0.heap.size g m ss _ (hR.good (j := i) (by omega)) w hL hY (by omega) hin) ?_
        rintro _ w35 a ⟨rfl, KL36, m, hL2, hY⟩ hF
        have sKL36 := KL36.size
        have hB := KL36.young hB hg0 hY0
        have hOw := KL36.own hL hOw
        have hL := hL2
        refine s_val hF (x_move rfl) (by decide) fun a hF => ?_
        refine s_val hF (x_eqB (b := false) Tryd.underlying4 rfl rfl rfl) (by decide) fun a hF => ?_
        refine s_end (hK51 _ _ ?_)
        refine wp_if hF rfl ?_
        refine wp_skip (hK50 _ _ ?_)
        refine wp_rs fun K52 hK52 => ?_
        refine s_val hF (x_move rfl) (by decide) fun a hF => ?_
        refine s_val hF (x_not rfl) (by decide) fun a hF => ?_
        refine s_end (hK52 _ _ ?_)
        refine wp_if hF rfl ?_
        refine wp_skip ?_
        exact key42 _ _ m ss av cv ⟨hL, hY, hOw, hG, hB⟩ (by omega) (hF.sub _ rfl)
      · have hno : ls.getD i z0 ∉ ss := by simpa using hth.symm
        obtain ⟨bq, off, c, hve, _⟩ := hO.some (by omega)
        cases hve
        refine wp_rs fun K53 hK53 => ?_
        refine s_val hF (x_move rfl) (by decide) fun a hF => ?_
        refine s_val hF (x_move rfl) (by decide) fun a hF => ?_
        refine s_val hF (x_len Tryd.underlying32 rfl) (by decide) fun a hF => ?_
        refine s_val hF (x_lss (b := true) (decide_eq_true (by omega)) rfl rfl) (by decide) fun a hF => ?_
        refine s_val hF (x_move rfl) (by decide) fun a hF => ?_
        refine s_grd 56 hF rfl rfl rfl ?_
        refine s_val hF (x_move rfl) (by decide) fun a hF => ?_
        refine s_grd 56 hF rfl rfl rfl ?_
        refine s_val hF (x_move rfl) (by decide) fun a hF => ?_
        refine s_grd 56 hF rfl rfl rfl ?_
        refine s_val hF (x_ixa rfl rfl (m_ixs i Tryd.underlying32 el32.size rfl (by omega))) (by decide) fun a hF => ?_
        refine s_grd 56 hF rfl rfl rfl ?_
        refine s_val hF ((hO.below hB).load (u := false) hu rfl) (by decide) fun a hF => ?_
        refine s_val hF (x_pick rfl rfl) (by decide) fun a hF => ?_
        refine s_end (hK53 _ _ ?_)
        refine wp_if hF rfl ?_
        refine wp_rs fun K54 hK54 => ?_
        refine s_val hF (x_move rfl) (by decide) fun a hF => ?_
        refine s_val hF (x_move rfl) (by decide) fun a hF => ?_
        refine s_val hF (x_move rfl) (by decide) fun a hF => ?_
        refine s_val hF (x_ixa rfl rfl (m_ixsK i Tryd.underlying31 el31.size rfl (by omega))) (by decide) fun a hF => ?_
        refine s_val hF ((hR.below hB).load (j := i) (by omega) rfl) (by decide) fun a hF => ?_
        refine s_callB [.pointer (some ⟨g, 0, none⟩), sigv (ls.getD i z0)] hF (enters_of Tryd.func14 (by kernel_rfl) rfl) rfl (by decide) (issued14b g m ss _ false (hR.good (j := i) (by omega)) w hL (decide_eq_false hno)) fun w37 a B38 hF => ?_
        have sB38 := B38.size
        have hB := hB.trans (B38.mono hB.size)
        have hL := hL.below B38
        have hOw := own_below hOw B38
        refine s_val hF (x_move rfl) (by decide) fun a hF => ?_
        refine s_val hF (x_neB (b := false) Tryd.underlying4 rfl rfl rfl) (by decide) fun a hF => ?_
        refine s_end (hK54 _ _ ?_)
        refine wp_if hF rfl ?_
        refine wp_skip ?_
        exact key42 _ _ m ss av cv ⟨hL, hY, hOw, hG, hB⟩ (by omega) (hF.sub _ rfl)
      · have hin : ls.getD i z0 ∈ ss := by simpa using hth.symm
        obtain ⟨bq, off, c, hve, _⟩ := hO.some (by omega)
        cases hve
        refine wp_rs fun K55 hK55 => ?_
        refine s_val hF (x_move rfl) (by decide) fun a hF => ?_
        refine s_val hF (x_move rfl) (by decide) fun a hF => ?_
        refine s_val hF (x_len Tryd.underlying32 rfl) (by decide) fun a hF => ?_
        refine s_val hF (x_lss (b := true) (decide_eq_true (by omega)) rfl rfl) (by decide) fun a hF => ?_
        refine s_val hF (x_move rfl) (by decide) fun a hF => ?_
        refine s_grd 56 hF rfl rfl rfl ?_
        refine s_val hF (x_move rfl) (by decide) fun a hF => ?_
        refine s_grd 56 hF rfl rfl rfl ?_
        refine s_val hF (x_move rfl) (by decide) fun a hF => ?_
        refine s_grd 56 hF rfl rfl rfl ?_
        refine s_val hF (x_ixa rfl rfl (m_ixs i Tryd.underlying32 el32.size rfl (by omega))) (by decide) fun a hF => ?_
        refine s_grd 56 hF rfl rfl rfl ?_
        refine s_val hF ((hO.below hB).load (u := false) hu rfl) (by decide) fun a hF => ?_
        refine s_val hF (x_pick rfl rfl) (by decide) fun a hF => ?_
        refine s_end (hK55 _ _ ?_)
        refine wp_if hF rfl ?_
        refine wp_rs fun K56 hK56 => ?_
        refine s_val hF (x_move rfl) (by decide) fun a hF => ?_
        refine s_val hF (x_move rfl) (by decide) fun a hF => ?_
        refine s_val hF (x_move rfl) (by decide) fun a hF => ?_
        refine s_val hF (x_ixa rfl rfl (m_ixsK i Tryd.underlying31 el31.size rfl (by omega))) (by decide) fun a hF => ?_
        refine s_val hF ((hR.below hB).load (j := i) (by omega) rfl) (by decide) fun a hF => ?_
        refine s_callB [.pointer (some ⟨g, 0, none⟩), sigv (ls.getD i z0)] hF (enters_of Tryd.func14 (by kernel_rfl) rfl) rfl (by decide) (issued14b g m ss _ true (hR.good (j := i) (by omega)) w hL (decide_eq_true hin)) fun w39 a B40 hF => ?_
        have sB40 := B40.size
        have hB := hB.trans (B40.mono hB.size)
        have hL := hL.below B40
        have hOw := own_below hOw B40
        refine s_val hF (x_move rfl) (by decide) fun a hF => ?_
        refine s_val hF (x_neB (b := false) Tryd.underlying4 rfl rfl rfl) (by decide) fun a hF => ?_
        refine s_end (hK56 _ _ ?_)
        refine wp_if hF rfl ?_
        refine wp_skip ?_
        exact key42 _ _ m ss av cv ⟨hL, hY, hOw, hG, hB⟩ (by omega) (hF.sub _ rfl)
      · have hno : ls.getD i z0 ∉ ss := by simpa using hth.symm
        refine wp_rs fun K57 hK57 => ?_
        refine s_val hF (x_move rfl) (by decide) fun a hF => ?_
        refine s_val hF (x_move rfl) (by decide) fun a hF => ?_
        refine s_val hF (x_len Tryd.underlying32 rfl) (by decide) fun a hF => ?_
        refine s_val hF (x_lss (b := false) (decide_eq_false (by omega)) rfl rfl) (by decide) fun a hF => ?_
        refine s_val hF (x_move rfl) (by decide) fun a hF => ?_
        refine s_grdn 56 hF rfl rfl (by decide) fun a hF => ?_
        refine s_grdn 56 hF rfl rfl (by decide) fun a hF => ?_
        refine s_grdn 56 hF rfl rfl (by decide) fun a hF => ?_
        refine s_grdn 56 hF rfl rfl (by decide) fun a hF => ?_
        refine s_val hF (x_pick rfl rfl) (by decide) fun a hF => ?_
        refine s_end (hK57 _ _ ?_)
        refine wp_if hF rfl ?_
        refine wp_rs fun K58 hK58 => ?_
        refine s_val hF (x_move rfl) (by decide) fun a hF => ?_
        refine s_val hF (x_move rfl) (by decide) fun a hF => ?_
        refine s_val hF (x_move rfl) (by decide) fun a hF => ?_
        refine s_val hF (x_ixa rfl rfl (m_ixsK i Tryd.underlying31 el31.size rfl (by omega))) (by decide) fun a hF => ?_
        refine s_val hF ((hR.below hB).load (j := i) (by omega) rfl) (by decide) fun a hF => ?_
        refine s_callB [.pointer (some ⟨g, 0, none⟩), sigv (ls.getD i z0)] hF (enters_of Tryd.func14 (by kernel_rfl) rfl) rfl (by decide) (issued14b g m ss _ false (hR.good (j := i) (by omega)) w hL (decide_eq_false hno)) fun w41 a B42 hF => ?_
        have sB42 := B42.size
        have hB := hB.trans (B42.mono hB.size)
        have hL := hL.below B42
        have hOw := own_below hOw B42
        refine s_val hF (x_move rfl) (by decide) fun a hF => ?_
        refine s_val hF (x_neB (b := false) Tryd.underlying4 rfl rfl rfl) (by decide) fun a hF => ?_
        refine s_end (hK58 _ _ ?_)
        refine wp_if hF rfl ?_
        refine wp_skip ?_
        exact key42 _ _ m ss av cv ⟨hL, hY, hOw, hG, hB⟩ (by omega) (hF.sub _ rfl)
      · have hin : ls.getD i z0 ∈ ss := by simpa using hth.symm
        refine wp_rs fun K59 hK59 => ?_
        refine s_val hF (x_move rfl) (by decide) fun a hF => ?_
        refine s_val hF (x_move rfl) (by decide) fun a hF => ?_
        refine s_val hF (x_len Tryd.underlying32 rfl) (by decide) fun a hF => ?_
        refine s_val hF (x_lss (b := false) (decide_eq_false (by omega)) rfl rfl) (by decide) fun a hF => ?_
        refine s_val hF (x_move rfl) (by decide) fun a hF => ?_
        refine s_grdn 56 hF rfl rfl (by decide) fun a hF => ?_
        refine s_grdn 56 hF rfl rfl (by decide) fun a hF => ?_
        refine s_grdn 56 hF rfl rfl (by decide) fun a hF => ?_
        refine s_grdn 56 hF rfl rfl (by decide) fun a hF => ?_
        refine s_val hF (x_pick rfl rfl) (by decide) fun a hF => ?_
        refine s_end (hK59 _ _ ?_)
        refine wp_if hF rfl ?_
        refine wp_rs fun K60 hK60 => ?_
        refine s_val hF (x_move rfl) (by decide) fun a hF => ?_
        refine s_val hF (x_move rfl) (by decide) fun a hF => ?_
        refine s_val hF (x_move rfl) (by decide) fun a hF => ?_
        refine s_val hF (x_ixa rfl rfl (m_ixsK i Tryd.underlying31 el31.size rfl (by omega))) (by decide) fun a hF => ?_
        refine s_val hF ((hR.below hB).load (j := i) (by omega) rfl) (by decide) fun a hF => ?_
        refine s_callB [.pointer (some ⟨g, 0, none⟩), sigv (ls.getD i z0)] hF (enters_of Tryd.func14 (by kernel_rfl) rfl) rfl (by decide) (issued14b g m ss _ true (hR.good (j := i) (by omega)) w hL (decide_eq_true hin)) fun w43 a B44 hF => ?_
        have sB44 := B44.size
        have hB := hB.trans (B44.mono hB.size)
        have hL := hL.below B44
        have hOw := own_below hOw B44
        refine s_val hF (x_move rfl) (by decide) fun a hF => ?_
        refine s_val hF (x_neB (b := false) Tryd.underlying4 rfl rfl rfl) (by decide) fun a hF => ?_
        refine s_end (hK60 _ _ ?_)
        refine wp_if hF rfl ?_
        refine wp_skip ?_
        exact key42 _ _ m ss av cv ⟨hL, hY, hOw, hG, hB⟩ (by omega) (hF.sub _ rfl)
  · skip
    refine wp_rs fun K61 hK61 => ?_
    refine s_val hF (x_move rfl) (by decide) fun a hF => ?_
    refine s_val hF (x_move rfl) (by decide) fun a hF => ?_
    refine s_val hF (x_len Tryd.underlying31 rfl) (by decide) fun a hF => ?_
    refine s_val hF (x_lss (b := true) (decide_eq_true (by omega)) rfl rfl) (by decide) fun a hF => ?_
    refine s_val hF (x_move rfl) (by decide) fun a hF => ?_
    refine s_grd 30 hF rfl rfl rfl ?_
    refine s_val hF (x_move rfl) (by decide) fun a hF => ?_
    refine s_grd 30 hF rfl rfl rfl ?_
    refine s_val hF (x_lss (b := false) (decide_eq_false (by omega)) rfl rfl) (by decide) fun a hF => ?_
    refine s_val hF (x_pick rfl rfl) (by decide) fun a hF => ?_
    refine s_end (hK61 _ _ ?_)
    refine wp_if hF rfl ?_
    refine wp_exit ?_
    exact key6 _ _ m ss av cv ⟨hL, hY, hOw, hG, hB⟩ (by omega) (hF.sub _ rfl)
  · skip
    refine wp_rs fun K62 hK62 => ?_
    refine s_val hF (x_move rfl) (by decide) fun a hF => ?_
    refine s_val hF (x_move rfl) (by decide) fun a hF => ?_
    refine s_val hF (x_len Tryd.underlying31 rfl) (by decide) fun a hF => ?_
    refine s_val hF (x_lss (b := false) (decide_eq_false (by omega)) rfl rfl) (by decide) fun a hF => ?_
    refine s_val hF (x_move rfl) (by decide) fun a hF => ?_
    refine s_grdn 30 hF rfl rfl (by decide) fun a hF => ?_
    refine s_grdn 30 hF rfl rfl (by decide) fun a hF => ?_
    refine s_val hF (x_pick rfl rfl) (by decide) fun a hF => ?_
    refine s_end (hK62 _ _ ?_)
    refine wp_if hF rfl ?_
    refine wp_exit ?_
    exact key6 _ _ m ss av cv ⟨hL, hY, hOw, hG, hB⟩ (by omega) (hF.sub _ rfl)
end Go.Proofs.YtefpenjcgplamaaDoor
