/- GenTables' regions that make its two lists anew: one more, one less. -/
import Derived.Test.YtikomlcghplchaaFrmS
import Derived.Test.YtikomlcghplchaaIntM
namespace Go.Proofs.Ytikomlcghplchaa
open Go.RowKit Go.Shelf
set_option linter.unusedVariables false
set_option linter.unusedSimpArgs false

theorem RO.item {W : World} {a : Option Addr} {n c : Nat} {os : List OpG} (h : RO W (.slice a n c) os) {j : Nat} (hj : j < os.length) :
    ∃ ad f1 : Addr, (∀ w, (Instr.indexAt 45 (.slice a n c) (.int .i64 j)).run Try.prog w = .ok (.pointer (some ad)) w) ∧ W.cell? f1 = some (.int .i64 os[j].item) ∧
      (∀ w, (Instr.fieldAt 50 (.pointer (some ad)) 2).run Try.prog w = .ok (.pointer (some f1)) w) := by
  rcases h with ⟨_, rfl⟩ | ⟨b, off, cap, e, hc⟩
  · simp at hj
  · cases e
    obtain ⟨c1, c2, c3⟩ := hc j _ (List.getElem?_eq_getElem hj)
    refine ⟨⟨b, off + 3 * j, none⟩, ⟨b, off + 3 * j + 2, none⟩, fun w => ?_, c3, fun w => ?_⟩
    · have hs : ∀ w, (Go.sizeOf 50).run Try.prog w = .ok 3 w := Try.sizeOf50
      have hj' : (0 : Int) ≤ j ∧ (j : Int) < os.length := by omega
      rw [run_indexAt_slice (P := Try.prog) w 45 ⟨b, off, none⟩ os.length c .i64 j (by rw [show Try.prog.elem 45 = 50 by kernel_rfl]; exact Try.underlying45)]
      simp [hj'.2, show Try.prog.elem 45 = 50 by kernel_rfl, hs, addr_add, Result.andThen]
    · go_simp
/-- Behind the region: slot s holds v', slots lo to hi whatever, all others what they held. -/
def BehindT (s lo hi : Nat) (v' : Value) (l : List (Nat × Value)) (a' : Act) : Prop := ∃ X : List (Nat × Value), Fr 233 a' (X ++ l) ∧ X.lookup s = some v' ∧ ∀ p ∈ X, p.1 = s ∨ lo ≤ p.1 ∧ p.1 ≤ hi
/-- Behind the region the frame is known again: slot s, and letters in the region's own slots. -/
theorem BehindT.act {s lo hi : Nat} {v' : Value} {t : Array Value} {pre : List (Nat × Value)} {a' : Act} (hs : t.size = 233) (hs233 : s < 233) (hp : ∀ p ∈ pre, t[p.1]? = some p.2) (h : BehindT s lo hi v' (pre ++ full t) a') :
    a' = { tmps := (fillA a'.tmps lo (hi + 1 - lo) t).setIfInBounds s v', defers := [] } := by
  obtain ⟨X, hF, h4, hX⟩ := h
  have hsz := hF.size
  have ht : a'.tmps = (fillA a'.tmps lo (hi + 1 - lo) t).setIfInBounds s v' := by
    apply Array.ext_getElem?
    intro j
    by_cases hj : j < 233
    · rw [Array.getElem?_setIfInBounds, fillA_size, fillA_get _ _ _ _ _ (by omega)]
      by_cases e4 : s = j
      · subst e4
        rw [if_pos rfl, if_pos (by omega)]
        exact hF.slot s v' (by rw [List.lookup_append, h4]; rfl)
      · rw [if_neg e4]
        by_cases hr : lo ≤ j ∧ j < lo + (hi + 1 - lo)
        · rw [if_pos hr, Array.getD, dif_pos (by omega)]
          exact Array.getElem?_eq_getElem (by omega)
        · rw [if_neg hr]
          have hn : X.lookup j = none := by
            rw [List.lookup_eq_none_iff]
            intro p hpX
            have := hX p hpX
            have hne : j ≠ p.1 := by omega
            simpa using hne
          have hl : (X ++ (pre ++ full t)).lookup j = t[j]? := by rw [List.lookup_append, hn, pre_lookup t j pre hp]; rfl
          rw [Array.getElem?_eq_getElem (by omega : j < t.size)] at hl ⊢
          exact hF.slot j _ hl
    · rw [Array.getElem?_eq_none (by omega), Array.getElem?_eq_none (by simp [fillA_size]; omega)]
  have hd := hF.defers
  cases a'
  simp only at ht hd
  rw [← ht, hd]
/-- An empty slice made; one of one string. -/
theorem wp_build_noneI {o : Oper} {a : Act} {w : World} {R : Act → World → Prop} {Q : Exit → Act → World → Prop} (ho : o.op = .buildSlice 22 0 #[]) (h : R (a.put o.dst (.slice (some ⟨w.heap.size, 0, none⟩) 0 0)) (w.alloc (.cells #[] 3))) : Oper.wp Try.prog o a w R Q := by
  obtain ⟨i0, hi, hz0, hz1, hz2⟩ := info_parts info3
  have ht := Try.underlying22
  unfold Oper.wp
  simp only [execOp, ho]
  go_simp
  exact h
theorem wp_build_oneI {o : Oper} {a : Act} {w : World} {R : Act → World → Prop} {Q : Exit → Act → World → Prop} {x : Operand} {s : Int} (ho : o.op = .buildSlice 22 1 #[(0, x)]) (hx : a.eval x = .int .i64 s) (h : R (a.put o.dst (.slice (some ⟨w.heap.size, 0, none⟩) 1 1)) (w.alloc (.cells #[.int .i64 s] 3))) : Oper.wp Try.prog o a w R Q := by
  obtain ⟨i0, hi, hz0, hz1, hz2⟩ := info_parts info3
  have ht := Try.underlying22
  unfold Oper.wp
  simp only [execOp, ho, List.map_toArray, List.map_cons, List.map_nil, hx]
  go_simp
  exact h
theorem none_rowII (w : World) {base : Nat} (hb : base ≤ w.heap.size) : (w.alloc (.cells #[] 3)).ownsRow base 3 1 (.slice (some ⟨w.heap.size, 0, none⟩) 0 0) ([] : List Int).length (([] : List Int).map encI) :=
  World.ownsRow_lit w #[] 0 hb (by decide) rfl
theorem one_rowI (w : World) (s : Int) : RI (w.alloc (.cells #[.int .i64 s] 3)) (.slice (some ⟨w.heap.size, 0, none⟩) 1 1) [s] := by
  refine .inr ⟨w.heap.size, 0, 1, rfl, by simp, fun j u hj => ?_⟩
  have hj0 : j = 0 := by
    have := (List.getElem?_eq_some_iff.1 hj).1
    simpa using this
  subst hj0
  simp at hj
  subst hj
  exact (Boxed.new w 3 (.int .i64 s)).cell
theorem RI.apart {W W' : World} {v z : Value} {bs : List Int} (h : RI W v bs) (ho : Only (fun k => z.ownBlock = some k) W W') (hne : ∀ k, z.ownBlock = some k → v.ownBlock ≠ some k) : RI W' v bs := by
  rcases h with h | ⟨b, off, cap, rfl, h1, h2⟩
  · exact .inl h
  · refine .inr ⟨b, off, cap, rfl, h1, fun j u hj => ?_⟩
    have hc := h2 j u hj
    exact (ho.cell (p := ⟨b, off + j, none⟩) (cells_blockS hc) (fun e => hne b e rfl)).trans hc

set_option maxRecDepth 100000 in
set_option maxHeartbeats 4000000 in
/-- m = append(append([]string{}, m[:at]...), m[at+1:]...). -/
theorem t27 (ks : List ByteArray) (i : Nat) (hi : i < ks.length) (hl : ks.length ≤ 1000) (am : Option Addr) (nm cm : Nat) (l : List (Nat × Value)) (a : Act) (w : World) (hv : RS w (.slice am nm cm) ks)
    (hF : Fr 233 a ((4, .slice am nm cm) :: (7, .int .i64 (i : Int)) :: l)) :
    wpAnyH Try.prog .any (regOps Try.f9 27) (QN fun a' w' => ∃ v', BehindT 4 167 176 v' ((4, .slice am nm cm) :: (7, .int .i64 (i : Int)) :: l) a' ∧
        w'.ownsRow w.heap.size 9 1 v' (ks.take i ++ ks.drop (i + 1)).length ((ks.take i ++ ks.drop (i + 1)).map encS) ∧ Below w.heap.size w w') (SB w) 11 (lst 11 []) a w.drew := by
  have hB0 : Below w.heap.size w w.drew := (Below.refl _ _).drew
  have hS : SB w w.drew := hB0
  obtain ⟨u1, hr1, hu1⟩ := hv.head (k := i) (by omega)
  obtain ⟨u2, hr2, hu2⟩ := hv.rest (k := i + 1) (by omega)
  refine take_move (g := none) 1 168 (.tmp 4) (.slice am nm cm) hF hS (by kernel_rfl) (by kernel_rfl) (by decide) (by kernel_rfl) (by kernel_rfl) ?_; intro a hF
  refine take_move (g := none) 2 169 (.tmp 7) (.int .i64 (i : Int)) hF hS (by kernel_rfl) (by kernel_rfl) (by decide) (by kernel_rfl) (by kernel_rfl) ?_; intro a hF
  refine take_upto (g := none) 3 170 48 (.tmp 168) (.tmp 169) (.slice am nm cm) (.int .i64 (i : Int)) u1 hF hS (by kernel_rfl) (by kernel_rfl) (by decide) (by kernel_rfl) (by kernel_rfl) (by kernel_rfl) hr1 ?_; intro a hF
  refine take_move (g := none) 5 172 (.tmp 4) (.slice am nm cm) hF hS (by kernel_rfl) (by kernel_rfl) (by decide) (by kernel_rfl) (by kernel_rfl) ?_; intro a hF
  refine take_move (g := none) 6 173 (.tmp 7) (.int .i64 (i : Int)) hF hS (by kernel_rfl) (by kernel_rfl) (by decide) (by kernel_rfl) (by kernel_rfl) ?_; intro a hF
  refine take_bin (g := none) 7 174 .add 3 3 (.tmp 173) (.const (.int .i64 1)) (.int .i64 (i : Int)) (.int .i64 1) (.int .i64 ((i + 1 : Nat) : Int)) hF hS (by kernel_rfl) (by kernel_rfl) (by decide) (by kernel_rfl) (by kernel_rfl) (by kernel_rfl) (add_int (by omega)) ?_; intro a hF
  refine take_from (g := none) 8 175 48 (.tmp 172) (.tmp 174) (.slice am nm cm) (.int .i64 ((i + 1 : Nat) : Int)) u2 hF hS (by kernel_rfl) (by kernel_rfl) (by decide) (by kernel_rfl) (by kernel_rfl) (by kernel_rfl) hr2 ?_; intro a hF
  refine draw_only (i := 0) (by kernel_rfl) (step_of (i := 0) (d := 167) (op := .buildSlice 48 0 #[]) (g := none) (by kernel_rfl) hF (by kernel_rfl) fun o ho hdst => ?_)
  refine wp_build_none ho ?_
  rw [hdst]
  have hF := hF.put 167 (by decide) (.slice (some ⟨w.drew.heap.size, 0, none⟩) 0 0)
  have hou := none_row w.drew (base := w.heap.size) (Nat.le_refl _)
  generalize a.put (some 167) _ = a at hF ⊢
  generalize Value.slice (some ⟨w.drew.heap.size, 0, none⟩) 0 0 = z at hF hou
  have hB1 : Below w.heap.size w (w.drew.alloc (.cells #[] 9)) := hB0.alloc hB0.size _
  generalize w.drew.alloc (.cells #[] 9) = w1 at hou hB1 ⊢
  refine ⟨hB1, ?_⟩
  refine draw_only (i := 4) (by kernel_rfl) (step_of (i := 4) (d := 171) (op := .call { callee := .builtin .append, args := #[.tmp 167, .tmp 170], argTypes := #[48, 48] }) (g := none) (by kernel_rfl) hF (by kernel_rfl) fun o ho hdst => ?_)
  refine wp_append_rs _ _ ho w.heap.size z [] (hF.ev (by rfl)) hou u1 (ks.take i) (hF.ev (by rfl)) (hu1.below hB1) (by simp; omega) (Below.size hB1) ?_
  intro v2 w2 ho2 hk2 hw2
  rw [hdst]
  have hF := hF.put 171 (by decide) v2
  generalize a.put (some 171) v2 = a at hF ⊢
  have hB2 : Below w.heap.size w w2 := ((Only.of_below (H := fun _ => False) hB1).trans hk2 (fun k hk => .inr (hou.lt k hk).1)).below (fun b hb => hb.elim)
  refine ⟨hB2, ?_⟩
  simp only [List.nil_append] at ho2
  refine draw_only (i := 9) (by kernel_rfl) (step_of (i := 9) (d := 176) (op := .call { callee := .builtin .append, args := #[.tmp 171, .tmp 175], argTypes := #[48, 48] }) (g := none) (by kernel_rfl) hF (by kernel_rfl) fun o ho hdst => ?_)
  refine wp_append_rs _ _ ho w.heap.size v2 (ks.take i) (hF.ev (by rfl)) ho2 u2 (ks.drop (i + 1)) (hF.ev (by rfl)) (hu2.below hB2) (by simp; omega) (Below.size hB2) ?_
  intro v3 w3 ho3 hk3 hw3
  rw [hdst]
  have hF := hF.put 176 (by decide) v3
  generalize a.put (some 176) v3 = a at hF ⊢
  have hB3 : Below w.heap.size w w3 := ((Only.of_below (H := fun _ => False) hB2).trans hk3 (fun k hk => .inr (ho2.lt k hk).1)).below (fun b hb => hb.elim)
  refine ⟨hB3, ?_⟩
  have hS : SB w w3 := hB3
  refine take_assign (g := none) 10 4 (.tmp 176) v3 hF hS (by kernel_rfl) (by kernel_rfl) (by decide) (by kernel_rfl) (by kernel_rfl) ?_; intro a hF
  exact draw_done (by kernel_rfl) ⟨v3, ⟨[(4, v3), (176, v3), (171, v2), (167, z), (175, u2), (174, .int .i64 ((i + 1 : Nat) : Int)), (173, .int .i64 (i : Int)), (172, .slice am nm cm), (170, u1), (169, .int .i64 (i : Int)), (168, .slice am nm cm)], hF, rfl, by simp⟩, ho3, hB3⟩

set_option maxRecDepth 100000 in
set_option maxHeartbeats 4000000 in
/-- m = append(append(append([]string{}, m[:at]...), l[i].Key), m[at:]...). -/
theorem t21 (ks : List ByteArray) (i : Nat) (hi : i ≤ ks.length) (hl : ks.length ≤ 1000) (am : Option Addr) (nm cm : Nat) (ao : Option Addr) (no co : Nat) (os : List OpG) (q : Nat) (hq : q < os.length) (l : List (Nat × Value)) (a : Act) (w : World) (hv : RS w (.slice am nm cm) ks) (ho : RO w (.slice ao no co) os)
    (hF : Fr 233 a ((4, .slice am nm cm) :: (7, .int .i64 (i : Int)) :: (0, .slice ao no co) :: (6, .int .i64 (q : Int)) :: l)) :
    wpAnyH Try.prog .any (regOps Try.f9 21) (QN fun a' w' => ∃ v', BehindT 4 123 138 v' ((4, .slice am nm cm) :: (7, .int .i64 (i : Int)) :: (0, .slice ao no co) :: (6, .int .i64 (q : Int)) :: l) a' ∧
        w'.ownsRow w.heap.size 9 1 v' (ks.take i ++ [os[q].key] ++ ks.drop i).length ((ks.take i ++ [os[q].key] ++ ks.drop i).map encS) ∧ Below w.heap.size w w') (SB w) 17 (lst 17 []) a w.drew := by
  have hB0 : Below w.heap.size w w.drew := (Below.refl _ _).drew
  have hS : SB w w.drew := hB0
  obtain ⟨u1, hr1, hu1⟩ := hv.head (k := i) (by omega)
  obtain ⟨u2, hr2, hu2⟩ := hv.rest (k := i) (by omega)
  obtain ⟨ad, f1, hix, _, hkey, _, hfd⟩ := ho.at hq
  have hld : ∀ W, SB w W → (Instr.loadAt 9 (.pointer (some f1))).run Try.prog W = .ok (.string os[q].key) W := fun W hW => by
    have hc : W.cell? f1 = some (.string os[q].key) := (Below.cell hW (p := f1) (cells_blockS hkey)).trans hkey
    go_simp
  generalize os[q].key = x at hld ⊢
  refine take_move (g := none) 1 124 (.tmp 4) (.slice am nm cm) hF hS (by kernel_rfl) (by kernel_rfl) (by decide) (by kernel_rfl) (by kernel_rfl) ?_; intro a hF
  refine take_move (g := none) 2 125 (.tmp 7) (.int .i64 (i : Int)) hF hS (by kernel_rfl) (by kernel_rfl) (by decide) (by kernel_rfl) (by kernel_rfl) ?_; intro a hF
  refine take_upto (g := none) 3 126 48 (.tmp 124) (.tmp 125) (.slice am nm cm) (.int .i64 (i : Int)) u1 hF hS (by kernel_rfl) (by kernel_rfl) (by decide) (by kernel_rfl) (by kernel_rfl) (by kernel_rfl) hr1 ?_; intro a hF
  refine take_move (g := none) 5 128 (.tmp 0) (.slice ao no co) hF hS (by kernel_rfl) (by kernel_rfl) (by decide) (by kernel_rfl) (by kernel_rfl) ?_; intro a hF
  refine take_move (g := none) 6 129 (.tmp 6) (.int .i64 (q : Int)) hF hS (by kernel_rfl) (by kernel_rfl) (by decide) (by kernel_rfl) (by kernel_rfl) ?_; intro a hF
  refine take_index (g := none) 7 130 45 (.tmp 128) (.tmp 129) (.slice ao no co) (.int .i64 (q : Int)) (.pointer (some ad)) hF hS (by kernel_rfl) (by kernel_rfl) (by decide) (by kernel_rfl) (by kernel_rfl) (by kernel_rfl) hix ?_; intro a hF
  refine take_field (g := none) 8 131 50 (.tmp 130) 1 (.pointer (some ad)) (.pointer (some f1)) hF hS (by kernel_rfl) (by kernel_rfl) (by decide) (by kernel_rfl) (by kernel_rfl) (fun W _ => hfd W) ?_; intro a hF
  refine take_load (g := none) 9 132 9 (.tmp 131) (.pointer (some f1)) (.string x) hF hS (by kernel_rfl) (by kernel_rfl) (by decide) (by kernel_rfl) (by kernel_rfl) hld ?_; intro a hF
  refine take_move (g := none) 12 135 (.tmp 4) (.slice am nm cm) hF hS (by kernel_rfl) (by kernel_rfl) (by decide) (by kernel_rfl) (by kernel_rfl) ?_; intro a hF
  refine take_move (g := none) 13 136 (.tmp 7) (.int .i64 (i : Int)) hF hS (by kernel_rfl) (by kernel_rfl) (by decide) (by kernel_rfl) (by kernel_rfl) ?_; intro a hF
  refine take_from (g := none) 14 137 48 (.tmp 135) (.tmp 136) (.slice am nm cm) (.int .i64 (i : Int)) u2 hF hS (by kernel_rfl) (by kernel_rfl) (by decide) (by kernel_rfl) (by kernel_rfl) (by kernel_rfl) hr2 ?_; intro a hF
  refine draw_either (i := 0) (j := 10) (by kernel_rfl) ?_ ?_
  · refine step_of (i := 0) (d := 123) (op := .buildSlice 48 0 #[]) (g := none) (by kernel_rfl) hF (by kernel_rfl) fun o ho hdst => ?_
    refine wp_build_none ho ?_
    rw [hdst]
    have hou := none_row w.drew (base := w.heap.size) (Below.size hB0)
    have hBz : Below w.heap.size w (w.drew.alloc (.cells #[] 9)) := Below.alloc hB0 (Below.size hB0) _
    have hF := hF.put 123 (by decide) (.slice (some ⟨w.drew.heap.size, 0, none⟩) 0 0)
    generalize a.put (some 123) _ = a at hF ⊢
    generalize hz : Value.slice (some ⟨w.drew.heap.size, 0, none⟩) 0 0 = z at hF hou
    have hz0 : z.ownBlock = some w.drew.heap.size := by rw [← hz]; rfl
    generalize hwz : w.drew.alloc (.cells #[] 9) = wz at hou hBz ⊢
    refine ⟨hBz, ?_⟩
    refine draw_either (i := 4) (j := 10) (by kernel_rfl) ?_ ?_
    · refine step_of (i := 4) (d := 127) (op := .call { callee := .builtin .append, args := #[.tmp 123, .tmp 126], argTypes := #[48, 48] }) (g := none) (by kernel_rfl) hF (by kernel_rfl) fun o ho hdst => ?_
      refine wp_append_rs _ _ ho w.heap.size z [] (hF.ev (by rfl)) hou u1 (ks.take i) (hF.ev (by rfl)) (hu1.below hBz) (by simp; omega) (Below.size hBz) ?_
      intro v3 w3 ho3 hk3 hw3
      rw [hdst]
      have hF := hF.put 127 (by decide) v3
      generalize a.put (some 127) v3 = a at hF ⊢
      have hB3 : Below w.heap.size w w3 := ((Only.of_below (H := fun _ => False) hBz).trans hk3 (fun k hk => .inr (hou.lt k hk).1)).below (fun b hb => hb.elim)
      refine ⟨hB3, ?_⟩
      simp only [List.nil_append] at ho3
      refine draw_only (i := 10) (by kernel_rfl) (step_of (i := 10) (d := 133) (op := .buildSlice 48 1 #[(0, .tmp 132)]) (g := none) (by kernel_rfl) hF (by kernel_rfl) fun o ho hdst => ?_)
      refine wp_build_one ho (hF.ev (by rfl)) ?_
      rw [hdst]
      have hone := one_row w3 x
      have hBo : Below w.heap.size w (w3.alloc (.cells #[.string x] 9)) := Below.alloc hB3 (Below.size hB3) _
      have hF := hF.put 133 (by decide) (.slice (some ⟨w3.heap.size, 0, none⟩) 1 1)
      generalize a.put (some 133) _ = a at hF ⊢
      generalize hy : Value.slice (some ⟨w3.heap.size, 0, none⟩) 1 1 = y at hF hone
      have hy0 : y.ownBlock = some w3.heap.size := by rw [← hy]; rfl
      generalize hwo : w3.alloc (.cells #[.string x] 9) = wo at hone hBo ⊢
      refine ⟨hBo, ?_⟩
      have ho3o : wo.ownsRow w.heap.size 9 1 v3 (ks.take i).length ((ks.take i).map encS) := by rw [← hwo]; exact ho3.alloc _
      refine draw_only (i := 11) (by kernel_rfl) (step_of (i := 11) (d := 134) (op := .call { callee := .builtin .append, args := #[.tmp 127, .tmp 133], argTypes := #[48, 48] }) (g := none) (by kernel_rfl) hF (by kernel_rfl) fun o ho hdst => ?_)
      refine wp_append_rs _ _ ho w.heap.size v3 (ks.take i) (hF.ev (by rfl)) ho3o y [x] (hF.ev (by rfl)) hone (by simp; omega) (Below.size hBo) ?_
      intro v4 w4 ho4 hk4 hw4
      rw [hdst]
      have hF := hF.put 134 (by decide) v4
      generalize a.put (some 134) v4 = a at hF ⊢
      have hB4 : Below w.heap.size w w4 := ((Only.of_below (H := fun _ => False) hBo).trans hk4 (fun k hk => .inr (ho3o.lt k hk).1)).below (fun b hb => hb.elim)
      refine ⟨hB4, ?_⟩
      refine draw_only (i := 15) (by kernel_rfl) (step_of (i := 15) (d := 138) (op := .call { callee := .builtin .append, args := #[.tmp 134, .tmp 137], argTypes := #[48, 48] }) (g := none) (by kernel_rfl) hF (by kernel_rfl) fun o ho hdst => ?_)
      refine wp_append_rs _ _ ho w.heap.size v4 (ks.take i ++ [x]) (hF.ev (by rfl)) ho4 u2 (ks.drop i) (hF.ev (by rfl)) (hu2.below hB4) (by simp; omega) (Below.size hB4) ?_
      intro v5 w5 ho5 hk5 hw5
      rw [hdst]
      have hF := hF.put 138 (by decide) v5
      generalize a.put (some 138) v5 = a at hF ⊢
      have hB5 : Below w.heap.size w w5 := ((Only.of_below (H := fun _ => False) hB4).trans hk5 (fun k hk => .inr (ho4.lt k hk).1)).below (fun b hb => hb.elim)
      refine ⟨hB5, ?_⟩
      have hS : SB w w5 := hB5
      refine take_assign (g := none) 16 4 (.tmp 138) v5 hF hS (by kernel_rfl) (by kernel_rfl) (by decide) (by kernel_rfl) (by kernel_rfl) ?_; intro a hF
      exact draw_done (by kernel_rfl) ⟨v5, ⟨[(4, v5), (138, v5), (134, v4), (133, y), (127, v3), (123, z), (137, u2), (136, (.int .i64 (i : Int))), (135, (.slice am nm cm)), (132, (.string x)), (131, (.pointer (some f1))), (130, (.pointer (some ad))), (129, (.int .i64 (q : Int))), (128, (.slice ao no co)), (126, u1), (125, (.int .i64 (i : Int))), (124, (.slice am nm cm))], hF, rfl, by simp⟩, ho5, hB5⟩
    · refine step_of (i := 10) (d := 133) (op := .buildSlice 48 1 #[(0, .tmp 132)]) (g := none) (by kernel_rfl) hF (by kernel_rfl) fun o ho hdst => ?_
      refine wp_build_one ho (hF.ev (by rfl)) ?_
      rw [hdst]
      have hone := one_row wz x
      have hBo : Below w.heap.size w (wz.alloc (.cells #[.string x] 9)) := Below.alloc hBz (Below.size hBz) _
      have hF := hF.put 133 (by decide) (.slice (some ⟨wz.heap.size, 0, none⟩) 1 1)
      generalize a.put (some 133) _ = a at hF ⊢
      generalize hy : Value.slice (some ⟨wz.heap.size, 0, none⟩) 1 1 = y at hF hone
      have hy0 : y.ownBlock = some wz.heap.size := by rw [← hy]; rfl
      generalize hwo : wz.alloc (.cells #[.string x] 9) = wo at hone hBo ⊢
      refine ⟨hBo, ?_⟩
      have hzy : ∀ k, z.ownBlock = some k → y.ownBlock ≠ some k := fun k hk e => by
        have h1 := (hou.lt k hk).2
        rw [hy0] at e
        simp only [Option.some.injEq] at e
        omega
      have houo : wo.ownsRow w.heap.size 9 1 z ([] : List ByteArray).length (([] : List ByteArray).map encS) := by rw [← hwo]; exact hou.alloc _
      refine draw_only (i := 4) (by kernel_rfl) (step_of (i := 4) (d := 127) (op := .call { callee := .builtin .append, args := #[.tmp 123, .tmp 126], argTypes := #[48, 48] }) (g := none) (by kernel_rfl) hF (by kernel_rfl) fun o ho hdst => ?_)
      refine wp_append_rs _ _ ho w.heap.size z [] (hF.ev (by rfl)) houo u1 (ks.take i) (hF.ev (by rfl)) (hu1.below hBo) (by simp; omega) (Below.size hBo) ?_
      intro v3 w3 ho3 hk3 hw3
      rw [hdst]
      have hF := hF.put 127 (by decide) v3
      generalize a.put (some 127) v3 = a at hF ⊢
      have hB3 : Below w.heap.size w w3 := ((Only.of_below (H := fun _ => False) hBo).trans hk3 (fun k hk => .inr (houo.lt k hk).1)).below (fun b hb => hb.elim)
      refine ⟨hB3, ?_⟩
      simp only [List.nil_append] at ho3
      have hone3 : RS w3 y [x] := RS.apart hone hk3 hzy
      refine draw_only (i := 11) (by kernel_rfl) (step_of (i := 11) (d := 134) (op := .call { callee := .builtin .append, args := #[.tmp 127, .tmp 133], argTypes := #[48, 48] }) (g := none) (by kernel_rfl) hF (by kernel_rfl) fun o ho hdst => ?_)
      refine wp_append_rs _ _ ho w.heap.size v3 (ks.take i) (hF.ev (by rfl)) ho3 y [x] (hF.ev (by rfl)) hone3 (by simp; omega) (Below.size hB3) ?_
      intro v4 w4 ho4 hk4 hw4
      rw [hdst]
      have hF := hF.put 134 (by decide) v4
      generalize a.put (some 134) v4 = a at hF ⊢
      have hB4 : Below w.heap.size w w4 := ((Only.of_below (H := fun _ => False) hB3).trans hk4 (fun k hk => .inr (ho3.lt k hk).1)).below (fun b hb => hb.elim)
      refine ⟨hB4, ?_⟩
      refine draw_only (i := 15) (by kernel_rfl) (step_of (i := 15) (d := 138) (op := .call { callee := .builtin .append, args := #[.tmp 134, .tmp 137], argTypes := #[48, 48] }) (g := none) (by kernel_rfl) hF (by kernel_rfl) fun o ho hdst => ?_)
      refine wp_append_rs _ _ ho w.heap.size v4 (ks.take i ++ [x]) (hF.ev (by rfl)) ho4 u2 (ks.drop i) (hF.ev (by rfl)) (hu2.below hB4) (by simp; omega) (Below.size hB4) ?_
      intro v5 w5 ho5 hk5 hw5
      rw [hdst]
      have hF := hF.put 138 (by decide) v5
      generalize a.put (some 138) v5 = a at hF ⊢
      have hB5 : Below w.heap.size w w5 := ((Only.of_below (H := fun _ => False) hB4).trans hk5 (fun k hk => .inr (ho4.lt k hk).1)).below (fun b hb => hb.elim)
      refine ⟨hB5, ?_⟩
      have hS : SB w w5 := hB5
      refine take_assign (g := none) 16 4 (.tmp 138) v5 hF hS (by kernel_rfl) (by kernel_rfl) (by decide) (by kernel_rfl) (by kernel_rfl) ?_; intro a hF
      exact draw_done (by kernel_rfl) ⟨v5, ⟨[(4, v5), (138, v5), (134, v4), (127, v3), (133, y), (123, z), (137, u2), (136, (.int .i64 (i : Int))), (135, (.slice am nm cm)), (132, (.string x)), (131, (.pointer (some f1))), (130, (.pointer (some ad))), (129, (.int .i64 (q : Int))), (128, (.slice ao no co)), (126, u1), (125, (.int .i64 (i : Int))), (124, (.slice am nm cm))], hF, rfl, by simp⟩, ho5, hB5⟩
  · refine step_of (i := 10) (d := 133) (op := .buildSlice 48 1 #[(0, .tmp 132)]) (g := none) (by kernel_rfl) hF (by kernel_rfl) fun o ho hdst => ?_
    refine wp_build_one ho (hF.ev (by rfl)) ?_
    rw [hdst]
    have hone := one_row w.drew x
    have hBo : Below w.heap.size w (w.drew.alloc (.cells #[.string x] 9)) := Below.alloc hB0 (Below.size hB0) _
    have hF := hF.put 133 (by decide) (.slice (some ⟨w.drew.heap.size, 0, none⟩) 1 1)
    generalize a.put (some 133) _ = a at hF ⊢
    generalize hy : Value.slice (some ⟨w.drew.heap.size, 0, none⟩) 1 1 = y at hF hone
    have hy0 : y.ownBlock = some w.drew.heap.size := by rw [← hy]; rfl
    generalize hwo : w.drew.alloc (.cells #[.string x] 9) = wo at hone hBo ⊢
    refine ⟨hBo, ?_⟩
    refine draw_only (i := 0) (by kernel_rfl) (step_of (i := 0) (d := 123) (op := .buildSlice 48 0 #[]) (g := none) (by kernel_rfl) hF (by kernel_rfl) fun o ho hdst => ?_)
    refine wp_build_none ho ?_
    rw [hdst]
    have hou := none_row wo (base := w.heap.size) (Below.size hBo)
    have hBz : Below w.heap.size w (wo.alloc (.cells #[] 9)) := Below.alloc hBo (Below.size hBo) _
    have hF := hF.put 123 (by decide) (.slice (some ⟨wo.heap.size, 0, none⟩) 0 0)
    generalize a.put (some 123) _ = a at hF ⊢
    generalize hz : Value.slice (some ⟨wo.heap.size, 0, none⟩) 0 0 = z at hF hou
    have hz0 : z.ownBlock = some wo.heap.size := by rw [← hz]; rfl
    generalize hwz : wo.alloc (.cells #[] 9) = wz at hou hBz ⊢
    refine ⟨hBz, ?_⟩
    have honez : RS wz y [x] := by rw [← hwz]; exact RS.below hone ((Below.refl _ wo).alloc (Nat.le_refl _) _)
    have hzy : ∀ k, z.ownBlock = some k → y.ownBlock ≠ some k := fun k hk e => by
      have h1 : w.drew.heap.size < wo.heap.size := by rw [← hwo]; simp
      rw [hz0] at hk
      rw [hy0, ← hk] at e
      simp only [Option.some.injEq] at e
      omega
    refine draw_only (i := 4) (by kernel_rfl) (step_of (i := 4) (d := 127) (op := .call { callee := .builtin .append, args := #[.tmp 123, .tmp 126], argTypes := #[48, 48] }) (g := none) (by kernel_rfl) hF (by kernel_rfl) fun o ho hdst => ?_)
    refine wp_append_rs _ _ ho w.heap.size z [] (hF.ev (by rfl)) hou u1 (ks.take i) (hF.ev (by rfl)) (hu1.below hBz) (by simp; omega) (Below.size hBz) ?_
    intro v3 w3 ho3 hk3 hw3
    rw [hdst]
    have hF := hF.put 127 (by decide) v3
    generalize a.put (some 127) v3 = a at hF ⊢
    have hB3 : Below w.heap.size w w3 := ((Only.of_below (H := fun _ => False) hBz).trans hk3 (fun k hk => .inr (hou.lt k hk).1)).below (fun b hb => hb.elim)
    refine ⟨hB3, ?_⟩
    simp only [List.nil_append] at ho3
    have hone3 : RS w3 y [x] := RS.apart honez hk3 hzy
    refine draw_only (i := 11) (by kernel_rfl) (step_of (i := 11) (d := 134) (op := .call { callee := .builtin .append, args := #[.tmp 127, .tmp 133], argTypes := #[48, 48] }) (g := none) (by kernel_rfl) hF (by kernel_rfl) fun o ho hdst => ?_)
    refine wp_append_rs _ _ ho w.heap.size v3 (ks.take i) (hF.ev (by rfl)) ho3 y [x] (hF.ev (by rfl)) hone3 (by simp; omega) (Below.size hB3) ?_
    intro v4 w4 ho4 hk4 hw4
    rw [hdst]
    have hF := hF.put 134 (by decide) v4
    generalize a.put (some 134) v4 = a at hF ⊢
    have hB4 : Below w.heap.size w w4 := ((Only.of_below (H := fun _ => False) hB3).trans hk4 (fun k hk => .inr (ho3.lt k hk).1)).below (fun b hb => hb.elim)
    refine ⟨hB4, ?_⟩
    refine draw_only (i := 15) (by kernel_rfl) (step_of (i := 15) (d := 138) (op := .call { callee := .builtin .append, args := #[.tmp 134, .tmp 137], argTypes := #[48, 48] }) (g := none) (by kernel_rfl) hF (by kernel_rfl) fun o ho hdst => ?_)
    refine wp_append_rs _ _ ho w.heap.size v4 (ks.take i ++ [x]) (hF.ev (by rfl)) ho4 u2 (ks.drop i) (hF.ev (by rfl)) (hu2.below hB4) (by simp; omega) (Below.size hB4) ?_
    intro v5 w5 ho5 hk5 hw5
    rw [hdst]
    have hF := hF.put 138 (by decide) v5
    generalize a.put (some 138) v5 = a at hF ⊢
    have hB5 : Below w.heap.size w w5 := ((Only.of_below (H := fun _ => False) hB4).trans hk5 (fun k hk => .inr (ho4.lt k hk).1)).below (fun b hb => hb.elim)
    refine ⟨hB5, ?_⟩
    have hS : SB w w5 := hB5
    refine take_assign (g := none) 16 4 (.tmp 138) v5 hF hS (by kernel_rfl) (by kernel_rfl) (by decide) (by kernel_rfl) (by kernel_rfl) ?_; intro a hF
    exact draw_done (by kernel_rfl) ⟨v5, ⟨[(4, v5), (138, v5), (134, v4), (127, v3), (123, z), (133, y), (137, u2), (136, (.int .i64 (i : Int))), (135, (.slice am nm cm)), (132, (.string x)), (131, (.pointer (some f1))), (130, (.pointer (some ad))), (129, (.int .i64 (q : Int))), (128, (.slice ao no co)), (126, u1), (125, (.int .i64 (i : Int))), (124, (.slice am nm cm))], hF, rfl, by simp⟩, ho5, hB5⟩
set_option maxRecDepth 100000 in
set_option maxHeartbeats 4000000 in
/-- m = append(append([]string{}, m[:at]...), m[at+1:]...). -/
theorem t28 (ks : List Int) (i : Nat) (hi : i < ks.length) (hl : ks.length ≤ 1000) (am : Option Addr) (nm cm : Nat) (l : List (Nat × Value)) (a : Act) (w : World) (hv : RI w (.slice am nm cm) ks)
    (hF : Fr 233 a ((5, .slice am nm cm) :: (7, .int .i64 (i : Int)) :: l)) :
    wpAnyH Try.prog .any (regOps Try.f9 28) (QN fun a' w' => ∃ v', BehindT 5 177 186 v' ((5, .slice am nm cm) :: (7, .int .i64 (i : Int)) :: l) a' ∧
        w'.ownsRow w.heap.size 3 1 v' (ks.take i ++ ks.drop (i + 1)).length ((ks.take i ++ ks.drop (i + 1)).map encI) ∧ Below w.heap.size w w') (SB w) 11 (lst 11 []) a w.drew := by
  have hB0 : Below w.heap.size w w.drew := (Below.refl _ _).drew
  have hS : SB w w.drew := hB0
  obtain ⟨u1, hr1, hu1⟩ := hv.head (k := i) (by omega)
  obtain ⟨u2, hr2, hu2⟩ := hv.rest (k := i + 1) (by omega)
  refine take_move (g := none) 1 178 (.tmp 5) (.slice am nm cm) hF hS (by kernel_rfl) (by kernel_rfl) (by decide) (by kernel_rfl) (by kernel_rfl) ?_; intro a hF
  refine take_move (g := none) 2 179 (.tmp 7) (.int .i64 (i : Int)) hF hS (by kernel_rfl) (by kernel_rfl) (by decide) (by kernel_rfl) (by kernel_rfl) ?_; intro a hF
  refine take_upto (g := none) 3 180 22 (.tmp 178) (.tmp 179) (.slice am nm cm) (.int .i64 (i : Int)) u1 hF hS (by kernel_rfl) (by kernel_rfl) (by decide) (by kernel_rfl) (by kernel_rfl) (by kernel_rfl) hr1 ?_; intro a hF
  refine take_move (g := none) 5 182 (.tmp 5) (.slice am nm cm) hF hS (by kernel_rfl) (by kernel_rfl) (by decide) (by kernel_rfl) (by kernel_rfl) ?_; intro a hF
  refine take_move (g := none) 6 183 (.tmp 7) (.int .i64 (i : Int)) hF hS (by kernel_rfl) (by kernel_rfl) (by decide) (by kernel_rfl) (by kernel_rfl) ?_; intro a hF
  refine take_bin (g := none) 7 184 .add 3 3 (.tmp 183) (.const (.int .i64 1)) (.int .i64 (i : Int)) (.int .i64 1) (.int .i64 ((i + 1 : Nat) : Int)) hF hS (by kernel_rfl) (by kernel_rfl) (by decide) (by kernel_rfl) (by kernel_rfl) (by kernel_rfl) (add_int (by omega)) ?_; intro a hF
  refine take_from (g := none) 8 185 22 (.tmp 182) (.tmp 184) (.slice am nm cm) (.int .i64 ((i + 1 : Nat) : Int)) u2 hF hS (by kernel_rfl) (by kernel_rfl) (by decide) (by kernel_rfl) (by kernel_rfl) (by kernel_rfl) hr2 ?_; intro a hF
  refine draw_only (i := 0) (by kernel_rfl) (step_of (i := 0) (d := 177) (op := .buildSlice 22 0 #[]) (g := none) (by kernel_rfl) hF (by kernel_rfl) fun o ho hdst => ?_)
  refine wp_build_noneI ho ?_
  rw [hdst]
  have hF := hF.put 177 (by decide) (.slice (some ⟨w.drew.heap.size, 0, none⟩) 0 0)
  have hou := none_rowII w.drew (base := w.heap.size) (Nat.le_refl _)
  generalize a.put (some 177) _ = a at hF ⊢
  generalize Value.slice (some ⟨w.drew.heap.size, 0, none⟩) 0 0 = z at hF hou
  have hB1 : Below w.heap.size w (w.drew.alloc (.cells #[] 3)) := hB0.alloc hB0.size _
  generalize w.drew.alloc (.cells #[] 3) = w1 at hou hB1 ⊢
  refine ⟨hB1, ?_⟩
  refine draw_only (i := 4) (by kernel_rfl) (step_of (i := 4) (d := 181) (op := .call { callee := .builtin .append, args := #[.tmp 177, .tmp 180], argTypes := #[22, 22] }) (g := none) (by kernel_rfl) hF (by kernel_rfl) fun o ho hdst => ?_)
  refine wp_append_ri _ _ ho w.heap.size z [] (hF.ev (by rfl)) hou u1 (ks.take i) (hF.ev (by rfl)) (hu1.below hB1) (by simp; omega) (Below.size hB1) ?_
  intro v2 w2 ho2 hk2 hw2
  rw [hdst]
  have hF := hF.put 181 (by decide) v2
  generalize a.put (some 181) v2 = a at hF ⊢
  have hB2 : Below w.heap.size w w2 := ((Only.of_below (H := fun _ => False) hB1).trans hk2 (fun k hk => .inr (hou.lt k hk).1)).below (fun b hb => hb.elim)
  refine ⟨hB2, ?_⟩
  simp only [List.nil_append] at ho2
  refine draw_only (i := 9) (by kernel_rfl) (step_of (i := 9) (d := 186) (op := .call { callee := .builtin .append, args := #[.tmp 181, .tmp 185], argTypes := #[22, 22] }) (g := none) (by kernel_rfl) hF (by kernel_rfl) fun o ho hdst => ?_)
  refine wp_append_ri _ _ ho w.heap.size v2 (ks.take i) (hF.ev (by rfl)) ho2 u2 (ks.drop (i + 1)) (hF.ev (by rfl)) (hu2.below hB2) (by simp; omega) (Below.size hB2) ?_
  intro v3 w3 ho3 hk3 hw3
  rw [hdst]
  have hF := hF.put 186 (by decide) v3
  generalize a.put (some 186) v3 = a at hF ⊢
  have hB3 : Below w.heap.size w w3 := ((Only.of_below (H := fun _ => False) hB2).trans hk3 (fun k hk => .inr (ho2.lt k hk).1)).below (fun b hb => hb.elim)
  refine ⟨hB3, ?_⟩
  have hS : SB w w3 := hB3
  refine take_assign (g := none) 10 5 (.tmp 186) v3 hF hS (by kernel_rfl) (by kernel_rfl) (by decide) (by kernel_rfl) (by kernel_rfl) ?_; intro a hF
  exact draw_done (by kernel_rfl) ⟨v3, ⟨[(5, v3), (186, v3), (181, v2), (177, z), (185, u2), (184, .int .i64 ((i + 1 : Nat) : Int)), (183, .int .i64 (i : Int)), (182, .slice am nm cm), (180, u1), (179, .int .i64 (i : Int)), (178, .slice am nm cm)], hF, rfl, by simp⟩, ho3, hB3⟩

set_option maxRecDepth 100000 in
set_option maxHeartbeats 4000000 in
/-- m = append(append(append([]string{}, m[:at]...), l[i].Key), m[at:]...). -/
theorem t22 (ks : List Int) (i : Nat) (hi : i ≤ ks.length) (hl : ks.length ≤ 1000) (am : Option Addr) (nm cm : Nat) (ao : Option Addr) (no co : Nat) (os : List OpG) (q : Nat) (hq : q < os.length) (l : List (Nat × Value)) (a : Act) (w : World) (hv : RI w (.slice am nm cm) ks) (ho : RO w (.slice ao no co) os)
    (hF : Fr 233 a ((5, .slice am nm cm) :: (7, .int .i64 (i : Int)) :: (0, .slice ao no co) :: (6, .int .i64 (q : Int)) :: l)) :
    wpAnyH Try.prog .any (regOps Try.f9 22) (QN fun a' w' => ∃ v', BehindT 5 139 154 v' ((5, .slice am nm cm) :: (7, .int .i64 (i : Int)) :: (0, .slice ao no co) :: (6, .int .i64 (q : Int)) :: l) a' ∧
        w'.ownsRow w.heap.size 3 1 v' (ks.take i ++ [os[q].item] ++ ks.drop i).length ((ks.take i ++ [os[q].item] ++ ks.drop i).map encI) ∧ Below w.heap.size w w') (SB w) 17 (lst 17 []) a w.drew := by
  have hB0 : Below w.heap.size w w.drew := (Below.refl _ _).drew
  have hS : SB w w.drew := hB0
  obtain ⟨u1, hr1, hu1⟩ := hv.head (k := i) (by omega)
  obtain ⟨u2, hr2, hu2⟩ := hv.rest (k := i) (by omega)
  obtain ⟨ad, f1, hix, hkey, hfd⟩ := ho.item hq
  have hld : ∀ W, SB w W → (Instr.loadAt 3 (.pointer (some f1))).run Try.prog W = .ok (.int .i64 os[q].item) W := fun W hW => by
    have hc : W.cell? f1 = some (.int .i64 os[q].item) := (Below.cell hW (p := f1) (cells_blockS hkey)).trans hkey
    go_simp
  generalize os[q].item = x at hld ⊢
  refine take_move (g := none) 1 140 (.tmp 5) (.slice am nm cm) hF hS (by kernel_rfl) (by kernel_rfl) (by decide) (by kernel_rfl) (by kernel_rfl) ?_; intro a hF
  refine take_move (g := none) 2 141 (.tmp 7) (.int .i64 (i : Int)) hF hS (by kernel_rfl) (by kernel_rfl) (by decide) (by kernel_rfl) (by kernel_rfl) ?_; intro a hF
  refine take_upto (g := none) 3 142 22 (.tmp 140) (.tmp 141) (.slice am nm cm) (.int .i64 (i : Int)) u1 hF hS (by kernel_rfl) (by kernel_rfl) (by decide) (by kernel_rfl) (by kernel_rfl) (by kernel_rfl) hr1 ?_; intro a hF
  refine take_move (g := none) 5 144 (.tmp 0) (.slice ao no co) hF hS (by kernel_rfl) (by kernel_rfl) (by decide) (by kernel_rfl) (by kernel_rfl) ?_; intro a hF
  refine take_move (g := none) 6 145 (.tmp 6) (.int .i64 (q : Int)) hF hS (by kernel_rfl) (by kernel_rfl) (by decide) (by kernel_rfl) (by kernel_rfl) ?_; intro a hF
  refine take_index (g := none) 7 146 45 (.tmp 144) (.tmp 145) (.slice ao no co) (.int .i64 (q : Int)) (.pointer (some ad)) hF hS (by kernel_rfl) (by kernel_rfl) (by decide) (by kernel_rfl) (by kernel_rfl) (by kernel_rfl) hix ?_; intro a hF
  refine take_field (g := none) 8 147 50 (.tmp 146) 2 (.pointer (some ad)) (.pointer (some f1)) hF hS (by kernel_rfl) (by kernel_rfl) (by decide) (by kernel_rfl) (by kernel_rfl) (fun W _ => hfd W) ?_; intro a hF
  refine take_load (g := none) 9 148 3 (.tmp 147) (.pointer (some f1)) (.int .i64 x) hF hS (by kernel_rfl) (by kernel_rfl) (by decide) (by kernel_rfl) (by kernel_rfl) hld ?_; intro a hF
  refine take_move (g := none) 12 151 (.tmp 5) (.slice am nm cm) hF hS (by kernel_rfl) (by kernel_rfl) (by decide) (by kernel_rfl) (by kernel_rfl) ?_; intro a hF
  refine take_move (g := none) 13 152 (.tmp 7) (.int .i64 (i : Int)) hF hS (by kernel_rfl) (by kernel_rfl) (by decide) (by kernel_rfl) (by kernel_rfl) ?_; intro a hF
  refine take_from (g := none) 14 153 22 (.tmp 151) (.tmp 152) (.slice am nm cm) (.int .i64 (i : Int)) u2 hF hS (by kernel_rfl) (by kernel_rfl) (by decide) (by kernel_rfl) (by kernel_rfl) (by kernel_rfl) hr2 ?_; intro a hF
  refine draw_either (i := 0) (j := 10) (by kernel_rfl) ?_ ?_
  · refine step_of (i := 0) (d := 139) (op := .buildSlice 22 0 #[]) (g := none) (by kernel_rfl) hF (by kernel_rfl) fun o ho hdst => ?_
    refine wp_build_noneI ho ?_
    rw [hdst]
    have hou := none_rowII w.drew (base := w.heap.size) (Below.size hB0)
    have hBz : Below w.heap.size w (w.drew.alloc (.cells #[] 3)) := Below.alloc hB0 (Below.size hB0) _
    have hF := hF.put 139 (by decide) (.slice (some ⟨w.drew.heap.size, 0, none⟩) 0 0)
    generalize a.put (some 139) _ = a at hF ⊢
    generalize hz : Value.slice (some ⟨w.drew.heap.size, 0, none⟩) 0 0 = z at hF hou
    have hz0 : z.ownBlock = some w.drew.heap.size := by rw [← hz]; rfl
    generalize hwz : w.drew.alloc (.cells #[] 3) = wz at hou hBz ⊢
    refine ⟨hBz, ?_⟩
    refine draw_either (i := 4) (j := 10) (by kernel_rfl) ?_ ?_
    · refine step_of (i := 4) (d := 143) (op := .call { callee := .builtin .append, args := #[.tmp 139, .tmp 142], argTypes := #[22, 22] }) (g := none) (by kernel_rfl) hF (by kernel_rfl) fun o ho hdst => ?_
      refine wp_append_ri _ _ ho w.heap.size z [] (hF.ev (by rfl)) hou u1 (ks.take i) (hF.ev (by rfl)) (hu1.below hBz) (by simp; omega) (Below.size hBz) ?_
      intro v3 w3 ho3 hk3 hw3
      rw [hdst]
      have hF := hF.put 143 (by decide) v3
      generalize a.put (some 143) v3 = a at hF ⊢
      have hB3 : Below w.heap.size w w3 := ((Only.of_below (H := fun _ => False) hBz).trans hk3 (fun k hk => .inr (hou.lt k hk).1)).below (fun b hb => hb.elim)
      refine ⟨hB3, ?_⟩
      simp only [List.nil_append] at ho3
      refine draw_only (i := 10) (by kernel_rfl) (step_of (i := 10) (d := 149) (op := .buildSlice 22 1 #[(0, .tmp 148)]) (g := none) (by kernel_rfl) hF (by kernel_rfl) fun o ho hdst => ?_)
      refine wp_build_oneI ho (hF.ev (by rfl)) ?_
      rw [hdst]
      have hone := one_rowI w3 x
      have hBo : Below w.heap.size w (w3.alloc (.cells #[.int .i64 x] 3)) := Below.alloc hB3 (Below.size hB3) _
      have hF := hF.put 149 (by decide) (.slice (some ⟨w3.heap.size, 0, none⟩) 1 1)
      generalize a.put (some 149) _ = a at hF ⊢
      generalize hy : Value.slice (some ⟨w3.heap.size, 0, none⟩) 1 1 = y at hF hone
      have hy0 : y.ownBlock = some w3.heap.size := by rw [← hy]; rfl
      generalize hwo : w3.alloc (.cells #[.int .i64 x] 3) = wo at hone hBo ⊢
      refine ⟨hBo, ?_⟩
      have ho3o : wo.ownsRow w.heap.size 3 1 v3 (ks.take i).length ((ks.take i).map encI) := by rw [← hwo]; exact ho3.alloc _
      refine draw_only (i := 11) (by kernel_rfl) (step_of (i := 11) (d := 150) (op := .call { callee := .builtin .append, args := #[.tmp 143, .tmp 149], argTypes := #[22, 22] }) (g := none) (by kernel_rfl) hF (by kernel_rfl) fun o ho hdst => ?_)
      refine wp_append_ri _ _ ho w.heap.size v3 (ks.take i) (hF.ev (by rfl)) ho3o y [x] (hF.ev (by rfl)) hone (by simp; omega) (Below.size hBo) ?_
      intro v4 w4 ho4 hk4 hw4
      rw [hdst]
      have hF := hF.put 150 (by decide) v4
      generalize a.put (some 150) v4 = a at hF ⊢
      have hB4 : Below w.heap.size w w4 := ((Only.of_below (H := fun _ => False) hBo).trans hk4 (fun k hk => .inr (ho3o.lt k hk).1)).below (fun b hb => hb.elim)
      refine ⟨hB4, ?_⟩
      refine draw_only (i := 15) (by kernel_rfl) (step_of (i := 15) (d := 154) (op := .call { callee := .builtin .append, args := #[.tmp 150, .tmp 153], argTypes := #[22, 22] }) (g := none) (by kernel_rfl) hF (by kernel_rfl) fun o ho hdst => ?_)
      refine wp_append_ri _ _ ho w.heap.size v4 (ks.take i ++ [x]) (hF.ev (by rfl)) ho4 u2 (ks.drop i) (hF.ev (by rfl)) (hu2.below hB4) (by simp; omega) (Below.size hB4) ?_
      intro v5 w5 ho5 hk5 hw5
      rw [hdst]
      have hF := hF.put 154 (by decide) v5
      generalize a.put (some 154) v5 = a at hF ⊢
      have hB5 : Below w.heap.size w w5 := ((Only.of_below (H := fun _ => False) hB4).trans hk5 (fun k hk => .inr (ho4.lt k hk).1)).below (fun b hb => hb.elim)
      refine ⟨hB5, ?_⟩
      have hS : SB w w5 := hB5
      refine take_assign (g := none) 16 5 (.tmp 154) v5 hF hS (by kernel_rfl) (by kernel_rfl) (by decide) (by kernel_rfl) (by kernel_rfl) ?_; intro a hF
      exact draw_done (by kernel_rfl) ⟨v5, ⟨[(5, v5), (154, v5), (150, v4), (149, y), (143, v3), (139, z), (153, u2), (152, (.int .i64 (i : Int))), (151, (.slice am nm cm)), (148, (.int .i64 x)), (147, (.pointer (some f1))), (146, (.pointer (some ad))), (145, (.int .i64 (q : Int))), (144, (.slice ao no co)), (142, u1), (141, (.int .i64 (i : Int))), (140, (.slice am nm cm))], hF, rfl, by simp⟩, ho5, hB5⟩
    · refine step_of (i := 10) (d := 149) (op := .buildSlice 22 1 #[(0, .tmp 148)]) (g := none) (by kernel_rfl) hF (by kernel_rfl) fun o ho hdst => ?_
      refine wp_build_oneI ho (hF.ev (by rfl)) ?_
      rw [hdst]
      have hone := one_rowI wz x
      have hBo : Below w.heap.size w (wz.alloc (.cells #[.int .i64 x] 3)) := Below.alloc hBz (Below.size hBz) _
      have hF := hF.put 149 (by decide) (.slice (some ⟨wz.heap.size, 0, none⟩) 1 1)
      generalize a.put (some 149) _ = a at hF ⊢
      generalize hy : Value.slice (some ⟨wz.heap.size, 0, none⟩) 1 1 = y at hF hone
      have hy0 : y.ownBlock = some wz.heap.size := by rw [← hy]; rfl
      generalize hwo : wz.alloc (.cells #[.int .i64 x] 3) = wo at hone hBo ⊢
      refine ⟨hBo, ?_⟩
      have hzy : ∀ k, z.ownBlock = some k → y.ownBlock ≠ some k := fun k hk e => by
        have h1 := (hou.lt k hk).2
        rw [hy0] at e
        simp only [Option.some.injEq] at e
        omega
      have houo : wo.ownsRow w.heap.size 3 1 z ([] : List Int).length (([] : List Int).map encI) := by rw [← hwo]; exact hou.alloc _
      refine draw_only (i := 4) (by kernel_rfl) (step_of (i := 4) (d := 143) (op := .call { callee := .builtin .append, args := #[.tmp 139, .tmp 142], argTypes := #[22, 22] }) (g := none) (by kernel_rfl) hF (by kernel_rfl) fun o ho hdst => ?_)
      refine wp_append_ri _ _ ho w.heap.size z [] (hF.ev (by rfl)) houo u1 (ks.take i) (hF.ev (by rfl)) (hu1.below hBo) (by simp; omega) (Below.size hBo) ?_
      intro v3 w3 ho3 hk3 hw3
      rw [hdst]
      have hF := hF.put 143 (by decide) v3
      generalize a.put (some 143) v3 = a at hF ⊢
      have hB3 : Below w.heap.size w w3 := ((Only.of_below (H := fun _ => False) hBo).trans hk3 (fun k hk => .inr (houo.lt k hk).1)).below (fun b hb => hb.elim)
      refine ⟨hB3, ?_⟩
      simp only [List.nil_append] at ho3
      have hone3 : RI w3 y [x] := RI.apart hone hk3 hzy
      refine draw_only (i := 11) (by kernel_rfl) (step_of (i := 11) (d := 150) (op := .call { callee := .builtin .append, args := #[.tmp 143, .tmp 149], argTypes := #[22, 22] }) (g := none) (by kernel_rfl) hF (by kernel_rfl) fun o ho hdst => ?_)
      refine wp_append_ri _ _ ho w.heap.size v3 (ks.take i) (hF.ev (by rfl)) ho3 y [x] (hF.ev (by rfl)) hone3 (by simp; omega) (Below.size hB3) ?_
      intro v4 w4 ho4 hk4 hw4
      rw [hdst]
      have hF := hF.put 150 (by decide) v4
      generalize a.put (some 150) v4 = a at hF ⊢
      have hB4 : Below w.heap.size w w4 := ((Only.of_below (H := fun _ => False) hB3).trans hk4 (fun k hk => .inr (ho3.lt k hk).1)).below (fun b hb => hb.elim)
      refine ⟨hB4, ?_⟩
      refine draw_only (i := 15) (by kernel_rfl) (step_of (i := 15) (d := 154) (op := .call { callee := .builtin .append, args := #[.tmp 150, .tmp 153], argTypes := #[22, 22] }) (g := none) (by kernel_rfl) hF (by kernel_rfl) fun o ho hdst => ?_)
      refine wp_append_ri _ _ ho w.heap.size v4 (ks.take i ++ [x]) (hF.ev (by rfl)) ho4 u2 (ks.drop i) (hF.ev (by rfl)) (hu2.below hB4) (by simp; omega) (Below.size hB4) ?_
      intro v5 w5 ho5 hk5 hw5
      rw [hdst]
      have hF := hF.put 154 (by decide) v5
      generalize a.put (some 154) v5 = a at hF ⊢
      have hB5 : Below w.heap.size w w5 := ((Only.of_below (H := fun _ => False) hB4).trans hk5 (fun k hk => .inr (ho4.lt k hk).1)).below (fun b hb => hb.elim)
      refine ⟨hB5, ?_⟩
      have hS : SB w w5 := hB5
      refine take_assign (g := none) 16 5 (.tmp 154) v5 hF hS (by kernel_rfl) (by kernel_rfl) (by decide) (by kernel_rfl) (by kernel_rfl) ?_; intro a hF
      exact draw_done (by kernel_rfl) ⟨v5, ⟨[(5, v5), (154, v5), (150, v4), (143, v3), (149, y), (139, z), (153, u2), (152, (.int .i64 (i : Int))), (151, (.slice am nm cm)), (148, (.int .i64 x)), (147, (.pointer (some f1))), (146, (.pointer (some ad))), (145, (.int .i64 (q : Int))), (144, (.slice ao no co)), (142, u1), (141, (.int .i64 (i : Int))), (140, (.slice am nm cm))], hF, rfl, by simp⟩, ho5, hB5⟩
  · refine step_of (i := 10) (d := 149) (op := .buildSlice 22 1 #[(0, .tmp 148)]) (g := none) (by kernel_rfl) hF (by kernel_rfl) fun o ho hdst => ?_
    refine wp_build_oneI ho (hF.ev (by rfl)) ?_
    rw [hdst]
    have hone := one_rowI w.drew x
    have hBo : Below w.heap.size w (w.drew.alloc (.cells #[.int .i64 x] 3)) := Below.alloc hB0 (Below.size hB0) _
    have hF := hF.put 149 (by decide) (.slice (some ⟨w.drew.heap.size, 0, none⟩) 1 1)
    generalize a.put (some 149) _ = a at hF ⊢
    generalize hy : Value.slice (some ⟨w.drew.heap.size, 0, none⟩) 1 1 = y at hF hone
    have hy0 : y.ownBlock = some w.drew.heap.size := by rw [← hy]; rfl
    generalize hwo : w.drew.alloc (.cells #[.int .i64 x] 3) = wo at hone hBo ⊢
    refine ⟨hBo, ?_⟩
    refine draw_only (i := 0) (by kernel_rfl) (step_of (i := 0) (d := 139) (op := .buildSlice 22 0 #[]) (g := none) (by kernel_rfl) hF (by kernel_rfl) fun o ho hdst => ?_)
    refine wp_build_noneI ho ?_
    rw [hdst]
    have hou := none_rowII wo (base := w.heap.size) (Below.size hBo)
    have hBz : Below w.heap.size w (wo.alloc (.cells #[] 3)) := Below.alloc hBo (Below.size hBo) _
    have hF := hF.put 139 (by decide) (.slice (some ⟨wo.heap.size, 0, none⟩) 0 0)
    generalize a.put (some 139) _ = a at hF ⊢
    generalize hz : Value.slice (some ⟨wo.heap.size, 0, none⟩) 0 0 = z at hF hou
    have hz0 : z.ownBlock = some wo.heap.size := by rw [← hz]; rfl
    generalize hwz : wo.alloc (.cells #[] 3) = wz at hou hBz ⊢
    refine ⟨hBz, ?_⟩
    have honez : RI wz y [x] := by rw [← hwz]; exact RI.below hone ((Below.refl _ wo).alloc (Nat.le_refl _) _)
    have hzy : ∀ k, z.ownBlock = some k → y.ownBlock ≠ some k := fun k hk e => by
      have h1 : w.drew.heap.size < wo.heap.size := by rw [← hwo]; simp
      rw [hz0] at hk
      rw [hy0, ← hk] at e
      simp only [Option.some.injEq] at e
      omega
    refine draw_only (i := 4) (by kernel_rfl) (step_of (i := 4) (d := 143) (op := .call { callee := .builtin .append, args := #[.tmp 139, .tmp 142], argTypes := #[22, 22] }) (g := none) (by kernel_rfl) hF (by kernel_rfl) fun o ho hdst => ?_)
    refine wp_append_ri _ _ ho w.heap.size z [] (hF.ev (by rfl)) hou u1 (ks.take i) (hF.ev (by rfl)) (hu1.below hBz) (by simp; omega) (Below.size hBz) ?_
    intro v3 w3 ho3 hk3 hw3
    rw [hdst]
    have hF := hF.put 143 (by decide) v3
    generalize a.put (some 143) v3 = a at hF ⊢
    have hB3 : Below w.heap.size w w3 := ((Only.of_below (H := fun _ => False) hBz).trans hk3 (fun k hk => .inr (hou.lt k hk).1)).below (fun b hb => hb.elim)
    refine ⟨hB3, ?_⟩
    simp only [List.nil_append] at ho3
    have hone3 : RI w3 y [x] := RI.apart honez hk3 hzy
    refine draw_only (i := 11) (by kernel_rfl) (step_of (i := 11) (d := 150) (op := .call { callee := .builtin .append, args := #[.tmp 143, .tmp 149], argTypes := #[22, 22] }) (g := none) (by kernel_rfl) hF (by kernel_rfl) fun o ho hdst => ?_)
    refine wp_append_ri _ _ ho w.heap.size v3 (ks.take i) (hF.ev (by rfl)) ho3 y [x] (hF.ev (by rfl)) hone3 (by simp; omega) (Below.size hB3) ?_
    intro v4 w4 ho4 hk4 hw4
    rw [hdst]
    have hF := hF.put 150 (by decide) v4
    generalize a.put (some 150) v4 = a at hF ⊢
    have hB4 : Below w.heap.size w w4 := ((Only.of_below (H := fun _ => False) hB3).trans hk4 (fun k hk => .inr (ho3.lt k hk).1)).below (fun b hb => hb.elim)
    refine ⟨hB4, ?_⟩
    refine draw_only (i := 15) (by kernel_rfl) (step_of (i := 15) (d := 154) (op := .call { callee := .builtin .append, args := #[.tmp 150, .tmp 153], argTypes := #[22, 22] }) (g := none) (by kernel_rfl) hF (by kernel_rfl) fun o ho hdst => ?_)
    refine wp_append_ri _ _ ho w.heap.size v4 (ks.take i ++ [x]) (hF.ev (by rfl)) ho4 u2 (ks.drop i) (hF.ev (by rfl)) (hu2.below hB4) (by simp; omega) (Below.size hB4) ?_
    intro v5 w5 ho5 hk5 hw5
    rw [hdst]
    have hF := hF.put 154 (by decide) v5
    generalize a.put (some 154) v5 = a at hF ⊢
    have hB5 : Below w.heap.size w w5 := ((Only.of_below (H := fun _ => False) hB4).trans hk5 (fun k hk => .inr (ho4.lt k hk).1)).below (fun b hb => hb.elim)
    refine ⟨hB5, ?_⟩
    have hS : SB w w5 := hB5
    refine take_assign (g := none) 16 5 (.tmp 154) v5 hF hS (by kernel_rfl) (by kernel_rfl) (by decide) (by kernel_rfl) (by kernel_rfl) ?_; intro a hF
    exact draw_done (by kernel_rfl) ⟨v5, ⟨[(5, v5), (154, v5), (150, v4), (143, v3), (139, z), (149, y), (153, u2), (152, (.int .i64 (i : Int))), (151, (.slice am nm cm)), (148, (.int .i64 x)), (147, (.pointer (some f1))), (146, (.pointer (some ad))), (145, (.int .i64 (q : Int))), (144, (.slice ao no co)), (142, u1), (141, (.int .i64 (i : Int))), (140, (.slice am nm cm))], hF, rfl, by simp⟩, ho5, hB5⟩
end Go.Proofs.Ytikomlcghplchaa
