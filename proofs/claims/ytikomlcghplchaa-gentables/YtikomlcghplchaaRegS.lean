/- GenSets' regions that make its list anew: one more, one less. -/
import Derived.Test.YtikomlcghplchaaOpM
namespace Go.Proofs.Ytikomlcghplchaa
open Go.RowKit Go.Shelf
set_option linter.unusedVariables false
set_option linter.unusedSimpArgs false

/-- An empty slice made; one of one string. -/
theorem wp_build_none {o : Oper} {a : Act} {w : World} {R : Act → World → Prop} {Q : Exit → Act → World → Prop} (ho : o.op = .buildSlice 48 0 #[]) (h : R (a.put o.dst (.slice (some ⟨w.heap.size, 0, none⟩) 0 0)) (w.alloc (.cells #[] 9))) : Oper.wp Try.prog o a w R Q := by
  obtain ⟨i0, hi, hz0, hz1, hz2⟩ := info_parts info9
  have ht := Try.underlying48
  unfold Oper.wp
  simp only [execOp, ho]
  go_simp
  exact h
theorem wp_build_one {o : Oper} {a : Act} {w : World} {R : Act → World → Prop} {Q : Exit → Act → World → Prop} {x : Operand} {s : ByteArray} (ho : o.op = .buildSlice 48 1 #[(0, x)]) (hx : a.eval x = .string s) (h : R (a.put o.dst (.slice (some ⟨w.heap.size, 0, none⟩) 1 1)) (w.alloc (.cells #[.string s] 9))) : Oper.wp Try.prog o a w R Q := by
  obtain ⟨i0, hi, hz0, hz1, hz2⟩ := info_parts info9
  have ht := Try.underlying48
  unfold Oper.wp
  simp only [execOp, ho, List.map_toArray, List.map_cons, List.map_nil, hx]
  go_simp
  exact h
theorem none_row (w : World) {base : Nat} (hb : base ≤ w.heap.size) : (w.alloc (.cells #[] 9)).ownsRow base 9 1 (.slice (some ⟨w.heap.size, 0, none⟩) 0 0) ([] : List ByteArray).length (([] : List ByteArray).map encS) :=
  World.ownsRow_lit w #[] 0 hb (by decide) rfl
theorem one_row (w : World) (s : ByteArray) : RS (w.alloc (.cells #[.string s] 9)) (.slice (some ⟨w.heap.size, 0, none⟩) 1 1) [s] := by
  refine .inr ⟨w.heap.size, 0, 1, rfl, by simp, fun j u hj => ?_⟩
  have hj0 : j = 0 := by
    have := (List.getElem?_eq_some_iff.1 hj).1
    simpa using this
  subst hj0
  simp at hj
  subst hj
  exact (Boxed.new w 9 (.string s)).cell
theorem add_int {P : Program} {t : TypeId} {x y : Operand} {p : Nat} (h : p ≤ 1000) : Binds P .add t x y (.int .i64 (p : Int)) (.int .i64 1) (.int .i64 ((p + 1 : Nat) : Int)) :=
  bin_int fun W => by
    have h1 : (0 : Int) ≤ p := by omega
    have h2 : (p : Int) ≤ 1000 := by omega
    have : IntKind.i64.wrap ((p : Int) + 1) = (p : Int) + 1 := by rw [IntKind.wrap_i64]; omega
    simp [binOp, Op.intArith, this]
theorem RS.apart {W W' : World} {v z : Value} {bs : List ByteArray} (h : RS W v bs) (ho : Only (fun k => z.ownBlock = some k) W W') (hne : ∀ k, z.ownBlock = some k → v.ownBlock ≠ some k) : RS W' v bs := by
  rcases h with h | ⟨b, off, cap, rfl, h1, h2⟩
  · exact .inl h
  · refine .inr ⟨b, off, cap, rfl, h1, fun j u hj => ?_⟩
    have hc := h2 j u hj
    exact (ho.cell (p := ⟨b, off + j, none⟩) (cells_blockS hc) (fun e => hne b e rfl)).trans hc
def SB (w : World) (W : World) : Prop := Below w.heap.size w W
/-- Behind the region: slot 4 holds v', slots lo to hi whatever, all others what they held. -/
def Behind (lo hi : Nat) (v' : Value) (l : List (Nat × Value)) (a' : Act) : Prop := ∃ X : List (Nat × Value), Fr 151 a' (X ++ l) ∧ X.lookup 4 = some v' ∧ ∀ p ∈ X, p.1 = 4 ∨ lo ≤ p.1 ∧ p.1 ≤ hi

set_option maxRecDepth 100000 in
set_option maxHeartbeats 4000000 in
/-- m = append(append([]string{}, m[:at]...), m[at+1:]...). -/
theorem r24 (ks : List ByteArray) (i : Nat) (hi : i < ks.length) (hl : ks.length ≤ 1000) (am : Option Addr) (nm cm : Nat) (l : List (Nat × Value)) (a : Act) (w : World) (hv : RS w (.slice am nm cm) ks)
    (hF : Fr 151 a ((4, .slice am nm cm) :: (6, .int .i64 (i : Int)) :: l)) :
    wpAnyH Try.prog .any (regOps Try.f8 24) (QN fun a' w' => ∃ v', Behind 112 121 v' ((4, .slice am nm cm) :: (6, .int .i64 (i : Int)) :: l) a' ∧
        w'.ownsRow w.heap.size 9 1 v' (ks.take i ++ ks.drop (i + 1)).length ((ks.take i ++ ks.drop (i + 1)).map encS) ∧ Below w.heap.size w w') (SB w) 11 (lst 11 []) a w.drew := by
  have hB0 : Below w.heap.size w w.drew := (Below.refl _ _).drew
  have hS : SB w w.drew := hB0
  obtain ⟨u1, hr1, hu1⟩ := hv.head (k := i) (by omega)
  obtain ⟨u2, hr2, hu2⟩ := hv.rest (k := i + 1) (by omega)
  refine take_move (g := none) 1 113 (.tmp 4) (.slice am nm cm) hF hS (by kernel_rfl) (by kernel_rfl) (by decide) (by kernel_rfl) (by kernel_rfl) ?_; intro a hF
  refine take_move (g := none) 2 114 (.tmp 6) (.int .i64 (i : Int)) hF hS (by kernel_rfl) (by kernel_rfl) (by decide) (by kernel_rfl) (by kernel_rfl) ?_; intro a hF
  refine take_upto (g := none) 3 115 48 (.tmp 113) (.tmp 114) (.slice am nm cm) (.int .i64 (i : Int)) u1 hF hS (by kernel_rfl) (by kernel_rfl) (by decide) (by kernel_rfl) (by kernel_rfl) (by kernel_rfl) hr1 ?_; intro a hF
  refine take_move (g := none) 5 117 (.tmp 4) (.slice am nm cm) hF hS (by kernel_rfl) (by kernel_rfl) (by decide) (by kernel_rfl) (by kernel_rfl) ?_; intro a hF
  refine take_move (g := none) 6 118 (.tmp 6) (.int .i64 (i : Int)) hF hS (by kernel_rfl) (by kernel_rfl) (by decide) (by kernel_rfl) (by kernel_rfl) ?_; intro a hF
  refine take_bin (g := none) 7 119 .add 3 3 (.tmp 118) (.const (.int .i64 1)) (.int .i64 (i : Int)) (.int .i64 1) (.int .i64 ((i + 1 : Nat) : Int)) hF hS (by kernel_rfl) (by kernel_rfl) (by decide) (by kernel_rfl) (by kernel_rfl) (by kernel_rfl) (add_int (by omega)) ?_; intro a hF
  refine take_from (g := none) 8 120 48 (.tmp 117) (.tmp 119) (.slice am nm cm) (.int .i64 ((i + 1 : Nat) : Int)) u2 hF hS (by kernel_rfl) (by kernel_rfl) (by decide) (by kernel_rfl) (by kernel_rfl) (by kernel_rfl) hr2 ?_; intro a hF
  refine draw_only (i := 0) (by kernel_rfl) (step_of (i := 0) (d := 112) (op := .buildSlice 48 0 #[]) (g := none) (by kernel_rfl) hF (by kernel_rfl) fun o ho hdst => ?_)
  refine wp_build_none ho ?_
  rw [hdst]
  have hF := hF.put 112 (by decide) (.slice (some ⟨w.drew.heap.size, 0, none⟩) 0 0)
  have hou := none_row w.drew (base := w.heap.size) (Nat.le_refl _)
  generalize a.put (some 112) _ = a at hF ⊢
  generalize Value.slice (some ⟨w.drew.heap.size, 0, none⟩) 0 0 = z at hF hou
  have hB1 : Below w.heap.size w (w.drew.alloc (.cells #[] 9)) := hB0.alloc hB0.size _
  generalize w.drew.alloc (.cells #[] 9) = w1 at hou hB1 ⊢
  refine ⟨hB1, ?_⟩
  refine draw_only (i := 4) (by kernel_rfl) (step_of (i := 4) (d := 116) (op := .call { callee := .builtin .append, args := #[.tmp 112, .tmp 115], argTypes := #[48, 48] }) (g := none) (by kernel_rfl) hF (by kernel_rfl) fun o ho hdst => ?_)
  refine wp_append_rs _ _ ho w.heap.size z [] (hF.ev (by rfl)) hou u1 (ks.take i) (hF.ev (by rfl)) (hu1.below hB1) (by simp; omega) (Below.size hB1) ?_
  intro v2 w2 ho2 hk2 hw2
  rw [hdst]
  have hF := hF.put 116 (by decide) v2
  generalize a.put (some 116) v2 = a at hF ⊢
  have hB2 : Below w.heap.size w w2 := ((Only.of_below (H := fun _ => False) hB1).trans hk2 (fun k hk => .inr (hou.lt k hk).1)).below (fun b hb => hb.elim)
  refine ⟨hB2, ?_⟩
  simp only [List.nil_append] at ho2
  refine draw_only (i := 9) (by kernel_rfl) (step_of (i := 9) (d := 121) (op := .call { callee := .builtin .append, args := #[.tmp 116, .tmp 120], argTypes := #[48, 48] }) (g := none) (by kernel_rfl) hF (by kernel_rfl) fun o ho hdst => ?_)
  refine wp_append_rs _ _ ho w.heap.size v2 (ks.take i) (hF.ev (by rfl)) ho2 u2 (ks.drop (i + 1)) (hF.ev (by rfl)) (hu2.below hB2) (by simp; omega) (Below.size hB2) ?_
  intro v3 w3 ho3 hk3 hw3
  rw [hdst]
  have hF := hF.put 121 (by decide) v3
  generalize a.put (some 121) v3 = a at hF ⊢
  have hB3 : Below w.heap.size w w3 := ((Only.of_below (H := fun _ => False) hB2).trans hk3 (fun k hk => .inr (ho2.lt k hk).1)).below (fun b hb => hb.elim)
  refine ⟨hB3, ?_⟩
  have hS : SB w w3 := hB3
  refine take_assign (g := none) 10 4 (.tmp 121) v3 hF hS (by kernel_rfl) (by kernel_rfl) (by decide) (by kernel_rfl) (by kernel_rfl) ?_; intro a hF
  exact draw_done (by kernel_rfl) ⟨v3, ⟨[(4, v3), (121, v3), (116, v2), (112, z), (120, u2), (119, .int .i64 ((i + 1 : Nat) : Int)), (118, .int .i64 (i : Int)), (117, .slice am nm cm), (115, u1), (114, .int .i64 (i : Int)), (113, .slice am nm cm)], hF, rfl, by simp⟩, ho3, hB3⟩

set_option maxRecDepth 100000 in
set_option maxHeartbeats 4000000 in
/-- m = append(append(append([]string{}, m[:at]...), l[i].Key), m[at:]...). -/
theorem r19 (ks : List ByteArray) (i : Nat) (hi : i ≤ ks.length) (hl : ks.length ≤ 1000) (am : Option Addr) (nm cm : Nat) (ao : Option Addr) (no co : Nat) (os : List OpG) (q : Nat) (hq : q < os.length) (l : List (Nat × Value)) (a : Act) (w : World) (hv : RS w (.slice am nm cm) ks) (ho : RO w (.slice ao no co) os)
    (hF : Fr 151 a ((4, .slice am nm cm) :: (6, .int .i64 (i : Int)) :: (0, .slice ao no co) :: (5, .int .i64 (q : Int)) :: l)) :
    wpAnyH Try.prog .any (regOps Try.f8 19) (QN fun a' w' => ∃ v', Behind 84 99 v' ((4, .slice am nm cm) :: (6, .int .i64 (i : Int)) :: (0, .slice ao no co) :: (5, .int .i64 (q : Int)) :: l) a' ∧
        w'.ownsRow w.heap.size 9 1 v' (ks.take i ++ [os[q].key] ++ ks.drop i).length ((ks.take i ++ [os[q].key] ++ ks.drop i).map encS) ∧ Below w.heap.size w w') (SB w) 17 (lst 17 []) a w.drew := by
  have hB0 : Below w.heap.size w w.drew := (Below.refl _ _).drew
  have hS : SB w w.drew := hB0
  obtain ⟨u1, hr1, hu1⟩ := hv.head (k := i) (by omega)
  obtain ⟨u2, hr2, hu2⟩ := hv.rest (k := i) (by omega)
  obtain ⟨ad, f1, hix, _, hkey, _, hfd⟩ := ho.at hq
  have hld : ∀ W, SB w W → (Instr.loadAt 9 (.pointer (some f1))).run Try.prog W = .ok (.string os[q].key) W := fun W hW => by
    have hc : W.cell? f1 = some (.string os[q].key) := (Below.cell hW (p := f1) (cells_blockS hkey)).trans hkey
    go_simp
  generalize os[q].key = x at hld ⊢
  refine take_move (g := none) 1 85 (.tmp 4) (.slice am nm cm) hF hS (by kernel_rfl) (by kernel_rfl) (by decide) (by kernel_rfl) (by kernel_rfl) ?_; intro a hF
  refine take_move (g := none) 2 86 (.tmp 6) (.int .i64 (i : Int)) hF hS (by kernel_rfl) (by kernel_rfl) (by decide) (by kernel_rfl) (by kernel_rfl) ?_; intro a hF
  refine take_upto (g := none) 3 87 48 (.tmp 85) (.tmp 86) (.slice am nm cm) (.int .i64 (i : Int)) u1 hF hS (by kernel_rfl) (by kernel_rfl) (by decide) (by kernel_rfl) (by kernel_rfl) (by kernel_rfl) hr1 ?_; intro a hF
  refine take_move (g := none) 5 89 (.tmp 0) (.slice ao no co) hF hS (by kernel_rfl) (by kernel_rfl) (by decide) (by kernel_rfl) (by kernel_rfl) ?_; intro a hF
  refine take_move (g := none) 6 90 (.tmp 5) (.int .i64 (q : Int)) hF hS (by kernel_rfl) (by kernel_rfl) (by decide) (by kernel_rfl) (by kernel_rfl) ?_; intro a hF
  refine take_index (g := none) 7 91 45 (.tmp 89) (.tmp 90) (.slice ao no co) (.int .i64 (q : Int)) (.pointer (some ad)) hF hS (by kernel_rfl) (by kernel_rfl) (by decide) (by kernel_rfl) (by kernel_rfl) (by kernel_rfl) hix ?_; intro a hF
  refine take_field (g := none) 8 92 50 (.tmp 91) 1 (.pointer (some ad)) (.pointer (some f1)) hF hS (by kernel_rfl) (by kernel_rfl) (by decide) (by kernel_rfl) (by kernel_rfl) (fun W _ => hfd W) ?_; intro a hF
  refine take_load (g := none) 9 93 9 (.tmp 92) (.pointer (some f1)) (.string x) hF hS (by kernel_rfl) (by kernel_rfl) (by decide) (by kernel_rfl) (by kernel_rfl) hld ?_; intro a hF
  refine take_move (g := none) 12 96 (.tmp 4) (.slice am nm cm) hF hS (by kernel_rfl) (by kernel_rfl) (by decide) (by kernel_rfl) (by kernel_rfl) ?_; intro a hF
  refine take_move (g := none) 13 97 (.tmp 6) (.int .i64 (i : Int)) hF hS (by kernel_rfl) (by kernel_rfl) (by decide) (by kernel_rfl) (by kernel_rfl) ?_; intro a hF
  refine take_from (g := none) 14 98 48 (.tmp 96) (.tmp 97) (.slice am nm cm) (.int .i64 (i : Int)) u2 hF hS (by kernel_rfl) (by kernel_rfl) (by decide) (by kernel_rfl) (by kernel_rfl) (by kernel_rfl) hr2 ?_; intro a hF
  refine draw_either (i := 0) (j := 10) (by kernel_rfl) ?_ ?_
  · refine step_of (i := 0) (d := 84) (op := .buildSlice 48 0 #[]) (g := none) (by kernel_rfl) hF (by kernel_rfl) fun o ho hdst => ?_
    refine wp_build_none ho ?_
    rw [hdst]
    have hou := none_row w.drew (base := w.heap.size) (Below.size hB0)
    have hBz : Below w.heap.size w (w.drew.alloc (.cells #[] 9)) := Below.alloc hB0 (Below.size hB0) _
    have hF := hF.put 84 (by decide) (.slice (some ⟨w.drew.heap.size, 0, none⟩) 0 0)
    generalize a.put (some 84) _ = a at hF ⊢
    generalize hz : Value.slice (some ⟨w.drew.heap.size, 0, none⟩) 0 0 = z at hF hou
    have hz0 : z.ownBlock = some w.drew.heap.size := by rw [← hz]; rfl
    generalize hwz : w.drew.alloc (.cells #[] 9) = wz at hou hBz ⊢
    refine ⟨hBz, ?_⟩
    refine draw_either (i := 4) (j := 10) (by kernel_rfl) ?_ ?_
    · refine step_of (i := 4) (d := 88) (op := .call { callee := .builtin .append, args := #[.tmp 84, .tmp 87], argTypes := #[48, 48] }) (g := none) (by kernel_rfl) hF (by kernel_rfl) fun o ho hdst => ?_
      refine wp_append_rs _ _ ho w.heap.size z [] (hF.ev (by rfl)) hou u1 (ks.take i) (hF.ev (by rfl)) (hu1.below hBz) (by simp; omega) (Below.size hBz) ?_
      intro v3 w3 ho3 hk3 hw3
      rw [hdst]
      have hF := hF.put 88 (by decide) v3
      generalize a.put (some 88) v3 = a at hF ⊢
      have hB3 : Below w.heap.size w w3 := ((Only.of_below (H := fun _ => False) hBz).trans hk3 (fun k hk => .inr (hou.lt k hk).1)).below (fun b hb => hb.elim)
      refine ⟨hB3, ?_⟩
      simp only [List.nil_append] at ho3
      refine draw_only (i := 10) (by kernel_rfl) (step_of (i := 10) (d := 94) (op := .buildSlice 48 1 #[(0, .tmp 93)]) (g := none) (by kernel_rfl) hF (by kernel_rfl) fun o ho hdst => ?_)
      refine wp_build_one ho (hF.ev (by rfl)) ?_
      rw [hdst]
      have hone := one_row w3 x
      have hBo : Below w.heap.size w (w3.alloc (.cells #[.string x] 9)) := Below.alloc hB3 (Below.size hB3) _
      have hF := hF.put 94 (by decide) (.slice (some ⟨w3.heap.size, 0, none⟩) 1 1)
      generalize a.put (some 94) _ = a at hF ⊢
      generalize hy : Value.slice (some ⟨w3.heap.size, 0, none⟩) 1 1 = y at hF hone
      have hy0 : y.ownBlock = some w3.heap.size := by rw [← hy]; rfl
      generalize hwo : w3.alloc (.cells #[.string x] 9) = wo at hone hBo ⊢
      refine ⟨hBo, ?_⟩
      have ho3o : wo.ownsRow w.heap.size 9 1 v3 (ks.take i).length ((ks.take i).map encS) := by rw [← hwo]; exact ho3.alloc _
      refine draw_only (i := 11) (by kernel_rfl) (step_of (i := 11) (d := 95) (op := .call { callee := .builtin .append, args := #[.tmp 88, .tmp 94], argTypes := #[48, 48] }) (g := none) (by kernel_rfl) hF (by kernel_rfl) fun o ho hdst => ?_)
      refine wp_append_rs _ _ ho w.heap.size v3 (ks.take i) (hF.ev (by rfl)) ho3o y [x] (hF.ev (by rfl)) hone (by simp; omega) (Below.size hBo) ?_
      intro v4 w4 ho4 hk4 hw4
      rw [hdst]
      have hF := hF.put 95 (by decide) v4
      generalize a.put (some 95) v4 = a at hF ⊢
      have hB4 : Below w.heap.size w w4 := ((Only.of_below (H := fun _ => False) hBo).trans hk4 (fun k hk => .inr (ho3o.lt k hk).1)).below (fun b hb => hb.elim)
      refine ⟨hB4, ?_⟩
      refine draw_only (i := 15) (by kernel_rfl) (step_of (i := 15) (d := 99) (op := .call { callee := .builtin .append, args := #[.tmp 95, .tmp 98], argTypes := #[48, 48] }) (g := none) (by kernel_rfl) hF (by kernel_rfl) fun o ho hdst => ?_)
      refine wp_append_rs _ _ ho w.heap.size v4 (ks.take i ++ [x]) (hF.ev (by rfl)) ho4 u2 (ks.drop i) (hF.ev (by rfl)) (hu2.below hB4) (by simp; omega) (Below.size hB4) ?_
      intro v5 w5 ho5 hk5 hw5
      rw [hdst]
      have hF := hF.put 99 (by decide) v5
      generalize a.put (some 99) v5 = a at hF ⊢
      have hB5 : Below w.heap.size w w5 := ((Only.of_below (H := fun _ => False) hB4).trans hk5 (fun k hk => .inr (ho4.lt k hk).1)).below (fun b hb => hb.elim)
      refine ⟨hB5, ?_⟩
      have hS : SB w w5 := hB5
      refine take_assign (g := none) 16 4 (.tmp 99) v5 hF hS (by kernel_rfl) (by kernel_rfl) (by decide) (by kernel_rfl) (by kernel_rfl) ?_; intro a hF
      exact draw_done (by kernel_rfl) ⟨v5, ⟨[(4, v5), (99, v5), (95, v4), (94, y), (88, v3), (84, z), (98, u2), (97, (.int .i64 (i : Int))), (96, (.slice am nm cm)), (93, (.string x)), (92, (.pointer (some f1))), (91, (.pointer (some ad))), (90, (.int .i64 (q : Int))), (89, (.slice ao no co)), (87, u1), (86, (.int .i64 (i : Int))), (85, (.slice am nm cm))], hF, rfl, by simp⟩, ho5, hB5⟩
    · refine step_of (i := 10) (d := 94) (op := .buildSlice 48 1 #[(0, .tmp 93)]) (g := none) (by kernel_rfl) hF (by kernel_rfl) fun o ho hdst => ?_
      refine wp_build_one ho (hF.ev (by rfl)) ?_
      rw [hdst]
      have hone := one_row wz x
      have hBo : Below w.heap.size w (wz.alloc (.cells #[.string x] 9)) := Below.alloc hBz (Below.size hBz) _
      have hF := hF.put 94 (by decide) (.slice (some ⟨wz.heap.size, 0, none⟩) 1 1)
      generalize a.put (some 94) _ = a at hF ⊢
      generalize hy : Value.slice (some ⟨wz.heap.size, 0, none⟩) 1 1 = y at hF hone
      have hy0 : y.ownBlock = some wz.heap.size := by rw [← hy]; rfl
      generalize hwo : wz.alloc (.cells #[.string x] 9) = wo at hone hBo ⊢
      refine ⟨hBo, ?_⟩
      have hzy : ∀ k, z.ownBlock = some k → y.ownBlock ≠ some k := fun k hk e => by
        have h1 := (hou.lt k hk).2
        rw [hy0] at e
        simp only [Option.some.injEq] at e
        omega
      have houo : wo.ownsRow w.heap.size 9 1 z ([] : List ByteArray).length (([] : List ByteArray).map encS) := by rw [← hwo]; exact hou.alloc _
      refine draw_only (i := 4) (by kernel_rfl) (step_of (i := 4) (d := 88) (op := .call { callee := .builtin .append, args := #[.tmp 84, .tmp 87], argTypes := #[48, 48] }) (g := none) (by kernel_rfl) hF (by kernel_rfl) fun o ho hdst => ?_)
      refine wp_append_rs _ _ ho w.heap.size z [] (hF.ev (by rfl)) houo u1 (ks.take i) (hF.ev (by rfl)) (hu1.below hBo) (by simp; omega) (Below.size hBo) ?_
      intro v3 w3 ho3 hk3 hw3
      rw [hdst]
      have hF := hF.put 88 (by decide) v3
      generalize a.put (some 88) v3 = a at hF ⊢
      have hB3 : Below w.heap.size w w3 := ((Only.of_below (H := fun _ => False) hBo).trans hk3 (fun k hk => .inr (houo.lt k hk).1)).below (fun b hb => hb.elim)
      refine ⟨hB3, ?_⟩
      simp only [List.nil_append] at ho3
      have hone3 : RS w3 y [x] := RS.apart hone hk3 hzy
      refine draw_only (i := 11) (by kernel_rfl) (step_of (i := 11) (d := 95) (op := .call { callee := .builtin .append, args := #[.tmp 88, .tmp 94], argTypes := #[48, 48] }) (g := none) (by kernel_rfl) hF (by kernel_rfl) fun o ho hdst => ?_)
      refine wp_append_rs _ _ ho w.heap.size v3 (ks.take i) (hF.ev (by rfl)) ho3 y [x] (hF.ev (by rfl)) hone3 (by simp; omega) (Below.size hB3) ?_
      intro v4 w4 ho4 hk4 hw4
      rw [hdst]
      have hF := hF.put 95 (by decide) v4
      generalize a.put (some 95) v4 = a at hF ⊢
      have hB4 : Below w.heap.size w w4 := ((Only.of_below (H := fun _ => False) hB3).trans hk4 (fun k hk => .inr (ho3.lt k hk).1)).below (fun b hb => hb.elim)
      refine ⟨hB4, ?_⟩
      refine draw_only (i := 15) (by kernel_rfl) (step_of (i := 15) (d := 99) (op := .call { callee := .builtin .append, args := #[.tmp 95, .tmp 98], argTypes := #[48, 48] }) (g := none) (by kernel_rfl) hF (by kernel_rfl) fun o ho hdst => ?_)
      refine wp_append_rs _ _ ho w.heap.size v4 (ks.take i ++ [x]) (hF.ev (by rfl)) ho4 u2 (ks.drop i) (hF.ev (by rfl)) (hu2.below hB4) (by simp; omega) (Below.size hB4) ?_
      intro v5 w5 ho5 hk5 hw5
      rw [hdst]
      have hF := hF.put 99 (by decide) v5
      generalize a.put (some 99) v5 = a at hF ⊢
      have hB5 : Below w.heap.size w w5 := ((Only.of_below (H := fun _ => False) hB4).trans hk5 (fun k hk => .inr (ho4.lt k hk).1)).below (fun b hb => hb.elim)
      refine ⟨hB5, ?_⟩
      have hS : SB w w5 := hB5
      refine take_assign (g := none) 16 4 (.tmp 99) v5 hF hS (by kernel_rfl) (by kernel_rfl) (by decide) (by kernel_rfl) (by kernel_rfl) ?_; intro a hF
      exact draw_done (by kernel_rfl) ⟨v5, ⟨[(4, v5), (99, v5), (95, v4), (88, v3), (94, y), (84, z), (98, u2), (97, (.int .i64 (i : Int))), (96, (.slice am nm cm)), (93, (.string x)), (92, (.pointer (some f1))), (91, (.pointer (some ad))), (90, (.int .i64 (q : Int))), (89, (.slice ao no co)), (87, u1), (86, (.int .i64 (i : Int))), (85, (.slice am nm cm))], hF, rfl, by simp⟩, ho5, hB5⟩
  · refine step_of (i := 10) (d := 94) (op := .buildSlice 48 1 #[(0, .tmp 93)]) (g := none) (by kernel_rfl) hF (by kernel_rfl) fun o ho hdst => ?_
    refine wp_build_one ho (hF.ev (by rfl)) ?_
    rw [hdst]
    have hone := one_row w.drew x
    have hBo : Below w.heap.size w (w.drew.alloc (.cells #[.string x] 9)) := Below.alloc hB0 (Below.size hB0) _
    have hF := hF.put 94 (by decide) (.slice (some ⟨w.drew.heap.size, 0, none⟩) 1 1)
    generalize a.put (some 94) _ = a at hF ⊢
    generalize hy : Value.slice (some ⟨w.drew.heap.size, 0, none⟩) 1 1 = y at hF hone
    have hy0 : y.ownBlock = some w.drew.heap.size := by rw [← hy]; rfl
    generalize hwo : w.drew.alloc (.cells #[.string x] 9) = wo at hone hBo ⊢
    refine ⟨hBo, ?_⟩
    refine draw_only (i := 0) (by kernel_rfl) (step_of (i := 0) (d := 84) (op := .buildSlice 48 0 #[]) (g := none) (by kernel_rfl) hF (by kernel_rfl) fun o ho hdst => ?_)
    refine wp_build_none ho ?_
    rw [hdst]
    have hou := none_row wo (base := w.heap.size) (Below.size hBo)
    have hBz : Below w.heap.size w (wo.alloc (.cells #[] 9)) := Below.alloc hBo (Below.size hBo) _
    have hF := hF.put 84 (by decide) (.slice (some ⟨wo.heap.size, 0, none⟩) 0 0)
    generalize a.put (some 84) _ = a at hF ⊢
    generalize hz : Value.slice (some ⟨wo.heap.size, 0, none⟩) 0 0 = z at hF hou
    have hz0 : z.ownBlock = some wo.heap.size := by rw [← hz]; rfl
    generalize hwz : wo.alloc (.cells #[] 9) = wz at hou hBz ⊢
    refine ⟨hBz, ?_⟩
    have honez : RS wz y [x] := by rw [← hwz]; exact RS.below hone ((Below.refl _ wo).alloc (Nat.le_refl _) _)
    have hzy : ∀ k, z.ownBlock = some k → y.ownBlock ≠ some k := fun k hk e => by
      have h1 : w.drew.heap.size < wo.heap.size := by rw [← hwo]; simp
      rw [hz0] at hk
      rw [hy0, ← hk] at e
      simp only [Option.some.injEq] at e
      omega
    refine draw_only (i := 4) (by kernel_rfl) (step_of (i := 4) (d := 88) (op := .call { callee := .builtin .append, args := #[.tmp 84, .tmp 87], argTypes := #[48, 48] }) (g := none) (by kernel_rfl) hF (by kernel_rfl) fun o ho hdst => ?_)
    refine wp_append_rs _ _ ho w.heap.size z [] (hF.ev (by rfl)) hou u1 (ks.take i) (hF.ev (by rfl)) (hu1.below hBz) (by simp; omega) (Below.size hBz) ?_
    intro v3 w3 ho3 hk3 hw3
    rw [hdst]
    have hF := hF.put 88 (by decide) v3
    generalize a.put (some 88) v3 = a at hF ⊢
    have hB3 : Below w.heap.size w w3 := ((Only.of_below (H := fun _ => False) hBz).trans hk3 (fun k hk => .inr (hou.lt k hk).1)).below (fun b hb => hb.elim)
    refine ⟨hB3, ?_⟩
    simp only [List.nil_append] at ho3
    have hone3 : RS w3 y [x] := RS.apart honez hk3 hzy
    refine draw_only (i := 11) (by kernel_rfl) (step_of (i := 11) (d := 95) (op := .call { callee := .builtin .append, args := #[.tmp 88, .tmp 94], argTypes := #[48, 48] }) (g := none) (by kernel_rfl) hF (by kernel_rfl) fun o ho hdst => ?_)
    refine wp_append_rs _ _ ho w.heap.size v3 (ks.take i) (hF.ev (by rfl)) ho3 y [x] (hF.ev (by rfl)) hone3 (by simp; omega) (Below.size hB3) ?_
    intro v4 w4 ho4 hk4 hw4
    rw [hdst]
    have hF := hF.put 95 (by decide) v4
    generalize a.put (some 95) v4 = a at hF ⊢
    have hB4 : Below w.heap.size w w4 := ((Only.of_below (H := fun _ => False) hB3).trans hk4 (fun k hk => .inr (ho3.lt k hk).1)).below (fun b hb => hb.elim)
    refine ⟨hB4, ?_⟩
    refine draw_only (i := 15) (by kernel_rfl) (step_of (i := 15) (d := 99) (op := .call { callee := .builtin .append, args := #[.tmp 95, .tmp 98], argTypes := #[48, 48] }) (g := none) (by kernel_rfl) hF (by kernel_rfl) fun o ho hdst => ?_)
    refine wp_append_rs _ _ ho w.heap.size v4 (ks.take i ++ [x]) (hF.ev (by rfl)) ho4 u2 (ks.drop i) (hF.ev (by rfl)) (hu2.below hB4) (by simp; omega) (Below.size hB4) ?_
    intro v5 w5 ho5 hk5 hw5
    rw [hdst]
    have hF := hF.put 99 (by decide) v5
    generalize a.put (some 99) v5 = a at hF ⊢
    have hB5 : Below w.heap.size w w5 := ((Only.of_below (H := fun _ => False) hB4).trans hk5 (fun k hk => .inr (ho4.lt k hk).1)).below (fun b hb => hb.elim)
    refine ⟨hB5, ?_⟩
    have hS : SB w w5 := hB5
    refine take_assign (g := none) 16 4 (.tmp 99) v5 hF hS (by kernel_rfl) (by kernel_rfl) (by decide) (by kernel_rfl) (by kernel_rfl) ?_; intro a hF
    exact draw_done (by kernel_rfl) ⟨v5, ⟨[(4, v5), (99, v5), (95, v4), (88, v3), (84, z), (94, y), (98, u2), (97, (.int .i64 (i : Int))), (96, (.slice am nm cm)), (93, (.string x)), (92, (.pointer (some f1))), (91, (.pointer (some ad))), (90, (.int .i64 (q : Int))), (89, (.slice ao no co)), (87, u1), (86, (.int .i64 (i : Int))), (85, (.slice am nm cm))], hF, rfl, by simp⟩, ho5, hB5⟩
end Go.Proofs.Ytikomlcghplchaa
