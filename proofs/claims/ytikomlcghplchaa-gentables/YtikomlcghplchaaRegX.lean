/- GenTables' regions that draw, as the walk meets them. -/
import Derived.Test.YtikomlcghplchaaHeadT
namespace Go.Proofs.Ytikomlcghplchaa
open Go.RowKit Go.Shelf
set_option linter.unusedVariables false
set_option linter.unusedSimpArgs false

set_option maxRecDepth 100000 in
theorem regt21 {Q : Exit → Act → World → Prop} {id : Nat} {w : World} {ks : List ByteArray} {i : Nat} {am : Option Addr} {nm cm : Nat} {ao : Option Addr} {no co q : Nat} {os : List OpG} (t : Array Value) (ht : t.size = 233) (h4 : t[4]? = some (.slice am nm cm)) (h6 : t[7]? = some (.int .i64 (i : Int))) (h0 : t[0]? = some (.slice ao no co)) (h5 : t[6]? = some (.int .i64 (q : Int))) (hl : ks.length ≤ 1000) (hv : RS w (.slice am nm cm) ks) (hro : RO w (.slice ao no co) os) (hi : i ≤ ks.length) (hq : q < os.length)
    (hQ : ∀ (y123 y124 y125 y126 y127 y128 y129 y130 y131 y132 y133 y134 y135 y136 y137 y138 v' : Value) (w' : World), w'.ownsRow w.heap.size 9 1 v' (ks.take i ++ [os[q].key] ++ ks.drop i).length ((ks.take i ++ [os[q].key] ++ ks.drop i).map encS) → Below w.heap.size w w' → Q .normal { tmps := ((((((((((((((((t.setIfInBounds 138 y138).setIfInBounds 137 y137).setIfInBounds 136 y136).setIfInBounds 135 y135).setIfInBounds 134 y134).setIfInBounds 133 y133).setIfInBounds 132 y132).setIfInBounds 131 y131).setIfInBounds 130 y130).setIfInBounds 129 y129).setIfInBounds 128 y128).setIfInBounds 127 y127).setIfInBounds 126 y126).setIfInBounds 125 y125).setIfInBounds 124 y124).setIfInBounds 123 y123).setIfInBounds 4 v', defers := [] } w') :
    (Code.region id (regOps Try.f9 21) true).wp Try.prog Q { tmps := t, defers := [] } w := by
  have hp : ∀ p ∈ ([(4, .slice am nm cm), (7, .int .i64 (i : Int)), (0, .slice ao no co), (6, .int .i64 (q : Int))] : List (Nat × Value)), t[p.1]? = some p.2 := by
    intro p hp
    simp only [List.mem_cons, List.not_mem_nil, or_false] at hp
    rcases hp with rfl | rfl | rfl | rfl <;> assumption
  refine draw_start (S := SB w) (N := 17) (by kernel_rfl) (by kernel_rfl) ?_ (t21 ks i hi hl am nm cm ao no co os q hq (full t) _ w hv hro (frame_known t ht _ hp))
  rintro a' w' ⟨v', hb, hrow, hB⟩
  have hact := BehindT.act (pre := [(4, .slice am nm cm), (7, .int .i64 (i : Int)), (0, .slice ao no co), (6, .int .i64 (q : Int))]) ht (by decide) hp hb
  rw [hact]
  exact hQ (a'.tmps.getD 123 undef) (a'.tmps.getD 124 undef) (a'.tmps.getD 125 undef) (a'.tmps.getD 126 undef) (a'.tmps.getD 127 undef) (a'.tmps.getD 128 undef) (a'.tmps.getD 129 undef) (a'.tmps.getD 130 undef) (a'.tmps.getD 131 undef) (a'.tmps.getD 132 undef) (a'.tmps.getD 133 undef) (a'.tmps.getD 134 undef) (a'.tmps.getD 135 undef) (a'.tmps.getD 136 undef) (a'.tmps.getD 137 undef) (a'.tmps.getD 138 undef) v' w' hrow hB

set_option maxRecDepth 100000 in
theorem regt22 {Q : Exit → Act → World → Prop} {id : Nat} {w : World} {ks : List Int} {i : Nat} {am : Option Addr} {nm cm : Nat} {ao : Option Addr} {no co q : Nat} {os : List OpG} (t : Array Value) (ht : t.size = 233) (h4 : t[5]? = some (.slice am nm cm)) (h6 : t[7]? = some (.int .i64 (i : Int))) (h0 : t[0]? = some (.slice ao no co)) (h5 : t[6]? = some (.int .i64 (q : Int))) (hl : ks.length ≤ 1000) (hv : RI w (.slice am nm cm) ks) (hro : RO w (.slice ao no co) os) (hi : i ≤ ks.length) (hq : q < os.length)
    (hQ : ∀ (y139 y140 y141 y142 y143 y144 y145 y146 y147 y148 y149 y150 y151 y152 y153 y154 v' : Value) (w' : World), w'.ownsRow w.heap.size 3 1 v' (ks.take i ++ [os[q].item] ++ ks.drop i).length ((ks.take i ++ [os[q].item] ++ ks.drop i).map encI) → Below w.heap.size w w' → Q .normal { tmps := ((((((((((((((((t.setIfInBounds 154 y154).setIfInBounds 153 y153).setIfInBounds 152 y152).setIfInBounds 151 y151).setIfInBounds 150 y150).setIfInBounds 149 y149).setIfInBounds 148 y148).setIfInBounds 147 y147).setIfInBounds 146 y146).setIfInBounds 145 y145).setIfInBounds 144 y144).setIfInBounds 143 y143).setIfInBounds 142 y142).setIfInBounds 141 y141).setIfInBounds 140 y140).setIfInBounds 139 y139).setIfInBounds 5 v', defers := [] } w') :
    (Code.region id (regOps Try.f9 22) true).wp Try.prog Q { tmps := t, defers := [] } w := by
  have hp : ∀ p ∈ ([(5, .slice am nm cm), (7, .int .i64 (i : Int)), (0, .slice ao no co), (6, .int .i64 (q : Int))] : List (Nat × Value)), t[p.1]? = some p.2 := by
    intro p hp
    simp only [List.mem_cons, List.not_mem_nil, or_false] at hp
    rcases hp with rfl | rfl | rfl | rfl <;> assumption
  refine draw_start (S := SB w) (N := 17) (by kernel_rfl) (by kernel_rfl) ?_ (t22 ks i hi hl am nm cm ao no co os q hq (full t) _ w hv hro (frame_known t ht _ hp))
  rintro a' w' ⟨v', hb, hrow, hB⟩
  have hact := BehindT.act (pre := [(5, .slice am nm cm), (7, .int .i64 (i : Int)), (0, .slice ao no co), (6, .int .i64 (q : Int))]) ht (by decide) hp hb
  rw [hact]
  exact hQ (a'.tmps.getD 139 undef) (a'.tmps.getD 140 undef) (a'.tmps.getD 141 undef) (a'.tmps.getD 142 undef) (a'.tmps.getD 143 undef) (a'.tmps.getD 144 undef) (a'.tmps.getD 145 undef) (a'.tmps.getD 146 undef) (a'.tmps.getD 147 undef) (a'.tmps.getD 148 undef) (a'.tmps.getD 149 undef) (a'.tmps.getD 150 undef) (a'.tmps.getD 151 undef) (a'.tmps.getD 152 undef) (a'.tmps.getD 153 undef) (a'.tmps.getD 154 undef) v' w' hrow hB

set_option maxRecDepth 100000 in
theorem regt27 {Q : Exit → Act → World → Prop} {id : Nat} {w : World} {ks : List ByteArray} {i : Nat} {am : Option Addr} {nm cm : Nat} (t : Array Value) (ht : t.size = 233) (h4 : t[4]? = some (.slice am nm cm)) (h6 : t[7]? = some (.int .i64 (i : Int))) (hl : ks.length ≤ 1000) (hv : RS w (.slice am nm cm) ks) (hi : i < ks.length)
    (hQ : ∀ (y167 y168 y169 y170 y171 y172 y173 y174 y175 y176 v' : Value) (w' : World), w'.ownsRow w.heap.size 9 1 v' (ks.take i ++ ks.drop (i + 1)).length ((ks.take i ++ ks.drop (i + 1)).map encS) → Below w.heap.size w w' → Q .normal { tmps := ((((((((((t.setIfInBounds 176 y176).setIfInBounds 175 y175).setIfInBounds 174 y174).setIfInBounds 173 y173).setIfInBounds 172 y172).setIfInBounds 171 y171).setIfInBounds 170 y170).setIfInBounds 169 y169).setIfInBounds 168 y168).setIfInBounds 167 y167).setIfInBounds 4 v', defers := [] } w') :
    (Code.region id (regOps Try.f9 27) true).wp Try.prog Q { tmps := t, defers := [] } w := by
  have hp : ∀ p ∈ ([(4, .slice am nm cm), (7, .int .i64 (i : Int))] : List (Nat × Value)), t[p.1]? = some p.2 := by
    intro p hp
    simp only [List.mem_cons, List.not_mem_nil, or_false] at hp
    rcases hp with rfl | rfl <;> assumption
  refine draw_start (S := SB w) (N := 11) (by kernel_rfl) (by kernel_rfl) ?_ (t27 ks i hi hl am nm cm (full t) _ w hv (frame_known t ht _ hp))
  rintro a' w' ⟨v', hb, hrow, hB⟩
  have hact := BehindT.act (pre := [(4, .slice am nm cm), (7, .int .i64 (i : Int))]) ht (by decide) hp hb
  rw [hact]
  exact hQ (a'.tmps.getD 167 undef) (a'.tmps.getD 168 undef) (a'.tmps.getD 169 undef) (a'.tmps.getD 170 undef) (a'.tmps.getD 171 undef) (a'.tmps.getD 172 undef) (a'.tmps.getD 173 undef) (a'.tmps.getD 174 undef) (a'.tmps.getD 175 undef) (a'.tmps.getD 176 undef) v' w' hrow hB

set_option maxRecDepth 100000 in
theorem regt28 {Q : Exit → Act → World → Prop} {id : Nat} {w : World} {ks : List Int} {i : Nat} {am : Option Addr} {nm cm : Nat} (t : Array Value) (ht : t.size = 233) (h4 : t[5]? = some (.slice am nm cm)) (h6 : t[7]? = some (.int .i64 (i : Int))) (hl : ks.length ≤ 1000) (hv : RI w (.slice am nm cm) ks) (hi : i < ks.length)
    (hQ : ∀ (y177 y178 y179 y180 y181 y182 y183 y184 y185 y186 v' : Value) (w' : World), w'.ownsRow w.heap.size 3 1 v' (ks.take i ++ ks.drop (i + 1)).length ((ks.take i ++ ks.drop (i + 1)).map encI) → Below w.heap.size w w' → Q .normal { tmps := ((((((((((t.setIfInBounds 186 y186).setIfInBounds 185 y185).setIfInBounds 184 y184).setIfInBounds 183 y183).setIfInBounds 182 y182).setIfInBounds 181 y181).setIfInBounds 180 y180).setIfInBounds 179 y179).setIfInBounds 178 y178).setIfInBounds 177 y177).setIfInBounds 5 v', defers := [] } w') :
    (Code.region id (regOps Try.f9 28) true).wp Try.prog Q { tmps := t, defers := [] } w := by
  have hp : ∀ p ∈ ([(5, .slice am nm cm), (7, .int .i64 (i : Int))] : List (Nat × Value)), t[p.1]? = some p.2 := by
    intro p hp
    simp only [List.mem_cons, List.not_mem_nil, or_false] at hp
    rcases hp with rfl | rfl <;> assumption
  refine draw_start (S := SB w) (N := 11) (by kernel_rfl) (by kernel_rfl) ?_ (t28 ks i hi hl am nm cm (full t) _ w hv (frame_known t ht _ hp))
  rintro a' w' ⟨v', hb, hrow, hB⟩
  have hact := BehindT.act (pre := [(5, .slice am nm cm), (7, .int .i64 (i : Int))]) ht (by decide) hp hb
  rw [hact]
  exact hQ (a'.tmps.getD 177 undef) (a'.tmps.getD 178 undef) (a'.tmps.getD 179 undef) (a'.tmps.getD 180 undef) (a'.tmps.getD 181 undef) (a'.tmps.getD 182 undef) (a'.tmps.getD 183 undef) (a'.tmps.getD 184 undef) (a'.tmps.getD 185 undef) (a'.tmps.getD 186 undef) v' w' hrow hB

set_option maxRecDepth 100000 in
set_option maxHeartbeats 4000000 in
/-- t.Put(l[i].Key, l[i].Item). -/
theorem t18 (T : Nat) (ao : Option Addr) (no co : Nat) (os : List OpG) (q : Nat) (hq : q < os.length) (l : List (Nat × Value)) (a : Act) (w0 w : World) (R : World → Prop) (hS : SB w0 w.drew) (ho : RO w0 (.slice ao no co) os)
    (hC : Calls Try.prog 42 #[.pointer (some ⟨T, 0, none⟩), .string os[q].key, .int .i64 os[q].item] w.drew fun e w' => (∃ v, e = .returned v) ∧ SB w0 w' ∧ R w')
    (hF : Fr 233 a ((3, .pointer (some ⟨T, 0, none⟩)) :: (0, .slice ao no co) :: (6, .int .i64 (q : Int)) :: l)) :
    wpAnyH Try.prog .any (regOps Try.f9 18) (QN fun a' w' => ∃ v', BehindT 113 102 112 v' ((3, .pointer (some ⟨T, 0, none⟩)) :: (0, .slice ao no co) :: (6, .int .i64 (q : Int)) :: l) a' ∧ R w') (SB w0) 12 (lst 12 []) a w.drew := by
  obtain ⟨ad, f1, hix, _, hkey, _, hfd⟩ := ho.at hq
  obtain ⟨ad2, f2, hix2, hitem, hfd2⟩ := ho.item hq
  have hld : ∀ W, SB w0 W → (Instr.loadAt 9 (.pointer (some f1))).run Try.prog W = .ok (.string os[q].key) W := fun W hW => by
    have hc : W.cell? f1 = some (.string os[q].key) := (Below.cell hW (p := f1) (cells_blockS hkey)).trans hkey
    go_simp
  have hld2 : ∀ W, SB w0 W → (Instr.loadAt 3 (.pointer (some f2))).run Try.prog W = .ok (.int .i64 os[q].item) W := fun W hW => by
    have hc : W.cell? f2 = some (.int .i64 os[q].item) := (Below.cell hW (p := f2) (cells_blockS hitem)).trans hitem
    go_simp
  generalize os[q].key = x at hld hC
  generalize os[q].item = y at hld2 hC
  refine take_move (g := none) 0 102 (.tmp 3) (.pointer (some ⟨T, 0, none⟩)) hF hS (by kernel_rfl) (by kernel_rfl) (by decide) (by kernel_rfl) (by kernel_rfl) ?_; intro a hF
  refine take_move (g := none) 1 103 (.tmp 0) (.slice ao no co) hF hS (by kernel_rfl) (by kernel_rfl) (by decide) (by kernel_rfl) (by kernel_rfl) ?_; intro a hF
  refine take_move (g := none) 2 104 (.tmp 6) (.int .i64 (q : Int)) hF hS (by kernel_rfl) (by kernel_rfl) (by decide) (by kernel_rfl) (by kernel_rfl) ?_; intro a hF
  refine take_index (g := none) 3 105 45 (.tmp 103) (.tmp 104) (.slice ao no co) (.int .i64 (q : Int)) (.pointer (some ad)) hF hS (by kernel_rfl) (by kernel_rfl) (by decide) (by kernel_rfl) (by kernel_rfl) (by kernel_rfl) hix ?_; intro a hF
  refine take_field (g := none) 4 106 50 (.tmp 105) 1 (.pointer (some ad)) (.pointer (some f1)) hF hS (by kernel_rfl) (by kernel_rfl) (by decide) (by kernel_rfl) (by kernel_rfl) (fun W _ => hfd W) ?_; intro a hF
  refine take_load (g := none) 5 107 9 (.tmp 106) (.pointer (some f1)) (.string x) hF hS (by kernel_rfl) (by kernel_rfl) (by decide) (by kernel_rfl) (by kernel_rfl) hld ?_; intro a hF
  refine take_move (g := none) 6 108 (.tmp 0) (.slice ao no co) hF hS (by kernel_rfl) (by kernel_rfl) (by decide) (by kernel_rfl) (by kernel_rfl) ?_; intro a hF
  refine take_move (g := none) 7 109 (.tmp 6) (.int .i64 (q : Int)) hF hS (by kernel_rfl) (by kernel_rfl) (by decide) (by kernel_rfl) (by kernel_rfl) ?_; intro a hF
  refine take_index (g := none) 8 110 45 (.tmp 108) (.tmp 109) (.slice ao no co) (.int .i64 (q : Int)) (.pointer (some ad2)) hF hS (by kernel_rfl) (by kernel_rfl) (by decide) (by kernel_rfl) (by kernel_rfl) (by kernel_rfl) hix2 ?_; intro a hF
  refine take_field (g := none) 9 111 50 (.tmp 110) 2 (.pointer (some ad2)) (.pointer (some f2)) hF hS (by kernel_rfl) (by kernel_rfl) (by decide) (by kernel_rfl) (by kernel_rfl) (fun W _ => hfd2 W) ?_; intro a hF
  refine take_load (g := none) 10 112 3 (.tmp 111) (.pointer (some f2)) (.int .i64 y) hF hS (by kernel_rfl) (by kernel_rfl) (by decide) (by kernel_rfl) (by kernel_rfl) hld2 ?_; intro a hF
  refine draw_only (i := 11) (by kernel_rfl) (step_call (ts := #[58, 9, 3]) 11 113 42 #[.tmp 102, .tmp 107, .tmp 112] [.pointer (some ⟨T, 0, none⟩), .string x, .int .i64 y] (g := none) hF (by kernel_rfl) (by decide) (by kernel_rfl) (by kernel_rfl) (enters_of Try.func42 (by kernel_rfl) rfl) ?_)
  refine hC.mono ?_
  rintro e w' ⟨⟨v, rfl⟩, hs, hR⟩
  refine ⟨v, rfl, fun a hF => ⟨hs, ?_⟩⟩
  exact draw_done (by kernel_rfl) ⟨v, ⟨[(113, v), (112, .int .i64 y), (111, .pointer (some f2)), (110, .pointer (some ad2)), (109, (.int .i64 (q : Int))), (108, (.slice ao no co)), (107, .string x), (106, .pointer (some f1)), (105, .pointer (some ad)), (104, (.int .i64 (q : Int))), (103, (.slice ao no co)), (102, (.pointer (some ⟨T, 0, none⟩)))], hF, rfl, by simp⟩, hR⟩

set_option maxRecDepth 100000 in
theorem regt18 {Q : Exit → Act → World → Prop} {id : Nat} {w0 w : World} {R : World → Prop} {T : Nat} {ao : Option Addr} {no co q : Nat} {os : List OpG} (t : Array Value) (ht : t.size = 233) (h3 : t[3]? = some (.pointer (some ⟨T, 0, none⟩))) (h0 : t[0]? = some (.slice ao no co)) (h6 : t[6]? = some (.int .i64 (q : Int))) (hS : SB w0 w.drew) (hro : RO w0 (.slice ao no co) os) (hq : q < os.length)
    (hC : Calls Try.prog 42 #[.pointer (some ⟨T, 0, none⟩), .string os[q].key, .int .i64 os[q].item] w.drew fun e w' => (∃ v, e = .returned v) ∧ SB w0 w' ∧ R w')
    (hQ : ∀ (y102 y103 y104 y105 y106 y107 y108 y109 y110 y111 y112 v' : Value) (w' : World), R w' → Q .normal { tmps := (((((((((((t.setIfInBounds 112 y112).setIfInBounds 111 y111).setIfInBounds 110 y110).setIfInBounds 109 y109).setIfInBounds 108 y108).setIfInBounds 107 y107).setIfInBounds 106 y106).setIfInBounds 105 y105).setIfInBounds 104 y104).setIfInBounds 103 y103).setIfInBounds 102 y102).setIfInBounds 113 v', defers := [] } w') :
    (Code.region id (regOps Try.f9 18) true).wp Try.prog Q { tmps := t, defers := [] } w := by
  have hp : ∀ p ∈ ([(3, .pointer (some ⟨T, 0, none⟩)), (0, .slice ao no co), (6, .int .i64 (q : Int))] : List (Nat × Value)), t[p.1]? = some p.2 := by
    intro p hp
    simp only [List.mem_cons, List.not_mem_nil, or_false] at hp
    rcases hp with rfl | rfl | rfl <;> assumption
  refine draw_start (S := SB w0) (N := 12) (by kernel_rfl) (by kernel_rfl) ?_ (t18 T ao no co os q hq (full t) _ w0 w R hS hro hC (frame_known t ht _ hp))
  rintro a' w' ⟨v', hb, hR⟩
  have hact := BehindT.act (pre := [(3, .pointer (some ⟨T, 0, none⟩)), (0, .slice ao no co), (6, .int .i64 (q : Int))]) ht (by decide) hp hb
  rw [hact]
  exact hQ (a'.tmps.getD 102 undef) (a'.tmps.getD 103 undef) (a'.tmps.getD 104 undef) (a'.tmps.getD 105 undef) (a'.tmps.getD 106 undef) (a'.tmps.getD 107 undef) (a'.tmps.getD 108 undef) (a'.tmps.getD 109 undef) (a'.tmps.getD 110 undef) (a'.tmps.getD 111 undef) (a'.tmps.getD 112 undef) v' w' hR
end Go.Proofs.Ytikomlcghplchaa
