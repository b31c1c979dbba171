/- Digests, rows and what chain's functions want of the seat's types. -/
import Derived.Test.YtbmglinkfdoegaaDoorRsum
import Derived.Test.YtbmglinkfdoegaaDoorSymE
import Derived.Test.YtbmglinkfdoegaaDoorPureC
namespace Go.Proofs.YtbmglinkfdoegaaDoor
open Go.RowKit Go.Shelf
set_option linter.unusedVariables false
set_option linter.unusedSimpArgs false

/-- A digest as a value. -/
abbrev dig (ds : List UInt8) : Value := .agg (ds.map encB).toArray
theorem el25 : Elem Tryd.prog 25 5 1 1 := elem_of (by kernel_rfl)
theorem el24 : Elem Tryd.prog 24 25 1 24 := elem_of (by kernel_rfl)
theorem el33 : Elem Tryd.prog 33 23 32 32 := elem_of (by kernel_rfl)
theorem flat25 : Flat Tryd.prog 25 = true := by kernel_rfl
theorem guard23 : Tryd.prog.eqGuardType Tryd.prog.depth 23 = false := by kernel_rfl
theorem wd23 {ds : List UInt8} (h : ds.length = 32) : Wide Tryd.prog 23 (ds.map encB).length = true := by rw [List.length_map, h]; exact wide24
theorem sz23 {ds : List UInt8} (h : ds.length = 32) : (Tryd.prog.info? 23).map (·.size) = some (ds.map encB).length := by rw [List.length_map, h]; exact size_wide wide24
theorem len32 {xs ys : List UInt8} (h : xs.length = 32) (h' : ys.length = 32) : (xs.map encB).length = (ys.map encB).length := by simp [h, h']
abbrev z32 : List UInt8 := List.replicate 32 0
theorem z32l : z32.length = 32 := rfl
section
variable {n d : Nat} {l : List (Nat × Value)} {w : World} {a : Act} {ops : Array Oper} {Q : Exit → Act → World → Prop} {rest : List Oper} {ty : TypeId} {pos : String} {af : Array Edge} {x y : Operand}
theorem x_loadD {b t0 : Nat} {ds : List UInt8} (h : ds.length = 32) (m : Blk w b t0 (ds.map encB)) (hx : ov l x = some (.pointer (some ⟨b, 0, none⟩))) : Runs Tryd.prog n l w (.load 23 x) (dig ds) := x_load hx (m_loadW (wd23 h) m)
theorem x_eqD {xs ys : List UInt8} {t' : TypeId} {b : Bool} (h1 : xs.length = 32) (h2 : ys.length = 32) (hb : decide (xs = ys) = b) (hx : ov l x = some (dig xs)) (hy : ov l y = some (dig ys)) : Runs Tryd.prog n l w (.binOp .eql 23 x y t') (.bool b) :=
  x_eqA under24 Tryd.underlying5 flat5 guard23 h1 h2 hb hx hy
theorem x_eqDT {xs ys : List UInt8} {t' : TypeId} (h1 : xs.length = 32) (h : xs = ys) (hx : ov l x = some (dig xs)) (hy : ov l y = some (dig ys)) : Runs Tryd.prog n l w (.binOp .eql 23 x y t') (.bool true) :=
  x_eqD h1 (h ▸ h1) (decide_eq_true h) hx hy
theorem x_neD {xs ys : List UInt8} {t' : TypeId} {b : Bool} (h1 : xs.length = 32) (h2 : ys.length = 32) (hb : (!decide (xs = ys)) = b) (hx : ov l x = some (dig xs)) (hy : ov l y = some (dig ys)) : Runs Tryd.prog n l w (.binOp .neq 23 x y t') (.bool b) :=
  x_neA under24 Tryd.underlying5 flat5 guard23 h1 h2 hb hx hy
theorem s_putD {t0 : TypeId} {b : Nat} {zs ds : List UInt8} (hz : zs.length = 32) (hd : ds.length = 32) (m : Blk w b t0 (zs.map encB)) (hF : Fs n a l) (hx : ov l x = some (.pointer (some ⟨b, 0, none⟩))) (hy : ov l y = some (dig ds))
    (h : ∀ w', Blk w' b t0 (ds.map encB) → Only b w w' → wpList Tryd.prog ops Q rest a w') : wpList Tryd.prog ops Q (⟨none, .store 23 x y, ty, pos, af, none⟩ :: rest) a w :=
  s_putW hF hx hy (sz23 hd) m (len32 hz hd) (oneB _) h
theorem res_D {fn : Func} {r b t0 : Nat} {ds : List UInt8} {R : Ending → World → Prop} (hF : Fs n a l) (hr : fn.results = #[.cell r 23]) (hl : lk l r = some (.pointer (some ⟨b, 0, none⟩))) (h : ds.length = 32) (m : Blk w b t0 (ds.map encB)) (hR : R (.returned (dig ds)) w) : bodyPost Tryd.prog fn R .ret a w :=
  res_cell hF hr hl m (wd23 h) hR
end

/-- A slice of digests. -/
def RD (W : World) (v : Value) (ds : List (List UInt8)) : Prop := Rd W v 32 ds.length (ds.flatMap fun d => d.map encB) ∧ ∀ d ∈ ds, d.length = 32
theorem fm_take : ∀ (ds : List (List UInt8)) (m : Nat), (∀ d ∈ ds, d.length = 32) → (ds.flatMap fun d => d.map encB).take (m * 32) = (ds.take m).flatMap fun d => d.map encB
  | [], m, _ => by simp
  | d :: ds, 0, _ => by simp
  | d :: ds, m + 1, h => by
    have h0 : (d.map encB).length = 32 := by rw [List.length_map, h d (by simp)]
    rw [List.flatMap_cons, List.take_succ_cons, List.flatMap_cons, List.take_append, List.take_of_length_le (by omega), h0, show (m + 1) * 32 - 32 = m * 32 by omega, fm_take ds m (fun d hd => h d (by simp [hd]))]
theorem fm_get : ∀ (ds : List (List UInt8)) (j i : Nat) (d : List UInt8) (x : UInt8), (∀ d ∈ ds, d.length = 32) → ds[j]? = some d → d[i]? = some x → (ds.flatMap fun d => d.map encB)[j * 32 + i]? = some (encB x)
  | [], j, i, d, x, _, h1, _ => by simp at h1
  | c :: ds, 0, i, d, x, h, h1, h2 => by
    simp at h1
    subst h1
    rw [List.flatMap_cons, List.getElem?_append_left (by simp; have := (List.getElem?_eq_some_iff.1 h2).1; omega), Nat.zero_mul, Nat.zero_add, List.getElem?_map, h2]
    rfl
  | c :: ds, j + 1, i, d, x, h, h1, h2 => by
    have h0 : (c.map encB).length = 32 := by rw [List.length_map, h c (by simp)]
    rw [List.flatMap_cons, List.getElem?_append_right (by omega), h0, show (j + 1) * 32 + i - 32 = j * 32 + i by omega]
    exact fm_get ds j i d x (fun d hd => h d (by simp [hd])) (by simpa using h1) h2
theorem fm_len : ∀ (ds : List (List UInt8)), (∀ d ∈ ds, d.length = 32) → (ds.flatMap fun d => d.map encB).length = ds.length * 32
  | [], _ => rfl
  | d :: ds, h => by
    rw [List.flatMap_cons, List.length_append, List.length_map, h d (by simp), fm_len ds (fun d hd => h d (by simp [hd])), List.length_cons]
    omega
theorem fm_one (ds : List (List UInt8)) : ∀ u ∈ ds.flatMap fun d => d.map encB, u.oneCell' = true := by
  intro u hu
  obtain ⟨d, _, h⟩ := List.mem_flatMap.1 hu
  exact oneB d u h
section
variable {W W' : World} {v : Value} {ds : List (List UInt8)}
theorem RD.form (h : RD W v ds) : ∃ a c, v = .slice a ds.length c ∧ ds.length ≤ c := by
  obtain ⟨a, c, h1, h2, _⟩ := h.1.form
  exact ⟨a, c, h1, h2⟩
theorem RD.below (h : RD W v ds) (hB : Below W.heap.size W W') : RD W' v ds := ⟨h.1.below hB, h.2⟩
theorem RD.upto {a : Option Addr} {N c : Nat} (h : RD W (.slice a N c) ds) (m : Nat) (hm : m ≤ ds.length) : RD W (.slice a m c) (ds.take m) := by
  refine ⟨?_, fun d hd => h.2 d (List.mem_of_mem_take hd)⟩
  have := h.1.upto m hm
  rw [fm_take ds m h.2] at this
  rwa [show (ds.take m).length = m by rw [List.length_take]; omega]
theorem RD.some (h : RD W v ds) (hn : 0 < ds.length) : ∃ b off c, v = .slice (some ⟨b, off, none⟩) ds.length c ∧ b < W.heap.size := h.1.some hn
/-- The address of the jth, and what lies there. -/
theorem RD.load {b off N c : Nat} {n : Nat} {l : List (Nat × Value)} {x : Operand} (h : RD W (.slice (Option.some ⟨b, off, none⟩) N c) ds) {j : Nat} (hj : j < ds.length) (hx : ov l x = Option.some (.pointer (Option.some ⟨b, off + j * 32, none⟩))) : Runs Tryd.prog n l W (.load 23 x) (dig (ds.getD j [])) := by
  have hd := getD_get ds j [] hj
  refine x_load hx (m_loadA (wd23 (h.2 _ (List.mem_of_getElem? hd))) fun i u hi => ?_)
  rw [addr_addn, Nat.add_assoc]
  rw [List.getElem?_map, Option.map_eq_some_iff] at hi
  obtain ⟨c, hc, rfl⟩ := hi
  exact h.1.cell (fm_get ds j i _ c h.2 hd hc)
end
theorem getD_mem32 {ds : List (List UInt8)} (h : ∀ d ∈ ds, d.length = 32) {j : Nat} (hj : j < ds.length) : (ds.getD j []).length = 32 := h _ (List.mem_of_getElem? (getD_get ds j [] hj))
end Go.Proofs.YtbmglinkfdoegaaDoor
