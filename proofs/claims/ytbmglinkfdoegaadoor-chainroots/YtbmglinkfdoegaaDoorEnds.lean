/- What the rows tell of arguments and of the table, as the walks want it. -/
import Derived.Test.YtbmglinkfdoegaaDoorChain5
import Derived.Test.YtbmglinkfdoegaaDoorRows
import Derived.Lib.LaidTab
import Derived.LaidHandle
import Derived.LaidLaws
import Derived.MakeChecks
import Derived.ProofKit
import Derived.SizedLaws
import Derived.Deep.Matrix
import Derived.Deep.Slices
namespace Go.Proofs.YtbmglinkfdoegaaDoor
open Go.RowKit Go.Shelf Go.ChangeShapes Go.WideShapes
set_option linter.unusedVariables false
set_option linter.unusedSimpArgs false

theorem wf_u8_inv {n : Int} (h : (Lit.int .u8 n).wf = true) : 0 ≤ n ∧ n ≤ 255 := by
  simp [Lit.wf, IntKind.min, IntKind.max, IntKind.bits, IntKind.signed] at h; omega
theorem wf_i64_inv {n : Int} (h : (Lit.int .i64 n).wf = true) : -9223372036854775808 ≤ n ∧ n ≤ 9223372036854775807 := by
  simp [Lit.wf, IntKind.min, IntKind.max, IntKind.bits, IntKind.signed] at h; omega
theorem u8_of {z : Int} (h : 0 ≤ z ∧ z ≤ 255) : Value.int .u8 z = encB (UInt8.ofNat z.toNat) := by
  unfold encB
  congr 1
  rw [UInt8.toNat_ofNat']
  omega

theorem rb_row {W : World} {x : Addr} {len cap : Nat} {zs : List Int} (hl : len ≤ cap) (hz : zs.length = cap) (hcell : ∀ i, i < zs.length → W.cell? (x.add i) = some (.int .u8 (zs.getD i 0))) (hwf : ∀ n ∈ zs, (Lit.int .u8 n).wf = true) :
    RB W.heap.size W (.slice (some x) len cap) ((zs.take len).map fun z => UInt8.ofNat z.toNat) := by
  have hlen : ((zs.take len).map fun z => UInt8.ofNat z.toNat).length = len := by simp; omega
  by_cases h0 : len = 0
  · subst h0
    exact .inl ⟨_, _, rfl, by simp, fun h => by cases h⟩
  · obtain ⟨b, off, spot⟩ := x
    have hc := hcell 0 (by omega)
    have hspot : spot = none := by simpa [Addr.add] using World.cell?_spot hc
    subst hspot
    have hb : b < W.heap.size := by
      have := World.block_lt_of_cell? W _ hc
      rwa [addr_addn] at this
    refine .inr ⟨b, off, cap, by rw [hlen], by omega, by omega, hb, fun j u hj => ?_⟩
    simp only [List.getElem?_map, Option.map_eq_some_iff] at hj
    obtain ⟨z, hz', rfl⟩ := hj
    have hj' : j < len := by have := (List.getElem?_eq_some_iff.1 hz').1; simp at this; omega
    rw [List.getElem?_take, if_pos hj'] at hz'
    have h1 := hcell j (by omega)
    rw [addr_addn] at h1
    rw [h1, List.getD_eq_getElem?_getD, hz']
    exact congrArg some (u8_of (wf_u8_inv (hwf z (List.mem_of_getElem? hz'))))

theorem rm_rows {W : World} {a : Addr} {len cap : Nat} {A : Nat → Option Addr} {L C : Nat → Nat} {Z : Nat → List Int} (hl : len ≤ cap)
    (h : ∀ r, r < cap → W.cell? (a.add r) = some (.slice (A r) (L r) (C r)) ∧ L r ≤ C r ∧ (Z r).length = C r ∧ (∀ n ∈ Z r, (Lit.int .u8 n).wf = true) ∧ (A r = none → C r = 0) ∧ ∀ a', A r = some a' → ∀ c, c < C r → W.cell? (a'.add c) = some (.int .u8 ((Z r).getD c 0))) :
    RM W (.slice (some a) len cap) ((List.range len).map fun r => ((Z r).take (L r)).map fun z => UInt8.ofNat z.toNat) := by
  refine ⟨(List.range len).map fun r => .slice (A r) (L r) (C r), ⟨by simp, ?_⟩, ?_⟩
  · by_cases h0 : len = 0
    · subst h0
      exact .inl ⟨_, _, rfl, by simp, fun h => by cases h⟩
    · obtain ⟨b, off, spot⟩ := a
      have hc := (h 0 (by omega)).1
      have hspot : spot = none := by simpa [Addr.add] using World.cell?_spot hc
      subst hspot
      have hb : b < W.heap.size := by
        have := World.block_lt_of_cell? W _ hc
        rwa [addr_addn] at this
      refine .inr ⟨b, off, cap, by simp, by simpa using hl, hb, fun j u hj => ?_⟩
      simp only [List.getElem?_map, Option.map_eq_some_iff] at hj
      obtain ⟨r, hr, rfl⟩ := hj
      have hj' : j < len := by have := (List.getElem?_eq_some_iff.1 hr).1; simpa using this
      rw [List.getElem?_range hj'] at hr
      cases hr
      have := (h j (by omega)).1
      rwa [addr_addn] at this
  · intro i v l hv hl'
    simp only [List.getElem?_map, Option.map_eq_some_iff] at hv hl'
    obtain ⟨r, hr, rfl⟩ := hv
    obtain ⟨r', hr', rfl⟩ := hl'
    have hi : i < len := by have := (List.getElem?_eq_some_iff.1 hr).1; simpa using this
    rw [List.getElem?_range hi] at hr hr'
    cases hr
    cases hr'
    obtain ⟨_, h1, h2, h3, h4, h5⟩ := h i (by omega)
    cases hA : A i with
    | none =>
      have := h4 hA
      have hL : L i = 0 := by omega
      rw [hL, this]
      exact .inl ⟨_, _, rfl, by simp, fun _ => rfl⟩
    | some x => exact rb_row h1 h2 (fun c hc => h5 x hA c (by omega)) h3

/-- An array of bytes by value. -/
theorem open_arr {H : Type} {enc : TypeId × Value → H} {P : Program} {w : World} {base : Nat} {sp : Nat → Bool} {held : Bool} {fuel : Nat} {t e : TypeId} {n : Nat} {cs : List Value} {x : DataW H × List MemPlace}
    (ht : P.underlying t = some (.array n e)) (he : P.underlying e = some (.int .u8)) (hce : P.cellsOf e = 1) (hct : P.cellsOf t = n)
    (h : DataW.trod enc P w base sp held fuel t cs = some x) : ∃ bs : List UInt8, bs.length = n ∧ cs = bs.map encB := by
  cases fuel with
  | zero => simp [DataW.trod] at h
  | succ fuel =>
    simp only [DataW.trod, ht, hce, hct, Nat.mul_one] at h
    split at h
    · rename_i hl
      obtain ⟨xs, hm, hx⟩ := Option.map_eq_some_iff.1 h
      have hz : ∀ i, i < n → ∃ b : UInt8, cs[i]? = some (encB b) := fun i hi => by
        obtain ⟨b, hb, hf⟩ := Lib.mapM_at hm i i (by simp [hi])
        obtain ⟨z, hc, rfl, hw⟩ := DataW.trod_int he hf
        refine ⟨UInt8.ofNat z.toNat, ?_⟩
        have := congrArg (·[0]?) hc
        have h1 : cs[i]? = some (.int .u8 z) := by simpa [List.getElem?_take, List.getElem?_drop] using this
        rw [h1, u8_of (wf_u8_inv hw)]
      have hlen : cs.length = n := by
        omega
      have key : ∀ l : List Value, (∀ i, i < l.length → ∃ b : UInt8, l[i]? = some (encB b)) → ∃ bs : List UInt8, l = bs.map encB := by
        intro l
        induction l with
        | nil => exact fun _ => ⟨[], rfl⟩
        | cons v l ih =>
          intro h
          obtain ⟨b, hb⟩ := h 0 (by simp)
          obtain ⟨bs, hbs⟩ := ih (fun i hi => by have := h (i + 1) (by simp; omega); simpa using this)
          simp at hb
          exact ⟨b :: bs, by simp [hb, hbs]⟩
      obtain ⟨bs, hbs⟩ := key cs (fun i hi => hz i (by omega))
      exact ⟨bs, by rw [← hlen, hbs]; simp, hbs⟩
    · cases h
theorem okWide_arr {P : Program} {w : World} {r : Reach} {base : Nat} {t : TypeId} {v : Value} {n e : Nat} (ht : P.underlying t = some (.array n e)) (h : Value.okWide P w r base t v) : ∃ cs, v = .agg cs ∧ cs.size = P.cellsOf t := by
  unfold Value.okWide at h
  rw [ht] at h
  obtain ⟨cs, h1, h2, _⟩ := h
  exact ⟨cs, h1, h2⟩

/-! ### A slice of digests -/
theorem cells23 : Tryd.prog.cellsOf 23 = 32 := by kernel_rfl
theorem cells5' : Tryd.prog.cellsOf 5 = 1 := by kernel_rfl
theorem fm_inv : ∀ (ds : List (List UInt8)) (j : Nat) (u : Value), (∀ d ∈ ds, d.length = 32) → (ds.flatMap fun d => d.map encB)[j]? = some u → ∃ d x, ds[j / 32]? = some d ∧ d[j % 32]? = some x ∧ u = encB x
  | [], j, u, _, h => by simp at h
  | c :: ds, j, u, h32, h => by
    have h0 : (c.map encB).length = 32 := by rw [List.length_map, h32 c (by simp)]
    rw [List.flatMap_cons] at h
    by_cases hj : j < 32
    · rw [List.getElem?_append_left (by omega), List.getElem?_map, Option.map_eq_some_iff] at h
      obtain ⟨x, hx, rfl⟩ := h
      exact ⟨c, x, by rw [Nat.div_eq_of_lt hj]; rfl, by rw [Nat.mod_eq_of_lt hj]; exact hx, rfl⟩
    · rw [List.getElem?_append_right (by omega), h0] at h
      obtain ⟨d, x, h1, h2, h3⟩ := fm_inv ds (j - 32) u (fun d hd => h32 d (by simp [hd])) h
      have e1 : j / 32 = (j - 32) / 32 + 1 := by omega
      have e2 : j % 32 = (j - 32) % 32 := by omega
      exact ⟨d, x, by rw [e1]; simpa using h1, by rw [e2]; exact h2, h3⟩
theorem open_digs {H : Type} {enc : TypeId × Value → H} {w : World} {base fuel : Nat} {spare : Nat → Bool} {held : Bool} {x : DataW H × List MemPlace} {a0 : Option Addr} {len0 cap0 : Nat}
    (h : DataW.trod enc Tryd.prog w base spare held fuel 33 [.slice a0 len0 cap0] = some x) : ∃ ds, RD w (.slice a0 len0 cap0) ds := by
  rcases Deep.open_slice Tryd.underlying33 h with ⟨e, _⟩ | ⟨a, len, cap, m, n, D, Pl, e, _, hl, hm, hmm, _, hi⟩
  · simp only [List.cons.injEq, and_true] at e
    cases e
    exact ⟨[], Rd.nil _ _, by simp⟩
  · simp only [List.cons.injEq, and_true] at e
    cases e
    have hlm : len0 ≤ m := by rw [hmm]; split <;> omega
    have one : ∀ i, i < len0 → ∃ d : List UInt8, d.length = 32 ∧ ∀ j x, d[j]? = some x → w.cell? ((a.add (i * 32)).add j) = some (encB x) := by
      intro i hil
      obtain ⟨cs', hc, ht'⟩ := hi i (by omega)
      rw [cells23] at hc
      obtain ⟨_, hcl, hat⟩ := World.cells?_some hc
      obtain ⟨bs, hb, rfl⟩ := open_arr under24 Tryd.underlying5 cells5' cells23 ht'
      refine ⟨bs, hb, fun j x hj => ?_⟩
      have hjl : j < 32 := by have := (List.getElem?_eq_some_iff.1 hj).1; omega
      have h1 := hat j (by omega)
      rw [h1, List.getElem?_map, hj]
      rfl
    by_cases h0 : len0 = 0
    · subst h0
      exact ⟨[], ⟨by simp, .inl ⟨_, _, rfl, rfl, fun h => by cases h⟩⟩, by simp⟩
    · obtain ⟨b, off, spot⟩ := a
      obtain ⟨d0, hd0, hx0⟩ := one 0 (by omega)
      have hc0 := hx0 0 _ (List.getElem?_eq_getElem (by omega))
      have hspot : spot = none := by simpa [Addr.add] using World.cell?_spot hc0
      subst hspot
      have hb : b < w.heap.size := by
        have := World.block_lt_of_cell? w _ hc0
        rwa [addr_addn, addr_addn] at this
      have all : ∀ k, k ≤ len0 → ∃ ds : List (List UInt8), ds.length = k ∧ (∀ d ∈ ds, d.length = 32) ∧ ∀ i d, ds[i]? = some d → ∀ j x, d[j]? = some x → w.cell? ⟨b, off + i * 32 + j, none⟩ = some (encB x) := by
        intro k
        induction k with
        | zero => exact fun _ => ⟨[], rfl, by simp, by simp⟩
        | succ k ih =>
          intro hk
          obtain ⟨ds, h1, h2, h3⟩ := ih (by omega)
          obtain ⟨d, hd, hx⟩ := one k (by omega)
          refine ⟨ds ++ [d], by simp [h1], fun e he => ?_, fun i e he j x hj => ?_⟩
          · rcases List.mem_append.1 he with he | he
            · exact h2 e he
            · simp at he; subst he; exact hd
          · rw [List.getElem?_append] at he
            split at he
            · exact h3 i e he j x hj
            · next hge =>
              have hik : i = k := by
                have := (List.getElem?_eq_some_iff.1 he).1
                simp at this
                omega
              subst hik
              simp [h1] at he
              subst he
              have := hx j x hj
              rwa [addr_addn, addr_addn] at this
      obtain ⟨ds, h1, h2, h3⟩ := all len0 (Nat.le_refl _)
      refine ⟨ds, ⟨fm_len ds h2, .inr ⟨b, off, cap0, by rw [h1], by omega, hb, fun j u hj => ?_⟩⟩, h2⟩
      obtain ⟨d, x, e1, e2, rfl⟩ := fm_inv ds j u h2 hj
      have := h3 _ d e1 _ x e2
      rwa [show off + j / 32 * 32 + j % 32 = off + j by omega] at this

/-! ### The table -/
def laidL : List (String × DataW Unit) := Rows.chainLinksRow.laid
def nameK : String := (laidL.map (·.1)).headD ""
theorem gK : Tryd.prog.globalNamed nameK = some 0 := by kernel_rfl
theorem gKType : (Tryd.prog.globals[0]?).map (·.type) = some 55 := by kernel_rfl
theorem cells43 : Tryd.prog.cellsOf 54 = 1 := by kernel_rfl
theorem cells49 : Tryd.prog.cellsOf 55 = 64 := by kernel_rfl
theorem cells24 : Tryd.prog.cellsOf 23 = 32 := by kernel_rfl
theorem cells5 : Tryd.prog.cellsOf 5 = 1 := by kernel_rfl
theorem bytes5 : Tryd.prog.bytesOf 5 = 1 := by kernel_rfl
def kInts : List Int := kTab.map fun x => (x.toNat : Int)
theorem laid_is : laidL = [(nameK, Lib.tabData .u32 kInts)] := by kernel_rfl
theorem tab_of_laid {W : World} (h : laidMetH Tryd.prog laidL W) : Tab W := by
  rw [MakeChecks.laidMetH_plain Tryd.prog laidL W (by kernel_rfl)] at h
  have h' : laidMet Tryd.prog ((nameK, Lib.tabData .u32 kInts) :: []) W := by rw [← laid_is]; exact h
  have hT := Lib.tabIs_of_head gK gKType Tryd.underlying55 Tryd.underlying54 cells43 cells49 h'
  intro j hj
  have hl : kInts.length = 64 := by rw [kInts, List.length_map, kTab_length]
  rw [hT.cell gK j (by omega)]
  unfold encW
  congr 2
  rw [kInts, List.getD_eq_getElem?_getD, List.getElem?_map, getD_get kTab j 0 (by rw [kTab_length]; exact hj)]
  rfl

/-- The block of the table, laid. -/
def layK : Obj → Obj
  | .cells _ t frozen => .cells (kInts.map fun z => Value.int .u32 z).toArray t frozen
  | o => o
theorem laid_met (os : Os) (args : Array Value) : laidMetH Tryd.prog laidL (({ World.holding Tryd.prog os ⟨#[], #[], []⟩ with heap := (World.holding Tryd.prog os ⟨#[], #[], []⟩).heap.modify 0 layK } : World).forCall (fun _ _ => 0) ⟨#[], args, []⟩).memory := by
  rw [MakeChecks.laidMetH_plain Tryd.prog laidL _ (by kernel_rfl)]
  exact laidMet_of_run' 8 (by kernel_rfl) (by kernel_rfl)
theorem own : ownKnob Tryd.prog.godebug = none := by kernel_rfl
theorem laidOut : laidOutB Tryd.prog = true := by kernel_rfl
end Go.Proofs.YtbmglinkfdoegaaDoor
