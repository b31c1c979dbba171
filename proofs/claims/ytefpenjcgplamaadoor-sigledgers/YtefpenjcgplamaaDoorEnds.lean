/- What the rows tell of arguments and of the table, as the walks want it. -/
import Derived.Test.YtefpenjcgplamaaDoorSig4
import Derived.Test.YtefpenjcgplamaaDoorSymO
import Derived.ChangeSame
import Derived.Test.YtefpenjcgplamaaDoorRows
import Derived.Lib.LaidTab
import Derived.LaidHandle
import Derived.LaidLaws
import Derived.MakeChecks
import Derived.ProofKit
import Derived.SizedLaws
import Derived.Deep.Slices
namespace Go.Proofs.YtefpenjcgplamaaDoor
open Go.RowKit Go.Shelf Go.ChangeShapes Go.WideShapes
set_option linter.unusedVariables false
set_option linter.unusedSimpArgs false

theorem wf_u8_inv {n : Int} (h : (Lit.int .u8 n).wf = true) : 0 ≤ n ∧ n ≤ 255 := by
  simp [Lit.wf, IntKind.min, IntKind.max, IntKind.bits, IntKind.signed] at h; omega
theorem wf_i64_inv {n : Int} (h : (Lit.int .i64 n).wf = true) : -9223372036854775808 ≤ n ∧ n ≤ 9223372036854775807 := by
  simp [Lit.wf, IntKind.min, IntKind.max, IntKind.bits, IntKind.signed] at h; omega
theorem u8_of {z : Int} (h : 0 ≤ z ∧ z ≤ 255) : Value.int .u8 z = encB (UInt8.ofNat z.toNat) := by
  unfold encB
  congr 1
  rw [UInt8.toNat_ofNat']
  omega

theorem rb_row {W : World} {x : Addr} {len cap : Nat} {zs : List Int} (hl : len ≤ cap) (hz : zs.length = cap) (hcell : ∀ i, i < zs.length → W.cell? (x.add i) = some (.int .u8 (zs.getD i 0))) (hwf : ∀ n ∈ zs, (Lit.int .u8 n).wf = true) :
    RB W.heap.size W (.slice (some x) len cap) ((zs.take len).map fun z => UInt8.ofNat z.toNat) := by
  have hlen : ((zs.take len).map fun z => UInt8.ofNat z.toNat).length = len := by simp; omega
  by_cases h0 : len = 0
  · subst h0
    exact .inl ⟨_, _, rfl, by simp, fun h => by cases h⟩
  · obtain ⟨b, off, spot⟩ := x
    have hc := hcell 0 (by omega)
    have hspot : spot = none := by simpa [Addr.add] using World.cell?_spot hc
    subst hspot
    have hb : b < W.heap.size := by
      have := World.block_lt_of_cell? W _ hc
      rwa [addr_addn] at this
    refine .inr ⟨b, off, cap, by rw [hlen], by omega, by omega, hb, fun j u hj => ?_⟩
    simp only [List.getElem?_map, Option.map_eq_some_iff] at hj
    obtain ⟨z, hz', rfl⟩ := hj
    have hj' : j < len := by have := (List.getElem?_eq_some_iff.1 hz').1; simp at this; omega
    rw [List.getElem?_take, if_pos hj'] at hz'
    have h1 := hcell j (by omega)
    rw [addr_addn] at h1
    rw [h1, List.getD_eq_getElem?_getD, hz']
    exact congrArg some (u8_of (wf_u8_inv (hwf z (List.mem_of_getElem? hz'))))

/-- An array of bytes by value. -/
theorem open_arr {H : Type} {enc : TypeId × Value → H} {P : Program} {w : World} {base : Nat} {sp : Nat → Bool} {held : Bool} {fuel : Nat} {t e : TypeId} {n : Nat} {cs : List Value} {x : DataW H × List MemPlace}
    (ht : P.underlying t = some (.array n e)) (he : P.underlying e = some (.int .u8)) (hce : P.cellsOf e = 1) (hct : P.cellsOf t = n)
    (h : DataW.trod enc P w base sp held fuel t cs = some x) : ∃ bs : List UInt8, bs.length = n ∧ cs = bs.map encB := by
  cases fuel with
  | zero => simp [DataW.trod] at h
  | succ fuel =>
    simp only [DataW.trod, ht, hce, hct, Nat.mul_one] at h
    split at h
    · rename_i hl
      obtain ⟨xs, hm, hx⟩ := Option.map_eq_some_iff.1 h
      have hz : ∀ i, i < n → ∃ b : UInt8, cs[i]? = some (encB b) := fun i hi => by
        obtain ⟨b, hb, hf⟩ := Lib.mapM_at hm i i (by simp [hi])
        obtain ⟨z, hc, rfl, hw⟩ := DataW.trod_int he hf
        refine ⟨UInt8.ofNat z.toNat, ?_⟩
        have := congrArg (·[0]?) hc
        have h1 : cs[i]? = some (.int .u8 z) := by simpa [List.getElem?_take, List.getElem?_drop] using this
        rw [h1, u8_of (wf_u8_inv hw)]
      have hlen : cs.length = n := by
        omega
      have key : ∀ l : List Value, (∀ i, i < l.length → ∃ b : UInt8, l[i]? = some (encB b)) → ∃ bs : List UInt8, l = bs.map encB := by
        intro l
        induction l with
        | nil => exact fun _ => ⟨[], rfl⟩
        | cons v l ih =>
          intro h
          obtain ⟨b, hb⟩ := h 0 (by simp)
          obtain ⟨bs, hbs⟩ := ih (fun i hi => by have := h (i + 1) (by simp; omega); simpa using this)
          simp at hb
          exact ⟨b :: bs, by simp [hb, hbs]⟩
      obtain ⟨bs, hbs⟩ := key cs (fun i hi => hz i (by omega))
      exact ⟨bs, by rw [← hlen, hbs]; simp, hbs⟩
    · cases h
theorem okWide_arr {P : Program} {w : World} {r : Reach} {base : Nat} {t : TypeId} {v : Value} {n e : Nat} (ht : P.underlying t = some (.array n e)) (h : Value.okWide P w r base t v) : ∃ cs, v = .agg cs ∧ cs.size = P.cellsOf t := by
  unfold Value.okWide at h
  rw [ht] at h
  obtain ⟨cs, h1, h2, _⟩ := h
  exact ⟨cs, h1, h2⟩

/-! ### Signatures, ints, bools -/
theorem map_fm {α β : Type} (f : α → β) : ∀ zs : List α, zs.map f = zs.flatMap fun z => [f z]
  | [] => rfl
  | z :: zs => by rw [List.map_cons, List.flatMap_cons, map_fm f zs]; rfl
theorem cells26 : Tryd.prog.cellsOf 26 = 33 := by kernel_rfl
theorem cells24' : Tryd.prog.cellsOf 24 = 32 := by kernel_rfl
theorem cells3 : Tryd.prog.cellsOf 3 = 1 := by kernel_rfl
theorem cells4 : Tryd.prog.cellsOf 4 = 1 := by kernel_rfl
theorem cells5' : Tryd.prog.cellsOf 5 = 1 := by kernel_rfl
section
variable {H : Type} {enc : TypeId × Value → H} {w : World} {base fuel : Nat} {spare : Nat → Bool} {held : Bool} {x : DataW H × List MemPlace} {a0 : Option Addr} {len0 cap0 : Nat}
theorem open_sig {cs : List Value} (h : DataW.trod enc Tryd.prog w base spare held fuel 26 cs = some x) : ∃ s, goodS s ∧ cs = sigL s := by
  obtain ⟨y0, y1, n, _, hl, h0, h1⟩ := trod_struct2 Tryd.underlying26 h
  rw [cells26] at hl
  simp only [cells3, List.drop_zero] at h0
  simp only [cells24'] at h1
  obtain ⟨z, hz, _, _⟩ := DataW.trod_int Tryd.underlying3 h0
  obtain ⟨bs, hb, he⟩ := open_arr Tryd.underlying24 Tryd.underlying5 cells5' cells24' h1
  refine ⟨(z, bs), hb, ?_⟩
  rcases cs with _ | ⟨c, cs⟩
  · simp at hl
  · simp at hz
    subst hz
    rw [List.drop_succ_cons, List.drop_zero, List.take_of_length_le (by simp at hl; omega)] at he
    rw [he]
    rfl
theorem open_sigs (h : DataW.trod enc Tryd.prog w base spare held fuel 31 [.slice a0 len0 cap0] = some x) : ∃ ss, RG w (.slice a0 len0 cap0) ss ∧ ss.length ≤ 9223372036854775807 := by
  obtain ⟨ss, h1, h2, h3⟩ := open_rows (encA := sigL) goodS (by decide) Tryd.underlying31 cells26 (fun _ h => sigL_length h) (fun _ _ _ h => open_sig h) h
  exact ⟨ss, ⟨h1, h2⟩, h3⟩
theorem open_intl (h : DataW.trod enc Tryd.prog w base spare held fuel 33 [.slice a0 len0 cap0] = some x) : ∃ zs, RI w (.slice a0 len0 cap0) zs ∧ zs.length ≤ 9223372036854775807 := by
  obtain ⟨zs, h1, h2, h3⟩ := open_rows (encA := fun z : Int => [intv z]) (fun _ => True) (by decide) Tryd.underlying33 cells3 (fun _ _ => rfl) (fun _ _ _ h => by
    obtain ⟨z, hz, _⟩ := DataW.trod_int Tryd.underlying3 h
    exact ⟨z, trivial, hz⟩) h
  refine ⟨zs, ?_, h3⟩
  unfold RI
  rwa [map_fm]
theorem open_booll (h : DataW.trod enc Tryd.prog w base spare held fuel 32 [.slice a0 len0 cap0] = some x) : ∃ zs, RO w (.slice a0 len0 cap0) zs ∧ zs.length ≤ 9223372036854775807 := by
  obtain ⟨zs, h1, h2, h3⟩ := open_rows (encA := fun z : Bool => [Value.bool z]) (fun _ => True) (by decide) Tryd.underlying32 cells4 (fun _ _ => rfl) (fun _ _ _ h => by
    obtain ⟨z, hz, _⟩ := DataW.trod_bool Tryd.underlying4 h
    exact ⟨z, trivial, hz⟩) h
  refine ⟨zs, ?_, h3⟩
  unfold RO
  rwa [map_fm]
end

/-! ### The table -/
def laidL : List (String × DataW Unit) := Rows.sigSignsRow.laid
def nameK : String := (laidL.map (·.1)).headD ""
theorem gK : Tryd.prog.globalNamed nameK = some 0 := by kernel_rfl
theorem gKType : (Tryd.prog.globals[0]?).map (·.type) = some 66 := by kernel_rfl
theorem cells43 : Tryd.prog.cellsOf 57 = 1 := by kernel_rfl
theorem cells49 : Tryd.prog.cellsOf 66 = 64 := by kernel_rfl
theorem cells24 : Tryd.prog.cellsOf 24 = 32 := by kernel_rfl
theorem cells5 : Tryd.prog.cellsOf 5 = 1 := by kernel_rfl
theorem bytes5 : Tryd.prog.bytesOf 5 = 1 := by kernel_rfl
def kInts : List Int := kTab.map fun x => (x.toNat : Int)
theorem laid_is : laidL = [(nameK, Lib.tabData .u32 kInts)] := by kernel_rfl
theorem tab_of_laid {W : World} (h : laidMetH Tryd.prog laidL W) : Tab W := by
  rw [MakeChecks.laidMetH_plain Tryd.prog laidL W (by kernel_rfl)] at h
  have h' : laidMet Tryd.prog ((nameK, Lib.tabData .u32 kInts) :: []) W := by rw [← laid_is]; exact h
  have hT := Lib.tabIs_of_head gK gKType Tryd.underlying66 Tryd.underlying57 cells43 cells49 h'
  intro j hj
  have hl : kInts.length = 64 := by rw [kInts, List.length_map, kTab_length]
  rw [hT.cell gK j (by omega)]
  unfold encW
  congr 2
  rw [kInts, List.getD_eq_getElem?_getD, List.getElem?_map, getD_get kTab j 0 (by rw [kTab_length]; exact hj)]
  rfl

/-- The block of the table, laid. -/
def layK : Obj → Obj
  | .cells _ t frozen => .cells (kInts.map fun z => Value.int .u32 z).toArray t frozen
  | o => o
theorem laid_met (os : Os) (args : Array Value) : laidMetH Tryd.prog laidL (({ World.holding Tryd.prog os ⟨#[], #[], []⟩ with heap := (World.holding Tryd.prog os ⟨#[], #[], []⟩).heap.modify 0 layK } : World).forCall (fun _ _ => 0) ⟨#[], args, []⟩).memory := by
  rw [MakeChecks.laidMetH_plain Tryd.prog laidL _ (by kernel_rfl)]
  exact laidMet_of_run' 8 (by kernel_rfl) (by kernel_rfl)
theorem own : ownKnob Tryd.prog.godebug = none := by kernel_rfl
theorem laidOut : laidOutB Tryd.prog = true := by kernel_rfl
end Go.Proofs.YtefpenjcgplamaaDoor
