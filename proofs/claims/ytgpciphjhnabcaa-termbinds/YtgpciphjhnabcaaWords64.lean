/- Numbers of 64 bits and bytes, in Sym's walk; slices. No program is named here. -/
import Derived.Test.YtgpciphjhnabcaaSymC
import Derived.Test.YtgpciphjhnabcaaPure
import Derived.Laws.MakeOwn
import Derived.Laws.BytesArg
import Derived.Laws.IdiomStrings
namespace Go.Proofs.Ytgpciphjhnabcaa
open Go.RowKit Go.Shelf
set_option linter.unusedVariables false
set_option linter.unusedSimpArgs false

section
variable {P : Program} {n : Nat} {l : List (Nat × Value)} {w : World} {t t' : TypeId} {x y : Operand}

theorem x_add64 {p q : UInt64} (hx : ov l x = some (encD p)) (hy : ov l y = some (encD q)) : Runs P n l w (.binOp .add t x y t') (encD (p + q)) :=
  x_bin hx hy (b_int fun W => by
    show Result.ok (Value.int .u64 (IntKind.u64.wrap ((p.toNat : Int) + (q.toNat : Int)))) W = _
    rw [show (p.toNat : Int) + (q.toNat : Int) = ((p.toNat + q.toNat : Nat) : Int) from by simp, nat64, encD]
    congr 4)
theorem x_mul64 {p q : UInt64} (hx : ov l x = some (encD p)) (hy : ov l y = some (encD q)) : Runs P n l w (.binOp .mul t x y t') (encD (p * q)) :=
  x_bin hx hy (b_int fun W => by
    show Result.ok (Value.int .u64 (IntKind.u64.wrap ((p.toNat : Int) * (q.toNat : Int)))) W = _
    rw [show (p.toNat : Int) * (q.toNat : Int) = ((p.toNat * q.toNat : Nat) : Int) from by simp, nat64, encD]
    congr 4)
theorem x_and64 {p q : UInt64} (hx : ov l x = some (encD p)) (hy : ov l y = some (encD q)) : Runs P n l w (.binOp .and t x y t') (encD (p &&& q)) :=
  x_bin hx hy (b_int fun W => by
    show Result.ok (Value.int .u64 (IntKind.u64.wrap ((BitVec.ofInt 64 (p.toNat : Int) &&& BitVec.ofInt 64 (q.toNat : Int)).toNat : Int))) W = _
    rw [bv64, bv64, ← UInt64.toBitVec_and, wrap_u64, encD]
    have := (p &&& q).toNat_lt
    congr 2
    show ((p &&& q).toNat : Int) % 18446744073709551616 = _
    omega)
theorem x_or64 {p q : UInt64} (hx : ov l x = some (encD p)) (hy : ov l y = some (encD q)) : Runs P n l w (.binOp .or t x y t') (encD (p ||| q)) :=
  x_bin hx hy (b_int fun W => by
    show Result.ok (Value.int .u64 (IntKind.u64.wrap ((BitVec.ofInt 64 (p.toNat : Int) ||| BitVec.ofInt 64 (q.toNat : Int)).toNat : Int))) W = _
    rw [bv64, bv64, ← UInt64.toBitVec_or, wrap_u64, encD]
    have := (p ||| q).toNat_lt
    congr 2
    show ((p ||| q).toNat : Int) % 18446744073709551616 = _
    omega)
theorem x_shr64 {p : UInt64} {k : IntKind} {q : Int} (m : Nat) (hq : q = (m : Int)) (hm : m < 64) (hx : ov l x = some (encD p)) (hy : ov l y = some (.int k q)) : Runs P n l w (.binOp .shr t x y t') (encD (p >>> UInt64.ofNat m)) :=
  x_bin hx hy (b_sh fun W => by
    subst hq
    have hmin : min m 64 = m := by omega
    simp only [binOp, Op.shift, show ¬ ((m : Int) < 0) from by omega, if_false, Int.toNat_natCast, IntKind.bits, hmin, encD]
    show Result.ok (Value.int .u64 _) W = _
    congr 2
    rw [UInt64.toNat_shiftRight, UInt64.toNat_ofNat', Nat.mod_eq_of_lt (show m < 2 ^ 64 by omega), Nat.mod_eq_of_lt hm, Nat.shiftRight_eq_div_pow, Int.fdiv_eq_ediv_of_nonneg _ (by exact_mod_cast Nat.zero_le _)]
    norm_cast)
theorem x_shl64 {p : UInt64} {k : IntKind} {q : Int} (m : Nat) (hq : q = (m : Int)) (hm : m < 64) (hx : ov l x = some (encD p)) (hy : ov l y = some (.int k q)) : Runs P n l w (.binOp .shl t x y t') (encD (p <<< UInt64.ofNat m)) :=
  x_bin hx hy (b_sh fun W => by
    subst hq
    have hmin : min m 64 = m := by omega
    simp only [binOp, Op.shift, show ¬ ((m : Int) < 0) from by omega, if_false, Int.toNat_natCast, IntKind.bits, hmin, encD]
    show Result.ok (Value.int .u64 (IntKind.u64.wrap _)) W = _
    rw [show (p.toNat : Int) * 2 ^ m = ((p.toNat * 2 ^ m : Nat) : Int) from by simp, nat64]
    congr 4
    apply UInt64.toNat_inj.1
    rw [UInt64.toNat_shiftLeft, UInt64.toNat_ofNat', UInt64.toNat_ofNat', Nat.shiftLeft_eq, Nat.mod_eq_of_lt (show m < 2 ^ 64 by omega), Nat.mod_eq_of_lt hm])
theorem x_i2d {s d : TypeId} {ds : TypeDesc} {m : Nat} (hs : P.underlying s = some ds) (hd : P.underlying d = some (.int .u64)) (hx : ov l x = some (.int .i64 (m : Int))) : Runs P n l w (.convert s d x) (encD (UInt64.ofNat m)) :=
  x_conv hx (by
    unfold encD
    rw [run_conv_int hs hd, nat64])
theorem x_sub8 {p q : UInt8} (hx : ov l x = some (encB p)) (hy : ov l y = some (encB q)) : Runs P n l w (.binOp .sub t x y t') (encB (p - q)) :=
  x_bin hx hy (b_int fun W => by
    have h1 := p.toNat_lt
    have h2 := q.toNat_lt
    show Result.ok (Value.int .u8 (IntKind.u8.wrap ((p.toNat : Int) - (q.toNat : Int)))) W = _
    rw [wrap_u8, encB, UInt8.toNat_sub]
    have : ((p.toNat : Int) - (q.toNat : Int)) % 256 = (((2 ^ 8 - q.toNat + p.toNat) % 2 ^ 8 : Nat) : Int) := by omega
    rw [this])
theorem x_add8 {p q : UInt8} (hx : ov l x = some (encB p)) (hy : ov l y = some (encB q)) : Runs P n l w (.binOp .add t x y t') (encB (p + q)) :=
  x_bin hx hy (b_int fun W => by
    show Result.ok (Value.int .u8 (IntKind.u8.wrap ((p.toNat : Int) + (q.toNat : Int)))) W = _
    rw [show (p.toNat : Int) + (q.toNat : Int) = ((p.toNat + q.toNat : Nat) : Int) from by simp, nat8, encB]
    congr 4)
theorem x_and8 {p q : UInt8} (hx : ov l x = some (encB p)) (hy : ov l y = some (encB q)) : Runs P n l w (.binOp .and t x y t') (encB (p &&& q)) :=
  x_bin hx hy (b_int fun W => by
    show Result.ok (Value.int .u8 (IntKind.u8.wrap ((BitVec.ofInt 8 (p.toNat : Int) &&& BitVec.ofInt 8 (q.toNat : Int)).toNat : Int))) W = _
    rw [bv8, bv8, ← UInt8.toBitVec_and, wrap_u8, encB]
    have := (p &&& q).toNat_lt
    congr 2
    show ((p &&& q).toNat : Int) % 256 = _
    omega)
theorem x_or8 {p q : UInt8} (hx : ov l x = some (encB p)) (hy : ov l y = some (encB q)) : Runs P n l w (.binOp .or t x y t') (encB (p ||| q)) :=
  x_bin hx hy (b_int fun W => by
    show Result.ok (Value.int .u8 (IntKind.u8.wrap ((BitVec.ofInt 8 (p.toNat : Int) ||| BitVec.ofInt 8 (q.toNat : Int)).toNat : Int))) W = _
    rw [bv8, bv8, ← UInt8.toBitVec_or, wrap_u8, encB]
    have := (p ||| q).toNat_lt
    congr 2
    show ((p ||| q).toNat : Int) % 256 = _
    omega)
theorem x_shr8 {p : UInt8} {k : IntKind} {q : Int} (m : Nat) (hq : q = (m : Int)) (hm : m < 8) (hx : ov l x = some (encB p)) (hy : ov l y = some (.int k q)) : Runs P n l w (.binOp .shr t x y t') (encB (p >>> UInt8.ofNat m)) :=
  x_bin hx hy (b_sh fun W => by
    subst hq
    have hmin : min m 8 = m := by omega
    simp only [binOp, Op.shift, show ¬ ((m : Int) < 0) from by omega, if_false, Int.toNat_natCast, IntKind.bits, hmin, encB]
    show Result.ok (Value.int .u8 _) W = _
    congr 2
    rw [UInt8.toNat_shiftRight, UInt8.toNat_ofNat', Nat.mod_eq_of_lt (show m < 2 ^ 8 by omega), Nat.mod_eq_of_lt hm, Nat.shiftRight_eq_div_pow, Int.fdiv_eq_ediv_of_nonneg _ (by exact_mod_cast Nat.zero_le _)]
    norm_cast)
theorem x_shl8 {p : UInt8} {k : IntKind} {q : Int} (m : Nat) (hq : q = (m : Int)) (hm : m < 8) (hx : ov l x = some (encB p)) (hy : ov l y = some (.int k q)) : Runs P n l w (.binOp .shl t x y t') (encB (p <<< UInt8.ofNat m)) :=
  x_bin hx hy (b_sh fun W => by
    subst hq
    have hmin : min m 8 = m := by omega
    simp only [binOp, Op.shift, show ¬ ((m : Int) < 0) from by omega, if_false, Int.toNat_natCast, IntKind.bits, hmin, encB]
    show Result.ok (Value.int .u8 (IntKind.u8.wrap _)) W = _
    rw [show (p.toNat : Int) * 2 ^ m = ((p.toNat * 2 ^ m : Nat) : Int) from by simp, nat8]
    congr 4
    apply UInt8.toNat_inj.1
    rw [UInt8.toNat_shiftLeft, UInt8.toNat_ofNat', UInt8.toNat_ofNat', Nat.shiftLeft_eq, Nat.mod_eq_of_lt (show m < 2 ^ 8 by omega), Nat.mod_eq_of_lt hm])
end

/-! ### Slices -/
section
variable {P : Program} {w : World}

/-- s[k:] of an array's variable. -/
theorem m_sliceA {t : TypeId} {N e : Nat} {b o : Nat} {ik : IntKind} {i : Int} (j : Nat) (hu : P.underlying t = some (.array N e)) (he : (P.info? e).map (·.size) = some 1) (hi : i = (j : Int)) (hj : j < N) :
    (Instr.sliceAt t (.pointer (some ⟨b, o, none⟩)) (some (.int ik i)) none none).run P w = .ok (.slice (some ⟨b, o + j, none⟩) (N - j) (N - j)) w := by
  subst hi
  have h1 : (j : Int) ≤ (N : Int) := by omega
  have h2 : ¬ N = j := by omega
  simp [Instr.sliceAt, Instr.sureAddr, run_underlying hu, Instr.sliceBounds, Instr.sliceBound, asIntOf, h1, run_sizeOf_of he, h2, addr_addn]
  intro hh
  omega
/-- The whole of an array's variable. -/
theorem m_sliceAll {t : TypeId} {N e : Nat} {b o : Nat} (hu : P.underlying t = some (.array N e)) (he : (P.info? e).map (·.size) = some 1) :
    (Instr.sliceAt t (.pointer (some ⟨b, o, none⟩)) none none none).run P w = .ok (.slice (some ⟨b, o, none⟩) N N) w := by
  simp [Instr.sliceAt, Instr.sureAddr, run_underlying hu, Instr.sliceBounds, run_sizeOf_of he, addr_addn]
/-- s[:k] of an array's variable. -/
theorem m_sliceAu {t : TypeId} {N e : Nat} {b o : Nat} {ik : IntKind} {i : Int} (j : Nat) (hu : P.underlying t = some (.array N e)) (he : (P.info? e).map (·.size) = some 1) (hi : i = (j : Int)) (hj : j ≤ N) :
    (Instr.sliceAt t (.pointer (some ⟨b, o, none⟩)) none (some (.int ik i)) none).run P w = .ok (.slice (some ⟨b, o, none⟩) j N) w := by
  subst hi
  have h1 : (j : Int) ≤ (N : Int) := by omega
  simp [Instr.sliceAt, Instr.sureAddr, run_underlying hu, Instr.sliceBounds, Instr.sliceBound, asIntOf, h1, run_sizeOf_of he, addr_addn]
  intro hh
  omega
/-- s[k:] of a slice. -/
theorem m_sliceF {t : TypeId} {e : Nat} {a : Option Addr} {N c : Nat} {ik : IntKind} {i : Int} (j : Nat) (hu : P.underlying t = some (.slice e)) (he : (P.info? e).map (·.size) = some 1) (hi : i = (j : Int)) (hj : j ≤ N) :
    (Instr.sliceAt t (.slice a N c) (some (.int ik i)) none none).run P w = .ok (.slice (if c = j then a else a.map (·.add j)) (N - j) (c - j)) w := by
  subst hi
  have h1 : (j : Int) ≤ (N : Int) := by omega
  simp [Instr.sliceAt, Instr.slice, run_underlying hu, Instr.sliceBounds, Instr.sliceBound, asIntOf, h1, run_sizeOf_of he]
  intro hh
  omega
/-- s[:k] of a slice. -/
theorem m_sliceU {t : TypeId} {e : Nat} {a : Option Addr} {N c : Nat} {ik : IntKind} {i : Int} (j : Nat) (hu : P.underlying t = some (.slice e)) (he : (P.info? e).map (·.size) = some 1) (hi : i = (j : Int)) (hj : j ≤ c) :
    (Instr.sliceAt t (.slice a N c) none (some (.int ik i)) none).run P w = .ok (.slice a j c) w := by
  subst hi
  have h1 : (j : Int) ≤ (c : Int) := by omega
  cases a <;> simp [Instr.sliceAt, Instr.slice, run_underlying hu, Instr.sliceBounds, Instr.sliceBound, asIntOf, h1, run_sizeOf_of he, Addr.add] <;> (intro hh; omega)
/-- s[:k] of a string. -/
theorem m_sliceS {t : TypeId} {s : ByteArray} {ik : IntKind} {i : Int} (j : Nat) (hu : P.underlying t = some .string) (hi : i = (j : Int)) (hj : j ≤ s.size) :
    (Instr.sliceAt t (.string s) none (some (.int ik i)) none).run P w = .ok (.string (s.extract 0 j)) w := by
  subst hi
  have h1 : (j : Int) ≤ (s.size : Int) := by omega
  simp [Instr.sliceAt, Instr.slice, run_underlying hu, Instr.sliceBounds, Instr.sliceBound, asIntOf, h1]
  intro hh
  omega

/-- The slice v reads as the bytes bs; they don't lie in block ex. -/
def RB (ex : Nat) (W : World) (v : Value) (bs : List UInt8) : Prop :=
  (∃ a c, v = .slice a 0 c ∧ bs = [] ∧ (a = none → c = 0)) ∨
  ∃ b off cap, v = .slice (some ⟨b, off, none⟩) bs.length cap ∧ bs.length ≤ cap ∧ b ≠ ex ∧ b < W.heap.size ∧ ∀ j u, bs[j]? = some u → W.cell? ⟨b, off + j, none⟩ = some (encB u)

theorem RB.form {ex : Nat} {W : World} {v : Value} {bs : List UInt8} (h : RB ex W v bs) : ∃ a c, v = .slice a bs.length c ∧ bs.length ≤ c ∧ (a = none → c = 0) := by
  rcases h with ⟨a, c, rfl, rfl, h⟩ | ⟨b, off, cap, rfl, h, _⟩
  · exact ⟨a, c, rfl, Nat.zero_le _, h⟩
  · exact ⟨_, cap, rfl, h, by simp⟩
theorem RB.below {ex : Nat} {W W' : World} {v : Value} {bs : List UInt8} (h : RB ex W v bs) (hB : Below W.heap.size W W') : RB ex W' v bs := by
  rcases h with h | ⟨b, off, cap, rfl, h1, hx, hl, h2⟩
  · exact .inl h
  · exact .inr ⟨b, off, cap, rfl, h1, hx, Nat.lt_of_lt_of_le hl hB.size, fun j u hj => (hB.cell (p := ⟨b, off + j, none⟩) hl).trans (h2 j u hj)⟩
theorem RB.only {ex : Nat} {W W' : World} {v : Value} {bs : List UInt8} (h : RB ex W v bs) (ho : Only ex W W') : RB ex W' v bs := by
  rcases h with h | ⟨b, off, cap, rfl, h1, hx, hl, h2⟩
  · exact .inl h
  · exact .inr ⟨b, off, cap, rfl, h1, hx, by rw [ho.size]; exact hl, fun j u hj => (World.cell?_of_block (w := W) (a := ⟨b, off + j, none⟩) (ho.block b hx)).trans (h2 j u hj)⟩
/-- It lies apart from a younger block. -/
theorem RB.young {ex ex' : Nat} {W : World} {v : Value} {bs : List UInt8} (h : RB ex W v bs) (he : W.heap.size ≤ ex') : RB ex' W v bs := by
  rcases h with h | ⟨b, off, cap, rfl, h1, hx, hl, h2⟩
  · exact .inl h
  · exact .inr ⟨b, off, cap, rfl, h1, by omega, hl, h2⟩
/-- All of it behind its first k. -/
theorem RB.from {ex : Nat} {W : World} {a : Option Addr} {N c : Nat} {bs : List UInt8} (h : RB ex W (.slice a N c) bs) {k : Nat} (hk : k ≤ bs.length) : RB ex W (.slice (if c = k then a else a.map (·.add k)) (N - k) (c - k)) (bs.drop k) := by
  rcases h with ⟨a', c', e, rfl, h⟩ | ⟨b, off, cap, e, h1, hx, hl, h2⟩
  · cases e
    obtain rfl : k = 0 := by simpa using hk
    refine .inl ⟨_, _, rfl, by simp, ?_⟩
    intro h0
    have : a = none := by
      split at h0
      · exact h0
      · cases a <;> simp at h0 ⊢
    have := h this
    omega
  · cases e
    by_cases hc : c = k
    · have : bs.length = k := by omega
      refine .inl ⟨some ⟨b, off, none⟩, c - k, ?_, by rw [← this]; simp, by simp⟩
      simp [hc, this]
    · refine .inr ⟨b, off + k, c - k, ?_, by simp; omega, hx, hl, fun j u hj => ?_⟩
      · simp [hc, addr_addn]
      · rw [List.getElem?_drop] at hj
        rw [Nat.add_assoc]
        exact h2 _ u hj
theorem RB.blk {ex : Nat} {W : World} {b t : Nat} {bs : List UInt8} (h : Blk W b t (bs.map encB)) (hx : b ≠ ex) : RB ex W (.slice (some ⟨b, 0, none⟩) bs.length bs.length) bs :=
  .inr ⟨b, 0, bs.length, rfl, Nat.le_refl _, hx, h.lt, fun j u hj => by rw [Nat.zero_add]; exact h.cell (by rw [List.getElem?_map, hj]; rfl)⟩

/-- 'make([]byte, n)'. -/
theorem m_make {t e : TypeId} {i : TypeInfo} {z : Value} (ht : P.underlying t = some (.slice e)) (hi : P.info? e = some i) (hz : i.zero = some z) (hs : i.size = 1) (hc : z.cells = #[z]) (m : Nat) (hb : i.bytes * m ≤ 281474976710656) (hm : m < 9223372036854775808) {kl kc : IntKind} {p q : Int} (hp : p = (m : Int)) (hq : q = (m : Int)) :
    (Instr.makeSlice t (.int kl p) (.int kc q)).run P w = .ok (.slice (some ⟨w.heap.size, 0, none⟩) m m) (w.alloc (.cells (List.replicate m z).toArray e)) := by
  subst hp hq
  have hb' : (i.bytes : Int) * (m : Int) ≤ 281474976710656 := by
    have h : ((i.bytes * m : Nat) : Int) ≤ 281474976710656 := by omega
    rwa [Int.natCast_mul] at h
  rw [run_make (P := P) w t e i z ht hi hz kl kc m m (by omega) (by omega) hb' (by omega)]
  simp only [Int.toNat_natCast, hs, Nat.mul_one]
  congr 4
  apply Array.ext'
  apply List.ext_getElem?
  intro j
  simp only [madeCells, hc, Array.toList_map, List.getElem?_map]
  by_cases hj : j < m
  · simp [hj, Nat.mod_one]
  · simp [hj]
end

section
variable {P : Program} {n d : Nat} {l : List (Nat × Value)} {w : World} {a : Act} {ops : Array Oper} {Q : Exit → Act → World → Prop} {rest : List Oper} {ty : TypeId} {pos : String} {af : Array Edge}

theorem s_make {ds : List Deferred} {t e : TypeId} {i : TypeInfo} {z : Value} {x y : Operand} {kl kc : IntKind} {p q : Int} (m : Nat) (hF : Fs n a l (ds := ds)) (hd : d < n) (hx : ov l x = some (.int kl p)) (hy : ov l y = some (.int kc q)) (ht : P.underlying t = some (.slice e)) (hi : P.info? e = some i) (hz : i.zero = some z) (hs : i.size = 1) (hc : z.cells = #[z]) (hb : i.bytes * m ≤ 281474976710656) (hm : m < 9223372036854775808) (hp : p = (m : Int)) (hq : q = (m : Int))
    (h : ∀ w' b a', b = w.heap.size → Blk w' b e (List.replicate m z) → Below w.heap.size w w' → w'.heap.size = w.heap.size + 1 → Fs n a' ((d, .slice (some ⟨b, 0, none⟩) m m) :: l) (ds := ds) → wpList P ops Q rest a' w') :
    wpList P ops Q (⟨some d, .makeSlice t x y, ty, pos, af, none⟩ :: rest) a w :=
  s_new hF (fun o ho => by simp [execOp, ho, hF.ov hx, hF.ov hy, m_make ht hi hz hs hc m hb hm hp hq]) hd fun a' hF' => h _ _ a' rfl (blk_alloc e _) (below_alloc _) (size_alloc _) hF'

/-- 'copy(d, s)', the target a part of a known block. -/
theorem s_copy {ds : List Deferred} {dT sT e : TypeId} {x y : Operand} {b o dl dc : Nat} {v : Value} {cs : List Value} {t0 : TypeId} {bs : List UInt8} {ex : Nat} (hF : Fs n a l (ds := ds)) (hd : d < n) (hx : ov l x = some (.slice (some ⟨b, o, none⟩) dl dc)) (hy : ov l y = some v) (hu : P.underlying dT = some (.slice e)) (he : (P.info? e).map (·.size) = some 1)
    (hB : Blk w b t0 cs) (hs : RB ex w v bs) (ho : o + dl ≤ cs.length)
    (h : ∀ w' a', Blk w' b t0 (cs.take o ++ (bs.take (min bs.length dl)).map encB ++ cs.drop (o + min bs.length dl)) → Only b w w' → Fs n a' ((d, .int .i64 ((min bs.length dl : Nat) : Int)) :: l) (ds := ds) → wpList P ops Q rest a' w') :
    wpList P ops Q (⟨some d, .call { callee := .builtin .copy, args := #[x, y], argTypes := #[dT, sT] }, ty, pos, af, none⟩ :: rest) a w := by
  have hlen : ((bs.take (min bs.length dl)).map encB).length = min bs.length dl := by simp
  have hone : ∀ u ∈ (bs.take (min bs.length dl)).map encB, u.oneCell' = true := by
    intro u hu
    simp only [List.mem_map] at hu
    obtain ⟨c, _, rfl⟩ := hu
    rfl
  rcases hs with ⟨a', c', rfl, rfl, hn⟩ | ⟨b', off, cap, rfl, h1, hx', hl, h2⟩
  · have hcopy := fun ty => run_copy_none (P := P) w dT sT ty e (some ⟨b, o, none⟩) a' dl dc 0 c' hu he (by simp)
    refine s_new (w' := w) (v := .int .i64 ((min ([] : List UInt8).length dl : Nat) : Int)) hF (fun oo ho' => ?_) hd fun a'' hF' => h w a'' ?_ ⟨rfl, rfl, rfl, rfl, fun _ _ => rfl⟩ hF'
    · simp [execOp, ho', resolve, invoke, builtin, hF.ov hx, hF.ov hy, hcopy, goInt]
    · simpa using hB
  · have hsrc : ∀ j v, ((bs.take (min bs.length dl)).map encB)[j]? = some v → w.cell? ((⟨b', off, none⟩ : Addr).add j) = some v := by
      intro j u hj
      rw [addr_addn]
      simp only [List.getElem?_map, List.getElem?_take] at hj
      split at hj
      · cases hb : bs[j]? with
        | none => rw [hb] at hj; cases hj
        | some c =>
          rw [hb] at hj
          cases hj
          exact h2 j c hb
      · cases hj
    have hcopy := fun ty => run_copy_row P w dT sT ty e b o dl dc ⟨b', off, none⟩ bs.length cap cs.toArray t0 ((bs.take (min bs.length dl)).map encB) hu he hB (by rw [hlen]) hsrc (by rw [hlen]; simp only [List.size_toArray]; omega) hone
    simp only [hlen] at hcopy
    refine s_new (w' := w.setRow b (cs.take o ++ (bs.take (min bs.length dl)).map encB ++ cs.drop (o + min bs.length dl)).toArray) (v := .int .i64 ((min bs.length dl : Nat) : Int)) hF (fun oo ho' => ?_) hd fun a'' hF' => h _ a'' (blk_setRow hB _) (only_setRow _) hF'
    simp [execOp, ho', resolve, invoke, builtin, hF.ov hx, hF.ov hy, hcopy, goInt]
end
end Go.Proofs.Ytgpciphjhnabcaa
