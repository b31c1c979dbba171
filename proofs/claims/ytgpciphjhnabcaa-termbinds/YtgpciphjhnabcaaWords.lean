/- Words of 32 bits, bytes, numbers of 64 bits, as the walk has them. No program is named here. -/
import Derived.Test.YtgpciphjhnabcaaSymM
import Derived.Laws.BitsAllLaws
namespace Go.Proofs.Ytgpciphjhnabcaa
open Go.RowKit Go.Shelf
set_option linter.unusedVariables false
set_option linter.unusedSimpArgs false

def encW (x : UInt32) : Value := .int .u32 (x.toNat : Int)
def encB (x : UInt8) : Value := .int .u8 (x.toNat : Int)
def encD (x : UInt64) : Value := .int .u64 (x.toNat : Int)

theorem wrap_u32 (z : Int) : IntKind.u32.wrap z = z % 4294967296 := by simp [IntKind.wrap, IntKind.bits, IntKind.signed]
theorem wrap_u8 (z : Int) : IntKind.u8.wrap z = z % 256 := by simp [IntKind.wrap, IntKind.bits, IntKind.signed]
theorem wrap_u64 (z : Int) : IntKind.u64.wrap z = z % 18446744073709551616 := by simp [IntKind.wrap, IntKind.bits, IntKind.signed]

theorem nat32 (m : Nat) : IntKind.u32.wrap (m : Int) = (((UInt32.ofNat m).toNat : Nat) : Int) := by
  rw [wrap_u32, UInt32.toNat_ofNat']
  simp
theorem nat8 (m : Nat) : IntKind.u8.wrap (m : Int) = (((UInt8.ofNat m).toNat : Nat) : Int) := by
  rw [wrap_u8, UInt8.toNat_ofNat']
  simp
theorem nat64 (m : Nat) : IntKind.u64.wrap (m : Int) = (((UInt64.ofNat m).toNat : Nat) : Int) := by
  rw [wrap_u64, UInt64.toNat_ofNat']
  simp

theorem bv32 (x : UInt32) : BitVec.ofInt 32 (x.toNat : Int) = x.toBitVec := by
  apply BitVec.eq_of_toNat_eq
  have := x.toNat_lt
  simp [BitVec.toNat_ofInt]
theorem bv8 (x : UInt8) : BitVec.ofInt 8 (x.toNat : Int) = x.toBitVec := by
  apply BitVec.eq_of_toNat_eq
  have := x.toNat_lt
  simp [BitVec.toNat_ofInt]
theorem bv64 (x : UInt64) : BitVec.ofInt 64 (x.toNat : Int) = x.toBitVec := by
  apply BitVec.eq_of_toNat_eq
  have := x.toNat_lt
  simp [BitVec.toNat_ofInt]

section
variable {P : Program} {n : Nat} {l : List (Nat × Value)} {w : World} {t t' : TypeId} {x y : Operand}

theorem x_add32 {p q : UInt32} (hx : ov l x = some (encW p)) (hy : ov l y = some (encW q)) : Runs P n l w (.binOp .add t x y t') (encW (p + q)) :=
  x_bin hx hy (b_int fun W => by
    simp only [binOp, Op.intArith, ne_eq, not_true, if_false, wrap_u32, encW, UInt32.toNat_add]
    simp)
theorem x_sub32 {p q : UInt32} (hx : ov l x = some (encW p)) (hy : ov l y = some (encW q)) : Runs P n l w (.binOp .sub t x y t') (encW (p - q)) :=
  x_bin hx hy (b_int fun W => by
    have h1 := p.toNat_lt
    have h2 := q.toNat_lt
    simp only [binOp, Op.intArith, ne_eq, not_true, if_false, wrap_u32, encW, UInt32.toNat_sub]
    have : ((p.toNat : Int) - (q.toNat : Int)) % 4294967296 = (((2 ^ 32 - q.toNat + p.toNat) % 2 ^ 32 : Nat) : Int) := by omega
    rw [this]
    rfl)
theorem run_xor32 (W : World) (p q : UInt32) : (Op.intBits .xor .u32 (p.toNat : Int) (q.toNat : Int)).run P W = .ok (encW (p ^^^ q)) W := by
  show Result.ok (Value.int .u32 (IntKind.u32.wrap ((BitVec.ofInt 32 (p.toNat : Int) ^^^ BitVec.ofInt 32 (q.toNat : Int)).toNat : Int))) W = _
  rw [bv32, bv32, ← UInt32.toBitVec_xor, wrap_u32, encW]
  have := (p ^^^ q).toNat_lt
  congr 2
  show ((p ^^^ q).toNat : Int) % 4294967296 = _
  omega
theorem x_xor32 {p q : UInt32} (hx : ov l x = some (encW p)) (hy : ov l y = some (encW q)) : Runs P n l w (.binOp .xor t x y t') (encW (p ^^^ q)) :=
  x_bin hx hy (b_int fun W => by simpa [binOp] using run_xor32 W p q)
theorem x_and32 {p q : UInt32} (hx : ov l x = some (encW p)) (hy : ov l y = some (encW q)) : Runs P n l w (.binOp .and t x y t') (encW (p &&& q)) :=
  x_bin hx hy (b_int fun W => by
    show Result.ok (Value.int .u32 (IntKind.u32.wrap ((BitVec.ofInt 32 (p.toNat : Int) &&& BitVec.ofInt 32 (q.toNat : Int)).toNat : Int))) W = _
    rw [bv32, bv32, ← UInt32.toBitVec_and, wrap_u32, encW]
    have := (p &&& q).toNat_lt
    congr 2
    show ((p &&& q).toNat : Int) % 4294967296 = _
    omega)
theorem x_or32 {p q : UInt32} (hx : ov l x = some (encW p)) (hy : ov l y = some (encW q)) : Runs P n l w (.binOp .or t x y t') (encW (p ||| q)) :=
  x_bin hx hy (b_int fun W => by
    show Result.ok (Value.int .u32 (IntKind.u32.wrap ((BitVec.ofInt 32 (p.toNat : Int) ||| BitVec.ofInt 32 (q.toNat : Int)).toNat : Int))) W = _
    rw [bv32, bv32, ← UInt32.toBitVec_or, wrap_u32, encW]
    have := (p ||| q).toNat_lt
    congr 2
    show ((p ||| q).toNat : Int) % 4294967296 = _
    omega)
theorem x_not32 {p : UInt32} (hx : ov l x = some (encW p)) : Runs P n l w (.unOp .xor t x) (encW (~~~p)) :=
  x_un hx (by
    show (Op.intBits .xor .u32 (4294967295 : Int) (p.toNat : Int)).run P w = _
    have h := run_xor32 (P := P) w 4294967295 p
    rw [show ((4294967295 : UInt32).toNat : Int) = 4294967295 from by decide] at h
    rw [h]
    congr 2)

/-- Shifts by less than 32. -/
theorem x_shl32 {p : UInt32} {k : IntKind} {q : Int} (m : Nat) (hq : q = (m : Int)) (hm : m < 32) (hx : ov l x = some (encW p)) (hy : ov l y = some (.int k q)) : Runs P n l w (.binOp .shl t x y t') (encW (p <<< UInt32.ofNat m)) :=
  x_bin hx hy (b_sh fun W => by
    subst hq
    have hmin : min m 32 = m := by omega
    simp only [binOp, Op.shift, show ¬ ((m : Int) < 0) from by omega, if_false, Int.toNat_natCast, IntKind.bits, hmin, encW]
    show Result.ok (Value.int .u32 (IntKind.u32.wrap _)) W = _
    rw [show (p.toNat : Int) * 2 ^ m = ((p.toNat * 2 ^ m : Nat) : Int) from by simp, nat32]
    congr 4
    apply UInt32.toNat_inj.1
    rw [UInt32.toNat_shiftLeft, UInt32.toNat_ofNat', UInt32.toNat_ofNat', Nat.shiftLeft_eq, Nat.mod_eq_of_lt (show m < 2 ^ 32 by omega), Nat.mod_eq_of_lt hm])
theorem x_shr32 {p : UInt32} {k : IntKind} {q : Int} (m : Nat) (hq : q = (m : Int)) (hm : m < 32) (hx : ov l x = some (encW p)) (hy : ov l y = some (.int k q)) : Runs P n l w (.binOp .shr t x y t') (encW (p >>> UInt32.ofNat m)) :=
  x_bin hx hy (b_sh fun W => by
    subst hq
    have hmin : min m 32 = m := by omega
    simp only [binOp, Op.shift, show ¬ ((m : Int) < 0) from by omega, if_false, Int.toNat_natCast, IntKind.bits, hmin, encW]
    show Result.ok (Value.int .u32 _) W = _
    congr 2
    rw [UInt32.toNat_shiftRight, UInt32.toNat_ofNat', Nat.mod_eq_of_lt (show m < 2 ^ 32 by omega), Nat.mod_eq_of_lt hm, Nat.shiftRight_eq_div_pow, Int.fdiv_eq_ediv_of_nonneg _ (by exact_mod_cast Nat.zero_le _)]
    norm_cast)
/-- A shift by 32 at least leaves nothing. -/
theorem x_shr32z {p : UInt32} {k : IntKind} {q : Int} (m : Nat) (hq : q = (m : Int)) (hm : 32 ≤ m) (hx : ov l x = some (encW p)) (hy : ov l y = some (.int k q)) : Runs P n l w (.binOp .shr t x y t') (encW 0) :=
  x_bin hx hy (b_sh fun W => by
    subst hq
    have hmin : min m 32 = 32 := by omega
    simp only [binOp, Op.shift, show ¬ ((m : Int) < 0) from by omega, if_false, Int.toNat_natCast, IntKind.bits, hmin, encW]
    show Result.ok (Value.int .u32 _) W = _
    congr 2
    have := p.toNat_lt
    rw [Int.fdiv_eq_ediv_of_nonneg _ (by decide)]
    rw [show ((0 : UInt32).toNat : Int) = 0 from by decide]
    omega)

/-- Conversions between kinds of integers. -/
theorem run_conv_int {s d : TypeId} {k : IntKind} {k0 : IntKind} {z : Int} {ds : TypeDesc} (hs : P.underlying s = some ds) (hd : P.underlying d = some (.int k)) (W : World) : (convert s d (.int k0 z)).run P W = .ok (.int k (k.wrap z)) W := by
  simp [convert, run_underlying hs, run_underlying hd, Conv.intToInt]
theorem x_cvt {s d : TypeId} {k k0 : IntKind} {z r : Int} {ds : TypeDesc} (hs : P.underlying s = some ds) (hd : P.underlying d = some (.int k)) (hr : k.wrap z = r) (hx : ov l x = some (.int k0 z)) : Runs P n l w (.convert s d x) (.int k r) :=
  x_conv hx (by rw [run_conv_int hs hd, hr])
theorem x_b2w {s d : TypeId} {ds : TypeDesc} {p : UInt8} (hs : P.underlying s = some ds) (hd : P.underlying d = some (.int .u32)) (hx : ov l x = some (encB p)) : Runs P n l w (.convert s d x) (encW p.toUInt32) :=
  x_conv hx (by
    have := p.toNat_lt
    unfold encB encW
    rw [run_conv_int hs hd, wrap_u32, UInt8.toNat_toUInt32]
    congr 2
    omega)
theorem x_w2b {s d : TypeId} {ds : TypeDesc} {p : UInt32} (hs : P.underlying s = some ds) (hd : P.underlying d = some (.int .u8)) (hx : ov l x = some (encW p)) : Runs P n l w (.convert s d x) (encB p.toUInt8) :=
  x_conv hx (by
    unfold encB encW
    rw [run_conv_int hs hd, nat8]
    rfl)
theorem x_d2b {s d : TypeId} {ds : TypeDesc} {p : UInt64} (hs : P.underlying s = some ds) (hd : P.underlying d = some (.int .u8)) (hx : ov l x = some (encD p)) : Runs P n l w (.convert s d x) (encB p.toUInt8) :=
  x_conv hx (by
    unfold encB encD
    rw [run_conv_int hs hd, nat8]
    rfl)
theorem x_d2w {s d : TypeId} {ds : TypeDesc} {p : UInt64} (hs : P.underlying s = some ds) (hd : P.underlying d = some (.int .u32)) (hx : ov l x = some (encD p)) : Runs P n l w (.convert s d x) (encW p.toUInt32) :=
  x_conv hx (by
    unfold encW encD
    rw [run_conv_int hs hd, nat32]
    rfl)
end
end Go.Proofs.Ytgpciphjhnabcaa
