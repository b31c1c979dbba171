/- Digits of base 16 on lists. No program is named here. -/
import Derived.Test.YtjohaokdfgkdjaaDoorPure2
namespace Go.Proofs.YtjohaokdfgkdjaaDoor
set_option linter.unusedVariables false

theorem u8_all {p : UInt8 → Prop} (h : ∀ n : Fin 256, p (UInt8.ofNat n.val)) : ∀ c, p c := by
  intro c
  have := h ⟨c.toNat, c.toNat_lt⟩
  simpa using this

def digs : List UInt8 := [48, 49, 50, 51, 52, 53, 54, 55, 56, 57, 97, 98, 99, 100, 101, 102]
def dg (n : UInt8) : UInt8 := digs.getD n.toNat 0
theorem dg_hi : ∀ c : UInt8, digs[(c >>> UInt8.ofNat 4).toNat]? = some (dg (c >>> UInt8.ofNat 4)) := u8_all (by decide +kernel)
theorem dg_lo : ∀ c : UInt8, digs[(c &&& 15).toNat]? = some (dg (c &&& 15)) := u8_all (by decide +kernel)

def hexL : List UInt8 → List UInt8
  | [] => []
  | c :: ds => dg (c >>> UInt8.ofNat 4) :: dg (c &&& 15) :: hexL ds
theorem hexL_length : ∀ ds, (hexL ds).length = 2 * ds.length
  | [] => rfl
  | c :: ds => by simp [hexL, hexL_length ds]; omega
theorem hexL_append : ∀ xs ys, hexL (xs ++ ys) = hexL xs ++ hexL ys
  | [], _ => rfl
  | c :: xs, ys => by simp [hexL, hexL_append xs ys]
theorem take_snoc {α : Type} (l : List α) (i : Nat) (z : α) (h : i < l.length) : l.take (i + 1) = l.take i ++ [l.getD i z] := by
  rw [List.take_add_one, List.getElem?_eq_getElem h, List.getD_eq_getElem?_getD, List.getElem?_eq_getElem h]
  rfl
theorem hexL_take (ds : List UInt8) (i : Nat) (h : i < ds.length) : hexL (ds.take (i + 1)) = (hexL (ds.take i) ++ [dg (ds.getD i 0 >>> UInt8.ofNat 4)]) ++ [dg (ds.getD i 0 &&& 15)] := by
  rw [take_snoc ds i 0 h, hexL_append]
  simp [hexL]

/-- A digit's number; is it one? -/
def dv (c : UInt8) : UInt8 := if 48 ≤ c.toNat ∧ c.toNat ≤ 57 then c - 48 else if 97 ≤ c.toNat ∧ c.toNat ≤ 102 then c - 97 + 10 else 0
def isD (c : UInt8) : Bool := decide (48 ≤ c.toNat ∧ c.toNat ≤ 57) || decide (97 ≤ c.toNat ∧ c.toNat ≤ 102)
/-- Digits as bytes. -/
def unhex : List UInt8 → List UInt8
  | c :: d :: l => ((dv c <<< UInt8.ofNat 4) ||| dv d) :: unhex l
  | _ => []
theorem unhex_length : ∀ (k : Nat) (l : List UInt8), l.length = 2 * k → (unhex l).length = k
  | 0, l, h => by
    obtain rfl : l = [] := List.eq_nil_of_length_eq_zero (by omega)
    rfl
  | k + 1, [], h => by simp at h
  | k + 1, [c], h => by simp at h; omega
  | k + 1, c :: d :: l, h => by
    simp only [unhex, List.length_cons]
    rw [unhex_length k l (by simp at h; omega)]
theorem unhex_append : ∀ (k : Nat) (l : List UInt8), l.length = 2 * k → ∀ c d, unhex (l ++ [c, d]) = unhex l ++ [(dv c <<< UInt8.ofNat 4) ||| dv d]
  | 0, l, h, c, d => by
    obtain rfl : l = [] := List.eq_nil_of_length_eq_zero (by omega)
    rfl
  | k + 1, [], h, _, _ => by simp at h
  | k + 1, [x], h, _, _ => by simp at h; omega
  | k + 1, x :: y :: l, h, c, d => by
    simp only [List.cons_append, unhex]
    rw [unhex_append k l (by simp at h; omega) c d]
theorem unhex_take (s : List UInt8) (i : Nat) (h : 2 * i + 1 < s.length) : unhex (s.take (2 * (i + 1))) = unhex (s.take (2 * i)) ++ [(dv (s.getD (2 * i) 0) <<< UInt8.ofNat 4) ||| dv (s.getD (2 * i + 1) 0)] := by
  rw [show 2 * (i + 1) = 2 * i + 1 + 1 by omega, take_snoc s (2 * i + 1) 0 h, take_snoc s (2 * i) 0 (by omega), List.append_assoc]
  exact unhex_append i _ (by simp; omega) _ _

theorem back8 : ∀ c : UInt8, ((dv (dg (c >>> UInt8.ofNat 4)) <<< UInt8.ofNat 4) ||| dv (dg (c &&& 15))) = c ∧ isD (dg (c >>> UInt8.ofNat 4)) = true ∧ isD (dg (c &&& 15)) = true := u8_all (by decide +kernel)
theorem unhex_hexL : ∀ ds, unhex (hexL ds) = ds
  | [] => rfl
  | c :: ds => by rw [hexL, unhex, unhex_hexL ds, (back8 c).1]
theorem hexL_isD : ∀ ds, ∀ c ∈ hexL ds, isD c = true
  | [], c, h => by cases h
  | d :: ds, c, h => by
    simp only [hexL, List.mem_cons] at h
    rcases h with rfl | rfl | h
    · exact (back8 d).2.1
    · exact (back8 d).2.2
    · exact hexL_isD ds c h
theorem dv_lt : ∀ c : UInt8, isD c = true → (dv c).toNat < 16 ∧ dg (dv c) = c := u8_all (by decide +kernel)
theorem nib : ∀ h l : Fin 16, ((UInt8.ofNat h.val <<< UInt8.ofNat 4) ||| UInt8.ofNat l.val) >>> UInt8.ofNat 4 = UInt8.ofNat h.val ∧ ((UInt8.ofNat h.val <<< UInt8.ofNat 4) ||| UInt8.ofNat l.val) &&& 15 = UInt8.ofNat l.val := by decide +kernel
theorem nib8 (h l : UInt8) (hh : h.toNat < 16) (hl : l.toNat < 16) : ((h <<< UInt8.ofNat 4) ||| l) >>> UInt8.ofNat 4 = h ∧ ((h <<< UInt8.ofNat 4) ||| l) &&& 15 = l := by
  have := nib ⟨h.toNat, hh⟩ ⟨l.toNat, hl⟩
  simpa using this
theorem hexL_unhex : ∀ (k : Nat) (l : List UInt8), l.length = 2 * k → (∀ c ∈ l, isD c = true) → hexL (unhex l) = l
  | 0, l, h, _ => by
    obtain rfl : l = [] := List.eq_nil_of_length_eq_zero (by omega)
    rfl
  | k + 1, [], h, _ => by simp at h
  | k + 1, [x], h, _ => by simp at h; omega
  | k + 1, x :: y :: l, h, hd => by
    have hx := dv_lt x (hd x (by simp))
    have hy := dv_lt y (hd y (by simp))
    have hn := nib8 (dv x) (dv y) hx.1 hy.1
    rw [unhex, hexL, hn.1, hn.2, hx.2, hy.2, hexL_unhex k l (by simp at h; omega) (fun c hc => hd c (by simp [hc]))]
end Go.Proofs.YtjohaokdfgkdjaaDoor
