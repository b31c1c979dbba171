/- Numbers as bytes, seven bits a byte: plain mathematics. No program is named here. -/
import Derived.Laws.BitsAllLaws
import Derived.WalkKit
namespace Go.Proofs.Ytllpohacomknfaa
set_option linter.unusedVariables false
set_option linter.unusedSimpArgs false

/-- A byte's cell. -/
def encU (c : UInt8) : Value := .int .u8 (c.toNat : Int)

/-- The number of some bytes, the lowest first. -/
def val : List UInt8 → Nat
  | [] => 0
  | c :: r => c.toNat % 128 + 128 * val r

theorem val_append (a b : List UInt8) : val (a ++ b) = val a + 128 ^ a.length * val b := by
  induction a with
  | nil => simp [val]
  | cons c r ih =>
    simp only [List.cons_append, val, ih, List.length_cons, Nat.pow_succ]
    rw [Nat.mul_add, Nat.mul_comm (128 ^ r.length) 128, Nat.mul_assoc]
    omega

theorem val_lt (a : List UInt8) : val a < 128 ^ a.length := by
  induction a with
  | nil => simp [val]
  | cons c r ih =>
    simp only [val, List.length_cons, Nat.pow_succ]
    have : c.toNat % 128 < 128 := Nat.mod_lt _ (by decide)
    omega

theorem val_snoc (a : List UInt8) (c : UInt8) : val (a ++ [c]) = val a + 128 ^ a.length * (c.toNat % 128) := by
  rw [val_append]; simp [val]

/-- The place of the byte that ends the number. -/
def elen : List UInt8 → Option Nat
  | [] => none
  | c :: r => if c.toNat < 128 then some 0 else (elen r).map (· + 1)

theorem elen_none {bs : List UInt8} (h : elen bs = none) : ∀ (j : Nat) c, bs[j]? = some c → 128 ≤ c.toNat := by
  induction bs with
  | nil => intro j c hc; simp at hc
  | cons x r ih =>
    simp only [elen] at h
    split at h
    · cases h
    · next hx =>
      intro j c hc
      cases j with
      | zero => simp at hc; subst hc; omega
      | succ j =>
        simp at hc
        exact ih (by simpa using h) j c hc

theorem elen_some {bs : List UInt8} {k : Nat} (h : elen bs = some k) : (∃ c, bs[k]? = some c ∧ c.toNat < 128) ∧ ∀ (j : Nat) c, j < k → bs[j]? = some c → 128 ≤ c.toNat := by
  induction bs generalizing k with
  | nil => simp [elen] at h
  | cons x r ih =>
    simp only [elen] at h
    split at h
    · next hx => cases h; exact ⟨⟨x, rfl, hx⟩, fun j c hj => by omega⟩
    · next hx =>
      cases hr : elen r with
      | none => rw [hr] at h; cases h
      | some m =>
        rw [hr] at h; simp at h; subst h
        obtain ⟨⟨c, hc, hl⟩, h2⟩ := ih hr
        refine ⟨⟨c, by simpa using hc, hl⟩, fun j d hj hd => ?_⟩
        cases j with
        | zero => simp at hd; subst hd; omega
        | succ j => simp at hd; exact h2 j d (by omega) hd

theorem elen_lt {bs : List UInt8} {k : Nat} (h : elen bs = some k) : k < bs.length := by
  obtain ⟨⟨c, hc, _⟩, _⟩ := elen_some h
  exact (List.getElem?_eq_some_iff.1 hc).1

/-- May a number whose last byte, at place j, is c, be? -/
def snd (j : Nat) (c : UInt8) : Bool := !(decide (0 < j) && c == 0) && (decide (j < 9) || decide (j = 9) && decide (c.toNat ≤ 1))

/-- What Take tells: the number, how many bytes it has, the error. -/
def tk (bs : List UInt8) : Nat × Nat × Nat :=
  match elen bs with
  | none => (0, 0, 3)
  | some j => if snd j (bs[j]?.getD 0) then (val (bs.take (j + 1)), j + 1, 0) else (0, 0, 4)

theorem tk_none {bs : List UInt8} (h : elen bs = none) : tk bs = (0, 0, 3) := by simp [tk, h]
theorem tk_bad {bs : List UInt8} {j : Nat} (h : elen bs = some j) (hs : snd j (bs[j]?.getD 0) = false) : tk bs = (0, 0, 4) := by simp [tk, h, hs]
theorem tk_good {bs : List UInt8} {j : Nat} (h : elen bs = some j) (hs : snd j (bs[j]?.getD 0) = true) : tk bs = (val (bs.take (j + 1)), j + 1, 0) := by simp [tk, h, hs]

theorem snd_le {j : Nat} {c : UInt8} (h : snd j c = true) : j ≤ 9 ∧ (j = 9 → c.toNat ≤ 1) := by
  simp [snd] at h; omega

theorem take_snoc {bs : List UInt8} {j : Nat} {c : UInt8} (h : bs[j]? = some c) : bs.take (j + 1) = bs.take j ++ [c] := by
  rw [List.take_add_one, h]; rfl

/-- A number that may be has 64 bits. -/
theorem val_64 {bs : List UInt8} {j : Nat} (h : elen bs = some j) (hs : snd j (bs[j]?.getD 0) = true) : val (bs.take (j + 1)) < 2 ^ 64 := by
  obtain ⟨⟨c, hc, hl⟩, _⟩ := elen_some h
  rw [hc] at hs
  obtain ⟨h1, h2⟩ := snd_le hs
  simp only [Option.getD_some] at h2
  rw [take_snoc hc, val_snoc]
  have hv := val_lt (bs.take j)
  have hj := elen_lt h
  have hlen : (bs.take j).length = j := by simp; omega
  rw [hlen] at hv ⊢
  by_cases h9 : j = 9
  · subst h9
    have := h2 rfl
    have : c.toNat % 128 ≤ 1 := by omega
    have e : (128 : Nat) ^ 9 = 2 ^ 63 := by decide
    rw [e] at hv ⊢
    omega
  · have : (128 : Nat) ^ j ≤ 128 ^ 8 := Nat.pow_le_pow_right (by decide) (by omega)
    have hc' : c.toNat % 128 ≤ 127 := by omega
    have : (128 : Nat) ^ j * (c.toNat % 128) ≤ 128 ^ 8 * 127 := Nat.mul_le_mul this hc'
    have e : (128 : Nat) ^ 8 = 2 ^ 56 := by decide
    rw [e] at *
    omega

theorem tk_lt (bs : List UInt8) : (tk bs).1 < 2 ^ 64 ∧ (tk bs).2.1 ≤ bs.length ∧ ((tk bs).2.2 = 0 → 0 < (tk bs).2.1) := by
  cases h : elen bs with
  | none => rw [tk_none h]; simp
  | some j =>
    cases hs : snd j (bs[j]?.getD 0) with
    | false => rw [tk_bad h hs]; simp
    | true =>
      rw [tk_good h hs]
      have := elen_lt h
      exact ⟨val_64 h hs, by simp; omega, by simp⟩

theorem tk_err (bs : List UInt8) : (tk bs).2.2 = 0 ∨ (tk bs = (0, 0, 3)) ∨ tk bs = (0, 0, 4) := by
  cases h : elen bs with
  | none => rw [tk_none h]; simp
  | some j =>
    cases hs : snd j (bs[j]?.getD 0) with
    | false => rw [tk_bad h hs]; simp
    | true => rw [tk_good h hs]; simp

/-- One step of the loop that goes up. -/
theorem or_up {bs : List UInt8} {J k : Nat} {c : UInt8} (h : elen bs = some J) (hs : snd J (bs[J]?.getD 0) = true) (hk : k ≤ J) (hc : bs[k]? = some c) :
    bits .or .u64 ((val (bs.take k) : Nat) : Int) (IntKind.u64.wrap (((c.toNat % 128 : Nat) : Int) * 2 ^ min (7 * k) 64)) = ((val (bs.take (k + 1)) : Nat) : Int) := by
  have hJ := elen_lt h
  have h64 := val_64 h hs
  obtain ⟨h9, _⟩ := snd_le hs
  have hlen : (bs.take k).length = k := by simp; omega
  have hv := val_lt (bs.take k)
  have hsn : val (bs.take (k + 1)) = val (bs.take k) + 128 ^ k * (c.toNat % 128) := by rw [take_snoc hc, val_snoc, hlen]
  have hle : val (bs.take (k + 1)) ≤ val (bs.take (J + 1)) := by
    have e : bs.take (J + 1) = bs.take (k + 1) ++ (bs.take (J + 1)).drop (k + 1) := by
      have := List.take_append_drop (k + 1) (bs.take (J + 1))
      rw [List.take_take, Nat.min_eq_left (by omega)] at this
      exact this.symm
    rw [e, val_append]; omega
  rw [hlen] at hv
  have e7 : (2 : Nat) ^ (7 * k) = 128 ^ k := by rw [Nat.pow_mul]
  rw [Nat.min_eq_left (by omega)]
  have e1 : ((c.toNat % 128 : Nat) : Int) * 2 ^ (7 * k) = ((128 ^ k * (c.toNat % 128) : Nat) : Int) := by
    rw [← e7]; push_cast; rw [Int.mul_comm]
  rw [e1]
  have hb : 128 ^ k * (c.toNat % 128) < 18446744073709551616 := by omega
  have ha : val (bs.take k) < 18446744073709551616 := by omega
  rw [show IntKind.u64.wrap ((128 ^ k * (c.toNat % 128) : Nat) : Int) = ((128 ^ k * (c.toNat % 128) : Nat) : Int) from IntWalk.u64_in _ ⟨by omega, by omega⟩]
  rw [u64_or_nat _ _ ha hb, Nat.or_comm, nat_join (7 * k) _ _ (by rw [e7]; exact Nat.mul_mod_right _ _) (by rw [e7]; exact hv), hsn]
  congr 1
  omega

/-- One step of the loop that goes down. -/
theorem or_down {bs : List UInt8} {J k : Nat} {c : UInt8} (h : elen bs = some J) (hs : snd J (bs[J]?.getD 0) = true) (hk : k ≤ J) (hc : bs[k]? = some c) :
    bits .or .u64 (IntKind.u64.wrap (((val ((bs.take (J + 1)).drop (k + 1)) : Nat) : Int) * 128)) ((c.toNat % 128 : Nat) : Int) = ((val ((bs.take (J + 1)).drop k) : Nat) : Int) := by
  have hJ := elen_lt h
  have h64 := val_64 h hs
  have hk1 : k < (bs.take (J + 1)).length := by simp; omega
  have hd : (bs.take (J + 1)).drop k = c :: (bs.take (J + 1)).drop (k + 1) := by
    rw [List.drop_eq_getElem_cons hk1]
    congr 1
    rw [List.getElem_take]
    obtain ⟨_, e⟩ := List.getElem?_eq_some_iff.1 hc
    exact e
  have hle : val ((bs.take (J + 1)).drop k) ≤ val (bs.take (J + 1)) := by
    conv => rhs; rw [← List.take_append_drop k (bs.take (J + 1))]
    rw [val_append]
    have : 0 < 128 ^ (List.take k (List.take (J + 1) bs)).length := Nat.pow_pos (by decide)
    have := Nat.le_mul_of_pos_left (val ((bs.take (J + 1)).drop k)) this
    omega
  rw [hd] at hle ⊢
  simp only [val] at hle ⊢
  generalize val ((bs.take (J + 1)).drop (k + 1)) = V at hle ⊢
  have hm : c.toNat % 128 < 128 := Nat.mod_lt _ (by decide)
  have e1 : ((V : Nat) : Int) * 128 = ((128 * V : Nat) : Int) := by push_cast; omega
  rw [e1, show IntKind.u64.wrap ((128 * V : Nat) : Int) = ((128 * V : Nat) : Int) from IntWalk.u64_in _ ⟨by omega, by omega⟩]
  rw [u64_or_nat _ _ (by omega) (by omega), nat_join 7 _ _ (by show 128 * V % 128 = 0; omega) hm]
  congr 1
  omega

/-- The bytes of a number. -/
def dig (n : Nat) : List UInt8 := if n < 128 then [UInt8.ofNat n] else UInt8.ofNat (n % 128 + 128) :: dig (n / 128)
termination_by n
decreasing_by omega

theorem dig_lt {n : Nat} (h : n < 128) : dig n = [UInt8.ofNat n] := by rw [dig, if_pos h]
theorem dig_ge {n : Nat} (h : 128 ≤ n) : dig n = UInt8.ofNat (n % 128 + 128) :: dig (n / 128) := by rw [dig, if_neg (by omega)]

theorem dig_len (k : Nat) : ∀ n, n < 128 ^ (k + 1) → (dig n).length ≤ k + 1 := by
  induction k with
  | zero => intro n h; rw [dig_lt (by simpa using h)]; simp
  | succ k ih =>
    intro n h
    by_cases h1 : n < 128
    · rw [dig_lt h1]; simp
    · rw [dig_ge (by omega)]
      have := ih (n / 128) (by rw [Nat.div_lt_iff_lt_mul (by decide)]; rw [Nat.pow_succ] at h; exact h)
      simp; omega

theorem dig_len10 {n : Nat} (h : n < 2 ^ 64) : (dig n).length ≤ 10 := dig_len 9 n (Nat.lt_of_lt_of_le h (by decide))
theorem dig_pos (n : Nat) : 0 < (dig n).length := by
  by_cases h : n < 128
  · rw [dig_lt h]; simp
  · rw [dig_ge (by omega)]; simp

theorem val_dig (n : Nat) : val (dig n) = n := by
  induction n using Nat.strongRecOn with
  | ind n ih =>
    by_cases h : n < 128
    · rw [dig_lt h]; simp [val]; omega
    · rw [dig_ge (by omega)]
      simp only [val]
      rw [ih (n / 128) (by omega)]
      simp
      omega

theorem elen_dig (n : Nat) (r : List UInt8) : elen (dig n ++ r) = some ((dig n).length - 1) := by
  induction n using Nat.strongRecOn with
  | ind n ih =>
    by_cases h : n < 128
    · rw [dig_lt h]
      simp only [List.cons_append, List.nil_append, elen]
      rw [if_pos (by simp; omega)]; simp
    · rw [dig_ge (by omega)]
      simp only [List.cons_append, elen]
      rw [if_neg (by simp; omega), ih (n / 128) (by omega)]
      have := dig_pos (n / 128)
      simp; omega

theorem dig_last {n : Nat} (hn : 0 < n) : ∃ c, (dig n)[(dig n).length - 1]? = some c ∧ c ≠ 0 ∧ ∀ k, (dig n).length = k + 1 → n < 128 ^ k * 2 → c.toNat ≤ 1 := by
  induction n using Nat.strongRecOn with
  | ind n ih =>
    by_cases h : n < 128
    · rw [dig_lt h]
      refine ⟨UInt8.ofNat n, by simp, ?_, ?_⟩
      · intro e
        have := congrArg UInt8.toNat e
        simp at this; omega
      · intro k hk hb
        have : k = 0 := by simp at hk; omega
        subst this
        simp; omega
    · rw [dig_ge (by omega)]
      obtain ⟨c, hc, h0, h1⟩ := ih (n / 128) (by omega) (by omega)
      have hp := dig_pos (n / 128)
      refine ⟨c, ?_, h0, ?_⟩
      · have e : (UInt8.ofNat (n % 128 + 128) :: dig (n / 128)).length - 1 = ((dig (n / 128)).length - 1) + 1 := by simp; omega
        rw [e, List.getElem?_cons_succ]; exact hc
      · intro k hk hb
        simp at hk
        obtain ⟨m, rfl⟩ : ∃ m, k = m + 1 := ⟨k - 1, by omega⟩
        refine h1 m (by omega) ?_
        rw [Nat.div_lt_iff_lt_mul (by decide)]
        rw [Nat.pow_succ] at hb
        omega

/-- What is put is taken, whatever stands behind. -/
theorem tk_dig {n : Nat} (hn : n < 2 ^ 64) (r : List UInt8) : tk (dig n ++ r) = (n, (dig n).length, 0) := by
  have hp := dig_pos n
  have h10 := dig_len10 hn
  have he := elen_dig n r
  have hs : snd ((dig n).length - 1) ((dig n ++ r)[(dig n).length - 1]?.getD 0) = true := by
    rw [List.getElem?_append_left (by omega)]
    by_cases h0 : n = 0
    · subst h0; rw [dig_lt (by omega)]; simp [snd]
    · obtain ⟨c, hc, hc0, hc1⟩ := dig_last (n := n) (by omega)
      rw [hc]
      simp only [Option.getD_some]
      have hd : (c == 0) = false := by simpa using hc0
      have hle : (dig n).length = 10 → c.toNat ≤ 1 := fun h => hc1 9 h (Nat.lt_of_lt_of_le hn (by decide))
      simp only [snd, hd, Bool.and_false, Bool.not_false, Bool.true_and, Bool.or_eq_true, decide_eq_true_eq, Bool.and_eq_true]
      by_cases h : (dig n).length = 10
      · exact .inr ⟨by omega, hle h⟩
      · exact .inl (by omega)
  rw [tk_good he hs]
  have e : (dig n).length - 1 + 1 = (dig n).length := by omega
  rw [e, List.take_left', val_dig]
  rfl

/-- Cut off it is short. -/
theorem tk_cut {n k : Nat} (hk : k < (dig n).length) : tk ((dig n).take k) = (0, 0, 3) := by
  apply tk_none
  cases h : elen ((dig n).take k) with
  | none => rfl
  | some j =>
    exfalso
    have hj := elen_lt h
    simp at hj
    obtain ⟨⟨c, hc, hl⟩, _⟩ := elen_some h
    have he := elen_dig n []
    rw [List.append_nil] at he
    have := (elen_some he).2 j c (by omega) (by rw [List.getElem?_take, if_pos (by omega)] at hc; exact hc)
    omega

theorem dig_val (a : List UInt8) (c : UInt8) (ha : ∀ d ∈ a, 128 ≤ d.toNat) (hc : c.toNat < 128) (h0 : a ≠ [] → c ≠ 0) : dig (val (a ++ [c])) = a ++ [c] := by
  induction a with
  | nil =>
    simp only [List.nil_append, val]
    rw [dig_lt (by omega)]
    simp only [Nat.mul_zero, Nat.add_zero]
    rw [Nat.mod_eq_of_lt hc]
    simp
  | cons d r ih =>
    have hc0 : c ≠ 0 := h0 (by simp)
    have hd := ha d (by simp)
    have hdl : d.toNat < 256 := UInt8.toNat_lt d
    have hv : 0 < val (r ++ [c]) := by
      rw [val_snoc]
      have : 0 < c.toNat % 128 := by
        rw [Nat.mod_eq_of_lt hc]
        rcases Nat.eq_zero_or_pos c.toNat with h | h
        · exact absurd (UInt8.toNat_inj.1 (by simpa using h)) hc0
        · exact h
      have := Nat.mul_pos (Nat.pow_pos (n := r.length) (show 0 < 128 by decide)) this
      omega
    simp only [List.cons_append, val]
    have hm : d.toNat % 128 < 128 := Nat.mod_lt _ (by decide)
    rw [dig_ge (by omega)]
    have e1 : (d.toNat % 128 + 128 * val (r ++ [c])) % 128 = d.toNat % 128 := by omega
    have e2 : (d.toNat % 128 + 128 * val (r ++ [c])) / 128 = val (r ++ [c]) := by omega
    rw [e1, e2, ih (fun x hx => ha x (by simp [hx])) (fun _ => hc0)]
    have e3 : d.toNat % 128 + 128 = d.toNat := by omega
    rw [e3]
    simp

/-- What is taken, put again, has the same bytes. -/
theorem dig_tk {bs : List UInt8} (h : (tk bs).2.2 = 0) : dig (tk bs).1 = bs.take (tk bs).2.1 := by
  cases he : elen bs with
  | none => rw [tk_none he] at h; simp at h
  | some j =>
    cases hs : snd j (bs[j]?.getD 0) with
    | false => rw [tk_bad he hs] at h; simp at h
    | true =>
      rw [tk_good he hs]
      obtain ⟨⟨c, hc, hl⟩, hb⟩ := elen_some he
      simp only
      rw [take_snoc hc]
      refine dig_val _ _ (fun d hd => ?_) hl (fun hne => ?_)
      · obtain ⟨i, hi, e⟩ := List.getElem_of_mem hd
        simp at hi
        refine hb i d (by omega) ?_
        rw [List.getElem_take] at e
        rw [← e]; exact List.getElem?_eq_getElem (by omega)
      · rw [hc] at hs
        have hj : 0 < j := by
          rcases Nat.eq_zero_or_pos j with h0 | h0
          · subst h0; simp at hne
          · exact h0
        simp [snd, hj] at hs
        exact hs.1
end Go.Proofs.Ytllpohacomknfaa
