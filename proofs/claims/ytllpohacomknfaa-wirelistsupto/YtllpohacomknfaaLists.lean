/- Rows of bytes as bytes: plain mathematics. -/
import Derived.Test.YtllpohacomknfaaWhole
import Derived.Test.YtllpohacomknfaaPutB
namespace Go.Proofs.Ytllpohacomknfaa
open Go.RowKit
set_option linter.unusedVariables false
set_option linter.unusedSimpArgs false

/-- Rows as bytes. -/
def pl (ls : List (List UInt8)) : List UInt8 := dig ls.length ++ ls.flatMap pb

/-- So many rows taken one by one, from a place on. -/
def tla (M : Int) (bs : List UInt8) : Nat → Nat → List (List UInt8) → List (List UInt8) × Nat × Nat
  | 0, fin, acc => (acc, fin, 0)
  | n + 1, fin, acc => if (tb (bs.drop fin) M).2.2 ≠ 0 then ([], 0, (tb (bs.drop fin) M).2.2) else tla M bs n (fin + (tb (bs.drop fin) M).2.1) (acc ++ [(tb (bs.drop fin) M).1])

/-- What TakeList tells. -/
def tl (bs : List UInt8) (most M : Int) : List (List UInt8) × Nat × Nat :=
  if (tk bs).2.2 ≠ 0 then ([], 0, (tk bs).2.2)
  else if most < 0 ∨ most < ((tk bs).1 : Int) then ([], 0, 18)
  else tla M bs (tk bs).1 (tk bs).2.1 []

theorem tl_err {bs : List UInt8} {most M : Int} {e : Nat} (h : tk bs = (0, 0, e)) (he : e ≠ 0) : tl bs most M = ([], 0, e) := by simp [tl, h, he]
theorem tl_many {bs : List UInt8} {most M : Int} {n k : Nat} (h : tk bs = (n, k, 0)) (hm : most < 0 ∨ most < (n : Int)) : tl bs most M = ([], 0, 18) := by simp [tl, h, hm]
theorem tl_go {bs : List UInt8} {most M : Int} {n k : Nat} (h : tk bs = (n, k, 0)) (h0 : 0 ≤ most) (hm : (n : Int) ≤ most) : tl bs most M = tla M bs n k [] := by
  have : ¬ (most < 0 ∨ most < (n : Int)) := by omega
  simp [tl, h, this]

theorem tla_stop {M : Int} {bs : List UInt8} {n fin : Nat} {acc : List (List UInt8)} {e : Nat} {o : List UInt8} {k : Nat} (h : tb (bs.drop fin) M = (o, k, e)) (he : e ≠ 0) : tla M bs (n + 1) fin acc = ([], 0, e) := by simp [tla, h, he]
theorem tla_go {M : Int} {bs : List UInt8} {n fin : Nat} {acc : List (List UInt8)} {o : List UInt8} {k : Nat} (h : tb (bs.drop fin) M = (o, k, 0)) : tla M bs (n + 1) fin acc = tla M bs n (fin + k) (acc ++ [o]) := by simp [tla, h]

theorem tb_pos {bs : List UInt8} {M : Int} (h : (tb bs M).2.2 = 0) : 1 ≤ (tb bs M).2.1 := by
  rcases tk_cases bs with ⟨n, k, h', hn, hk, hkl⟩ | h' | h'
  · by_cases hm : M < 0 ∨ M < (n : Int)
    · rw [tb_long h' hm] at h; simp at h
    · by_cases hs : bs.length < k + n
      · rw [tb_short h' (by omega) (by omega) hs] at h; simp at h
      · rw [tb_good h' (by omega) (by omega) (by omega)]; simp; omega
  all_goals rw [tb_err h' (by decide)] at h; simp at h

theorem pb_pos (s : List UInt8) : 0 < (pb s).length := by have := dig_pos s.length; simp [pb]; omega

theorem tb_pb (s r : List UInt8) (M : Int) (h : (s.length : Int) ≤ M) (h64 : s.length < 2 ^ 64) : tb (pb s ++ r) M = (s, (pb s).length, 0) := by
  have hk : tk (pb s ++ r) = (s.length, (dig s.length).length, 0) := by
    rw [pb, List.append_assoc]; exact tk_dig h64 _
  rw [tb_good hk (by omega) h (by simp [pb])]
  have e : (pb s ++ r).drop (dig s.length).length = s ++ r := by rw [pb, List.append_assoc, List.drop_left]
  rw [e]
  simp [pb]

theorem tb_cut (s : List UInt8) (M : Int) (h : (s.length : Int) ≤ M) (h64 : s.length < 2 ^ 64) : tb (pb s).dropLast M = ([], 0, 3) := by
  by_cases h0 : s = []
  · subst h0
    have e : (pb []).dropLast = [] := by simp [pb, dig_lt (show 0 < 128 by decide)]
    rw [e]
    exact tb_err (by decide) (by decide)
  · have e : (pb s).dropLast = dig s.length ++ s.dropLast := by rw [pb, List.dropLast_append_of_ne_nil h0]
    rw [e]
    have hk : tk (dig s.length ++ s.dropLast) = (s.length, (dig s.length).length, 0) := tk_dig h64 _
    have : 0 < s.length := List.length_pos_iff.2 h0
    exact tb_short hk (by omega) h (by simp; omega)

theorem flat_ne {ls : List (List UInt8)} (h : ls ≠ []) : ls.flatMap pb ≠ [] := by
  cases ls with
  | nil => exact absurd rfl h
  | cons s t =>
    intro e
    have := pb_pos s
    simp at e
    rw [e.1] at this
    simp at this

theorem tla_rows (M : Int) (ls : List (List UInt8)) (hl : ∀ s ∈ ls, (s.length : Int) ≤ M ∧ s.length < 2 ^ 64) : ∀ (p q : List UInt8) (acc : List (List UInt8)),
    tla M (p ++ (ls.flatMap pb ++ q)) ls.length p.length acc = (acc ++ ls, (p ++ ls.flatMap pb).length, 0) := by
  induction ls with
  | nil => intro p q acc; simp [tla]
  | cons s t ih =>
    intro p q acc
    have hs := hl s (by simp)
    have hb : tb ((p ++ ((s :: t).flatMap pb ++ q)).drop p.length) M = (s, (pb s).length, 0) := by
      rw [List.drop_left, List.flatMap_cons, List.append_assoc]; exact tb_pb s _ M hs.1 hs.2
    rw [List.length_cons, tla_go hb]
    have e : p ++ ((s :: t).flatMap pb ++ q) = (p ++ pb s) ++ (t.flatMap pb ++ q) := by simp
    have e2 : p.length + (pb s).length = (p ++ pb s).length := by simp
    rw [e, e2, ih (fun x hx => hl x (by simp [hx]))]
    simp

theorem tla_short (M : Int) (ls : List (List UInt8)) (hl : ∀ s ∈ ls, (s.length : Int) ≤ M ∧ s.length < 2 ^ 64) (hne : ls ≠ []) : ∀ (p : List UInt8) (acc : List (List UInt8)),
    tla M (p ++ (ls.flatMap pb).dropLast) ls.length p.length acc = ([], 0, 3) := by
  induction ls with
  | nil => exact absurd rfl hne
  | cons s t ih =>
    intro p acc
    have hs := hl s (by simp)
    by_cases ht : t = []
    · subst ht
      have hb : tb ((p ++ ([s].flatMap pb).dropLast).drop p.length) M = ([], 0, 3) := by
        rw [List.drop_left]; simp; exact tb_cut s M hs.1 hs.2
      exact tla_stop hb (by decide)
    · have e : ((s :: t).flatMap pb).dropLast = pb s ++ (t.flatMap pb).dropLast := by
        rw [List.flatMap_cons, List.dropLast_append_of_ne_nil (flat_ne ht)]
      rw [e]
      have hb : tb ((p ++ (pb s ++ (t.flatMap pb).dropLast)).drop p.length) M = (s, (pb s).length, 0) := by
        rw [List.drop_left]; exact tb_pb s _ M hs.1 hs.2
      rw [List.length_cons, tla_go hb]
      have e3 : p ++ (pb s ++ (t.flatMap pb).dropLast) = (p ++ pb s) ++ (t.flatMap pb).dropLast := by simp
      have e2 : p.length + (pb s).length = (p ++ pb s).length := by simp
      rw [e3, e2]
      exact ih (fun x hx => hl x (by simp [hx])) ht _ _

theorem tl_pl (ls : List (List UInt8)) (most M : Int) (hn : (ls.length : Int) ≤ most) (h64 : ls.length < 2 ^ 64) (hl : ∀ s ∈ ls, (s.length : Int) ≤ M ∧ s.length < 2 ^ 64) : tl (pl ls) most M = (ls, (pl ls).length, 0) := by
  have hk : tk (pl ls) = (ls.length, (dig ls.length).length, 0) := tk_dig h64 _
  rw [tl_go hk (by omega) hn]
  have := tla_rows M ls hl (dig ls.length) [] []
  rw [List.append_nil] at this
  rw [pl, this]
  simp

theorem tl_cut (ls : List (List UInt8)) (most M : Int) (hn : (ls.length : Int) ≤ most) (h64 : ls.length < 2 ^ 64) (hl : ∀ s ∈ ls, (s.length : Int) ≤ M ∧ s.length < 2 ^ 64) : tl (pl ls).dropLast most M = ([], 0, 3) := by
  by_cases h0 : ls = []
  · subst h0
    have e : (pl []).dropLast = [] := by simp [pl, dig_lt (show 0 < 128 by decide)]
    rw [e]
    exact tl_err (by decide) (by decide)
  · have e : (pl ls).dropLast = dig ls.length ++ (ls.flatMap pb).dropLast := by rw [pl, List.dropLast_append_of_ne_nil (flat_ne h0)]
    rw [e]
    have hk : tk (dig ls.length ++ (ls.flatMap pb).dropLast) = (ls.length, (dig ls.length).length, 0) := tk_dig h64 _
    rw [tl_go hk (by omega) hn]
    exact tla_short M ls hl h0 _ _

/-- How long rows as bytes can be. -/
def tot (ls : List (List UInt8)) : Nat := (ls.map fun s => s.length + 10).sum
theorem flat_le (ls : List (List UInt8)) (h : ∀ s ∈ ls, s.length < 2 ^ 64) : (ls.flatMap pb).length ≤ tot ls := by
  induction ls with
  | nil => simp [tot]
  | cons s t ih =>
    have := ih (fun x hx => h x (by simp [hx]))
    have h1 := dig_len10 (h s (by simp))
    have h2 : (pb s).length = (dig s.length).length + s.length := by simp [pb]
    simp only [tot, List.map_cons, List.sum_cons, List.flatMap_cons, List.length_append] at this ⊢
    omega
theorem tot_take (ls : List (List UInt8)) (k : Nat) : tot (ls.take k) ≤ tot ls := by
  induction ls generalizing k with
  | nil => simp [tot]
  | cons s t ih =>
    cases k with
    | zero => simp [tot]
    | succ k =>
      have := ih k
      simp only [tot, List.take_succ_cons, List.map_cons, List.sum_cons] at this ⊢
      omega
end Go.Proofs.Ytllpohacomknfaa
