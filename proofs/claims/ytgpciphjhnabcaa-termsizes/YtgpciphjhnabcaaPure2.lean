/- SHA-256 on lists: endings, blocks, sums. No program is named here. -/
import Derived.Test.YtgpciphjhnabcaaPure
import Derived.KernelRfl
namespace Go.Proofs.Ytgpciphjhnabcaa
set_option linter.unusedVariables false

/-- How many bytes stand behind n. -/
def endLen (n : Nat) : Nat := if 73 ≤ 128 - n % 64 then 64 - n % 64 else 128 - n % 64
theorem endLen_ge (n : Nat) : 9 ≤ endLen n := by unfold endLen; split <;> omega
/-- The last k bytes of a count. -/
def tl (c : UInt64) : Nat → List UInt8
  | 0 => []
  | k + 1 => (c >>> UInt64.ofNat (8 * k)).toUInt8 :: tl c k
theorem tl_length (c : UInt64) : ∀ k, (tl c k).length = k
  | 0 => rfl
  | k + 1 => by simp [tl, tl_length c k]
def endW (m : Nat) (c : UInt64) (k : Nat) : List UInt8 := 128 :: (List.replicate (m - 1 - k) 0 ++ tl c k)
theorem endW_length (m : Nat) (c : UInt64) (k : Nat) (h : k + 1 ≤ m) : (endW m c k).length = m := by simp [endW, tl_length]; omega
def endingL (n : Nat) : List UInt8 := endW (endLen n) (UInt64.ofNat n * 8) 8
theorem endingL_length (n : Nat) : (endingL n).length = endLen n := endW_length _ _ _ (by have := endLen_ge n; omega)

/-- The bytes of words. -/
def jb (ws : List UInt32) (ds : List UInt8) : UInt8 := (ws.getD (ds.length / 4) 0 >>> UInt32.ofNat (24 - 8 * (ds.length % 4))).toUInt8
@[irreducible] def joinL (ws : List UInt32) : List UInt8 := grow (jb ws) 32 []
def ivL : List UInt32 := [0x6a09e667, 0xbb67ae85, 0x3c6ef372, 0xa54ff53a, 0x510e527f, 0x9b05688c, 0x1f83d9ab, 0x5be0cd19]

/-- What the first k blocks of m make. -/
def absorb (ks : List UInt32) : Nat → List UInt8 → List UInt32
  | 0, _ => ivL
  | k + 1, m => mixW ks (absorb ks k m) ((m.drop (64 * k)).take 64)
theorem absorb_append (ks : List UInt32) : ∀ k m x, 64 * k ≤ m.length → absorb ks k (m ++ x) = absorb ks k m
  | 0, _, _, _ => rfl
  | k + 1, m, x, h => by
    rw [absorb, absorb, absorb_append ks k m x (by omega), List.drop_append_of_le_length (by omega), List.take_append_of_le_length (by simp; omega)]
@[irreducible] def shaL (ks : List UInt32) (m : List UInt8) : List UInt8 := joinL (absorb ks ((m.length + endLen m.length) / 64) (m ++ endingL m.length))
/-- Words, the last block's bytes and a count stand for m. -/
structure Rep (ks : List UInt32) (ws : List UInt32) (ls : List UInt8) (n : Nat) (m : List UInt8) : Prop where
  len : n = m.length
  words : ws = absorb ks (n / 64) m
  room : ls.length = 64
  last : ls.take (n % 64) = m.drop (64 * (n / 64))

theorem Rep.start (ks : List UInt32) (ls : List UInt8) (h : ls.length = 64) : Rep ks ivL ls 0 [] := ⟨rfl, rfl, h, by simp⟩
def splice (ls : List UInt8) (o : Nat) (x : List UInt8) : List UInt8 := ls.take o ++ x ++ ls.drop (o + x.length)
theorem splice_length (ls : List UInt8) (o : Nat) (x : List UInt8) (h : o + x.length ≤ ls.length) : (splice ls o x).length = ls.length := by simp [splice]; omega

theorem Rep.part {ks ws : List UInt32} {ls : List UInt8} {n : Nat} {m : List UInt8} (h : Rep ks ws ls n m) (x : List UInt8) (hx : n % 64 + x.length < 64) : Rep ks ws (splice ls (n % 64) x) (n + x.length) (m ++ x) := by
  have hl := h.len
  have hd : (n + x.length) / 64 = n / 64 := by omega
  have hm : (n + x.length) % 64 = n % 64 + x.length := by omega
  refine ⟨by simp [hl], ?_, by rw [splice_length _ _ _ (by rw [h.room]; omega), h.room], ?_⟩
  · rw [hd, absorb_append _ _ _ _ (by omega)]
    exact h.words
  · rw [hd, hm, splice, List.drop_append_of_le_length (by omega), ← h.last]
    have e : (ls.take (n % 64) ++ x).length = n % 64 + x.length := by simp [h.room]; omega
    rw [← e, List.take_left]
theorem Rep.full {ks ws : List UInt32} {ls : List UInt8} {n : Nat} {m : List UInt8} (h : Rep ks ws ls n m) (x : List UInt8) (hx : n % 64 + x.length = 64) : Rep ks (mixW ks ws (splice ls (n % 64) x)) (splice ls (n % 64) x) (n + x.length) (m ++ x) := by
  have hl := h.len
  have hd : (n + x.length) / 64 = n / 64 + 1 := by omega
  have hm : (n + x.length) % 64 = 0 := by omega
  have hs : splice ls (n % 64) x = m.drop (64 * (n / 64)) ++ x := by
    have e : ls.drop (n % 64 + x.length) = [] := List.drop_eq_nil_of_le (by rw [h.room]; omega)
    rw [splice, h.last, e, List.append_nil]
  refine ⟨by simp [hl], ?_, by rw [splice_length _ _ _ (by rw [h.room]; omega), h.room], ?_⟩
  · rw [hd, absorb, absorb_append _ _ _ _ (by omega), ← h.words, hs, List.drop_append_of_le_length (by omega)]
    congr 1
    rw [List.take_of_length_le (by simp; omega)]
  · rw [hm, hd, List.take_zero, List.drop_eq_nil_of_le (by simp; omega)]

/-- The sum, out of what stands for m with its ending. -/
theorem Rep.sum {ks ws : List UInt32} {ls : List UInt8} {n : Nat} {m : List UInt8} (h : Rep ks ws ls n (m ++ endingL m.length)) : joinL ws = shaL ks m := by
  rw [shaL, h.words, h.len]
  simp [endingL_length]
end Go.Proofs.Ytgpciphjhnabcaa
