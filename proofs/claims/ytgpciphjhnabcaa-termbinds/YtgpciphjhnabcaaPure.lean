/- SHA-256 on lists. No program is named here. -/
namespace Go.Proofs.Ytgpciphjhnabcaa
set_option linter.unusedVariables false

def rotr (x : UInt32) (n : Nat) : UInt32 := (x <<< UInt32.ofNat (32 - n)) ||| (x >>> UInt32.ofNat n)

/-- A list that grows by what it holds. -/
def grow {α : Type} (f : List α → α) : Nat → List α → List α
  | 0, l => l
  | n + 1, l => grow f n (l ++ [f l])

theorem grow_length {α : Type} (f : List α → α) : ∀ (n : Nat) (l : List α), (grow f n l).length = l.length + n
  | 0, l => rfl
  | n + 1, l => by rw [grow, grow_length f n]; simp; omega

def word4 (bs : List UInt8) (t : Nat) : UInt32 := (((bs.getD (4 * t) 0).toUInt32 <<< UInt32.ofNat 24 ||| (bs.getD (4 * t + 1) 0).toUInt32 <<< UInt32.ofNat 16) ||| (bs.getD (4 * t + 2) 0).toUInt32 <<< UInt32.ofNat 8) ||| (bs.getD (4 * t + 3) 0).toUInt32
def sig0 (x : UInt32) : UInt32 := (rotr x 7 ^^^ rotr x 18) ^^^ (x >>> UInt32.ofNat 3)
def sig1 (x : UInt32) : UInt32 := (rotr x 17 ^^^ rotr x 19) ^^^ (x >>> UInt32.ofNat 10)
def nextw (ws : List UInt32) : UInt32 := ((ws.getD (ws.length - 16) 0 + sig0 (ws.getD (ws.length - 15) 0)) + ws.getD (ws.length - 7) 0) + sig1 (ws.getD (ws.length - 2) 0)
@[irreducible] def first16 (bs : List UInt8) : List UInt32 := grow (fun l => word4 bs l.length) 16 []
@[irreducible] def sched (bs : List UInt8) : List UInt32 := grow nextw 48 (first16 bs)

theorem first16_length (bs : List UInt8) : (first16 bs).length = 16 := by rw [first16, grow_length]; rfl
theorem sched_length (bs : List UInt8) : (sched bs).length = 64 := by rw [sched, grow_length, first16_length]

/-- The rest of a list that is being filled. -/
def pad {α : Type} (n : Nat) (z : α) (l : List α) : List α := l ++ List.replicate (n - l.length) z

theorem pad_length {α : Type} (n : Nat) (z : α) (l : List α) (h : l.length ≤ n) : (pad n z l).length = n := by simp [pad]; omega
theorem pad_full {α : Type} (n : Nat) (z : α) (l : List α) (h : l.length = n) : pad n z l = l := by simp [pad, h]
theorem pad_nil {α : Type} (n : Nat) (z : α) : pad n z [] = List.replicate n z := by simp [pad]
theorem pad_set {α : Type} (n : Nat) (z v : α) (l : List α) (h : l.length < n) : (pad n z l).set l.length v = pad n z (l ++ [v]) := by
  obtain ⟨m, hm⟩ : ∃ m, n - l.length = m + 1 := ⟨n - l.length - 1, by omega⟩
  simp only [pad, hm, List.replicate_succ, List.length_append, List.length_singleton]
  rw [List.set_append, if_neg (Nat.lt_irrefl _), Nat.sub_self, List.set_cons_zero, show n - (l.length + 1) = m by omega]
  simp
theorem pad_get {α : Type} (n : Nat) (z : α) (l : List α) (j : Nat) (h : j < l.length) : (pad n z l)[j]? = some (l.getD j z) := by
  rw [pad, List.getElem?_append_left h, List.getD_eq_getElem?_getD, List.getElem?_eq_getElem h]
  rfl
theorem getD_get {α : Type} (l : List α) (j : Nat) (z : α) (h : j < l.length) : l[j]? = some (l.getD j z) := by
  rw [List.getD_eq_getElem?_getD, List.getElem?_eq_getElem h]
  rfl

/-- The eight words of a round. -/
structure S8 where
  a : UInt32
  b : UInt32
  c : UInt32
  d : UInt32
  e : UInt32
  f : UInt32
  g : UInt32
  h : UInt32

def tmp1 (s : S8) (k w : UInt32) : UInt32 := (((s.h + ((rotr s.e 6 ^^^ rotr s.e 11) ^^^ rotr s.e 25)) + ((s.e &&& s.f) ^^^ (~~~s.e &&& s.g))) + k) + w
def tmp2 (s : S8) : UInt32 := ((rotr s.a 2 ^^^ rotr s.a 13) ^^^ rotr s.a 22) + (((s.a &&& s.b) ^^^ (s.a &&& s.c)) ^^^ (s.b &&& s.c))
def rnd (s : S8) (k w : UInt32) : S8 := ⟨tmp1 s k w + tmp2 s, s.a, s.b, s.c, s.d + tmp1 s k w, s.e, s.f, s.g⟩

/-- So many rounds more, from the tth on. -/
def rounds (ks ws : List UInt32) : Nat → Nat → S8 → S8
  | 0, _, s => s
  | n + 1, t, s => rounds ks ws n (t + 1) (rnd s (ks.getD t 0) (ws.getD t 0))

def S8.list (s : S8) : List UInt32 := [s.a, s.b, s.c, s.d, s.e, s.f, s.g, s.h]
def s8 (ws : List UInt32) : S8 := ⟨ws.getD 0 0, ws.getD 1 0, ws.getD 2 0, ws.getD 3 0, ws.getD 4 0, ws.getD 5 0, ws.getD 6 0, ws.getD 7 0⟩

/-- Of so many words the first have been added to. -/
def addUp (ws vs : List UInt32) (k : Nat) : List UInt32 := (List.range ws.length).map fun i => if i < k then ws.getD i 0 + vs.getD i 0 else ws.getD i 0

def mixW (ks : List UInt32) (ws : List UInt32) (bs : List UInt8) : List UInt32 := addUp ws (rounds ks (sched bs) 64 0 (s8 ws)).list 8

theorem addUp_length (ws vs : List UInt32) (k : Nat) : (addUp ws vs k).length = ws.length := by simp [addUp]
theorem addUp_zero (ws vs : List UInt32) : addUp ws vs 0 = ws := by
  apply List.ext_getElem?
  intro i
  simp only [addUp, List.getElem?_map]
  by_cases h : i < ws.length
  · rw [List.getElem?_range h]
    simp [List.getElem?_eq_getElem h, List.getD_eq_getElem?_getD]
  · simp [List.getElem?_eq_none (Nat.le_of_not_lt h), List.getElem?_eq_none (show (List.range ws.length).length ≤ i by simp; omega)]
theorem addUp_get (ws vs : List UInt32) (k : Nat) (h : k < ws.length) : (addUp ws vs k)[k]? = some (ws.getD k 0) := by
  simp [addUp, h]
theorem addUp_set (ws vs : List UInt32) (k : Nat) (h : k < ws.length) : (addUp ws vs k).set k (ws.getD k 0 + vs.getD k 0) = addUp ws vs (k + 1) := by
  apply List.ext_getElem?
  intro i
  rw [List.getElem?_set]
  simp only [addUp, List.getElem?_map, List.length_map, List.length_range]
  by_cases hi : i < ws.length
  · rw [List.getElem?_range hi]
    by_cases hk : k = i
    · subst hk
      simp [h]
    · have : (i < k + 1) ↔ i < k := by omega
      simp [hk, this]
  · rw [List.getElem?_eq_none (show (List.range ws.length).length ≤ i by simp; omega)]
    have : k ≠ i := by omega
    simp [this]
end Go.Proofs.Ytgpciphjhnabcaa
