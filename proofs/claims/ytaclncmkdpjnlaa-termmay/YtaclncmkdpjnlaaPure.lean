/- SHA-256 on lists. No program is named here. -/
namespace Go.Proofs.Ytaclncmkdpjnlaa
set_option linter.unusedVariables false

def rotr (x : UInt32) (n : Nat) : UInt32 := (x <<< UInt32.ofNat (32 - n)) ||| (x >>> UInt32.ofNat n)

/-- A list that grows by what it holds. -/
def grow {α : Type} (f : List α → α) : Nat → List α → List α
  | 0, l => l
  | n + 1, l => grow f n (l ++ [f l])

def word4 (bs : List UInt8) (t : Nat) : UInt32 := (((bs.getD (4 * t) 0).toUInt32 <<< UInt32.ofNat 24 ||| (bs.getD (4 * t + 1) 0).toUInt32 <<< UInt32.ofNat 16) ||| (bs.getD (4 * t + 2) 0).toUInt32 <<< UInt32.ofNat 8) ||| (bs.getD (4 * t + 3) 0).toUInt32
def sig0 (x : UInt32) : UInt32 := (rotr x 7 ^^^ rotr x 18) ^^^ (x >>> UInt32.ofNat 3)
def sig1 (x : UInt32) : UInt32 := (rotr x 17 ^^^ rotr x 19) ^^^ (x >>> UInt32.ofNat 10)
def nextw (ws : List UInt32) : UInt32 := ((ws.getD (ws.length - 16) 0 + sig0 (ws.getD (ws.length - 15) 0)) + ws.getD (ws.length - 7) 0) + sig1 (ws.getD (ws.length - 2) 0)
@[irreducible] def first16 (bs : List UInt8) : List UInt32 := grow (fun l => word4 bs l.length) 16 []
@[irreducible] def sched (bs : List UInt8) : List UInt32 := grow nextw 48 (first16 bs)

/-- The rest of a list that is being filled. -/
def pad {α : Type} (n : Nat) (z : α) (l : List α) : List α := l ++ List.replicate (n - l.length) z

theorem getD_get {α : Type} (l : List α) (j : Nat) (z : α) (h : j < l.length) : l[j]? = some (l.getD j z) := by
  rw [List.getD_eq_getElem?_getD, List.getElem?_eq_getElem h]
  rfl

/-- The eight words of a round. -/
structure S8 where
  a : UInt32
  b : UInt32
  c : UInt32
  d : UInt32
  e : UInt32
  f : UInt32
  g : UInt32
  h : UInt32

def tmp1 (s : S8) (k w : UInt32) : UInt32 := (((s.h + ((rotr s.e 6 ^^^ rotr s.e 11) ^^^ rotr s.e 25)) + ((s.e &&& s.f) ^^^ (~~~s.e &&& s.g))) + k) + w
def tmp2 (s : S8) : UInt32 := ((rotr s.a 2 ^^^ rotr s.a 13) ^^^ rotr s.a 22) + (((s.a &&& s.b) ^^^ (s.a &&& s.c)) ^^^ (s.b &&& s.c))
def rnd (s : S8) (k w : UInt32) : S8 := ⟨tmp1 s k w + tmp2 s, s.a, s.b, s.c, s.d + tmp1 s k w, s.e, s.f, s.g⟩

/-- So many rounds more, from the tth on. -/
def rounds (ks ws : List UInt32) : Nat → Nat → S8 → S8
  | 0, _, s => s
  | n + 1, t, s => rounds ks ws n (t + 1) (rnd s (ks.getD t 0) (ws.getD t 0))

def S8.list (s : S8) : List UInt32 := [s.a, s.b, s.c, s.d, s.e, s.f, s.g, s.h]
def s8 (ws : List UInt32) : S8 := ⟨ws.getD 0 0, ws.getD 1 0, ws.getD 2 0, ws.getD 3 0, ws.getD 4 0, ws.getD 5 0, ws.getD 6 0, ws.getD 7 0⟩

/-- Of so many words the first have been added to. -/
def addUp (ws vs : List UInt32) (k : Nat) : List UInt32 := (List.range ws.length).map fun i => if i < k then ws.getD i 0 + vs.getD i 0 else ws.getD i 0

def mixW (ks : List UInt32) (ws : List UInt32) (bs : List UInt8) : List UInt32 := addUp ws (rounds ks (sched bs) 64 0 (s8 ws)).list 8

end Go.Proofs.Ytaclncmkdpjnlaa
