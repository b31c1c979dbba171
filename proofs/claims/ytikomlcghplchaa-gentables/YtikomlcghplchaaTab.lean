/- Tables whose keys are strings: plain mathematics, and the map that stands for one. No program. -/
import Derived.Maps.OwnIn
import Derived.Maps.Ext
import Derived.Maps.OwnSet
import Derived.WideAt
import Derived.WideShapes
import Derived.StringKeys
import GoSem.Op.String
namespace Go.Proofs.Ytikomlcghplchaa
open Go.Maps (Keyed)

/-- a stands before b. -/
def sl (a b : ByteArray) : Bool := bytesBefore a.data.toList b.data.toList
def kl (a : ByteArray) : Lit := .string a.data.toList
theorem bytes_ext {a b : ByteArray} (h : a.data.toList = b.data.toList) : a = b := by
  apply ByteArray.ext
  exact Array.toList_inj.1 h
theorem bytes_ext_iff {a b : ByteArray} : a.data.toList = b.data.toList ↔ a = b := ⟨bytes_ext, fun e => e ▸ rfl⟩
theorem kl_inj {a b : ByteArray} (h : kl a = kl b) : a = b := bytes_ext (by simpa [kl] using h)
theorem sl_irrefl (a : ByteArray) : sl a a = false := WideAt.bytes_irrefl _
theorem sl_trans {a b c : ByteArray} (h1 : sl a b = true) (h2 : sl b c = true) : sl a c = true := WideShapes.bytes_trans _ _ _ h1 h2
theorem sl_total {a b : ByteArray} (h : a ≠ b) : sl a b = true ∨ sl b a = true := WideAt.bytes_total _ _ (fun e => h (bytes_ext e))
theorem sl_ne {a b : ByteArray} (h : sl a b = true) : a ≠ b := fun e => by rw [e, sl_irrefl] at h; cases h
theorem sl_asymm {a b : ByteArray} (h : sl a b = true) : sl b a = false := by
  cases h2 : sl b a with
  | false => rfl
  | true => have := sl_trans h h2; rw [sl_irrefl] at this; cases this
theorem less_before : ∀ a b : List UInt8, Op.bytesLess a b = bytesBefore a b
  | [], [] => rfl
  | [], _ :: _ => rfl
  | _ :: _, [] => rfl
  | a :: r, b :: s => by simp only [Op.bytesLess, bytesBefore, less_before r s]
theorem before_kl (a b : ByteArray) : (kl a).before (kl b) = sl a b := rfl
theorem same_kl (a b : ByteArray) : (kl a).sameKey (kl b) = decide (a = b) := by
  simp only [kl, Lit.sameKey]
  by_cases h : a = b
  · simp [h]
  · simp only [h, decide_false, beq_eq_false_iff_ne, ne_eq]
    exact fun e => h (bytes_ext e)

section
variable {β : Type}
/-- Rising by key. -/
def Up (l : List (ByteArray × β)) : Prop := l.Pairwise fun p q => sl p.1 q.1 = true
def hasK (x : ByteArray) (l : List (ByteArray × β)) : Bool := l.any fun p => decide (p.1 = x)
def putK (x : ByteArray) (v : β) : List (ByteArray × β) → List (ByteArray × β)
  | [] => [(x, v)]
  | p :: r => if sl x p.1 then (x, v) :: p :: r else if x = p.1 then (x, v) :: r else p :: putK x v r
def delK (x : ByteArray) (l : List (ByteArray × β)) : List (ByteArray × β) := l.filter fun p => !decide (p.1 = x)
def getK (x : ByteArray) (l : List (ByteArray × β)) : Option β := (l.find? fun p => decide (p.1 = x)).map (·.2)

theorem up_nil : Up ([] : List (ByteArray × β)) := List.Pairwise.nil
theorem Up.cons {p : ByteArray × β} {r : List (ByteArray × β)} : Up (p :: r) ↔ (∀ q ∈ r, sl p.1 q.1 = true) ∧ Up r := List.pairwise_cons
theorem Up.del {l : List (ByteArray × β)} (h : Up l) (x : ByteArray) : Up (delK x l) := List.Pairwise.filter _ h
theorem mem_delK {x : ByteArray} {l : List (ByteArray × β)} {p : ByteArray × β} (h : p ∈ delK x l) : p ∈ l := (List.mem_filter.1 h).1
theorem mem_putK {x : ByteArray} {v : β} {l : List (ByteArray × β)} {p : ByteArray × β} (h : p ∈ putK x v l) : p = (x, v) ∨ p ∈ l := by
  induction l with
  | nil => simpa [putK] using h
  | cons q r ih =>
    unfold putK at h
    split at h
    · simpa using h
    · split at h
      · rcases List.mem_cons.1 h with h | h
        · exact .inl h
        · exact .inr (List.mem_cons_of_mem _ h)
      · rcases List.mem_cons.1 h with h | h
        · exact .inr (h ▸ List.mem_cons_self)
        · exact (ih h).imp id (List.mem_cons_of_mem _)
theorem Up.put {l : List (ByteArray × β)} (h : Up l) (x : ByteArray) (v : β) : Up (putK x v l) := by
  induction l with
  | nil => simp [putK, Up]
  | cons p r ih =>
    have hp := Up.cons.1 h
    unfold putK
    split
    · next hlt =>
      refine Up.cons.2 ⟨fun q hq => ?_, h⟩
      rcases List.mem_cons.1 hq with rfl | hq
      · exact hlt
      · exact sl_trans hlt (hp.1 q hq)
    · split
      · next hx => subst hx; exact Up.cons.2 hp
      · next h1 h2 =>
        refine Up.cons.2 ⟨fun q hq => ?_, ih hp.2⟩
        rcases mem_putK hq with rfl | hq
        · exact (sl_total h2).resolve_left h1
        · exact hp.1 q hq
theorem hasK_true {x : ByteArray} {l : List (ByteArray × β)} : hasK x l = true ↔ ∃ p ∈ l, p.1 = x := by simp [hasK]
theorem hasK_getK (x : ByteArray) (l : List (ByteArray × β)) : hasK x l = (getK x l).isSome := by
  induction l with
  | nil => rfl
  | cons p r ih =>
    simp only [hasK, getK, List.any_cons, List.find?_cons] at ih ⊢
    by_cases h : p.1 = x
    · simp [h]
    · simp only [h, decide_false, Bool.false_or]; exact ih
theorem delK_none {x : ByteArray} {l : List (ByteArray × β)} (h : hasK x l = false) : delK x l = l := by
  apply List.filter_eq_self.2
  intro p hp
  simp only [hasK, List.any_eq_false] at h
  simpa using h p hp
theorem putK_length (x : ByteArray) (v : β) (l : List (ByteArray × β)) : (putK x v l).length ≤ l.length + 1 := by
  induction l with
  | nil => simp [putK]
  | cons p r ih =>
    unfold putK
    split <;> (try split) <;> simp
    exact ih

/-! ### where a key stands -/
/-- All before i stand before x, what stands at i does not. -/
def Stands (l : List (ByteArray × β)) (x : ByteArray) (i : Nat) : Prop := i ≤ l.length ∧ (∀ p ∈ l.take i, sl p.1 x = true) ∧ ∀ p ∈ (l.drop i).head?, sl p.1 x = false
theorem Stands.head {p : ByteArray × β} {r : List (ByteArray × β)} {x : ByteArray} (h : Stands (p :: r) x 0) : sl p.1 x = false := h.2.2 p (by simp)
theorem Stands.tail {p : ByteArray × β} {r : List (ByteArray × β)} {x : ByteArray} {i : Nat} (h : Stands (p :: r) x (i + 1)) : sl p.1 x = true ∧ Stands r x i :=
  ⟨h.2.1 p (by simp), by have := h.1; simpa using this, fun q hq => h.2.1 q (by simp [hq]), fun q hq => h.2.2 q (by simpa using hq)⟩
/-- The key is there if and only if it stands at i. -/
theorem Stands.has {l : List (ByteArray × β)} {x : ByteArray} {i : Nat} (hu : Up l) (h : Stands l x i) : hasK x l = decide (((l.drop i).head?.map (·.1)) = some x) := by
  induction l generalizing i with
  | nil => simp [hasK]
  | cons p r ih =>
    have hp := Up.cons.1 hu
    cases i with
    | zero =>
      simp only [List.drop_zero, List.head?_cons, Option.map_some, hasK, List.any_cons]
      by_cases hx : p.1 = x
      · simp [hx]
      · have h1 := (sl_total hx).resolve_left (by rw [h.head]; simp)
        have : (r.any fun p => decide (p.1 = x)) = false := by
          simp only [List.any_eq_false, decide_eq_true_eq]
          intro q hq e
          have := sl_trans h1 (hp.1 q hq)
          rw [e, sl_irrefl] at this; cases this
        simp [hx, this]
    | succ i =>
      obtain ⟨h1, h2⟩ := h.tail
      have := ih hp.2 h2
      simp only [hasK, List.any_cons] at this ⊢
      simp [sl_ne h1, this]
/-- A new key goes in at i. -/
theorem Stands.put_new {l : List (ByteArray × β)} {x : ByteArray} {i : Nat} (hu : Up l) (h : Stands l x i) (hn : hasK x l = false) (v : β) : putK x v l = l.take i ++ (x, v) :: l.drop i := by
  induction l generalizing i with
  | nil => simp [putK]
  | cons p r ih =>
    have hp := Up.cons.1 hu
    have hne : p.1 ≠ x ∧ hasK x r = false := by simpa only [hasK, List.any_cons, Bool.or_eq_false_iff, decide_eq_false_iff_not] using hn
    cases i with
    | zero =>
      have h1 := (sl_total hne.1).resolve_left (by rw [h.head]; simp)
      simp [putK, h1]
    | succ i =>
      obtain ⟨h1, h2⟩ := h.tail
      simp [putK, sl_asymm h1, Ne.symm hne.1, ih hp.2 h2 hne.2]
/-- An elder value is replaced at i. -/
theorem Stands.put_old {l : List (ByteArray × β)} {x : ByteArray} {i : Nat} (hu : Up l) (h : Stands l x i) (hn : hasK x l = true) (v : β) : putK x v l = l.take i ++ (x, v) :: l.drop (i + 1) := by
  induction l generalizing i with
  | nil => simp [hasK] at hn
  | cons p r ih =>
    have hp := Up.cons.1 hu
    have hh := h.has hu
    cases i with
    | zero =>
      rw [hn] at hh
      have hx : p.1 = x := by simpa using hh
      subst hx
      simp [putK, sl_irrefl]
    | succ i =>
      obtain ⟨h1, h2⟩ := h.tail
      have hne := sl_ne h1
      have hr : hasK x r = true := by simpa [hasK, hne] using hn
      simp [putK, sl_asymm h1, Ne.symm hne, ih hp.2 h2 hr]
/-- A key is taken away at i. -/
theorem Stands.del {l : List (ByteArray × β)} {x : ByteArray} {i : Nat} (hu : Up l) (h : Stands l x i) (hn : hasK x l = true) : delK x l = l.take i ++ l.drop (i + 1) := by
  induction l generalizing i with
  | nil => simp [hasK] at hn
  | cons p r ih =>
    have hp := Up.cons.1 hu
    have hh := h.has hu
    cases i with
    | zero =>
      rw [hn] at hh
      have hx : p.1 = x := by simpa using hh
      subst hx
      have : hasK p.1 r = false := by
        simp only [hasK, List.any_eq_false, decide_eq_true_eq]
        intro q hq e
        have := hp.1 q hq
        rw [e, sl_irrefl] at this; cases this
      have := delK_none this
      simp only [delK] at this ⊢
      simp [this]
    | succ i =>
      obtain ⟨h1, h2⟩ := h.tail
      have hne := sl_ne h1
      have hr : hasK x r = true := by simpa [hasK, hne] using hn
      have := ih hp.2 h2 hr
      simp only [delK] at this ⊢
      simp [hne, this]
theorem Stands.get {l : List (ByteArray × β)} {x : ByteArray} {i : Nat} (hu : Up l) (h : Stands l x i) (hi : i < l.length) (hn : hasK x l = true) : getK x l = some l[i].2 := by
  induction l generalizing i with
  | nil => simp [hasK] at hn
  | cons p r ih =>
    have hp := Up.cons.1 hu
    have hh := h.has hu
    cases i with
    | zero =>
      rw [hn] at hh
      have hx : p.1 = x := by simpa using hh
      simp [getK, hx]
    | succ i =>
      obtain ⟨h1, h2⟩ := h.tail
      have hne := sl_ne h1
      have hr : hasK x r = true := by simpa [hasK, hne] using hn
      have := ih hp.2 h2 (by simpa using hi) hr
      simp only [getK] at this ⊢
      simp [hne, this]
end

/-! ### the map -/
/-- How a pair of a string and a β lies in a cell, and what it reads as. -/
structure PairK (β : Type) where
  cell : ByteArray → β → Value
  dat : ByteArray → β → DataW Unit
  R : Value → Option (DataW Unit × List MemPlace)
  good : β → Prop
  zero : β
  good_zero : good zero
  reads : ∀ s b, s.size ≤ maxLen → good b → R (cell s b) = some (dat s b, [])
  inv : ∀ v z, R v = some z → ∃ s b, v = cell s b ∧ z = (dat s b, []) ∧ s.size ≤ maxLen ∧ good b
  inj : ∀ s b s' b', dat s b = dat s' b' → s = s' ∧ b = b'
section
variable {β : Type} (K : PairK β)
def PairK.ent (p : ByteArray × β) : Lit × DataW Unit := (kl p.1, K.dat p.1 p.2)
def PairK.tab (l : List (ByteArray × β)) : DataW Unit := .map (l.map K.ent)
theorem PairK.insert (x : ByteArray) (v : β) : ∀ l : List (ByteArray × β), hasK x l = false → DataW.insert (K.ent (x, v)) (l.map K.ent) = (putK x v l).map K.ent
  | [], _ => rfl
  | p :: r, h => by
    have hne : p.1 ≠ x ∧ hasK x r = false := by simpa only [hasK, List.any_cons, Bool.or_eq_false_iff, decide_eq_false_iff_not] using h
    have hb : (K.ent (x, v)).1.before (K.ent p).1 = sl x p.1 := rfl
    simp only [List.map_cons, DataW.insert, putK, hb]
    split
    · rfl
    · rw [if_neg (fun e => hne.1 (Eq.symm e)), List.map_cons, PairK.insert x v r hne.2]
theorem putK_delK (x : ByteArray) (v : β) : ∀ l : List (ByteArray × β), Up l → putK x v (delK x l) = putK x v l
  | [], _ => rfl
  | p :: r, h => by
    have hp := Up.cons.1 h
    by_cases hx : p.1 = x
    · subst hx
      have hn : hasK p.1 r = false := by
        simp only [hasK, List.any_eq_false, decide_eq_true_eq]
        intro q hq e
        have := hp.1 q hq
        rw [e, sl_irrefl] at this; cases this
      have e1 : delK p.1 (p :: r) = r := by
        have := delK_none hn
        simp only [delK] at this ⊢
        simp [this]
      rw [e1]
      cases r with
      | nil => simp [putK, sl_irrefl]
      | cons q s => simp [putK, sl_irrefl, hp.1 q (by simp)]
    · have e1 : delK x (p :: r) = p :: delK x r := by simp [delK, hx]
      rw [e1]
      unfold putK
      split
      · next hlt =>
        have : delK x r = r := delK_none (by
          simp only [hasK, List.any_eq_false, decide_eq_true_eq]
          intro q hq e
          have := sl_trans hlt (hp.1 q hq)
          rw [e, sl_irrefl] at this; cases this)
        rw [this]
      · rw [if_neg (fun e => hx (Eq.symm e)), if_neg (fun e => hx (Eq.symm e)), putK_delK x v r hp.2]
theorem PairK.filter (x : ByteArray) (l : List (ByteArray × β)) : (l.map K.ent).filter (fun p => !p.1.sameKey (kl x)) = (delK x l).map K.ent := by
  rw [List.filter_map]; congr 1; apply List.filter_congr; intro p _; simp [PairK.ent, same_kl]
theorem hasK_delK (x : ByteArray) (l : List (ByteArray × β)) : hasK x (delK x l) = false := by
  simp only [hasK, delK, List.any_eq_false]; intro p hp; simpa using (List.mem_filter.1 hp).2
theorem PairK.tab_put {l : List (ByteArray × β)} (h : Up l) (x : ByteArray) (v : β) : (K.tab l).put (kl x) (K.dat x v) = K.tab (putK x v l) := by
  show DataW.map (DataW.insert (K.ent (x, v)) _) = _
  rw [K.filter, K.insert _ _ _ (hasK_delK _ _), putK_delK x v l h]
  rfl
theorem PairK.tab_del (x : ByteArray) (l : List (ByteArray × β)) : (K.tab l).del (kl x) = K.tab (delK x l) := by
  show DataW.map _ = _
  rw [K.filter]; rfl
theorem PairK.tab_has (l : List (ByteArray × β)) (x : ByteArray) : Maps.has (K.tab l) (kl x) = hasK x l := by
  unfold PairK.tab
  rw [Maps.has_eq, List.any_map]
  induction l with
  | nil => rfl
  | cons p r ih => simp only [List.any_cons, ih, hasK, Function.comp, PairK.ent, same_kl]
theorem PairK.tab_at (l : List (ByteArray × β)) (x : ByteArray) (z : DataW Unit) : (K.tab l).atKey (kl x) z = match getK x l with | some v => K.dat x v | none => z := by
  unfold PairK.tab
  induction l with
  | nil => rfl
  | cons p r ih =>
    simp only [DataW.atKey, List.map_cons, List.find?_cons, PairK.ent, same_kl, getK] at ih ⊢
    by_cases h : p.1 = x
    · simp [h]
    · simp only [h, decide_false]; exact ih
theorem PairK.tab_size (l : List (ByteArray × β)) : Maps.size (K.tab l) = l.length := by simp [PairK.tab, Maps.size_eq]

/-- Each key is no longer than a string may be, each value good. -/
def PairK.Fine (l : List (ByteArray × β)) : Prop := Up l ∧ ∀ p ∈ l, p.1.size ≤ maxLen ∧ K.good p.2
theorem PairK.fine_nil : K.Fine [] := ⟨up_nil, by simp⟩
theorem PairK.Fine.put {l : List (ByteArray × β)} {K : PairK β} (h : K.Fine l) {x : ByteArray} {v : β} (hx : x.size ≤ maxLen) (hv : K.good v) : K.Fine (putK x v l) :=
  ⟨h.1.put x v, fun p hp => (mem_putK hp).elim (fun e => by subst e; exact ⟨hx, hv⟩) (h.2 p)⟩
theorem PairK.Fine.del {l : List (ByteArray × β)} {K : PairK β} (h : K.Fine l) (x : ByteArray) : K.Fine (delK x l) := ⟨h.1.del x, fun p hp => h.2 p (mem_delK hp)⟩

/-- Block b is the map of the table l. -/
def PairK.Map (P : Program) (k : TypeId) (W : World) (b n : Nat) (l : List (ByteArray × β)) : Prop := K.Fine l ∧ W.ownsMap P k K.R b n (K.tab l)
/-- What lies by x, or nothing's cell. -/
def PairK.cellAt (z : ByteArray) (x : ByteArray) (l : List (ByteArray × β)) : Value := match getK x l with | some v => K.cell x v | none => K.cell z K.zero
variable {K}
variable {P : Program} {k t e : TypeId} {W : World} {b n : Nat} {l : List (ByteArray × β)}
theorem PairK.Map.alloc (h : K.Map P k W b n l) (o : Obj) : K.Map P k (W.alloc o) b n l := ⟨h.1, h.2.alloc o⟩
theorem PairK.Map.drew (h : K.Map P k W b n l) : K.Map P k W.drew b n l := ⟨h.1, h.2.drew⟩
theorem PairK.Map.mono (h : K.Map P k W b n l) {n' : Nat} (hn : n ≤ n') : K.Map P k W b n' l := ⟨h.1, h.2.mono hn⟩
theorem PairK.Map.look (h : K.Map P k W b n l) (hk : P.underlying k = some .string) (ht : P.underlying t = some (.map k e)) {z : ByteArray} (hz : (zeroValue e).run P W = .ok (K.cell z K.zero) W) (hzs : z.size ≤ maxLen)
    {x : ByteArray} (hx : x.size ≤ maxLen) :
    (Instr.lookup t (.map (some b)) (.string x) true).run P W = .ok (.tuple #[K.cellAt z x l, .bool (hasK x l)]) W := by
  obtain ⟨v, ps, hrun, hv⟩ := h.2.look_ok (Maps.string_keyed hk) ht hz (K.reads _ _ hzs K.good_zero) (WideMaps.keyOf_string_mk hk hx)
  have e1 := K.tab_at l x (K.dat z K.zero)
  unfold kl at e1
  rw [e1] at hv
  obtain ⟨s, u, rfl, hd, _, _⟩ := K.inv _ _ hv
  have e2 := K.tab_has l x
  unfold kl at e2
  rw [hrun, e2]
  unfold PairK.cellAt
  cases hg : getK x l with
  | none => rw [hg] at hd; simp only [Prod.mk.injEq] at hd; obtain ⟨rfl, rfl⟩ := K.inj _ _ _ _ hd.1; rfl
  | some y => rw [hg] at hd; simp only [Prod.mk.injEq] at hd; obtain ⟨rfl, rfl⟩ := K.inj _ _ _ _ hd.1; rfl
theorem PairK.Map.put (h : K.Map P k W b n l) (hn : n < maxLen) (hk : P.underlying k = some .string) (ht : P.underlying t = some (.map k e)) {x : ByteArray} (hx : x.size ≤ maxLen) {v : β} (hv : K.good v) :
    ∃ W', (Instr.mapUpdate t (.map (some b)) (.string x) (K.cell x v)).run P W = .ok () W' ∧ K.Map P k W' b (n + 1) (putK x v l) ∧ W.grownBy W' (some b) := by
  obtain ⟨W', hrun, r1, r2⟩ := h.2.update (Maps.string_keyed hk) ht hn (WideMaps.keyOf_string_mk hk hx) (K.reads x v hx hv)
  exact ⟨W', hrun, ⟨h.1.put hx hv, by rw [← K.tab_put h.1.1]; exact r1⟩, r2⟩
theorem PairK.Map.drop (h : K.Map P k W b n l) (hk : P.underlying k = some .string) (ht : P.underlying t = some (.map k e)) {x : ByteArray} (hx : x.size ≤ maxLen) (ty : TypeId) :
    ∃ W', (Builtin.delete_ #[t, k] ty #[.map (some b), .string x]).run P W = .ok (.tuple #[]) W' ∧ K.Map P k W' b n (delK x l) ∧ W.grownBy W' (some b) := by
  obtain ⟨W', hrun, r1, r2⟩ := h.2.drop (Maps.string_keyed hk) ht (WideMaps.keyOf_string_mk hk hx) ty
  exact ⟨W', hrun, ⟨h.1.del x, by rw [← K.tab_del]; exact r1⟩, r2.grown⟩
theorem PairK.Map.len (h : K.Map P k W b n l) (ht : P.underlying t = some (.map k e)) (ty : TypeId) : (Builtin.len_ #[t] ty #[.map (some b)]).run P W = .ok (.int .i64 l.length) W := by
  have := h.2.len ht ty
  rwa [K.tab_size] at this
end

/-! ### the two kinds -/
/-- A string and nothing. -/
def pairS : PairK Unit where
  cell s _ := .agg #[.string s]
  dat s _ := .lit (kl s)
  R v := match v with
    | .agg cs => match cs.toList with
      | [.string s] => if s.size ≤ maxLen then some (.lit (kl s), []) else none
      | _ => none
    | _ => none
  good _ := True
  zero := ()
  good_zero := trivial
  reads s _ h _ := by simp [h]
  inv v z h := by
    split at h
    · next cs =>
      split at h
      · next s hcs =>
        split at h
        · next hw =>
          refine ⟨s, (), ?_, ?_, hw, trivial⟩
          · obtain ⟨l⟩ := cs; simp at hcs; rw [hcs]
          · simp at h; exact h.symm
        · cases h
      · cases h
    · cases h
  inj s _ s' _ h := ⟨kl_inj (by simpa using h), rfl⟩
/-- A string and an int. -/
def pairT : PairK Int where
  cell s a := .agg #[.string s, .int .i64 a]
  dat s a := .agg [.lit (kl s), .lit (.int .i64 a)]
  R v := match v with
    | .agg cs => match cs.toList with
      | [.string s, .int .i64 a] => if s.size ≤ maxLen ∧ (Lit.int .i64 a).wf = true then some (.agg [.lit (kl s), .lit (.int .i64 a)], []) else none
      | _ => none
    | _ => none
  good a := (Lit.int .i64 a).wf = true
  zero := 0
  good_zero := by decide
  reads s a h1 h2 := by simp [h1, h2]
  inv v z h := by
    split at h
    · next cs =>
      split at h
      · next s a hcs =>
        split at h
        · next hw =>
          refine ⟨s, a, ?_, ?_, hw.1, hw.2⟩
          · obtain ⟨l⟩ := cs; simp at hcs; rw [hcs]
          · simp at h; exact h.symm
        · cases h
      · cases h
    · cases h
  inj s a s' a' h := by
    simp only [DataW.agg.injEq, List.cons.injEq, DataW.lit.injEq, Lit.int.injEq, true_and, and_true] at h
    exact ⟨kl_inj h.1, h.2⟩
end Go.Proofs.Ytikomlcghplchaa
