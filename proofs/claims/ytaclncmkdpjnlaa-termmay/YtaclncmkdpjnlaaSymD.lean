/- Regions that draw their order: what only reads is taken first, with guards; what turns memory when it alone can come up. No program is named here. -/
import Derived.Test.YtaclncmkdpjnlaaSymK
namespace Go.Proofs.Ytaclncmkdpjnlaa
open Go.RowKit Go.Shelf
set_option linter.unusedVariables false
set_option linter.unusedSimpArgs false

/-- An operation: its slot, kind and guard. -/
def lookG (ops : Array Oper) (i : Nat) : Option (Option Tmp × Op × Option (Nat × Bool)) := (ops[i]?).map fun o => (o.dst, o.op, o.guard)
theorem lookG_some {ops : Array Oper} {i : Nat} {d : Option Tmp} {op : Op} {g : Option (Nat × Bool)} (h : lookG ops i = some (d, op, g)) : ∃ o, ops[i]? = some o ∧ o.dst = d ∧ o.op = op ∧ o.guard = g := by
  unfold lookG at h
  cases ho : ops[i]? with
  | none => rw [ho] at h; cases h
  | some o =>
    rw [ho] at h
    simp at h
    exact ⟨o, rfl, h.1, h.2.1, h.2.2⟩

/-- A region's operations, out of a function's body. -/
def opsOf (k : Nat) : Code → Option (Array Oper)
  | .region id ops _ => if id = k then some ops else none
  | .seq a b => match opsOf k a with
    | some x => some x
    | none => opsOf k b
  | .cond _ a b => match opsOf k a with
    | some x => some x
    | none => opsOf k b
  | .block _ a => opsOf k a
  | .loop a => opsOf k a
  | .scope a => opsOf k a
  | .rangeFunc _ _ a b => match opsOf k a with
    | some x => some x
    | none => opsOf k b
  | _ => none
def regOps (f : Func) (k : Nat) : Array Oper := ((f.body.bind (opsOf k)).getD #[])

section
variable {P : Program} {ops : Array Oper} {K : Act → World → Prop} {S : World → Prop} {N n : Nat} {done : List Nat} {fuel : Nat} {a : Act} {w : World} {l : List (Nat × Value)}

/-- The region begins. -/
theorem d_start {id : Nat} {ops0 : Array Oper} {Q : Exit → Act → World → Prop} (S : World → Prop) (ho : ops = ops0) (hm : P.follows .mixedOrders = true) (hN : ops.size = N)
    (h : ∀ K : Act → World → Prop, (∀ a w, Q .normal a w → K a w) → wpAnyH P .any ops (QN K) S N (lst N []) a w.drew) : (Code.region id ops0 true).wp P Q a w := by
  subst ho
  exact h_start (K := fun a w => Q .normal a w) hm hN (fun _ _ h => h) (h _ fun _ _ h => h)
/-- Then the rest. -/
theorem d_seq {id : Nat} {ops0 : Array Oper} {Q : Exit → Act → World → Prop} {y : Code} (S : World → Prop) (ho : ops = ops0) (hm : P.follows .mixedOrders = true) (hN : ops.size = N)
    (h : ∀ K : Act → World → Prop, (∀ a w, y.wp P Q a w → K a w) → wpAnyH P .any ops (QN K) S N (lst N []) a w.drew) : (Code.seq (.region id ops0 true) y).wp P Q a w :=
  wp_seq_k fun K hK => d_start S ho hm hN fun K' hK' => h K' fun a w hy => hK' _ _ (hK _ _ hy)

/-- What only reads, wherever S holds. -/
theorem d_val {ds : List Deferred} (i d : Nat) {op : Op} {v : Value} (hF : Fs n a l (ds := ds)) (hS : S w) (hop : lookG ops i = some (some d, op, none)) (hr : ∀ W, S W → Runs P n l W op v) (hok : okTake ops (lst N done) i = true) (hd : d < n)
    (h : ∀ a', Fs n a' ((d, v) :: l) (ds := ds) → wpAnyH P .any ops (QN K) S fuel (lst N (i :: done)) a' w) : wpAnyH P .any ops (QN K) S (fuel + 1) (lst N done) a w := by
  obtain ⟨o, ho, hdst, hopp, hgu⟩ := lookG_some hop
  simp only [okTake, Bool.and_eq_true] at hok
  refine wpAnyH_take ho hok.1.1 hok.1.2 hok.2 (fun _ _ _ h => h) (.inl ⟨wanted_none o hgu _, fun W hW => hr W hW _ a hF o hopp⟩) hS ?_
  rw [hdst]
  exact h _ (hF.put d hd v)
/-- With a guard that says yes. -/
theorem d_valg {ds : List Deferred} (i d dj : Nat) {j : Nat} {want : Bool} {op : Op} {v : Value} (hF : Fs n a l (ds := ds)) (hS : S w) (hop : lookG ops i = some (some d, op, some (j, want))) (hj : (ops[j]?).bind (·.dst) = some dj) (hb : lk l dj = some (.bool want)) (hr : ∀ W, S W → Runs P n l W op v) (hok : okTake ops (lst N done) i = true) (hd : d < n)
    (h : ∀ a', Fs n a' ((d, v) :: l) (ds := ds) → wpAnyH P .any ops (QN K) S fuel (lst N (i :: done)) a' w) : wpAnyH P .any ops (QN K) S (fuel + 1) (lst N done) a w := by
  obtain ⟨o, ho, hdst, hopp, hgu⟩ := lookG_some hop
  simp only [okTake, Bool.and_eq_true] at hok
  refine wpAnyH_take ho hok.1.1 hok.1.2 hok.2 (fun _ _ _ h => h) (.inl ⟨by rw [wanted_some hF hgu hj hb]; simp, fun W hW => hr W hW _ a hF o hopp⟩) hS ?_
  rw [hdst]
  exact h _ (hF.put d hd v)
/-- With one that says no. -/
theorem d_skip {ds : List Deferred} (i d dj : Nat) {j : Nat} {want : Bool} {op : Op} (hF : Fs n a l (ds := ds)) (hS : S w) (hop : lookG ops i = some (some d, op, some (j, want))) (hj : (ops[j]?).bind (·.dst) = some dj) (hb : lk l dj = some (.bool (!want))) (hok : okTake ops (lst N done) i = true) (hd : d < n)
    (h : ∀ a', Fs n a' ((d, undef) :: l) (ds := ds) → wpAnyH P .any ops (QN K) S fuel (lst N (i :: done)) a' w) : wpAnyH P .any ops (QN K) S (fuel + 1) (lst N done) a w := by
  obtain ⟨o, ho, hdst, hopp, hgu⟩ := lookG_some hop
  simp only [okTake, Bool.and_eq_true] at hok
  refine wpAnyH_take ho hok.1.1 hok.1.2 hok.2 (fun _ _ _ h => h) (.inr ⟨by rw [wanted_some hF hgu hj hb]; cases want <;> rfl, rfl⟩) hS ?_
  rw [hdst]
  exact h _ (hF.put d hd _)
/-- With one that was itself passed over. -/
theorem d_skipu {ds : List Deferred} (i d dj : Nat) {j : Nat} {want : Bool} {op : Op} (hF : Fs n a l (ds := ds)) (hS : S w) (hop : lookG ops i = some (some d, op, some (j, want))) (hj : (ops[j]?).bind (·.dst) = some dj) (hb : lk l dj = some undef) (hok : okTake ops (lst N done) i = true) (hd : d < n)
    (h : ∀ a', Fs n a' ((d, undef) :: l) (ds := ds) → wpAnyH P .any ops (QN K) S fuel (lst N (i :: done)) a' w) : wpAnyH P .any ops (QN K) S (fuel + 1) (lst N done) a w := by
  obtain ⟨o, ho, hdst, hopp, hgu⟩ := lookG_some hop
  simp only [okTake, Bool.and_eq_true] at hok
  have hs := hF.slot dj _ hb
  refine wpAnyH_take ho hok.1.1 hok.1.2 hok.2 (fun _ _ _ h => h) (.inr ⟨by simp [Region.wanted, hgu, yielded, hj, hs, undef], rfl⟩) hS ?_
  rw [hdst]
  exact h _ (hF.put d hd _)

/-- What comes up alone, by the steps of a list. -/
theorem d_one (i : Nat) (d : Option Tmp) (op : Op) (ho : (ops[i]?).map (fun o => (o.dst, o.op, o.guard)) = some (d, op, none)) (hr : Region.ready .any ops (lst N done) = [i])
    (h : ∀ ty pos af, wpList P ops (QN fun a' w' => S w' ∧ wpAnyH P .any ops (QN K) S fuel (lst N (i :: done)) a' w') [⟨d, op, ty, pos, af, none⟩] a w) : wpAnyH P .any ops (QN K) S (fuel + 1) (lst N done) a w := by
  cases ho' : ops[i]? with
  | none => rw [ho'] at ho; cases ho
  | some o =>
    rw [ho'] at ho
    obtain ⟨d', op', ty, pos, af, g⟩ := o
    simp at ho
    obtain ⟨rfl, rfl, rfl⟩ := ho
    exact h_one i ho' rfl hr (h ty pos af)
/-- With a guard that says yes. -/
theorem d_oneg {ds : List Deferred} (i dj : Nat) (d : Option Tmp) (op : Op) {j : Nat} {want : Bool} (hF : Fs n a l (ds := ds)) (ho : (ops[i]?).map (fun o => (o.dst, o.op, o.guard)) = some (d, op, some (j, want))) (hr : Region.ready .any ops (lst N done) = [i]) (hj : (ops[j]?).bind (·.dst) = some dj) (hb : lk l dj = some (.bool want))
    (h : ∀ ty pos af, wpList P ops (QN fun a' w' => S w' ∧ wpAnyH P .any ops (QN K) S fuel (lst N (i :: done)) a' w') [⟨d, op, ty, pos, af, none⟩] a w) : wpAnyH P .any ops (QN K) S (fuel + 1) (lst N done) a w := by
  cases ho' : ops[i]? with
  | none => rw [ho'] at ho; cases ho
  | some o =>
    rw [ho'] at ho
    obtain ⟨d', op', ty, pos, af, g⟩ := o
    simp at ho
    obtain ⟨rfl, rfl, rfl⟩ := ho
    refine wpAnyH_all hr (by simp) (fun j' hj' => ?_)
    simp at hj'
    subst hj'
    unfold wpOp
    simp only [ho']
    have h := h ty pos af
    unfold wpList at h
    rw [if_pos (wanted_none _ rfl _)] at h
    rw [if_pos (by rw [wanted_some hF rfl hj hb]; simp)]
    rcases h with h | ⟨_, a', w', h⟩
    · exact .inl (upon_QN h)
    · exact (h : False).elim
/-- One of two that may come up. -/
theorem d_op (i : Nat) (d : Option Tmp) (op : Op) {R : Act → World → Prop} (ho : (ops[i]?).map (fun o => (o.dst, o.op, o.guard)) = some (d, op, none))
    (h : ∀ ty pos af, wpList P ops (QN R) [⟨d, op, ty, pos, af, none⟩] a w) : wpOp P ops (QN K) i R a w := by
  cases ho' : ops[i]? with
  | none => rw [ho'] at ho; cases ho
  | some o =>
    rw [ho'] at ho
    obtain ⟨d', op', ty, pos, af, g⟩ := o
    simp at ho
    obtain ⟨rfl, rfl, rfl⟩ := ho
    unfold wpOp
    simp only [ho']
    have h := h ty pos af
    unfold wpList at h
    rw [if_pos (wanted_none _ rfl _)] at h ⊢
    rcases h with h | ⟨_, a', w', h⟩
    · exact .inl (upon_QN h)
    · exact (h : False).elim
/-- Two may come up. -/
theorem d_two (i j : Nat) (hr : Region.ready .any ops (lst N done) = [i, j])
    (h1 : wpOp P ops (QN K) i (fun a' w' => S w' ∧ wpAnyH P .any ops (QN K) S fuel (lst N (i :: done)) a' w') a w)
    (h2 : wpOp P ops (QN K) j (fun a' w' => S w' ∧ wpAnyH P .any ops (QN K) S fuel (lst N (j :: done)) a' w') a w) : wpAnyH P .any ops (QN K) S (fuel + 1) (lst N done) a w := by
  refine wpAnyH_all hr (by simp) (fun m hm => ?_)
  simp at hm
  rcases hm with rfl | rfl
  · exact h1
  · exact h2
theorem d_end (hr : Region.ready .any ops (lst N done) = []) (h : K a w) : wpAnyH P .any ops (QN K) S fuel (lst N done) a w := wpAnyH_done hr h _
end
end Go.Proofs.Ytaclncmkdpjnlaa
