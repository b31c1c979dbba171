/- An operation that comes up alone in a region that draws, by the steps of a list. No program is named here. -/
import Derived.Test.YtaclncmkdpjnlaaSymH
namespace Go.Proofs.Ytaclncmkdpjnlaa
open Go.RowKit Go.Shelf
set_option linter.unusedVariables false
set_option linter.unusedSimpArgs false

section
variable {P : Program} {ops : Array Oper} {K : Act → World → Prop} {S : World → Prop} {N n : Nat} {done : List Nat} {fuel : Nat} {a : Act} {w : World} {l : List (Nat × Value)}
theorem upon_QN {o : Oper} {R K K' : Act → World → Prop} {r : Result Next} (h : o.upon P a R (QN K) r) : o.upon P a R (QN K') r := by
  cases r with
  | ok x w' =>
    cases x with
    | enter f args =>
      refine Calls.mono h ?_
      intro e w'' he
      cases e with
      | returned v => exact he
      | panicked c => exact (he : False).elim
      | outgrown =>
        obtain ⟨a', w3, h3⟩ := he
        exact (h3 : False).elim
    | _ => exact h
  | halt x w' =>
    cases x with
    | panic v => exact (h : False).elim
    | _ => exact h
theorem h_one (i : Nat) {o : Oper} (ho : ops[i]? = some o) (hg : o.guard = none) (hr : Region.ready .any ops (lst N done) = [i])
    (h : wpList P ops (QN fun a' w' => S w' ∧ wpAnyH P .any ops (QN K) S fuel (lst N (i :: done)) a' w') [o] a w) : wpAnyH P .any ops (QN K) S (fuel + 1) (lst N done) a w := by
  refine wpAnyH_all hr (by simp) (fun j hj => ?_)
  simp at hj
  subst hj
  unfold wpOp
  simp only [ho]
  unfold wpList at h
  rw [if_pos (wanted_none o hg _)] at h ⊢
  rcases h with h | ⟨_, a', w', h⟩
  · exact .inl (upon_QN h)
  · exact (h : False).elim

/-- A step whose guard was itself passed over. -/
theorem s_grdu {ds : List Deferred} {Q : Exit → Act → World → Prop} {rest : List Oper} {op : Op} {ty : TypeId} {pos : String} {af : Array Edge} {d j : Nat} {want : Bool} (dj : Nat) (hF : Fs n a l (ds := ds)) (hj : (ops[j]?).bind (·.dst) = some dj) (hb : lk l dj = some undef) (hd : d < n)
    (h : ∀ a', Fs n a' ((d, undef) :: l) (ds := ds) → wpList P ops Q rest a' w) : wpList P ops Q (⟨some d, op, ty, pos, af, some (j, want)⟩ :: rest) a w := by
  have hs := hF.slot dj _ hb
  have hw : Region.wanted (⟨some d, op, ty, pos, af, some (j, want)⟩ : Oper) (yielded ops a.tmps) = false := by
    simp [Region.wanted, yielded, hj, hs, undef]
  unfold wpList
  rw [if_neg (by rw [hw]; exact Bool.false_ne_true)]
  exact h _ (hF.put d hd _)
end
end Go.Proofs.Ytaclncmkdpjnlaa
