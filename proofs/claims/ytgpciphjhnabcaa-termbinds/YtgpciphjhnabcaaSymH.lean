/- A region that draws its order and makes memory in its midst: what only reads is taken first. No program is named here. -/
import Derived.Test.YtgpciphjhnabcaaSymC
import Derived.Deep.RegionHeld
namespace Go.Proofs.Ytgpciphjhnabcaa
open Go.RowKit Go.Shelf
set_option linter.unusedVariables false
set_option linter.unusedSimpArgs false

/-- Which have come up, the newest first. -/
def lst (N : Nat) : List Nat → Array Bool
  | [] => Array.replicate N false
  | i :: d => (lst N d).setIfInBounds i true
def okTake (ops : Array Oper) (listed : Array Bool) (i : Nat) : Bool := Region.noSelect ops && Region.free .any ops listed i && (Region.ready .any ops listed).contains i
def QN (K : Act → World → Prop) : Exit → Act → World → Prop
  | .normal, a, w => K a w
  | _, _, _ => False
/-- An operation without a guard: its slot and kind. -/
def look (ops : Array Oper) (i : Nat) : Option (Option Tmp × Op) := (ops[i]?).bind fun o => match o.guard with | none => some (o.dst, o.op) | some _ => none
theorem look_some {ops : Array Oper} {i : Nat} {d : Option Tmp} {op : Op} (h : look ops i = some (d, op)) : ∃ o, ops[i]? = some o ∧ o.dst = d ∧ o.op = op ∧ o.guard = none := by
  unfold look at h
  cases ho : ops[i]? with
  | none => rw [ho] at h; cases h
  | some o =>
    rw [ho] at h
    cases hg : o.guard with
    | some g => simp [hg] at h
    | none =>
      simp [hg] at h
      exact ⟨o, rfl, h.1, h.2, hg⟩

section
variable {P : Program} {ops : Array Oper} {K : Act → World → Prop} {S : World → Prop} {N n : Nat} {done : List Nat} {fuel : Nat} {a : Act} {w : World} {l : List (Nat × Value)}

theorem h_start {id : Nat} {Q : Exit → Act → World → Prop} (hm : P.follows .mixedOrders = true) (hN : ops.size = N) (hK : ∀ a w, K a w → Q .normal a w)
    (h : wpAnyH P .any ops (QN K) S N (lst N []) a w.drew) : (Code.region id ops true).wp P Q a w := by
  subst hN
  refine Code.wp_mono (fun e a w h => ?_) (wp_region_held hm h)
  cases e <;> first | exact hK _ _ h | exact (h : False).elim

theorem h_val {ds : List Deferred} (i d : Nat) {op : Op} {v : Value} (hF : Fs n a l (ds := ds)) (hS : S w) (hop : look ops i = some (some d, op)) (hr : ∀ W, S W → Runs P n l W op v) (hok : okTake ops (lst N done) i = true) (hd : d < n)
    (h : ∀ a', Fs n a' ((d, v) :: l) (ds := ds) → wpAnyH P .any ops (QN K) S fuel (lst N (i :: done)) a' w) : wpAnyH P .any ops (QN K) S (fuel + 1) (lst N done) a w := by
  obtain ⟨o, ho, hdst, hopp, hgu⟩ := look_some hop
  simp only [okTake, Bool.and_eq_true] at hok
  refine wpAnyH_take ho hok.1.1 hok.1.2 hok.2 (fun _ _ _ h => h) (.inl ⟨wanted_none o hgu _, fun W hW => hr W hW _ a hF o hopp⟩) hS ?_
  rw [hdst]
  exact h _ (hF.put d hd v)

theorem h_call {ds : List Deferred} (i d : Nat) {f : FuncId} {xs : List Operand} {ts : Array TypeId} (vals : List Value) {R : Value → World → Prop} (hF : Fs n a l (ds := ds)) (hop : look ops i = some (some d, .call { callee := .value (.func f), args := xs.toArray, argTypes := ts })) (hr : Region.ready .any ops (lst N done) = [i]) (hd : d < n)
    (hent : Enters P f) (hargs : xs.map (ov l) = vals.map some) (hC : Calls P f vals.toArray w fun e w' => ∃ v, e = .returned v ∧ R v w')
    (h : ∀ v w' a', R v w' → Fs n a' ((d, v) :: l) (ds := ds) → S w' ∧ wpAnyH P .any ops (QN K) S fuel (lst N (i :: done)) a' w') : wpAnyH P .any ops (QN K) S (fuel + 1) (lst N done) a w := by
  refine wpAnyH_all hr (by simp) (fun j hj => ?_)
  simp at hj
  subst hj
  obtain ⟨o, ho, hdst, hopp, hgu⟩ := look_some hop
  unfold wpOp
  simp only [ho]
  rw [if_pos (wanted_none o hgu _)]
  refine .inl ?_
  unfold Oper.wp
  rw [run_call hF hent hargs o hopp]
  refine Calls.mono hC ?_
  rintro e w' ⟨v, rfl, hR⟩
  show S w' ∧ wpAnyH P .any ops (QN K) S fuel _ (a.put o.dst v) w'
  rw [hdst]
  exact h v w' _ hR (hF.put d hd v)

theorem h_sto {ds : List Deferred} (i : Nat) {t : TypeId} {x y : Operand} {u1 u2 : Value} {w' : World} (hF : Fs n a l (ds := ds)) (hop : look ops i = some (none, .store t x y)) (hr : Region.ready .any ops (lst N done) = [i]) (hx : ov l x = some u1) (hy : ov l y = some u2) (hs : (Instr.storeAt t u1 u2).run P w = .ok () w')
    (h : S w' ∧ wpAnyH P .any ops (QN K) S fuel (lst N (i :: done)) a w') : wpAnyH P .any ops (QN K) S (fuel + 1) (lst N done) a w := by
  refine wpAnyH_all hr (by simp) (fun j hj => ?_)
  simp at hj
  subst hj
  obtain ⟨o, ho, hdst, hopp, hgu⟩ := look_some hop
  unfold wpOp
  simp only [ho]
  rw [if_pos (wanted_none o hgu _)]
  refine .inl ?_
  unfold Oper.wp
  rw [show (execOp a.eval o).run P w = .ok .skip w' from by simp [execOp, hopp, hF.ov hx, hF.ov hy, hs]]
  show S w' ∧ wpAnyH P .any ops (QN K) S fuel _ (a.put o.dst undef) w'
  rw [hdst]
  exact h

/-- An operation that comes up, in the world as it stands. -/
theorem o_val {ds : List Deferred} {i d : Nat} {op : Op} {v : Value} {R : Act → World → Prop} (hF : Fs n a l (ds := ds)) (hop : look ops i = some (some d, op)) (hr : Runs P n l w op v) (hd : d < n) (h : ∀ a', Fs n a' ((d, v) :: l) (ds := ds) → R a' w) : wpOp P ops (QN K) i R a w := by
  obtain ⟨o, ho, hdst, hopp, hgu⟩ := look_some hop
  unfold wpOp
  simp only [ho]
  rw [if_pos (wanted_none o hgu _)]
  refine .inl ?_
  unfold Oper.wp
  rw [hr _ a hF o hopp]
  show R (a.put o.dst v) w
  rw [hdst]
  exact h _ (hF.put d hd v)
/-- Two reads that come up in either order. -/
theorem h_two {ds : List Deferred} (i j d e : Nat) {op1 op2 : Op} {v1 v2 : Value} (hF : Fs n a l (ds := ds)) (hS : ∀ W, S W) (h1 : look ops i = some (some d, op1)) (h2 : look ops j = some (some e, op2)) (hr : Region.ready .any ops (lst N done) = [i, j]) (hri : Region.ready .any ops (lst N (i :: done)) = [j]) (hrj : Region.ready .any ops (lst N (j :: done)) = [i]) (hl : lst N (i :: j :: done) = lst N (j :: i :: done))
    (r1 : Runs P n l w op1 v1) (r2 : Runs P n l w op2 v2) (r1' : Runs P n ((e, v2) :: l) w op1 v1) (r2' : Runs P n ((d, v1) :: l) w op2 v2) (hd : d < n) (he : e < n) (hne : Nat.beq d e = false)
    (h : ∀ a', Fs n a' ((e, v2) :: (d, v1) :: l) (ds := ds) → wpAnyH P .any ops (QN K) S fuel (lst N (j :: i :: done)) a' w) : wpAnyH P .any ops (QN K) S (fuel + 1 + 1) (lst N done) a w := by
  refine wpAnyH_all hr (by simp) (fun m hm => ?_)
  simp at hm
  rcases hm with rfl | rfl
  · refine o_val hF h1 r1 hd fun a' hF' => ⟨hS _, ?_⟩
    refine wpAnyH_all hri (by simp) (fun k hk => ?_)
    simp at hk
    subst hk
    exact o_val hF' h2 r2' he fun a'' hF'' => ⟨hS _, h a'' hF''⟩
  · refine o_val hF h2 r2 he fun a' hF' => ⟨hS _, ?_⟩
    refine wpAnyH_all hrj (by simp) (fun k hk => ?_)
    simp at hk
    subst hk
    refine o_val hF' h1 r1' hd fun a'' hF'' => ⟨hS _, ?_⟩
    have : wpAnyH P .any ops (QN K) S fuel (lst N (k :: m :: done)) a'' w := by
      rw [hl]
      refine h a'' ⟨hF''.size, hF''.defers, fun t u ht => hF''.slot t u ?_⟩
      simp only [lk] at ht ⊢
      cases h3 : Nat.beq e t with
      | false => simpa [h3] using ht
      | true =>
        have h4 := Nat.eq_of_beq_eq_true h3
        subst h4
        simpa [h3, hne] using ht
    exact this

theorem h_end (hr : Region.ready .any ops (lst N done) = []) (h : K a w) : wpAnyH P .any ops (QN K) S fuel (lst N done) a w := wpAnyH_done hr h _
end
end Go.Proofs.Ytgpciphjhnabcaa
