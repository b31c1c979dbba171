/- Slices whose elements have any number of cells: what they read as, what a call owns, literals, appends. No program is named here. -/
import Derived.Test.YtaclncmkdpjnlaaSymV
import Derived.Laws.AppendOwn
import Derived.Laws.AppendOwnNone
import Derived.Great.FillDense
namespace Go.Proofs.Ytaclncmkdpjnlaa
open Go.RowKit Go.Shelf
set_option linter.unusedVariables false
set_option linter.unusedSimpArgs false

/-- The slice v has n elements of k cells each; they read as cs. -/
def Rd (W : World) (v : Value) (k n : Nat) (cs : List Value) : Prop :=
  cs.length = n * k ∧ ((∃ a c, v = .slice a 0 c ∧ n = 0 ∧ (a = none → c = 0)) ∨
  ∃ b off cap, v = .slice (some ⟨b, off, none⟩) n cap ∧ n ≤ cap ∧ b < W.heap.size ∧ ∀ j u, cs[j]? = some u → W.cell? ⟨b, off + j, none⟩ = some u)

section
variable {W W' : World} {v : Value} {k n : Nat} {cs : List Value}
theorem Rd.nil (W : World) (k : Nat) : Rd W (.slice none 0 0) k 0 [] := ⟨by simp, .inl ⟨_, _, rfl, rfl, fun _ => rfl⟩⟩
theorem Rd.form (h : Rd W v k n cs) : ∃ a c, v = .slice a n c ∧ n ≤ c ∧ (a = none → c = 0) := by
  rcases h.2 with ⟨a, c, rfl, rfl, h0⟩ | ⟨b, off, cap, rfl, h0, _⟩
  · exact ⟨a, c, rfl, Nat.zero_le _, h0⟩
  · exact ⟨_, cap, rfl, h0, by simp⟩
theorem Rd.keep (h : Rd W v k n cs) (hs : W.heap.size ≤ W'.heap.size) (hk : ∀ b, v.ownBlock = some b → b < W.heap.size → W'.heap[b]? = W.heap[b]?) : Rd W' v k n cs := by
  refine ⟨h.1, ?_⟩
  rcases h.2 with h | ⟨b, off, cap, rfl, h1, hl, h2⟩
  · exact .inl h
  · exact .inr ⟨b, off, cap, rfl, h1, Nat.lt_of_lt_of_le hl hs, fun j u hj => (World.cell?_of_block (w := W) (a := ⟨b, off + j, none⟩) (hk b rfl hl)).trans (h2 j u hj)⟩
theorem Rd.below (h : Rd W v k n cs) (hB : Below W.heap.size W W') : Rd W' v k n cs := h.keep hB.size fun b _ hb => hB.block b hb
theorem Rd.upto {a : Option Addr} {N c : Nat} (h : Rd W (.slice a N c) k n cs) (m : Nat) (hm : m ≤ n) : Rd W (.slice a m c) k m (cs.take (m * k)) := by
  have hl : (cs.take (m * k)).length = m * k := by
    rw [List.length_take, h.1]
    exact Nat.min_eq_left (Nat.mul_le_mul_right k hm)
  refine ⟨hl, ?_⟩
  rcases h.2 with ⟨a', c', e, rfl, h0⟩ | ⟨b, off, cap, e, h1, hl, h2⟩
  · cases e
    exact .inl ⟨_, _, by rw [Nat.le_zero.1 hm], Nat.le_zero.1 hm, h0⟩
  · cases e
    refine .inr ⟨b, off, c, rfl, by omega, hl, fun j u hj => h2 j u ?_⟩
    rw [List.getElem?_take] at hj
    split at hj
    · exact hj
    · cases hj
theorem Rd.from {a : Option Addr} {N c : Nat} (h : Rd W (.slice a N c) k n cs) (m : Nat) (hm : m ≤ n) : Rd W (.slice (if c = m then a else a.map (·.add (m * k))) (N - m) (c - m)) k (n - m) (cs.drop (m * k)) := by
  refine ⟨by rw [List.length_drop, h.1, Nat.sub_mul], ?_⟩
  rcases h.2 with ⟨a', c', e, rfl, h0⟩ | ⟨b, off, cap, e, h1, hl, h2⟩
  · cases e
    obtain rfl : m = 0 := Nat.le_zero.1 hm
    refine .inl ⟨_, _, rfl, rfl, ?_⟩
    intro hn
    have : a = none := by
      split at hn
      · exact hn
      · cases a <;> simp at hn ⊢
    have := h0 this
    omega
  · cases e
    by_cases hc : c = m
    · refine .inl ⟨some ⟨b, off, none⟩, c - m, ?_, by omega, by simp⟩
      rw [if_pos hc]
      congr 1
      omega
    · refine .inr ⟨b, off + m * k, c - m, ?_, by omega, hl, fun j u hj => ?_⟩
      · rw [if_neg hc]
        simp [addr_addn]
      · rw [List.getElem?_drop] at hj
        have := h2 _ u hj
        rwa [Nat.add_assoc]
theorem Rd.cell {b off N c : Nat} (h : Rd W (.slice (some ⟨b, off, none⟩) N c) k n cs) {j : Nat} {u : Value} (hj : cs[j]? = some u) : W.cell? ⟨b, off + j, none⟩ = some u := by
  rcases h.2 with ⟨a', c', e, rfl, h0⟩ | ⟨b', off', cap, e, h1, hl, h2⟩
  · obtain rfl : cs = [] := List.eq_nil_of_length_eq_zero (by simpa using h.1)
    simp at hj
  · cases e
    exact h2 j u hj
theorem Rd.some (h : Rd W v k n cs) (hn : 0 < n) : ∃ b off c, v = .slice (some ⟨b, off, none⟩) n c ∧ b < W.heap.size := by
  rcases h.2 with ⟨a', c', e, rfl, h0⟩ | ⟨b', off', cap, e, h1, hl, h2⟩
  · omega
  · exact ⟨b', off', cap, e, hl⟩
theorem Rd.blk {b e : Nat} (hB : Blk W b e cs) (hl : cs.length = n * k) : Rd W (.slice (Option.some ⟨b, 0, none⟩) n n) k n cs :=
  ⟨hl, .inr ⟨b, 0, n, rfl, Nat.le_refl _, hB.lt, fun j u hj => by rw [Nat.zero_add]; exact hB.cell hj⟩⟩
theorem Rd.own {base e : Nat} (h : W.ownsRow base e k v n cs) : Rd W v k n cs := by
  have hh := h
  refine ⟨h.1, ?_⟩
  rcases h.2 with ⟨rfl, h0⟩ | ⟨g, cap, cur, rfl, hg, hb, h1, h2, h3, h4⟩
  · exact .inl ⟨_, _, rfl, h0, fun _ => rfl⟩
  · refine .inr ⟨g, 0, cap, rfl, h1, (Array.getElem?_eq_some_iff.1 hb).1, fun j u hj => ?_⟩
    have := hh.cells (g := g) rfl j u hj
    rwa [addr_addn] at this
theorem Rd.lt (h : Rd W v k n cs) (hn : 0 < n) {b : Nat} (hb : v.ownBlock = Option.some b) : b < W.heap.size := by
  obtain ⟨b', off, c, rfl, hl⟩ := h.some hn
  cases hb
  exact hl
end

/-- A slice of slices of bytes. -/
def RM (W : World) (v : Value) (ls : List (List UInt8)) : Prop := ∃ vals, Rd W v 1 ls.length vals ∧ ∀ (i : Nat) u l, vals[i]? = some u → ls[i]? = some l → RB W.heap.size W u l
section
variable {W W' : World} {v : Value} {ls : List (List UInt8)}
theorem RM.nil (W : World) : RM W (.slice none 0 0) [] := ⟨[], Rd.nil W 1, fun i v l h => by simp at h⟩
theorem RM.form (h : RM W v ls) : ∃ a c, v = .slice a ls.length c ∧ ls.length ≤ c := by
  obtain ⟨vals, hv, _⟩ := h
  obtain ⟨a, c, h1, h2, _⟩ := hv.form
  exact ⟨a, c, h1, h2⟩
theorem RM.below (h : RM W v ls) (hB : Below W.heap.size W W') : RM W' v ls := by
  obtain ⟨vals, hv, hr⟩ := h
  exact ⟨vals, hv.below hB, fun i u l h1 h2 => ((hr i u l h1 h2).below hB).young (ex' := W'.heap.size) (Nat.le_refl _)⟩
theorem RM.row (h : RM W v ls) {i : Nat} (hi : i < ls.length) :
    ∃ b off c u, v = .slice (some ⟨b, off, none⟩) ls.length c ∧ ∀ W', Below W.heap.size W W' → W'.cell? ⟨b, off + i, none⟩ = some u ∧ ∀ ex, W.heap.size ≤ ex → RB ex W' u (ls.getD i []) := by
  obtain ⟨vals, hv, hr⟩ := h
  obtain ⟨b, off, c, rfl, hb⟩ := hv.some (by omega)
  have hl := hv.1
  obtain ⟨u, hu⟩ : ∃ u, vals[i]? = some u := ⟨_, List.getElem?_eq_getElem (by omega)⟩
  exact ⟨b, off, c, u, rfl, fun W' hB => ⟨(hB.cell (p := ⟨b, off + i, none⟩) hb).trans (hv.cell hu), fun ex hx => ((hr i u _ hu (getD_get ls i [] hi)).young hx).below hB⟩⟩
theorem RM.upto {a : Option Addr} {N c : Nat} (h : RM W (.slice a N c) ls) (m : Nat) (hm : m ≤ ls.length) : RM W (.slice a m c) (ls.take m) := by
  obtain ⟨vals, hv, hr⟩ := h
  refine ⟨vals.take m, ?_, fun i u l h1 h2 => ?_⟩
  · have := hv.upto m hm
    rw [Nat.mul_one] at this
    rwa [show (ls.take m).length = m by rw [List.length_take]; omega]
  · rw [List.getElem?_take] at h1 h2
    split at h1
    · next hi => rw [if_pos hi] at h2; exact hr i u l h1 h2
    · cases h1
theorem RM.from {a : Option Addr} {N c : Nat} (h : RM W (.slice a N c) ls) (m : Nat) (hm : m ≤ ls.length) : RM W (.slice (if c = m then a else a.map (·.add (m * 1))) (N - m) (c - m)) (ls.drop m) := by
  obtain ⟨vals, hv, hr⟩ := h
  refine ⟨vals.drop m, ?_, fun i u l h1 h2 => ?_⟩
  · have := hv.from m hm
    rw [List.length_drop]
    simpa only [Nat.mul_one] using this
  · rw [List.getElem?_drop] at h1 h2
    exact hr _ u l h1 h2
end

/-! ### Addresses -/
section
variable {P : Program} {w : World}
theorem m_ixsK {t : TypeId} {e k : Nat} {b o n c : Nat} {ik : IntKind} {i : Int} (j : Nat) (hu : P.underlying t = some (.slice e)) (he : (P.info? e).map (·.size) = some k) (hi : i = (j : Int)) (hj : j < n) :
    (Instr.indexAt t (.slice (some ⟨b, o, none⟩) n c) (.int ik i)).run P w = .ok (.pointer (some ⟨b, o + j * k, none⟩)) w := by
  subst hi
  simp [Instr.indexAt, asIntOf, run_underlying hu, run_sizeOf_of he, addr_addn, hj]
theorem m_sliceUK {t : TypeId} {e k : Nat} {a : Option Addr} {N c : Nat} {ik : IntKind} {i : Int} (j : Nat) (hu : P.underlying t = some (.slice e)) (he : (P.info? e).map (·.size) = some k) (hi : i = (j : Int)) (hj : j ≤ c) :
    (Instr.sliceAt t (.slice a N c) none (some (.int ik i)) none).run P w = .ok (.slice a j c) w := by
  subst hi
  have h1 : (j : Int) ≤ (c : Int) := by omega
  cases a <;> simp [Instr.sliceAt, Instr.slice, run_underlying hu, Instr.sliceBounds, Instr.sliceBound, asIntOf, h1, run_sizeOf_of he, Addr.add] <;> (intro hh; omega)
end

/-! ### An element's type -/
/-- t is a slice of e; an element has k cells and kb bytes. -/
structure Elem (P : Program) (t e k kb : Nat) : Prop where
  under : P.underlying t = some (.slice e)
  info : ∃ i z, P.info? e = some i ∧ i.zero = some z ∧ i.size = k ∧ i.bytes = kb ∧ z.cells.size = k
  pos : 0 < k
def elemB (P : Program) (t e k kb : Nat) : Bool :=
  (match P.underlying t with | some (.slice e') => Nat.beq e' e | _ => false) && (match P.info? e with | some i => Nat.beq i.size k && Nat.beq i.bytes kb && (match i.zero with | some z => Nat.beq z.cells.size k | none => false) | none => false) && Nat.ble 1 k
theorem elem_of {P : Program} {t e k kb : Nat} (h : elemB P t e k kb = true) : Elem P t e k kb := by
  simp only [elemB, Bool.and_eq_true] at h
  obtain ⟨⟨h1, h2⟩, h3⟩ := h
  refine ⟨?_, ?_, Nat.le_of_ble_eq_true h3⟩
  · split at h1
    · next e' he => rw [he, Nat.eq_of_beq_eq_true h1]
    · cases h1
  · split at h2
    · next i hi =>
      simp only [Bool.and_eq_true] at h2
      obtain ⟨⟨h4, h5⟩, h6⟩ := h2
      split at h6
      · next z hz => exact ⟨i, z, hi, hz, Nat.eq_of_beq_eq_true h4, Nat.eq_of_beq_eq_true h5, Nat.eq_of_beq_eq_true h6⟩
      · cases h6
    · cases h2
theorem Elem.size {P : Program} {t e k kb : Nat} (h : Elem P t e k kb) : (P.info? e).map (·.size) = some k := by
  obtain ⟨i, z, h1, _, h2, _⟩ := h.info
  rw [h1, ← h2]
  rfl

/-- Behind an append the slice lies where it lay, or in a new block. -/
theorem append_whereG {P : Program} (w : World) (base : Nat) (t ty e : TypeId) (i : TypeInfo) (z : Value) (ht : P.underlying t = some (.slice e)) (hi : P.info? e = some i) (hz : i.zero = some z)
    (v : Value) (n : Nat) (xs : List Value) (hown : w.ownsRow base e i.size v n xs)
    (a : Addr) (m c : Nat) (news : List Value) (hl : news.length = m * i.size) (hnews : ∀ j u, news[j]? = some u → w.cell? (a.add j) = some u) (h1 : ∀ u ∈ news, u.oneCell' = true)
    (h63 : n + m ≤ maxLen) (hbytes : (n + m) * i.bytes ≤ 140737488355328) {v' : Value} {w' : World} (hr : (Builtin.append_ #[t, t] ty #[v, .slice (some a) m c]).run P w = .ok v' w') (hnil : v' = .slice none 0 0 ↔ v = .slice none 0 0 ∧ m = 0) :
    ∀ k, v'.ownBlock = some k → v.ownBlock = some k ∨ w.heap.size ≤ k := by
  have hsmall : n + m ≤ 9223372036854775807 := by simp only [maxLen] at h63; omega
  rcases hown.2 with ⟨rfl, rfl⟩ | ⟨g, cap, cur, rfl, _⟩
  · rcases Nat.eq_zero_or_pos m with hm | hm
    · have := hnil.2 ⟨rfl, hm⟩
      subst this
      intro k hk
      cases hk
    · have h2 := run_append_nil (P := P) w t ty e i z ht hi hz a m c news hl hnews hm (by omega) (by simp only [Nat.zero_add] at hbytes; omega)
      rw [hr] at h2
      simp only [Result.ok.injEq] at h2
      intro k hk
      rw [h2.1] at hk
      cases hk
      exact .inr (Nat.le_refl _)
  · by_cases hroom : n + m ≤ cap
    · obtain ⟨w2, h2, _⟩ := run_append_fits (P := P) w base t ty e i i.size ht hi rfl g n cap xs hown a m c news hl hnews h1 hroom
      rw [hr] at h2
      simp only [Result.ok.injEq] at h2
      intro k hk
      rw [h2.1] at hk
      exact .inl hk
    · have h2 := run_append_grow (P := P) w t ty e i z ht hi hz ⟨g, 0, none⟩ n cap xs hown.1 (hown.cells (g := g) rfl) a m c news hl hnews (by omega) (by omega) (growslice_fits (by omega) hbytes)
      rw [hr] at h2
      simp only [Result.ok.injEq] at h2
      intro k hk
      rw [h2.1] at hk
      cases hk
      exact .inr (Nat.le_refl _)

theorem own_below {base e k n : Nat} {v : Value} {xs : List Value} {w w' : World} (h : w.ownsRow base e k v n xs) (hB : Below w.heap.size w w') : w'.ownsRow base e k v n xs := by
  refine ⟨h.1, ?_⟩
  rcases h.2 with h0 | ⟨g, cap, cur, rfl, hg, hb, h1⟩
  · exact .inl h0
  · exact .inr ⟨g, cap, cur, rfl, hg, (hB.block g (Array.getElem?_eq_some_iff.1 hb).1).trans hb, h1⟩
theorem own_keep {base e k n : Nat} {v : Value} {xs : List Value} {w w' : World} (h : w.ownsRow base e k v n xs) (hk : ∀ j, v.ownBlock = some j → w'.heap[j]? = w.heap[j]?) : w'.ownsRow base e k v n xs := by
  refine ⟨h.1, ?_⟩
  rcases h.2 with h0 | ⟨g, cap, cur, rfl, hg, hb, h1⟩
  · exact .inl h0
  · exact .inr ⟨g, cap, cur, rfl, hg, (hk g rfl).trans hb, h1⟩

section
variable {P : Program} {n d : Nat} {l : List (Nat × Value)} {w : World} {a : Act} {ops : Array Oper} {Q : Exit → Act → World → Prop} {rest : List Oper} {ty : TypeId} {pos : String} {af : Array Edge} {x y : Operand} {v u : Value} {base t e k kb m p : Nat} {xs ys : List Value}

/-- An append to a slice that the call owns. -/
theorem s_appG {ds : List Deferred} (hE : Elem P t e k kb) (hF : Fs n a l (ds := ds)) (hd : d < n) (hx : ov l x = some v) (hy : ov l y = some u) (hO : w.ownsRow base e k v m xs) (hR : Rd w u k p ys) (h1 : ∀ u ∈ ys, u.oneCell' = true) (hlen : (m + p) * kb ≤ 140737488355328) (hml : m + p ≤ maxLen) (hb : base ≤ w.heap.size)
    (h : ∀ v' w' a', w'.ownsRow base e k v' (m + p) (xs ++ ys) → w.grownBy w' v.ownBlock → (∀ j, v'.ownBlock = some j → v.ownBlock = some j ∨ w.heap.size ≤ j) → Fs n a' ((d, v') :: l) (ds := ds) → wpList P ops Q rest a' w') :
    wpList P ops Q (⟨some d, .call { callee := .builtin .append, args := #[x, y], argTypes := #[t, t] }, ty, pos, af, none⟩ :: rest) a w := by
  obtain ⟨i, z, hi, hz, hs, hby, hzc⟩ := hE.info
  have ht := hE.under
  have key : ∀ (ad : Addr) (q c : Nat), u = .slice (some ad) q c → q = p → (∀ j u, ys[j]? = some u → w.cell? (ad.add j) = some u) → wpList P ops Q (⟨some d, .call { callee := .builtin .append, args := #[x, y], argTypes := #[t, t] }, ty, pos, af, none⟩ :: rest) a w := by
    rintro ad q c rfl rfl hsrc
    have hO' : w.ownsRow base e i.size v m xs := by rw [hs]; exact hO
    obtain ⟨v', w', hr, h2, h3, h4⟩ := run_append_own (P := P) w base t ty e i z k kb ht hi hz hs hby hzc hE.pos v m xs hO ad q c ys hR.1 hsrc h1 hml hlen hb
    have hw := append_whereG w base t ty e i z ht hi hz v m xs hO' ad q c ys (by rw [hs]; exact hR.1) hsrc h1 hml (by rw [hby]; exact hlen) hr h4
    unfold wpList
    rw [if_pos (wanted_none _ rfl _)]
    refine .inl ?_
    unfold Oper.wp
    rw [show (execOp a.eval ⟨some d, .call { callee := .builtin .append, args := #[x, y], argTypes := #[t, t] }, ty, pos, af, none⟩).run P w = .ok (.value v') w' from by simp [execOp, resolve, invoke, builtin, hF.ov hx, hF.ov hy, hr]]
    exact h v' w' _ h2 h3 hw (hF.put d hd v')
  have hR' := hR
  rcases hR.2 with ⟨ad, c, rfl, rfl, hn⟩ | ⟨b, off, cap, rfl, h2, hl, h3⟩
  · obtain rfl : ys = [] := List.eq_nil_of_length_eq_zero (by simpa using hR.1)
    cases ad with
    | none =>
      have := hn rfl
      subst this
      refine wpList_append_own_none rfl x y t rfl base e i k ht hi v m xs (hF.ov hx) hO (hF.ov hy) ?_
      exact h v w _ (by simpa using hO) ⟨rfl, rfl, rfl, Nat.le_refl _, fun _ _ _ => rfl⟩ (fun k hk => .inl hk) (hF.put d hd v)
    | some ad => exact key ad 0 c rfl rfl (fun j u hj => by simp at hj)
  · refine key ⟨b, off, none⟩ p cap rfl rfl fun j u hj => ?_
    rw [addr_addn]
    exact h3 j u hj

/-- A slice literal. -/
theorem s_litG {ds : List Deferred} {len : Nat} {parts : List (Nat × Operand)} (vs : List Value) (hE : Elem P t e k kb) (hF : Fs n a l (ds := ds)) (hd : d < n) (hx : parts.map (fun p => (p.1, ov l p.2)) = (vs.zipIdx 0).map (fun p => (p.2, some p.1))) (hv : ∀ v ∈ vs, v.cells.size = k) (hl : len = vs.length) (hp : 0 < len) (hm : len * k ≤ 2 ^ 24)
    (h : ∀ w' b a', b = w.heap.size → Blk w' b e (vs.flatMap fun v => v.cells.toList) → Below w.heap.size w w' → w'.heap.size = w.heap.size + 1 → Fs n a' ((d, .slice (some ⟨b, 0, none⟩) len len) :: l) (ds := ds) → wpList P ops Q rest a' w') :
    wpList P ops Q (⟨some d, .buildSlice t len parts.toArray, ty, pos, af, none⟩ :: rest) a w := by
  obtain ⟨i, z, hi, hz, hs, hby, hzc⟩ := hE.info
  have hk := hE.pos
  have hpk : 0 < len * k := Nat.mul_pos hp hk
  refine s_new (w' := w.alloc (.cells (vs.flatMap fun v => v.cells.toList).toArray e)) (v := .slice (some ⟨w.heap.size, 0, none⟩) len len) hF (fun o ho => ?_) hd fun a' hF' => h _ _ a' rfl (blk_alloc e _) (below_alloc _) (size_alloc _) hF'
  have hv' : (parts.toArray.map fun (i, x) => (i, a.eval x)).toList = (vs.zipIdx 0).map fun x => (x.2, x.1) := by
    have := ov_parts hF parts ((vs.zipIdx 0).map fun x => (x.2, x.1)) (by rw [hx, List.map_map]; rfl)
    rw [← this]
    simp
  have := run_buildSlice (P := P) w t e len (parts.toArray.map fun (i, x) => (i, a.eval x)) (vs.flatMap fun v => v.cells.toList).toArray i z hE.under hi hz (by rw [hs]; omega) (by rw [hs]; omega) (by
    rw [hv', hs]
    exact Great.fill_whole hk vs _ hv (by rw [← hl]; simp))
  unfold execOp
  simp only [ho, Sem.run_bind, this, Result.andThen_ok]
  rfl
end
end Go.Proofs.Ytaclncmkdpjnlaa
