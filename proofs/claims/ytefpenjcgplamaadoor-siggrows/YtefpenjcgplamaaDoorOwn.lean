/- Bytes that the call owns and appends to; bytes and rows that came in. -/
import Derived.Test.YtefpenjcgplamaaDoorSums
import Derived.Laws.AppendOwn
import Derived.Laws.AppendOwnNone
namespace Go.Proofs.YtefpenjcgplamaaDoor
open Go.RowKit Go.Shelf
set_option linter.unusedVariables false
set_option linter.unusedSimpArgs false

/-- The slice v is the call's own (from block base on), and holds xs. -/
def Own (base : Nat) (w : World) (v : Value) (xs : List UInt8) : Prop := w.ownsRow base 5 1 v xs.length (xs.map encB)
theorem Own.nil (base : Nat) (w : World) : Own base w (.slice none 0 0) [] := ⟨rfl, .inl ⟨rfl, rfl⟩⟩
theorem Own.form {base : Nat} {w : World} {v : Value} {xs : List UInt8} (h : Own base w v xs) : ∃ a c, v = .slice a xs.length c := by
  rcases h.2 with ⟨rfl, h0⟩ | ⟨g, cap, cur, rfl, _⟩
  · exact ⟨none, 0, by rw [h0]⟩
  · exact ⟨_, cap, rfl⟩
theorem Own.rb {base : Nat} {w : World} {v : Value} {xs : List UInt8} (h : Own base w v xs) {ex : Nat} (hx : v.ownBlock ≠ some ex) : RB ex w v xs := by
  have hh := h
  rcases h.2 with ⟨rfl, h0⟩ | ⟨g, cap, cur, rfl, hg, hb, h1, h2, h3, h4⟩
  · exact .inl ⟨_, _, rfl, List.eq_nil_of_length_eq_zero h0, fun _ => rfl⟩
  · refine .inr ⟨g, 0, cap, rfl, h1, fun e => hx (by rw [e]; rfl), (Array.getElem?_eq_some_iff.1 hb).1, fun j u hj => ?_⟩
    have := World.ownsRow.cells (w := w) hh (g := g) rfl j (encB u) (by simp [hj])
    rwa [addr_addn] at this
theorem Own.block_lt {base : Nat} {w : World} {v : Value} {xs : List UInt8} (h : Own base w v xs) {k : Nat} (hk : v.ownBlock = some k) : base ≤ k ∧ k < w.heap.size := by
  rcases h.2 with ⟨rfl, h0⟩ | ⟨g, cap, cur, rfl, hg, hb, _⟩
  · cases hk
  · cases hk
    exact ⟨hg, (Array.getElem?_eq_some_iff.1 hb).1⟩
theorem Own.ne {base : Nat} {w : World} {v : Value} {xs : List UInt8} (h : Own base w v xs) {b t : Nat} {cs : List Value} (hB : Blk w b t cs) (ht : t ≠ 5) : v.ownBlock ≠ some b := by
  rcases h.2 with ⟨rfl, h0⟩ | ⟨g, cap, cur, rfl, hg, hb, _⟩
  · intro e; cases e
  · intro e
    cases e
    unfold Blk at hB
    rw [hB] at hb
    simp at hb
    exact ht hb.2
theorem Own.keep {base : Nat} {w w' : World} {v : Value} {xs : List UInt8} (h : Own base w v xs) (hk : ∀ k, v.ownBlock = some k → w'.heap[k]? = w.heap[k]?) : Own base w' v xs := by
  refine ⟨h.1, ?_⟩
  rcases h.2 with h0 | ⟨g, cap, cur, rfl, hg, hb, h1⟩
  · exact .inl h0
  · exact .inr ⟨g, cap, cur, rfl, hg, (hk g rfl).trans hb, h1⟩
theorem Own.below {base : Nat} {w w' : World} {v : Value} {xs : List UInt8} (h : Own base w v xs) (hB : Below w.heap.size w w') : Own base w' v xs := h.keep fun k hk => hB.block k (h.block_lt hk).2
theorem Own.kp {base b : Nat} {w w' : World} {v : Value} {xs : List UInt8} (h : Own base w v xs) (hk : Kp b w w') (hb : v.ownBlock ≠ some b) : Own base w' v xs := h.keep fun k hv => hk.block k (h.block_lt hv).2 (fun e => hb (by rw [hv, e]))

/-- What an append leaves. -/
structure Gr (v : Value) (w w' : World) : Prop where
  g : w.grownBy w' v.ownBlock
theorem Gr.blk {v : Value} {w w' : World} (h : Gr v w w') {b t : Nat} {cs : List Value} (hB : Blk w b t cs) (hb : v.ownBlock ≠ some b) : Blk w' b t cs := (h.g.block b hB.lt (fun e => hb e.symm)).trans hB
theorem Gr.below {v : Value} {w w' : World} {B : Nat} (h : Gr v w w') (hB : B ≤ w.heap.size) (hv : ∀ k, v.ownBlock = some k → B ≤ k) : Below B w w' := (Below.refl B w).grown h.g hB hv
theorem Gr.hr {v : Value} {w w' : World} (h : Gr v w w') {b : Nat} {m : List UInt8} (hH : HR w b m) (hb : v.ownBlock ≠ some b) : HR w' b m := by
  obtain ⟨ws, ls, h1, h2⟩ := hH
  exact ⟨ws, ls, h.blk h1 hb, h2⟩
theorem Own.neH {base : Nat} {w : World} {v : Value} {xs m : List UInt8} {b : Nat} (h : Own base w v xs) (hH : HR w b m) : v.ownBlock ≠ some b := by
  obtain ⟨ws, ls, h1, h2⟩ := hH
  exact h.ne h1 (by decide)

/-- Behind an append the slice lies where it lay, or in a new block. -/
theorem append_where {P : Program} (w : World) (base : Nat) (t ty e : TypeId) (i : TypeInfo) (z : Value) (ht : P.underlying t = some (.slice e)) (hi : P.info? e = some i) (hz : i.zero = some z)
    (v : Value) (n : Nat) (xs : List Value) (hown : w.ownsRow base e i.size v n xs)
    (a : Addr) (m c : Nat) (news : List Value) (hl : news.length = m * i.size) (hnews : ∀ j u, news[j]? = some u → w.cell? (a.add j) = some u) (h1 : ∀ u ∈ news, u.oneCell' = true)
    (h63 : n + m ≤ maxLen) (hbytes : (n + m) * i.bytes ≤ 140737488355328) {v' : Value} {w' : World} (hr : (Builtin.append_ #[t, t] ty #[v, .slice (some a) m c]).run P w = .ok v' w') (hnil : v' = .slice none 0 0 ↔ v = .slice none 0 0 ∧ m = 0) :
    ∀ k, v'.ownBlock = some k → v.ownBlock = some k ∨ w.heap.size ≤ k := by
  have hsmall : n + m ≤ 9223372036854775807 := by simp only [maxLen] at h63; omega
  rcases hown.2 with ⟨rfl, rfl⟩ | ⟨g, cap, cur, rfl, _⟩
  · rcases Nat.eq_zero_or_pos m with hm | hm
    · have := hnil.2 ⟨rfl, hm⟩
      subst this
      intro k hk
      cases hk
    · have h2 := run_append_nil (P := P) w t ty e i z ht hi hz a m c news hl hnews hm (by omega) (by simp only [Nat.zero_add] at hbytes; omega)
      rw [hr] at h2
      simp only [Result.ok.injEq] at h2
      intro k hk
      rw [h2.1] at hk
      cases hk
      exact .inr (Nat.le_refl _)
  · by_cases hroom : n + m ≤ cap
    · obtain ⟨w2, h2, _⟩ := run_append_fits (P := P) w base t ty e i i.size ht hi rfl g n cap xs hown a m c news hl hnews h1 hroom
      rw [hr] at h2
      simp only [Result.ok.injEq] at h2
      intro k hk
      rw [h2.1] at hk
      exact .inl hk
    · have h2 := run_append_grow (P := P) w t ty e i z ht hi hz ⟨g, 0, none⟩ n cap xs hown.1 (hown.cells (g := g) rfl) a m c news hl hnews (by omega) (by omega) (growslice_fits (by omega) hbytes)
      rw [hr] at h2
      simp only [Result.ok.injEq] at h2
      intro k hk
      rw [h2.1] at hk
      cases hk
      exact .inr (Nat.le_refl _)

theorem s_append {n d : Nat} {l : List (Nat × Value)} {w : World} {a : Act} {ops : Array Oper} {Q : Exit → Act → World → Prop} {rest : List Oper} {ty : TypeId} {pos : String} {af : Array Edge} {x y : Operand} {v u : Value} {base ex : Nat} {xs ys : List UInt8}
    (hF : Fs n a l) (hd : d < n) (hx : ov l x = some v) (hy : ov l y = some u) (hO : Own base w v xs) (hR : RB ex w u ys) (hlen : xs.length + ys.length ≤ 140737488355328) (hb : base ≤ w.heap.size)
    (h : ∀ v' w' a', Own base w' v' (xs ++ ys) → Gr v w w' → (∀ k, v'.ownBlock = some k → v.ownBlock = some k ∨ w.heap.size ≤ k) → Fs n a' ((d, v') :: l) → wpList Tryd.prog ops Q rest a' w') :
    wpList Tryd.prog ops Q (⟨some d, .call { callee := .builtin .append, args := #[x, y], argTypes := #[22, 22] }, ty, pos, af, none⟩ :: rest) a w := by
  obtain ⟨i5, hi, hz, hs, hby⟩ := info5
  have hone : ∀ u ∈ ys.map encB, u.oneCell' = true := oneB ys
  have key : ∀ (ad : Addr) (m c : Nat), u = .slice (some ad) m c → m = ys.length → (∀ j u, (ys.map encB)[j]? = some u → w.cell? (ad.add j) = some u) → wpList Tryd.prog ops Q (⟨some d, .call { callee := .builtin .append, args := #[x, y], argTypes := #[22, 22] }, ty, pos, af, none⟩ :: rest) a w := by
    rintro ad m c rfl rfl hsrc
    have hO' : w.ownsRow base 5 i5.size v xs.length (xs.map encB) := by rw [hs]; exact hO
    obtain ⟨v', w', hr, h2, h3, h4⟩ := run_append_own (P := Tryd.prog) w base 22 ty 5 i5 (encB 0) 1 1 Tryd.underlying22 hi hz hs hby rfl (by decide) v xs.length (xs.map encB) hO ad ys.length c (ys.map encB) (by simp) hsrc hone (by unfold maxLen; omega) (by omega) hb
    have hw := append_where w base 22 ty 5 i5 (encB 0) Tryd.underlying22 hi hz v xs.length (xs.map encB) hO' ad ys.length c (ys.map encB) (by rw [hs]; simp) hsrc hone (by unfold maxLen; omega) (by rw [hby]; omega) hr h4
    unfold wpList
    rw [if_pos (wanted_none _ rfl _)]
    refine .inl ?_
    unfold Oper.wp
    rw [show (execOp a.eval ⟨some d, .call { callee := .builtin .append, args := #[x, y], argTypes := #[22, 22] }, ty, pos, af, none⟩).run Tryd.prog w = .ok (.value v') w' from by simp [execOp, resolve, invoke, builtin, hF.ov hx, hF.ov hy, hr]]
    refine h v' w' _ ?_ ⟨h3⟩ hw (hF.put d hd v')
    simpa [Own] using h2
  rcases hR with ⟨ad, c, rfl, rfl, hn⟩ | ⟨b, off, cap, rfl, h1, hx', hl, h2⟩
  · cases ad with
    | none =>
      have := hn rfl
      subst this
      refine wpList_append_own_none rfl x y 22 rfl base 5 i5 1 Tryd.underlying22 hi v xs.length (xs.map encB) (hF.ov hx) hO (hF.ov hy) ?_
      exact h v w _ (by simpa using hO) ⟨⟨rfl, rfl, rfl, Nat.le_refl _, fun _ _ _ => rfl⟩⟩ (fun k hk => .inl hk) (hF.put d hd v)
    | some ad => exact key ad 0 c rfl rfl (fun j u hj => by simp at hj)
  · refine key ⟨b, off, none⟩ ys.length cap rfl rfl fun j u hj => ?_
    rw [addr_addn]
    simp only [List.getElem?_map, Option.map_eq_some_iff] at hj
    obtain ⟨c, hc, rfl⟩ := hj
    exact h2 j c hc

/-- A literal of bytes that stood as a text. -/
theorem m_mark {w : World} {b c : Nat} {bs : List UInt8} (hB : Blk w b 5 (bs.map encB)) (n : Nat) : ∃ w', (convert 22 22 (.slice (some ⟨b, 0, none⟩) n c)).run Tryd.prog w = .ok (.slice (some ⟨b, 0, none⟩) n c) w' ∧ Only b w w' ∧ ∀ j, w'.cell? ⟨b, j, none⟩ = w.cell? ⟨b, j, none⟩ := by
  have hsh : w.shape? b = some (5, bs.length) := by
    unfold Blk at hB
    simp [World.shape?, hB]
  refine ⟨w.freeze ⟨b, bs.length, none⟩ 1, ?_, ⟨rfl, rfl, rfl, by simp [World.freeze], fun k hk => ?_⟩, fun j => ?_⟩
  · simp [convert, run_underlying Tryd.underlying22, run_underlying Tryd.underlying5, markStringish, hsh]
  · simp only [World.freeze]
    rw [if_neg (by decide)]
    simp only [Array.getElem?_modify]
    rw [if_neg (by omega)]
  · unfold Blk at hB
    simp [World.freeze, World.cell?, Array.getElem?_modify, hB]
theorem s_mark {n d : Nat} {l : List (Nat × Value)} {w : World} {a : Act} {ops : Array Oper} {Q : Exit → Act → World → Prop} {rest : List Oper} {ty : TypeId} {pos : String} {af : Array Edge} {x : Operand} {b : Nat} {bs : List UInt8} (ex : Nat)
    (hF : Fs n a l) (hd : d < n) (hx : ov l x = some (.slice (some ⟨b, 0, none⟩) bs.length bs.length)) (hB : Blk w b 5 (bs.map encB)) (he : b ≠ ex)
    (h : ∀ w' a', RB ex w' (.slice (some ⟨b, 0, none⟩) bs.length bs.length) bs → Only b w w' → Fs n a' ((d, .slice (some ⟨b, 0, none⟩) bs.length bs.length) :: l) → wpList Tryd.prog ops Q rest a' w') :
    wpList Tryd.prog ops Q (⟨some d, .convert 22 22 x, ty, pos, af, none⟩ :: rest) a w := by
  obtain ⟨w', hr, ho, hc⟩ := m_mark hB (c := bs.length) bs.length
  refine s_new hF (fun o ho' => by simp [execOp, ho', hF.ov hx, hr]) hd fun a' hF' => h w' a' ?_ ho hF'
  refine .inr ⟨b, 0, bs.length, rfl, Nat.le_refl _, he, by rw [ho.size]; exact hB.lt, fun j u hj => ?_⟩
  rw [Nat.zero_add, hc]
  exact hB.cell (by rw [List.getElem?_map, hj]; rfl)

theorem take_snoc {α : Type} (l : List α) (i : Nat) (z : α) (h : i < l.length) : l.take (i + 1) = l.take i ++ [l.getD i z] := by
  rw [List.take_add_one, List.getElem?_eq_getElem h, List.getD_eq_getElem?_getD, List.getElem?_eq_getElem h]
  rfl
theorem ext_take (l : List UInt8) (k : Nat) : (⟨l.toArray⟩ : ByteArray).extract 0 k = ⟨(l.take k).toArray⟩ := by
  apply ByteArray.ext
  simp [ByteArray.data_extract]
theorem zero5 : ((Tryd.prog.info? 5).bind (·.zero)).isSome = true := by kernel_rfl
theorem under24 : Tryd.prog.underlying 24 = some (.array 32 5) := by kernel_rfl
theorem s_tup1 {P : Program} {n d : Nat} {l : List (Nat × Value)} {w : World} {a : Act} {ops : Array Oper} {Q : Exit → Act → World → Prop} {rest : List Oper} {ty : TypeId} {pos : String} {af : Array Edge} {f : FuncId} {ts : Array TypeId} {x : Operand} {u1 v : Value} (hF : Fs n a l) (hent : Enters P f) (hx : ov l x = some u1) (hd : d < n) (hC : Calls P f #[u1] w fun e w' => e = .returned v ∧ w' = w)
    (h : ∀ a', Fs n a' ((d, v) :: l) → wpList P ops Q rest a' w) : wpList P ops Q (⟨some d, .call { callee := .value (.func f), args := #[x], argTypes := ts }, ty, pos, af, none⟩ :: rest) a w :=
  s_call1 (R := fun u w' => u = v ∧ w' = w) hF hent hx hd (hC.mono fun e w' he => ⟨v, he.1, rfl, he.2⟩) (by rintro _ _ a' ⟨rfl, rfl⟩ hF'; exact h a' hF')
end Go.Proofs.YtefpenjcgplamaaDoor
