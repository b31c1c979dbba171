/- What LevelPuts wants of levels: a level with others put in, by values. -/
import Derived.Test.YtnnkggfhhkhnmaaLev13
namespace Go.Proofs.Ytnnkggfhhkhnmaa
open Go.RowKit Go.Shelf
set_option linter.unusedVariables false
set_option linter.unusedSimpArgs false
theorem tau_is {w0 : World} {xs : List C3} {ls : List Lv} (hl : ∀ (i : Nat) x l, xs[i]? = some x → ls[i]? = some l → RL w0 x l) : ∃ τ : Nat → SL, (∀ (i : Nat) x l, xs[i]? = some x → ls[i]? = some l → sndL l → RS w0 (τ i) x ∧ (τ i).good) ∧ ∀ i, xs.length ≤ i → τ i = .var i := by
  classical
  refine ⟨fun i => if h : ∃ s x, xs[i]? = some x ∧ RS w0 s x ∧ s.good then h.choose else .var i, fun i x l hx hll hs => ?_, fun i hi => ?_⟩
  · obtain ⟨s, h1, h2⟩ := sound_sl (hl i x l hx hll) hs
    have h : ∃ s x, xs[i]? = some x ∧ RS w0 s x ∧ s.good := ⟨s, x, hx, h1, h2⟩
    simp only [dif_pos h]
    obtain ⟨y, h3, h4, h5⟩ := h.choose_spec
    rw [hx] at h3
    cases h3
    exact ⟨h4, h5⟩
  · have h : ¬ ∃ s x, xs[i]? = some x ∧ RS w0 s x ∧ s.good := by
      rintro ⟨s, x, h3, _⟩
      have := (List.getElem?_eq_some_iff.1 h3).1
      omega
    simp only [dif_neg h]
theorem lit_deep : ∀ (s : SL), s.lit → s.tot ≤ 1048576 * (s.dep : Int)
  | .num n, h => by simp only [SL.lit, SL.tot, SL.dep] at *; omega
  | .var _, _ => by simp only [SL.tot, SL.dep]; omega
  | .succ n a, h => by have := lit_deep a h.2; have := h.1; simp only [SL.tot, SL.dep]; omega
  | .mx a b, h => by have := lit_deep a h.1; have := lit_deep b h.2; simp only [SL.tot, SL.dep]; omega
theorem lit_total {s : SL} (h : s.lit) (hg : s.good) : s.tot ≤ 268435456 := by
  have := lit_deep s h
  have := hg.2.1
  omega
theorem instT_vf {c : Int} {K : List Int} {τ : Nat → SL} {ρ : Nat → Int} (hc : 0 ≤ c) (hlo : Lo K) (hb : ∀ j, 0 ≤ gt K j → gt K j + val (τ j) ρ ≤ 1099511627776) :
    ∀ n, c ≤ val (instT c K τ n) ρ ∧ (∀ j, j < n → 0 ≤ gt K j → gt K j + val (τ j) ρ ≤ val (instT c K τ n) ρ) ∧ (val (instT c K τ n) ρ = c ∨ ∃ j, j < n ∧ 0 ≤ gt K j ∧ val (instT c K τ n) ρ = gt K j + val (τ j) ρ)
  | 0 => by
    simp only [instT, val]
    exact ⟨by omega, fun j hj => by omega, .inl (by omega)⟩
  | n + 1 => by
    obtain ⟨h1, h2, h3⟩ := instT_vf hc hlo hb n
    have hg := hlo.gt n
    rw [instT]
    split
    · next e =>
      refine ⟨h1, fun j hj h0 => h2 j (Nat.lt_of_le_of_ne (by omega) fun e' => by subst e'; omega) h0, ?_⟩
      rcases h3 with h3 | ⟨j, h3, h4⟩
      · exact .inl h3
      · exact .inr ⟨j, by omega, h4⟩
    · next e =>
      have hb' := hb n (by omega)
      have e1 : val (.mx (instT c K τ n) (.succ (gt K n).toNat (τ n))) ρ = max (val (instT c K τ n) ρ) (gt K n + val (τ n) ρ) := by
        simp only [val, cut]
        omega
      rw [e1]
      refine ⟨by omega, fun j hj h0 => ?_, ?_⟩
      · by_cases e' : j = n
        · subst e'; omega
        · have := h2 j (by omega) h0; omega
      · by_cases hm : val (instT c K τ n) ρ ≤ gt K n + val (τ n) ρ
        · exact .inr ⟨n, by omega, by omega, by omega⟩
        · rcases h3 with h3 | ⟨j, h3, h4, h5⟩
          · exact .inl (by omega)
          · exact .inr ⟨j, by omega, h4, by omega⟩
theorem instT_tot {c B : Int} {K : List Int} {τ : Nat → SL} (hc : 0 ≤ c) (hcB : c ≤ B) (hlo : Lo K) (hb : ∀ j, 0 ≤ gt K j → gt K j + (τ j).tot ≤ B) : ∀ n, (instT c K τ n).tot ≤ B
  | 0 => by simp only [instT, SL.tot]; omega
  | n + 1 => by
    have ih := instT_tot hc hcB hlo hb n
    have hg := hlo.gt n
    rw [instT]
    split
    · exact ih
    · next e =>
      have := hb n (by omega)
      simp only [SL.tot]
      omega
theorem foldl_tot {B : Int} : ∀ (ps : List SL) (p : SL), p.tot ≤ B → (∀ q ∈ ps, q.tot ≤ B) → (ps.foldl SL.mx p).tot ≤ B
  | [], p, h, _ => h
  | q :: ps, p, h, h2 => by
    have h3 := h2 q (by simp)
    exact foldl_tot ps (.mx p q) (by simp only [SL.tot]; omega) fun r hr => h2 r (by simp [hr])
theorem pts_tot {c B : Int} {ks : List Int} (h0 : 0 ≤ B) (hc : c ≤ B) (hk : ∀ j, gt ks j ≤ B) : ∀ n, ∀ q ∈ pts c ks n, q.tot ≤ B
  | 0, q, h => by
    rw [pts] at h
    split at h
    · simp at h; subst h; simp only [SL.tot]; omega
    · simp at h
  | n + 1, q, h => by
    rw [pts, List.mem_append] at h
    rcases h with h | h
    · exact pts_tot h0 hc hk n q h
    · have := hk n
      unfold part1 at h
      split at h
      · simp at h
      · split at h
        · simp at h; subst h; simp only [SL.tot]; omega
        · simp at h; subst h; simp only [SL.tot]; omega
theorem levF_tot {c B : Int} {ks : List Int} (h0 : 0 ≤ B) (hc : c ≤ B) (hk : ∀ j, gt ks j ≤ B) : (levF c ks).tot ≤ B := by
  have h := pts_tot h0 hc hk ks.length
  unfold levF
  split
  · simp only [SL.tot]; omega
  · next p ps e =>
    rw [e] at h
    exact foldl_tot ps p (h p (by simp)) fun q hq => h q (by simp [hq])
theorem nf_tot {s : SL} (h : s.tot ≤ 1073741824) : nfC s ≤ s.tot ∧ ∀ j, gt (nfK s) j ≤ s.tot :=
  ⟨by have := nfC_is s; have := cf_tot s 0 (by decide) (by omega); have := s.tot_nn; omega, fun j => by rw [gt_nfK]; have := kf_tot s 0 j (by decide) (by omega); omega⟩
theorem levF_val {s : SL} {ρ : Nat → Int} (hρ : ∀ j, 0 ≤ ρ j ∧ ρ j ≤ 34359738368) (h : s.tot ≤ 1073741824) : val (levF (nfC s) (nfK s)) ρ = val s ρ := by
  have h1 := nf_tot h
  have h2 := s.tot_nn
  have h3 := levF_tot h2 h1.1 h1.2
  exact eqF.val hρ (nf_levF s) (by omega) (by omega)
def atL (vs : List Int) : List Int := vs.map fun z => max 0 (min z 1073741824)
theorem rho_at (vs : List Int) (j : Nat) : 0 ≤ rho (atL vs) j ∧ rho (atL vs) j ≤ 1073741824 := by
  unfold rho atL
  rw [List.getD_eq_getElem?_getD, List.getElem?_map]
  cases vs[j]? <;> simp <;> omega
def innerL (τ : Nat → SL) (A : List Int) (n : Nat) : List Int := (List.range n).map fun j => val (τ j) (rho A)
theorem puts_val {s : SL} {τ : Nat → SL} {vs : List Int} {n : Nat} (hg : s.good) (hs : s.lit) (hτ : ∀ j, j < n → (τ j).good ∧ (τ j).lit) (hτ2 : ∀ j, n ≤ j → τ j = .var j) :
    val (levF (nfC (instT (nfC s) (nfK s) τ (nfK s).length)) (nfK (instT (nfC s) (nfK s) τ (nfK s).length))) (rho (atL vs)) = val s (rho (innerL τ (atL vs) n ++ (atL vs).drop n)) := by
  have hA := rho_at vs
  have t1 := lit_total hs hg
  obtain ⟨n1, n2⟩ := nf_tot (s := s) (by omega)
  have n3 := nfC_nn s
  have tt : ∀ j, (τ j).tot ≤ 268435456 := fun j => by
    by_cases h : j < n
    · exact lit_total (hτ j h).2 (hτ j h).1
    · rw [hτ2 j (by omega)]; simp only [SL.tot]; omega
  have vt : ∀ j, 0 ≤ val (τ j) (rho (atL vs)) ∧ val (τ j) (rho (atL vs)) ≤ 1342177280 := fun j => by
    have h1 := tt j
    have := val_tot hA (τ j) (by omega)
    omega
  have hT := instT_tot (B := 536870912) (τ := τ) n3 (by omega) (nfK_lo s) (fun j _ => by have := n2 j; have := tt j; omega) (nfK s).length
  rw [levF_val (fun j => by have := hA j; omega) (by omega)]
  have hr : rho (innerL τ (atL vs) n ++ (atL vs).drop n) = fun j => val (τ j) (rho (atL vs)) := by
    funext j
    have h1 := vt j
    by_cases h : j < n
    · unfold rho
      rw [List.getD_eq_getElem?_getD, List.getElem?_append_left (by simp [innerL, h])]
      have e : (innerL τ (atL vs) n)[j]? = some (val (τ j) (rho (atL vs))) := by simp [innerL, h]
      rw [e]
      show max 0 (min (val (τ j) (rho (atL vs))) 1099511627776) = val (τ j) (rho (atL vs))
      omega
    · rw [hτ2 j (by omega)]
      show _ = rho (atL vs) j
      unfold rho
      rw [List.getD_eq_getElem?_getD, List.getD_eq_getElem?_getD, List.getElem?_append_right (by simp [innerL]; omega), List.getElem?_drop]
      have e : n + (j - (innerL τ (atL vs) n).length) = j := by simp [innerL]; omega
      rw [e]
  rw [hr]
  obtain ⟨v1, v2, v3⟩ := instT_vf (ρ := rho (atL vs)) (τ := τ) n3 (nfK_lo s) (fun j _ => by have := n2 j; have := vt j; omega) (nfK s).length
  have a1 : VF (fun j => val (τ j) (rho (atL vs))) (nfC s) (nfK s) (val (instT (nfC s) (nfK s) τ (nfK s).length) (rho (atL vs))) := by
    refine ⟨v1, fun j hj => v2 j (Classical.byContradiction fun h => by rw [gt_ge (by omega)] at hj; omega) hj, ?_⟩
    rcases v3 with v3 | ⟨j, _, h1, h2⟩
    · exact .inl v3
    · exact .inr ⟨j, h1, h2⟩
  exact a1.one (val_nf (B := 1342177280) vt (by omega))
theorem take_at {vs : List Int} {i : Nat} (h : i < vs.length) : (atL vs).take (i + 1) = (atL vs).take i ++ [max 0 (min (vs.getD i 0) 1073741824)] := by
  rw [List.take_add_one, atL, List.getElem?_map, List.getElem?_eq_getElem h, List.getD_eq_getElem?_getD, List.getElem?_eq_getElem h]
  rfl
theorem inner_succ (τ : Nat → SL) (A : List Int) (i : Nat) : innerL τ A (i + 1) = innerL τ A i ++ [val (τ i) (rho A)] := by simp [innerL, List.range_succ]
theorem drop_take {A : List Int} {n j : Nat} (h : n + j < A.length) : (A.drop n).take (j + 1) = (A.drop n).take j ++ [A.getD (n + j) 0] := by
  rw [List.take_add_one, List.getElem?_drop, List.getElem?_eq_getElem h, List.getD_eq_getElem?_getD, List.getElem?_eq_getElem h]
  rfl
theorem own_pick {w : World} {base e k n : Nat} {v : Value} {xs : List Value} (h : w.ownsRow base e k v n xs) (b : Nat) (hb : base ≤ b) (hb' : b < w.heap.size) : ∃ o, (∀ j, v.ownBlock = some j → j = o) ∧ base ≤ o ∧ o < w.heap.size := by
  cases hv : v.ownBlock with
  | none => exact ⟨b, (fun j hj => by cases hj), hb, hb'⟩
  | some q => exact ⟨q, (fun j hj => (Option.some.inj hj).symm), (h.lt q hv).1, (h.lt q hv).2⟩
end Go.Proofs.Ytnnkggfhhkhnmaa
