/- Levels as trees: the order of forms, the values. No program is named here. -/
import Derived.Test.YtnnkggfhhkhnmaaLev12
namespace Go.Proofs.Ytnnkggfhhkhnmaa
set_option linter.unusedVariables false
set_option linter.unusedSimpArgs false

/-! ### The greater of two, up to its form -/
theorem eqF.refl (a : SL) : eqF a a := ⟨rfl, rfl⟩
theorem eqF.symm {a b : SL} (h : eqF a b) : eqF b a := ⟨h.1.symm, h.2.symm⟩
theorem eqF.trans {a b c : SL} (h : eqF a b) (h' : eqF b c) : eqF a c := ⟨h.1.trans h'.1, h.2.trans h'.2⟩
theorem eqF.mx {a b c d : SL} (h : eqF a c) (h' : eqF b d) : eqF (.mx a b) (.mx c d) := nf_join h h'
theorem mx_comm (a b : SL) : eqF (.mx a b) (.mx b a) := nf_of (fun j => by simp only [kf]; omega) (by simp only [cf]; omega)
theorem mx_idem (a : SL) : eqF (.mx a a) a := nf_of (fun j => by simp only [kf]; omega) (by simp only [cf]; omega)
theorem mx_assoc (a b c : SL) : eqF (.mx a (.mx b c)) (.mx (.mx a b) c) := nf_of (fun j => by simp only [kf]; omega) (by simp only [cf]; omega)
theorem le_trans' {a b c : SL} (h : leS a b) (h' : leS b c) : leS a c :=
  ((eqF.refl a).mx h'.symm).trans ((mx_assoc a b c).trans ((h.mx (eqF.refl c)).trans h'))
theorem le_left (a b : SL) : leS a (.mx a b) := (mx_assoc a a b).trans ((mx_idem a).mx (eqF.refl b))
theorem le_right (a b : SL) : leS b (.mx a b) := ((eqF.refl b).mx (mx_comm a b)).trans ((le_left b a).trans (mx_comm b a))
theorem le_lub {a b c : SL} (h : leS a c) (h' : leS b c) : leS (.mx a b) c := (mx_assoc a b c).symm.trans (((eqF.refl a).mx h').trans h)
theorem eq_iff {a b : SL} : eqF a b ↔ leS a b ∧ leS b a := by
  constructor
  · intro h
    exact ⟨(h.mx (eqF.refl b)).trans (mx_idem b), (h.symm.mx (eqF.refl a)).trans (mx_idem a)⟩
  · rintro ⟨h1, h2⟩
    exact h2.symm.trans ((mx_comm b a).trans h1)

/-! ### A form's level has that form -/
def kfs : List SL → Nat → Int
  | [], _ => -1
  | q :: qs, j => max (kf q 0 j) (kfs qs j)
def cfs : List SL → Int
  | [] => -1
  | q :: qs => max (cf q 0) (cfs qs)
theorem kf_fold : ∀ (ps : List SL) (p : SL) (j : Nat), kf (ps.foldl SL.mx p) 0 j = max (kf p 0 j) (kfs ps j)
  | [], p, j => by have := kf_lo p 0 j (by decide); simp only [List.foldl_nil, kfs]; omega
  | q :: ps, p, j => by
    rw [List.foldl_cons, kf_fold ps (.mx p q) j]
    simp only [kf, kfs]
    omega
theorem cf_fold : ∀ (ps : List SL) (p : SL), cf (ps.foldl SL.mx p) 0 = max (cf p 0) (cfs ps)
  | [], p => by have := cf_lo p 0 (by decide); simp only [List.foldl_nil, cfs]; omega
  | q :: ps, p => by
    rw [List.foldl_cons, cf_fold ps (.mx p q)]
    simp only [cf, cfs]
    omega
theorem kfs_lo : ∀ (ps : List SL) (j : Nat), -1 ≤ kfs ps j
  | [], _ => by simp [kfs]
  | q :: ps, j => by have := kfs_lo ps j; simp only [kfs]; omega
theorem cfs_lo : ∀ (ps : List SL), -1 ≤ cfs ps
  | [] => by simp [cfs]
  | q :: ps => by have := cfs_lo ps; simp only [cfs]; omega
theorem kfs_app (xs ys : List SL) (j : Nat) : kfs (xs ++ ys) j = max (kfs xs j) (kfs ys j) := by
  induction xs with
  | nil => have := kfs_lo ys j; simp only [List.nil_append, kfs]; omega
  | cons x xs ih => simp only [List.cons_append, kfs, ih]; omega
theorem cfs_app (xs ys : List SL) : cfs (xs ++ ys) = max (cfs xs) (cfs ys) := by
  induction xs with
  | nil => have := cfs_lo ys; simp only [List.nil_append, cfs]; omega
  | cons x xs ih => simp only [List.cons_append, cfs, ih]; omega
theorem kfs_part (i : Nat) (k : Int) (hk : -1 ≤ k) (hk1 : k ≤ 1099511627776) (j : Nat) : kfs (part1 i k) j = if i = j then k else -1 := by
  unfold part1
  by_cases h1 : k < 0
  · rw [if_pos h1]
    simp only [kfs]
    split <;> omega
  · rw [if_neg h1]
    by_cases h2 : k = 0
    · rw [if_pos h2, h2]
      simp only [kfs, kf]
      split <;> omega
    · rw [if_neg h2]
      have h3 : cut (0 + ((k.toNat : Nat) : Int)) = k := by unfold cut; omega
      simp only [kfs, kf, h3]
      split <;> omega
theorem cfs_part (i : Nat) (k : Int) : cfs (part1 i k) = -1 := by
  unfold part1
  split
  · rfl
  · split <;> simp [cfs, cf]
theorem kfs_pts {c : Int} {ks : List Int} (hLo : Lo ks) (hHi : ∀ j, gt ks j ≤ 1099511627776) : ∀ (i j : Nat), kfs (pts c ks i) j = if j < i then gt ks j else -1
  | 0, j => by
    rw [if_neg (show ¬ j < 0 by omega), pts]
    split <;> simp [kfs, kf]
  | i + 1, j => by
    rw [pts, kfs_app, kfs_pts hLo hHi i j, kfs_part i (gt ks i) (hLo.gt i) (hHi i) j]
    have := hLo.gt j
    by_cases h1 : j < i
    · rw [if_pos h1, if_neg (by omega), if_pos (by omega)]; omega
    · rw [if_neg h1]
      by_cases h2 : i = j
      · subst h2; rw [if_pos rfl, if_pos (by omega)]; omega
      · rw [if_neg h2, if_neg (by omega)]; rfl
theorem cfs_pts {c : Int} {ks : List Int} (hc : 0 ≤ c) (hc1 : c ≤ 1099511627776) : ∀ (i : Nat), cfs (pts c ks i) = if c ≠ 0 ∨ ks = [] then c else -1
  | 0 => by
    rw [pts]
    split
    · have h3 : cut (0 + ((c.toNat : Nat) : Int)) = c := by unfold cut; omega
      simp only [cfs, cf, h3]
      omega
    · rfl
  | i + 1 => by
    rw [pts, cfs_app, cfs_pts hc hc1 i, cfs_part]
    split <;> omega
theorem nf_levF (s : SL) : eqF (levF (nfC s) (nfK s)) s := by
  have hp := pts_pos (c := nfC s) (nfK_tm s)
  have hk : ∀ j, kf (levF (nfC s) (nfK s)) 0 j = gt (nfK s) j := by
    intro j
    have h1 := kfs_pts (c := nfC s) (nfK_lo s) (nfK_hi s) (nfK s).length j
    unfold levF
    split
    · next e => rw [e] at hp; simp at hp
    · next p ps e =>
      rw [e] at h1
      rw [kf_fold]
      simp only [kfs] at h1
      rw [h1]
      split
      · rfl
      · rw [gt_ge (by omega)]
  have hc : cf (levF (nfC s) (nfK s)) 0 = if nfC s ≠ 0 ∨ nfK s = [] then nfC s else -1 := by
    have h1 := cfs_pts (c := nfC s) (ks := nfK s) (nfC_nn s) (nfC_le s) (nfK s).length
    unfold levF
    split
    · next e => rw [e] at hp; simp at hp
    · next p ps e =>
      rw [e] at h1
      rw [cf_fold]
      exact h1
  have eK : nfK (levF (nfC s) (nfK s)) = nfK s := tm_ext (nfK_tm _) (nfK_tm _) fun j => by rw [gt_nfK, hk]
  have ekm : km (levF (nfC s) (nfK s)) 0 = km s 0 := by rw [← mxl_nfK, ← mxl_nfK, eK]
  refine ⟨?_, eK⟩
  have h1 := nfC_is (levF (nfC s) (nfK s))
  have h2 := nfC_is s
  have h3 := km_nil s
  have h4 := km_lo s 0 (by decide)
  rw [ekm] at h1
  have h5 := nfC_nn s
  by_cases c1 : nfC s ≠ 0 ∨ nfK s = []
  · rw [if_pos c1] at hc
    rw [h3] at c1
    omega
  · rw [if_neg c1] at hc
    have : nfC s = 0 := Classical.byContradiction fun h => c1 (.inl h)
    omega
theorem levF_inj {a b : SL} : levF (nfC a) (nfK a) = levF (nfC b) (nfK b) ↔ eqF a b := by
  constructor
  · intro h
    have h1 := nf_levF a
    rw [h] at h1
    exact h1.symm.trans (nf_levF b)
  · rintro ⟨h1, h2⟩
    rw [h1, h2]

/-! ### Values, where nothing is cut -/
def SL.tot : SL → Int
  | .num n => n
  | .var _ => 0
  | .succ n a => n + a.tot
  | .mx a b => max a.tot b.tot
theorem SL.tot_nn : ∀ (s : SL), 0 ≤ s.tot
  | .num n => by simp only [SL.tot]; omega
  | .var _ => by simp [SL.tot]
  | .succ n a => by have := a.tot_nn; simp only [SL.tot]; omega
  | .mx a b => by have := a.tot_nn; simp only [SL.tot]; omega
theorem kf_tot : ∀ (s : SL) (n : Int) (j : Nat), 0 ≤ n → n + s.tot ≤ 1099511627776 → kf s n j ≤ n + s.tot
  | .num _, n, j, h, _ => by simp only [kf, SL.tot]; omega
  | .var i, n, j, h, _ => by simp only [kf, SL.tot]; split <;> omega
  | .succ m a, n, j, h, h1 => by
    have h2 := a.tot_nn
    simp only [SL.tot] at h1 ⊢
    have e : cut (n + m) = n + m := by unfold cut; omega
    have := kf_tot a (n + m) j (by omega) (by omega)
    simp only [kf, e]
    omega
  | .mx a b, n, j, h, h1 => by
    simp only [SL.tot] at h1 ⊢
    have := kf_tot a n j h (by omega)
    have := kf_tot b n j h (by omega)
    simp only [kf]
    omega
theorem cf_tot : ∀ (s : SL) (n : Int), 0 ≤ n → n + s.tot ≤ 1099511627776 → cf s n ≤ n + s.tot
  | .num _, n, h, _ => by simp only [cf, SL.tot, cut]; omega
  | .var i, n, h, _ => by simp only [cf, SL.tot]; omega
  | .succ m a, n, h, h1 => by
    have h2 := a.tot_nn
    simp only [SL.tot] at h1 ⊢
    have e : cut (n + m) = n + m := by unfold cut; omega
    have := cf_tot a (n + m) (by omega) (by omega)
    simp only [cf, e]
    omega
  | .mx a b, n, h, h1 => by
    simp only [SL.tot] at h1 ⊢
    have := cf_tot a n h (by omega)
    have := cf_tot b n h (by omega)
    simp only [cf]
    omega
section
variable {ρ : Nat → Int} {B : Int}
theorem val_tot (hρ : ∀ j, 0 ≤ ρ j ∧ ρ j ≤ B) : ∀ (s : SL), s.tot + B ≤ 1099511627776 → 0 ≤ val s ρ ∧ val s ρ ≤ s.tot + B
  | .num n, h => by have := hρ 0; simp only [val, SL.tot] at *; omega
  | .var i, h => by have := hρ i; simp only [val, SL.tot] at *; omega
  | .succ n a, h => by
    simp only [SL.tot] at h ⊢
    have := val_tot hρ a (by omega)
    simp only [val, cut]
    omega
  | .mx a b, h => by
    simp only [SL.tot] at h ⊢
    have := val_tot hρ a (by omega)
    have := val_tot hρ b (by omega)
    simp only [val]
    omega
/-- The value is the greatest of what the leaves come to. -/
theorem val_is (hρ : ∀ j, 0 ≤ ρ j ∧ ρ j ≤ B) : ∀ (s : SL) (n : Int), 0 ≤ n → n + s.tot + B ≤ 1099511627776 → cf s n ≤ val s ρ + n ∧ (∀ j, 0 ≤ kf s n j → kf s n j + ρ j ≤ val s ρ + n) ∧ (val s ρ + n = cf s n ∨ ∃ j, 0 ≤ kf s n j ∧ val s ρ + n = kf s n j + ρ j)
  | .num m, n, h, h1 => by
    have hB := hρ 0
    simp only [SL.tot] at h1
    have e : cut (n + m) = n + m := by unfold cut; omega
    simp only [cf, val, kf, e]
    exact ⟨by omega, fun j hj => by omega, .inl (by omega)⟩
  | .var i, n, h, h1 => by
    have hB := hρ i
    refine ⟨by simp only [cf, val]; omega, fun j hj => ?_, .inr ⟨i, by simp [kf, h], by simp [kf, val]; omega⟩⟩
    simp only [kf, val] at hj ⊢
    split at hj
    · next e => subst e; omega
    · omega
  | .succ m a, n, h, h1 => by
    have hB := hρ 0
    have h2 := a.tot_nn
    simp only [SL.tot] at h1
    have e : cut (n + m) = n + m := by unfold cut; omega
    have hv := val_tot hρ a (by omega)
    have e2 : cut (m + val a ρ) = m + val a ρ := by unfold cut; omega
    obtain ⟨g1, g2, g3⟩ := val_is hρ a (n + m) (by omega) (by omega)
    simp only [cf, kf, val, e, e2]
    refine ⟨by omega, fun j hj => by have := g2 j hj; omega, ?_⟩
    rcases g3 with g3 | ⟨j, g3, g4⟩
    · exact .inl (by omega)
    · exact .inr ⟨j, g3, by omega⟩
  | .mx a b, n, h, h1 => by
    simp only [SL.tot] at h1
    obtain ⟨a1, a2, a3⟩ := val_is hρ a n h (by omega)
    obtain ⟨b1, b2, b3⟩ := val_is hρ b n h (by omega)
    simp only [cf, kf, val]
    refine ⟨by omega, fun j hj => ?_, ?_⟩
    · have h3 := a2 j
      have h4 := b2 j
      omega
    · have h5 : ∀ j, 0 ≤ kf a n j → 0 ≤ kf a n j → kf a n j + ρ j ≤ val a ρ + n := fun j hj _ => a2 j hj
      by_cases hc : val b ρ ≤ val a ρ
      · rcases a3 with a3 | ⟨j, a3, a4⟩
        · left; omega
        · right
          refine ⟨j, by omega, ?_⟩
          have := b2 j
          omega
      · rcases b3 with b3 | ⟨j, b3, b4⟩
        · left; omega
        · right
          refine ⟨j, by omega, ?_⟩
          have := a2 j
          omega
/-- The same, by the form. -/
def VF (ρ : Nat → Int) (c : Int) (K : List Int) (v : Int) : Prop := c ≤ v ∧ (∀ j, 0 ≤ gt K j → gt K j + ρ j ≤ v) ∧ (v = c ∨ ∃ j, 0 ≤ gt K j ∧ v = gt K j + ρ j)
theorem VF.one {c : Int} {K : List Int} {v v' : Int} (h : VF ρ c K v) (h' : VF ρ c K v') : v = v' := by
  obtain ⟨a1, a2, a3⟩ := h
  obtain ⟨b1, b2, b3⟩ := h'
  rcases a3 with a3 | ⟨j, a3, a4⟩
  · rcases b3 with b3 | ⟨i, b3, b4⟩
    · omega
    · have := a2 i b3; omega
  · have := b2 j a3
    rcases b3 with b3 | ⟨i, b3, b4⟩
    · omega
    · have := a2 i b3; omega
theorem val_nf (hρ : ∀ j, 0 ≤ ρ j ∧ ρ j ≤ B) {s : SL} (h : s.tot + B ≤ 1099511627776) : VF ρ (nfC s) (nfK s) (val s ρ) := by
  obtain ⟨g1, g2, g3⟩ := val_is hρ s 0 (by decide) (by omega)
  have hv := val_tot hρ s h
  have hi := nfC_is s
  rw [Int.add_zero] at g1 g3
  refine ⟨by omega, fun j hj => by rw [gt_nfK] at hj ⊢; have := g2 j hj; omega, ?_⟩
  rcases hi with ⟨i1, i2⟩ | ⟨i1, i2⟩
  · rcases g3 with g3 | ⟨j, g3, g4⟩
    · have h0 : 0 ≤ km s 0 := by omega
      rcases km_kf s 0 (by decide) with hk | ⟨j, hk⟩
      · omega
      · right
        refine ⟨j, by rw [gt_nfK]; omega, ?_⟩
        have := g2 j (by omega)
        have := hρ j
        rw [gt_nfK]
        omega
    · exact .inr ⟨j, by rw [gt_nfK]; exact g3, by rw [gt_nfK]; omega⟩
  · rcases g3 with g3 | ⟨j, g3, g4⟩
    · exact .inl (by omega)
    · exact .inr ⟨j, by rw [gt_nfK]; exact g3, by rw [gt_nfK]; omega⟩
theorem eqF.val (hρ : ∀ j, 0 ≤ ρ j ∧ ρ j ≤ B) {s t : SL} (h : eqF s t) (hs : s.tot + B ≤ 1099511627776) (ht : t.tot + B ≤ 1099511627776) : val s ρ = val t ρ := by
  have h1 := val_nf hρ hs
  have h2 := val_nf hρ ht
  rw [h.1, h.2] at h1
  exact h1.one h2
theorem leS.val (hρ : ∀ j, 0 ≤ ρ j ∧ ρ j ≤ B) {s t : SL} (h : leS s t) (hs : s.tot + B ≤ 1099511627776) (ht : t.tot + B ≤ 1099511627776) : val s ρ ≤ val t ρ := by
  have := eqF.val hρ h (by simp only [SL.tot]; omega) ht
  simp only [Ytnnkggfhhkhnmaa.val] at this
  omega
end
/-- Where one variable alone is great. -/
def oneAt (i : Nat) (j : Nat) : Int := if j = i then 34359738368 else 0
theorem leS_of {s t : SL} (hs : s.tot ≤ 1073741824) (ht : t.tot ≤ 1073741824) (h0 : val s (fun _ => 0) ≤ val t (fun _ => 0)) (h : ∀ i, i < (nfK s).length → val s (oneAt i) ≤ val t (oneAt i)) : leS s t := by
  have hρ : ∀ i j, 0 ≤ oneAt i j ∧ oneAt i j ≤ 34359738368 := fun i j => by unfold oneAt; split <;> omega
  have hz : ∀ j : Nat, 0 ≤ (fun _ : Nat => (0 : Int)) j ∧ (fun _ : Nat => (0 : Int)) j ≤ 0 := fun j => ⟨by simp, by simp⟩
  have kt : ∀ j, gt (nfK t) j ≤ t.tot := fun j => by rw [gt_nfK]; have := kf_tot t 0 j (by decide) (by omega); omega
  have ct : nfC t ≤ t.tot := by have := nfC_is t; have := cf_tot t 0 (by decide) (by omega); have := t.tot_nn; omega
  have hk : ∀ j, gt (nfK s) j ≤ gt (nfK t) j := by
    intro j
    have l1 := (nfK_lo s).gt j
    have l2 := (nfK_lo t).gt j
    by_cases hg : gt (nfK s) j < 0
    · omega
    · have hj : j < (nfK s).length := Classical.byContradiction fun hj => by rw [gt_ge (by omega)] at hg; omega
      have hle := h j hj
      obtain ⟨a1, a2, a3⟩ := val_nf (hρ j) (s := s) (by omega)
      obtain ⟨b1, b2, b3⟩ := val_nf (hρ j) (s := t) (by omega)
      have := a2 j (by omega)
      have e : oneAt j j = 34359738368 := by simp [oneAt]
      rw [e] at this
      rcases b3 with b3 | ⟨i, b3, b4⟩
      · omega
      · have := kt i
        by_cases hij : i = j
        · subst hij; rw [e] at b4; omega
        · have e2 : oneAt j i = 0 := by simp [oneAt, hij]
          rw [e2] at b4
          omega
  have eK : nfK (.mx s t) = nfK t := tm_ext (nfK_tm _) (nfK_tm _) fun j => by rw [gt_mx]; have := hk j; omega
  refine ⟨?_, eK⟩
  obtain ⟨a1, a2, a3⟩ := val_nf hz (s := s) (by omega)
  obtain ⟨b1, b2, b3⟩ := val_nf hz (s := t) (by omega)
  rw [nfC_mx, eK]
  have h1 := setl_is (max (nfC s) (nfC t)) (nfK t)
  have h2 := nfC_is t
  have h3 := nfC_nn s
  have h4 := km_lo t 0 (by decide)
  rw [mxl_nfK] at h1
  rcases b3 with b3 | ⟨j, b3, b4⟩
  · omega
  · have := mxl_ge (nfK t) j
    rw [mxl_nfK] at this
    simp only [Int.add_zero] at b4
    omega
end Go.Proofs.Ytnnkggfhhkhnmaa
