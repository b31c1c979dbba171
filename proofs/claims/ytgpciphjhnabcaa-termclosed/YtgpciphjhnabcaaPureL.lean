/- Levels as trees: the forms that they come to, by the program's way and by the reference's. No program is named here. -/
import Derived.Test.YtgpciphjhnabcaaSymE
namespace Go.Proofs.Ytgpciphjhnabcaa
set_option linter.unusedVariables false
set_option linter.unusedSimpArgs false

/-- A level of one of the four kinds. -/
inductive SL where
  | num (n : Nat) : SL
  | var (i : Nat) : SL
  | succ (n : Nat) (a : SL) : SL
  | mx (a b : SL) : SL
deriving DecidableEq

def SL.size : SL → Nat
  | .num _ => 1
  | .var _ => 1
  | .succ _ a => a.size + 1
  | .mx a b => a.size + b.size + 1
def SL.dep : SL → Nat
  | .num _ => 1
  | .var _ => 1
  | .succ _ a => a.dep + 1
  | .mx a b => max a.dep b.dep + 1
/-- Its numbers are at most top, its variables below vars. -/
def SL.nums (top vars : Nat) : SL → Prop
  | .num n => n ≤ top
  | .var i => i < vars
  | .succ n a => 1 ≤ n ∧ n ≤ top ∧ a.nums top vars
  | .mx a b => a.nums top vars ∧ b.nums top vars
def SL.good (s : SL) : Prop := s.size ≤ 1000 ∧ s.dep ≤ 256 ∧ s.nums 1099511627776 1001
/-- Its numbers are at most 2^40. -/
def SL.few : SL → Prop
  | .num n => n ≤ 1099511627776
  | .var _ => True
  | .succ n a => n ≤ 1099511627776 ∧ a.few
  | .mx a b => a.few ∧ b.few
theorem SL.nums.few {top vars : Nat} (ht : top ≤ 1099511627776) : ∀ {s : SL}, s.nums top vars → s.few
  | .num n, h => by simp only [SL.nums, SL.few] at *; omega
  | .var _, _ => trivial
  | .succ n a, h => ⟨by have := h.2.1; omega, SL.nums.few ht h.2.2⟩
  | .mx a b, h => ⟨SL.nums.few ht h.1, SL.nums.few ht h.2⟩

def cut (x : Int) : Int := min x 1099511627776
def kf : SL → Int → Nat → Int
  | .num _, _, _ => -1
  | .var i, n, j => if i = j then n else -1
  | .succ m a, n, j => kf a (cut (n + m)) j
  | .mx a b, n, j => max (kf a n j) (kf b n j)
def cf : SL → Int → Int
  | .num m, n => cut (n + m)
  | .var _, _ => -1
  | .succ m a, n => cf a (cut (n + m))
  | .mx a b, n => max (cf a n) (cf b n)
def km : SL → Int → Int
  | .num _, _ => -1
  | .var _, n => n
  | .succ m a, n => km a (cut (n + m))
  | .mx a b, n => max (km a n) (km b n)
def sh (m k : Int) : Int := if k < 0 then -1 else cut (k + m)

theorem cut_nn {x : Int} (h : 0 ≤ x) : 0 ≤ cut x := by unfold cut; omega
theorem cut_le (x : Int) : cut x ≤ 1099511627776 := by unfold cut; omega
theorem kf_lo : ∀ (s : SL) (n : Int) (j : Nat), 0 ≤ n → -1 ≤ kf s n j
  | .num _, _, _, _ => by simp [kf]
  | .var i, n, j, h => by simp only [kf]; split <;> omega
  | .succ m a, n, j, h => kf_lo a _ j (cut_nn (by omega))
  | .mx a b, n, j, h => by have := kf_lo a n j h; simp only [kf]; omega
theorem cf_lo : ∀ (s : SL) (n : Int), 0 ≤ n → -1 ≤ cf s n
  | .num _, _, h => by simp only [cf]; have := @cut_nn; unfold cut; omega
  | .var i, n, h => by simp [cf]
  | .succ m a, n, h => cf_lo a _ (cut_nn (by omega))
  | .mx a b, n, h => by have := cf_lo a n h; simp only [cf]; omega
theorem cf_hi : ∀ (s : SL) (n : Int), n ≤ 1099511627776 → cf s n ≤ 1099511627776
  | .num _, _, h => by simp only [cf]; exact cut_le _
  | .var i, n, h => by simp [cf]
  | .succ m a, n, h => cf_hi a _ (cut_le _)
  | .mx a b, n, h => by have := cf_hi a n h; have := cf_hi b n h; simp only [cf]; omega
theorem kf_km : ∀ (s : SL) (n : Int) (j : Nat), 0 ≤ n → kf s n j ≤ km s n
  | .num _, _, _, _ => by simp [kf, km]
  | .var i, n, j, h => by simp only [kf, km]; split <;> omega
  | .succ m a, n, j, h => kf_km a _ j (cut_nn (by omega))
  | .mx a b, n, j, h => by have := kf_km a n j h; have := kf_km b n j h; simp only [kf, km]; omega
theorem km_kf : ∀ (s : SL) (n : Int), 0 ≤ n → km s n = -1 ∨ ∃ j, kf s n j = km s n
  | .num _, _, _ => .inl rfl
  | .var i, n, h => .inr ⟨i, by simp [kf, km]⟩
  | .succ m a, n, h => km_kf a _ (cut_nn (by omega))
  | .mx a b, n, h => by
    simp only [km, kf]
    have ha := km_kf a n h
    have hb := km_kf b n h
    have la : ∀ j, kf a n j ≤ km a n := fun j => kf_km a n j h
    have lb : ∀ j, kf b n j ≤ km b n := fun j => kf_km b n j h
    have l1 : ∀ j, -1 ≤ kf a n j := fun j => kf_lo a n j h
    have l2 : ∀ j, -1 ≤ kf b n j := fun j => kf_lo b n j h
    by_cases hc : km a n ≤ km b n
    · rcases hb with hb | ⟨j, hb⟩
      · left; rcases ha with ha | ⟨j, ha⟩
        · omega
        · have := l1 j; omega
      · right; exact ⟨j, by have := la j; omega⟩
    · rcases ha with ha | ⟨j, ha⟩
      · rcases hb with hb | ⟨j, hb⟩
        · omega
        · have := l2 j; omega
      · right; exact ⟨j, by have := lb j; omega⟩
/-- Some leaf there is. -/
theorem leaf_nn : ∀ (s : SL) (n : Int), 0 ≤ n → 0 ≤ cf s n ∨ 0 ≤ km s n
  | .num m, n, h => .inl (cut_nn (by omega))
  | .var i, n, h => .inr h
  | .succ m a, n, h => leaf_nn a _ (cut_nn (by omega))
  | .mx a b, n, h => by have := leaf_nn a n h; simp only [cf, km]; omega
/-! ### Lists of numbers by place -/
def gt (L : List Int) (j : Nat) : Int := L.getD j (-1)
/-- The last one is 0 or more. -/
def Tm (L : List Int) : Prop := ∀ h : L ≠ [], 0 ≤ L.getLast h
def Lo (L : List Int) : Prop := ∀ x ∈ L, -1 ≤ x
theorem gt_lt {L : List Int} {j : Nat} (h : j < L.length) : gt L j = L[j] := by simp [gt, h]
theorem gt_ge {L : List Int} {j : Nat} (h : L.length ≤ j) : gt L j = -1 := by simp [gt, List.getElem?_eq_none h]
theorem Lo.gt {L : List Int} (h : Lo L) (j : Nat) : -1 ≤ gt L j := by
  by_cases hj : j < L.length
  · rw [gt_lt hj]; exact h _ (List.getElem_mem hj)
  · rw [gt_ge (by omega)]; omega
theorem Tm.last {L : List Int} (h : Tm L) (hp : 0 < L.length) : 0 ≤ gt L (L.length - 1) := by
  have hne : L ≠ [] := by rintro rfl; simp at hp
  have := h hne
  rw [gt_lt (by omega)]
  rwa [List.getLast_eq_getElem] at this
def padL (L : List Int) (m : Nat) : List Int := L ++ List.replicate (m - L.length) (-1)
def up (L : List Int) (i : Nat) (n : Int) : List Int := (padL L (i + 1)).set i (max (gt L i) n)
theorem pad_len (L : List Int) (m : Nat) : (padL L m).length = max L.length m := by simp [padL]; omega
theorem gt_pad (L : List Int) (m j : Nat) : gt (padL L m) j = gt L j := by
  by_cases hj : j < L.length
  · simp [gt, padL, List.getElem?_append_left hj]
  · rw [gt_ge (L := L) (by omega)]
    simp only [gt, padL]
    rw [List.getD_eq_getElem?_getD, List.getElem?_append_right (by omega), List.getElem?_replicate]
    split <;> rfl
theorem up_len (L : List Int) (i : Nat) (n : Int) : (up L i n).length = max L.length (i + 1) := by simp [up, pad_len]
theorem gt_up (L : List Int) (i : Nat) (n : Int) (j : Nat) : gt (up L i n) j = if i = j then max (gt L i) n else gt L j := by
  have hl := pad_len L (i + 1)
  unfold up
  by_cases hij : i = j
  · subst hij
    rw [if_pos rfl, gt_lt (by rw [List.length_set]; omega)]
    simp
  · rw [if_neg hij, ← gt_pad L (i + 1) j]
    simp only [gt, List.getD_eq_getElem?_getD]
    rw [List.getElem?_set_ne hij]
theorem lo_of {L : List Int} (h : ∀ j, -1 ≤ gt L j) : Lo L := by
  intro x hx
  obtain ⟨j, hj, rfl⟩ := List.getElem_of_mem hx
  have := h j
  rwa [gt_lt hj] at this
theorem lo_up {L : List Int} (h : Lo L) (i : Nat) (n : Int) : Lo (up L i n) := lo_of fun j => by
  rw [gt_up]
  have := h.gt i
  have := h.gt j
  split <;> omega
def rk : SL → Int → List Int → List Int
  | .num _, _, L => L
  | .var i, n, L => up L i n
  | .succ m a, n, L => rk a (cut (n + m)) L
  | .mx a b, n, L => rk b n (rk a n L)
def rc : SL → Int → Int → Int
  | .num m, n, c => max c (cut (n + m))
  | .var _, _, c => c
  | .succ m a, n, c => rc a (cut (n + m)) c
  | .mx a b, n, c => rc b n (rc a n c)
theorem rk_lo : ∀ (s : SL) (n : Int) (L : List Int), Lo L → Lo (rk s n L)
  | .num _, _, L, h => h
  | .var i, n, L, h => lo_up h i n
  | .succ m a, n, L, h => rk_lo a _ L h
  | .mx a b, n, L, h => rk_lo b n _ (rk_lo a n L h)
theorem gt_rk : ∀ (s : SL) (n : Int) (L : List Int) (j : Nat), 0 ≤ n → Lo L → gt (rk s n L) j = max (gt L j) (kf s n j)
  | .num _, n, L, j, hn, h => by have := h.gt j; simp only [rk, kf]; omega
  | .var i, n, L, j, hn, h => by
    have := h.gt j
    simp only [rk, kf, gt_up]
    split
    · next e => rw [e]
    · omega
  | .succ m a, n, L, j, hn, h => gt_rk a _ L j (cut_nn (by omega)) h
  | .mx a b, n, L, j, hn, h => by
    simp only [rk, kf]
    rw [gt_rk b n _ j hn (rk_lo a n L h), gt_rk a n L j hn h]
    omega
theorem rc_eq : ∀ (s : SL) (n c : Int), 0 ≤ n → -1 ≤ c → rc s n c = max c (cf s n)
  | .num m, n, c, hn, hc => rfl
  | .var i, n, c, hn, hc => by simp only [rc, cf]; omega
  | .succ m a, n, c, hn, hc => rc_eq a _ c (cut_nn (by omega)) hc
  | .mx a b, n, c, hn, hc => by
    simp only [rc, cf]
    rw [rc_eq b n _ hn (by rw [rc_eq a n c hn hc]; omega), rc_eq a n c hn hc]
    omega
theorem rk_len : ∀ (s : SL) (n : Int) (L : List Int) (V : Nat), s.nums 1099511627776 V → L.length ≤ V → (rk s n L).length ≤ V
  | .num _, _, L, V, _, h => h
  | .var i, n, L, V, hs, h => by simp only [rk, up_len, SL.nums] at *; omega
  | .succ m a, n, L, V, hs, h => rk_len a _ L V hs.2.2 h
  | .mx a b, n, L, V, hs, h => rk_len b n _ V hs.2 (rk_len a n L V hs.1 h)

/-! ### The greatest of a list; settled forms -/
def mxl (L : List Int) : Int := L.foldl max (-1)
theorem foldl_max (L : List Int) : ∀ (c : Int), (c ≤ L.foldl max c) ∧ (∀ x ∈ L, x ≤ L.foldl max c) ∧ (L.foldl max c = c ∨ L.foldl max c ∈ L) := by
  induction L with
  | nil => intro c; simp
  | cons y L ih =>
    intro c
    obtain ⟨h1, h2, h3⟩ := ih (max c y)
    simp only [List.foldl_cons]
    refine ⟨by omega, fun x hx => ?_, ?_⟩
    · rcases List.mem_cons.1 hx with rfl | hx
      · omega
      · exact h2 x hx
    · rcases h3 with h3 | h3
      · by_cases hc : y ≤ c
        · left; omega
        · right; rw [h3, show max c y = y by omega]; simp
      · right; exact List.mem_cons_of_mem _ h3
theorem mxl_ge (L : List Int) (j : Nat) : gt L j ≤ mxl L := by
  by_cases hj : j < L.length
  · rw [gt_lt hj]; exact (foldl_max L (-1)).2.1 _ (List.getElem_mem hj)
  · rw [gt_ge (by omega)]; exact (foldl_max L (-1)).1
theorem mxl_at (L : List Int) : mxl L = -1 ∨ ∃ j, j < L.length ∧ gt L j = mxl L := by
  rcases (foldl_max L (-1)).2.2 with h | h
  · exact .inl h
  · obtain ⟨j, hj, e⟩ := List.getElem_of_mem h
    exact .inr ⟨j, hj, by rw [gt_lt hj]; exact e⟩
theorem mxl_is {L : List Int} {M : Int} (h1 : ∀ j, gt L j ≤ M) (h2 : M = -1 ∨ ∃ j, gt L j = M) : mxl L = M := by
  have a := mxl_ge L
  have b := mxl_at L
  have h0 : -1 ≤ M := by have := h1 L.length; rwa [gt_ge (Nat.le_refl _)] at this
  have h3 : -1 ≤ mxl L := by have := a L.length; rwa [gt_ge (Nat.le_refl _)] at this
  apply Int.le_antisymm
  · rcases b with b | ⟨j, _, b⟩
    · omega
    · have := h1 j; omega
  · rcases h2 with h2 | ⟨j, h2⟩
    · omega
    · have := a j; omega
def setl (c : Int) (L : List Int) : Int := if c ≤ mxl L then 0 else c
def nfK (s : SL) : List Int := rk s 0 []
def nfC (s : SL) : Int := if cf s 0 ≤ km s 0 then 0 else cf s 0
theorem nfK_lo (s : SL) : Lo (nfK s) := rk_lo s 0 [] (fun x hx => by simp at hx)
theorem gt_nfK (s : SL) (j : Nat) : gt (nfK s) j = kf s 0 j := by
  have := kf_lo s 0 j (by decide)
  rw [nfK, gt_rk s 0 [] j (by decide) (fun x hx => by simp at hx), gt_ge (by simp)]
  omega
theorem mxl_nfK (s : SL) : mxl (nfK s) = km s 0 := mxl_is (fun j => by rw [gt_nfK]; exact kf_km s 0 j (by decide)) (by
  rcases km_kf s 0 (by decide) with h | ⟨j, h⟩
  · exact .inl h
  · exact .inr ⟨j, by rw [gt_nfK]; exact h⟩)
theorem setl_is (c : Int) (L : List Int) : (c ≤ mxl L ∧ setl c L = 0) ∨ (mxl L < c ∧ setl c L = c) := by
  unfold setl
  split
  · left; omega
  · right; omega
theorem nfC_is (s : SL) : (cf s 0 ≤ km s 0 ∧ nfC s = 0) ∨ (km s 0 < cf s 0 ∧ nfC s = cf s 0) := by
  unfold nfC
  split
  · left; omega
  · right; omega
theorem nfC_setl (s : SL) : setl (rc s 0 0) (nfK s) = nfC s := by
  have h := leaf_nn s 0 (by decide)
  have h1 := cf_lo s 0 (by decide)
  have h2 := setl_is (rc s 0 0) (nfK s)
  have h3 := nfC_is s
  rw [mxl_nfK] at h2
  have h4 := rc_eq s 0 0 (by decide) (by decide)
  omega
theorem nfK_len (s : SL) (h : s.good) : (nfK s).length ≤ 1001 := rk_len s 0 [] 1001 h.2.2 (by simp)
/-! ### The reference's forms -/
def trim : Nat → List Int → List Int
  | 0, K => K
  | f + 1, K => if 0 < K.length ∧ gt K (K.length - 1) < 0 then trim f (K.take (K.length - 1)) else K
def tidyK (K : List Int) : List Int := trim K.length K
def bothK (A B : List Int) : List Int := (List.range (max A.length B.length)).map fun i => max (gt A i) (gt B i)
def plusK (K : List Int) (n : Int) : List Int := K.map fun k => if 0 ≤ k then cut (k + n) else k
/-- What plus does with c. -/
def plusC (c : Int) (K : List Int) (n : Int) : Int := if K = [] ∨ 0 < c then cut (c + n) else c
/-! ### The program's joins -/
/-- Behind the first i of G, n more, onto L. -/
def jn (L G : List Int) (n : Int) : Nat → List Int
  | 0 => L
  | i + 1 => if gt G i = -1 then jn L G n i else up (jn L G n i) i (cut (n + gt G i))
/-- c and L come to t's form, settled. -/
structure IsF (c : Int) (L : List Int) (t : SL) : Prop where
  ks : L = nfK t
  nn : 0 ≤ c
  hi : c ≤ 1099511627776
  set : setl c L = nfC t
end Go.Proofs.Ytgpciphjhnabcaa
