/- Levels as trees: the forms that they come to, by the program's way and by the reference's. No program is named here. -/
import Derived.Test.YtgpciphjhnabcaaSymE
namespace Go.Proofs.Ytgpciphjhnabcaa
set_option linter.unusedVariables false
set_option linter.unusedSimpArgs false

/-- A level of one of the four kinds. -/
inductive SL where
  | num (n : Nat) : SL
  | var (i : Nat) : SL
  | succ (n : Nat) (a : SL) : SL
  | mx (a b : SL) : SL
deriving DecidableEq

def SL.size : SL → Nat
  | .num _ => 1
  | .var _ => 1
  | .succ _ a => a.size + 1
  | .mx a b => a.size + b.size + 1
def SL.dep : SL → Nat
  | .num _ => 1
  | .var _ => 1
  | .succ _ a => a.dep + 1
  | .mx a b => max a.dep b.dep + 1
/-- Its numbers are at most top, its variables below vars. -/
def SL.nums (top vars : Nat) : SL → Prop
  | .num n => n ≤ top
  | .var i => i < vars
  | .succ n a => 1 ≤ n ∧ n ≤ top ∧ a.nums top vars
  | .mx a b => a.nums top vars ∧ b.nums top vars
def SL.good (s : SL) : Prop := s.size ≤ 1000 ∧ s.dep ≤ 256 ∧ s.nums 1099511627776 1001
/-- Its numbers are at most 2^40. -/
def SL.few : SL → Prop
  | .num n => n ≤ 1099511627776
  | .var _ => True
  | .succ n a => n ≤ 1099511627776 ∧ a.few
  | .mx a b => a.few ∧ b.few
theorem SL.nums.few {top vars : Nat} (ht : top ≤ 1099511627776) : ∀ {s : SL}, s.nums top vars → s.few
  | .num n, h => by simp only [SL.nums, SL.few] at *; omega
  | .var _, _ => trivial
  | .succ n a, h => ⟨by have := h.2.1; omega, SL.nums.few ht h.2.2⟩
  | .mx a b, h => ⟨SL.nums.few ht h.1, SL.nums.few ht h.2⟩

def cut (x : Int) : Int := min x 1099511627776
def kf : SL → Int → Nat → Int
  | .num _, _, _ => -1
  | .var i, n, j => if i = j then n else -1
  | .succ m a, n, j => kf a (cut (n + m)) j
  | .mx a b, n, j => max (kf a n j) (kf b n j)
def cf : SL → Int → Int
  | .num m, n => cut (n + m)
  | .var _, _ => -1
  | .succ m a, n => cf a (cut (n + m))
  | .mx a b, n => max (cf a n) (cf b n)
def km : SL → Int → Int
  | .num _, _ => -1
  | .var _, n => n
  | .succ m a, n => km a (cut (n + m))
  | .mx a b, n => max (km a n) (km b n)
def sh (m k : Int) : Int := if k < 0 then -1 else cut (k + m)

theorem cut_is (x : Int) : (x ≤ 1099511627776 ∧ cut x = x) ∨ (1099511627776 < x ∧ cut x = 1099511627776) := by unfold cut; omega
theorem sh_is (m k : Int) : (k < 0 ∧ sh m k = -1) ∨ (0 ≤ k ∧ sh m k = cut (k + m)) := by
  unfold sh
  split
  · left; omega
  · right; omega
theorem cut_nn {x : Int} (h : 0 ≤ x) : 0 ≤ cut x := by unfold cut; omega
theorem cut_le (x : Int) : cut x ≤ 1099511627776 := by unfold cut; omega
theorem kf_lo : ∀ (s : SL) (n : Int) (j : Nat), 0 ≤ n → -1 ≤ kf s n j
  | .num _, _, _, _ => by simp [kf]
  | .var i, n, j, h => by simp only [kf]; split <;> omega
  | .succ m a, n, j, h => kf_lo a _ j (cut_nn (by omega))
  | .mx a b, n, j, h => by have := kf_lo a n j h; simp only [kf]; omega
theorem kf_hi : ∀ (s : SL) (n : Int) (j : Nat), n ≤ 1099511627776 → kf s n j ≤ 1099511627776
  | .num _, _, _, _ => by simp [kf]
  | .var i, n, j, h => by simp only [kf]; split <;> omega
  | .succ m a, n, j, h => kf_hi a _ j (cut_le _)
  | .mx a b, n, j, h => by have := kf_hi a n j h; have := kf_hi b n j h; simp only [kf]; omega
theorem cf_lo : ∀ (s : SL) (n : Int), 0 ≤ n → -1 ≤ cf s n
  | .num _, _, h => by simp only [cf]; have := @cut_nn; unfold cut; omega
  | .var i, n, h => by simp [cf]
  | .succ m a, n, h => cf_lo a _ (cut_nn (by omega))
  | .mx a b, n, h => by have := cf_lo a n h; simp only [cf]; omega
theorem cf_hi : ∀ (s : SL) (n : Int), n ≤ 1099511627776 → cf s n ≤ 1099511627776
  | .num _, _, h => by simp only [cf]; exact cut_le _
  | .var i, n, h => by simp [cf]
  | .succ m a, n, h => cf_hi a _ (cut_le _)
  | .mx a b, n, h => by have := cf_hi a n h; have := cf_hi b n h; simp only [cf]; omega
theorem kf_km : ∀ (s : SL) (n : Int) (j : Nat), 0 ≤ n → kf s n j ≤ km s n
  | .num _, _, _, _ => by simp [kf, km]
  | .var i, n, j, h => by simp only [kf, km]; split <;> omega
  | .succ m a, n, j, h => kf_km a _ j (cut_nn (by omega))
  | .mx a b, n, j, h => by have := kf_km a n j h; have := kf_km b n j h; simp only [kf, km]; omega
theorem km_kf : ∀ (s : SL) (n : Int), 0 ≤ n → km s n = -1 ∨ ∃ j, kf s n j = km s n
  | .num _, _, _ => .inl rfl
  | .var i, n, h => .inr ⟨i, by simp [kf, km]⟩
  | .succ m a, n, h => km_kf a _ (cut_nn (by omega))
  | .mx a b, n, h => by
    simp only [km, kf]
    have ha := km_kf a n h
    have hb := km_kf b n h
    have la : ∀ j, kf a n j ≤ km a n := fun j => kf_km a n j h
    have lb : ∀ j, kf b n j ≤ km b n := fun j => kf_km b n j h
    have l1 : ∀ j, -1 ≤ kf a n j := fun j => kf_lo a n j h
    have l2 : ∀ j, -1 ≤ kf b n j := fun j => kf_lo b n j h
    by_cases hc : km a n ≤ km b n
    · rcases hb with hb | ⟨j, hb⟩
      · left; rcases ha with ha | ⟨j, ha⟩
        · omega
        · have := l1 j; omega
      · right; exact ⟨j, by have := la j; omega⟩
    · rcases ha with ha | ⟨j, ha⟩
      · rcases hb with hb | ⟨j, hb⟩
        · omega
        · have := l2 j; omega
      · right; exact ⟨j, by have := lb j; omega⟩
theorem km_lo (s : SL) (n : Int) (h : 0 ≤ n) : -1 ≤ km s n := by
  have := kf_km s n 0 h
  have := kf_lo s n 0 h
  omega
/-- Some leaf there is. -/
theorem leaf_nn : ∀ (s : SL) (n : Int), 0 ≤ n → 0 ≤ cf s n ∨ 0 ≤ km s n
  | .num m, n, h => .inl (cut_nn (by omega))
  | .var i, n, h => .inr h
  | .succ m a, n, h => leaf_nn a _ (cut_nn (by omega))
  | .mx a b, n, h => by have := leaf_nn a n h; simp only [cf, km]; omega
theorem sh_max (m : Int) (x y : Int) (hx : -1 ≤ x) (hy : -1 ≤ y) (hm : 0 ≤ m) : sh m (max x y) = max (sh m x) (sh m y) := by
  have h1 := sh_is m (max x y)
  have h2 := sh_is m x
  have h3 := sh_is m y
  have h4 := cut_is (max x y + m)
  have h5 := cut_is (x + m)
  have h6 := cut_is (y + m)
  omega
theorem cut_swap (n m p : Int) (hn : 0 ≤ n) (hm : 0 ≤ m) (hp : 0 ≤ p) : cut (cut (n + m) + p) = cut (cut (n + p) + m) := by unfold cut; omega
theorem kf_sh : ∀ (s : SL) (n m : Int) (j : Nat), 0 ≤ n → 0 ≤ m → kf s (cut (n + m)) j = sh m (kf s n j)
  | .num _, _, _, _, _, _ => by simp [kf, sh]
  | .var i, n, m, j, hn, hm => by
    simp only [kf]
    split
    · rw [(sh_is m n).resolve_left (by omega) |>.2]
    · rfl
  | .succ p a, n, m, j, hn, hm => by
    simp only [kf]
    rw [cut_swap n m p hn hm (by omega)]
    exact kf_sh a _ m j (cut_nn (by omega)) hm
  | .mx a b, n, m, j, hn, hm => by
    simp only [kf]
    rw [kf_sh a n m j hn hm, kf_sh b n m j hn hm, sh_max m _ _ (kf_lo a n j hn) (kf_lo b n j hn) hm]
theorem cf_sh : ∀ (s : SL) (n m : Int), 0 ≤ n → 0 ≤ m → cf s (cut (n + m)) = sh m (cf s n)
  | .num p, n, m, hn, hm => by
    have h0 : 0 ≤ cut (n + (p : Int)) := cut_nn (by omega)
    simp only [cf]
    rw [(sh_is m (cut (n + p))).resolve_left (by omega) |>.2, cut_swap n m p hn hm (by omega)]
  | .var i, n, m, hn, hm => by simp [cf, sh]
  | .succ p a, n, m, hn, hm => by
    simp only [cf]
    rw [cut_swap n m p hn hm (by omega)]
    exact cf_sh a _ m (cut_nn (by omega)) hm
  | .mx a b, n, m, hn, hm => by
    simp only [cf]
    rw [cf_sh a n m hn hm, cf_sh b n m hn hm, sh_max m _ _ (cf_lo a n hn) (cf_lo b n hn) hm]
theorem km_sh : ∀ (s : SL) (n m : Int), 0 ≤ n → 0 ≤ m → km s (cut (n + m)) = sh m (km s n)
  | .num _, _, _, _, _ => by simp [km, sh]
  | .var i, n, m, hn, hm => by
    simp only [km]
    rw [(sh_is m n).resolve_left (by omega) |>.2]
  | .succ p a, n, m, hn, hm => by
    simp only [km]
    rw [cut_swap n m p hn hm (by omega)]
    exact km_sh a _ m (cut_nn (by omega)) hm
  | .mx a b, n, m, hn, hm => by
    simp only [km]
    rw [km_sh a n m hn hm, km_sh b n m hn hm, sh_max m _ _ (km_lo a n hn) (km_lo b n hn) hm]

/-! ### Lists of numbers by place -/
def gt (L : List Int) (j : Nat) : Int := L.getD j (-1)
/-- The last one is 0 or more. -/
def Tm (L : List Int) : Prop := ∀ h : L ≠ [], 0 ≤ L.getLast h
def Lo (L : List Int) : Prop := ∀ x ∈ L, -1 ≤ x
theorem gt_lt {L : List Int} {j : Nat} (h : j < L.length) : gt L j = L[j] := by simp [gt, h]
theorem gt_ge {L : List Int} {j : Nat} (h : L.length ≤ j) : gt L j = -1 := by simp [gt, List.getElem?_eq_none h]
theorem Lo.gt {L : List Int} (h : Lo L) (j : Nat) : -1 ≤ gt L j := by
  by_cases hj : j < L.length
  · rw [gt_lt hj]; exact h _ (List.getElem_mem hj)
  · rw [gt_ge (by omega)]; omega
theorem Tm.last {L : List Int} (h : Tm L) (hp : 0 < L.length) : 0 ≤ gt L (L.length - 1) := by
  have hne : L ≠ [] := by rintro rfl; simp at hp
  have := h hne
  rw [gt_lt (by omega)]
  rwa [List.getLast_eq_getElem] at this
theorem tm_of {L : List Int} (h : 0 < L.length → 0 ≤ gt L (L.length - 1)) : Tm L := by
  intro hne
  have hp : 0 < L.length := List.length_pos_iff.2 hne
  have := h hp
  rw [gt_lt (by omega)] at this
  rwa [List.getLast_eq_getElem]
theorem tm_ext {L M : List Int} (hL : Tm L) (hM : Tm M) (h : ∀ j, gt L j = gt M j) : L = M := by
  have hlen : L.length = M.length := by
    rcases Nat.lt_trichotomy L.length M.length with hl | hl | hl
    · have h1 := hM.last (by omega)
      rw [← h, gt_ge (by omega)] at h1
      omega
    · exact hl
    · have h1 := hL.last (by omega)
      rw [h, gt_ge (by omega)] at h1
      omega
  apply List.ext_getElem hlen
  intro i h1 h2
  have := h i
  rwa [gt_lt h1, gt_lt h2] at this

def padL (L : List Int) (m : Nat) : List Int := L ++ List.replicate (m - L.length) (-1)
def up (L : List Int) (i : Nat) (n : Int) : List Int := (padL L (i + 1)).set i (max (gt L i) n)
theorem pad_len (L : List Int) (m : Nat) : (padL L m).length = max L.length m := by simp [padL]; omega
theorem gt_pad (L : List Int) (m j : Nat) : gt (padL L m) j = gt L j := by
  by_cases hj : j < L.length
  · simp [gt, padL, List.getElem?_append_left hj]
  · rw [gt_ge (L := L) (by omega)]
    simp only [gt, padL]
    rw [List.getD_eq_getElem?_getD, List.getElem?_append_right (by omega), List.getElem?_replicate]
    split <;> rfl
theorem up_len (L : List Int) (i : Nat) (n : Int) : (up L i n).length = max L.length (i + 1) := by simp [up, pad_len]
theorem gt_up (L : List Int) (i : Nat) (n : Int) (j : Nat) : gt (up L i n) j = if i = j then max (gt L i) n else gt L j := by
  have hl := pad_len L (i + 1)
  unfold up
  by_cases hij : i = j
  · subst hij
    rw [if_pos rfl, gt_lt (by rw [List.length_set]; omega)]
    simp
  · rw [if_neg hij, ← gt_pad L (i + 1) j]
    simp only [gt, List.getD_eq_getElem?_getD]
    rw [List.getElem?_set_ne hij]
theorem lo_of {L : List Int} (h : ∀ j, -1 ≤ gt L j) : Lo L := by
  intro x hx
  obtain ⟨j, hj, rfl⟩ := List.getElem_of_mem hx
  have := h j
  rwa [gt_lt hj] at this
theorem lo_up {L : List Int} (h : Lo L) (i : Nat) (n : Int) : Lo (up L i n) := lo_of fun j => by
  rw [gt_up]
  have := h.gt i
  have := h.gt j
  split <;> omega
theorem tm_up {L : List Int} (h : Tm L) (i : Nat) {n : Int} (hn : 0 ≤ n) : Tm (up L i n) := tm_of fun _ => by
  rw [up_len, gt_up]
  split
  · omega
  · next hi =>
    have hlen : i + 1 < L.length := by omega
    rw [show max L.length (i + 1) - 1 = L.length - 1 by omega]
    exact h.last (by omega)

def rk : SL → Int → List Int → List Int
  | .num _, _, L => L
  | .var i, n, L => up L i n
  | .succ m a, n, L => rk a (cut (n + m)) L
  | .mx a b, n, L => rk b n (rk a n L)
def rc : SL → Int → Int → Int
  | .num m, n, c => max c (cut (n + m))
  | .var _, _, c => c
  | .succ m a, n, c => rc a (cut (n + m)) c
  | .mx a b, n, c => rc b n (rc a n c)
theorem rk_lo : ∀ (s : SL) (n : Int) (L : List Int), Lo L → Lo (rk s n L)
  | .num _, _, L, h => h
  | .var i, n, L, h => lo_up h i n
  | .succ m a, n, L, h => rk_lo a _ L h
  | .mx a b, n, L, h => rk_lo b n _ (rk_lo a n L h)
theorem rk_tm : ∀ (s : SL) (n : Int) (L : List Int), 0 ≤ n → Tm L → Tm (rk s n L)
  | .num _, _, L, _, h => h
  | .var i, n, L, hn, h => tm_up h i hn
  | .succ m a, n, L, hn, h => rk_tm a _ L (cut_nn (by omega)) h
  | .mx a b, n, L, hn, h => rk_tm b n _ hn (rk_tm a n L hn h)
theorem gt_rk : ∀ (s : SL) (n : Int) (L : List Int) (j : Nat), 0 ≤ n → Lo L → gt (rk s n L) j = max (gt L j) (kf s n j)
  | .num _, n, L, j, hn, h => by have := h.gt j; simp only [rk, kf]; omega
  | .var i, n, L, j, hn, h => by
    have := h.gt j
    simp only [rk, kf, gt_up]
    split
    · next e => rw [e]
    · omega
  | .succ m a, n, L, j, hn, h => gt_rk a _ L j (cut_nn (by omega)) h
  | .mx a b, n, L, j, hn, h => by
    simp only [rk, kf]
    rw [gt_rk b n _ j hn (rk_lo a n L h), gt_rk a n L j hn h]
    omega
theorem rc_eq : ∀ (s : SL) (n c : Int), 0 ≤ n → -1 ≤ c → rc s n c = max c (cf s n)
  | .num m, n, c, hn, hc => rfl
  | .var i, n, c, hn, hc => by simp only [rc, cf]; omega
  | .succ m a, n, c, hn, hc => rc_eq a _ c (cut_nn (by omega)) hc
  | .mx a b, n, c, hn, hc => by
    simp only [rc, cf]
    rw [rc_eq b n _ hn (by rw [rc_eq a n c hn hc]; omega), rc_eq a n c hn hc]
    omega
theorem rk_len : ∀ (s : SL) (n : Int) (L : List Int) (V : Nat), s.nums 1099511627776 V → L.length ≤ V → (rk s n L).length ≤ V
  | .num _, _, L, V, _, h => h
  | .var i, n, L, V, hs, h => by simp only [rk, up_len, SL.nums] at *; omega
  | .succ m a, n, L, V, hs, h => rk_len a _ L V hs.2.2 h
  | .mx a b, n, L, V, hs, h => rk_len b n _ V hs.2 (rk_len a n L V hs.1 h)

/-! ### The greatest of a list; settled forms -/
def mxl (L : List Int) : Int := L.foldl max (-1)
theorem foldl_max (L : List Int) : ∀ (c : Int), (c ≤ L.foldl max c) ∧ (∀ x ∈ L, x ≤ L.foldl max c) ∧ (L.foldl max c = c ∨ L.foldl max c ∈ L) := by
  induction L with
  | nil => intro c; simp
  | cons y L ih =>
    intro c
    obtain ⟨h1, h2, h3⟩ := ih (max c y)
    simp only [List.foldl_cons]
    refine ⟨by omega, fun x hx => ?_, ?_⟩
    · rcases List.mem_cons.1 hx with rfl | hx
      · omega
      · exact h2 x hx
    · rcases h3 with h3 | h3
      · by_cases hc : y ≤ c
        · left; omega
        · right; rw [h3, show max c y = y by omega]; simp
      · right; exact List.mem_cons_of_mem _ h3
theorem mxl_ge (L : List Int) (j : Nat) : gt L j ≤ mxl L := by
  by_cases hj : j < L.length
  · rw [gt_lt hj]; exact (foldl_max L (-1)).2.1 _ (List.getElem_mem hj)
  · rw [gt_ge (by omega)]; exact (foldl_max L (-1)).1
theorem mxl_at (L : List Int) : mxl L = -1 ∨ ∃ j, j < L.length ∧ gt L j = mxl L := by
  rcases (foldl_max L (-1)).2.2 with h | h
  · exact .inl h
  · obtain ⟨j, hj, e⟩ := List.getElem_of_mem h
    exact .inr ⟨j, hj, by rw [gt_lt hj]; exact e⟩
theorem mxl_is {L : List Int} {M : Int} (h1 : ∀ j, gt L j ≤ M) (h2 : M = -1 ∨ ∃ j, gt L j = M) : mxl L = M := by
  have a := mxl_ge L
  have b := mxl_at L
  have h0 : -1 ≤ M := by have := h1 L.length; rwa [gt_ge (Nat.le_refl _)] at this
  have h3 : -1 ≤ mxl L := by have := a L.length; rwa [gt_ge (Nat.le_refl _)] at this
  apply Int.le_antisymm
  · rcases b with b | ⟨j, _, b⟩
    · omega
    · have := h1 j; omega
  · rcases h2 with h2 | ⟨j, h2⟩
    · omega
    · have := a j; omega
def setl (c : Int) (L : List Int) : Int := if c ≤ mxl L then 0 else c
def nfK (s : SL) : List Int := rk s 0 []
def nfC (s : SL) : Int := if cf s 0 ≤ km s 0 then 0 else cf s 0
theorem nfK_tm (s : SL) : Tm (nfK s) := rk_tm s 0 [] (by decide) (fun h => absurd rfl h)
theorem nfK_lo (s : SL) : Lo (nfK s) := rk_lo s 0 [] (fun x hx => by simp at hx)
theorem gt_nfK (s : SL) (j : Nat) : gt (nfK s) j = kf s 0 j := by
  have := kf_lo s 0 j (by decide)
  rw [nfK, gt_rk s 0 [] j (by decide) (fun x hx => by simp at hx), gt_ge (by simp)]
  omega
theorem mxl_nfK (s : SL) : mxl (nfK s) = km s 0 := mxl_is (fun j => by rw [gt_nfK]; exact kf_km s 0 j (by decide)) (by
  rcases km_kf s 0 (by decide) with h | ⟨j, h⟩
  · exact .inl h
  · exact .inr ⟨j, by rw [gt_nfK]; exact h⟩)
theorem setl_is (c : Int) (L : List Int) : (c ≤ mxl L ∧ setl c L = 0) ∨ (mxl L < c ∧ setl c L = c) := by
  unfold setl
  split
  · left; omega
  · right; omega
theorem nfC_is (s : SL) : (cf s 0 ≤ km s 0 ∧ nfC s = 0) ∨ (km s 0 < cf s 0 ∧ nfC s = cf s 0) := by
  unfold nfC
  split
  · left; omega
  · right; omega
theorem nfC_nn (s : SL) : 0 ≤ nfC s := by
  have := leaf_nn s 0 (by decide)
  have := nfC_is s
  omega
theorem nfC_le (s : SL) : nfC s ≤ 1099511627776 := by
  have := cf_hi s 0 (by decide)
  have := nfC_is s
  omega
theorem nfC_setl (s : SL) : setl (rc s 0 0) (nfK s) = nfC s := by
  have h := leaf_nn s 0 (by decide)
  have h1 := cf_lo s 0 (by decide)
  have h2 := setl_is (rc s 0 0) (nfK s)
  have h3 := nfC_is s
  rw [mxl_nfK] at h2
  have h4 := rc_eq s 0 0 (by decide) (by decide)
  omega
theorem nfK_len (s : SL) (h : s.good) : (nfK s).length ≤ 1001 := rk_len s 0 [] 1001 h.2.2 (by simp)
theorem nfK_hi (s : SL) (j : Nat) : gt (nfK s) j ≤ 1099511627776 := by rw [gt_nfK]; exact kf_hi s 0 j (by decide)
theorem km_mx (a b : SL) : km (.mx a b) 0 = max (km a 0) (km b 0) := rfl
/-- The greater one's form, out of both's. -/
theorem nfC_mx (a b : SL) : nfC (.mx a b) = setl (max (nfC a) (nfC b)) (nfK (.mx a b)) := by
  have ha := leaf_nn a 0 (by decide)
  have hb := leaf_nn b 0 (by decide)
  have h1 := setl_is (max (nfC a) (nfC b)) (nfK (.mx a b))
  have h2 := nfC_is a
  have h3 := nfC_is b
  have h4 := nfC_is (.mx a b)
  rw [mxl_nfK, km_mx] at h1
  rw [km_mx] at h4
  have h5 : cf (.mx a b) 0 = max (cf a 0) (cf b 0) := rfl
  omega
theorem gt_mx (a b : SL) (j : Nat) : gt (nfK (.mx a b)) j = max (gt (nfK a) j) (gt (nfK b) j) := by simp only [gt_nfK, kf]
theorem gt_succ (n : Nat) (a : SL) (j : Nat) : gt (nfK (.succ n a)) j = sh n (gt (nfK a) j) := by
  simp only [gt_nfK, kf]
  exact kf_sh a 0 n j (by decide) (by omega)
theorem km_succ (n : Nat) (a : SL) : km (.succ n a) 0 = sh n (km a 0) := km_sh a 0 n (by decide) (by omega)
theorem cf_succ (n : Nat) (a : SL) : cf (.succ n a) 0 = sh n (cf a 0) := cf_sh a 0 n (by decide) (by omega)
/-! ### The reference's forms -/
def trim : Nat → List Int → List Int
  | 0, K => K
  | f + 1, K => if 0 < K.length ∧ gt K (K.length - 1) < 0 then trim f (K.take (K.length - 1)) else K
def tidyK (K : List Int) : List Int := trim K.length K
theorem gt_take (K : List Int) (m j : Nat) : gt (K.take m) j = if j < m then gt K j else -1 := by
  simp only [gt, List.getD_eq_getElem?_getD, List.getElem?_take]
  split <;> rfl
theorem trim_lo : ∀ (f : Nat) (K : List Int), Lo K → ∀ j, gt (trim f K) j = gt K j
  | 0, K, h, j => rfl
  | f + 1, K, h, j => by
    unfold trim
    split
    · next hc =>
      rw [trim_lo f _ (fun x hx => h x (List.mem_of_mem_take hx)) j, gt_take]
      split
      · rfl
      · next hj =>
        by_cases hl : j < K.length
        · have : j = K.length - 1 := by omega
          subst this
          have := h.gt (K.length - 1)
          omega
        · rw [gt_ge (by omega)]
    · rfl
theorem trim_tm : ∀ (f : Nat) (K : List Int), K.length ≤ f → Tm (trim f K)
  | 0, K, h => by
    have : K = [] := List.eq_nil_of_length_eq_zero (by omega)
    subst this
    exact fun h => absurd rfl h
  | f + 1, K, h => by
    unfold trim
    split
    · exact trim_tm f _ (by simp; omega)
    · next hc => exact tm_of fun hp => by omega
theorem tidyK_is {K L : List Int} (hK : Lo K) (hL : Tm L) (h : ∀ j, gt K j = gt L j) : tidyK K = L :=
  tm_ext (trim_tm _ _ (Nat.le_refl _)) hL fun j => by rw [tidyK, trim_lo _ _ hK, h]
def bothK (A B : List Int) : List Int := (List.range (max A.length B.length)).map fun i => max (gt A i) (gt B i)
theorem gt_map (f : Nat → Int) (n j : Nat) : gt ((List.range n).map f) j = if j < n then f j else -1 := by
  simp only [gt, List.getD_eq_getElem?_getD, List.getElem?_map]
  split
  · next h => simp [h]
  · next h => simp [Nat.not_lt.1 h]
theorem gt_both {A B : List Int} (j : Nat) : gt (bothK A B) j = max (gt A j) (gt B j) := by
  rw [bothK, gt_map]
  split
  · rfl
  · rw [gt_ge (L := A) (by omega), gt_ge (L := B) (by omega)]; rfl
theorem bothK_is (a b : SL) : tidyK (bothK (nfK a) (nfK b)) = nfK (.mx a b) :=
  tidyK_is (lo_of fun j => by rw [gt_both]; have := (nfK_lo a).gt j; omega) (nfK_tm _) fun j => by rw [gt_both, gt_mx]
def plusK (K : List Int) (n : Int) : List Int := K.map fun k => if 0 ≤ k then cut (k + n) else k
theorem gt_plus {K : List Int} (hK : Lo K) (n : Int) (j : Nat) : gt (plusK K n) j = sh n (gt K j) := by
  by_cases hj : j < K.length
  · rw [gt_lt hj, gt_lt (by simpa [plusK] using hj)]
    simp only [plusK, List.getElem_map, sh]
    have := hK _ (List.getElem_mem hj)
    split <;> split <;> omega
  · rw [gt_ge (L := K) (by omega), gt_ge (by simpa [plusK] using hj)]
    simp [sh]
theorem plusK_is (n : Nat) (a : SL) : tidyK (plusK (nfK a) n) = nfK (.succ n a) :=
  tidyK_is (lo_of fun j => by
    rw [gt_plus (nfK_lo a)]
    unfold sh
    split
    · omega
    · have := cut_nn (x := gt (nfK a) j + n) (by omega); omega) (nfK_tm _) fun j => by rw [gt_plus (nfK_lo a), gt_succ]
theorem km_nil (a : SL) : nfK a = [] ↔ km a 0 = -1 := by
  rw [← mxl_nfK]
  constructor
  · intro h; rw [h]; rfl
  · intro h
    cases hl : nfK a with
    | nil => rfl
    | cons x L =>
      exfalso
      have h1 := (nfK_tm a).last (by rw [hl]; simp)
      have h2 := mxl_ge (nfK a) ((nfK a).length - 1)
      omega
/-- What plus does with c. -/
def plusC (c : Int) (K : List Int) (n : Int) : Int := if K = [] ∨ 0 < c then cut (c + n) else c
theorem plusC_eq (c : Int) (K : List Int) (n : Int) : ((K = [] ∨ 0 < c) ∧ plusC c K n = cut (c + n)) ∨ (¬ (K = [] ∨ 0 < c) ∧ plusC c K n = c) := by
  unfold plusC
  split
  · next h => exact .inl ⟨h, rfl⟩
  · next h => exact .inr ⟨h, rfl⟩
theorem plusC_nn {c : Int} {K : List Int} {n : Int} (hc : 0 ≤ c) (hn : 0 ≤ n) : 0 ≤ plusC c K n := by
  unfold plusC
  split
  · exact cut_nn (by omega)
  · exact hc
theorem plusC_is (n : Nat) (a : SL) : setl (plusC (nfC a) (nfK a) n) (nfK (.succ n a)) = nfC (.succ n a) := by
  have hl := leaf_nn a 0 (by decide)
  have h1 := cf_lo a 0 (by decide)
  have h2 := km_lo a 0 (by decide)
  have h3 := setl_is (plusC (nfC a) (nfK a) n) (nfK (.succ n a))
  have h4 := nfC_is a
  have h5 := nfC_is (.succ n a)
  rw [mxl_nfK, km_succ] at h3
  rw [km_succ, cf_succ] at h5
  have h6 := sh_is n (km a 0)
  have h7 := sh_is n (cf a 0)
  have h8 := cut_is (km a 0 + n)
  have h9 := cut_is (cf a 0 + n)
  have h10 := cut_is (nfC a + n)
  have h11 := plusC_eq (nfC a) (nfK a) n
  rw [km_nil] at h11
  omega

/-- The reference's form of a level of one node. -/
theorem nf_num (n : Nat) (h : n ≤ 1099511627776) : nfC (.num n) = n ∧ nfK (.num n) = [] := by
  refine ⟨?_, rfl⟩
  have h1 := nfC_is (.num n)
  have h2 : cf (.num n) 0 = cut (0 + n) := rfl
  have h3 : km (.num n) 0 = -1 := rfl
  have h4 := cut_is (0 + n)
  omega
theorem nf_var (i : Nat) : nfC (.var i) = 0 ∧ nfK (.var i) = List.replicate i (-1) ++ [0] := by
  refine ⟨by simp [nfC, cf, km], tm_ext (nfK_tm _) (fun h => by simp) fun j => ?_⟩
  rw [gt_nfK]
  simp only [kf, gt, List.getD_eq_getElem?_getD]
  split
  · next e => subst e; simp
  · next e =>
    by_cases hj : j < i
    · rw [List.getElem?_append_left (by simpa using hj)]
      simp [hj]
    · rw [List.getElem?_eq_none (by simp; omega)]
      rfl

/-! ### The program's joins -/
/-- Behind the first i of G, n more, onto L. -/
def jn (L G : List Int) (n : Int) : Nat → List Int
  | 0 => L
  | i + 1 => if gt G i = -1 then jn L G n i else up (jn L G n i) i (cut (n + gt G i))
/-- c and L come to t's form, settled. -/
structure IsF (c : Int) (L : List Int) (t : SL) : Prop where
  ks : L = nfK t
  nn : 0 ≤ c
  hi : c ≤ 1099511627776
  set : setl c L = nfC t
end Go.Proofs.Ytgpciphjhnabcaa
