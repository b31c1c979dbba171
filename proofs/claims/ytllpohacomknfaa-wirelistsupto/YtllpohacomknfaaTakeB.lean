/- wire.beyond, wire.fenced, wire.TakeBytes, assizeref2.TakeBytes. -/
import Derived.Test.YtllpohacomknfaaApp
import Derived.Deep.RegionWith
namespace Go.Proofs.Ytllpohacomknfaa
open Go.RowKit
set_option linter.unusedVariables false
set_option linter.unusedSimpArgs false

set_option maxRecDepth 100000 in
set_option maxHeartbeats 1000000 in
theorem bey39_true (n : Nat) (hn : n < 2 ^ 64) (most : Int) (h1 : -9223372036854775808 ≤ most) (h2 : most ≤ 9223372036854775807) (w : World) (h : most < 0 ∨ most < (n : Int)) :
    Calls Try.prog 39 #[.int .u64 (n : Int), .int .i64 most] w fun e w' => e = .returned (.bool true) ∧ w = w' := by
  by_cases h0 : most < 0
  · clear h
    go_enter Try.func39, Try.ntmps39
    go_wp2
    go_ret
    exact ⟨ret_bool (by first | rfl | (simp; done) | (simp; omega)), rfl⟩
  · have h' : most < (n : Int) := h.resolve_left h0
    clear h
    go_enter Try.func39, Try.ntmps39
    go_wp2
    go_ret
    exact ⟨ret_bool (by first | rfl | (simp; done) | (simp; omega)), rfl⟩

set_option maxRecDepth 100000 in
set_option maxHeartbeats 1000000 in
theorem bey39_false (n : Nat) (hn : n < 2 ^ 64) (most : Int) (h1 : 0 ≤ most) (h2 : most ≤ 9223372036854775807) (w : World) (h : (n : Int) ≤ most) :
    Calls Try.prog 39 #[.int .u64 (n : Int), .int .i64 most] w fun e w' => e = .returned (.bool false) ∧ w = w' := by
  go_enter Try.func39, Try.ntmps39
  go_wp2
  go_ret
  exact ⟨ret_bool (by first | rfl | (simp; done) | (simp; omega)), rfl⟩

/-- What TakeBytes tells: the bytes, how many with their length, the error. -/
def tb (bs : List UInt8) (most : Int) : List UInt8 × Nat × Nat :=
  if (tk bs).2.2 ≠ 0 then ([], 0, (tk bs).2.2)
  else if most < 0 ∨ most < ((tk bs).1 : Int) then ([], 0, 2)
  else if bs.length < (tk bs).2.1 + (tk bs).1 then ([], 0, 3)
  else ((bs.drop (tk bs).2.1).take (tk bs).1, (tk bs).2.1 + (tk bs).1, 0)

theorem tb_err {bs : List UInt8} {most : Int} {e : Nat} (h : tk bs = (0, 0, e)) (he : e ≠ 0) : tb bs most = ([], 0, e) := by simp [tb, h, he]
theorem tb_long {bs : List UInt8} {most : Int} {n k : Nat} (h : tk bs = (n, k, 0)) (hm : most < 0 ∨ most < (n : Int)) : tb bs most = ([], 0, 2) := by simp [tb, h, hm]
theorem tb_short {bs : List UInt8} {most : Int} {n k : Nat} (h : tk bs = (n, k, 0)) (h0 : 0 ≤ most) (hm : (n : Int) ≤ most) (hs : bs.length < k + n) : tb bs most = ([], 0, 3) := by
  have : ¬ (most < 0 ∨ most < (n : Int)) := by omega
  simp [tb, h, this, hs]
theorem tb_good {bs : List UInt8} {most : Int} {n k : Nat} (h : tk bs = (n, k, 0)) (h0 : 0 ≤ most) (hm : (n : Int) ≤ most) (hs : k + n ≤ bs.length) : tb bs most = ((bs.drop k).take n, k + n, 0) := by
  have : ¬ (most < 0 ∨ most < (n : Int)) := by omega
  have h3 : ¬ bs.length < k + n := by omega
  simp [tb, h, this, h3]

/-- What a call that tells bytes, a count and an error leaves. -/
def GivesT (r : List UInt8 × Nat × Nat) (w : World) (e : Ending) (w' : World) : Prop :=
  ∃ v, e = .returned (.tuple #[v, .int .i64 (r.2.1 : Int), .int .i64 (r.2.2 : Int)]) ∧ w'.ownsRow w.heap.size 5 1 v r.1.length (r.1.map encU) ∧ Below w.heap.size w w'

theorem GivesT.none (k e : Nat) (w : World) : GivesT ([], k, e) w (.returned (.tuple #[.slice none 0 0, .int .i64 (k : Int), .int .i64 (e : Int)])) w :=
  ⟨_, rfl, World.ownsRow_nil _ _ _ _, Below.refl _ _⟩

theorem fresh38_0 (bs : List UInt8) (hb : bs.length ≤ 281474976710656) (v : Value) (w : World) (hv : RB w v bs) : Calls Try.prog 38 #[v, .int .i64 0] w (Gives bs w) := fresh38 bs 0 (by omega) v w hv

theorem ret_t {a a' : Int} {x y : Value} (h : a = a') : Ending.returned (.tuple #[x, .int .i64 a, y]) = .returned (.tuple #[x, .int .i64 a', y]) := by rw [h]

/-- A piece of what reads as bytes; its address as the model has it. -/
theorem RB.piece {W : World} {a : Option Addr} {l c : Nat} {bs : List UInt8} (h : RB W (.slice a l c) bs) {k n : Nat} (hk : k + n ≤ bs.length) (c' : Nat) (hc' : c' = c - k) (a' : Option Addr) (ha : c ≠ k → a' = a.map (·.add k)) (hn : a' = none → c' = 0) : RB W (.slice a' n c') ((bs.drop k).take n) := by
  have hl : ((bs.drop k).take n).length = n := by simp; omega
  rcases h with ⟨a0, c0, e, rfl, h⟩ | ⟨b, off, cap, e, h1, h2⟩
  · cases e
    have hk0 : k = 0 ∧ n = 0 := by simp at hk; omega
    obtain ⟨rfl, rfl⟩ := hk0
    exact .inl ⟨_, _, rfl, by simp, hn⟩
  · cases e
    by_cases h0 : n = 0
    · subst h0
      exact .inl ⟨_, _, rfl, by simp, hn⟩
    · have hck : c ≠ k := by omega
      rw [ha hck]
      refine .inr ⟨b, off + k, c', ?_, by rw [hl]; omega, fun j u hj => ?_⟩
      · rw [hl]; simp only [Option.map_some, addr_add]
      · have hj' : bs[k + j]? = some u := by
          rw [List.getElem?_take] at hj
          split at hj
          · rw [List.getElem?_drop] at hj; exact hj
          · cases hj
        have := h2 (k + j) u hj'
        rwa [Nat.add_assoc]

set_option maxRecDepth 100000 in
set_option maxHeartbeats 1000000 in
theorem tb19 (bs : List UInt8) (hl : bs.length ≤ 140737488355328) (most : Int) (h1 : -9223372036854775808 ≤ most) (h2 : most ≤ 9223372036854775807) (v : Value) (w : World) (hv : RB w v bs) :
    Calls Try.prog 19 #[v, .int .i64 most] w (GivesT (tb bs most) w) := by
  obtain ⟨a, c, e1, hc, hn0⟩ := hv.form
  have HV := Lib.hid hv
  have HN := Lib.hid hn0
  clear hv hn0
  subst e1
  rcases tk_cases bs with ⟨n, k, h, hn, hk, hkl⟩ | h | h
  · have H10 := Lib.hid (take10' h hl _ w HV.out)
    have HT := Lib.hid h
    clear h
    by_cases hm : most < 0 ∨ most < (n : Int)
    · have HB := Lib.hid (bey39_true n hn most h1 h2 w hm)
      rw [tb_long HT.out hm]
      clear hm
      go_enter Try.func19, Try.ntmps19
      go_wp2_with (first | (go_at_call 10; refine H10.out.mono ?_; rintro e w' ⟨rfl, rfl⟩) | (go_at_call 39; refine HB.out.mono ?_; rintro e w' ⟨rfl, rfl⟩))
      go_ret3
      exact GivesT.none 0 2 w
    · have hm0 : 0 ≤ most := by omega
      have hm1 : (n : Int) ≤ most := by omega
      clear hm
      have HB := Lib.hid (bey39_false n hn most hm0 h2 w hm1)
      by_cases hs : bs.length < k + n
      · have HB2 := Lib.hid (bey39_true n hn ((bs.length : Int) - (k : Int)) (by omega) (by omega) w (by omega))
        rw [tb_short HT.out hm0 hm1 hs]
        go_enter Try.func19, Try.ntmps19
        go_wp2_with (first | (go_at_call 10; refine H10.out.mono ?_; rintro e w' ⟨rfl, rfl⟩) | (go_at_call_of 39 (Value.int IntKind.i64 most); refine HB.out.mono ?_; rintro e w' ⟨rfl, rfl⟩) | (go_at_call 39; refine HB2.out.mono ?_; rintro e w' ⟨rfl, rfl⟩))
        go_ret3
        exact GivesT.none 0 3 w
      · have hs' : k + n ≤ bs.length := by omega
        have HB2 := Lib.hid (bey39_false n hn ((bs.length : Int) - (k : Int)) (by omega) (by omega) w (by omega))
        rw [tb_good HT.out hm0 hm1 hs']
        clear hs
        by_cases hck : c = k
        · subst hck
          have HP := Lib.hid (HV.out.piece hs' 0 (by omega) a (by intro h; exact absurd rfl h) (fun _ => rfl))
          go_enter Try.func19, Try.ntmps19
          go_wp2_with (first | (go_at_call 10; refine H10.out.mono ?_; rintro e w' ⟨rfl, rfl⟩) | (go_at_call_of 39 (Value.int IntKind.i64 most); refine HB.out.mono ?_; rintro e w' ⟨rfl, rfl⟩) | (go_at_call 39; refine HB2.out.mono ?_; rintro e w' ⟨rfl, rfl⟩) | fail)
          refine (fresh38_0 _ (by simp; omega) _ _ HP.out).mono ?_
          rintro e w2 ⟨v2, rfl, ho2, hB2⟩
          go_wp2
          go_ret3
          exact ⟨v2, ret_t (by dsimp only; omega), ho2, hB2⟩
        · have HP := Lib.hid (HV.out.piece hs' (c - k) rfl (a.map (·.add k)) (fun _ => rfl) (fun h => by have := HN.out (by simpa using h); omega))
          go_enter Try.func19, Try.ntmps19
          go_wp2_with (first | (go_at_call 10; refine H10.out.mono ?_; rintro e w' ⟨rfl, rfl⟩) | (go_at_call_of 39 (Value.int IntKind.i64 most); refine HB.out.mono ?_; rintro e w' ⟨rfl, rfl⟩) | (go_at_call 39; refine HB2.out.mono ?_; rintro e w' ⟨rfl, rfl⟩) | fail)
          refine (fresh38_0 _ (by simp; omega) _ _ HP.out).mono ?_
          rintro e w2 ⟨v2, rfl, ho2, hB2⟩
          go_wp2
          go_ret3
          exact ⟨v2, ret_t (by dsimp only; omega), ho2, hB2⟩
  all_goals
    rw [tb_err h (by decide)]
    have H10 := Lib.hid (take10' h hl _ w HV.out)
    clear h
    go_enter Try.func19, Try.ntmps19
    go_wp2_with (go_at_call 10; refine H10.out.mono ?_; rintro e w' ⟨rfl, rfl⟩)
    go_ret3
    exact GivesT.none 0 _ w

set_option maxRecDepth 100000 in
set_option maxHeartbeats 1000000 in
theorem tb20 (bs : List UInt8) (hl : bs.length ≤ 140737488355328) (most : Int) (h1 : -9223372036854775808 ≤ most) (h2 : most ≤ 9223372036854775807) (v : Value) (w : World) (hv : RB w v bs) :
    Calls Try.prog 20 #[v, .int .i64 most] w (GivesT (tb bs most) w) := by
  obtain ⟨a, c, e1, hc, hn0⟩ := hv.form
  have HV := Lib.hid hv
  have HN := Lib.hid hn0
  clear hv hn0
  subst e1
  rcases tk_cases bs with ⟨n, k, h, hn, hk, hkl⟩ | h | h
  · have H11 := Lib.hid (take11' h hl _ w HV.out)
    have HT := Lib.hid h
    clear h
    by_cases hm0 : most < 0
    · rw [tb_long HT.out (.inl hm0)]
      go_enter Try.func20, Try.ntmps20
      go_wp2_with (go_at_call 11; refine H11.out.mono ?_; rintro e w' ⟨rfl, rfl⟩)
      go_ret3
      exact GivesT.none 0 2 w
    by_cases hm1 : most < (n : Int)
    · rw [tb_long HT.out (.inr hm1)]
      go_enter Try.func20, Try.ntmps20
      go_wp2_with (go_at_call 11; refine H11.out.mono ?_; rintro e w' ⟨rfl, rfl⟩)
      go_ret3
      exact GivesT.none 0 2 w
    have hm2 : 0 ≤ most := by omega
    have hm3 : (n : Int) ≤ most := by omega
    clear hm0 hm1
    by_cases hs : bs.length < k + n
    · rw [tb_short HT.out hm2 hm3 hs]
      go_enter Try.func20, Try.ntmps20
      go_wp2_with (go_at_call 11; refine H11.out.mono ?_; rintro e w' ⟨rfl, rfl⟩)
      go_ret3
      exact GivesT.none 0 3 w
    · have hs' : k + n ≤ bs.length := by omega
      rw [tb_good HT.out hm2 hm3 hs']
      clear hs
      by_cases hck : c = k
      · subst hck
        have HP := Lib.hid (show RB w (.slice a (c + n - c) 0) ((bs.drop c).take n) from by rw [show c + n - c = n by omega]; exact HV.out.piece hs' 0 (by omega) a (by intro h; exact absurd rfl h) (fun _ => rfl))
        go_enter Try.func20, Try.ntmps20
        go_wp2_with (first | (go_at_call 11; refine H11.out.mono ?_; rintro e w' ⟨rfl, rfl⟩) | (at_builtin; refine wpList_append_rb rfl _ _ rfl w.heap.size _ [] rfl (World.ownsRow_nil _ _ _ _) _ _ rfl HP.out (by simp; omega) (Nat.le_refl _) ?_; intro v2 w2 ho2 hB2))
        go_ret3
        exact ⟨v2, ret_t (by dsimp only; omega), by simpa using ho2, hB2⟩
      · have HP := Lib.hid (show RB w (.slice (a.map (·.add k)) (k + n - k) (c - k)) ((bs.drop k).take n) from by rw [show k + n - k = n by omega]; exact HV.out.piece hs' (c - k) rfl (a.map (·.add k)) (fun _ => rfl) (fun h => by have := HN.out (by simpa using h); omega))
        go_enter Try.func20, Try.ntmps20
        go_wp2_with (first | (go_at_call 11; refine H11.out.mono ?_; rintro e w' ⟨rfl, rfl⟩) | (at_builtin; refine wpList_append_rb rfl _ _ rfl w.heap.size _ [] rfl (World.ownsRow_nil _ _ _ _) _ _ rfl HP.out (by simp; omega) (Nat.le_refl _) ?_; intro v2 w2 ho2 hB2))
        go_ret3
        exact ⟨v2, ret_t (by dsimp only; omega), by simpa using ho2, hB2⟩
  all_goals
    rw [tb_err h (by decide)]
    have H11 := Lib.hid (take11' h hl _ w HV.out)
    clear h
    go_enter Try.func20, Try.ntmps20
    go_wp2_with (go_at_call 11; refine H11.out.mono ?_; rintro e w' ⟨rfl, rfl⟩)
    go_ret3
    exact GivesT.none 0 _ w
end Go.Proofs.Ytllpohacomknfaa
