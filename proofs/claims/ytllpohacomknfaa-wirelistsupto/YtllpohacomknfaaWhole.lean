/- wire.fenced, small, wire.Whole. -/
import Derived.Test.YtllpohacomknfaaTakeB
namespace Go.Proofs.Ytllpohacomknfaa
open Go.RowKit
set_option linter.unusedVariables false
set_option linter.unusedSimpArgs false

theorem run_equalIn_func_nil {P : Program} (w : World) (d : Nat) (t : TypeId) {x : Array TypeId} {y : Array TypeId} {z : Bool} (h : P.underlying t = some (.func x y z)) (fn : Fn) (a b : Array Value) :
    (Op.equalIn (d + 1) t (.func fn a b) .nilFunc).run P w = .ok false w := by simp [Op.equalIn, run_underlying h]
theorem run_equalIn_nil_nil {P : Program} (w : World) (d : Nat) (t : TypeId) {x : Array TypeId} {y : Array TypeId} {z : Bool} (h : P.underlying t = some (.func x y z)) :
    (Op.equalIn (d + 1) t .nilFunc .nilFunc).run P w = .ok true w := by simp [Op.equalIn, run_underlying h]
/-- A function value that is there is not nil. -/
theorem run_eql_func_nil {P : Program} (w : World) (t : TypeId) {x : Array TypeId} {y : Array TypeId} {z : Bool} (h : P.underlying t = some (.func x y z)) (fn : Fn) (a b : Array Value) :
    (binOp .eql t (.func fn a b) .nilFunc).run P w = .ok (.bool false) w := by
  simp only [binOp]
  simp [Op.equal, Op.maxDepth, run_equalIn_func_nil w 9999 t h]
theorem run_eql_nil_nil {P : Program} (w : World) (t : TypeId) {x : Array TypeId} {y : Array TypeId} {z : Bool} (h : P.underlying t = some (.func x y z)) :
    (binOp .eql t .nilFunc .nilFunc).run P w = .ok (.bool true) w := by
  simp only [binOp]
  simp [Op.equal, Op.maxDepth, run_equalIn_nil_nil w 9999 t h]


set_option maxRecDepth 100000 in
set_option maxHeartbeats 1000000 in
theorem fenced40 (a : Option Addr) (n c : Nat) (hn : n ≤ 140737488355328) (hc : n ≤ c) (w : World) :
    Calls Try.prog 40 #[.slice a n c] w fun e w' => e = .returned (.slice a n n) ∧ w = w' := by
  go_enter Try.func40, Try.ntmps40
  go_wp2
  go_ret
  exact ⟨rfl, rfl⟩

theorem RB.fence {W : World} {a : Option Addr} {c : Nat} {bs : List UInt8} (h : RB W (.slice a bs.length c) bs) : RB W (.slice a bs.length bs.length) bs := by
  rcases h with ⟨a', c', e, rfl, h⟩ | ⟨b, off, cap, e, h1, h2⟩
  · exact .inl ⟨_, _, rfl, rfl, fun _ => rfl⟩
  · cases e
    exact .inr ⟨b, off, _, rfl, Nat.le_refl _, h2⟩

theorem tb_le (bs : List UInt8) (most : Int) : (tb bs most).2.1 ≤ bs.length ∧ (tb bs most).1.length ≤ bs.length := by
  rcases tk_cases bs with ⟨n, k, h, hn, hk, hkl⟩ | h | h
  · by_cases hm : most < 0 ∨ most < (n : Int)
    · rw [tb_long h hm]; simp
    · by_cases hs : bs.length < k + n
      · rw [tb_short h (by omega) (by omega) hs]; simp
      · rw [tb_good h (by omega) (by omega) (by omega)]; simp; omega
  all_goals rw [tb_err h (by decide)]; simp
theorem tb_zero {bs : List UInt8} {most : Int} (h : (tb bs most).2.2 ≠ 0) : (tb bs most).1 = [] ∧ (tb bs most).2.1 = 0 := by
  rcases tk_cases bs with ⟨n, k, h', hn, hk, hkl⟩ | h' | h'
  · by_cases hm : most < 0 ∨ most < (n : Int)
    · rw [tb_long h' hm]; simp
    · by_cases hs : bs.length < k + n
      · rw [tb_short h' (by omega) (by omega) hs]; simp
      · rw [tb_good h' (by omega) (by omega) (by omega)] at h; simp at h
  all_goals rw [tb_err h' (by decide)]; simp

set_option maxRecDepth 100000 in
set_option maxHeartbeats 1000000 in
theorem small24 (bs : List UInt8) (hl : bs.length ≤ 140737488355328) (v : Value) (w : World) (hv : RB w v bs) :
    Calls Try.prog 24 #[v] w (GivesT (tb bs 5) w) := by
  have H := Lib.hid (tb19 bs hl 5 (by decide) (by decide) v w hv)
  go_enter Try.func24, Try.ntmps24
  go_wp2_with fail
  refine H.out.mono ?_
  rintro e w1 hG
  have HG := Lib.hid hG
  obtain ⟨v1, rfl, _⟩ := hG
  go_wp2
  go_ret3
  exact HG.out

/-- What Whole tells. -/
def wh (r : List UInt8 × Nat × Nat) (n : Nat) : List UInt8 × Nat := if r.2.2 ≠ 0 then ([], r.2.2) else if r.2.1 ≠ n then ([], 4) else (r.1, 0)

/-- What a call that tells bytes and an error leaves. -/
def GivesW (r : List UInt8 × Nat) (w : World) (e : Ending) (w' : World) : Prop :=
  ∃ v, e = .returned (.tuple #[v, .int .i64 (r.2 : Int)]) ∧ w'.ownsRow w.heap.size 5 1 v r.1.length (r.1.map encU) ∧ Below w.heap.size w w'

set_option maxRecDepth 100000 in
set_option maxHeartbeats 1000000 in
theorem whole29 (bs : List UInt8) (hl : bs.length ≤ 140737488355328) (v : Value) (w : World) (hv : RB w v bs) :
    Calls Try.prog 29 #[v, .func (.func 24) #[] #[]] w (GivesW (wh (tb bs 5) bs.length) w) := by
  have q40 := fun w => run_eql_func_nil (P := Try.prog) w 40 Try.underlying40
  obtain ⟨a, c, e1, hc, hn0⟩ := hv.form
  subst e1
  have HF := Lib.hid (small24 bs hl _ w hv.fence)
  have H40 := Lib.hid (fenced40 a bs.length c hl hc w)
  clear hv hn0
  have hle := (tb_le bs 5).1
  obtain ⟨r, hr⟩ : ∃ r, tb bs 5 = r := ⟨_, rfl⟩
  rw [hr] at HF hle ⊢
  obtain ⟨out, k, e⟩ := r
  simp only at hle
  clear hr
  by_cases he : e = 0
  · subst he
    by_cases hk : k = bs.length
    · have HW := Lib.hid (show wh (out, k, 0) bs.length = (out, 0) from by simp [wh, hk])
      rw [HW.out]
      have hkI : (k : Int) = (bs.length : Int) := by omega
      have hne : ((k : Int) != (bs.length : Int)) = false := by rw [hkI]; simp
      clear hk hkI
      go_enter Try.func29, Try.ntmps29
      go_wp2_with (first | (go_at_call 40; refine H40.out.mono ?_; rintro e w' ⟨rfl, rfl⟩) | (go_at_call 24; refine HF.out.mono ?_; rintro e w' ⟨v1, rfl, ho, hB⟩))
      go_ret2
      exact ⟨v1, rfl, ho, hB⟩
    · have HW := Lib.hid (show wh (out, k, 0) bs.length = ([], 4) from by simp [wh, hk])
      rw [HW.out]
      have hne : ((k : Int) != (bs.length : Int)) = true := by simp; omega
      clear hk
      go_enter Try.func29, Try.ntmps29
      go_wp2_with (first | (go_at_call 40; refine H40.out.mono ?_; rintro e w' ⟨rfl, rfl⟩) | (go_at_call 24; refine HF.out.mono ?_; rintro e w' ⟨v1, rfl, ho, hB⟩))
      go_ret2
      exact ⟨_, rfl, World.ownsRow_nil _ _ _ _, hB⟩
  · have HW := Lib.hid (show wh (out, k, e) bs.length = ([], e) from by simp [wh, he])
    rw [HW.out]
    have hne : ((e : Int) != 0) = true := by simp; omega
    clear he
    go_enter Try.func29, Try.ntmps29
    go_wp2_with (first | (go_at_call 40; refine H40.out.mono ?_; rintro e w' ⟨rfl, rfl⟩) | (go_at_call 24; refine HF.out.mono ?_; rintro e w' ⟨v1, rfl, ho, hB⟩))
    go_ret2
    exact ⟨_, rfl, World.ownsRow_nil _ _ _ _, hB⟩
end Go.Proofs.Ytllpohacomknfaa
