/- gen.Count; the law's small helpers: twice, odd, upTo, short; SameInts; awake. -/
import Derived.Test.YtikomlcghplchaaMap
import Derived.BigQuiet
import Derived.Deep.QuietTactic
namespace Go.Proofs.Ytikomlcghplchaa
open Go.RowKit Go.Shelf
set_option linter.unusedVariables false
set_option linter.unusedSimpArgs false
attribute [local go_sem] Oper.semAt_some wide_fn wide_depth

/-- 0, 1, .. below m. -/
def nums (m : Nat) : List Int := (List.range m).map Int.ofNat
theorem nums_length (m : Nat) : (nums m).length = m := by simp [nums]
theorem nums_take (m k : Nat) (h : k ≤ m) : (nums m).take k = nums k := by simp [nums, ← List.map_take, List.take_range, h]
theorem nums_succ (k : Nat) : nums (k + 1) = nums k ++ [(k : Int)] := by simp [nums, List.range_succ]
theorem nums_split (m k : Nat) (h : k < m) : ∃ rest, nums m = nums k ++ (k : Int) :: rest := by
  refine ⟨(nums m).drop (k + 1), ?_⟩
  have h1 : nums m = (nums m).take (k + 1) ++ (nums m).drop (k + 1) := (List.take_append_drop _ _).symm
  rw [nums_take m (k + 1) (by omega), nums_succ] at h1
  rw [List.append_assoc] at h1
  exact h1

set_option maxRecDepth 100000 in
set_option maxHeartbeats 1000000 in
theorem k61 (n : Int) (hn : (Lit.int .i64 n).wf = true) (fn : Fn) (lb : Array Value) (y : Value) (hy : y = .func fn #[] lb) (bn : Nat) (H : Nat → Prop) (W : World) (hb : Boxed W bn 3 (.int .i64 n))
    (J Jx : List Int → (Nat → Prop) → World → Prop)
    (hr : ∀ pre x rest H1 W1, nums n.toNat = pre ++ x :: rest → J pre H1 W1 → CallV Try.prog y #[encI x] W1 (RoundR J Jx (pre ++ [x]) H1 W1)) (h0 : J [] H W) :
    Calls Try.prog 61 #[y, .pointer (some ⟨bn, 0, none⟩)] W (EndR J Jx (nums n.toNat) H W) := by
  subst hy
  refine (callsIn_wide (n := 0)).1 ?_
  refine callsIn_of_wp Try.func61 rfl trivial ?_ rfl
  simp only [Try.ntmps61, List.size_toArray, List.length_cons, List.length_nil, Nat.reduceAdd, Nat.reduceSub, Array.replicate_succ, Array.replicate_zero, List.push_toArray, List.append_toArray, List.nil_append, List.cons_append]
  have hc1 := hb.cell
  have Hr := Lib.hid hr
  have Hn := Lib.hid hn
  clear hr hn
  gi_wp2
  gi_loopw [5] (fun i wr => ∃ (k : Nat) (H1 : Nat → Prop), k ≤ n.toNat ∧ i = .int .i64 k ∧ J (nums k) H1 wr ∧ Grows H W H1 ∧ Only H W wr) (fun i _ => n.toNat - (intOf i).toNat)
  case atStart => exact ⟨0, H, Nat.zero_le _, rfl, h0, Grows.refl _ _, Only.refl _ _⟩
  case round =>
    obtain ⟨k, H1, hk, rfl, hj, hg, ho⟩ := hrel
    by_cases hlt : (k : Int) < n
    · obtain ⟨rest, hx⟩ := nums_split n.toNat k (by omega)
      have hcall := Lib.hid (Hr.out (nums k) (k : Int) rest H1 wr hx hj)
      rw [← nums_succ] at hcall
      have hwr : wrap64 ((k : Int) + 1) = (k : Int) + 1 := by
        have hn := Hn.out
        simp only [Lit.wf, IntKind.min, IntKind.max, IntKind.signed, IntKind.bits, Bool.and_eq_true, decide_eq_true_eq, if_true] at hn
        unfold wrap64; omega
      clear hx
      gi_wp2_with (refine wpListIn_callV (o := ⟨some 10, _, _, _, _, _⟩) rfl rfl _ _ _ rfl _ _ rfl rfl hcall.out ?_)
      rintro e W3 ⟨H3, hg3, ho3, hend⟩
      have hg' : Grows H W H3 := hg.trans hg3 ho.size
      have ho' : Only H W W3 := ho.trans ho3 hg
      have HG := Lib.hid hg'
      have HO := Lib.hid ho'
      clear hg' ho' hg3 ho3 hcall
      rcases hend with ⟨rfl, hj3⟩ | ⟨rfl, hj3⟩
      · refine ⟨_, rfl, ?_⟩
        gi_wp2
        simp only [hwr]
        go_roundw
        case rel => exact ⟨k + 1, H3, by omega, by simp, hj3, HG.out, HO.out⟩
        case measure => simp [intOf]; omega
      · refine ⟨_, rfl, ?_⟩
        gi_wp2
        refine bodyPost_ret (results_none rfl _ _ _) rfl ?_
        refine ⟨⟨_, rfl⟩, H3, HG.out, HO.out, .inr ⟨_, ?_, hj3⟩⟩
        rw [← nums_take n.toNat (k + 1) (by omega)]; exact List.take_prefix _ _
    · have e1 : k = n.toNat := by omega
      rw [e1] at hj
      have hge : n ≤ (k : Int) := by omega
      clear e1
      gi_wp2
      go_end0
      exact ⟨⟨_, rfl⟩, H1, hg, ho, .inl hj⟩

theorem count_seq {n : Int} (hn : (Lit.int .i64 n).wf = true) {w : World} {bn : Nat} (hb : Boxed w bn 3 (.int .i64 n)) :
    SeqV Try.prog (.func (.func 61) #[] #[.pointer (some ⟨bn, 0, none⟩)]) (fun k => k = bn) encI (nums n.toNat) w := by
  refine ⟨fun k hk => hk ▸ hb.lt, 61, _, rfl, enters_of Try.func61 (by kernel_rfl) rfl, ?_⟩
  rintro y J Jx H W ⟨fn, lb, hy⟩ hC hCH hJ hJx hr h0
  exact k61 n hn fn lb y hy bn H W ((hC bn rfl).trans hb) J Jx hr h0

set_option maxRecDepth 100000 in
set_option maxHeartbeats 400000 in
theorem count18 {n : Int} (hn : (Lit.int .i64 n).wf = true) (w : World) : Calls Try.prog 18 #[.int .i64 n] w (GivesSeq Try.prog (fun _ => False) encI (nums n.toNat) w) := by
  refine (callsIn_wide (n := 0)).1 ?_
  refine callsIn_of_wp Try.func18 rfl trivial ?_ rfl
  simp only [Try.ntmps18, List.size_toArray, List.length_cons, List.length_nil, Nat.reduceAdd, Nat.reduceSub, Array.replicate_succ, Array.replicate_zero, List.push_toArray, List.append_toArray, List.nil_append, List.cons_append]
  gi_wp2_with (gi_at_call 58; refine ((callsIn_wide (n := 0)).2 (sound58 _ _ _ _ (.inl rfl) _)).mono ?_; rintro e w' ⟨rfl, rfl⟩)
  go_ret
  have hB : Below w.heap.size w ((w.alloc (.cells #[.int .i64 n] 3)).alloc (.cells #[.func (.func 61) #[] #[.pointer (some ⟨w.heap.size, 0, none⟩)]] 27)) := ((Below.refl _ w).alloc (Nat.le_refl _) _).alloc (by simp) _
  have b1 : Boxed ((w.alloc (.cells #[.int .i64 n] 3)).alloc (.cells #[.func (.func 61) #[] #[.pointer (some ⟨w.heap.size, 0, none⟩)]] 27)) w.heap.size 3 (.int .i64 n) := (Boxed.new w 3 _).alloc _
  have b2 : Boxed ((w.alloc (.cells #[.int .i64 n] 3)).alloc (.cells #[.func (.func 61) #[] #[.pointer (some ⟨w.heap.size, 0, none⟩)]] 27)) (w.heap.size + 1) 27 (.func (.func 61) #[] #[.pointer (some ⟨w.heap.size, 0, none⟩)]) := by
    have := Boxed.new (w.alloc (.cells #[.int .i64 n] 3)) 27 (.func (.func 61) #[] #[.pointer (some ⟨w.heap.size, 0, none⟩)]); rwa [World.size_alloc] at this
  refine ⟨_, _, rfl, sound_seq (count_seq hn b1) b2, hB, ?_⟩
  rintro k (rfl | rfl)
  all_goals exact .inr (by omega)

set_option maxRecDepth 100000 in
set_option maxHeartbeats 400000 in
theorem twice47 (x : Int) (w : World) : Calls Try.prog 47 #[.int .i64 x] w fun e w' => e = .returned (.int .i64 (wrap64 (2 * x))) ∧ w = w' := by
  refine (callsIn_wide (n := 0)).1 ?_
  refine callsIn_of_wp Try.func47 rfl trivial ?_ rfl
  simp only [Try.ntmps47, List.size_toArray, List.length_cons, List.length_nil, Nat.reduceAdd, Nat.reduceSub, Array.replicate_succ, Array.replicate_zero, List.push_toArray, List.append_toArray, List.nil_append, List.cons_append]
  gi_wp2
  go_ret
  exact ⟨rfl, rfl⟩

theorem twice_pure (w : World) : PureF Try.prog (.func (.func 47) #[] #[]) (fun _ => False) encI encI (fun x => wrap64 (2 * x)) w :=
  ⟨fun _ h => h.elim, ⟨_, _, rfl⟩, fun x W _ => .inl ⟨47, #[], rfl, enters_of Try.func47 (by kernel_rfl) rfl, Calls.mono (twice47 x W) fun e w' ⟨he, hw⟩ => ⟨he, hw ▸ Below.refl _ _⟩⟩⟩

/-- odd. -/
def oddB (x : Int) : Bool := bits .and .i64 x 1 == 1

set_option maxRecDepth 100000 in
set_option maxHeartbeats 400000 in
theorem odd20 (x : Int) (w : World) : Calls Try.prog 20 #[.int .i64 x] w fun e w' => e = .returned (.bool (oddB x)) ∧ w = w' := by
  refine (callsIn_wide (n := 0)).1 ?_
  refine callsIn_of_wp Try.func20 rfl trivial ?_ rfl
  simp only [Try.ntmps20, List.size_toArray, List.length_cons, List.length_nil, Nat.reduceAdd, Nat.reduceSub, Array.replicate_succ, Array.replicate_zero, List.push_toArray, List.append_toArray, List.nil_append, List.cons_append]
  gi_wp2
  go_ret
  exact ⟨rfl, rfl⟩

theorem odd_pure (w : World) : PureF Try.prog (.func (.func 20) #[] #[]) (fun _ => False) encI Value.bool oddB w :=
  ⟨fun _ h => h.elim, ⟨_, _, rfl⟩, fun x W _ => .inl ⟨20, #[], rfl, enters_of Try.func20 (by kernel_rfl) rfl, Calls.mono (odd20 x W) fun e w' ⟨he, hw⟩ => ⟨he, hw ▸ Below.refl _ _⟩⟩⟩
end Go.Proofs.Ytikomlcghplchaa
