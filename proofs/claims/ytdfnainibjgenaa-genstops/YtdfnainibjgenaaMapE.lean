/- gen.Map with a function that counts its calls (GenStops). -/
import Derived.Test.YtdfnainibjgenaaCntE
namespace Go.Proofs.Ytdfnainibjgenaa
open Go.RowKit Go.Shelf
set_option linter.unusedVariables false
set_option linter.unusedSimpArgs false
attribute [local go_sem] Oper.semAt_some wide_fn wide_depth

set_option maxRecDepth 100000 in
set_option maxHeartbeats 1000000 in
theorem cls48 (x : Int) (v : Nat) (hv : v < 1000000) (Cc : Nat) (W : World) (hb : Boxed W Cc 3 (.int .i64 v)) :
    Calls Try.prog 48 #[.int .i64 x, .pointer (some ⟨Cc, 0, none⟩)] W fun e w' => e = .returned (.int .i64 x) ∧ w' = W.setCell ⟨Cc, 0, none⟩ (.int .i64 (v + 1 : Nat)) := by
  refine (callsIn_wide (n := 0)).1 ?_
  refine callsIn_of_wp Try.func48 rfl trivial ?_ rfl
  simp only [Try.ntmps48, List.size_toArray, List.length_cons, List.length_nil, Nat.reduceAdd, Nat.reduceSub, Array.replicate_succ, Array.replicate_zero, List.push_toArray, List.append_toArray, List.nil_append, List.cons_append]
  have hc := hb.cell
  have hf := hb.frozen
  have hl := hb.lt
  gi_wp2
  go_ret
  exact ⟨rfl, by simp⟩

theorem map_seqE {xs : List Int} {s : Value} {C : Nat → Prop} {w : World} (Cc : Nat) (h : SeqV Try.prog s C encI xs w) {bf bs : Nat} (hbf : Boxed w bf 33 (.func (.func 48) #[] #[.pointer (some ⟨Cc, 0, none⟩)])) (hbs : Boxed w bs 27 s) :
    SeqE Try.prog (.func (.func 62) #[] #[.pointer (some ⟨bf, 0, none⟩), .pointer (some ⟨bs, 0, none⟩)]) (fun k => C k ∨ k = bf ∨ k = bs) encI xs Cc 3 w := by
  refine ⟨?_, 62, _, rfl, enters_of Try.func62 (by kernel_rfl) rfl, ?_⟩
  · rintro k (hk | rfl | rfl)
    · exact h.1 k hk
    · exact hbf.lt
    · exact hbs.lt
  rintro y J Jx Jm H W ⟨fn, lb, hy⟩ hC hCH hJ hJx hJm hinc hr h0
  refine m62 (xs := xs) (enc := encI) (fun x => x) fn lb (.func 48) #[.pointer (some ⟨Cc, 0, none⟩)] s y _ bf bs W hy rfl C H J Jx Jm (h.later fun b hb => hC b (.inl hb)) ((hC bf (.inr (.inl rfl))).trans hbf) ((hC bs (.inr (.inr rfl))).trans hbs)
    (fun b hb => hCH b (.inl hb)) (hCH bf (.inr (.inl rfl))) hJ hJx ?_ hr h0
  intro pre x rest H1 W1 hx hj
  obtain ⟨hcc, v, hv, hbv, hjm⟩ := hinc pre x rest H1 W1 hx hj
  refine .inl ⟨48, _, rfl, enters_of Try.func48 (by kernel_rfl) rfl, Calls.mono (cls48 x v hv Cc W1 hbv) ?_⟩
  rintro e W' ⟨rfl, rfl⟩
  exact ⟨H1, rfl, Grows.refl _ _, Only.setCell (.inl hcc) _, hjm⟩

/-- gen.Map(s, f), f counting at Cc. -/
theorem map_callE {xs : List Int} {s : Value} {C : Nat → Prop} {w : World} (Cc : Nat) (h : SeqV Try.prog s C encI xs w) :
    Calls Try.prog 23 #[s, .func (.func 48) #[] #[.pointer (some ⟨Cc, 0, none⟩)]] w (GivesSeqE Try.prog C encI xs Cc 3 w) := by
  obtain ⟨gs, ls, hs⟩ := h.func
  obtain ⟨f, hfe⟩ : ∃ f, f = Value.func (.func 48) #[] #[.pointer (some ⟨Cc, 0, none⟩)] := ⟨_, rfl⟩
  rw [← hfe]
  refine Calls.mono (map23 _ _ _ s f hs _ _ _ hfe w) ?_
  rintro e w' ⟨rfl, rfl⟩
  obtain ⟨v, hv⟩ : ∃ v, v = Value.func (.func 62) #[] #[.pointer (some ⟨w.heap.size + 1, 0, none⟩), .pointer (some ⟨w.heap.size, 0, none⟩)] := ⟨_, rfl⟩
  rw [← hv]
  have hB : Below w.heap.size w (((w.alloc (.cells #[s] 27)).alloc (.cells #[f] 33)).alloc (.cells #[v] 27)) :=
    (((Below.refl _ w).alloc (Nat.le_refl _) _).alloc (by simp) _).alloc (by simp; omega) _
  have b1 : Boxed (((w.alloc (.cells #[s] 27)).alloc (.cells #[f] 33)).alloc (.cells #[v] 27)) w.heap.size 27 s := ((Boxed.new w 27 s).alloc _).alloc _
  have b2 : Boxed (((w.alloc (.cells #[s] 27)).alloc (.cells #[f] 33)).alloc (.cells #[v] 27)) (w.heap.size + 1) 33 f := by
    have := (Boxed.new (w.alloc (.cells #[s] 27)) 33 f).alloc (.cells #[v] 27); rwa [World.size_alloc] at this
  have b3 : Boxed (((w.alloc (.cells #[s] 27)).alloc (.cells #[f] 33)).alloc (.cells #[v] 27)) (w.heap.size + 2) 27 v := by
    have := Boxed.new ((w.alloc (.cells #[s] 27)).alloc (.cells #[f] 33)) 27 v; rwa [World.size_alloc, World.size_alloc] at this
  generalize ((w.alloc (.cells #[s] 27)).alloc (.cells #[f] 33)).alloc (.cells #[v] 27) = w2 at *
  rw [hfe] at b2
  have hq := map_seqE Cc (h.below hB) b2 b1
  rw [← hv] at hq
  refine ⟨_, _, rfl, sound_seqE hq b3, hB, ?_⟩
  rintro k ((hk | rfl | rfl) | rfl)
  · exact .inl hk
  all_goals exact .inr (by omega)
end Go.Proofs.Ytdfnainibjgenaa
