/- Builds of structs; loads of strings. -/
import Derived.Test.YtaclncmkdpjnlaaTermA
import Derived.Test.YtaclncmkdpjnlaaLevB
namespace Go.Proofs.Ytaclncmkdpjnlaa
open Go.RowKit Go.Shelf
set_option linter.unusedVariables false
set_option linter.unusedSimpArgs false
abbrev emptyB : ByteArray := ByteArray.mk #[]
theorem b70_01 (k n : Int) (w : World) : (Instr.build 67 [(0, Value.int .i64 k), (1, Value.int .i64 n)].toArray).run Try.prog w = .ok (.agg [Value.int .i64 k, Value.int .i64 n].toArray) w := run_build w 67 _ _ (by kernel_rfl)
theorem b70_ (w : World) : (Instr.build 67 [].toArray).run Try.prog w = .ok (.agg [Value.int .i64 0, Value.int .i64 0].toArray) w := run_build w 67 _ _ (by kernel_rfl)
theorem b93_01 (k n : Int) (w : World) : (Instr.build 81 [(0, Value.int .i64 k), (1, Value.int .i64 n)].toArray).run Try.prog w = .ok (.agg [Value.int .i64 k, Value.int .i64 n].toArray) w := run_build w 81 _ _ (by kernel_rfl)
theorem b110_0 (k : Int) (w : World) : (Instr.build 108 [(0, Value.int .i64 k)].toArray).run Try.prog w = .ok (.agg [Value.int .i64 k].toArray) w := run_build w 108 _ _ (by kernel_rfl)
theorem b27_ (w : World) : (Instr.build 27 [].toArray).run Try.prog w = .ok (.agg z8.toArray) w := run_build w 27 _ _ (by kernel_rfl)
theorem b27_01 (k n : Int) (w : World) : (Instr.build 27 [(0, Value.int .i64 k), (1, Value.int .i64 n)].toArray).run Try.prog w = .ok (tv ⟨k, n, emptyB, (0, 0, nilS), nilS, nilS⟩) w := run_build w 27 _ _ (by kernel_rfl)
theorem b27_05 (k : Int) (a : Option Addr) (m c : Nat) (w : World) : (Instr.build 27 [(0, Value.int .i64 k), (5, Value.slice a m c)].toArray).run Try.prog w = .ok (tv ⟨k, 0, emptyB, (0, 0, nilS), nilS, .slice a m c⟩) w := run_build w 27 _ _ (by kernel_rfl)
theorem b27_024 (k : Int) (s : ByteArray) (a : Option Addr) (m c : Nat) (w : World) : (Instr.build 27 [(0, Value.int .i64 k), (2, Value.string s), (4, Value.slice a m c)].toArray).run Try.prog w = .ok (tv ⟨k, 0, s, (0, 0, nilS), .slice a m c, nilS⟩) w := run_build w 27 _ _ (by kernel_rfl)
theorem oneII (z y : Int) : ∀ u ∈ [Value.int .i64 z, Value.int .i64 y], u.oneCell' = true := by simp [Value.oneCell']
theorem one8 : ∀ u ∈ z8, u.oneCell' = true := by simp [Value.oneCell']
theorem one_tc0 (k n : Int) (s : ByteArray) (ts : Value) (h : ts.oneCell' = true) : ∀ u ∈ tc ⟨k, n, s, (0, 0, nilS), nilS, ts⟩, u.oneCell' = true := by
  intro u hu
  simp only [tc, List.mem_cons, List.not_mem_nil, or_false] at hu
  rcases hu with rfl | rfl | rfl | rfl | rfl | rfl | rfl | rfl <;> first | rfl | exact h
theorem ok0 (W : World) (A : Nat → Prop) (k n : Int) (s : ByteArray) (ts : Value) : Ok W A ⟨k, n, s, (0, 0, nilS), nilS, ts⟩ := ⟨⟨.mk 0 0 [], .mk (xs := []) (Rn.nil W A 3) rfl (fun i x l h => by simp at h)⟩, [], RVn.nil W A⟩
end Go.Proofs.Ytaclncmkdpjnlaa
