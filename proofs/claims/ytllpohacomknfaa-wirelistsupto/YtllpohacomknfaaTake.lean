/- wire.numberLength, wire.soundNumber, wire.Take. -/
import Derived.Test.YtllpohacomknfaaMem
namespace Go.Proofs.Ytllpohacomknfaa
open Go.RowKit
set_option linter.unusedVariables false
set_option linter.unusedSimpArgs false

set_option maxRecDepth 100000 in
set_option maxHeartbeats 1000000 in
theorem len35 (bs : List UInt8) (hl : bs.length ≤ 140737488355328) (v : Value) (w : World) (hv : RB w v bs) :
    Calls Try.prog 35 #[v] w fun e w' => e = .returned (.int .i64 ((match elen bs with | none => 0 | some j => j + 1 : Nat) : Int)) ∧ w = w' := by
  rcases hv with ⟨a, c, rfl, rfl, h⟩ | ⟨b, off, cap, rfl, h1, h2⟩
  · go_enter Try.func35, Try.ntmps35
    go_wp2
    go_loop [7] (fun i => i = .int .i64 0) (fun _ => 0)
    case atStart => rfl
    case round =>
      subst hrel
      go_wp2
      go_ret
      exact ⟨rfl, rfl⟩
  · have H2 := Lib.hid h2
    clear h2
    cases he : elen bs with
    | none =>
      have HE := Lib.hid (elen_none he)
      clear he
      go_enter Try.func35, Try.ntmps35
      go_wp2
      go_loop [7] (fun i => ∃ k : Nat, k ≤ bs.length ∧ i = .int .i64 k) (fun i => bs.length - (intOf i).toNat)
      case atStart => exact ⟨0, Nat.zero_le _, rfl⟩
      case round =>
        obtain ⟨k, hk, rfl⟩ := hrel
        by_cases hlt : k < bs.length
        · obtain ⟨c, hc⟩ : ∃ c, bs[k]? = some c := ⟨_, List.getElem?_eq_getElem hlt⟩
          have hcell := H2.out k c hc
          have hb := HE.out k c hc
          have hu := UInt8.toNat_lt c
          unfold encU at hcell
          clear hc
          go_wp2
          go_round
          case rel => exact ⟨k + 1, by omega, by go_num⟩
          case measure => simp [intOf]; omega
        · go_wp2
          go_ret
          exact ⟨rfl, rfl⟩
    | some J =>
      have hJ := elen_lt he
      have HE := Lib.hid (elen_some he)
      clear he
      go_enter Try.func35, Try.ntmps35
      go_wp2
      go_loop [7] (fun i => ∃ k : Nat, k ≤ J ∧ i = .int .i64 k) (fun i => bs.length - (intOf i).toNat)
      case atStart => exact ⟨0, Nat.zero_le _, rfl⟩
      case round =>
        obtain ⟨k, hk, rfl⟩ := hrel
        have hlt : k < bs.length := by omega
        obtain ⟨c, hc⟩ : ∃ c, bs[k]? = some c := ⟨_, List.getElem?_eq_getElem hlt⟩
        have hcell := H2.out k c hc
        have hu := UInt8.toNat_lt c
        unfold encU at hcell
        by_cases hkJ : k < J
        · have hb := HE.out.2 k c hkJ hc
          clear hc
          go_wp2
          go_round
          case rel => exact ⟨k + 1, by omega, by go_num⟩
          case measure => simp [intOf]; omega
        · obtain rfl : k = J := by omega
          have hb : c.toNat < 128 := by
            obtain ⟨⟨c', hc', hb⟩, _⟩ := HE.out
            rw [hc] at hc'; cases hc'; exact hb
          clear hc
          go_wp2
          go_ret
          exact ⟨by go_num, rfl⟩

theorem ret_bool {a b : Bool} (h : a = b) : Ending.returned (.bool a) = .returned (.bool b) := by rw [h]

theorem snd_nat (j : Nat) (c : UInt8) : snd j c = (!(decide (0 < j) && decide (c.toNat = 0)) && (decide (j < 9) || decide (j = 9) && decide (c.toNat ≤ 1))) := by
  have : (c == 0) = decide (c.toNat = 0) := by rw [Bool.eq_iff_iff]; simp [← UInt8.toNat_inj]
  simp [snd, this]

set_option maxRecDepth 100000 in
set_option maxHeartbeats 1000000 in
theorem snd36 (j : Nat) (hj : j + 1 ≤ 140737488355328) (c : UInt8) (b off cap : Nat) (w : World) (hcell : w.cell? ⟨b, off + j, none⟩ = some (encU c)) :
    Calls Try.prog 36 #[.slice (some ⟨b, off, none⟩) (j + 1) cap] w fun e w' => e = .returned (.bool (snd j c)) ∧ w = w' := by
  have hu := UInt8.toNat_lt c
  unfold encU at hcell
  have hm : ((j + 1 : Nat) : Int) - 1 = (j : Int) := by omega
  clear hm
  rcases (show j ≤ 0 ∨ (0 < j ∧ c.toNat ≤ 0) ∨ (0 < j ∧ 0 < c.toNat ∧ j < 9) ∨ (9 ≤ j ∧ j ≤ 9 ∧ 0 < c.toNat ∧ c.toNat ≤ 1) ∨ (9 ≤ j ∧ j ≤ 9 ∧ 1 < c.toNat) ∨ (9 < j ∧ 0 < c.toNat) from by omega) with h | ⟨h, h'⟩ | ⟨h, h', h''⟩ | ⟨h, h', h'', h3⟩ | ⟨h, h', h''⟩ | ⟨h, h'⟩
  · have HS := Lib.hid (show snd j c = true from by rw [snd_nat]; simp; omega)
    go_enter Try.func36, Try.ntmps36
    go_wp2
    go_ret
    exact ⟨ret_bool (by rw [HS.out]; first | done | (simp; omega)), rfl⟩
  · have HS := Lib.hid (show snd j c = false from by rw [snd_nat]; simp; omega)
    go_enter Try.func36, Try.ntmps36
    go_wp2
    go_ret
    exact ⟨ret_bool (by rw [HS.out]; first | done | (simp; omega)), rfl⟩
  · have HS := Lib.hid (show snd j c = true from by rw [snd_nat]; simp; omega)
    go_enter Try.func36, Try.ntmps36
    go_wp2
    go_ret
    exact ⟨ret_bool (by rw [HS.out]; first | done | (simp; omega)), rfl⟩
  · have HS := Lib.hid (show snd j c = true from by rw [snd_nat]; simp; omega)
    go_enter Try.func36, Try.ntmps36
    go_wp2
    go_ret
    exact ⟨ret_bool (by rw [HS.out]; first | done | (simp; omega)), rfl⟩
  · have HS := Lib.hid (show snd j c = false from by rw [snd_nat]; simp; omega)
    go_enter Try.func36, Try.ntmps36
    go_wp2
    go_ret
    exact ⟨ret_bool (by rw [HS.out]; first | done | (simp; omega)), rfl⟩
  · have HS := Lib.hid (show snd j c = false from by rw [snd_nat]; simp; omega)
    go_enter Try.func36, Try.ntmps36
    go_wp2
    go_ret
    exact ⟨ret_bool (by rw [HS.out]; first | done | (simp; omega)), rfl⟩
end Go.Proofs.Ytllpohacomknfaa
