/- The contract of num.Right. -/
import Derived.Test.YtmbhkeppikaeaaaBase
namespace Go.Proofs.Ytmbhkeppikaeaaa.NumK
open Go.RowKit

set_option maxHeartbeats 400000 in
theorem right_any (A : Option Addr) (n c : Nat) (zs : List Int) (w : World) (hz : Ints w A n zs) (hn : n ≤ 9223372036854775807) :
    Calls Try.prog 36 #[.slice A n c] w fun e w' => e = .returned (.bool (zs.all isMoney)) ∧ w = w' := by
  have HZ : Hid (Ints w A n zs) := hz
  clear hz
  go_enter Try.func36, Try.ntmps36
  go_wp2
  go_loop [7] (fun i => ∃ k : Nat, k ≤ n ∧ i = .int .i64 k ∧ Hid ((zs.take k).all isMoney = true)) (fun i => n - (intOf i).toNat)
  case atStart => exact ⟨0, Nat.zero_le _, rfl, by simp [Hid]⟩
  case round =>
    obtain ⟨k, hk, rfl, HK⟩ := hrel
    by_cases hlt : k < n
    · obtain ⟨b, o, rfl, _, hc⟩ := HZ.out.2 (by omega)
      have hcell := hc k hlt
      have hl := HZ.out.1
      have hs := all_take_succ zs k (by omega)
      have HS : Hid ((zs.take (k + 1)).all isMoney = isMoney (zs.getD k 0)) := by rw [hs, HK.out]; simp [Hid]
      clear hs hc hl
      generalize hy : zs.getD k 0 = y at *
      have HY : Hid (zs.getD k 0 = y) := hy
      clear hy
      by_cases h1 : y < -4611686018427387904
      · go_wp2
        go_ret
        exact ⟨ret_b (all_false zs k (by have := HZ.out.1; omega) y HY.out (by omega)), rfl⟩
      · by_cases h2 : 4611686018427387904 < y
        · go_wp2
          go_ret
          exact ⟨ret_b (all_false zs k (by have := HZ.out.1; omega) y HY.out (by omega)), rfl⟩
        · go_wp2
          go_round
          case rel => exact ⟨k + 1, by omega, by go_num, HS.out.trans ((isMoney_iff y).2 ⟨by omega, by omega⟩)⟩
          case measure => simp [intOf]; omega
    · have : k = n := by omega
      subst this
      go_wp2
      go_ret
      have h1 := HK.out
      rw [List.take_of_length_le (by have := HZ.out.1; omega)] at h1
      exact ⟨ret_b h1.symm, rfl⟩

end Go.Proofs.Ytmbhkeppikaeaaa.NumK
