/- frame: shiftIn, Sum. -/
import Derived.Test.YtogncnoheodgbaaFrameMath
import Derived.Laws.BitsAllLaws
namespace Go.Proofs.Ytogncnoheodgbaa.NumK
open Go.RowKit

theorem ret_u32 {a b : Nat} (h : a = b) : Ending.returned (.int .u32 (a : Int)) = .returned (.int .u32 (b : Int)) := by rw [h]

theorem stp_odd {t : Nat} (ht : t < 4294967296) (h : t % 2 = 1) : bits .xor .u32 ((t : Int) / 2) 3988292384 = ((stp t : Nat) : Int) := by
  have := u32_xor_nat (t / 2) poly (by omega) (by decide)
  unfold stp
  rw [if_pos h, ← this]
  rfl
theorem stp_even {t : Nat} (h : t % 2 = 0) : (t : Int) / 2 = ((stp t : Nat) : Int) := by
  unfold stp
  rw [if_neg (by omega), Nat.xor_zero]; omega
theorem and_one {t : Nat} (ht : t < 4294967296) : bits .and .u32 (t : Int) 1 = ((t % 2 : Nat) : Int) := by
  have := u32_and_nat t 1 ht (by omega)
  rw [Nat.and_one_is_mod] at this
  exact this

set_option maxHeartbeats 1000000 in
theorem shift_any (r : Nat) (b : UInt8) (hr : r < 4294967296) (w : World) :
    Calls Try.prog 21 #[.int .u32 (r : Int), .int .u8 (b.toNat : Int)] w fun e w' => e = .returned (.int .u32 (shB r b : Int)) ∧ w = w' := by
  have hb := b.toNat_lt
  have hx : bits .xor .u32 (r : Int) (b.toNat : Int) = ((r ^^^ b.toNat : Nat) : Int) := u32_xor_nat r b.toNat hr (by omega)
  have hlt : r ^^^ b.toNat < 4294967296 := Nat.xor_lt_two_pow (n := 32) hr (by omega)
  have HS : Hid (shB r b = stps 8 (r ^^^ b.toNat)) := rfl
  generalize r ^^^ b.toNat = R at *
  generalize shB r b = Z at *
  generalize b.toNat = u at *
  go_enter Try.func21, Try.ntmps21
  go_wp2
  clear hx
  go_loop [0, 10] (fun v0 v10 => ∃ k : Nat, v10 = .int .i64 k ∧ k ≤ 8 ∧ v0 = .int .u32 (stps k R : Int)) (fun _ v10 => 8 - (intOf v10).toNat)
  case atStart => exact ⟨0, rfl, by omega, rfl⟩
  case round =>
    obtain ⟨k, rfl, hk, rfl⟩ := hrel
    have ht := stps_lt hlt k
    by_cases hlt8 : k < 8
    · have a3 : (k : Int) < 8 := by omega
      have HN := Lib.hid (stps_succ k R)
      generalize stps k R = t at *
      rcases (show t % 2 = 0 ∨ t % 2 = 1 by omega) with h2 | h2
      · have e1 := and_one ht
        rw [h2] at e1
        have HE := Lib.hid (stp_even h2)
        go_wp2
        go_round
        case rel => exact ⟨k + 1, by go_num, by omega, by rw [HN.out, ← HE.out]⟩
        case measure => simp only [intOf]; omega
      · have e1 := and_one ht
        rw [h2] at e1
        have e2 := stp_odd ht h2
        go_wp2
        go_round
        case rel => exact ⟨k + 1, by go_num, by omega, by rw [HN.out]⟩
        case measure => simp only [intOf]; omega
    · obtain rfl : k = 8 := by omega
      go_wp2
      go_ret
      exact ⟨ret_u32 HS.out.symm, rfl⟩
end Go.Proofs.Ytogncnoheodgbaa.NumK
