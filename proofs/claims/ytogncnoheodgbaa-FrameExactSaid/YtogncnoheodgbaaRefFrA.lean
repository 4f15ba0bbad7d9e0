/- The reference of frame: Sum, bit by bit. -/
import Derived.Test.YtogncnoheodgbaaFrameB
import Derived.Laws.BitsAllLaws
namespace Go.Proofs.Ytogncnoheodgbaa.NumK
open Go.RowKit

theorem low_bits (T v : Nat) : ((T ^^^ v) % 2 ^^^ v % 2) = T % 2 := by
  have h : (T ^^^ v) % 2 = (T % 2 ^^^ v % 2) := by
    have := Nat.xor_mod_two_pow (a := T) (b := v) (n := 1)
    rwa [Nat.pow_one] at this
  rw [h, Nat.xor_assoc, Nat.xor_self, Nat.xor_zero]
theorem half_xor (T v : Nat) : (T ^^^ v) / 2 = T / 2 ^^^ v / 2 := by
  have := Nat.shiftRight_xor_distrib (a := T) (b := v) (i := 1)
  simpa [Nat.shiftRight_eq_div_pow] using this
theorem half_even {T v : Nat} (h : T % 2 = 0) : (T ^^^ v) / 2 = stp T ^^^ v / 2 := by
  rw [half_xor]; unfold stp; rw [if_neg (by omega), Nat.xor_zero]
theorem half_odd {T v : Nat} (h : T % 2 = 1) : (T ^^^ v) / 2 ^^^ 3988292384 = stp T ^^^ v / 2 := by
  rw [half_xor]; unfold stp; rw [if_pos h, Nat.xor_assoc, Nat.xor_comm (v / 2), ← Nat.xor_assoc]; rfl

set_option maxRecDepth 100000 in
set_option maxHeartbeats 1000000 in
theorem refSum_any (A : Option Addr) (n c : Nat) (l : List UInt8) (w : World) (h : Bys w A n l) (hn : n ≤ 9223372036854775807) :
    Calls Try.prog 11 #[.slice A n c] w fun e w' => e = .returned (.int .u32 (crc l : Int)) ∧ w = w' := by
  have HB := Lib.hid h
  have HL := Lib.hid h.1
  clear h
  go_enter Try.func11, Try.ntmps11
  go_wp2
  go_loop [3, 4] (fun v3 v4 => ∃ k : Nat, v4 = .int .i64 k ∧ k ≤ n ∧ v3 = .int .u32 (crcF 4294967295 (l.take k) : Int)) (fun _ v4 => n - (intOf v4).toNat)
  case atStart => exact ⟨0, rfl, by omega, rfl⟩
  case round =>
    obtain ⟨k, rfl, hk, rfl⟩ := hrel
    have HT := Lib.hid (crcF_lt (show 4294967295 < 4294967296 by omega) (l.take k))
    by_cases hlt : k < n
    · obtain ⟨b, o, rfl, _, hc⟩ := HB.out.2 (by omega)
      have a1 := hc k hlt
      have a3 : (k : Int) < (n : Int) := by omega
      have HS := Lib.hid (take_snocB l k (by rw [HL.out]; exact hlt))
      have hx := (l.getD k 0).toNat_lt
      clear hc
      generalize l.getD k 0 = x at *
      have HN := Lib.hid (crcF_snoc 4294967295 (l.take k) x)
      rw [← HS.out] at HN
      obtain ⟨R, hR⟩ : ∃ R, R = crcF 4294967295 (l.take k) := ⟨_, rfl⟩
      rw [← hR]
      rw [← hR] at HN HT
      have HU : Hid (shB R x = stps 8 (R ^^^ x.toNat)) := rfl
      have HXL : Hid (R ^^^ x.toNat < 4294967296) := Nat.xor_lt_two_pow (n := 32) HT.out (by omega)
      have HXX : Hid (R = (R ^^^ x.toNat) ^^^ x.toNat) := by show _ = _; rw [Nat.xor_assoc, Nat.xor_self, Nat.xor_zero]
      generalize shB R x = Z at *
      generalize R ^^^ x.toNat = X at *
      generalize x.toNat = u at *
      clear hR
      go_wp2
      go_loop [3, 5] (fun v3 v5 => ∃ j : Nat, v5 = .int .i64 j ∧ j ≤ 8 ∧ v3 = .int .u32 ((stps j X ^^^ u / 2 ^ j : Nat) : Int)) (fun _ v5 => 8 - (intOf v5).toNat)
      case atStart => exact ⟨0, rfl, by omega, by rw [Nat.pow_zero, Nat.div_one]; exact congrArg (fun z : Nat => Value.int .u32 (z : Int)) HXX.out⟩
      case round =>
        obtain ⟨j, rfl, hj, rfl⟩ := hrel
        have hT := stps_lt HXL.out j
        by_cases hj8 : j < 8
        · have a4 : (j : Int) < 8 := by omega
          have hv : ((u : Int) / 2 ^ j) = ((u / 2 ^ j : Nat) : Int) := by simp
          have hv2 : u / 2 ^ j < 256 := Nat.lt_of_le_of_lt (Nat.div_le_self _ _) hx
          have hv3 : u / 2 ^ (j + 1) = u / 2 ^ j / 2 := by rw [Nat.pow_succ, Nat.div_div_eq_div_mul]
          have HS1 := Lib.hid (stps_succ j X)
          have HV3 := Lib.hid hv3
          clear hv3
          generalize u / 2 ^ j = v at *
          generalize stps j X = T at *
          have ht : T ^^^ v < 4294967296 := Nat.xor_lt_two_pow (n := 32) hT (by omega)
          have e1 := and_one ht
          have e2 := and_one (show v < 4294967296 by omega)
          have e3 : bits .xor .u32 (((T ^^^ v) % 2 : Nat) : Int) ((v % 2 : Nat) : Int) = ((T % 2 : Nat) : Int) := by
            rw [u32_xor_nat _ _ (by omega) (by omega), low_bits]
          have HE := Lib.hid (@half_even T v)
          have HO := Lib.hid (@half_odd T v)
          generalize T ^^^ v = t at *
          have e4 : bits .xor .u32 ((t : Int) / 2) 3988292384 = ((t / 2 ^^^ 3988292384 : Nat) : Int) := u32_xor_nat (t / 2) 3988292384 (by omega) (by decide)
          generalize hp : t % 2 = p at *
          generalize hq : v % 2 = q at *
          clear hp hq
          have hw : IntKind.u32.wrap (v : Int) = (v : Int) := by rw [IntKind.wrap_u32]; omega
          rcases (show T % 2 = 0 ∨ T % 2 = 1 by omega) with h2 | h2
          · rw [h2] at e3
            have HF : Hid ((t : Int) / 2 = ((stps (j + 1) X ^^^ u / 2 ^ (j + 1) : Nat) : Int)) := by show _ = _; rw [HS1.out, HV3.out, ← HE.out h2]; rfl
            clear HE HO h2
            go_wp2
            go_round
            case rel => exact ⟨j + 1, by go_num, by omega, by rw [← HF.out]⟩
            case measure => simp only [intOf]; omega
          · rw [h2] at e3
            have HF : Hid ((t / 2 ^^^ 3988292384 : Nat) = (stps (j + 1) X ^^^ u / 2 ^ (j + 1) : Nat)) := by show _ = _; rw [HS1.out, HV3.out, ← HO.out h2]
            clear HE HO h2
            generalize (t / 2 ^^^ 3988292384 : Nat) = t' at *
            go_wp2
            go_round
            case rel => exact ⟨j + 1, by go_num, by omega, by rw [← HF.out]⟩
            case measure => simp only [intOf]; omega
        · obtain rfl : j = 8 := by omega
          have HF : Hid (stps 8 X ^^^ u / 2 ^ 8 = crcF 4294967295 (l.take (k + 1))) := by
            show _ = _
            rw [HN.out, HU.out, Nat.div_eq_of_lt (show u < 2 ^ 8 from hx), Nat.xor_zero]
          generalize (stps 8 X ^^^ u / 2 ^ 8) = t at *
          go_wp2
          go_round
          case rel => exact ⟨k + 1, by go_num, by omega, by rw [← HF.out]⟩
          case measure => simp only [intOf]; omega
    · obtain rfl : k = n := by omega
      have HE : Hid (crcF 4294967295 (l.take k) ^^^ 4294967295 = crc l) := by show _ = _; rw [List.take_of_length_le (by rw [HL.out]; omega)]; rfl
      generalize crcF 4294967295 (l.take k) = t at *
      have HX := Lib.hid (xor_ones HT.out)
      go_wp2
      go_ret
      exact ⟨by show Ending.returned (.int .u32 (bits .xor .u32 IntKind.u32.max (t : Int))) = _; rw [HX.out, HE.out], rfl⟩
end Go.Proofs.Ytogncnoheodgbaa.NumK
