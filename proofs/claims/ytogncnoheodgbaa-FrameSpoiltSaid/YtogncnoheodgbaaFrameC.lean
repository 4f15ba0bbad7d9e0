/- frame: number, appendNumber. -/
import Derived.Test.YtogncnoheodgbaaFrameB
namespace Go.Proofs.Ytogncnoheodgbaa.NumK
open Go.RowKit

set_option maxRecDepth 100000 in
theorem or_byte (t u : Nat) (hu : u < 256) (ht : t * 256 + u < 18446744073709551616) : bits .or .u64 ((t : Int) * 256) (u : Int) = ((t * 256 + u : Nat) : Int) := by
  have h := u64_or_nat (t * 256) u (by omega) (by omega)
  have e : t * 256 + u = t * 256 ||| u := by
    have := Nat.two_pow_add_eq_or_of_lt (i := 8) hu t
    rw [Nat.mul_comm t 256]; exact this
  rw [e, ← h]
  rfl
theorem num_take_lt (l : List UInt8) (k n : Nat) (h : l.length = n) (hn : n ≤ 8) (hk : k < n) : num (l.take k) * 256 + (l.getD k 0).toNat < 18446744073709551616 := by
  have h1 := num_lt (l.take (k + 1))
  have h2 : num (l.take (k + 1)) = num (l.take k) * 256 + (l.getD k 0).toNat := by
    rw [take_snocB l k (by omega)]; exact numF_snoc _ _ _
  rw [h2] at h1
  refine Nat.lt_of_lt_of_le h1 ?_
  rw [List.length_take, Nat.min_eq_left (by omega)]
  exact Nat.pow_le_pow_right (n := 256) (by omega) (show k + 1 ≤ 8 by omega)
theorem num_snoc (l : List UInt8) (k : Nat) (hk : k < l.length) : num (l.take (k + 1)) = num (l.take k) * 256 + (l.getD k 0).toNat := by
  rw [take_snocB l k hk]; exact numF_snoc _ _ _

theorem ret_u64 {a b : Nat} (h : a = b) : Ending.returned (.int .u64 (a : Int)) = .returned (.int .u64 (b : Int)) := by rw [h]

set_option maxRecDepth 100000 in
set_option maxHeartbeats 1000000 in
theorem number_any (A : Option Addr) (n c : Nat) (l : List UInt8) (w : World) (h : Bys w A n l) (hn : n ≤ 8) :
    Calls Try.prog 24 #[.slice A n c] w fun e w' => e = .returned (.int .u64 (num l : Int)) ∧ w = w' := by
  have HB := Lib.hid h
  have HL := Lib.hid h.1
  clear h
  go_enter Try.func24, Try.ntmps24
  go_wp2
  go_loop [3, 8] (fun v3 v8 => ∃ k : Nat, v8 = .int .i64 k ∧ k ≤ n ∧ v3 = .int .u64 (num (l.take k) : Int)) (fun _ v8 => n - (intOf v8).toNat)
  case atStart => exact ⟨0, rfl, by omega, rfl⟩
  case round =>
    obtain ⟨k, rfl, hk, rfl⟩ := hrel
    by_cases hlt : k < n
    · obtain ⟨b, o, rfl, _, hc⟩ := HB.out.2 (by omega)
      have a1 := hc k hlt
      have a3 : (k : Int) < (n : Int) := by omega
      have hb := num_take_lt l k n HL.out hn hlt
      have HS := Lib.hid (num_snoc l k (by rw [HL.out]; exact hlt))
      have hu := (l.getD k 0).toNat_lt
      clear hc
      generalize l.getD k 0 = x at *
      generalize num (l.take k) = t at *
      generalize x.toNat = u at *
      have e1 := or_byte t u hu hb
      have e2 : IntKind.u64.wrap ((t : Int) * 256) = (t : Int) * 256 := by rw [IntKind.wrap_u64]; omega
      go_wp2
      go_round
      case rel => exact ⟨k + 1, by go_num, by omega, by rw [HS.out]; congr 1⟩
      case measure => simp only [intOf]; omega
    · obtain rfl : k = n := by omega
      have HF : Hid (num (l.take k) = num l) := by show _ = _; rw [List.take_of_length_le (by rw [HL.out]; omega)]
      generalize num (l.take k) = t at *
      go_wp2
      go_ret
      exact ⟨ret_u64 HF.out, rfl⟩
end Go.Proofs.Ytogncnoheodgbaa.NumK
