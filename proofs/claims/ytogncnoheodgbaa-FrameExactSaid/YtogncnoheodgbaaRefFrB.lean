/- The reference of frame: High, number, May. -/
import Derived.Test.YtogncnoheodgbaaFrameD
import Derived.Test.YtogncnoheodgbaaFrameF
namespace Go.Proofs.Ytogncnoheodgbaa.NumK
open Go.RowKit

set_option maxRecDepth 100000 in
set_option maxHeartbeats 1000000 in
theorem refHigh_any (N k : Nat) (hk : k ≤ 8) (base : Nat) (w : World) (hb : base ≤ w.heap.size) :
    Calls Try.prog 23 #[.int .u64 (N : Int), .int .i64 (k : Int)] w fun e w' => ∃ v', e = .returned v' ∧ w'.ownsRow base 5 1 v' k ((be N k).map byv) ∧ Below base w w' := by
  go_enter Try.func23, Try.ntmps23
  go_wp2
  go_loopw [5, 6] (fun v5 v6 wr => ∃ (j : Nat) (q : Int), v6 = .int .i64 q ∧ q = (j : Int) - 1 ∧ j ≤ k ∧ Hid (wr.ownsRow base 5 1 v5 (k - j) (((be N k).take (k - j)).map byv)) ∧ Hid (Below base w wr)) (fun _ v6 _ => (intOf v6 + 1).toNat)
  case atStart => exact ⟨k, _, rfl, by go_num, Nat.le_refl _, by rw [Nat.sub_self]; exact World.ownsRow_nil _ _ _ _, Below.refl _ _⟩
  case round =>
    obtain ⟨j, q, rfl, hq, hj, HR, HB⟩ := hrel
    cases j with
    | zero =>
      obtain rfl : q = -1 := by omega
      have HF := HR.out
      rw [Nat.sub_zero, List.take_of_length_le (by rw [be_len]; omega)] at HF
      have HF2 := Lib.hid HF
      clear HF hq
      go_wp2
      go_ret
      exact ⟨_, rfl, HF2.out, HB.out⟩
    | succ i =>
      obtain rfl : q = (i : Int) := by omega
      have e1 := byte_at N i
      have HS := Lib.hid (be_take N k (k - (i + 1)) (by omega))
      rw [show k - 1 - (k - (i + 1)) = i by omega] at HS
      generalize UInt8.ofNat (N / 256 ^ i) = x at *
      clear hq
      go_wp2_with (at_builtin; refine (wpList_append_bytes rfl _ _ rfl base _ (k - (i + 1)) _ rfl (HR.out.alloc _) (some ⟨wr.heap.size, 0, none⟩) 1 1 [x] rfl (by intro h; cases h) (bys1 _ x _ _ rfl) (by omega) (by have := HB.out.size; simp; omega) ?_); intro v' w' hv' hb'; have HV' := Lib.hid hv'; have HB' := Lib.hid hb'; clear hv' hb')
      go_roundw
      case rel => exact ⟨i, _, rfl, by go_num, by omega, by rw [show k - i = k - (i + 1) + 1 by omega, HS.out]; exact HV', (Below.alloc HB.out (Nat.le_trans hb HB.out.size) _).trans HB'.out⟩
      case measure => simp only [intOf]; omega

set_option maxRecDepth 100000 in
set_option maxHeartbeats 1000000 in
theorem refNumber_any (A : Option Addr) (n c : Nat) (l : List UInt8) (w : World) (h : Bys w A n l) (hn : n ≤ 8) :
    Calls Try.prog 26 #[.slice A n c] w fun e w' => e = .returned (.int .u64 (num l : Int)) ∧ w = w' := by
  have HB := Lib.hid h
  have HL := Lib.hid h.1
  clear h
  go_enter Try.func26, Try.ntmps26
  go_wp2
  go_loop [3, 4] (fun v3 v8 => ∃ k : Nat, v8 = .int .i64 k ∧ k ≤ n ∧ v3 = .int .u64 (num (l.take k) : Int)) (fun _ v8 => n - (intOf v8).toNat)
  case atStart => exact ⟨0, rfl, by omega, rfl⟩
  case round =>
    obtain ⟨k, rfl, hk, rfl⟩ := hrel
    by_cases hlt : k < n
    · obtain ⟨b, o, rfl, _, hc⟩ := HB.out.2 (by omega)
      have a1 := hc k hlt
      have a3 : (k : Int) < (n : Int) := by omega
      have hb := num_take_lt l k n HL.out hn hlt
      have HS := Lib.hid (num_snoc l k (by rw [HL.out]; exact hlt))
      have hu := (l.getD k 0).toNat_lt
      clear hc
      generalize l.getD k 0 = x at *
      generalize num (l.take k) = t at *
      generalize x.toNat = u at *
      have e1 := or_byte t u hu hb
      have e2 : IntKind.u64.wrap ((t : Int) * 256) = (t : Int) * 256 := by rw [IntKind.wrap_u64]; omega
      go_wp2
      go_round
      case rel => exact ⟨k + 1, by go_num, by omega, by rw [HS.out]; congr 1⟩
      case measure => simp only [intOf]; omega
    · obtain rfl : k = n := by omega
      have HF : Hid (num (l.take k) = num l) := by show _ = _; rw [List.take_of_length_le (by rw [HL.out]; omega)]
      generalize num (l.take k) = t at *
      go_wp2
      go_ret
      exact ⟨ret_u64 HF.out, rfl⟩

theorem ret_i64 {a b : Int} (h : a = b) : Ending.returned (.int .i64 a) = .returned (.int .i64 b) := by rw [h]
set_option maxHeartbeats 1000000 in
theorem refMay_any (gen no : Int) (n : Nat) (w : World) :
    Calls Try.prog 15 #[.int .i64 gen, .int .i64 no, .int .i64 (n : Int)] w fun e w' => e = .returned (.int .i64 (mayI gen no n)) ∧ w = w' := by
  have HM : Hid (mayI gen no n = if gen < 0 ∨ 1099511627776 < gen ∨ no < 0 ∨ 2147483647 < no then 3 else if 65536 < n then 5 else 0) := rfl
  generalize mayI gen no n = z at *
  go_enter Try.func15, Try.ntmps15
  by_cases h1 : gen < 0
  · have HF : Hid (3 = z) := by show _ = _; rw [HM.out, if_pos (by omega)]
    go_wp2
    go_ret
    exact ⟨ret_i64 HF.out, rfl⟩
  · by_cases h2 : 1099511627776 < gen
    · have HF : Hid (3 = z) := by show _ = _; rw [HM.out, if_pos (by omega)]
      go_wp2
      go_ret
      exact ⟨ret_i64 HF.out, rfl⟩
    · by_cases h3 : no < 0
      · have HF : Hid (3 = z) := by show _ = _; rw [HM.out, if_pos (by omega)]
        go_wp2
        go_ret
        exact ⟨ret_i64 HF.out, rfl⟩
      · by_cases h4 : 2147483647 < no
        · have HF : Hid (3 = z) := by show _ = _; rw [HM.out, if_pos (by omega)]
          go_wp2
          go_ret
          exact ⟨ret_i64 HF.out, rfl⟩
        · by_cases h5 : (65536 : Int) < (n : Int)
          · have HF : Hid (5 = z) := by show _ = _; rw [HM.out, if_neg (by omega), if_pos (by omega)]
            go_wp2
            go_ret
            exact ⟨ret_i64 HF.out, rfl⟩
          · have HF : Hid (0 = z) := by show _ = _; rw [HM.out, if_neg (by omega), if_neg (by omega)]
            go_wp2
            go_ret
            exact ⟨ret_i64 HF.out, rfl⟩
end Go.Proofs.Ytogncnoheodgbaa.NumK
