/- frame: appendNumber. -/
import Derived.Test.YtogncnoheodgbaaFrameC
namespace Go.Proofs.Ytogncnoheodgbaa.NumK
open Go.RowKit

theorem be_take (N k i : Nat) (h : i < k) : (be N k).take (i + 1) = (be N k).take i ++ [UInt8.ofNat (N / 256 ^ (k - 1 - i))] := by
  induction k generalizing i with
  | zero => omega
  | succ k ih =>
    cases i with
    | zero => simp [be]
    | succ i =>
      simp only [be, List.take_succ_cons, List.cons_append]
      rw [ih i (by omega), show k + 1 - 1 - (i + 1) = k - 1 - i by omega]
theorem byte_at (N j : Nat) : IntKind.u8.wrap ((N : Int) / 2 ^ (8 * j)) = ((UInt8.ofNat (N / 256 ^ j)).toNat : Int) := by
  have : ((N : Int) / 2 ^ (8 * j)) = ((N / 256 ^ j : Nat) : Int) := by
    rw [show (256 : Nat) = 2 ^ 8 from rfl, ← Nat.pow_mul]; simp
  rw [IntKind.wrap_u8, u8_ofNat_mod, this]
  rfl

set_option maxRecDepth 100000 in
set_option maxHeartbeats 1000000 in
theorem appendNumber_any (N k : Nat) (hk : k ≤ 8) (base : Nat) (v : Value) (m : Nat) (xs : List UInt8) (w : World) (ho : w.ownsRow base 5 1 v m (xs.map byv)) (hb : base ≤ w.heap.size) (hm : m ≤ 1000000000) :
    Calls Try.prog 22 #[v, .int .i64 ((m + k : Nat) : Int), .int .u64 (N : Int)] w fun e w' => ∃ v', e = .returned v' ∧ w'.ownsRow base 5 1 v' (m + k) ((xs ++ be N k).map byv) ∧ Below base w w' := by
  obtain ⟨A, c, rfl, _, _, _⟩ := bys_of_own ho
  have HO := Lib.hid ho
  clear ho
  obtain ⟨E, hE⟩ : ∃ E : Nat, E = m + k := ⟨_, rfl⟩
  have hd : (E : Int) - (m : Int) = (k : Int) := by omega
  rw [← hE]
  have hEb : E ≤ 1000000008 := by omega
  have HE := Lib.hid hE
  clear hE
  go_enter Try.func22, Try.ntmps22
  go_wp2
  clear hd
  go_loopw [0, 7] (fun v0 v7 wr => ∃ j : Nat, v7 = .int .i64 j ∧ j ≤ k ∧ Hid (wr.ownsRow base 5 1 v0 (m + (k - j)) ((xs ++ (be N k).take (k - j)).map byv)) ∧ Hid (Below base w wr)) (fun _ v7 _ => (intOf v7).toNat)
  case atStart => exact ⟨k, rfl, Nat.le_refl _, by simpa using HO, Below.refl _ _⟩
  case round =>
    obtain ⟨j, rfl, hj, HR, HB⟩ := hrel
    cases j with
    | zero =>
      have HF := HR.out
      rw [Nat.sub_zero, List.take_of_length_le (by rw [be_len]; omega), ← HE.out] at HF
      have HF2 := Lib.hid HF
      clear HF
      go_wp2
      go_ret
      exact ⟨_, rfl, HF2.out, HB.out⟩
    | succ i =>
      have a3 : (0 : Int) < ((i + 1 : Nat) : Int) := by omega
      have e1 := byte_at N i
      have HS := Lib.hid (be_take N k (k - (i + 1)) (by omega))
      rw [show k - 1 - (k - (i + 1)) = i by omega] at HS
      generalize UInt8.ofNat (N / 256 ^ i) = x at *
      go_wp2_with (at_builtin; refine (wpList_append_bytes rfl _ _ rfl base _ (m + (k - (i + 1))) _ rfl (HR.out.alloc _) (some ⟨wr.heap.size, 0, none⟩) 1 1 [x] rfl (by intro h; cases h) (bys1 _ x _ _ rfl) (by omega) (by have := HB.out.size; simp; omega) ?_); intro v' w' hv' hb'; have HV' := Lib.hid hv'; have HB' := Lib.hid hb'; clear hv' hb')
      go_roundw
      case rel => exact ⟨i, by go_num, by omega, by rw [show k - i = k - (i + 1) + 1 by omega, HS.out, ← List.append_assoc, ← Nat.add_assoc]; exact HV', (Below.alloc HB.out (Nat.le_trans hb HB.out.size) _).trans HB'.out⟩
      case measure => simp only [intOf]; omega
end Go.Proofs.Ytogncnoheodgbaa.NumK
