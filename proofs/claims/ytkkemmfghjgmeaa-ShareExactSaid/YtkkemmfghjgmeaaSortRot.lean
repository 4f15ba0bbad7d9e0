/- The sort's turn of two neighbours. -/
import Derived.Test.YtkkemmfghjgmeaaSortSwap
namespace Go.Proofs.Ytkkemmfghjgmeaa.NumK
open Go.RowKit

set_option maxRecDepth 100000 in
set_option maxHeartbeats 1000000 in
theorem rotate_any (blk n cap a m b : Nat) (fv : Value) (d : Nat → Nat) (w : World) (hR : RowW w blk n d) (h1 : a < m) (h2 : m < b) (h3 : b ≤ n) (hn : n ≤ 1000000) :
    Calls Try.prog 62 #[.slice (some ⟨blk, 0, none⟩) n cap, .int .i64 a, .int .i64 m, .int .i64 b, fv] w fun e w' => e = .returned (.tuple #[]) ∧ RowW w' blk n (rot d a m b) ∧ Turn blk w w' := by
  have HR : Hid (RowW w blk n d) := hR
  clear hR
  go_enter Try.func62, Try.ntmps62
  go_wp2
  go_loopw [10, 11] (fun vi vj wr => ∃ (i j : Nat) (e : Nat → Nat), vi = .int .i64 i ∧ vj = .int .i64 j ∧ 0 < i ∧ 0 < j ∧ a + i ≤ m ∧ m + j ≤ b ∧ Hid (RowW wr blk n e) ∧ Hid (rot e (m - i) m (m + j) = rot d a m b) ∧ Hid (Turn blk w wr)) (fun vi vj _ => (intOf vi).toNat + (intOf vj).toNat)
  case atStart =>
    refine ⟨m - a, b - m, d, by congr 1; omega, by congr 1; omega, by omega, by omega, by omega, by omega, HR, ?_, Turn.refl _ _⟩
    show _ = _
    rw [show m - (m - a) = a from by omega, show m + (b - m) = b from by omega]
  case round =>
    clear HR
    obtain ⟨i, j, e, rfl, rfl, hi, hj, hai, hjb, HR, HE, HT⟩ := hrel
    have ei : ((m - i : Nat) : Int) = (m : Int) - (i : Int) := by omega
    by_cases c1 : i = j
    · subst c1
      have HF : Hid (swr e (m - i) m i = rot d a m b) := (rot_eq e m i (by omega)).trans HE.out
      have C := swapRange_any blk n cap (m - i) m i fv e wr HR.out (by omega) (by omega) hn
      rw [ei] at C
      have C := Lib.hid C
      clear ei
      go_wp2_with (go_at_call 63; ((with_reducible refine C.out.mono ?_); rintro r w2 ⟨rfl, hR2, hT2⟩))
      go_end0
      exact ⟨rfl, by rw [← HF.out]; exact hR2, HT.out.trans hT2⟩
    · by_cases c2 : j < i
      · have HF : Hid (rot (swr e (m - i) m j) (m - (i - j)) m (m + j) = rot d a m b) := (rot_gt e m i j (by omega) c2).trans HE.out
        have C := swapRange_any blk n cap (m - i) m j fv e wr HR.out (by omega) (by omega) hn
        rw [ei] at C
        have C := Lib.hid C
        clear ei
        have d1 : ((i : Int) != (j : Int)) = true := by simp; omega
        clear c1
        go_wp2_with (go_at_call 63; ((with_reducible refine C.out.mono ?_); rintro r w2 ⟨rfl, hR2, hT2⟩; have HR2 := Lib.hid hR2; have HT2 := Lib.hid hT2; clear hR2 hT2))
        go_roundw
        case rel => exact ⟨i - j, j, _, by congr 1; omega, rfl, by omega, by omega, by omega, by omega, HR2, HF, HT.out.trans HT2.out⟩
        case measure => simp [intOf]; omega
      · have HF : Hid (rot (swr e (m - i) (m + j - i) i) (m - i) m (m + (j - i)) = rot d a m b) := (rot_lt e m i j (by omega) (by omega)).trans HE.out
        have C := swapRange_any blk n cap (m - i) (m + j - i) i fv e wr HR.out (by omega) (by omega) hn
        have ej : ((m + j - i : Nat) : Int) = (m : Int) + (j : Int) - (i : Int) := by omega
        rw [ei, ej] at C
        have C := Lib.hid C
        clear ei ej
        have d1 : ((i : Int) != (j : Int)) = true := by simp; omega
        have c3 : i < j := by omega
        clear c1
        go_wp2_with (go_at_call 63; ((with_reducible refine C.out.mono ?_); rintro r w2 ⟨rfl, hR2, hT2⟩; have HR2 := Lib.hid hR2; have HT2 := Lib.hid hT2; clear hR2 hT2))
        go_roundw
        case rel => exact ⟨i, j - i, _, rfl, by congr 1; omega, by omega, by omega, by omega, by omega, HR2, HF, HT.out.trans HT2.out⟩
        case measure => simp [intOf]; omega
end Go.Proofs.Ytkkemmfghjgmeaa.NumK
