/- What the laws of stage 2 wake; sums of two wide numbers. -/
import Derived.Test.YtebnnhlcmfjokaaWide5
import Derived.Test.YtebnnhlcmfjokaaWide4
import Derived.Test.YtebnnhlcmfjokaaSame02
namespace Go.Proofs.Ytebnnhlcmfjokaa.NumK
open Go.RowKit

theorem isWide_int (n : Int) (h : -9223372036854775808 ≤ n ∧ n ≤ 9223372036854775807) : isWide n = true := by rw [isWide_iff]; omega
theorem isWide_mul (a b : Int) (ha : -9223372036854775808 ≤ a ∧ a ≤ 9223372036854775807) (hb : -9223372036854775808 ≤ b ∧ b ≤ 9223372036854775807) : isWide (a * b) = true := by
  obtain ⟨t1, t2, t3⟩ := times_arith a b ha hb
  rw [isWide_iff]
  generalize a * b = p at *
  generalize a.natAbs * b.natAbs = P at *
  omega
theorem wsV_in {x : Int} (h : isWide x = true) : wsV x = x := by simp [wsV, h]
theorem wideE_in {x : Int} (h : isWide x = true) : wideE x = 0 := by simp [wideE, h]
theorem wsV_out {x : Int} (h : isWide x = false) : wsV x = 0 := by simp [wsV, h]
theorem wideE_out {x : Int} (h : isWide x = false) : wideE x = 1 := by simp [wideE, h]

theorem wide_of_E {x : Int} (h : wideE x = 0) : isWide x = true := by
  unfold wideE at h
  split at h
  · assumption
  · omega
theorem wideE_or (x : Int) : wideE x = 0 ∨ wideE x = 1 := by
  unfold wideE
  split <;> omega

theorem wides2 (w : World) (x y : Int) (t : TypeId) : Wides (w.alloc (.cells #[.int .i64 (hi64 x), .int .u64 (lo64 x), .int .i64 (hi64 y), .int .u64 (lo64 y)] t)) (some ⟨w.heap.size, 0, none⟩) 2 [x, y] :=
  ⟨rfl, fun _ => ⟨_, _, rfl, by simp, fun j hj => by
    match j, hj with
    | 0, _ => simp
    | 1, _ => simp⟩⟩

theorem wsum2_at (x y s v e : Int) (hx : isWide x = true) (hy : isWide y = true) (hs : x + y = s) (hv : wsV s = v) (he : wideE s = e) (w : World) :
    Calls Try.prog 23 #[.slice (some ⟨w.heap.size, 0, none⟩) 2 2] (w.alloc (.cells #[.int .i64 (hi64 x), .int .u64 (lo64 x), .int .i64 (hi64 y), .int .u64 (lo64 y)] 24)) fun r w' => r = .returned (.tuple #[.agg #[.int .i64 (hi64 v), .int .u64 (lo64 v)], .int .i64 e]) ∧ Grew (w.alloc (.cells #[.int .i64 (hi64 x), .int .u64 (lo64 x), .int .i64 (hi64 y), .int .u64 (lo64 y)] 24)) w' := by
  have C := wsum_any (some ⟨w.heap.size, 0, none⟩) 2 2 [x, y] _ (wides2 w x y 24) (by intro z hz; simp at hz; rcases hz with rfl | rfl <;> assumption) (by omega)
  have e1 : [x, y].sum = s := by simp [hs]
  rw [e1, hv, he] at C
  exact C

theorem wakes02_any (w : World) :
    Calls Try.prog 22 #[] w fun e w' => e = .returned (.bool true) ∧ Grew w w' := by
  have C1 := fun w => wtimes_any 4611686018427387904 4611686018427387904 w (by omega) (by omega)
  have C2 := fun w => wshare_any (-7) 3 2 w (by omega) (by omega) (by omega)
  have e1 : hi64 (4611686018427387904 * 4611686018427387904) = 1152921504606846976 := by decide
  have e2 : lo64 (4611686018427387904 * 4611686018427387904) = 0 := by decide
  have e3 : wqV (-7 * 3) 2 = -11 := by decide
  have e4 : wqE (-7 * 3) 2 = 0 := by decide
  rw [e1, e2] at C1
  rw [e3, e4] at C2
  clear e1 e2 e3 e4
  go_enter Try.func22, Try.ntmps22
  go_wp2_with (first
    | (go_at_call 13; ((with_reducible refine (C1 _).mono ?_); rintro e w1 ⟨rfl, hg1⟩))
    | (go_at_call 21; ((with_reducible refine (C2 _).mono ?_); rintro e w2 ⟨rfl, hg2⟩; have k0 := own_first hg2; obtain ⟨k1, k2, k3, k4, k5⟩ := k0)))
  go_ret
  exact ⟨rfl, grew_trans hg1 (grew_trans (grew_alloc _ _ _) hg2)⟩
end Go.Proofs.Ytebnnhlcmfjokaa.NumK
