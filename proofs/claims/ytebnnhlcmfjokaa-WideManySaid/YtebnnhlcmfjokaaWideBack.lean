/- The walk of WideBack. -/
import Derived.Test.YtebnnhlcmfjokaaWideLaws
namespace Go.Proofs.Ytebnnhlcmfjokaa.NumK
open Go.RowKit

/-- Two blocks at once: one of an elder world, one laid last. -/
theorem two_owned {w w1 : World} {v0 v1 u0 u1 : Value} {t t2 : TypeId} (h : Grew (w.alloc (.cells #[v0, v1] t)) w1) :
    (w1.alloc (.cells #[u0, u1] t2)).cell? ⟨w.heap.size, 0, none⟩ = some v0 ∧ (w1.alloc (.cells #[u0, u1] t2)).cell? ⟨w.heap.size, 1, none⟩ = some v1
      ∧ (w1.alloc (.cells #[u0, u1] t2)).cell? ⟨w1.heap.size, 0, none⟩ = some u0 ∧ (w1.alloc (.cells #[u0, u1] t2)).cell? ⟨w1.heap.size, 1, none⟩ = some u1 ∧ Grew w (w1.alloc (.cells #[u0, u1] t2)) := by
  have a := own_at (grew_trans h (grew_alloc w1 #[u0, u1] t2))
  exact ⟨a.1, a.2.1, by simp, by simp, grew_trans (grew_alloc _ _ _) (grew_trans h (grew_alloc _ _ _))⟩

set_option maxHeartbeats 1000000 in
theorem wideBack_walk (x n : Int) (w : World) (hx : isWide x = true) (bn : -9223372036854775808 ≤ n ∧ n ≤ 9223372036854775807) :
    Calls Try.prog 6 #[.agg #[.int .i64 (hi64 x), .int .u64 (lo64 x)], .int .i64 n] w fun e w' => e = .returned (.bool true) ∧ Grew w w' := by
  have C1 := fun w => wquo_any x n w hx bn.2
  by_cases h0 : 0 < n
  · by_cases hm : isMoney (x / n) = true
    · have q1 := Int.mul_ediv_add_emod x n
      have q2 := Int.emod_nonneg x (show n ≠ 0 by omega)
      have q3 := Int.emod_lt_of_pos x h0
      rw [wqV_eq h0 rfl hm, wqE_eq h0 rfl hm, show wqR x n = x % n from by simp [wqR, h0, hm]] at C1
      have bq := (isMoney_iff _).1 hm
      have C2 := fun w => wtimes_any (x / n) n w (by omega) bn
      have C3 := fun w => wof_any (x % n) w (by omega)
      have C4 := wsum2_at (x / n * n) (x % n) x x 0 (isWide_mul _ _ (by omega) bn) (isWide_int _ (by omega)) (by rw [Int.mul_comm]; exact q1) (wsV_in hx) (wideE_in hx)
      have C5 := same_any x x
      rw [show decide (x = x) = true from decide_eq_true rfl] at C5
      clear q1 hm bq hx
      generalize x / n * n = p at *
      generalize x / n = q at *
      generalize x % n = r at *
      generalize hi64 x = hh at *
      generalize lo64 x = ll at *
      go_enter Try.func6, Try.ntmps6
      go_upto_region 5 with (first
        | (go_at_call 19; ((with_reducible refine (C1 _).mono ?_); rintro e w1 ⟨rfl, hg1⟩))
        | (go_at_call 13; ((with_reducible refine (C2 _).mono ?_); rintro e w2 ⟨rfl, hg2⟩))
        | (go_at_call 11; ((with_reducible refine (C3 _).mono ?_); rintro e w3 ⟨rfl, hg3⟩))
        | (go_at_call 23; ((with_reducible refine (C4 _).mono ?_); rintro e w4 ⟨rfl, hg4⟩)))
      have hk := two_owned (t2 := 24) (u0 := .int .i64 hh) (u1 := .int .u64 ll) (grew_trans hg1 (grew_trans hg2 (grew_trans hg3 (grew_trans (grew_alloc _ _ _) hg4))))
      generalize w4.alloc (.cells #[.int .i64 hh, .int .u64 ll] 24) = w5 at hk ⊢
      obtain ⟨k1, k2, k3, k4, k5⟩ := hk
      go_wp2_with (first
        | (go_at_call 10; ((with_reducible refine (C5 _).mono ?_); rintro e w6 ⟨rfl, hg6⟩))
        | (go_at_call 22; ((with_reducible refine (wakes02_any _).mono ?_); rintro e w7 ⟨rfl, hg7⟩)))
      go_ret
      exact ⟨rfl, grew_trans k5 (grew_trans hg6 hg7)⟩
    · have hm' : isMoney (x / n) = false := by simpa using hm
      rw [show wqV x n = 0 from by simp [wqV, h0, capV, hm'], show wqE x n = 1 from by simp [wqE, h0, capE, hm'], show wqR x n = 0 from by simp [wqR, hm']] at C1
      clear hm hm' hx h0
      generalize hi64 x = hh at *
      generalize lo64 x = ll at *
      go_enter Try.func6, Try.ntmps6
      go_wp2_with (first
        | (go_at_call 19; ((with_reducible refine (C1 _).mono ?_); rintro e w1 ⟨rfl, hg1⟩))
        | (go_at_call 22; ((with_reducible refine (wakes02_any _).mono ?_); rintro e w7 ⟨rfl, hg7⟩)))
      go_ret
      exact ⟨rfl, grew_trans (grew_alloc _ _ _) (grew_trans hg1 hg7)⟩
  · rw [show wqV x n = 0 from by simp [wqV, h0], show wqE x n = 2 from by simp [wqE, h0], show wqR x n = 0 from by simp [wqR, h0]] at C1
    clear hx h0
    generalize hi64 x = hh at *
    generalize lo64 x = ll at *
    go_enter Try.func6, Try.ntmps6
    go_wp2_with (first
      | (go_at_call 19; ((with_reducible refine (C1 _).mono ?_); rintro e w1 ⟨rfl, hg1⟩))
      | (go_at_call 22; ((with_reducible refine (wakes02_any _).mono ?_); rintro e w7 ⟨rfl, hg7⟩)))
    go_ret
    exact ⟨rfl, grew_trans (grew_alloc _ _ _) (grew_trans hg1 hg7)⟩
end Go.Proofs.Ytebnnhlcmfjokaa.NumK
