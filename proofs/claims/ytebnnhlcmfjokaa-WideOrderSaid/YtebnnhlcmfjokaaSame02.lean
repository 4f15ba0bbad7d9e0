/- What the laws of stage 2 call the same. -/
import Derived.Test.YtebnnhlcmfjokaaWide1
namespace Go.Proofs.Ytebnnhlcmfjokaa.NumK
open Go.RowKit

theorem same_any (x y : Int) (w : World) :
    Calls Try.prog 10 #[.agg #[.int .i64 (hi64 x), .int .u64 (lo64 x)], .agg #[.int .i64 (hi64 y), .int .u64 (lo64 y)]] w fun e w' => e = .returned (.bool (decide (x = y))) ∧ Grew w w' := by
  have E : decide (x = y) = decide (hi64 x = hi64 y ∧ lo64 x = lo64 y) := decide_eq_decide.2 (wide_eq x y)
  rw [E]
  clear E
  generalize hi64 x = a at *
  generalize hi64 y = b at *
  generalize lo64 x = c at *
  generalize lo64 y = d at *
  by_cases h : a = b
  · subst h
    by_cases h2 : c = d
    · subst h2
      have e : decide (a = a ∧ c = c) = true := by simp
      rw [e]
      clear e
      go_enter Try.func10, Try.ntmps10
      go_wp2
      go_ret
      exact ⟨rfl, grew_trans (grew_alloc _ _ _) (grew_alloc _ _ _)⟩
    · have d2 : (c == d) = false := by simpa using h2
      have e : decide (a = a ∧ c = d) = false := decide_eq_false (by omega)
      rw [e]
      clear e h2
      go_enter Try.func10, Try.ntmps10
      go_wp2
      go_ret
      exact ⟨rfl, grew_trans (grew_alloc _ _ _) (grew_alloc _ _ _)⟩
  · have d2 : (a == b) = false := by simpa using h
    have e : decide (a = b ∧ c = d) = false := decide_eq_false (by omega)
    rw [e]
    clear e h
    go_enter Try.func10, Try.ntmps10
    go_wp2
    go_ret
    exact ⟨rfl, grew_trans (grew_alloc _ _ _) (grew_alloc _ _ _)⟩
end Go.Proofs.Ytebnnhlcmfjokaa.NumK
