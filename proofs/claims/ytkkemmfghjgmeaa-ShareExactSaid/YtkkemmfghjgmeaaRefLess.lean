/- The contract of the reference's Less. -/
import Derived.Test.YtkkemmfghjgmeaaWide1
namespace Go.Proofs.Ytkkemmfghjgmeaa.NumK
open Go.RowKit

theorem refLess_any (x y : Int) (w : World) :
    Calls Try.prog 22 #[.agg #[.int .i64 (hi64 x), .int .u64 (lo64 x)], .agg #[.int .i64 (hi64 y), .int .u64 (lo64 y)]] w fun e w' => e = .returned (.bool (decide (x < y))) ∧ Grew w w' := by
  have E : decide (x < y) = decide (hi64 x < hi64 y ∨ (hi64 x = hi64 y ∧ lo64 x < lo64 y)) := decide_eq_decide.2 (wide_lt x y)
  rw [E]
  clear E
  generalize hi64 x = a at *
  generalize hi64 y = b at *
  generalize lo64 x = c at *
  generalize lo64 y = d at *
  by_cases h : a < b
  · have e : decide (a < b ∨ (a = b ∧ c < d)) = true := decide_eq_true (Or.inl h)
    rw [e]
    clear e
    have d1 : decide (a < b) = true := by simpa using h
    go_enter Try.func22, Try.ntmps22
    go_wp2
    go_ret
    exact ⟨rfl, grew_trans (grew_alloc _ _ _) (grew_alloc _ _ _)⟩
  · have d1 : decide (a < b) = false := by simpa using h
    by_cases h2 : a = b
    · subst h2
      have e : decide (a < a ∨ (a = a ∧ c < d)) = decide (c < d) := decide_eq_decide.2 (by omega)
      rw [e]
      clear e
      go_enter Try.func22, Try.ntmps22
      go_wp2
      go_ret
      exact ⟨rfl, grew_trans (grew_alloc _ _ _) (grew_alloc _ _ _)⟩
    · have d2 : (a == b) = false := by simpa using h2
      have e : decide (a < b ∨ (a = b ∧ c < d)) = false := decide_eq_false (by omega)
      rw [e]
      clear e h2
      go_enter Try.func22, Try.ntmps22
      go_wp2
      go_ret
      exact ⟨rfl, grew_trans (grew_alloc _ _ _) (grew_alloc _ _ _)⟩

end Go.Proofs.Ytkkemmfghjgmeaa.NumK
