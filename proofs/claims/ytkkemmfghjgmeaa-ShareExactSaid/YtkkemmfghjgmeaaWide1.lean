/- Contracts of package wide: Of, Less, and what the laws call the same. -/
import Derived.Test.YtkkemmfghjgmeaaWide0
import Derived.Test.YtkkemmfghjgmeaaMul64
import Derived.Deep.QuietTactic
import Derived.BigQuiet
import Derived.Deep.DeepCutAuto
import Derived.Deep.Light
namespace Go.Proofs.Ytkkemmfghjgmeaa.NumK
open Go.RowKit

def sgn (n : Int) : Int := if n < 0 then -1 else 0
theorem sgn_neg {n : Int} (h : n < 0) : sgn n = -1 := by simp [sgn, h]
theorem sgn_pos {n : Int} (h : ¬ n < 0) : sgn n = 0 := by simp [sgn, h]

theorem sign_any (n : Int) (w : World) (h : -9223372036854775808 ≤ n ∧ n ≤ 9223372036854775807) :
    Calls Try.prog 51 #[.int .i64 n] w fun e w' => e = .returned (.int .i64 (sgn n)) ∧ w = w' := by
  go_enter Try.func51, Try.ntmps51
  go_wp2
  go_ret
  exact ⟨ret_i (by unfold sgn; split <;> omega), rfl⟩

theorem hi_of (n : Int) (h : -9223372036854775808 ≤ n ∧ n ≤ 9223372036854775807) : sgn n = hi64 n := by unfold sgn hi64; split <;> omega
theorem lo_of (n : Int) : IntKind.u64.wrap n = lo64 n := by rw [IntKind.wrap_u64]; rfl

theorem wof_any (n : Int) (w : World) (h : -9223372036854775808 ≤ n ∧ n ≤ 9223372036854775807) :
    Calls Try.prog 39 #[.int .i64 n] w fun e w' => e = .returned (.agg #[.int .i64 (hi64 n), .int .u64 (lo64 n)]) ∧ Grew w w' := by
  have C := fun w => sign_any n w h
  have e1 := lo_of n
  rw [hi_of n h] at C
  generalize hi64 n = hh at *
  generalize lo64 n = l at *
  go_enter Try.func39, Try.ntmps39
  go_wp2_with (go_at_call 51; ((with_reducible refine (C _).mono ?_); rintro e w' ⟨rfl, rfl⟩))
  exact bodyPost_ret (v := .agg #[.int .i64 hh, .int .u64 l]) (by simp [results, Try.results39, go_sem]) rfl ⟨rfl, grew_alloc _ _ _⟩

theorem wide_lt (x y : Int) : x < y ↔ hi64 x < hi64 y ∨ (hi64 x = hi64 y ∧ lo64 x < lo64 y) := by
  have h1 := w_eq x
  have h2 := w_eq y
  obtain ⟨h3, h4⟩ := lo_bounds x
  obtain ⟨h5, h6⟩ := lo_bounds y
  generalize hi64 x = a at *
  generalize hi64 y = b at *
  generalize lo64 x = c at *
  generalize lo64 y = d at *
  subst h1 h2
  constructor
  · intro h
    rcases Int.lt_trichotomy a b with h7 | h7 | h7
    · exact Or.inl h7
    · exact Or.inr ⟨h7, by omega⟩
    · omega
  · rintro (h | ⟨h, h7⟩) <;> omega
theorem wide_eq (x y : Int) : x = y ↔ hi64 x = hi64 y ∧ lo64 x = lo64 y := by
  constructor
  · rintro rfl; exact ⟨rfl, rfl⟩
  · rintro ⟨h1, h2⟩
    rw [← w_eq x, ← w_eq y, h1, h2]

theorem wless_any (x y : Int) (w : World) :
    Calls Try.prog 46 #[.agg #[.int .i64 (hi64 x), .int .u64 (lo64 x)], .agg #[.int .i64 (hi64 y), .int .u64 (lo64 y)]] w fun e w' => e = .returned (.bool (decide (x < y))) ∧ Grew w w' := by
  have E : decide (x < y) = decide (hi64 x < hi64 y ∨ (hi64 x = hi64 y ∧ lo64 x < lo64 y)) := decide_eq_decide.2 (wide_lt x y)
  rw [E]
  clear E
  generalize hi64 x = a at *
  generalize hi64 y = b at *
  generalize lo64 x = c at *
  generalize lo64 y = d at *
  by_cases h : a = b
  · subst h
    have e : decide (a < a ∨ (a = a ∧ c < d)) = decide (c < d) := decide_eq_decide.2 (by omega)
    rw [e]
    clear e
    go_enter Try.func46, Try.ntmps46
    go_wp2
    go_ret
    exact ⟨rfl, grew_trans (grew_alloc _ _ _) (grew_alloc _ _ _)⟩
  · have d1 : (a != b) = true := by simpa using h
    have E : Hid (decide (a < b) = decide (a < b ∨ (a = b ∧ c < d))) := decide_eq_decide.2 (by omega)
    clear h
    go_enter Try.func46, Try.ntmps46
    go_wp2
    go_ret
    exact ⟨ret_b E.out, grew_trans (grew_alloc _ _ _) (grew_alloc _ _ _)⟩

end Go.Proofs.Ytkkemmfghjgmeaa.NumK
