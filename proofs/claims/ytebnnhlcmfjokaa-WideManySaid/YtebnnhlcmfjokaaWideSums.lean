/- The walk of WideSums. -/
import Derived.Test.YtebnnhlcmfjokaaWideBack
import Derived.Test.YtebnnhlcmfjokaaRef01C
namespace Go.Proofs.Ytebnnhlcmfjokaa.NumK
open Go.RowKit

theorem wideSums_big (A : Option Addr) (n c : Nat) (w : World) (hn : n ≤ 9223372036854775807) (h : 2000 < n) :
    Calls Try.prog 4 #[.slice A n c] w fun e w' => e = .returned (.bool true) ∧ Grew w w' := by
  have d1 : decide (2000 < (n : Int)) = true := by simp; omega
  clear h
  go_enter Try.func4, Try.ntmps4
  go_wp2
  go_ret
  exact ⟨rfl, grew_refl _⟩

set_option maxHeartbeats 1000000 in
theorem wideSums_small (A : Option Addr) (n c : Nat) (xs : List Int) (w : World) (hz : Wides w A n xs) (hw : ∀ x ∈ xs, isWide x = true) (hn : n ≤ 2000) :
    Calls Try.prog 4 #[.slice A n c] w fun e w' => e = .returned (.bool true) ∧ Grew w w' := by
  have C1 := wsum_any A n c xs w hz hw (by omega)
  have C2 := fun w1 (g : Grew w w1) => refSum_any A n c xs w1 (hz.keep g) hw (by omega)
  have C5 := same_any (wsV xs.sum) (wsV xs.sum)
  rw [show decide (wsV xs.sum = wsV xs.sum) = true from decide_eq_true rfl] at C5
  have e0 : (isWide xs.sum = true ∧ wideE xs.sum = 0) ∨ (isWide xs.sum = false ∧ wideE xs.sum = 1) := by
    cases h : isWide xs.sum
    · exact Or.inr ⟨rfl, wideE_out h⟩
    · exact Or.inl ⟨rfl, wideE_in h⟩
  generalize wsV xs.sum = s at *
  generalize isWide xs.sum = b at *
  generalize wideE xs.sum = f at *
  generalize hi64 s = hh at *
  generalize lo64 s = ll at *
  have C2' := Lib.hid C2
  clear hz hw C2
  rcases e0 with ⟨rfl, rfl⟩ | ⟨rfl, rfl⟩
  all_goals
    go_enter Try.func4, Try.ntmps4
    go_upto_region 5 with (first
      | (go_at_call 23; ((with_reducible refine C1.mono ?_); rintro e w1 ⟨rfl, hg1⟩))
      | (go_at_call 24; ((with_reducible refine (C2'.out _ (grew_trans hg1 (grew_alloc _ _ _))).mono ?_); rintro e w2 ⟨rfl, hg2⟩)))
    have hk := two_owned (t2 := 24) (u0 := .int .i64 hh) (u1 := .int .u64 ll) hg2
    generalize w2.alloc (.cells #[.int .i64 hh, .int .u64 ll] 24) = w5 at hk ⊢
    obtain ⟨k1, k2, k3, k4, k5⟩ := hk
    go_wp2_with (first
      | (go_at_call 10; ((with_reducible refine (C5 _).mono ?_); rintro e w6 ⟨rfl, hg6⟩))
      | (go_at_call 22; ((with_reducible refine (wakes02_any _).mono ?_); rintro e w7 ⟨rfl, hg7⟩)))
    go_ret
    exact ⟨rfl, grew_trans hg1 (grew_trans k5 (grew_trans hg6 hg7))⟩

theorem wideSums_walk (A : Option Addr) (n c : Nat) (xs : List Int) (w : World) (hz : Wides w A n xs) (hw : ∀ x ∈ xs, isWide x = true) (hn : n ≤ 9223372036854775807) :
    Calls Try.prog 4 #[.slice A n c] w fun e w' => e = .returned (.bool true) ∧ Grew w w' := by
  by_cases h : n ≤ 2000
  · exact wideSums_small A n c xs w hz hw h
  · exact wideSums_big A n c w hn (by omega)
end Go.Proofs.Ytebnnhlcmfjokaa.NumK
