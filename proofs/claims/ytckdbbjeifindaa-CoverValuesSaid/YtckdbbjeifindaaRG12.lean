/- Contracts of package wide: Quo, Share. -/
import Derived.Test.YtckdbbjeifindaaRG11
import Derived.Test.YtckdbbjeifindaaRG4
namespace Go.Proofs.Ytckdbbjeifindaa.NumK
open Go.RowKit

def wqV (x n : Int) : Int := if 0 < n then capV (x / n) else 0
def wqR (x n : Int) : Int := if 0 < n ∧ isMoney (x / n) = true then x % n else 0
def wqE (x n : Int) : Int := if 0 < n then capE (x / n) else 2

theorem wquo_zero (x n : Int) (w : World) (h : ¬ 0 < n) :
    Calls Try.prog 47 #[.agg #[.int .i64 (hi64 x), .int .u64 (lo64 x)], .int .i64 n] w fun e w' => e = .returned (.tuple #[.int .i64 (wqV x n), .int .i64 (wqR x n), .int .i64 (wqE x n)]) ∧ Grew w w' := by
  have E1 : Hid (wqV x n = 0) := by show _ = _; simp [wqV, h]
  have E2 : Hid (wqR x n = 0) := by show _ = _; simp [wqR, h]
  have E3 : Hid (wqE x n = 2) := by show _ = _; simp [wqE, h]
  generalize hi64 x = a at *
  generalize lo64 x = c at *
  go_enter Try.func47, Try.ntmps47
  go_wp2
  go_ret3
  exact ⟨ret3 E1.out.symm E2.out.symm E3.out.symm, grew_alloc _ _ _⟩

/-- By hand, in two steps: the upper half, then what is left of it with the lower one. -/
theorem two_steps (x n H R : Int) (hn : 0 < n) (e : hi64 x = H * n + R) (r0 : 0 ≤ R) (r1 : R < n) :
    hi64 (x / n) = H ∧ lo64 (x / n) = (R * 18446744073709551616 + lo64 x) / n ∧ x % n = (R * 18446744073709551616 + lo64 x) % n := by
  have b := lo_bounds x
  have ex := w_eq x
  have m1 := Int.mul_ediv_add_emod (R * 18446744073709551616 + lo64 x) n
  have m2 := Int.emod_nonneg (R * 18446744073709551616 + lo64 x) (show n ≠ 0 by omega)
  have m3 := Int.emod_lt_of_pos (R * 18446744073709551616 + lo64 x) hn
  have q0 : 0 ≤ (R * 18446744073709551616 + lo64 x) / n := Int.ediv_nonneg (by omega) (by omega)
  have q1 : (R * 18446744073709551616 + lo64 x) / n < 18446744073709551616 := Int.ediv_lt_of_lt_mul hn (by omega)
  generalize (R * 18446744073709551616 + lo64 x) / n = Q at *
  generalize (R * 18446744073709551616 + lo64 x) % n = S at *
  have key : x = n * (H * 18446744073709551616 + Q) + S := by
    rw [← ex, e]
    have : n * (H * 18446744073709551616 + Q) = H * n * 18446744073709551616 + n * Q := by grind
    rw [this, Int.add_mul]
    generalize n * Q = A at *
    generalize H * n = B at *
    omega
  have u := (Int.ediv_emod_unique (a := x) (b := n) (r := S) (q := H * 18446744073709551616 + Q) hn).2 ⟨by omega, m2, m3⟩
  rw [u.1]
  exact ⟨(w_unique _ H Q rfl q0 q1).1, (w_unique _ H Q rfl q0 q1).2, u.2⟩

theorem tdiv_range (h n : Int) (hn : 0 < n) (hb : -9223372036854775808 ≤ h ∧ h ≤ 9223372036854775807) : -9223372036854775808 ≤ h.tdiv n ∧ h.tdiv n ≤ 9223372036854775807 ∧ (h.tmod n < 0 → -9223372036854775808 < h.tdiv n) := by
  obtain ⟨t1, t2, t3, t4, t5, t6, t7⟩ := tdiv_facts h n (by omega)
  have t4 := t4 hn
  have a1 : 1 ≤ h.tdiv n → n ≤ h.tdiv n * n := fun c => by
    have := Int.mul_le_mul_of_nonneg_right c (Int.le_of_lt hn); omega
  have a2 : h.tdiv n ≤ -9223372036854775808 → h.tdiv n * n ≤ -9223372036854775808 := fun c => by
    have e1 := Int.mul_le_mul_of_nonneg_right c (Int.le_of_lt hn)
    omega
  generalize h.tdiv n * n = A at *
  generalize h.tdiv n = q at *
  generalize h.tmod n = r at *
  exact ⟨by omega, by omega, by omega⟩

set_option maxHeartbeats 1000000 in
theorem wquo_pos (x n : Int) (w : World) (hx : isWide x = true) (hn : 0 < n) (hn2 : n ≤ 9223372036854775807) :
    Calls Try.prog 47 #[.agg #[.int .i64 (hi64 x), .int .u64 (lo64 x)], .int .i64 n] w fun e w' => e = .returned (.tuple #[.int .i64 (wqV x n), .int .i64 (wqR x n), .int .i64 (wqE x n)]) ∧ Grew w w' := by
  have hb := hi_bounds x hx
  have lb := lo_bounds x
  obtain ⟨t1, t2, t3, t4, t5, t6, t7⟩ := tdiv_facts (hi64 x) n (by omega)
  have t4 := t4 hn
  have hn0 : (n == 0) = false := by simp; omega
  have E1 : Hid (wqV x n = capV (x / n)) := by show _ = _; simp [wqV, hn]
  have E2 : Hid (isMoney (x / n) = true → wqR x n = x % n) := fun h => by simp [wqR, hn, h]
  have E2' : Hid (isMoney (x / n) = false → wqR x n = 0) := fun h => by simp [wqR, h]
  have E3 : Hid (wqE x n = capE (x / n)) := by show _ = _; simp [wqE, hn]
  obtain ⟨v1, v2, v3⟩ := tdiv_range (hi64 x) n hn hb
  have hq : IntKind.i64.wrap ((hi64 x).tdiv n) = (hi64 x).tdiv n := IntWalk.i64_in _ (by omega)
  have CI := fun w => wint_any (x / n) w
  have wn : IntKind.u64.wrap n = n := by rw [IntKind.wrap_u64]; omega
  by_cases c : (hi64 x).tmod n < 0
  · obtain ⟨s1, s2, s3⟩ := two_steps x n ((hi64 x).tdiv n - 1) ((hi64 x).tmod n + n) hn (by rw [Int.sub_mul]; omega) (by omega) (by omega)
    have CD := fun w => div64_any ((hi64 x).tmod n + n) (lo64 x) n w (by omega) (by omega) (by omega) (by omega) (by omega)
    have g0 : 0 ≤ x % n := Int.emod_nonneg _ (by omega)
    have g1 : x % n < n := Int.emod_lt_of_pos _ hn
    rw [← s2, ← s3] at CD
    rw [s1] at CI
    clear s1 s2 s3 t1 t2 t3 t5 t6 t7 hx
    generalize lo64 (x / n) = L2 at *
    generalize x % n = M at *
    generalize x / n = X at *
    generalize hi64 x = hh at *
    generalize lo64 x = ll at *
    by_cases cm : isMoney X = true
    · have e1 := E2.out cm
      have E4 := Lib.hid e1
      rw [capE_in cm] at CI E3
      clear e1 cm
      go_enter Try.func47, Try.ntmps47
      go_wp2
      go_quiet (fail)
      go_wp2_with (first
        | (go_at_call 52; ((with_reducible refine (CD _).mono ?_); rintro e w1 ⟨rfl, hg1⟩))
        | (go_at_call 66; ((with_reducible refine (CI _).mono ?_); rintro e w2 ⟨rfl, hg2⟩)))
      go_ret3
      exact ⟨ret3 E1.out.symm E4.out.symm E3.out.symm, grew_trans (grew_drewN (grew_alloc _ _ _) _) (grew_trans hg1 hg2)⟩
    · have cm' : isMoney X = false := by simpa using cm
      have e1 := E2'.out cm'
      have E4 := Lib.hid e1
      have e2 := E1.out
      rw [capV_out cm'] at e2
      have E5 := Lib.hid e2
      rw [capE_out cm'] at CI E3
      clear e1 e2 cm cm'
      go_enter Try.func47, Try.ntmps47
      go_wp2
      go_quiet (fail)
      go_wp2_with (first
        | (go_at_call 52; ((with_reducible refine (CD _).mono ?_); rintro e w1 ⟨rfl, hg1⟩))
        | (go_at_call 66; ((with_reducible refine (CI _).mono ?_); rintro e w2 ⟨rfl, hg2⟩)))
      go_ret3
      exact ⟨ret3 E5.out.symm E4.out.symm E3.out.symm, grew_trans (grew_drewN (grew_alloc _ _ _) _) (grew_trans hg1 hg2)⟩
  · obtain ⟨s1, s2, s3⟩ := two_steps x n ((hi64 x).tdiv n) ((hi64 x).tmod n) hn (by omega) (by omega) (by omega)
    have CD := fun w => div64_any ((hi64 x).tmod n) (lo64 x) n w (by omega) (by omega) (by omega) (by omega) (by omega)
    have g0 : 0 ≤ x % n := Int.emod_nonneg _ (by omega)
    have g1 : x % n < n := Int.emod_lt_of_pos _ hn
    rw [← s2, ← s3] at CD
    rw [s1] at CI
    clear s1 s2 s3 t1 t2 t3 t5 t6 t7 hx
    generalize lo64 (x / n) = L2 at *
    generalize x % n = M at *
    generalize x / n = X at *
    generalize hi64 x = hh at *
    generalize lo64 x = ll at *
    by_cases cm : isMoney X = true
    · have e1 := E2.out cm
      have E4 := Lib.hid e1
      rw [capE_in cm] at CI E3
      clear e1 cm
      go_enter Try.func47, Try.ntmps47
      go_wp2
      go_quiet (fail)
      go_wp2_with (first
        | (go_at_call 52; ((with_reducible refine (CD _).mono ?_); rintro e w1 ⟨rfl, hg1⟩))
        | (go_at_call 66; ((with_reducible refine (CI _).mono ?_); rintro e w2 ⟨rfl, hg2⟩)))
      go_ret3
      exact ⟨ret3 E1.out.symm E4.out.symm E3.out.symm, grew_trans (grew_drewN (grew_alloc _ _ _) _) (grew_trans hg1 hg2)⟩
    · have cm' : isMoney X = false := by simpa using cm
      have e1 := E2'.out cm'
      have E4 := Lib.hid e1
      have e2 := E1.out
      rw [capV_out cm'] at e2
      have E5 := Lib.hid e2
      rw [capE_out cm'] at CI E3
      clear e1 e2 cm cm'
      go_enter Try.func47, Try.ntmps47
      go_wp2
      go_quiet (fail)
      go_wp2_with (first
        | (go_at_call 52; ((with_reducible refine (CD _).mono ?_); rintro e w1 ⟨rfl, hg1⟩))
        | (go_at_call 66; ((with_reducible refine (CI _).mono ?_); rintro e w2 ⟨rfl, hg2⟩)))
      go_ret3
      exact ⟨ret3 E5.out.symm E4.out.symm E3.out.symm, grew_trans (grew_drewN (grew_alloc _ _ _) _) (grew_trans hg1 hg2)⟩

theorem wquo_any (x n : Int) (w : World) (hx : isWide x = true) (hn2 : n ≤ 9223372036854775807) :
    Calls Try.prog 47 #[.agg #[.int .i64 (hi64 x), .int .u64 (lo64 x)], .int .i64 n] w fun e w' => e = .returned (.tuple #[.int .i64 (wqV x n), .int .i64 (wqR x n), .int .i64 (wqE x n)]) ∧ Grew w w' := by
  by_cases h : 0 < n
  · exact wquo_pos x n w hx h hn2
  · exact wquo_zero x n w h

end Go.Proofs.Ytckdbbjeifindaa.NumK
