/- The contract of the reference's Quo. -/
import Derived.Test.YtodnllopokoicaaGreatRH16
import Derived.Test.YtodnllopokoicaaGreatRH1
import Derived.Test.YtodnllopokoicaaGreatRH3
import Derived.Deep.DeepCutAuto
import Derived.Deep.Light
namespace Go.Proofs.YtodnllopokoicaaGreat.NumK
open Go.RowKit

def wqB (x n : Int) : Bool := decide (0 < n) && isMoney (x / n)
theorem ret_vvb {a b a' b' : Int} {c c' : Bool} (h1 : a = a') (h2 : b = b') (h3 : c = c') : Ending.returned (.tuple #[.int .i64 a, .int .i64 b, .bool c]) = .returned (.tuple #[.int .i64 a', .int .i64 b', .bool c']) := by rw [h1, h2, h3]

set_option maxRecDepth 100000 in
theorem refQuo_zero (x n : Int) (w : World) (h : ¬ 0 < n) :
    Calls Tryz.prog 85 #[.agg #[.int .i64 (hi64 x), .int .u64 (lo64 x)], .int .i64 n] w fun e w' => e = .returned (.tuple #[.int .i64 (wqV x n), .int .i64 (wqR x n), .bool (wqB x n)]) ∧ Grew w w' := by
  have E1 : Hid (wqV x n = 0) := by show _ = _; simp [wqV, h]
  have E2 : Hid (wqR x n = 0) := by show _ = _; simp [wqR, h]
  have E3 : Hid (wqB x n = false) := by show _ = _; simp [wqB, h]
  generalize hi64 x = a at *
  generalize lo64 x = c at *
  go_enter Tryz.func85, Tryz.ntmps85
  go_wp2
  go_ret3
  exact ⟨ret_vvb E1.out.symm E2.out.symm E3.out.symm, grew_alloc _ _ _⟩

theorem wq_out {x n : Int} (h : isMoney (x / n) = false) : wqV x n = 0 ∧ wqR x n = 0 ∧ wqB x n = false := by
  simp [wqV, wqR, wqB, h, capV]
theorem wq_in {x n : Int} (hn : 0 < n) (h : isMoney (x / n) = true) : wqV x n = x / n ∧ wqR x n = x % n ∧ wqB x n = true := by
  simp [wqV, wqR, wqB, h, hn, capV]

/-- What the quotient is by the number's size: from 0 on. -/
theorem quo_up (x n : Int) (hn : 0 < n) (h0 : 0 ≤ x) : 0 ≤ x / n ∧ 0 ≤ x % n ∧ x % n < n ∧ (n ≤ hi64 x → isMoney (x / n) = false) ∧ (hi64 x < n → x / n < 18446744073709551616) ∧ (4611686018427387904 < x / n → isMoney (x / n) = false) ∧ (x / n ≤ 4611686018427387904 → isMoney (x / n) = true) := by
  have ex := w_eq x
  have bl := lo_bounds x
  have m1 := Int.mul_ediv_add_emod x n
  have m2 := Int.emod_nonneg x (show n ≠ 0 by omega)
  have m3 := Int.emod_lt_of_pos x hn
  have q0 : 0 ≤ x / n := Int.ediv_nonneg h0 (by omega)
  refine ⟨q0, m2, m3, fun h => ?_, fun h => Int.ediv_lt_of_lt_mul hn (by omega), fun h => ?_, fun h => ?_⟩
  · have : 18446744073709551616 ≤ x / n := (Int.le_ediv_iff_mul_le hn).2 (by omega)
    rw [← Bool.not_eq_true, isMoney_iff]; omega
  · rw [← Bool.not_eq_true, isMoney_iff]; omega
  · rw [isMoney_iff]; omega

set_option maxHeartbeats 1000000 in
set_option maxRecDepth 100000 in
theorem refQuo_up (x n : Int) (w : World) (hx : isWide x = true) (h0 : 0 ≤ x) (hn : 0 < n) (hn2 : n ≤ 9223372036854775807) :
    Calls Tryz.prog 85 #[.agg #[.int .i64 (hi64 x), .int .u64 (lo64 x)], .int .i64 n] w fun e w' => e = .returned (.tuple #[.int .i64 (wqV x n), .int .i64 (wqR x n), .bool (wqB x n)]) ∧ Grew w w' := by
  obtain ⟨u1, u2, u3, u4, u5, u6, u7⟩ := quo_up x n hn h0
  have hb := hi_bounds x hx
  have lb := lo_bounds x
  have ex := w_eq x
  have wn : IntKind.u64.wrap n = n := by rw [IntKind.wrap_u64]; omega
  have wh : IntKind.u64.wrap (hi64 x) = hi64 x := by rw [IntKind.wrap_u64]; omega
  have h1 : ¬ hi64 x < 0 := by omega
  have OUT := Lib.hid (wq_out (x := x) (n := n))
  have IN := Lib.hid (wq_in (x := x) (n := n) hn)
  have CD := fun h w => div64_any (hi64 x) (lo64 x) n w (by omega) h (by omega) (by omega) (by omega)
  rw [ex] at CD
  clear ex hx h0
  generalize hi64 x = hh at *
  generalize lo64 x = ll at *
  by_cases c1 : n ≤ hh
  · have E := Lib.hid (OUT.out (u4 c1))
    clear u1 u2 u3 u4 u5 u6 u7 CD
    go_enter Tryz.func85, Tryz.ntmps85
    go_wp2
    go_quiet (fail)
    go_wp2
    go_ret3
    exact ⟨ret_vvb E.out.1.symm E.out.2.1.symm E.out.2.2.symm, grew_drewN (grew_alloc _ _ _) _⟩
  · have CD := CD (by omega)
    have u5 := u5 (by omega)
    by_cases c2 : 4611686018427387904 < x / n
    · have E := Lib.hid (OUT.out (u6 c2))
      clear u4 u6 u7
      generalize x / n = X at *
      generalize x % n = M at *
      go_enter Tryz.func85, Tryz.ntmps85
      go_wp2
      go_quiet (fail)
      go_wp2_with (go_at_call 123; ((with_reducible refine (CD _).mono ?_); rintro e w1 ⟨rfl, hg1⟩))
      go_ret3
      exact ⟨ret_vvb E.out.1.symm E.out.2.1.symm E.out.2.2.symm, grew_trans (grew_drewN (grew_alloc _ _ _) _) hg1⟩
    · have E := Lib.hid (IN.out (u7 (by omega)))
      clear u4 u6 u7
      generalize x / n = X at *
      generalize x % n = M at *
      go_enter Tryz.func85, Tryz.ntmps85
      go_wp2
      go_quiet (fail)
      go_wp2_with (go_at_call 123; ((with_reducible refine (CD _).mono ?_); rintro e w1 ⟨rfl, hg1⟩))
      go_ret3
      exact ⟨ret_vvb E.out.1.symm E.out.2.1.symm E.out.2.2.symm, grew_trans (grew_drewN (grew_alloc _ _ _) _) hg1⟩

theorem quo_down (x n : Int) (hn : 0 < n) (h0 : x < 0) : 0 ≤ -x / n ∧ 0 ≤ -x % n ∧ -x % n < n ∧ (n ≤ hi64 (-x) → isMoney (x / n) = false) ∧ (hi64 (-x) < n → -x / n < 18446744073709551616) ∧ (-x % n = 0 → x / n = - (-x / n) ∧ x % n = 0) ∧ (0 < -x % n → x / n = - (-x / n) - 1 ∧ x % n = n - -x % n) := by
  obtain ⟨u1, u2, u3, u4, u5, u6, u7⟩ := quo_up (-x) n hn (by omega)
  have m1 := Int.mul_ediv_add_emod (-x) n
  have r1 : -x % n = 0 → x / n = - (-x / n) ∧ x % n = 0 := fun h =>
    (Int.ediv_emod_unique (a := x) (b := n) (r := 0) (q := -(-x / n)) hn).2 ⟨by rw [Int.mul_neg]; omega, by omega, hn⟩
  have r2 : 0 < -x % n → x / n = - (-x / n) - 1 ∧ x % n = n - -x % n := fun h =>
    (Int.ediv_emod_unique (a := x) (b := n) (r := n - -x % n) (q := -(-x / n) - 1) hn).2 ⟨by rw [Int.mul_sub, Int.mul_neg]; omega, by omega, by omega⟩
  refine ⟨u1, u2, u3, fun h => ?_, u5, r1, r2⟩
  have ex := w_eq (-x)
  have bl := lo_bounds (-x)
  have : 18446744073709551616 ≤ -x / n := (Int.le_ediv_iff_mul_le hn).2 (by omega)
  rw [← Bool.not_eq_true, isMoney_iff]
  by_cases c : -x % n = 0
  · have := r1 c; omega
  · have := r2 (by omega); omega

set_option maxHeartbeats 1000000 in
set_option maxRecDepth 100000 in
theorem refQuo_down (x n : Int) (w : World) (hx : isWide x = true) (h0 : x < 0) (hn : 0 < n) (hn2 : n ≤ 9223372036854775807) :
    Calls Tryz.prog 85 #[.agg #[.int .i64 (hi64 x), .int .u64 (lo64 x)], .int .i64 n] w fun e w' => e = .returned (.tuple #[.int .i64 (wqV x n), .int .i64 (wqR x n), .bool (wqB x n)]) ∧ Grew w w' := by
  obtain ⟨u1, u2, u3, u4, u5, u6, u7⟩ := quo_down x n hn h0
  have hb := hi_bounds x hx
  have lb := lo_bounds x
  have ex := w_eq x
  have wn : IntKind.u64.wrap n = n := by rw [IntKind.wrap_u64]; omega
  have h1 : hi64 x < 0 := by omega
  have hxx := (isWide_iff x).1 hx
  have OUT := Lib.hid (wq_out (x := x) (n := n))
  have IN := Lib.hid (wq_in (x := x) (n := n) hn)
  obtain ⟨s1, hs1⟩ : ∃ s, s = (18446744073709551615 - lo64 x + 1 + 0) % 18446744073709551616 := ⟨_, rfl⟩
  obtain ⟨d1, hd1⟩ : ∃ s, s = (18446744073709551615 - lo64 x + 1 + 0) / 18446744073709551616 := ⟨_, rfl⟩
  have A1 := add64_named (18446744073709551615 - lo64 x) 1 0 s1 d1 (by omega) (by omega) (by omega) (by omega) hs1 hd1
  have ew : IntKind.u64.wrap (hi64 x) = hi64 x + 18446744073709551616 := by rw [IntKind.wrap_u64]; omega
  obtain ⟨s2, hs2⟩ : ∃ s, s = (18446744073709551615 - IntKind.u64.wrap (hi64 x) + 0 + d1) % 18446744073709551616 := ⟨_, rfl⟩
  obtain ⟨d2, hd2⟩ : ∃ s, s = (18446744073709551615 - IntKind.u64.wrap (hi64 x) + 0 + d1) / 18446744073709551616 := ⟨_, rfl⟩
  have A2 := add64_named (18446744073709551615 - IntKind.u64.wrap (hi64 x)) 0 d1 s2 d2 (by omega) (by omega) (by omega) (by omega) hs2 hd2
  have E := w_unique (-x) s2 s1 (by omega) (by omega) (by omega)
  have N1 := not_u64 (lo64 x) (by omega) (by omega)
  have N2 := not_u64 (IntKind.u64.wrap (hi64 x)) (by omega) (by omega)
  have f1 : 0 ≤ s1 ∧ s1 < 18446744073709551616 := by omega
  have f2 : 0 ≤ s2 ∧ s2 < 18446744073709551616 := by omega
  have ey : s2 * 18446744073709551616 + s1 = -x := by omega
  rw [E.1] at u4 u5
  have CD := fun h w => div64_any s2 s1 n w (by omega) h (by omega) (by omega) (by omega)
  rw [ey] at CD
  generalize eh : IntKind.u64.wrap (hi64 x) = hw at *
  clear ey ex hx h0 hxx E hs1 hs2 hd1 hd2 ew
  generalize hi64 x = hh at *
  generalize lo64 x = ll at *
  obtain ⟨f1, f1'⟩ := f1
  obtain ⟨f2, f2'⟩ := f2
  generalize -x / n = Q at *
  generalize -x % n = R at *
  by_cases c1 : n ≤ s2
  · have E := Lib.hid (OUT.out (u4 c1))
    clear u1 u2 u3 u4 u5 u6 u7 CD
    go_enter Tryz.func85, Tryz.ntmps85
    go_wp2
    go_quiet (fail)
    go_wp2_with (first
      | rw [A1]
      | rw [A2])
    go_ret3
    exact ⟨ret_vvb E.out.1.symm E.out.2.1.symm E.out.2.2.symm, grew_drewN (grew_alloc _ _ _) _⟩
  · have CD := CD (by omega)
    have u5 := u5 (by omega)
    by_cases c3 : 0 < R
    · obtain ⟨v1, v2⟩ := u7 c3
      clear u6 u7 u4
      by_cases c2 : 4611686018427387904 ≤ Q
      · have E := Lib.hid (OUT.out (by rw [← Bool.not_eq_true, isMoney_iff]; omega))
        clear v1 v2
        go_enter Tryz.func85, Tryz.ntmps85
        go_wp2
        go_quiet (fail)
        go_wp2_with (first
          | rw [A1]
          | rw [A2]
          | (go_at_call 123; ((with_reducible refine (CD _).mono ?_); rintro e w1 ⟨rfl, hg1⟩)))
        go_ret3
        exact ⟨ret_vvb E.out.1.symm E.out.2.1.symm E.out.2.2.symm, grew_trans (grew_drewN (grew_alloc _ _ _) _) hg1⟩
      · have E := IN.out (by rw [isMoney_iff]; omega)
        rw [v1, v2] at E
        have E := Lib.hid E
        clear v1 v2
        go_enter Tryz.func85, Tryz.ntmps85
        go_wp2
        go_quiet (fail)
        go_wp2_with (first
          | rw [A1]
          | rw [A2]
          | (go_at_call 123; ((with_reducible refine (CD _).mono ?_); rintro e w1 ⟨rfl, hg1⟩)))
        go_ret3
        exact ⟨ret_vvb E.out.1.symm E.out.2.1.symm E.out.2.2.symm, grew_trans (grew_drewN (grew_alloc _ _ _) _) hg1⟩
    · obtain ⟨v1, v2⟩ := u6 (by omega)
      have hR : R = 0 := by omega
      subst hR
      clear u6 u7 u4 c3
      by_cases c2 : 4611686018427387904 < Q
      · have E := Lib.hid (OUT.out (by rw [← Bool.not_eq_true, isMoney_iff]; omega))
        clear v1 v2
        go_enter Tryz.func85, Tryz.ntmps85
        go_wp2
        go_quiet (fail)
        go_wp2_with (first
          | rw [A1]
          | rw [A2]
          | (go_at_call 123; ((with_reducible refine (CD _).mono ?_); rintro e w1 ⟨rfl, hg1⟩)))
        go_ret3
        exact ⟨ret_vvb E.out.1.symm E.out.2.1.symm E.out.2.2.symm, grew_trans (grew_drewN (grew_alloc _ _ _) _) hg1⟩
      · have E := IN.out (by rw [isMoney_iff]; omega)
        rw [v1, v2] at E
        have E := Lib.hid E
        clear v1 v2
        go_enter Tryz.func85, Tryz.ntmps85
        go_wp2
        go_quiet (fail)
        go_wp2_with (first
          | rw [A1]
          | rw [A2]
          | (go_at_call 123; ((with_reducible refine (CD _).mono ?_); rintro e w1 ⟨rfl, hg1⟩)))
        go_ret3
        exact ⟨ret_vvb E.out.1.symm E.out.2.1.symm E.out.2.2.symm, grew_trans (grew_drewN (grew_alloc _ _ _) _) hg1⟩

theorem refQuo_any (x n : Int) (w : World) (hx : isWide x = true) (hn2 : n ≤ 9223372036854775807) :
    Calls Tryz.prog 85 #[.agg #[.int .i64 (hi64 x), .int .u64 (lo64 x)], .int .i64 n] w fun e w' => e = .returned (.tuple #[.int .i64 (wqV x n), .int .i64 (wqR x n), .bool (wqB x n)]) ∧ Grew w w' := by
  by_cases h : 0 < n
  · by_cases h0 : 0 ≤ x
    · exact refQuo_up x n w hx h0 h hn2
    · exact refQuo_down x n w hx (by omega) h hn2
  · exact refQuo_zero x n w h
end Go.Proofs.YtodnllopokoicaaGreat.NumK
namespace Go.Proofs.YtodnllopokoicaaGreat.NumK
open Go.RowKit

theorem wshare_any (a b c : Int) (w : World) (ha : -9223372036854775808 ≤ a ∧ a ≤ 9223372036854775807) (hb : -9223372036854775808 ≤ b ∧ b ≤ 9223372036854775807) (hc : c ≤ 9223372036854775807) :
    Calls Tryz.prog 70 #[.int .i64 a, .int .i64 b, .int .i64 c] w fun e w' => e = .returned (.tuple #[.int .i64 (wqV (a * b) c), .int .i64 (wqE (a * b) c)]) ∧ Grew w w' := by
  have CT := fun w => wtimes_any a b w ha hb
  have hx : isWide (a * b) = true := by
    obtain ⟨t1, t2, t3⟩ := times_arith a b ha hb
    rw [isWide_iff]
    generalize a * b = p at *
    generalize a.natAbs * b.natAbs = P at *
    omega
  have CQ := fun w => wquo_any (a * b) c w hx hc
  generalize a * b = x at *
  go_enter Tryz.func70, Tryz.ntmps70
  go_wp2_with (first
    | (go_at_call 92; ((with_reducible refine (CT _).mono ?_); rintro e w1 ⟨rfl, hg1⟩))
    | (go_at_call 121; ((with_reducible refine (CQ _).mono ?_); rintro e w2 ⟨rfl, hg2⟩)))
  go_ret2
  exact ⟨rfl, grew_trans hg1 hg2⟩
end Go.Proofs.YtodnllopokoicaaGreat.NumK
