/- Contracts of the reference's wide numbers: what each call answers, as numbers. -/
import Derived.Test.YtkkemmfghjgmeaaMem
import Derived.Test.YtkkemmfghjgmeaaMul64
import Derived.Test.YtkkemmfghjgmeaaAdd64
import Derived.Deep.DeepCutAuto
import Derived.Deep.Light
namespace Go.Proofs.Ytkkemmfghjgmeaa.NumK
open Go.RowKit


theorem refRight_any (n : Int) (w : World) :
    Calls Try.prog 28 #[.int .i64 n] w fun e w' => e = .returned (.bool (isMoney n)) ∧ w = w' := by
  by_cases h1 : -4611686018427387904 ≤ n
  · by_cases h2 : n ≤ 4611686018427387904
    · have H := Lib.hid ((isMoney_iff n).2 ⟨h1, h2⟩)
      go_enter Try.func28, Try.ntmps28
      go_wp2
      go_ret
      exact ⟨ret_b H.out.symm, rfl⟩
    · have hf : isMoney n = false := by rw [← Bool.not_eq_true, isMoney_iff]; omega
      have H := Lib.hid hf
      clear hf
      go_enter Try.func28, Try.ntmps28
      go_wp2
      go_ret
      exact ⟨ret_b H.out.symm, rfl⟩
  · have hf : isMoney n = false := by rw [← Bool.not_eq_true, isMoney_iff]; omega
    have H := Lib.hid hf
    clear hf
    go_enter Try.func28, Try.ntmps28
    go_wp2
    go_ret
    exact ⟨ret_b H.out.symm, rfl⟩

theorem mag_any (n : Int) (w : World) (h : -9223372036854775808 ≤ n ∧ n ≤ 9223372036854775807) :
    Calls Try.prog 33 #[.int .i64 n] w fun e w' => e = .returned (.int .u64 (n.natAbs : Int)) ∧ w = w' := by
  by_cases c : n < 0
  · have e : IntKind.u64.wrap (-IntKind.u64.wrap n) = (n.natAbs : Int) := by rw [IntKind.wrap_u64, IntKind.wrap_u64]; omega
    have E := Lib.hid e
    clear e
    go_enter Try.func33, Try.ntmps33
    go_wp2
    go_ret
    exact ⟨ret_i E.out, rfl⟩
  · have e : (n.natAbs : Int) = n := by omega
    have E := Lib.hid e
    clear e
    go_enter Try.func33, Try.ntmps33
    go_wp2
    go_ret
    exact ⟨ret_i E.out.symm, rfl⟩

theorem of_any (n : Int) (w : World) (h : -9223372036854775808 ≤ n ∧ n ≤ 9223372036854775807) :
    Calls Try.prog 19 #[.int .i64 n] w fun e w' => e = .returned (.agg #[.int .i64 (hi64 (n)), .int .u64 (lo64 (n))]) ∧ Grew w w' := by
  by_cases c : n < 0
  · have H1 : Hid ((-1 : Int) = hi64 n) := by show (-1 : Int) = _; unfold hi64; omega
    have H2 : Hid (IntKind.u64.wrap n = lo64 n) := by show _ = _; rw [IntKind.wrap_u64]; rfl
    go_enter Try.func19, Try.ntmps19
    go_wp2
    exact bodyPost_ret (v := .agg #[.int .i64 (-1), .int .u64 (IntKind.u64.wrap n)]) (by simp [results, Try.results19, go_sem]) rfl ⟨ret_wv H1.out H2.out, grew_alloc _ _ _⟩
  · have H1 : Hid ((0 : Int) = hi64 n) := by show (0 : Int) = _; unfold hi64; omega
    have H2 : Hid (n = lo64 n) := by show _ = _; unfold lo64; omega
    go_enter Try.func19, Try.ntmps19
    go_wp2
    exact bodyPost_ret (v := .agg #[.int .i64 0, .int .u64 n]) (by simp [results, Try.results19, go_sem]) rfl ⟨ret_wv H1.out H2.out, grew_alloc _ _ _⟩



/-- turned round; not of the least one. -/
theorem neg_any (x : Int) (w : World) (h : isWide x = true) (h2 : isWide (-x) = true) :
    Calls Try.prog 34 #[(.agg #[.int .i64 (hi64 (x)), .int .u64 (lo64 (x))])] w fun e w' => e = .returned (.agg #[.int .i64 (hi64 (-x)), .int .u64 (lo64 (-x))]) ∧ Grew w w' := by
  have b1 := lo_bounds x
  have b2 := hi_bounds x h
  have b3 := hi_bounds (-x) h2
  have ex := w_eq x
  obtain ⟨s1, hs1⟩ : ∃ s, s = (18446744073709551615 - lo64 x + 1 + 0) % 18446744073709551616 := ⟨_, rfl⟩
  obtain ⟨d1, hd1⟩ : ∃ s, s = (18446744073709551615 - lo64 x + 1 + 0) / 18446744073709551616 := ⟨_, rfl⟩
  have A1 := add64_named (18446744073709551615 - lo64 x) 1 0 s1 d1 (by omega) (by omega) (by omega) (by omega) hs1 hd1
  have ew : 0 ≤ IntKind.u64.wrap (hi64 x) ∧ IntKind.u64.wrap (hi64 x) < 18446744073709551616 ∧ (IntKind.u64.wrap (hi64 x) = hi64 x ∨ IntKind.u64.wrap (hi64 x) = hi64 x + 18446744073709551616) := by rw [IntKind.wrap_u64]; omega
  obtain ⟨s2, hs2⟩ : ∃ s, s = (18446744073709551615 - IntKind.u64.wrap (hi64 x) + 0 + d1) % 18446744073709551616 := ⟨_, rfl⟩
  obtain ⟨d2, hd2⟩ : ∃ s, s = (18446744073709551615 - IntKind.u64.wrap (hi64 x) + 0 + d1) / 18446744073709551616 := ⟨_, rfl⟩
  have A2 := add64_named (18446744073709551615 - IntKind.u64.wrap (hi64 x)) 0 d1 s2 d2 (by omega) (by omega) (by omega) (by omega) hs2 hd2
  have b4 := (isWide_iff (-x)).1 h2
  have E := w_unique (-x) (IntKind.i64.wrap s2) s1 (by rw [IntKind.wrap_i64]; omega) (by omega) (by omega)
  have E1 := Lib.hid E.1.symm
  have E2 := Lib.hid E.2.symm
  have N1 := not_u64 (lo64 x) (by omega) (by omega)
  have N2 := not_u64 (IntKind.u64.wrap (hi64 x)) (by omega) (by omega)
  generalize eh : IntKind.u64.wrap (hi64 x) = hw at *
  clear hs1 hd1 hs2 hd2 ew E b3 ex b2 b1 b4
  generalize lo64 x = l at *
  generalize hi64 x = hh at *
  clear h h2
  go_enter Try.func34, Try.ntmps34
  go_wp2_with (first | simp only [A1] | simp only [A2])
  exact bodyPost_ret (v := .agg #[.int .i64 (wrap64 s2), .int .u64 s1]) (by simp [results, Try.results34, go_sem]) rfl ⟨ret_wv ((IntWalk.i64_left s2).symm.trans E1.out) E2.out, grew_trans (grew_alloc _ _ _) (grew_alloc _ _ _)⟩




set_option maxHeartbeats 1000000 in
theorem refTimes_any (a b : Int) (w : World) (ha : -9223372036854775808 ≤ a ∧ a ≤ 9223372036854775807) (hb : -9223372036854775808 ≤ b ∧ b ≤ 9223372036854775807) :
    Calls Try.prog 23 #[.int .i64 a, .int .i64 b] w fun e w' => e = .returned (.agg #[.int .i64 (hi64 (a * b)), .int .u64 (lo64 (a * b))]) ∧ Grew w w' := by
  have m1 := fun w => mag_any a w ha
  have m2 := fun w => mag_any b w hb
  have M := mul64_any a.natAbs b.natAbs (by omega) (by omega)
  obtain ⟨t1, t2, t3⟩ := times_arith a b ha hb
  generalize hP : a.natAbs * b.natAbs = P at *
  have e1 : ((P / 18446744073709551616 : Nat) : Int) = hi64 (P : Int) := by unfold hi64; omega
  have e2 : ((P % 18446744073709551616 : Nat) : Int) = lo64 (P : Int) := by unfold lo64; omega
  rw [e1, e2] at M
  have N := fun w => neg_any (P : Int) w ((isWide_iff _).2 (by omega)) ((isWide_iff _).2 (by omega))
  have g1 : 0 ≤ hi64 (P : Int) ∧ hi64 (P : Int) ≤ 4611686018427387904 := by unfold hi64; omega
  obtain ⟨g1, g2⟩ := g1
  have T2 := Lib.hid t2
  have T3 := Lib.hid t3
  clear t1 t2 t3 e1 e2 hP
  by_cases s1 : a < 0 <;> by_cases s2 : b < 0
  · have d1 : decide (a < 0) = true := by simpa using s1
    have d2 : decide (b < 0) = true := by simpa using s2
    go_enter Try.func23, Try.ntmps23
    go_wp2_with (first
      | (go_at_call 33; ((with_reducible refine (m1 _).mono ?_); rintro e w' ⟨rfl, rfl⟩))
      | (go_at_call 33; ((with_reducible refine (m2 _).mono ?_); rintro e w' ⟨rfl, rfl⟩))
      | (go_at_call 32; ((with_reducible refine (M _).mono ?_); rintro e w' ⟨rfl, rfl⟩))
      | (go_at_call 34; ((with_reducible refine (N _).mono ?_); rintro e w1 ⟨rfl, hg1⟩)))
    exact bodyPost_ret (v := (.agg #[.int .i64 (hi64 ((P : Int))), .int .u64 (lo64 ((P : Int)))])) (by simp [results, Try.results23, go_sem]) rfl ⟨ret_wv (by rw [T2.out (by omega)]) (by rw [T2.out (by omega)]), grew_trans (grew_alloc _ _ _) (grew_alloc _ _ _)⟩
  · have d1 : decide (a < 0) = true := by simpa using s1
    have d2 : decide (b < 0) = false := by simpa using s2
    go_enter Try.func23, Try.ntmps23
    go_wp2_with (first
      | (go_at_call 33; ((with_reducible refine (m1 _).mono ?_); rintro e w' ⟨rfl, rfl⟩))
      | (go_at_call 33; ((with_reducible refine (m2 _).mono ?_); rintro e w' ⟨rfl, rfl⟩))
      | (go_at_call 32; ((with_reducible refine (M _).mono ?_); rintro e w' ⟨rfl, rfl⟩))
      | (go_at_call 34; ((with_reducible refine (N _).mono ?_); rintro e w1 ⟨rfl, hg1⟩; have k0 := own_cells hg1; obtain ⟨k1, k2, k3, k4, k5⟩ := k0)))
    have hz := own_grew hg1
    exact bodyPost_ret (v := (.agg #[.int .i64 (hi64 (-(P : Int))), .int .u64 (lo64 (-(P : Int)))])) (by simp [results, Try.results23, go_sem, k1, k2]) rfl ⟨ret_wv (by rw [T3.out (by omega)]) (by rw [T3.out (by omega)]), grew_set (grew_set hz _ (Nat.le_refl _)) _ (Nat.le_refl _)⟩
  · have d1 : decide (a < 0) = false := by simpa using s1
    have d2 : decide (b < 0) = true := by simpa using s2
    go_enter Try.func23, Try.ntmps23
    go_wp2_with (first
      | (go_at_call 33; ((with_reducible refine (m1 _).mono ?_); rintro e w' ⟨rfl, rfl⟩))
      | (go_at_call 33; ((with_reducible refine (m2 _).mono ?_); rintro e w' ⟨rfl, rfl⟩))
      | (go_at_call 32; ((with_reducible refine (M _).mono ?_); rintro e w' ⟨rfl, rfl⟩))
      | (go_at_call 34; ((with_reducible refine (N _).mono ?_); rintro e w1 ⟨rfl, hg1⟩; have k0 := own_cells hg1; obtain ⟨k1, k2, k3, k4, k5⟩ := k0)))
    have hz := own_grew hg1
    exact bodyPost_ret (v := (.agg #[.int .i64 (hi64 (-(P : Int))), .int .u64 (lo64 (-(P : Int)))])) (by simp [results, Try.results23, go_sem, k1, k2]) rfl ⟨ret_wv (by rw [T3.out (by omega)]) (by rw [T3.out (by omega)]), grew_set (grew_set hz _ (Nat.le_refl _)) _ (Nat.le_refl _)⟩
  · have d1 : decide (a < 0) = false := by simpa using s1
    have d2 : decide (b < 0) = false := by simpa using s2
    go_enter Try.func23, Try.ntmps23
    go_wp2_with (first
      | (go_at_call 33; ((with_reducible refine (m1 _).mono ?_); rintro e w' ⟨rfl, rfl⟩))
      | (go_at_call 33; ((with_reducible refine (m2 _).mono ?_); rintro e w' ⟨rfl, rfl⟩))
      | (go_at_call 32; ((with_reducible refine (M _).mono ?_); rintro e w' ⟨rfl, rfl⟩))
      | (go_at_call 34; ((with_reducible refine (N _).mono ?_); rintro e w1 ⟨rfl, hg1⟩)))
    exact bodyPost_ret (v := (.agg #[.int .i64 (hi64 ((P : Int))), .int .u64 (lo64 ((P : Int)))])) (by simp [results, Try.results23, go_sem]) rfl ⟨ret_wv (by rw [T2.out (by omega)]) (by rw [T2.out (by omega)]), grew_trans (grew_alloc _ _ _) (grew_alloc _ _ _)⟩
end Go.Proofs.Ytkkemmfghjgmeaa.NumK
