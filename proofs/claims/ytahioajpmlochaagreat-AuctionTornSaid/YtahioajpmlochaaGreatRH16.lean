/- Contracts of package wide: Int. -/
import Derived.Test.YtahioajpmlochaaGreatRH4
import Derived.Test.YtahioajpmlochaaGreatRH3
import Derived.Test.YtahioajpmlochaaGreatRH1
import Derived.Deep.RegionHeld3
import Derived.Deep.RegionWith
import Derived.Test.YtahioajpmlochaaGreatRH7
import Derived.Test.YtahioajpmlochaaGreatRH2
import Derived.Laws.MakeOwn
import Derived.Shelf.Abstract
namespace Go.Proofs.YtahioajpmlochaaGreat.NumK
open Go.RowKit

theorem right1 (n : Int) (b : Bool) (h : isMoney n = b) (w : World) :
    Calls Tryz.prog 34 #[.slice (some ⟨w.heap.size, 0, none⟩) 1 1] (w.alloc (.cells #[.int .i64 n] 3)).drew fun e w' => e = .returned (.bool b) ∧ (w.alloc (.cells #[.int .i64 n] 3)).drew = w' := by
  have C := right_any (some ⟨w.heap.size, 0, none⟩) 1 1 [n] _ ((ints1 w n 3).keep (grew_drew (grew_refl _))) (by omega)
  have e : [n].all isMoney = b := by simp [h]
  rw [e] at C
  exact C

set_option maxHeartbeats 1000000 in
theorem wint_money (x : Int) (w : World) (h : isMoney x = true) :
    Calls Tryz.prog 65 #[(.agg #[.int .i64 (hi64 (x)), .int .u64 (lo64 (x))])] w fun e w' => e = .returned (.tuple #[.int .i64 (capV x), .int .i64 (capE x)]) ∧ Grew w w' := by
  have hx := (isMoney_iff x).1 h
  have b1 := lo_bounds x
  have L : wrap64 (lo64 x) = x := by unfold wrap64 lo64; omega
  have C1 := fun w => sign_any x w (by omega)
  rw [hi_of x (by omega)] at C1
  have C2 := right1 x true h
  have E1 := Lib.hid (capV_in h)
  have E2 := Lib.hid (capE_in h)
  clear h hx b1
  generalize hi64 x = hh at *
  generalize lo64 x = l at *
  go_enter Tryz.func65, Tryz.ntmps65
  go_wp2
  have h0 : (w.alloc (.cells #[.int .i64 hh, .int .u64 l] 84)).cell? ⟨w.heap.size, 0, none⟩ = some (.int .i64 hh) ∧ (w.alloc (.cells #[.int .i64 hh, .int .u64 l] 84)).cell? ⟨w.heap.size, 1, none⟩ = some (.int .u64 l) ∧ w.heap.size < (w.alloc (.cells #[.int .i64 hh, .int .u64 l] 84)).heap.size ∧ Grew w (w.alloc (.cells #[.int .i64 hh, .int .u64 l] 84)) := ⟨by simp, by simp, by simp, grew_alloc _ _ _⟩
  generalize w.alloc (.cells #[.int .i64 hh, .int .u64 l] 84) = w0 at h0 ⊢
  obtain ⟨h1, h2, h3, h4⟩ := h0
  go_region_held3 (fun w' => w'.cell? ⟨w.heap.size, 0, none⟩ = some (.int .i64 hh) ∧ w'.cell? ⟨w.heap.size, 1, none⟩ = some (.int .u64 l) ∧ w.heap.size < w'.heap.size ∧ Grew w w')
    (first
      | (exact keep2 (grew_drew (grew_refl _)) h1 h2 h3 h4)
      | (exact keep2 (grew_drew (grew_alloc _ _ _)) h1 h2 h3 h4)
      | (trace_state; fail))
    (first
      | (go_at_call 89; refine (C1 _).mono ?_; rintro e w1 ⟨rfl, rfl⟩)
      | (go_at_call 34; refine (C2 _).mono ?_; rintro e w2 ⟨rfl, rfl⟩))
  rename_i hS
  go_wp2
  go_ret2
  exact ⟨ret2 E1.out.symm E2.out.symm, hS.2.2.2⟩
set_option maxHeartbeats 1000000 in
theorem wint_near (x : Int) (w : World) (h : isMoney x = false) (L : wrap64 (lo64 x) = x) :
    Calls Tryz.prog 65 #[(.agg #[.int .i64 (hi64 (x)), .int .u64 (lo64 (x))])] w fun e w' => e = .returned (.tuple #[.int .i64 (capV x), .int .i64 (capE x)]) ∧ Grew w w' := by
  have b1 := lo_bounds x
  have bn : -9223372036854775808 ≤ wrap64 (lo64 x) ∧ wrap64 (lo64 x) ≤ 9223372036854775807 := by unfold wrap64; omega
  rw [L] at bn
  have C1 := fun w => sign_any x w bn
  rw [hi_of x bn] at C1
  have C2 := right1 x false h
  have E1 := Lib.hid (capV_out h)
  have E2 := Lib.hid (capE_out h)
  clear h b1
  generalize hi64 x = hh at *
  generalize lo64 x = l at *
  go_enter Tryz.func65, Tryz.ntmps65
  go_wp2
  have h0 : (w.alloc (.cells #[.int .i64 hh, .int .u64 l] 84)).cell? ⟨w.heap.size, 0, none⟩ = some (.int .i64 hh) ∧ (w.alloc (.cells #[.int .i64 hh, .int .u64 l] 84)).cell? ⟨w.heap.size, 1, none⟩ = some (.int .u64 l) ∧ w.heap.size < (w.alloc (.cells #[.int .i64 hh, .int .u64 l] 84)).heap.size ∧ Grew w (w.alloc (.cells #[.int .i64 hh, .int .u64 l] 84)) := ⟨by simp, by simp, by simp, grew_alloc _ _ _⟩
  generalize w.alloc (.cells #[.int .i64 hh, .int .u64 l] 84) = w0 at h0 ⊢
  obtain ⟨h1, h2, h3, h4⟩ := h0
  go_region_held3 (fun w' => w'.cell? ⟨w.heap.size, 0, none⟩ = some (.int .i64 hh) ∧ w'.cell? ⟨w.heap.size, 1, none⟩ = some (.int .u64 l) ∧ w.heap.size < w'.heap.size ∧ Grew w w')
    (first
      | (exact keep2 (grew_drew (grew_refl _)) h1 h2 h3 h4)
      | (exact keep2 (grew_drew (grew_alloc _ _ _)) h1 h2 h3 h4)
      | (trace_state; fail))
    (first
      | (go_at_call 89; refine (C1 _).mono ?_; rintro e w1 ⟨rfl, rfl⟩)
      | (go_at_call 34; refine (C2 _).mono ?_; rintro e w2 ⟨rfl, rfl⟩))
  rename_i hS
  go_wp2
  go_ret2
  exact ⟨ret2 E1.out.symm E2.out.symm, hS.2.2.2⟩

set_option maxHeartbeats 1000000 in
theorem wint_far (x : Int) (w : World) (h : isMoney x = false) (hf : hi64 (wrap64 (lo64 x)) ≠ hi64 x) :
    Calls Tryz.prog 65 #[(.agg #[.int .i64 (hi64 (x)), .int .u64 (lo64 (x))])] w fun e w' => e = .returned (.tuple #[.int .i64 (capV x), .int .i64 (capE x)]) ∧ Grew w w' := by
  have b1 := lo_bounds x
  have bn : -9223372036854775808 ≤ wrap64 (lo64 x) ∧ wrap64 (lo64 x) ≤ 9223372036854775807 := by unfold wrap64; omega
  have C1 := fun w => sign_any (wrap64 (lo64 x)) w bn
  rw [hi_of _ bn] at C1
  have E1 := Lib.hid (capV_out h)
  have E2 := Lib.hid (capE_out h)
  have d1 : (hi64 x == hi64 (wrap64 (lo64 x))) = false := by simpa using (Ne.symm hf)
  have d2 : (hi64 x != hi64 (wrap64 (lo64 x))) = true := by simpa using (Ne.symm hf)
  clear h b1 hf
  generalize hi64 (wrap64 (lo64 x)) = hn at *
  generalize hi64 x = hh at *
  generalize lo64 x = l at *
  go_enter Tryz.func65, Tryz.ntmps65
  go_wp2
  first
  | (go_region_with (first
      | (go_at_call 89; refine (C1 _).mono ?_; rintro e w1 ⟨rfl, rfl⟩)))
  | fail
  all_goals
    go_wp2
    go_ret2
    exact ⟨ret2 E1.out.symm E2.out.symm, grew_drew (grew_alloc _ _ _)⟩

theorem wint_any (x : Int) (w : World) :
    Calls Tryz.prog 65 #[(.agg #[.int .i64 (hi64 (x)), .int .u64 (lo64 (x))])] w fun e w' => e = .returned (.tuple #[.int .i64 (capV x), .int .i64 (capE x)]) ∧ Grew w w' := by
  by_cases h : isMoney x = true
  · exact wint_money x w h
  · simp only [Bool.not_eq_true] at h
    by_cases hf : hi64 (wrap64 (lo64 x)) = hi64 x
    · refine wint_near x w h ?_
      have b1 := lo_bounds x
      have e1 := w_eq x
      have e2 := w_eq (wrap64 (lo64 x))
      have hl : lo64 (wrap64 (lo64 x)) = lo64 x := by unfold wrap64 lo64; omega
      rw [hf, hl] at e2
      omega
    · exact wint_far x w h hf
end Go.Proofs.YtahioajpmlochaaGreat.NumK
namespace Go.Proofs.YtahioajpmlochaaGreat.NumK
open Go.RowKit

def wqV (x n : Int) : Int := if 0 < n then capV (x / n) else 0
def wqR (x n : Int) : Int := if 0 < n ∧ isMoney (x / n) = true then x % n else 0
def wqE (x n : Int) : Int := if 0 < n then capE (x / n) else 2

theorem wquo_zero (x n : Int) (w : World) (h : ¬ 0 < n) :
    Calls Tryz.prog 67 #[.agg #[.int .i64 (hi64 x), .int .u64 (lo64 x)], .int .i64 n] w fun e w' => e = .returned (.tuple #[.int .i64 (wqV x n), .int .i64 (wqR x n), .int .i64 (wqE x n)]) ∧ Grew w w' := by
  have E1 : Hid (wqV x n = 0) := by show _ = _; simp [wqV, h]
  have E2 : Hid (wqR x n = 0) := by show _ = _; simp [wqR, h]
  have E3 : Hid (wqE x n = 2) := by show _ = _; simp [wqE, h]
  generalize hi64 x = a at *
  generalize lo64 x = c at *
  go_enter Tryz.func67, Tryz.ntmps67
  go_wp2
  go_ret3
  exact ⟨ret3 E1.out.symm E2.out.symm E3.out.symm, grew_alloc _ _ _⟩

/-- By hand, in two steps: the upper half, then what is left of it with the lower one. -/
theorem two_steps (x n H R : Int) (hn : 0 < n) (e : hi64 x = H * n + R) (r0 : 0 ≤ R) (r1 : R < n) :
    hi64 (x / n) = H ∧ lo64 (x / n) = (R * 18446744073709551616 + lo64 x) / n ∧ x % n = (R * 18446744073709551616 + lo64 x) % n := by
  have b := lo_bounds x
  have ex := w_eq x
  have m1 := Int.mul_ediv_add_emod (R * 18446744073709551616 + lo64 x) n
  have m2 := Int.emod_nonneg (R * 18446744073709551616 + lo64 x) (show n ≠ 0 by omega)
  have m3 := Int.emod_lt_of_pos (R * 18446744073709551616 + lo64 x) hn
  have q0 : 0 ≤ (R * 18446744073709551616 + lo64 x) / n := Int.ediv_nonneg (by omega) (by omega)
  have q1 : (R * 18446744073709551616 + lo64 x) / n < 18446744073709551616 := Int.ediv_lt_of_lt_mul hn (by omega)
  generalize (R * 18446744073709551616 + lo64 x) / n = Q at *
  generalize (R * 18446744073709551616 + lo64 x) % n = S at *
  have key : x = n * (H * 18446744073709551616 + Q) + S := by
    rw [← ex, e]
    have : n * (H * 18446744073709551616 + Q) = H * n * 18446744073709551616 + n * Q := by grind
    rw [this, Int.add_mul]
    generalize n * Q = A at *
    generalize H * n = B at *
    omega
  have u := (Int.ediv_emod_unique (a := x) (b := n) (r := S) (q := H * 18446744073709551616 + Q) hn).2 ⟨by omega, m2, m3⟩
  rw [u.1]
  exact ⟨(w_unique _ H Q rfl q0 q1).1, (w_unique _ H Q rfl q0 q1).2, u.2⟩

theorem tdiv_range (h n : Int) (hn : 0 < n) (hb : -9223372036854775808 ≤ h ∧ h ≤ 9223372036854775807) : -9223372036854775808 ≤ h.tdiv n ∧ h.tdiv n ≤ 9223372036854775807 ∧ (h.tmod n < 0 → -9223372036854775808 < h.tdiv n) := by
  obtain ⟨t1, t2, t3, t4, t5, t6, t7⟩ := tdiv_facts h n (by omega)
  have t4 := t4 hn
  have a1 : 1 ≤ h.tdiv n → n ≤ h.tdiv n * n := fun c => by
    have := Int.mul_le_mul_of_nonneg_right c (Int.le_of_lt hn); omega
  have a2 : h.tdiv n ≤ -9223372036854775808 → h.tdiv n * n ≤ -9223372036854775808 := fun c => by
    have e1 := Int.mul_le_mul_of_nonneg_right c (Int.le_of_lt hn)
    omega
  generalize h.tdiv n * n = A at *
  generalize h.tdiv n = q at *
  generalize h.tmod n = r at *
  exact ⟨by omega, by omega, by omega⟩

set_option maxHeartbeats 1000000 in
theorem wquo_pos (x n : Int) (w : World) (hx : isWide x = true) (hn : 0 < n) (hn2 : n ≤ 9223372036854775807) :
    Calls Tryz.prog 67 #[.agg #[.int .i64 (hi64 x), .int .u64 (lo64 x)], .int .i64 n] w fun e w' => e = .returned (.tuple #[.int .i64 (wqV x n), .int .i64 (wqR x n), .int .i64 (wqE x n)]) ∧ Grew w w' := by
  have hb := hi_bounds x hx
  have lb := lo_bounds x
  obtain ⟨t1, t2, t3, t4, t5, t6, t7⟩ := tdiv_facts (hi64 x) n (by omega)
  have t4 := t4 hn
  have hn0 : (n == 0) = false := by simp; omega
  have E1 : Hid (wqV x n = capV (x / n)) := by show _ = _; simp [wqV, hn]
  have E2 : Hid (isMoney (x / n) = true → wqR x n = x % n) := fun h => by simp [wqR, hn, h]
  have E2' : Hid (isMoney (x / n) = false → wqR x n = 0) := fun h => by simp [wqR, h]
  have E3 : Hid (wqE x n = capE (x / n)) := by show _ = _; simp [wqE, hn]
  obtain ⟨v1, v2, v3⟩ := tdiv_range (hi64 x) n hn hb
  have hq : IntKind.i64.wrap ((hi64 x).tdiv n) = (hi64 x).tdiv n := IntWalk.i64_in _ (by omega)
  have CI := fun w => wint_any (x / n) w
  have wn : IntKind.u64.wrap n = n := by rw [IntKind.wrap_u64]; omega
  by_cases c : (hi64 x).tmod n < 0
  · obtain ⟨s1, s2, s3⟩ := two_steps x n ((hi64 x).tdiv n - 1) ((hi64 x).tmod n + n) hn (by rw [Int.sub_mul]; omega) (by omega) (by omega)
    have CD := fun w => div64_any ((hi64 x).tmod n + n) (lo64 x) n w (by omega) (by omega) (by omega) (by omega) (by omega)
    have g0 : 0 ≤ x % n := Int.emod_nonneg _ (by omega)
    have g1 : x % n < n := Int.emod_lt_of_pos _ hn
    rw [← s2, ← s3] at CD
    rw [s1] at CI
    clear s1 s2 s3 t1 t2 t3 t5 t6 t7 hx
    generalize lo64 (x / n) = L2 at *
    generalize x % n = M at *
    generalize x / n = X at *
    generalize hi64 x = hh at *
    generalize lo64 x = ll at *
    by_cases cm : isMoney X = true
    · have e1 := E2.out cm
      have E4 := Lib.hid e1
      rw [capE_in cm] at CI E3
      clear e1 cm
      go_enter Tryz.func67, Tryz.ntmps67
      go_wp2
      go_quiet (fail)
      go_wp2_with (first
        | (go_at_call 92; ((with_reducible refine (CD _).mono ?_); rintro e w1 ⟨rfl, hg1⟩))
        | (go_at_call 65; ((with_reducible refine (CI _).mono ?_); rintro e w2 ⟨rfl, hg2⟩)))
      go_ret3
      exact ⟨ret3 E1.out.symm E4.out.symm E3.out.symm, grew_trans (grew_drewN (grew_alloc _ _ _) _) (grew_trans hg1 hg2)⟩
    · have cm' : isMoney X = false := by simpa using cm
      have e1 := E2'.out cm'
      have E4 := Lib.hid e1
      have e2 := E1.out
      rw [capV_out cm'] at e2
      have E5 := Lib.hid e2
      rw [capE_out cm'] at CI E3
      clear e1 e2 cm cm'
      go_enter Tryz.func67, Tryz.ntmps67
      go_wp2
      go_quiet (fail)
      go_wp2_with (first
        | (go_at_call 92; ((with_reducible refine (CD _).mono ?_); rintro e w1 ⟨rfl, hg1⟩))
        | (go_at_call 65; ((with_reducible refine (CI _).mono ?_); rintro e w2 ⟨rfl, hg2⟩)))
      go_ret3
      exact ⟨ret3 E5.out.symm E4.out.symm E3.out.symm, grew_trans (grew_drewN (grew_alloc _ _ _) _) (grew_trans hg1 hg2)⟩
  · obtain ⟨s1, s2, s3⟩ := two_steps x n ((hi64 x).tdiv n) ((hi64 x).tmod n) hn (by omega) (by omega) (by omega)
    have CD := fun w => div64_any ((hi64 x).tmod n) (lo64 x) n w (by omega) (by omega) (by omega) (by omega) (by omega)
    have g0 : 0 ≤ x % n := Int.emod_nonneg _ (by omega)
    have g1 : x % n < n := Int.emod_lt_of_pos _ hn
    rw [← s2, ← s3] at CD
    rw [s1] at CI
    clear s1 s2 s3 t1 t2 t3 t5 t6 t7 hx
    generalize lo64 (x / n) = L2 at *
    generalize x % n = M at *
    generalize x / n = X at *
    generalize hi64 x = hh at *
    generalize lo64 x = ll at *
    by_cases cm : isMoney X = true
    · have e1 := E2.out cm
      have E4 := Lib.hid e1
      rw [capE_in cm] at CI E3
      clear e1 cm
      go_enter Tryz.func67, Tryz.ntmps67
      go_wp2
      go_quiet (fail)
      go_wp2_with (first
        | (go_at_call 92; ((with_reducible refine (CD _).mono ?_); rintro e w1 ⟨rfl, hg1⟩))
        | (go_at_call 65; ((with_reducible refine (CI _).mono ?_); rintro e w2 ⟨rfl, hg2⟩)))
      go_ret3
      exact ⟨ret3 E1.out.symm E4.out.symm E3.out.symm, grew_trans (grew_drewN (grew_alloc _ _ _) _) (grew_trans hg1 hg2)⟩
    · have cm' : isMoney X = false := by simpa using cm
      have e1 := E2'.out cm'
      have E4 := Lib.hid e1
      have e2 := E1.out
      rw [capV_out cm'] at e2
      have E5 := Lib.hid e2
      rw [capE_out cm'] at CI E3
      clear e1 e2 cm cm'
      go_enter Tryz.func67, Tryz.ntmps67
      go_wp2
      go_quiet (fail)
      go_wp2_with (first
        | (go_at_call 92; ((with_reducible refine (CD _).mono ?_); rintro e w1 ⟨rfl, hg1⟩))
        | (go_at_call 65; ((with_reducible refine (CI _).mono ?_); rintro e w2 ⟨rfl, hg2⟩)))
      go_ret3
      exact ⟨ret3 E5.out.symm E4.out.symm E3.out.symm, grew_trans (grew_drewN (grew_alloc _ _ _) _) (grew_trans hg1 hg2)⟩

theorem wquo_any (x n : Int) (w : World) (hx : isWide x = true) (hn2 : n ≤ 9223372036854775807) :
    Calls Tryz.prog 67 #[.agg #[.int .i64 (hi64 x), .int .u64 (lo64 x)], .int .i64 n] w fun e w' => e = .returned (.tuple #[.int .i64 (wqV x n), .int .i64 (wqR x n), .int .i64 (wqE x n)]) ∧ Grew w w' := by
  by_cases h : 0 < n
  · exact wquo_pos x n w hx h hn2
  · exact wquo_zero x n w h

end Go.Proofs.YtahioajpmlochaaGreat.NumK
namespace Go.Proofs.YtahioajpmlochaaGreat.NumK
open Go.RowKit

theorem wides_two (w : World) (x y : Int) (t : TypeId) : Wides (w.alloc (.cells #[.int .i64 (hi64 x), .int .u64 (lo64 x), .int .i64 (hi64 y), .int .u64 (lo64 y)] t)) (some ⟨w.heap.size, 0, none⟩) 2 [x, y] :=
  ⟨rfl, fun _ => ⟨_, _, rfl, by simp, fun j hj => by
    match j, hj with
    | 0, _ => simp
    | 1, _ => simp⟩⟩

theorem wide_in (x : Int) (h : -170141183460469231731687303715884105728 ≤ x ∧ x < 170141183460469231731687303715884105728) : isWide x = true := by rw [isWide_iff]; omega

theorem grew_al {w w' : World} (h : Grew w w') (o : Obj) : Grew w (w'.alloc o) := Below.alloc h h.size o

/-- Behind three blocks of the call's own, and a row: the third one as a callee leaves it. -/
theorem third_owned {w w1 : World} {o1 o2 o4 : Obj} {v0 v1 : Value} {t : TypeId} (h : Grew ((((w.alloc o1).alloc o2).alloc (.cells #[v0, v1] t)).alloc o4) w1) :
    w1.cell? ⟨w.heap.size + 1 + 1, 0, none⟩ = some v0 ∧ w1.cell? ⟨w.heap.size + 1 + 1, 1, none⟩ = some v1 ∧ w1.frozen? ⟨w.heap.size + 1 + 1, 0, none⟩ = false ∧ w1.frozen? ⟨w.heap.size + 1 + 1, 1, none⟩ = false ∧ w.heap.size + 1 + 1 < w1.heap.size := by
  have hs := h.size
  have hl : w.heap.size + 1 + 1 < ((((w.alloc o1).alloc o2).alloc (.cells #[v0, v1] t)).alloc o4).heap.size := by simp
  have c : ∀ i, ((((w.alloc o1).alloc o2).alloc (.cells #[v0, v1] t)).alloc o4).cell? ⟨w.heap.size + 1 + 1, i, none⟩ = #[v0, v1][i]? := fun i => by
    rw [World.cell?_alloc_past _ _ _ (by simp), World.cell?_alloc_at _ _ _ _ (by simp)]
  have f : ∀ i, ((((w.alloc o1).alloc o2).alloc (.cells #[v0, v1] t)).alloc o4).frozen? ⟨w.heap.size + 1 + 1, i, none⟩ = false := fun i => by
    rw [World.frozen?_alloc_past _ _ _ (by simp), World.frozen?_alloc_at _ _ _ _ (by simp)]
  refine ⟨(Below.cell h (p := ⟨w.heap.size + 1 + 1, 0, none⟩) hl).trans (c 0), (Below.cell h (p := ⟨w.heap.size + 1 + 1, 1, none⟩) hl).trans (c 1),
    (Below.frozen h (p := ⟨w.heap.size + 1 + 1, 0, none⟩) hl).trans (f 0), (Below.frozen h (p := ⟨w.heap.size + 1 + 1, 1, none⟩) hl).trans (f 1), ?_⟩
  simp at hs; omega

theorem splus_any (x y : Int) (w : World) (hx : isWide x = true) (hy : isWide y = true) (hs : isWide (x + y) = true) :
    Calls Tryz.prog 63 #[.agg #[.int .i64 (hi64 x), .int .u64 (lo64 x)], .agg #[.int .i64 (hi64 y), .int .u64 (lo64 y)]] w fun e w' => e = .returned (.agg #[.int .i64 (hi64 (x + y)), .int .u64 (lo64 (x + y))]) ∧ Grew w w' := by
  have C : ∀ (w : World) (N : Nat), w.heap.size = N → Calls Tryz.prog 88 #[.slice (some ⟨N, 0, none⟩) 2 2] (w.alloc (.cells #[.int .i64 (hi64 x), .int .u64 (lo64 x), .int .i64 (hi64 y), .int .u64 (lo64 y)] 84)) fun r w' => r = .returned (.tuple #[.agg #[.int .i64 (hi64 (x + y)), .int .u64 (lo64 (x + y))], .int .i64 0]) ∧ Grew (w.alloc (.cells #[.int .i64 (hi64 x), .int .u64 (lo64 x), .int .i64 (hi64 y), .int .u64 (lo64 y)] 84)) w' := by
    intro w N hN
    subst hN
    have C := wsum_any (some ⟨w.heap.size, 0, none⟩) 2 2 [x, y] _ (wides_two w x y 84) (by intro z hz; simp at hz; rcases hz with rfl | rfl <;> assumption) (by omega)
    have e1 : [x, y].sum = x + y := by simp
    rw [e1] at C
    simpa only [wsV, wideE, hs, if_true] using C
  have C := Lib.hid C
  clear hx hy hs
  generalize hi64 (x + y) = a at *
  generalize lo64 (x + y) = b at *
  generalize hi64 x = x1 at *
  generalize lo64 x = x2 at *
  generalize hi64 y = y1 at *
  generalize lo64 y = y2 at *
  go_enter Tryz.func63, Tryz.ntmps63
  go_wp2_with (go_at_call 88; ((with_reducible refine (C.out _ _ (by simp)).mono ?_); rintro e w1 ⟨rfl, hg⟩; have k0 := third_owned hg; obtain ⟨k1, k2, k3, k4, k5⟩ := k0; have HG := Lib.hid hg; clear hg))
  exact bodyPost_ret (v := .agg #[.int .i64 a, .int .u64 b]) (by simp [results, Tryz.results63, go_sem, k1, k2, k5]) rfl
    ⟨rfl, grew_al (grew_set (grew_set (grew_trans (grew_al (grew_al (grew_al (grew_al (grew_refl _) _) _) _) _) HG.out) _ (by simp; omega)) _ (by simp; omega)) _⟩
end Go.Proofs.YtahioajpmlochaaGreat.NumK
namespace Go.Proofs.YtahioajpmlochaaGreat.NumK
open Go.RowKit

def cmpV (f : Nat → Int) (x y : Nat) : Int := if f y < f x then -1 else if f x < f y then 1 else 0
theorem cmpV_lt (f : Nat → Int) (x y : Nat) : cmpV f x y < 0 ↔ f y < f x := by
  unfold cmpV; split
  · omega
  · split <;> omega

set_option maxRecDepth 100000 in
theorem gfCmp_any (A : Option Addr) (n c B : Nat) (xs : List Int) (x y : Nat) (w : World) (hbox : w.cell? ⟨B, 0, none⟩ = some (.slice A n c)) (hB : B < w.heap.size) (hz : Wides w A n xs) (hx : x < n) (hy : y < n) (hn : n ≤ 1000000) :
    Calls Tryz.prog 70 (#[.int .i64 x, .int .i64 y] ++ #[.pointer (some ⟨B, 0, none⟩)]) w fun e w' => e = .returned (.int .i64 (cmpV (fun k => xs.getD k 0) x y)) ∧ Grew w w' := by
  obtain ⟨b, o, rfl, hb, hc⟩ := hz.2 (by omega)
  have b1 : ∀ p : GrewTo w, p.to.cell? ⟨B, 0, none⟩ = some (.slice (some ⟨b, o, none⟩) n c) := fun p => (grew_cell p.h (p := ⟨B, 0, none⟩) hB).trans hbox
  have x1 : ∀ p : GrewTo w, p.to.cell? ⟨b, o + x * 2, none⟩ = some (.int .i64 (hi64 (xs.getD x 0))) := fun p => (grew_cell p.h (p := ⟨b, o + x * 2, none⟩) hb).trans (hc x hx).1
  have x2 : ∀ p : GrewTo w, p.to.cell? ⟨b, o + x * 2 + 1, none⟩ = some (.int .u64 (lo64 (xs.getD x 0))) := fun p => (grew_cell p.h (p := ⟨b, o + x * 2 + 1, none⟩) hb).trans (hc x hx).2
  have y1 : ∀ p : GrewTo w, p.to.cell? ⟨b, o + y * 2, none⟩ = some (.int .i64 (hi64 (xs.getD y 0))) := fun p => (grew_cell p.h (p := ⟨b, o + y * 2, none⟩) hb).trans (hc y hy).1
  have y2 : ∀ p : GrewTo w, p.to.cell? ⟨b, o + y * 2 + 1, none⟩ = some (.int .u64 (lo64 (xs.getD y 0))) := fun p => (grew_cell p.h (p := ⟨b, o + y * 2 + 1, none⟩) hb).trans (hc y hy).2
  have CM : Hid (cmpV (fun k => xs.getD k 0) x y = if xs.getD y 0 < xs.getD x 0 then -1 else if xs.getD x 0 < xs.getD y 0 then 1 else 0) := rfl
  generalize cmpV (fun k => xs.getD k 0) x y = r at *
  generalize xs.getD x 0 = X at *
  generalize xs.getD y 0 = Y at *
  have L1 := fun w => wless_any Y X w
  have L2 := fun w => wless_any X Y w
  have n1 : (x : Int) < (n : Int) := by omega
  have n2 : (y : Int) < (n : Int) := by omega
  clear hbox hc hz
  generalize hi64 X = Xh at *
  generalize lo64 X = Xl at *
  generalize hi64 Y = Yh at *
  generalize lo64 Y = Yl at *
  by_cases h1 : Y < X
  · have d1 : decide (Y < X) = true := decide_eq_true h1
    rw [d1] at L1
    have CM2 : Hid (r = -1) := by show _ = _; rw [CM.out, if_pos h1]
    clear d1 CM
    go_enter Tryz.func70, Tryz.ntmps70
    go_wp2_with fail
    refine wp_region_grew (by kernel_rfl) (by kernel_rfl) ?_
    repeat (go_big_quiet_step (exact calls_grew (L1 _)))
    refine wpQuiet_nil ?_
    intro w2 hw'
    have hg := Lib.hid (grew_of hw')
    clear hw' x1 x2 y1 y2 b1
    go_wp2
    go_ret
    exact ⟨ret_i CM2.out.symm, hg.out⟩
  · have d1 : decide (Y < X) = false := decide_eq_false h1
    rw [d1] at L1
    have CM1 : Hid (r = if X < Y then 1 else 0) := by show _ = _; rw [CM.out, if_neg h1]
    clear d1 CM
    by_cases h2 : X < Y
    · have d2 : decide (X < Y) = true := decide_eq_true h2
      have CM2 : Hid (r = 1) := by show _ = _; rw [CM1.out, if_pos h2]
      rw [d2] at L2
      clear d2 CM1
      go_enter Tryz.func70, Tryz.ntmps70
      go_wp2_with fail
      refine wp_region_grew (by kernel_rfl) (by kernel_rfl) ?_
      repeat (go_big_quiet_step (exact calls_grew (L1 _)))
      refine wpQuiet_nil ?_
      intro w2 hw'
      have hg := Lib.hid (grew_of hw')
      have x1' : ∀ p : GrewTo w2, _ := fun p => x1 ⟨p.to, grew_trans hg.out p.h⟩
      have x2' : ∀ p : GrewTo w2, _ := fun p => x2 ⟨p.to, grew_trans hg.out p.h⟩
      have y1' : ∀ p : GrewTo w2, _ := fun p => y1 ⟨p.to, grew_trans hg.out p.h⟩
      have y2' : ∀ p : GrewTo w2, _ := fun p => y2 ⟨p.to, grew_trans hg.out p.h⟩
      have b1' : ∀ p : GrewTo w2, _ := fun p => b1 ⟨p.to, grew_trans hg.out p.h⟩
      clear hw' x1 x2 y1 y2 b1
      go_wp2_with fail
      refine wp_region_grew (by kernel_rfl) (by kernel_rfl) ?_
      repeat (go_big_quiet_step (exact calls_grew (L2 _)))
      refine wpQuiet_nil ?_
      intro w3 hw'
      have hg2 := Lib.hid (grew_of hw')
      clear hw' x1' x2' y1' y2' b1'
      go_wp2
      go_ret
      exact ⟨ret_i CM2.out.symm, grew_trans hg.out hg2.out⟩
    · have d2 : decide (X < Y) = false := decide_eq_false h2
      have CM2 : Hid (r = 0) := by show _ = _; rw [CM1.out, if_neg h2]
      rw [d2] at L2
      clear d2 CM1
      go_enter Tryz.func70, Tryz.ntmps70
      go_wp2_with fail
      refine wp_region_grew (by kernel_rfl) (by kernel_rfl) ?_
      repeat (go_big_quiet_step (exact calls_grew (L1 _)))
      refine wpQuiet_nil ?_
      intro w2 hw'
      have hg := Lib.hid (grew_of hw')
      have x1' : ∀ p : GrewTo w2, _ := fun p => x1 ⟨p.to, grew_trans hg.out p.h⟩
      have x2' : ∀ p : GrewTo w2, _ := fun p => x2 ⟨p.to, grew_trans hg.out p.h⟩
      have y1' : ∀ p : GrewTo w2, _ := fun p => y1 ⟨p.to, grew_trans hg.out p.h⟩
      have y2' : ∀ p : GrewTo w2, _ := fun p => y2 ⟨p.to, grew_trans hg.out p.h⟩
      have b1' : ∀ p : GrewTo w2, _ := fun p => b1 ⟨p.to, grew_trans hg.out p.h⟩
      clear hw' x1 x2 y1 y2 b1
      go_wp2_with fail
      refine wp_region_grew (by kernel_rfl) (by kernel_rfl) ?_
      repeat (go_big_quiet_step (exact calls_grew (L2 _)))
      refine wpQuiet_nil ?_
      intro w3 hw'
      have hg2 := Lib.hid (grew_of hw')
      clear hw' x1' x2' y1' y2' b1'
      go_wp2
      go_ret
      exact ⟨ret_i CM2.out.symm, grew_trans hg.out hg2.out⟩

theorem gfCmpOK (A : Option Addr) (n c B blk : Nat) (xs : List Int) (w0 : World) (hbox : w0.cell? ⟨B, 0, none⟩ = some (.slice A n c)) (hB : B < w0.heap.size) (hBb : B ≠ blk) (hz : Wides w0 A n xs) (hA : ∀ a, A = some a → a.block ≠ blk) (hn : n ≤ 1000000) :
    CmpOK 70 #[.pointer (some ⟨B, 0, none⟩)] (cmpV (fun k => xs.getD k 0)) (fun k => xs.getD k 0) blk n w0 := by
  refine ⟨fun x y => cmpV_lt _ x y, fun w hT x y hx hy => ?_⟩
  refine gfCmp_any A n c B xs x y w ((hT.cell (p := ⟨B, 0, none⟩) hB hBb).trans hbox) (Nat.lt_of_lt_of_le hB hT.size) ⟨hz.1, fun h => ?_⟩ hx hy hn
  obtain ⟨b, o, rfl, hb, hc⟩ := hz.2 h
  have hbb := hA _ rfl
  exact ⟨b, o, rfl, Nat.lt_of_lt_of_le hb hT.size, fun j hj => ⟨(hT.cell (p := ⟨b, o + j * 2, none⟩) hb hbb).trans (hc j hj).1, (hT.cell (p := ⟨b, o + j * 2 + 1, none⟩) hb hbb).trans (hc j hj).2⟩⟩
end Go.Proofs.YtahioajpmlochaaGreat.NumK
namespace Go.Proofs.YtahioajpmlochaaGreat.NumK
open Go.RowKit Go.Shelf

/-- Places by f, in new memory. -/
def GfPost (f : Nat → Int) (n : Nat) (w : World) (e : Ending) (w' : World) : Prop :=
  ∃ B s t, e = .returned (.slice (some ⟨B, 0, none⟩) n n) ∧ w.heap.size ≤ B ∧ RowW w' B n s ∧ Pl f n s t ∧ Grew w w'

set_option maxRecDepth 100000 in
set_option maxHeartbeats 1000000 in
theorem greatestFirst_any (A : Option Addr) (n c : Nat) (xs : List Int) (w : World) (hz : Wides w A n xs) (hA : ∀ a, A = some a → a.block < w.heap.size) (hn : n ≤ 1000000) :
    Calls Tryz.prog 39 #[.slice A n c] w (GfPost (fun k => xs.getD k 0) n w) := by
  have HZ := Lib.hid hz
  have HA := Lib.hid hA
  clear hz hA
  have hmk := fun w => run_ints w n hn
  go_enter Tryz.func39, Tryz.ntmps39
  go_wp2_with fail
  clear hmk
  have HR : Hid (RowI ((w.alloc (.cells #[.slice A n c] 86)).alloc (.cells (madeCells #[.int .i64 0] n) 3)) (w.heap.size + 1) n (fun _ => 0)) := by
    have := RowI.made (w.alloc (.cells #[.slice A n c] 86)) 3 n
    simp only [World.size_alloc] at this
    exact this
  have HB : Hid (((w.alloc (.cells #[.slice A n c] 86)).alloc (.cells (madeCells #[.int .i64 0] n) 3)).cell? ⟨w.heap.size, 0, none⟩ = some (.slice A n c)) := by
    show _ = _
    rw [World.cell?_alloc_past _ _ _ (by simp), World.cell?_alloc_at _ _ _ _ rfl]; rfl
  have HG : Hid (Grew w ((w.alloc (.cells #[.slice A n c] 86)).alloc (.cells (madeCells #[.int .i64 0] n) 3))) := grew_al (grew_al (grew_refl _) _) _
  generalize hw1 : (w.alloc (.cells #[.slice A n c] 86)).alloc (.cells (madeCells #[.int .i64 0] n) 3) = w1 at HR HB HG ⊢
  clear hw1
  generalize hN : w.heap.size = N at HR HB ⊢
  have HN := Lib.hid hN
  clear hN
  go_loopw [10, 4] (fun vi v4 wr => ∃ k : Nat, vi = .int .i64 k ∧ k ≤ n ∧ Hid (RowI wr (N + 1) n (fun j => if j < k then (j : Int) else 0)) ∧ Hid (Turn (N + 1) w1 wr)) (fun vi _ _ => n - (intOf vi).toNat)
  case atStart => exact ⟨0, rfl, Nat.zero_le _, HR.out.congr (fun k _ => by rw [if_neg (by omega)]), Turn.refl _ _⟩
  case round =>
    have HR1 := HR
    clear HR
    obtain ⟨k, rfl, hk, HR, HT⟩ := hrel
    by_cases hlt : k < n
    · have HR2 : Hid (RowI (wr.setCell ⟨N + 1, k, none⟩ (.int .i64 k)) (N + 1) n (fun j => if j < k + 1 then (j : Int) else 0)) := (HR.out.set k k).congr (fun j _ => by
        by_cases c1 : j = k
        · rw [if_pos c1, if_pos (by omega), c1]
        · rw [if_neg c1]
          by_cases c2 : j < k
          · rw [if_pos c2, if_pos (by omega)]
          · rw [if_neg c2, if_neg (by omega)])
      have HT2 : Hid (Turn (N + 1) w1 (wr.setCell ⟨N + 1, k, none⟩ (.int .i64 k))) := HT.out.setCell _ _
      have m1 := (HR.out.2 k hlt).1
      have m2 := (HR.out.2 k hlt).2
      go_wp2
      go_roundw
      case rel => exact ⟨k + 1, by go_num, by omega, HR2, HT2⟩
      case measure => simp only [intOf]; omega
    · obtain rfl : k = n := by omega
      have HRW : Hid (RowW wr (N + 1) k (fun j => j)) := HR.out.toW (fun j hj => by rw [if_pos hj])
      have hbx : wr.cell? ⟨N, 0, none⟩ = some (.slice A k c) := (HT.out.cell (p := ⟨N, 0, none⟩) (by have := HR1.out.1; show N < _; omega) (by simp)).trans HB.out
      have hNs : N + 1 < wr.heap.size := HRW.out.1
      have hzr : Wides wr A k xs := by
        refine ⟨HZ.out.1, fun h => ?_⟩
        obtain ⟨b, o, rfl, hb, hc⟩ := (HZ.out.keep HG.out).2 h
        have hbb := HA.out _ rfl
        have hne : b ≠ N + 1 := by have := HN.out; simp at hbb; omega
        exact ⟨b, o, rfl, Nat.lt_of_lt_of_le hb HT.out.size, fun j hj => ⟨(HT.out.cell (p := ⟨b, o + j * 2, none⟩) hb hne).trans (hc j hj).1, (HT.out.cell (p := ⟨b, o + j * 2 + 1, none⟩) hb hne).trans (hc j hj).2⟩⟩
      have hC := gfCmpOK A k c N (N + 1) xs wr hbx (by omega) (by omega) hzr (fun a ha => by have := HA.out a ha; have := HN.out; omega) hn
      have CS := sortStable_any 70 #[.pointer (some ⟨N, 0, none⟩)] _ _ (N + 1) k k wr wr (enters_of Tryz.func70 (by kernel_rfl) rfl) hC (Turn.refl _ _) HRW.out hn
      have CS := Lib.hid CS
      clear hC hzr hbx HR HB
      go_wp2_with (go_at_call 69; ((with_reducible refine CS.out.mono ?_); rintro r w2 hP; have HP := Lib.hid hP; clear hP; obtain ⟨rfl, hP2⟩ := HP.out; have HP2 := Lib.hid hP2; clear hP2 HP))
      go_ret
      obtain ⟨e, M, S, R, T⟩ := HP2.out
      obtain ⟨t, ht⟩ := pl_of M S
      exact ⟨N + 1, e, t, rfl, by have := HN.out; omega, R, ht, Turn.new HG.out (HT.out.trans T) (by have := HN.out; omega)⟩
end Go.Proofs.YtahioajpmlochaaGreat.NumK
