/- The contract of the reference's Quo. -/
import Derived.Test.YtckdbbjeifindaaRG12
import Derived.Test.YtckdbbjeifindaaRG1
import Derived.Test.YtckdbbjeifindaaRG3
import Derived.Deep.DeepCutAuto
import Derived.Deep.Light
import Derived.Test.YtckdbbjeifindaaRG11
import Derived.Test.YtckdbbjeifindaaRG10
import Derived.Test.YtckdbbjeifindaaRG2
import Derived.Test.YtckdbbjeifindaaRG4
namespace Go.Proofs.Ytckdbbjeifindaa.NumK
open Go.RowKit

def wqB (x n : Int) : Bool := decide (0 < n) && isMoney (x / n)
theorem ret_vvb {a b a' b' : Int} {c c' : Bool} (h1 : a = a') (h2 : b = b') (h3 : c = c') : Ending.returned (.tuple #[.int .i64 a, .int .i64 b, .bool c]) = .returned (.tuple #[.int .i64 a', .int .i64 b', .bool c']) := by rw [h1, h2, h3]

set_option maxRecDepth 100000 in
theorem refQuo_zero (x n : Int) (w : World) (h : ¬ 0 < n) :
    Calls Try.prog 25 #[.agg #[.int .i64 (hi64 x), .int .u64 (lo64 x)], .int .i64 n] w fun e w' => e = .returned (.tuple #[.int .i64 (wqV x n), .int .i64 (wqR x n), .bool (wqB x n)]) ∧ Grew w w' := by
  have E1 : Hid (wqV x n = 0) := by show _ = _; simp [wqV, h]
  have E2 : Hid (wqR x n = 0) := by show _ = _; simp [wqR, h]
  have E3 : Hid (wqB x n = false) := by show _ = _; simp [wqB, h]
  generalize hi64 x = a at *
  generalize lo64 x = c at *
  go_enter Try.func25, Try.ntmps25
  go_wp2
  go_ret3
  exact ⟨ret_vvb E1.out.symm E2.out.symm E3.out.symm, grew_alloc _ _ _⟩

theorem wq_out {x n : Int} (h : isMoney (x / n) = false) : wqV x n = 0 ∧ wqR x n = 0 ∧ wqB x n = false := by
  simp [wqV, wqR, wqB, h, capV]
theorem wq_in {x n : Int} (hn : 0 < n) (h : isMoney (x / n) = true) : wqV x n = x / n ∧ wqR x n = x % n ∧ wqB x n = true := by
  simp [wqV, wqR, wqB, h, hn, capV]

/-- What the quotient is by the number's size: from 0 on. -/
theorem quo_up (x n : Int) (hn : 0 < n) (h0 : 0 ≤ x) : 0 ≤ x / n ∧ 0 ≤ x % n ∧ x % n < n ∧ (n ≤ hi64 x → isMoney (x / n) = false) ∧ (hi64 x < n → x / n < 18446744073709551616) ∧ (4611686018427387904 < x / n → isMoney (x / n) = false) ∧ (x / n ≤ 4611686018427387904 → isMoney (x / n) = true) := by
  have ex := w_eq x
  have bl := lo_bounds x
  have m1 := Int.mul_ediv_add_emod x n
  have m2 := Int.emod_nonneg x (show n ≠ 0 by omega)
  have m3 := Int.emod_lt_of_pos x hn
  have q0 : 0 ≤ x / n := Int.ediv_nonneg h0 (by omega)
  refine ⟨q0, m2, m3, fun h => ?_, fun h => Int.ediv_lt_of_lt_mul hn (by omega), fun h => ?_, fun h => ?_⟩
  · have : 18446744073709551616 ≤ x / n := (Int.le_ediv_iff_mul_le hn).2 (by omega)
    rw [← Bool.not_eq_true, isMoney_iff]; omega
  · rw [← Bool.not_eq_true, isMoney_iff]; omega
  · rw [isMoney_iff]; omega

set_option maxHeartbeats 1000000 in
set_option maxRecDepth 100000 in
theorem refQuo_up (x n : Int) (w : World) (hx : isWide x = true) (h0 : 0 ≤ x) (hn : 0 < n) (hn2 : n ≤ 9223372036854775807) :
    Calls Try.prog 25 #[.agg #[.int .i64 (hi64 x), .int .u64 (lo64 x)], .int .i64 n] w fun e w' => e = .returned (.tuple #[.int .i64 (wqV x n), .int .i64 (wqR x n), .bool (wqB x n)]) ∧ Grew w w' := by
  obtain ⟨u1, u2, u3, u4, u5, u6, u7⟩ := quo_up x n hn h0
  have hb := hi_bounds x hx
  have lb := lo_bounds x
  have ex := w_eq x
  have wn : IntKind.u64.wrap n = n := by rw [IntKind.wrap_u64]; omega
  have wh : IntKind.u64.wrap (hi64 x) = hi64 x := by rw [IntKind.wrap_u64]; omega
  have h1 : ¬ hi64 x < 0 := by omega
  have OUT := Lib.hid (wq_out (x := x) (n := n))
  have IN := Lib.hid (wq_in (x := x) (n := n) hn)
  have CD := fun h w => div64_any (hi64 x) (lo64 x) n w (by omega) h (by omega) (by omega) (by omega)
  rw [ex] at CD
  clear ex hx h0
  generalize hi64 x = hh at *
  generalize lo64 x = ll at *
  by_cases c1 : n ≤ hh
  · have E := Lib.hid (OUT.out (u4 c1))
    clear u1 u2 u3 u4 u5 u6 u7 CD
    go_enter Try.func25, Try.ntmps25
    go_wp2
    go_quiet (fail)
    go_wp2
    go_ret3
    exact ⟨ret_vvb E.out.1.symm E.out.2.1.symm E.out.2.2.symm, grew_drewN (grew_alloc _ _ _) _⟩
  · have CD := CD (by omega)
    have u5 := u5 (by omega)
    by_cases c2 : 4611686018427387904 < x / n
    · have E := Lib.hid (OUT.out (u6 c2))
      clear u4 u6 u7
      generalize x / n = X at *
      generalize x % n = M at *
      go_enter Try.func25, Try.ntmps25
      go_wp2
      go_quiet (fail)
      go_wp2_with (go_at_call 52; ((with_reducible refine (CD _).mono ?_); rintro e w1 ⟨rfl, hg1⟩))
      go_ret3
      exact ⟨ret_vvb E.out.1.symm E.out.2.1.symm E.out.2.2.symm, grew_trans (grew_drewN (grew_alloc _ _ _) _) hg1⟩
    · have E := Lib.hid (IN.out (u7 (by omega)))
      clear u4 u6 u7
      generalize x / n = X at *
      generalize x % n = M at *
      go_enter Try.func25, Try.ntmps25
      go_wp2
      go_quiet (fail)
      go_wp2_with (go_at_call 52; ((with_reducible refine (CD _).mono ?_); rintro e w1 ⟨rfl, hg1⟩))
      go_ret3
      exact ⟨ret_vvb E.out.1.symm E.out.2.1.symm E.out.2.2.symm, grew_trans (grew_drewN (grew_alloc _ _ _) _) hg1⟩

theorem quo_down (x n : Int) (hn : 0 < n) (h0 : x < 0) : 0 ≤ -x / n ∧ 0 ≤ -x % n ∧ -x % n < n ∧ (n ≤ hi64 (-x) → isMoney (x / n) = false) ∧ (hi64 (-x) < n → -x / n < 18446744073709551616) ∧ (-x % n = 0 → x / n = - (-x / n) ∧ x % n = 0) ∧ (0 < -x % n → x / n = - (-x / n) - 1 ∧ x % n = n - -x % n) := by
  obtain ⟨u1, u2, u3, u4, u5, u6, u7⟩ := quo_up (-x) n hn (by omega)
  have m1 := Int.mul_ediv_add_emod (-x) n
  have r1 : -x % n = 0 → x / n = - (-x / n) ∧ x % n = 0 := fun h =>
    (Int.ediv_emod_unique (a := x) (b := n) (r := 0) (q := -(-x / n)) hn).2 ⟨by rw [Int.mul_neg]; omega, by omega, hn⟩
  have r2 : 0 < -x % n → x / n = - (-x / n) - 1 ∧ x % n = n - -x % n := fun h =>
    (Int.ediv_emod_unique (a := x) (b := n) (r := n - -x % n) (q := -(-x / n) - 1) hn).2 ⟨by rw [Int.mul_sub, Int.mul_neg]; omega, by omega, by omega⟩
  refine ⟨u1, u2, u3, fun h => ?_, u5, r1, r2⟩
  have ex := w_eq (-x)
  have bl := lo_bounds (-x)
  have : 18446744073709551616 ≤ -x / n := (Int.le_ediv_iff_mul_le hn).2 (by omega)
  rw [← Bool.not_eq_true, isMoney_iff]
  by_cases c : -x % n = 0
  · have := r1 c; omega
  · have := r2 (by omega); omega

set_option maxHeartbeats 1000000 in
set_option maxRecDepth 100000 in
theorem refQuo_down (x n : Int) (w : World) (hx : isWide x = true) (h0 : x < 0) (hn : 0 < n) (hn2 : n ≤ 9223372036854775807) :
    Calls Try.prog 25 #[.agg #[.int .i64 (hi64 x), .int .u64 (lo64 x)], .int .i64 n] w fun e w' => e = .returned (.tuple #[.int .i64 (wqV x n), .int .i64 (wqR x n), .bool (wqB x n)]) ∧ Grew w w' := by
  obtain ⟨u1, u2, u3, u4, u5, u6, u7⟩ := quo_down x n hn h0
  have hb := hi_bounds x hx
  have lb := lo_bounds x
  have ex := w_eq x
  have wn : IntKind.u64.wrap n = n := by rw [IntKind.wrap_u64]; omega
  have h1 : hi64 x < 0 := by omega
  have hxx := (isWide_iff x).1 hx
  have OUT := Lib.hid (wq_out (x := x) (n := n))
  have IN := Lib.hid (wq_in (x := x) (n := n) hn)
  obtain ⟨s1, hs1⟩ : ∃ s, s = (18446744073709551615 - lo64 x + 1 + 0) % 18446744073709551616 := ⟨_, rfl⟩
  obtain ⟨d1, hd1⟩ : ∃ s, s = (18446744073709551615 - lo64 x + 1 + 0) / 18446744073709551616 := ⟨_, rfl⟩
  have A1 := add64_named (18446744073709551615 - lo64 x) 1 0 s1 d1 (by omega) (by omega) (by omega) (by omega) hs1 hd1
  have ew : IntKind.u64.wrap (hi64 x) = hi64 x + 18446744073709551616 := by rw [IntKind.wrap_u64]; omega
  obtain ⟨s2, hs2⟩ : ∃ s, s = (18446744073709551615 - IntKind.u64.wrap (hi64 x) + 0 + d1) % 18446744073709551616 := ⟨_, rfl⟩
  obtain ⟨d2, hd2⟩ : ∃ s, s = (18446744073709551615 - IntKind.u64.wrap (hi64 x) + 0 + d1) / 18446744073709551616 := ⟨_, rfl⟩
  have A2 := add64_named (18446744073709551615 - IntKind.u64.wrap (hi64 x)) 0 d1 s2 d2 (by omega) (by omega) (by omega) (by omega) hs2 hd2
  have E := w_unique (-x) s2 s1 (by omega) (by omega) (by omega)
  have N1 := not_u64 (lo64 x) (by omega) (by omega)
  have N2 := not_u64 (IntKind.u64.wrap (hi64 x)) (by omega) (by omega)
  have f1 : 0 ≤ s1 ∧ s1 < 18446744073709551616 := by omega
  have f2 : 0 ≤ s2 ∧ s2 < 18446744073709551616 := by omega
  have ey : s2 * 18446744073709551616 + s1 = -x := by omega
  rw [E.1] at u4 u5
  have CD := fun h w => div64_any s2 s1 n w (by omega) h (by omega) (by omega) (by omega)
  rw [ey] at CD
  generalize eh : IntKind.u64.wrap (hi64 x) = hw at *
  clear ey ex hx h0 hxx E hs1 hs2 hd1 hd2 ew
  generalize hi64 x = hh at *
  generalize lo64 x = ll at *
  obtain ⟨f1, f1'⟩ := f1
  obtain ⟨f2, f2'⟩ := f2
  generalize -x / n = Q at *
  generalize -x % n = R at *
  by_cases c1 : n ≤ s2
  · have E := Lib.hid (OUT.out (u4 c1))
    clear u1 u2 u3 u4 u5 u6 u7 CD
    go_enter Try.func25, Try.ntmps25
    go_wp2
    go_quiet (fail)
    go_wp2_with (first
      | rw [A1]
      | rw [A2])
    go_ret3
    exact ⟨ret_vvb E.out.1.symm E.out.2.1.symm E.out.2.2.symm, grew_drewN (grew_alloc _ _ _) _⟩
  · have CD := CD (by omega)
    have u5 := u5 (by omega)
    by_cases c3 : 0 < R
    · obtain ⟨v1, v2⟩ := u7 c3
      clear u6 u7 u4
      by_cases c2 : 4611686018427387904 ≤ Q
      · have E := Lib.hid (OUT.out (by rw [← Bool.not_eq_true, isMoney_iff]; omega))
        clear v1 v2
        go_enter Try.func25, Try.ntmps25
        go_wp2
        go_quiet (fail)
        go_wp2_with (first
          | rw [A1]
          | rw [A2]
          | (go_at_call 52; ((with_reducible refine (CD _).mono ?_); rintro e w1 ⟨rfl, hg1⟩)))
        go_ret3
        exact ⟨ret_vvb E.out.1.symm E.out.2.1.symm E.out.2.2.symm, grew_trans (grew_drewN (grew_alloc _ _ _) _) hg1⟩
      · have E := IN.out (by rw [isMoney_iff]; omega)
        rw [v1, v2] at E
        have E := Lib.hid E
        clear v1 v2
        go_enter Try.func25, Try.ntmps25
        go_wp2
        go_quiet (fail)
        go_wp2_with (first
          | rw [A1]
          | rw [A2]
          | (go_at_call 52; ((with_reducible refine (CD _).mono ?_); rintro e w1 ⟨rfl, hg1⟩)))
        go_ret3
        exact ⟨ret_vvb E.out.1.symm E.out.2.1.symm E.out.2.2.symm, grew_trans (grew_drewN (grew_alloc _ _ _) _) hg1⟩
    · obtain ⟨v1, v2⟩ := u6 (by omega)
      have hR : R = 0 := by omega
      subst hR
      clear u6 u7 u4 c3
      by_cases c2 : 4611686018427387904 < Q
      · have E := Lib.hid (OUT.out (by rw [← Bool.not_eq_true, isMoney_iff]; omega))
        clear v1 v2
        go_enter Try.func25, Try.ntmps25
        go_wp2
        go_quiet (fail)
        go_wp2_with (first
          | rw [A1]
          | rw [A2]
          | (go_at_call 52; ((with_reducible refine (CD _).mono ?_); rintro e w1 ⟨rfl, hg1⟩)))
        go_ret3
        exact ⟨ret_vvb E.out.1.symm E.out.2.1.symm E.out.2.2.symm, grew_trans (grew_drewN (grew_alloc _ _ _) _) hg1⟩
      · have E := IN.out (by rw [isMoney_iff]; omega)
        rw [v1, v2] at E
        have E := Lib.hid E
        clear v1 v2
        go_enter Try.func25, Try.ntmps25
        go_wp2
        go_quiet (fail)
        go_wp2_with (first
          | rw [A1]
          | rw [A2]
          | (go_at_call 52; ((with_reducible refine (CD _).mono ?_); rintro e w1 ⟨rfl, hg1⟩)))
        go_ret3
        exact ⟨ret_vvb E.out.1.symm E.out.2.1.symm E.out.2.2.symm, grew_trans (grew_drewN (grew_alloc _ _ _) _) hg1⟩

theorem refQuo_any (x n : Int) (w : World) (hx : isWide x = true) (hn2 : n ≤ 9223372036854775807) :
    Calls Try.prog 25 #[.agg #[.int .i64 (hi64 x), .int .u64 (lo64 x)], .int .i64 n] w fun e w' => e = .returned (.tuple #[.int .i64 (wqV x n), .int .i64 (wqR x n), .bool (wqB x n)]) ∧ Grew w w' := by
  by_cases h : 0 < n
  · by_cases h0 : 0 ≤ x
    · exact refQuo_up x n w hx h0 h hn2
    · exact refQuo_down x n w hx (by omega) h hn2
  · exact refQuo_zero x n w h
end Go.Proofs.Ytckdbbjeifindaa.NumK
namespace Go.Proofs.Ytckdbbjeifindaa.NumK
open Go.RowKit

theorem wshare_any (a b c : Int) (w : World) (ha : -9223372036854775808 ≤ a ∧ a ≤ 9223372036854775807) (hb : -9223372036854775808 ≤ b ∧ b ≤ 9223372036854775807) (hc : c ≤ 9223372036854775807) :
    Calls Try.prog 22 #[.int .i64 a, .int .i64 b, .int .i64 c] w fun e w' => e = .returned (.tuple #[.int .i64 (wqV (a * b) c), .int .i64 (wqE (a * b) c)]) ∧ Grew w w' := by
  have CT := fun w => wtimes_any a b w ha hb
  have hx : isWide (a * b) = true := by
    obtain ⟨t1, t2, t3⟩ := times_arith a b ha hb
    rw [isWide_iff]
    generalize a * b = p at *
    generalize a.natAbs * b.natAbs = P at *
    omega
  have CQ := fun w => wquo_any (a * b) c w hx hc
  generalize a * b = x at *
  go_enter Try.func22, Try.ntmps22
  go_wp2_with (first
    | (go_at_call 48; ((with_reducible refine (CT _).mono ?_); rintro e w1 ⟨rfl, hg1⟩))
    | (go_at_call 47; ((with_reducible refine (CQ _).mono ?_); rintro e w2 ⟨rfl, hg2⟩)))
  go_ret2
  exact ⟨rfl, grew_trans hg1 hg2⟩
end Go.Proofs.Ytckdbbjeifindaa.NumK
namespace Go.Proofs.Ytckdbbjeifindaa.NumK
open Go.RowKit
set_option linter.unusedVariables false

def enPg : En Pg := ⟨3, fun x => [.int .i64 x.1, .int .i64 x.2.1, .int .i64 x.2.2], fun _ => rfl, fun a v hv => by
  simp at hv; rcases hv with rfl | rfl | rfl <;> rfl, by decide⟩
abbrev vPg (x : Pg) : Value := .agg #[.int .i64 x.1, .int .i64 x.2.1, .int .i64 x.2.2]
theorem info_pg : (Try.prog.info? 37).map (fun i => (i.zero, i.size, i.bytes)) = some (some (vPg pg0), 3, 24) := by kernel_rfl
/-- The cells at a place are such a one's. -/
def CPg (w : World) (b p : Nat) (x : Pg) : Prop :=
  w.cell? ⟨b, p, none⟩ = some (.int .i64 x.1) ∧ w.cell? ⟨b, p + 1, none⟩ = some (.int .i64 x.2.1) ∧ w.cell? ⟨b, p + 2, none⟩ = some (.int .i64 x.2.2)
theorem CPg.keep {w w' : World} {b p : Nat} {x : Pg} (h : CPg w b p x) (g : Grew w w') (hb : b < w.heap.size) : CPg w' b p x :=
  ⟨(grew_cell g (p := ⟨b, _, none⟩) hb).trans h.1, (grew_cell g (p := ⟨b, _, none⟩) hb).trans h.2.1, (grew_cell g (p := ⟨b, _, none⟩) hb).trans h.2.2⟩
theorem RowE.pg {w : World} {n : Nat} {l : List Pg} {A : Option Addr} (h : RowE enPg w A n l) {j : Nat} (hj : j < n) : ∃ b o, A = some ⟨b, o, none⟩ ∧ b < w.heap.size ∧ ∀ j, j < n → CPg w b (o + j * 3) (l.getD j pg0) := by
  have hl := h.len
  obtain ⟨b, o, e, hb, hc⟩ := h.at (by omega)
  refine ⟨b, o, e, hb, fun j hj => ?_⟩
  have hj' : j < l.length := by omega
  rw [getD_at l pg0 j hj']
  exact ⟨hc j hj' 0 (by decide), hc j hj' 1 (by decide), hc j hj' 2 (by decide)⟩

/-! ### numbers -/
theorem cwithin_any (n lo hi : Int) (w : World) : Calls Try.prog 21 #[.int .i64 n, .int .i64 lo, .int .i64 hi] w fun e w' => e = .returned (.bool (wi n lo hi)) ∧ w = w' := by
  by_cases h1 : lo ≤ n <;> by_cases h2 : n ≤ hi
  all_goals
    (have HR : Hid (wi n lo hi = (decide (lo ≤ n) && decide (n ≤ hi))) := rfl
     generalize wi n lo hi = R at *
     simp only [h1, h2, decide_true, decide_false, Bool.and_true, Bool.and_false] at HR
     go_enter Try.func21, Try.ntmps21
     go_wp2
     go_ret
     exact ⟨ret_b HR.out.symm, rfl⟩)
theorem cpermitted_any (a b : Int) (w : World) : Calls Try.prog 27 #[.int .i64 a, .int .i64 b] w fun e w' => e = .returned (.bool (okPK a b)) ∧ w = w' := by
  have HV : Hid (okPK a b = (wi a 1 16 && wi b 1 6)) := rfl
  have C1 := fun w => cwithin_any a 1 16 w
  have C2 := fun w => cwithin_any b 1 6 w
  generalize okPK a b = V at *
  generalize wi a 1 16 = R1 at *
  generalize wi b 1 6 = R2 at *
  cases R1
  · have HF : Hid (V = false) := by show _ = _; rw [HV.out]; rfl
    clear HV
    go_enter Try.func27, Try.ntmps27
    go_wp2_with (go_at_call 21; ((with_reducible refine (C1 _).mono ?_); rintro e w1 ⟨rfl, rfl⟩))
    go_ret
    exact ⟨ret_b HF.out.symm, rfl⟩
  · have HF : Hid (V = R2) := by show _ = _; rw [HV.out]; rfl
    clear HV
    go_enter Try.func27, Try.ntmps27
    go_wp2_with (first
      | (go_at_call 21; ((with_reducible refine (C1 _).mono ?_); rintro e w1 ⟨rfl, rfl⟩))
      | (go_at_call 21; ((with_reducible refine (C2 _).mono ?_); rintro e w1 ⟨rfl, rfl⟩)))
    go_ret
    exact ⟨ret_b HF.out.symm, rfl⟩
theorem r15asset_any (n : Int) (w : World) : Calls Try.prog 30 #[.int .i64 n] w fun e w' => e = .returned (.bool (wi n 1 6)) ∧ w = w' := by
  have CW := fun w => gwithin_any n 1 6 w
  generalize wi n 1 6 = R at *
  go_enter Try.func30, Try.ntmps30
  go_wp2_with (go_at_call 24; ((with_reducible refine (CW _).mono ?_); rintro e w1 ⟨rfl, rfl⟩))
  go_ret
  exact ⟨rfl, rfl⟩

/-! ### their order -/
def orI (x y : Int) : Int := if x ≠ 0 then x else y
theorem or_any (A : Option Addr) (c : Nat) (x y : Int) (w : World) (h : Ints w A 2 [x, y]) :
    Calls Try.prog 56 #[.slice A 2 c] w fun e w' => e = .returned (.int .i64 (orI x y)) ∧ w = w' := by
  have HV : Hid (orI x y = if x ≠ 0 then x else y) := rfl
  generalize orI x y = V at *
  obtain ⟨b, o, rfl, hb, hc⟩ := h.2 (by decide)
  have HA0 : Hid (w.cell? ⟨b, o, none⟩ = some (.int .i64 x)) := hc 0 (by decide)
  have HA1 : Hid (w.cell? ⟨b, o + 1, none⟩ = some (.int .i64 y)) := hc 1 (by decide)
  clear hc h
  go_enter Try.func56, Try.ntmps56
  go_wp2
  go_loop [5, 8] (fun v5 v8 => ∃ j : Nat, v8 = .int .i64 j ∧ Hid (j = 0 ∨ (j = 1 ∧ x = 0) ∨ (j = 2 ∧ x = 0 ∧ y = 0))) (fun _ v8 => 2 - (intOf v8).toNat)
  case atStart => exact ⟨0, rfl, .inl rfl⟩
  case round =>
    obtain ⟨j, rfl, HS⟩ := hrel
    rcases HS.out with rfl | ⟨rfl, rfl⟩ | ⟨rfl, rfl, rfl⟩
    · have a0 := HA0.out
      clear HS HA0 HA1
      by_cases h1 : x = 0
      · subst h1
        clear HV
        go_wp2
        go_round
        case rel => exact ⟨1, by go_num, .inr (.inl ⟨rfl, by trivial⟩)⟩
        case measure => simp only [intOf]; omega
      · have HF : Hid (V = x) := by show _ = _; rw [HV.out, if_pos h1]
        have d1 : (x == 0) = false := by simpa using h1
        clear HV h1
        go_wp2
        go_ret
        exact ⟨ret_i HF.out.symm, by first | rfl | trivial⟩
    · have a1 := HA1.out
      have HF : Hid (V = y) := by show _ = _; rw [HV.out, if_neg (by simp)]
      clear HS HA0 HA1 HV
      by_cases h1 : y = 0
      · subst h1
        clear HF
        go_wp2
        go_round
        case rel => exact ⟨2, by go_num, .inr (.inr ⟨rfl, by trivial⟩)⟩
        case measure => simp only [intOf]; omega
      · have d1 : (y == 0) = false := by simpa using h1
        clear h1
        go_wp2
        go_ret
        exact ⟨ret_i HF.out.symm, by first | rfl | trivial⟩
    · have HF : Hid (V = 0) := by show _ = _; rw [HV.out, if_neg (by simp)]
      clear HS HA0 HA1 HV
      go_wp2
      go_ret
      exact ⟨ret_i HF.out.symm, by first | rfl | trivial⟩

/-- As Who and Asset say. -/
def ordP (x y : Pg) : Int := orI (cmpI x.1 y.1) (cmpI x.2.1 y.2.1)
theorem ordP_lt (x y : Pg) : ordP x y < 0 ↔ x.1 < y.1 ∨ x.1 = y.1 ∧ x.2.1 < y.2.1 := by
  unfold ordP orI cmpI
  repeat' split
  all_goals omega
theorem ordP_eq (x y : Pg) : ordP x y = 0 ↔ x.1 = y.1 ∧ x.2.1 = y.2.1 := by
  unfold ordP orI cmpI
  repeat' split
  all_goals omega
/-- Where both may be: as their numbers. -/
theorem ordP_no {x y : Pg} (hx : okPK x.1 x.2.1 = true) (hy : okPK y.1 y.2.1 = true) : (ordP x y < 0 ↔ noPg x < noPg y) ∧ (ordP x y = 0 ↔ noPg x = noPg y) := by
  have h1 := (okPK_iff _ _).1 hx
  have h2 := (okPK_iff _ _).1 hy
  rw [ordP_lt, ordP_eq]
  unfold noPg
  omega
set_option maxRecDepth 100000 in
set_option maxHeartbeats 2000000 in
theorem order_any (x y : Pg) (w : World) : Calls Try.prog 28 #[vPg x, vPg y] w fun e w' => e = .returned (.int .i64 (ordP x y)) ∧ Grew w w' := by
  have C1 := fun w => compare_any x.1 y.1 w
  have C2 := fun w => compare_any x.2.1 y.2.1 w
  have HV : Hid (ordP x y = orI (cmpI x.1 y.1) (cmpI x.2.1 y.2.1)) := rfl
  generalize ordP x y = V at *
  generalize cmpI x.1 y.1 = R1 at *
  generalize cmpI x.2.1 y.2.1 = R2 at *
  have C3 := fun (w : World) => or_any (some ⟨w.heap.size, 0, none⟩) 2 R1 R2 (w.alloc (.cells #[.int .i64 R1, .int .i64 R2] 3)).drew (Ints.keep (ints2' w R1 R2 _ _ rfl) (grew_drew (grew_refl _)))
  rw [← HV.out] at C3
  clear HV
  obtain ⟨q1, q2, q3⟩ := x
  obtain ⟨p1, p2, p3⟩ := y
  dsimp only [vPg] at *
  have HX : Hid (OwnC ((w.alloc (.cells #[.int .i64 q1, .int .i64 q2, .int .i64 q3] 37)).alloc (.cells #[.int .i64 p1, .int .i64 p2, .int .i64 p3] 37)) w.heap.size [.int .i64 q1, .int .i64 q2, .int .i64 q3]) := (OwnC.new w [.int .i64 q1, .int .i64 q2, .int .i64 q3] _ _ rfl).keep (grew_alloc _ _ _)
  have HY : Hid (OwnC ((w.alloc (.cells #[.int .i64 q1, .int .i64 q2, .int .i64 q3] 37)).alloc (.cells #[.int .i64 p1, .int .i64 p2, .int .i64 p3] 37)) (w.heap.size + 1) [.int .i64 p1, .int .i64 p2, .int .i64 p3]) := OwnC.new _ [.int .i64 p1, .int .i64 p2, .int .i64 p3] _ _ (by simp)
  have HG : Hid (Grew w ((w.alloc (.cells #[.int .i64 q1, .int .i64 q2, .int .i64 q3] 37)).alloc (.cells #[.int .i64 p1, .int .i64 p2, .int .i64 p3] 37))) := grew_trans (grew_alloc _ _ _) (grew_alloc _ _ _)
  go_enter Try.func28, Try.ntmps28
  go_upto_region 1 with (fail)
  generalize ((w.alloc (.cells #[.int .i64 q1, .int .i64 q2, .int .i64 q3] 37)).alloc (.cells #[.int .i64 p1, .int .i64 p2, .int .i64 p3] 37)) = w0 at *
  generalize w.heap.size + 1 = N1 at *
  have HK : Hid (∀ w', Grew w0 w' → (w'.cell? ⟨w.heap.size, 0, none⟩ = some (.int .i64 q1) ∧ w'.cell? ⟨w.heap.size, 1, none⟩ = some (.int .i64 q2) ∧ w'.cell? ⟨N1, 0, none⟩ = some (.int .i64 p1) ∧ w'.cell? ⟨N1, 1, none⟩ = some (.int .i64 p2))) := fun w' g => ⟨(HX.out.keep g).at 0 _ rfl, (HX.out.keep g).at 1 _ rfl, (HY.out.keep g).at 0 _ rfl, (HY.out.keep g).at 1 _ rfl⟩
  generalize w.heap.size = N0 at *
  clear HX HY
  go_region_held3 (fun w' => w'.cell? ⟨N0, 0, none⟩ = some (.int .i64 q1) ∧ w'.cell? ⟨N0, 1, none⟩ = some (.int .i64 q2) ∧ w'.cell? ⟨N1, 0, none⟩ = some (.int .i64 p1) ∧ w'.cell? ⟨N1, 1, none⟩ = some (.int .i64 p2))
    (first
      | (with_reducible exact HK.out _ (grew_drew (grew_refl _)))
      | (with_reducible exact HK.out _ (grew_drew (grew_alloc _ _ _))))
    (first
      | (go_at_call 57; ((with_reducible refine (C1 _).mono ?_); rintro e w1 ⟨rfl, rfl⟩))
      | (go_at_call 57; ((with_reducible refine (C2 _).mono ?_); rintro e w1 ⟨rfl, rfl⟩))
      | (go_at_call 56; ((with_reducible refine (C3 _).mono ?_); rintro e w1 ⟨rfl, rfl⟩)))
  go_wp2
  go_ret
  exact ⟨rfl, grew_trans HG.out (grew_drew (grew_alloc _ _ _))⟩
end Go.Proofs.Ytckdbbjeifindaa.NumK
namespace Go.Proofs.Ytckdbbjeifindaa.NumK
open Go.RowKit
set_option linter.unusedVariables false

def chkP (l : List Pg) : Int := if rightPg l = true then 0 else 14
theorem steps_pg {l : List Pg} {j : Nat} (h : (List.range j).all (stepOK okPg noPg pg0 l) = true) {i : Nat} (hi : i < j) : okPg (l.getD i pg0) = true := by
  have := (List.all_eq_true.1 h) i (List.mem_range.2 hi)
  unfold stepOK at this
  rw [Bool.and_eq_true] at this
  exact this.1
theorem calls_pure {P : Program} {f : FuncId} {args : Array Value} {w : World} {v : Value}
    (h : ∀ w', Calls P f args w' fun e w'' => e = .returned v ∧ w' = w'') : ∀ w', Grew w w' → Calls P f args w' fun e w'' => e = .returned v ∧ Grew w' w'' := fun w' _ =>
  (h w').mono (by rintro e w1 ⟨rfl, rfl⟩; exact ⟨rfl, grew_refl _⟩)

set_option maxRecDepth 100000 in
set_option maxHeartbeats 4000000 in
theorem pcheck_any (A : Option Addr) (n c : Nat) (l : List Pg) (w : World) (h : RowE enPg w A n l) (hn : n ≤ 1000000) :
    Calls Try.prog 10 #[.slice A n c] w fun e w' => e = .returned (.int .i64 (chkP l)) ∧ Grew w w' := by
  have HI := Lib.hid h
  have HL := Lib.hid h.len
  have HR : Hid (chkP l = if (List.range n).all (stepOK okPg noPg pg0 l) = true then 0 else 14) := by show _ = _; rw [← h.len]; rfl
  generalize chkP l = R at *
  clear h
  go_enter Try.func10, Try.ntmps10
  go_wp2
  go_loopw [7] (fun v wr => ∃ j : Nat, v = .int .i64 j ∧ j ≤ n ∧ Hid ((List.range j).all (stepOK okPg noPg pg0 l) = true) ∧ Hid (Grew w wr)) (fun v _ => n - (intOf v).toNat)
  case atStart => exact ⟨0, rfl, by omega, rfl, grew_refl _⟩
  case round =>
    obtain ⟨j, rfl, hj, HM, HG⟩ := hrel
    by_cases hlt : j < n
    · obtain ⟨b, o, rfl, hb, hc⟩ := (HI.out.keep HG.out).pg hlt
      have HN := Lib.hid (range_all_no (stepOK okPg noPg pg0 l) j n hlt)
      have HY := Lib.hid (range_all_succ (stepOK okPg noPg pg0 l) j)
      have HST : Hid (stepOK okPg noPg pg0 l j = (okPg (l.getD j pg0) && (decide (j = 0) || decide (noPg (l.getD (j - 1) pg0) < noPg (l.getD j pg0))))) := rfl
      have HP : Hid (0 < j → okPg (l.getD (j - 1) pg0) = true) := fun h0 => steps_pg HM.out (by omega)
      obtain ⟨a0, a1, a2⟩ := hc j hlt
      have HPB : Hid (0 < j → CPg wr b (o + (j - 1) * 3) (l.getD (j - 1) pg0)) := fun h0 => hc (j - 1) (by omega)
      have HB := Lib.hid hb
      clear hc hb
      have i0 : (0 : Int) ≤ (j : Int) := by omega
      have i1 : (j : Int) < (n : Int) := by omega
      generalize stepOK okPg noPg pg0 l j = st at *
      generalize l.getD j pg0 = x at *
      generalize l.getD (j - 1) pg0 = p at *
      obtain ⟨q1, q2, q3⟩ := x
      have HOK : Hid (okPg (q1, q2, q3) = (okPK q1 q2 && wi q3 1 1099511627776)) := rfl
      have HNO : Hid (okPK p.1 p.2.1 = true → okPK q1 q2 = true → (ordP p (q1, q2, q3) < 0 ↔ noPg p < noPg (q1, q2, q3))) := fun h1 h2 => (ordP_no (y := (q1, q2, q3)) h1 h2).1
      have CO := fun w => order_any p (q1, q2, q3) w
      dsimp only [vPg] at a0 a1 a2 CO
      have C1 := fun w => cpermitted_any q1 q2 w
      have C2 := fun w => cwithin_any q3 1 1099511627776 w
      generalize okPK q1 q2 = R1 at *
      generalize wi q3 1 1099511627776 = R2 at *
      generalize ordP p (q1, q2, q3) = O at *
      have HX0 : Hid (OwnC (wr.alloc (.cells #[.int .i64 q1, .int .i64 q2, .int .i64 q3] 37)) wr.heap.size [.int .i64 q1, .int .i64 q2, .int .i64 q3]) := OwnC.new wr [.int .i64 q1, .int .i64 q2, .int .i64 q3] _ _ rfl
      have HG0 : Hid (Grew wr (wr.alloc (.cells #[.int .i64 q1, .int .i64 q2, .int .i64 q3] 37))) := grew_alloc _ _ _
      go_upto_region 4 with (fail)
      generalize (wr.alloc (.cells #[.int .i64 q1, .int .i64 q2, .int .i64 q3] 37)) = w3 at *
      have HB3 : Hid (∀ (w' : World) (q : Addr), Grew w3 w' → q.block = b → w'.cell? q = wr.cell? q) := fun w' q g e => grew_cell (grew_trans HG0.out g) (by rw [e]; exact HB.out)
      generalize wr.heap.size = N at *
      have HG3 := Lib.hid (grew_trans HG.out HG0.out)
      have x0 := grew_every (w := w3) (S := fun w' => w'.cell? ⟨N, 0, none⟩ = some (.int .i64 q1)) (fun w' g => (HX0.out.keep g).at 0 _ rfl)
      have x1 := grew_every (w := w3) (S := fun w' => w'.cell? ⟨N, 1, none⟩ = some (.int .i64 q2)) (fun w' g => (HX0.out.keep g).at 1 _ rfl)
      have x2 := grew_every (w := w3) (S := fun w' => w'.cell? ⟨N, 2, none⟩ = some (.int .i64 q3)) (fun w' g => (HX0.out.keep g).at 2 _ rfl)
      have H : (R1 = false) ∨ (R1 = true ∧ R2 = false) ∨ (R1 = true ∧ R2 = true) := by cases R1 <;> cases R2 <;> simp
      rcases H with rfl | ⟨rfl, rfl⟩ | ⟨rfl, rfl⟩
      · have HF : Hid (R = 14) := by show _ = _; rw [HR.out, if_neg]; rw [← HN.out (by rw [HST.out, HOK.out]; rfl)]; decide
        have D1 := calls_pure (w := w3) C1
        clear HN HY HST HOK HNO HPB HM HR HP C1 C2 CO a0 a1 a2
        refine wp_region_grew (by kernel_rfl) (by kernel_rfl) ?_
        repeat (go_big_quiet_step (with_reducible exact calls_every D1))
        refine wpQuiet_nil ?_
        intro w5 hw'
        have HG5 := Lib.hid (grew_of hw')
        clear hw' x0 x1 x2
        go_wp2
        go_ret
        exact ⟨ret_i HF.out.symm, grew_trans HG3.out HG5.out⟩
      · have HF : Hid (R = 14) := by show _ = _; rw [HR.out, if_neg]; rw [← HN.out (by rw [HST.out, HOK.out]; rfl)]; decide
        have D1 := calls_pure (w := w3) C1
        have D2 := calls_pure (w := w3) C2
        clear HN HY HST HOK HNO HPB HM HR HP C1 C2 CO a0 a1 a2
        refine wp_region_grew (by kernel_rfl) (by kernel_rfl) ?_
        repeat (go_big_quiet_step (first | (with_reducible exact calls_every D1) | (with_reducible exact calls_every D2)))
        refine wpQuiet_nil ?_
        intro w5 hw'
        have HG5 := Lib.hid (grew_of hw')
        clear hw' x0 x1 x2
        go_wp2
        go_ret
        exact ⟨ret_i HF.out.symm, grew_trans HG3.out HG5.out⟩
      · have D1 := calls_pure (w := w3) C1
        have D2 := calls_pure (w := w3) C2
        clear C1 C2
        cases j with
        | zero =>
          have HM2 := Lib.hid (HY.out.trans (by rw [HST.out, HOK.out]))
          clear HN HY HST HM HPB HNO HP HOK CO
          refine wp_region_grew (by kernel_rfl) (by kernel_rfl) ?_
          repeat (go_big_quiet_step (first | (with_reducible exact calls_every D1) | (with_reducible exact calls_every D2)))
          refine wpQuiet_nil ?_
          intro w5 hw'
          have HG5 := Lib.hid (grew_of hw')
          clear hw' x0 x1 x2
          go_wp2
          go_roundw
          case rel => exact ⟨1, by go_num, by omega, HM2.out, grew_trans HG3.out HG5.out⟩
          case measure => simp only [intOf]; omega
        | succ i =>
          obtain ⟨e0, e1, e2⟩ := HPB.out (by omega)
          rw [show i + 1 - 1 = i from rfl] at e0 e1 e2
          have HNO2 := Lib.hid (HNO.out (by have := (okPg_iff p).1 (HP.out (by omega)); exact this.1) rfl)
          have HST2 : Hid (st = decide (noPg p < noPg (q1, q2, q3))) := by show _ = _; rw [HST.out, HOK.out]; simp
          have q5 : IntKind.i64.wrap (((i + 1 : Nat) : Int) - 1) = (i : Int) := by rw [IntKind.wrap_i64]; omega
          have q6 : (0 : Int) < ((i + 1 : Nat) : Int) := by omega
          have q7 : (i : Int) < (n : Int) := by omega
          have q8 : (0 : Int) ≤ (i : Int) := by omega
          clear HNO HP HST HOK
          generalize noPg p = np at *
          generalize noPg (q1, q2, q3) = nq at *
          obtain ⟨p1, p2, p3⟩ := p
          dsimp only at e0 e1 e2 CO
          have CL := fun w' (g : Grew w3 w') => CO w'
          have z0 := grew_every (w := w3) (S := fun w' => w'.cell? ⟨b, o + i * 3, none⟩ = some (.int .i64 p1)) (fun w' g => (HB3.out w' ⟨b, _, none⟩ g rfl).trans e0)
          have z1 := grew_every (w := w3) (S := fun w' => w'.cell? ⟨b, o + i * 3 + 1, none⟩ = some (.int .i64 p2)) (fun w' g => (HB3.out w' ⟨b, _, none⟩ g rfl).trans e1)
          have z2 := grew_every (w := w3) (S := fun w' => w'.cell? ⟨b, o + i * 3 + 2, none⟩ = some (.int .i64 p3)) (fun w' g => (HB3.out w' ⟨b, _, none⟩ g rfl).trans e2)
          clear HPB e0 e1 e2 CO a0 a1 a2
          by_cases hO : O < 0
          · have HM2 := Lib.hid (HY.out.trans (by rw [HST2.out, HM.out, decide_eq_true (HNO2.out.1 hO)]))
            have d1 : ¬ O ≥ 0 := by omega
            clear HN HY HST2 HM HNO2 hO
            refine wp_region_grew (by kernel_rfl) (by kernel_rfl) ?_
            repeat (go_big_quiet_step (first | (with_reducible exact calls_every D1) | (with_reducible exact calls_every D2) | (with_reducible exact calls_every CL)))
            refine wpQuiet_nil ?_
            intro w5 hw'
            have HG5 := Lib.hid (grew_of hw')
            clear hw' x0 x1 x2 z0 z1 z2
            go_wp2
            go_roundw
            case rel => exact ⟨i + 1 + 1, by go_num, by omega, HM2.out, grew_trans HG3.out HG5.out⟩
            case measure => simp only [intOf]; omega
          · have HF : Hid (R = 14) := by show _ = _; rw [HR.out, if_neg]; rw [← HN.out (by rw [HST2.out]; exact decide_eq_false (fun h => hO (HNO2.out.2 h)))]; decide
            have d1 : O ≥ 0 := by omega
            clear HN HY HST2 HM HNO2 hO HR
            refine wp_region_grew (by kernel_rfl) (by kernel_rfl) ?_
            repeat (go_big_quiet_step (first | (with_reducible exact calls_every D1) | (with_reducible exact calls_every D2) | (with_reducible exact calls_every CL)))
            refine wpQuiet_nil ?_
            intro w5 hw'
            have HG5 := Lib.hid (grew_of hw')
            clear hw' x0 x1 x2 z0 z1 z2
            go_wp2
            go_ret
            exact ⟨ret_i HF.out.symm, grew_trans HG3.out HG5.out⟩
    · obtain rfl : j = n := by omega
      have HF : Hid (R = 0) := by show _ = _; rw [HR.out, if_pos HM.out]
      clear HR HM
      go_wp2
      go_ret
      exact ⟨ret_i HF.out.symm, HG.out⟩

set_option maxRecDepth 100000 in
set_option maxHeartbeats 4000000 in
theorem rpledges_any (A : Option Addr) (n c : Nat) (l : List Pg) (w : World) (h : RowE enPg w A n l) (hn : n ≤ 1000000) :
    Calls Try.prog 11 #[.slice A n c] w fun e w' => e = .returned (.bool (rightPg l)) ∧ Grew w w' := by
  have HI := Lib.hid h
  have HL := Lib.hid h.len
  have HR : Hid (rightPg l = (List.range n).all (stepOK okPg noPg pg0 l)) := by show _ = _; rw [← h.len]; rfl
  generalize rightPg l = R at *
  clear h
  go_enter Try.func11, Try.ntmps11
  go_wp2
  go_loopw [3] (fun v wr => ∃ j : Nat, v = .int .i64 j ∧ j ≤ n ∧ Hid ((List.range j).all (stepOK okPg noPg pg0 l) = true) ∧ Hid (Grew w wr)) (fun v _ => n - (intOf v).toNat)
  case atStart => exact ⟨0, rfl, by omega, rfl, grew_refl _⟩
  case round =>
    obtain ⟨j, rfl, hj, HM, HG⟩ := hrel
    by_cases hlt : j < n
    · obtain ⟨b, o, rfl, hb, hc⟩ := (HI.out.keep HG.out).pg hlt
      have HN := Lib.hid (range_all_no (stepOK okPg noPg pg0 l) j n hlt)
      have HY := Lib.hid (range_all_succ (stepOK okPg noPg pg0 l) j)
      have HST : Hid (stepOK okPg noPg pg0 l j = (okPg (l.getD j pg0) && (decide (j = 0) || decide (noPg (l.getD (j - 1) pg0) < noPg (l.getD j pg0))))) := rfl
      have HP : Hid (0 < j → okPg (l.getD (j - 1) pg0) = true) := fun h0 => steps_pg HM.out (by omega)
      obtain ⟨a0, a1, a2⟩ := hc j hlt
      have HPB : Hid (0 < j → CPg wr b (o + (j - 1) * 3) (l.getD (j - 1) pg0)) := fun h0 => hc (j - 1) (by omega)
      have HB := Lib.hid hb
      clear hc hb
      have i0 : (0 : Int) ≤ (j : Int) := by omega
      have i1 : (j : Int) < (n : Int) := by omega
      generalize stepOK okPg noPg pg0 l j = st at *
      generalize l.getD j pg0 = x at *
      generalize l.getD (j - 1) pg0 = p at *
      obtain ⟨q1, q2, q3⟩ := x
      have HOK : Hid (okPg (q1, q2, q3) = (wi q1 1 16 && wi q2 1 6 && wi q3 1 1099511627776)) := rfl
      have HNO : Hid (okPK p.1 p.2.1 = true → okPK q1 q2 = true → (ordP p (q1, q2, q3) < 0 ↔ noPg p < noPg (q1, q2, q3))) := fun h1 h2 => (ordP_no (y := (q1, q2, q3)) h1 h2).1
      have HQK : Hid (okPK q1 q2 = (wi q1 1 16 && wi q2 1 6)) := rfl
      dsimp only at a0 a1 a2
      have C1 := fun w => rwho_any q1 w
      have C2 := fun w => r15asset_any q2 w
      have C3 := fun w => gwithin_any q3 1 1099511627776 w
      generalize wi q1 1 16 = R1 at *
      generalize wi q2 1 6 = R2 at *
      generalize wi q3 1 1099511627776 = R3 at *
      have HX0 : Hid (OwnC (wr.alloc (.cells #[.int .i64 q1, .int .i64 q2, .int .i64 q3] 37)) wr.heap.size [.int .i64 q1, .int .i64 q2, .int .i64 q3]) := OwnC.new wr [.int .i64 q1, .int .i64 q2, .int .i64 q3] _ _ rfl
      have HG0 : Hid (Grew wr (wr.alloc (.cells #[.int .i64 q1, .int .i64 q2, .int .i64 q3] 37))) := grew_alloc _ _ _
      go_upto_region 5 with (fail)
      generalize (wr.alloc (.cells #[.int .i64 q1, .int .i64 q2, .int .i64 q3] 37)) = w3 at *
      have HB3 : Hid (∀ (w' : World) (q : Addr), Grew w3 w' → q.block = b → w'.cell? q = wr.cell? q) := fun w' q g e => grew_cell (grew_trans HG0.out g) (by rw [e]; exact HB.out)
      generalize wr.heap.size = N at *
      have HG3 := Lib.hid (grew_trans HG.out HG0.out)
      have y0 := HX0.out.at 0 (.int .i64 q1) rfl
      have y1 := HX0.out.at 1 (.int .i64 q2) rfl
      have y2 := HX0.out.at 2 (.int .i64 q3) rfl
      have H : (R1 = false) ∨ (R1 = true ∧ R2 = false) ∨ (R1 = true ∧ R2 = true ∧ R3 = false) ∨ (R1 = true ∧ R2 = true ∧ R3 = true) := by cases R1 <;> cases R2 <;> cases R3 <;> simp
      rcases H with rfl | ⟨rfl, rfl⟩ | ⟨rfl, rfl, rfl⟩ | ⟨rfl, rfl, rfl⟩
      · have HF : Hid (R = false) := by show _ = _; rw [HR.out, ← HN.out (by rw [HST.out, HOK.out]; rfl)]
        clear HN HY HST HOK HNO HPB HM HR HP HQK a0 a1 a2
        go_wp2_with (go_at_call 29; ((with_reducible refine (C1 _).mono ?_); rintro e w1 ⟨rfl, rfl⟩))
        go_ret
        exact ⟨ret_b HF.out.symm, HG3.out⟩
      · have HF : Hid (R = false) := by show _ = _; rw [HR.out, ← HN.out (by rw [HST.out, HOK.out]; rfl)]
        clear HN HY HST HOK HNO HPB HM HR HP HQK a0 a1 a2
        go_wp2_with (first
          | (go_at_call 29; ((with_reducible refine (C1 _).mono ?_); rintro e w1 ⟨rfl, rfl⟩))
          | (go_at_call 30; ((with_reducible refine (C2 _).mono ?_); rintro e w1 ⟨rfl, rfl⟩)))
        go_ret
        exact ⟨ret_b HF.out.symm, HG3.out⟩
      · have HF : Hid (R = false) := by show _ = _; rw [HR.out, ← HN.out (by rw [HST.out, HOK.out]; rfl)]
        clear HN HY HST HOK HNO HPB HM HR HP HQK a0 a1 a2
        go_wp2_with (first
          | (go_at_call 29; ((with_reducible refine (C1 _).mono ?_); rintro e w1 ⟨rfl, rfl⟩))
          | (go_at_call 30; ((with_reducible refine (C2 _).mono ?_); rintro e w1 ⟨rfl, rfl⟩))
          | (go_at_call 24; ((with_reducible refine (C3 _).mono ?_); rintro e w1 ⟨rfl, rfl⟩)))
        go_ret
        exact ⟨ret_b HF.out.symm, HG3.out⟩
      · go_upto_region 7 with (first
          | (go_at_call 29; ((with_reducible refine (C1 _).mono ?_); rintro e w1 ⟨rfl, rfl⟩))
          | (go_at_call 30; ((with_reducible refine (C2 _).mono ?_); rintro e w1 ⟨rfl, rfl⟩))
          | (go_at_call 24; ((with_reducible refine (C3 _).mono ?_); rintro e w1 ⟨rfl, rfl⟩)))
        clear C1 C2 C3 y0 y1 y2
        have x0 := grew_every (w := w3) (S := fun w' => w'.cell? ⟨N, 0, none⟩ = some (.int .i64 q1)) (fun w' g => (HX0.out.keep g).at 0 _ rfl)
        have x1 := grew_every (w := w3) (S := fun w' => w'.cell? ⟨N, 1, none⟩ = some (.int .i64 q2)) (fun w' g => (HX0.out.keep g).at 1 _ rfl)
        have x2 := grew_every (w := w3) (S := fun w' => w'.cell? ⟨N, 2, none⟩ = some (.int .i64 q3)) (fun w' g => (HX0.out.keep g).at 2 _ rfl)
        cases j with
        | zero =>
          have HM2 := Lib.hid (HY.out.trans (by rw [HST.out, HOK.out]))
          clear HN HY HST HM HPB HNO HP HOK HQK
          refine wp_region_grew (by kernel_rfl) (by kernel_rfl) ?_
          repeat (go_big_quiet_step (fail))
          refine wpQuiet_nil ?_
          intro w5 hw'
          have HG5 := Lib.hid (grew_of hw')
          clear hw' x0 x1 x2
          go_wp2
          go_roundw
          case rel => exact ⟨1, by go_num, by omega, HM2.out, grew_trans HG3.out HG5.out⟩
          case measure => simp only [intOf]; omega
        | succ i =>
          obtain ⟨e0, e1, e2⟩ := HPB.out (by omega)
          rw [show i + 1 - 1 = i from rfl] at e0 e1 e2
          have HNO2 := Lib.hid (HNO.out (by have := (okPg_iff p).1 (HP.out (by omega)); exact this.1) HQK.out)
          have HST2 : Hid (st = decide (noPg p < noPg (q1, q2, q3))) := by show _ = _; rw [HST.out, HOK.out]; simp
          have q5 : IntKind.i64.wrap (((i + 1 : Nat) : Int) - 1) = (i : Int) := by rw [IntKind.wrap_i64]; omega
          have q6 : (0 : Int) < ((i + 1 : Nat) : Int) := by omega
          have q7 : (i : Int) < (n : Int) := by omega
          have q8 : (0 : Int) ≤ (i : Int) := by omega
          clear HNO HP HST HOK HQK
          generalize noPg p = np at *
          generalize noPg (q1, q2, q3) = nq at *
          obtain ⟨p1, p2, p3⟩ := p
          rw [ordP_lt] at HNO2
          dsimp only at e0 e1 e2 HNO2
          have z0 := grew_every (w := w3) (S := fun w' => w'.cell? ⟨b, o + i * 3, none⟩ = some (.int .i64 p1)) (fun w' g => (HB3.out w' ⟨b, _, none⟩ g rfl).trans e0)
          have z1 := grew_every (w := w3) (S := fun w' => w'.cell? ⟨b, o + i * 3 + 1, none⟩ = some (.int .i64 p2)) (fun w' g => (HB3.out w' ⟨b, _, none⟩ g rfl).trans e1)
          have z2 := grew_every (w := w3) (S := fun w' => w'.cell? ⟨b, o + i * 3 + 2, none⟩ = some (.int .i64 p3)) (fun w' g => (HB3.out w' ⟨b, _, none⟩ g rfl).trans e2)
          clear HPB e0 e1 e2 a0 a1 a2
          by_cases h1 : p1 > q1
          · have HF : Hid (R = false) := by show _ = _; rw [HR.out, ← HN.out (by rw [HST2.out]; exact decide_eq_false (fun h => by have := HNO2.out.2 h; omega))]
            clear HN HY HST2 HM HNO2 HR
            refine wp_region_grew (by kernel_rfl) (by kernel_rfl) ?_
            repeat (go_big_quiet_step (fail))
            refine wpQuiet_nil ?_
            intro w5 hw'
            have HG5 := Lib.hid (grew_of hw')
            clear hw' x0 x1 x2 z0 z1 z2
            go_wp2
            go_ret
            exact ⟨ret_b HF.out.symm, grew_trans HG3.out HG5.out⟩
          · by_cases h2 : p1 = q1
            · subst h2
              by_cases h3 : p2 ≥ q2
              · have HF : Hid (R = false) := by show _ = _; rw [HR.out, ← HN.out (by rw [HST2.out]; exact decide_eq_false (fun h => by have := HNO2.out.2 h; omega))]
                clear HN HY HST2 HM HNO2 HR
                refine wp_region_grew (by kernel_rfl) (by kernel_rfl) ?_
                repeat (go_big_quiet_step (fail))
                refine wpQuiet_nil ?_
                intro w5 hw'
                have HG5 := Lib.hid (grew_of hw')
                clear hw' x0 x1 x2 z0 z1 z2
                go_wp2
                go_ret
                exact ⟨ret_b HF.out.symm, grew_trans HG3.out HG5.out⟩
              · have HM2 := Lib.hid (HY.out.trans (by rw [HST2.out, HM.out, decide_eq_true (HNO2.out.1 (by omega))]))
                clear HN HY HST2 HM HNO2
                refine wp_region_grew (by kernel_rfl) (by kernel_rfl) ?_
                repeat (go_big_quiet_step (fail))
                refine wpQuiet_nil ?_
                intro w5 hw'
                have HG5 := Lib.hid (grew_of hw')
                clear hw' x0 x1 x2 z0 z1 z2
                go_wp2
                go_roundw
                case rel => exact ⟨i + 1 + 1, by go_num, by omega, HM2.out, grew_trans HG3.out HG5.out⟩
                case measure => simp only [intOf]; omega
            · have HM2 := Lib.hid (HY.out.trans (by rw [HST2.out, HM.out, decide_eq_true (HNO2.out.1 (by omega))]))
              have d1 : (p1 == q1) = false := by simpa using h2
              clear HN HY HST2 HM HNO2
              clear h2
              refine wp_region_grew (by kernel_rfl) (by kernel_rfl) ?_
              repeat (go_big_quiet_step (fail))
              refine wpQuiet_nil ?_
              intro w5 hw'
              have HG5 := Lib.hid (grew_of hw')
              clear hw' x0 x1 x2 z0 z1 z2
              go_wp2
              go_roundw
              case rel => exact ⟨i + 1 + 1, by go_num, by omega, HM2.out, grew_trans HG3.out HG5.out⟩
              case measure => simp only [intOf]; omega
    · obtain rfl : j = n := by omega
      have HF : Hid (R = true) := by show _ = _; rw [HR.out, HM.out]
      clear HR HM
      go_wp2
      go_ret
      exact ⟨ret_b HF.out.symm, HG.out⟩
end Go.Proofs.Ytckdbbjeifindaa.NumK
namespace Go.Proofs.Ytckdbbjeifindaa.NumK
open Go.RowKit
set_option linter.unusedVariables false

theorem units_at {w a : Int} : ∀ (l : List Pg) (j : Nat), j < l.length → (∀ i, i < j → isPg w a (l.getD i pg0) = false) → isPg w a (l.getD j pg0) = true → unitsL l w a = (l.getD j pg0).2.2
  | [], j, hj, _, _ => absurd hj (Nat.not_lt_zero _)
  | x :: l, 0, hj, _, h => by
    have h : isPg w a x = true := h
    unfold unitsL findPg
    rw [List.find?_cons, h]; rfl
  | x :: l, j + 1, hj, hb, h => by
    have h0 : isPg w a x = false := hb 0 (by omega)
    have := units_at l j (by simpa using hj) (fun i hi => hb (i + 1) (by omega)) h
    unfold unitsL findPg at this ⊢
    rw [List.find?_cons, h0]; exact this
theorem units_none {w a : Int} {l : List Pg} (h : ∀ i, i < l.length → isPg w a (l.getD i pg0) = false) : unitsL l w a = 0 := by
  have : findPg l w a = none := by
    unfold findPg
    rw [List.find?_eq_none]
    intro x hx
    obtain ⟨i, hi, rfl⟩ := List.getElem_of_mem hx
    have := h i hi
    rw [getD_at l pg0 i hi] at this
    rw [this]; decide
  unfold unitsL; rw [this]; rfl
theorem isPg_no2 {w a : Int} {x : Pg} (h : ¬ (x.1 = w ∧ x.2.1 = a)) : isPg w a x = false := by rw [← Bool.not_eq_true, isPg_iff]; exact h

set_option maxRecDepth 100000 in
set_option maxHeartbeats 2000000 in
theorem units_any (A : Option Addr) (n c : Nat) (l : List Pg) (w1 a1 : Int) (w : World) (h : RowE enPg w A n l) (hn : n ≤ 1000000) :
    Calls Try.prog 12 #[.int .i64 w1, .int .i64 a1, .slice A n c] w fun e w' => e = .returned (.int .i64 (unitsL l w1 a1)) ∧ Grew w w' := by
  have HI := Lib.hid h
  have HL := Lib.hid h.len
  have HY := Lib.hid (@units_at w1 a1 l)
  have HZ := Lib.hid (@units_none w1 a1 l)
  generalize unitsL l w1 a1 = R at *
  clear h
  go_enter Try.func12, Try.ntmps12
  go_wp2
  go_loopw [11] (fun v wr => ∃ j : Nat, v = .int .i64 j ∧ j ≤ n ∧ Hid (∀ i, i < j → isPg w1 a1 (l.getD i pg0) = false) ∧ Hid (Grew w wr)) (fun v _ => n - (intOf v).toNat)
  case atStart => exact ⟨0, rfl, by omega, (by intro i hi; omega), grew_refl _⟩
  case round =>
    obtain ⟨j, rfl, hj, HM, HG⟩ := hrel
    by_cases hlt : j < n
    · obtain ⟨b, o, rfl, hb, hc⟩ := (HI.out.keep HG.out).pg hlt
      obtain ⟨b0, b1, b2⟩ := hc j hlt
      clear hc hb
      have HY1 := Lib.hid (HY.out j (by rw [HL.out]; exact hlt) HM.out)
      have HM1 : Hid (isPg w1 a1 (l.getD j pg0) = false → ∀ i, i < j + 1 → isPg w1 a1 (l.getD i pg0) = false) := fun h i hi => by
        rcases Nat.lt_or_ge i j with h1 | h1
        · exact HM.out i h1
        · obtain rfl : i = j := by omega
          exact h
      have i0 : (0 : Int) ≤ (j : Int) := by omega
      have i1 : (j : Int) < (n : Int) := by omega
      have HQ : Hid (∀ x : Pg, l.getD j pg0 = x → l.getD j pg0 = x) := fun _ h => h
      generalize l.getD j pg0 = x at *
      obtain ⟨q1, q2, q3⟩ := x
      dsimp only at b0 b1 b2 HY1
      by_cases h1 : q1 = w1 ∧ q2 = a1
      · obtain ⟨rfl, rfl⟩ := h1
        have HF := Lib.hid (HY1.out ((isPg_iff _ _ _).2 ⟨rfl, rfl⟩))
        clear HY HZ HY1 HM1 HM HQ
        go_wp2
        go_ret
        exact ⟨ret_i HF.out.symm, grew_trans HG.out (grew_alloc _ _ _)⟩
      · have HM2 := Lib.hid (HM1.out (isPg_no2 h1))
        clear HY HZ HY1 HM1 HM HQ
        by_cases h2 : q1 = w1
        · subst h2
          have d1 : (q2 == a1) = false := by
            rw [beq_eq_false_iff_ne]; exact fun h => h1 ⟨rfl, h⟩
          clear h1
          go_wp2
          go_roundw
          case rel => exact ⟨j + 1, by go_num, by omega, HM2.out, grew_trans HG.out (grew_alloc _ _ _)⟩
          case measure => simp only [intOf]; omega
        · have d1 : (q1 == w1) = false := by rw [beq_eq_false_iff_ne]; exact h2
          clear h1 h2
          go_wp2
          go_roundw
          case rel => exact ⟨j + 1, by go_num, by omega, HM2.out, grew_trans HG.out (grew_alloc _ _ _)⟩
          case measure => simp only [intOf]; omega
    · obtain rfl : j = n := by omega
      have HF : Hid (R = 0) := HZ.out (fun i hi => HM.out i (by rw [HL.out] at hi; exact hi))
      clear HY HZ HM
      go_wp2
      go_ret
      exact ⟨ret_i HF.out.symm, HG.out⟩

set_option maxRecDepth 100000 in
set_option maxHeartbeats 2000000 in
theorem runits_any (A : Option Addr) (n c : Nat) (l : List Pg) (w1 a1 : Int) (w : World) (h : RowE enPg w A n l) (hn : n ≤ 1000000) :
    Calls Try.prog 13 #[.int .i64 w1, .int .i64 a1, .slice A n c] w fun e w' => e = .returned (.int .i64 (unitsL l w1 a1)) ∧ Grew w w' := by
  have HI := Lib.hid h
  have HL := Lib.hid h.len
  have HY := Lib.hid (@units_at w1 a1 l)
  have HZ := Lib.hid (@units_none w1 a1 l)
  generalize unitsL l w1 a1 = R at *
  clear h
  go_enter Try.func13, Try.ntmps13
  go_wp2
  go_loopw [7] (fun v wr => ∃ j : Nat, v = .int .i64 j ∧ j ≤ n ∧ Hid (∀ i, i < j → isPg w1 a1 (l.getD i pg0) = false) ∧ Hid (Grew w wr)) (fun v _ => n - (intOf v).toNat)
  case atStart => exact ⟨0, rfl, by omega, (by intro i hi; omega), grew_refl _⟩
  case round =>
    obtain ⟨j, rfl, hj, HM, HG⟩ := hrel
    by_cases hlt : j < n
    · obtain ⟨b, o, rfl, hb, hc⟩ := (HI.out.keep HG.out).pg hlt
      obtain ⟨b0, b1, b2⟩ := hc j hlt
      clear hc hb
      have HY1 := Lib.hid (HY.out j (by rw [HL.out]; exact hlt) HM.out)
      have HM1 : Hid (isPg w1 a1 (l.getD j pg0) = false → ∀ i, i < j + 1 → isPg w1 a1 (l.getD i pg0) = false) := fun h i hi => by
        rcases Nat.lt_or_ge i j with h1 | h1
        · exact HM.out i h1
        · obtain rfl : i = j := by omega
          exact h
      have i0 : (0 : Int) ≤ (j : Int) := by omega
      have i1 : (j : Int) < (n : Int) := by omega
      have HQ : Hid (∀ x : Pg, l.getD j pg0 = x → l.getD j pg0 = x) := fun _ h => h
      generalize l.getD j pg0 = x at *
      obtain ⟨q1, q2, q3⟩ := x
      dsimp only at b0 b1 b2 HY1
      by_cases h1 : q1 = w1 ∧ q2 = a1
      · obtain ⟨rfl, rfl⟩ := h1
        have HF := Lib.hid (HY1.out ((isPg_iff _ _ _).2 ⟨rfl, rfl⟩))
        clear HY HZ HY1 HM1 HM HQ
        go_wp2
        go_ret
        exact ⟨ret_i HF.out.symm, HG.out⟩
      · have HM2 := Lib.hid (HM1.out (isPg_no2 h1))
        clear HY HZ HY1 HM1 HM HQ
        by_cases h2 : q1 = w1
        · subst h2
          have d1 : (q2 == a1) = false := by
            rw [beq_eq_false_iff_ne]; exact fun h => h1 ⟨rfl, h⟩
          clear h1
          go_wp2
          go_roundw
          case rel => exact ⟨j + 1, by go_num, by omega, HM2.out, HG.out⟩
          case measure => simp only [intOf]; omega
        · have d1 : (q1 == w1) = false := by rw [beq_eq_false_iff_ne]; exact h2
          clear h1 h2
          go_wp2
          go_roundw
          case rel => exact ⟨j + 1, by go_num, by omega, HM2.out, HG.out⟩
          case measure => simp only [intOf]; omega
    · obtain rfl : j = n := by omega
      have HF : Hid (R = 0) := HZ.out (fun i hi => HM.out i (by rw [HL.out] at hi; exact hi))
      clear HY HZ HM
      go_wp2
      go_ret
      exact ⟨ret_i HF.out.symm, HG.out⟩

theorem twinPgs_any (A : Option Addr) (n c : Nat) (l : List Pg) (w : World) (h : RowE enPg w A n l) (hc : A = none → c = 0) (hn : n ≤ 1000000) :
    Calls Try.prog 9 #[.slice A n c] w fun e w' => ∃ B d, e = .returned (.slice B n d) ∧ OwnE enPg w' w.heap.size 37 (.slice B n d) l ∧ Grew w w' := by
  have HI := Lib.hid h
  have HL := Lib.hid h.len
  clear h
  go_enter Try.func9, Try.ntmps9
  go_wp2_with (at_builtin; refine (wpList_append_E rfl _ _ 24 37 (vPg pg0) 24 rfl Try.underlying24 info_pg rfl w.heap.size _ [] rfl (OwnE.nil enPg _ _ _) A n c l rfl hc HI.out (by simp; unfold maxLen; omega) (by simp; omega) (Nat.le_refl _) ?_); intro v' w1 ho hb; rw [List.nil_append] at ho; obtain ⟨B1, d1, rfl, -⟩ := ho.form; have HO := Lib.hid ho; have HG := Lib.hid hb; clear ho hb)
  have e1 := HL.out
  subst e1
  go_ret
  exact ⟨B1, d1, rfl, HO.out, HG.out⟩

set_option maxRecDepth 100000 in
set_option maxHeartbeats 1000000 in
theorem keepPgs_yes (A B : Option Addr) (n c d : Nat) (l : List Pg) (w : World) (h : RowE enPg w A n l) (h2 : RowE enPg w B n l) (hn : n ≤ 1000000) :
    Calls Try.prog 16 #[.slice A n c, .slice B n d] w fun e w' => e = .returned (.bool true) ∧ Grew w w' := by
  have HI := Lib.hid h
  have HJ := Lib.hid h2
  clear h h2
  go_enter Try.func16, Try.ntmps16
  go_wp2
  go_loopw [5] (fun v wr => ∃ j : Nat, v = .int .i64 j ∧ j ≤ n ∧ Hid (Grew w wr)) (fun v _ => n - (intOf v).toNat)
  case atStart => exact ⟨0, rfl, by omega, grew_refl _⟩
  case round =>
    obtain ⟨j, rfl, hj, HG⟩ := hrel
    by_cases hlt : j < n
    · obtain ⟨b, o, rfl, hb, hc⟩ := (HI.out.keep HG.out).pg hlt
      obtain ⟨b2, o2, rfl, hb2, hc2⟩ := (HJ.out.keep HG.out).pg hlt
      obtain ⟨a0, a1, a2⟩ := hc j hlt
      obtain ⟨e0, e1, e2⟩ := hc2 j hlt
      clear hc hc2
      have i0 : (0 : Int) ≤ (j : Int) := by omega
      have i1 : (j : Int) < (n : Int) := by omega
      generalize l.getD j pg0 = x at *
      obtain ⟨q1, q2, q3⟩ := x
      dsimp only at a0 a1 a2  e0 e1 e2 
      have x0 : ∀ p : GrewTo wr, p.to.cell? ⟨b, o + j * 3, none⟩ = _ := fun p => (grew_cell p.h (p := ⟨b, _, none⟩) hb).trans a0; have x1 : ∀ p : GrewTo wr, p.to.cell? ⟨b, o + j * 3 + 1, none⟩ = _ := fun p => (grew_cell p.h (p := ⟨b, _, none⟩) hb).trans a1; have x2 : ∀ p : GrewTo wr, p.to.cell? ⟨b, o + j * 3 + 2, none⟩ = _ := fun p => (grew_cell p.h (p := ⟨b, _, none⟩) hb).trans a2
      have y0 : ∀ p : GrewTo wr, p.to.cell? ⟨b2, o2 + j * 3, none⟩ = _ := fun p => (grew_cell p.h (p := ⟨b2, _, none⟩) hb2).trans e0; have y1 : ∀ p : GrewTo wr, p.to.cell? ⟨b2, o2 + j * 3 + 1, none⟩ = _ := fun p => (grew_cell p.h (p := ⟨b2, _, none⟩) hb2).trans e1; have y2 : ∀ p : GrewTo wr, p.to.cell? ⟨b2, o2 + j * 3 + 2, none⟩ = _ := fun p => (grew_cell p.h (p := ⟨b2, _, none⟩) hb2).trans e2
      clear a0 a1 a2  e0 e1 e2  hb hb2
      go_wp2_with fail
      refine wp_region_grew (by kernel_rfl) (by kernel_rfl) ?_
      repeat (go_big_quiet_step (fail))
      refine wpQuiet_nil ?_
      intro w5 hw'
      have HG5 := Lib.hid (grew_of hw')
      clear hw' x0 x1 x2  y0 y1 y2 
      go_wp2
      go_roundw
      case rel => exact ⟨j + 1, by go_num, by omega, grew_trans HG.out HG5.out⟩
      case measure => simp only [intOf]; omega
    · obtain rfl : j = n := by omega
      go_wp2
      go_ret
      exact ⟨rfl, HG.out⟩

end Go.Proofs.Ytckdbbjeifindaa.NumK
