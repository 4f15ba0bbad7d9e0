/- Small contracts of package grid: positions that are too great, the greatest of a row, twins of positions. -/
import Derived.Test.YtodnllopokoicaaGreatRG13
import Derived.Test.YtodnllopokoicaaGreatRG15
import Derived.Test.YtodnllopokoicaaGreatRG2
import Derived.Test.YtodnllopokoicaaGreatRG5
namespace Go.Proofs.YtodnllopokoicaaGreat.NumK
open Go.RowKit
set_option linter.unusedVariables false

set_option maxRecDepth 100000 in
theorem tooGreat_any (p : Po) (w : World) : Calls Tryz.prog 130 #[vPo p] w fun e w' => e = .returned (.bool (!okQ p.2.2.1)) ∧ Grew w w' := by
  have HV : Hid (okQ p.2.2.1 = (decide (-1099511627776 ≤ p.2.2.1) && decide (p.2.2.1 ≤ 1099511627776))) := rfl
  generalize okQ p.2.2.1 = V at *
  obtain ⟨q1, q2, q3, q4⟩ := p
  dsimp only at HV
  dsimp only [vPo]
  by_cases h1 : q3 < -1099511627776
  · have HF : Hid (V = false) := by show _ = _; rw [HV.out, decide_eq_false (by omega)]; rfl
    clear HV
    go_enter Tryz.func130, Tryz.ntmps130
    go_wp2
    go_ret
    exact ⟨by rw [HF.out]; rfl, grew_alloc _ _ _⟩
  · by_cases h2 : q3 > 1099511627776
    · have HF : Hid (V = false) := by show _ = _; rw [HV.out, decide_eq_false (p := q3 ≤ 1099511627776) (by omega)]; exact Bool.and_false _
      clear HV
      go_enter Tryz.func130, Tryz.ntmps130
      go_wp2
      go_ret
      exact ⟨by rw [HF.out]; rfl, grew_alloc _ _ _⟩
    · have HF : Hid (V = true) := by show _ = _; rw [HV.out, decide_eq_true (by omega), decide_eq_true (by omega)]; rfl
      clear HV
      go_enter Tryz.func130, Tryz.ntmps130
      go_wp2
      go_ret
      exact ⟨by rw [HF.out]; rfl, grew_alloc _ _ _⟩

theorem gwithin_any (n lo hi : Int) (w : World) : Calls Tryz.prog 83 #[.int .i64 n, .int .i64 lo, .int .i64 hi] w fun e w' => e = .returned (.bool (wi n lo hi)) ∧ w = w' := by
  have HV : Hid (wi n lo hi = (decide (lo ≤ n) && decide (n ≤ hi))) := rfl
  generalize wi n lo hi = V at *
  by_cases h1 : lo ≤ n
  · by_cases h2 : n ≤ hi
    · have HF : Hid (V = true) := by show _ = _; rw [HV.out, decide_eq_true h1, decide_eq_true h2]; rfl
      clear HV
      go_enter Tryz.func83, Tryz.ntmps83
      go_wp2
      go_ret
      exact ⟨by rw [HF.out]; try rfl, rfl⟩
    · have HF : Hid (V = false) := by show _ = _; rw [HV.out, decide_eq_false h2]; exact Bool.and_false _
      clear HV
      go_enter Tryz.func83, Tryz.ntmps83
      go_wp2
      go_ret
      exact ⟨by rw [HF.out]; try rfl, rfl⟩
  · have HF : Hid (V = false) := by show _ = _; rw [HV.out, decide_eq_false h1]; rfl
    clear HV
    go_enter Tryz.func83, Tryz.ntmps83
    go_wp2
    go_ret
    exact ⟨by rw [HF.out]; try rfl, rfl⟩

theorem qs_all {l : List Po} (h : ∀ i, i < l.length → okQ (l.getD i po0).2.2.1 = true) : qsOK l = true := by
  rw [qsOK_iff]
  intro p hp
  obtain ⟨i, hi, rfl⟩ := List.getElem_of_mem hp
  have := h i hi
  rwa [getD_at l po0 i hi] at this
theorem qs_not {l : List Po} {i : Nat} (hi : i < l.length) (h : okQ (l.getD i po0).2.2.1 = false) : qsOK l = false := by
  cases hq : qsOK l
  · rfl
  · have := qsOK_iff.1 hq _ (getD_mem l po0 i hi)
    rw [h] at this; cases this

def AtQ (l : List Po) (w : World) (e : Ending) (w' : World) : Prop := ∃ r : Int, (0 ≤ r ↔ qsOK l = false) ∧ -1 ≤ r ∧ e = .returned (.int .i64 r) ∧ Grew w w'

set_option maxRecDepth 100000 in
set_option maxHeartbeats 2000000 in
theorem indexQ_any (A : Option Addr) (n c : Nat) (l : List Po) (w : World) (h : RowE enPo w A n l) (hn : n ≤ 1000000) :
    Calls Tryz.prog 143 #[.slice A n c, .func (.func 130) #[] #[]] w (AtQ l w) := by
  have HI := Lib.hid h
  have HL := Lib.hid h.len
  have CC := fun w' x => tooGreat_any x w'
  dsimp only [vPo] at CC
  clear h
  go_enter Tryz.func143, Tryz.ntmps143
  go_wp2
  go_loopw [8] (fun v wr => ∃ j : Nat, v = .int .i64 j ∧ j ≤ n ∧ Hid (∀ i, i < j → okQ (l.getD i po0).2.2.1 = true) ∧ Hid (Grew w wr)) (fun v _ => n - (intOf v).toNat)
  case atStart => exact ⟨0, rfl, by omega, fun i hi => by omega, grew_refl _⟩
  case round =>
    obtain ⟨j, rfl, hj, HK, HG⟩ := hrel
    by_cases hlt : j < n
    · obtain ⟨b, o, rfl, hb, hc⟩ := (HI.out.keep HG.out).po hlt
      obtain ⟨a0, a1, a2, a3⟩ := hc j hlt
      have CX := fun w' => CC w' (l.getD j po0)
      have HY1 : Hid (okQ (l.getD j po0).2.2.1 = false → qsOK l = false) := fun h => qs_not (by rw [HL.out]; exact hlt) h
      have HK1 : Hid (okQ (l.getD j po0).2.2.1 = true → ∀ i, i < j + 1 → okQ (l.getD i po0).2.2.1 = true) := fun h i hi => by
        rcases Nat.lt_or_ge i j with h1 | h1
        · exact HK.out i h1
        · obtain rfl : i = j := by omega
          exact h
      have i0 : (0 : Int) ≤ (j : Int) := by omega
      have i1 : (j : Int) < (n : Int) := by omega
      clear hc hb CC
      generalize okQ (l.getD j po0).2.2.1 = lv at *
      generalize l.getD j po0 = x at *
      obtain ⟨q1, q2, q3, q4⟩ := x
      dsimp only at a0 a1 a2 a3 CX
      cases lv
      · have HF := Lib.hid (HY1.out rfl)
        clear HY1 HK1 HK
        simp only [Bool.not_false] at CX
        go_wp2_with ((with_reducible refine (CX _).mono ?_); rintro e w5 ⟨rfl, hg⟩; have HG5 := Lib.hid (grew_trans HG.out hg); clear hg)
        go_ret
        exact ⟨j, ⟨fun _ => HF.out, fun _ => by omega⟩, by omega, rfl, HG5.out⟩
      · have HK2 := Lib.hid (HK1.out rfl)
        clear HY1 HK1 HK
        simp only [Bool.not_true] at CX
        go_wp2_with ((with_reducible refine (CX _).mono ?_); rintro e w5 ⟨rfl, hg⟩; have HG5 := Lib.hid (grew_trans HG.out hg); clear hg)
        go_roundw
        case rel => exact ⟨j + 1, by go_num, by omega, HK2.out, HG5.out⟩
        case measure => simp only [intOf]; omega
    · obtain rfl : j = n := by omega
      have HF : Hid (qsOK l = true) := qs_all (by rw [HL.out]; exact HK.out)
      clear HK
      go_wp2
      go_ret
      exact ⟨-1, ⟨fun h => by omega, fun h => by rw [HF.out] at h; cases h⟩, by omega, rfl, HG.out⟩

theorem containsQ_any (A : Option Addr) (n c : Nat) (l : List Po) (w : World) (h : RowE enPo w A n l) (hn : n ≤ 1000000) :
    Calls Tryz.prog 129 #[.slice A n c, .func (.func 130) #[] #[]] w fun e w' => e = .returned (.bool (!qsOK l)) ∧ Grew w w' := by
  have C := indexQ_any A n c l w h hn
  clear h hn
  go_enter Tryz.func129, Tryz.ntmps129
  go_wp2_with (go_at_call 143; ((with_reducible refine C.mono ?_); rintro e w' ⟨r, h1, h2, rfl, hg⟩))
  go_ret
  refine ⟨?_, hg⟩
  by_cases hr : 0 ≤ r
  · rw [h1.1 hr]; simp
  · have : qsOK l = true := by
      cases hq : qsOK l
      · exact absurd (h1.2 hq) hr
      · rfl
    rw [this]; simp

end Go.Proofs.YtodnllopokoicaaGreat.NumK
namespace Go.Proofs.YtodnllopokoicaaGreat.NumK
open Go.RowKit

def wqV (x n : Int) : Int := if 0 < n then capV (x / n) else 0
def wqR (x n : Int) : Int := if 0 < n ∧ isMoney (x / n) = true then x % n else 0
def wqE (x n : Int) : Int := if 0 < n then capE (x / n) else 2

theorem wquo_zero (x n : Int) (w : World) (h : ¬ 0 < n) :
    Calls Tryz.prog 121 #[.agg #[.int .i64 (hi64 x), .int .u64 (lo64 x)], .int .i64 n] w fun e w' => e = .returned (.tuple #[.int .i64 (wqV x n), .int .i64 (wqR x n), .int .i64 (wqE x n)]) ∧ Grew w w' := by
  have E1 : Hid (wqV x n = 0) := by show _ = _; simp [wqV, h]
  have E2 : Hid (wqR x n = 0) := by show _ = _; simp [wqR, h]
  have E3 : Hid (wqE x n = 2) := by show _ = _; simp [wqE, h]
  generalize hi64 x = a at *
  generalize lo64 x = c at *
  go_enter Tryz.func121, Tryz.ntmps121
  go_wp2
  go_ret3
  exact ⟨ret3 E1.out.symm E2.out.symm E3.out.symm, grew_alloc _ _ _⟩

/-- By hand, in two steps: the upper half, then what is left of it with the lower one. -/
theorem two_steps (x n H R : Int) (hn : 0 < n) (e : hi64 x = H * n + R) (r0 : 0 ≤ R) (r1 : R < n) :
    hi64 (x / n) = H ∧ lo64 (x / n) = (R * 18446744073709551616 + lo64 x) / n ∧ x % n = (R * 18446744073709551616 + lo64 x) % n := by
  have b := lo_bounds x
  have ex := w_eq x
  have m1 := Int.mul_ediv_add_emod (R * 18446744073709551616 + lo64 x) n
  have m2 := Int.emod_nonneg (R * 18446744073709551616 + lo64 x) (show n ≠ 0 by omega)
  have m3 := Int.emod_lt_of_pos (R * 18446744073709551616 + lo64 x) hn
  have q0 : 0 ≤ (R * 18446744073709551616 + lo64 x) / n := Int.ediv_nonneg (by omega) (by omega)
  have q1 : (R * 18446744073709551616 + lo64 x) / n < 18446744073709551616 := Int.ediv_lt_of_lt_mul hn (by omega)
  generalize (R * 18446744073709551616 + lo64 x) / n = Q at *
  generalize (R * 18446744073709551616 + lo64 x) % n = S at *
  have key : x = n * (H * 18446744073709551616 + Q) + S := by
    rw [← ex, e]
    have : n * (H * 18446744073709551616 + Q) = H * n * 18446744073709551616 + n * Q := by grind
    rw [this, Int.add_mul]
    generalize n * Q = A at *
    generalize H * n = B at *
    omega
  have u := (Int.ediv_emod_unique (a := x) (b := n) (r := S) (q := H * 18446744073709551616 + Q) hn).2 ⟨by omega, m2, m3⟩
  rw [u.1]
  exact ⟨(w_unique _ H Q rfl q0 q1).1, (w_unique _ H Q rfl q0 q1).2, u.2⟩

theorem tdiv_range (h n : Int) (hn : 0 < n) (hb : -9223372036854775808 ≤ h ∧ h ≤ 9223372036854775807) : -9223372036854775808 ≤ h.tdiv n ∧ h.tdiv n ≤ 9223372036854775807 ∧ (h.tmod n < 0 → -9223372036854775808 < h.tdiv n) := by
  obtain ⟨t1, t2, t3, t4, t5, t6, t7⟩ := tdiv_facts h n (by omega)
  have t4 := t4 hn
  have a1 : 1 ≤ h.tdiv n → n ≤ h.tdiv n * n := fun c => by
    have := Int.mul_le_mul_of_nonneg_right c (Int.le_of_lt hn); omega
  have a2 : h.tdiv n ≤ -9223372036854775808 → h.tdiv n * n ≤ -9223372036854775808 := fun c => by
    have e1 := Int.mul_le_mul_of_nonneg_right c (Int.le_of_lt hn)
    omega
  generalize h.tdiv n * n = A at *
  generalize h.tdiv n = q at *
  generalize h.tmod n = r at *
  exact ⟨by omega, by omega, by omega⟩

set_option maxHeartbeats 1000000 in
theorem wquo_pos (x n : Int) (w : World) (hx : isWide x = true) (hn : 0 < n) (hn2 : n ≤ 9223372036854775807) :
    Calls Tryz.prog 121 #[.agg #[.int .i64 (hi64 x), .int .u64 (lo64 x)], .int .i64 n] w fun e w' => e = .returned (.tuple #[.int .i64 (wqV x n), .int .i64 (wqR x n), .int .i64 (wqE x n)]) ∧ Grew w w' := by
  have hb := hi_bounds x hx
  have lb := lo_bounds x
  obtain ⟨t1, t2, t3, t4, t5, t6, t7⟩ := tdiv_facts (hi64 x) n (by omega)
  have t4 := t4 hn
  have hn0 : (n == 0) = false := by simp; omega
  have E1 : Hid (wqV x n = capV (x / n)) := by show _ = _; simp [wqV, hn]
  have E2 : Hid (isMoney (x / n) = true → wqR x n = x % n) := fun h => by simp [wqR, hn, h]
  have E2' : Hid (isMoney (x / n) = false → wqR x n = 0) := fun h => by simp [wqR, h]
  have E3 : Hid (wqE x n = capE (x / n)) := by show _ = _; simp [wqE, hn]
  obtain ⟨v1, v2, v3⟩ := tdiv_range (hi64 x) n hn hb
  have hq : IntKind.i64.wrap ((hi64 x).tdiv n) = (hi64 x).tdiv n := IntWalk.i64_in _ (by omega)
  have CI := fun w => wint_any (x / n) w
  have wn : IntKind.u64.wrap n = n := by rw [IntKind.wrap_u64]; omega
  by_cases c : (hi64 x).tmod n < 0
  · obtain ⟨s1, s2, s3⟩ := two_steps x n ((hi64 x).tdiv n - 1) ((hi64 x).tmod n + n) hn (by rw [Int.sub_mul]; omega) (by omega) (by omega)
    have CD := fun w => div64_any ((hi64 x).tmod n + n) (lo64 x) n w (by omega) (by omega) (by omega) (by omega) (by omega)
    have g0 : 0 ≤ x % n := Int.emod_nonneg _ (by omega)
    have g1 : x % n < n := Int.emod_lt_of_pos _ hn
    rw [← s2, ← s3] at CD
    rw [s1] at CI
    clear s1 s2 s3 t1 t2 t3 t5 t6 t7 hx
    generalize lo64 (x / n) = L2 at *
    generalize x % n = M at *
    generalize x / n = X at *
    generalize hi64 x = hh at *
    generalize lo64 x = ll at *
    by_cases cm : isMoney X = true
    · have e1 := E2.out cm
      have E4 := Lib.hid e1
      rw [capE_in cm] at CI E3
      clear e1 cm
      go_enter Tryz.func121, Tryz.ntmps121
      go_wp2
      go_quiet (fail)
      go_wp2_with (first
        | (go_at_call 123; ((with_reducible refine (CD _).mono ?_); rintro e w1 ⟨rfl, hg1⟩))
        | (go_at_call 96; ((with_reducible refine (CI _).mono ?_); rintro e w2 ⟨rfl, hg2⟩)))
      go_ret3
      exact ⟨ret3 E1.out.symm E4.out.symm E3.out.symm, grew_trans (grew_drewN (grew_alloc _ _ _) _) (grew_trans hg1 hg2)⟩
    · have cm' : isMoney X = false := by simpa using cm
      have e1 := E2'.out cm'
      have E4 := Lib.hid e1
      have e2 := E1.out
      rw [capV_out cm'] at e2
      have E5 := Lib.hid e2
      rw [capE_out cm'] at CI E3
      clear e1 e2 cm cm'
      go_enter Tryz.func121, Tryz.ntmps121
      go_wp2
      go_quiet (fail)
      go_wp2_with (first
        | (go_at_call 123; ((with_reducible refine (CD _).mono ?_); rintro e w1 ⟨rfl, hg1⟩))
        | (go_at_call 96; ((with_reducible refine (CI _).mono ?_); rintro e w2 ⟨rfl, hg2⟩)))
      go_ret3
      exact ⟨ret3 E5.out.symm E4.out.symm E3.out.symm, grew_trans (grew_drewN (grew_alloc _ _ _) _) (grew_trans hg1 hg2)⟩
  · obtain ⟨s1, s2, s3⟩ := two_steps x n ((hi64 x).tdiv n) ((hi64 x).tmod n) hn (by omega) (by omega) (by omega)
    have CD := fun w => div64_any ((hi64 x).tmod n) (lo64 x) n w (by omega) (by omega) (by omega) (by omega) (by omega)
    have g0 : 0 ≤ x % n := Int.emod_nonneg _ (by omega)
    have g1 : x % n < n := Int.emod_lt_of_pos _ hn
    rw [← s2, ← s3] at CD
    rw [s1] at CI
    clear s1 s2 s3 t1 t2 t3 t5 t6 t7 hx
    generalize lo64 (x / n) = L2 at *
    generalize x % n = M at *
    generalize x / n = X at *
    generalize hi64 x = hh at *
    generalize lo64 x = ll at *
    by_cases cm : isMoney X = true
    · have e1 := E2.out cm
      have E4 := Lib.hid e1
      rw [capE_in cm] at CI E3
      clear e1 cm
      go_enter Tryz.func121, Tryz.ntmps121
      go_wp2
      go_quiet (fail)
      go_wp2_with (first
        | (go_at_call 123; ((with_reducible refine (CD _).mono ?_); rintro e w1 ⟨rfl, hg1⟩))
        | (go_at_call 96; ((with_reducible refine (CI _).mono ?_); rintro e w2 ⟨rfl, hg2⟩)))
      go_ret3
      exact ⟨ret3 E1.out.symm E4.out.symm E3.out.symm, grew_trans (grew_drewN (grew_alloc _ _ _) _) (grew_trans hg1 hg2)⟩
    · have cm' : isMoney X = false := by simpa using cm
      have e1 := E2'.out cm'
      have E4 := Lib.hid e1
      have e2 := E1.out
      rw [capV_out cm'] at e2
      have E5 := Lib.hid e2
      rw [capE_out cm'] at CI E3
      clear e1 e2 cm cm'
      go_enter Tryz.func121, Tryz.ntmps121
      go_wp2
      go_quiet (fail)
      go_wp2_with (first
        | (go_at_call 123; ((with_reducible refine (CD _).mono ?_); rintro e w1 ⟨rfl, hg1⟩))
        | (go_at_call 96; ((with_reducible refine (CI _).mono ?_); rintro e w2 ⟨rfl, hg2⟩)))
      go_ret3
      exact ⟨ret3 E5.out.symm E4.out.symm E3.out.symm, grew_trans (grew_drewN (grew_alloc _ _ _) _) (grew_trans hg1 hg2)⟩

theorem wquo_any (x n : Int) (w : World) (hx : isWide x = true) (hn2 : n ≤ 9223372036854775807) :
    Calls Tryz.prog 121 #[.agg #[.int .i64 (hi64 x), .int .u64 (lo64 x)], .int .i64 n] w fun e w' => e = .returned (.tuple #[.int .i64 (wqV x n), .int .i64 (wqR x n), .int .i64 (wqE x n)]) ∧ Grew w w' := by
  by_cases h : 0 < n
  · exact wquo_pos x n w hx h hn2
  · exact wquo_zero x n w h

end Go.Proofs.YtodnllopokoicaaGreat.NumK
