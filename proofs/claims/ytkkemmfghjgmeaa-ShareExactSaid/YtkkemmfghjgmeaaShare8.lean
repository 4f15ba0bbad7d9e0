/- Contracts of package share: portion. -/
import Derived.Test.YtkkemmfghjgmeaaShare7
namespace Go.Proofs.Ytkkemmfghjgmeaa.NumK
open Go.RowKit

theorem div_le_self {T y S : Int} (hT : 0 ≤ T) (hy : 0 ≤ y) (hyS : y ≤ S) : 0 ≤ T * y / S ∧ T * y / S ≤ T := by
  have h1 : 0 ≤ T * y := Int.mul_nonneg hT hy
  refine ⟨Int.ediv_nonneg h1 (by omega), ?_⟩
  rcases Int.lt_or_eq_of_le (show 0 ≤ S by omega) with c | c
  · exact Int.ediv_le_of_le_mul c (Int.mul_le_mul_of_nonneg_left hyS hT)
  · rw [← c, Int.ediv_zero]; exact hT

theorem own_two {w1 w2 : World} {v0 v1 u0 u1 : Value} {t : TypeId} (h : Grew ((w1.alloc (.cells #[v0, v1] t)).alloc (.cells #[u0, u1] t)) w2) : Own2 w2 (w1.heap.size + 1) u0 u1 ∧ Grew w1 w2 :=
  ⟨(Own2.new _ _ _ _ _ (by simp)).keep h, grew_trans (grew_al (grew_al (grew_refl _) _) _) h⟩

set_option maxRecDepth 100000 in
set_option maxHeartbeats 1000000 in
theorem portion_any (T y S : Int) (w : World) (hT : 0 ≤ T) (hT2 : T ≤ 4611686018427387904) (hy : 0 ≤ y) (hy2 : y ≤ 4611686018427387904) (hyS : y ≤ S) (hS2 : S ≤ 4722366482869645213696) (hz : S = 0 → T = 0) :
    Calls Try.prog 26 #[.int .i64 T, .int .i64 y, .agg #[.int .i64 (hi64 S), .int .u64 (lo64 S)]] w fun e w' =>
      e = .returned (.tuple #[.int .i64 (T * y / S), .agg #[.int .i64 (hi64 (T * y % S)), .int .u64 (lo64 (T * y % S))]]) ∧ Grew w w' := by
  have C1 := fun w => wint_any S w
  have hq := div_le_self hT hy hyS
  by_cases hm : isMoney S = true
  · have hm2 := (isMoney_iff S).1 hm
    rw [capV_in hm, capE_in hm] at C1
    have C2 := fun w => wtimes_any T y w (by omega) (by omega)
    have hp : isWide (T * y) = true := by
      obtain ⟨t1, t2, t3⟩ := times_arith T y (by omega) (by omega)
      rw [isWide_iff]
      generalize T * y = p at *
      generalize T.natAbs * y.natAbs = P at *
      omega
    have C3 := fun w => wquo_any (T * y) S w hp (by omega)
    have HV : wqV (T * y) S = T * y / S := by
      unfold wqV
      split
      · exact capV_in ((isMoney_iff _).2 (by omega))
      · have : S = 0 := by omega
        rw [this, Int.ediv_zero]
    have HR : wqR (T * y) S = T * y % S := by
      unfold wqR
      split
      · rfl
      · next h =>
        have : S = 0 := by
          rcases Int.lt_or_eq_of_le (show 0 ≤ S by omega) with c | c
          · exact absurd ⟨c, (isMoney_iff _).2 (by omega)⟩ h
          · exact c.symm
        rw [hz this]; simp
    rw [HV, HR] at C3
    have hr : -9223372036854775808 ≤ T * y % S ∧ T * y % S ≤ 9223372036854775807 := by
      rcases Int.lt_or_eq_of_le (show 0 ≤ S by omega) with c | c
      · have := Int.emod_nonneg (T * y) (show S ≠ 0 by omega)
        have := Int.emod_lt_of_pos (T * y) c
        omega
      · rw [hz c.symm]; simp
    have C4 := fun w => wof_any (T * y % S) w hr
    clear HV HR hp hm hz
    obtain ⟨hq1, hq2⟩ := hq
    generalize wqE (T * y) S = E at *
    generalize T * y / S = q at *
    generalize T * y % S = r at *
    generalize T * y = p at *
    generalize hi64 S = sh at *
    generalize lo64 S = sl at *
    generalize hi64 p = ph at *
    generalize lo64 p = pl at *
    generalize hi64 r = rh at *
    generalize lo64 r = rl at *
    go_enter Try.func26, Try.ntmps26
    go_wp2_with (first
      | (go_at_call 40; ((with_reducible refine (C1 _).mono ?_); rintro e w1 ⟨rfl, hg1⟩; obtain ⟨o1, g1⟩ := own_two hg1; have O1 := Lib.hid o1; have G1 := Lib.hid g1; clear o1 g1 hg1))
      | (go_at_call 43; ((with_reducible refine (C2 _).mono ?_); rintro e w2 ⟨rfl, hg2⟩; have G2 := Lib.hid hg2; clear hg2))
      | (go_at_call 42; ((with_reducible refine (C3 _).mono ?_); rintro e w3 ⟨rfl, hg3⟩; have G3 := Lib.hid hg3; clear hg3))
      | (go_at_call 39; ((with_reducible refine (C4 _).mono ?_); rintro e w4 ⟨rfl, hg4⟩; have O4 := O1.out.keep (grew_trans G2.out (grew_trans G3.out hg4)); have k1 := O4.c0; have k2 := O4.c1; have k3 := O4.f0; have k4 := O4.f1; have k5 := O4.lt; have OF := O4.set (.int .i64 rh) (.int .u64 rl); have G4 := Lib.hid hg4; clear hg4)))
    exact bodyPost_ret (v := .tuple #[.int .i64 q, .agg #[.int .i64 rh, .int .u64 rl]]) (by simp [results, Try.results26, go_sem, OF.c0, OF.c1]) rfl ⟨rfl, grew_set (grew_set (grew_trans G1.out (grew_trans G2.out (grew_trans G3.out G4.out))) _ (by simp)) _ (by simp)⟩
  · simp only [Bool.not_eq_true] at hm
    have hm2 : 4611686018427387904 < S := by
      rcases Int.lt_or_le 4611686018427387904 S with c | c
      · exact c
      · rw [(isMoney_iff S).2 (by omega)] at hm; cases hm
    rw [capV_out hm, capE_out hm] at C1
    have C2 := fun w => longPortion_any T y S w hT hT2 hy hy2 hm2 hS2
    clear hm hz
    obtain ⟨hq1, hq2⟩ := hq
    generalize T * y / S = q at *
    generalize T * y % S = r at *
    have G0 : ∀ w : World, Own2 ((w.alloc (.cells #[.int .i64 (hi64 S), .int .u64 (lo64 S)] 38)).alloc (.cells #[.int .i64 0, .int .u64 0] 38)) w.heap.size (.int .i64 (hi64 S)) (.int .u64 (lo64 S)) := fun w => (Own2.new w _ _ _ _ rfl).keep (grew_alloc _ _ _)
    have G0H := Lib.hid G0
    clear G0
    generalize hi64 S = sh at *
    generalize lo64 S = sl at *
    generalize hi64 r = rh at *
    generalize lo64 r = rl at *
    go_enter Try.func26, Try.ntmps26
    go_wp2_with (first
      | (go_at_call 40; ((with_reducible refine (C1 _).mono ?_); rintro e w1 ⟨rfl, hg1⟩; have o5 := (G0H.out _).keep hg1; have j1 := o5.c0; have j2 := o5.c1; obtain ⟨o1, g1⟩ := own_two hg1; have O1 := Lib.hid o1; have G1 := Lib.hid g1; clear o1 g1 hg1 o5))
      | (go_at_call 41; ((with_reducible refine (C2 _).mono ?_); rintro e w4 ⟨rfl, hg4⟩; have O4 := O1.out.keep hg4; have k1 := O4.c0; have k2 := O4.c1; have k3 := O4.f0; have k4 := O4.f1; have k5 := O4.lt; have OF := O4.set (.int .i64 rh) (.int .u64 rl); have G4 := Lib.hid hg4; clear hg4)))
    exact bodyPost_ret (v := .tuple #[.int .i64 q, .agg #[.int .i64 rh, .int .u64 rl]]) (by simp [results, Try.results26, go_sem, OF.c0, OF.c1]) rfl ⟨rfl, grew_set (grew_set (grew_trans G1.out G4.out) _ (by simp)) _ (by simp)⟩
end Go.Proofs.Ytkkemmfghjgmeaa.NumK
