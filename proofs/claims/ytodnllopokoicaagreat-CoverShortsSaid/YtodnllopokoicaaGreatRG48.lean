/- What a member lacks: cover.Short, and the reference's. -/
import Derived.Test.YtodnllopokoicaaGreatRG38
import Derived.Test.YtodnllopokoicaaGreatRG25
import Derived.Test.YtodnllopokoicaaGreatRG40
import Derived.Test.YtodnllopokoicaaGreatRG45
import Derived.Test.YtodnllopokoicaaGreatRG47
import Derived.Test.YtodnllopokoicaaGreatRG30
import Derived.Test.YtodnllopokoicaaGreatRG26
import Derived.Test.YtodnllopokoicaaGreatRG7
import Derived.Test.YtodnllopokoicaaGreatRG27
import Derived.Test.YtodnllopokoicaaGreatRG5
namespace Go.Proofs.YtodnllopokoicaaGreat.NumK
open Go.RowKit
set_option linter.unusedVariables false

theorem sh_1 {ce c me m : Int} {ok : Bool} (h : ce ≠ 0) : shortN ce c ok me m = 0 ∧ shortE ce c ok me m = ce := by
  have h1 : shortE ce c ok me m = ce := by unfold shortE; rw [if_neg h]
  exact ⟨by unfold shortN; rw [if_neg (by rw [h1]; exact h)], h1⟩
theorem sh_2 {c me m : Int} : shortN 0 c false me m = 0 ∧ shortE 0 c false me m = 14 := by
  have h1 : shortE 0 c false me m = 14 := by unfold shortE; rw [if_pos rfl, if_neg (by decide)]
  exact ⟨by unfold shortN; rw [if_neg (by rw [h1]; decide)], h1⟩
theorem sh_3 {c me m : Int} (h : me ≠ 0) : shortN 0 c true me m = 0 ∧ shortE 0 c true me m = me := by
  have h1 : shortE 0 c true me m = me := by unfold shortE; rw [if_pos rfl, if_pos rfl, if_neg h]
  exact ⟨by unfold shortN; rw [if_neg (by rw [h1]; exact h)], h1⟩
theorem sh_4 {c m : Int} (hm : 0 ≤ m ∧ m ≤ 4611686018427387904) (hc : isMoney c = true) :
    (isMoney (m - c) = true → shortN 0 c true 0 m = max 0 (m - c) ∧ shortE 0 c true 0 m = 0) ∧ (isMoney (m - c) = false → shortN 0 c true 0 m = 0 ∧ shortE 0 c true 0 m = 1 ∧ m > c) := by
  have hc := (isMoney_iff c).1 hc
  constructor
  · intro h
    have h := (isMoney_iff _).1 h
    have h1 : shortE 0 c true 0 m = 0 := by unfold shortE; rw [if_pos rfl, if_pos rfl, if_pos rfl, if_neg (by omega)]
    refine ⟨?_, h1⟩
    unfold shortN; rw [if_pos h1]
    split <;> omega
  · intro h
    have h : ¬ (-4611686018427387904 ≤ m - c ∧ m - c ≤ 4611686018427387904) := fun hh => by rw [(isMoney_iff _).2 hh] at h; cases h
    have h1 : shortE 0 c true 0 m = 1 := by unfold shortE; rw [if_pos rfl, if_pos rfl, if_pos rfl, if_pos (by omega)]
    exact ⟨by unfold shortN; rw [if_neg (by rw [h1]; decide)], h1, by omega⟩
theorem cov_money {ok : Bool} {b : Int} {r : Rl} {who cur : Int} {l : List Pg} (h : covE ok b r who cur l = 0) : isMoney (covN ok b r who cur l) = true := by
  unfold covN; rw [if_pos h]
  exact (covE_iff.1 h).2.2.2.2
theorem marg_money {r : Rl} {who cur : Int} {l : List Po} (h : margE r who cur l = 0) : 0 ≤ margN r who cur l ∧ margN r who cur l ≤ 4611686018427387904 := by
  refine ⟨(grid_covers h).2.1, ?_⟩
  have := (isMoney_iff _).1 (margE_iff.1 h).2
  unfold margN; rw [if_pos h]; omega

set_option maxRecDepth 100000 in
theorem nless_any (a b : Int) (w : World) (ha : isMoney a = true) (hb : isMoney b = true) :
    Calls Tryz.prog 37 #[.int .i64 a, .int .i64 b] w fun e w' => e = .returned (.tuple #[.int .i64 (capV (a - b)), .int .i64 (capE (a - b))]) ∧ Grew w w' := by
  have C := right_any (some ⟨w.heap.size, 0, none⟩) 2 2 [a, b] _ (ints2 w a b 3) (by omega)
  rw [show [a, b].all isMoney = true by simp [ha, hb]] at C
  have hb2 := (isMoney_iff b).1 hb
  have hnb : isMoney (-b) = true := (isMoney_iff _).2 (by omega)
  have C2 := sum_any (some ⟨w.heap.size + 1, 0, none⟩) 2 2 [a, -b] _ (ints2' (w.alloc (.cells #[.int .i64 a, .int .i64 b] 3)) a (-b) 3 _ (by simp)) (by omega)
  have hr : [a, -b].all isMoney = true := by simp [ha, hnb]
  rw [sumV_in hr, sumE_in hr, show [a, -b].sum = a - b by simp; omega] at C2
  have q1 : IntKind.i64.wrap (-b) = -b := by rw [IntKind.wrap_i64]; omega
  clear hr ha hb hb2 hnb
  go_enter Tryz.func37, Tryz.ntmps37
  go_wp2_with (first | (go_at_call 71; refine C.mono ?_; rintro e w' ⟨rfl, rfl⟩) | (go_at_call 27; ((with_reducible refine C2.mono ?_); rintro e w' ⟨rfl, hg⟩)))
  go_ret2
  exact ⟨rfl, grew_trans (grew_alloc _ _ _) (grew_trans (grew_alloc _ _ _) hg)⟩

set_option maxRecDepth 100000 in
set_option maxHeartbeats 8000000 in
theorem short_any (t1 t2 t3 last : Int) (b : Bk) (A1 A2 A3 E1 E2 L P Q1 Q2 Q3 : Option Addr) (n1 n2 n3 c1 c2 c3 m1 m2 k1 k2 nl cl np cp u1 v1 u2 v2 u3 v3 : Nat) (lg : List Lg) (r : Rl) (l : List Pg) (who cur : Int) (w : World)
    (h : RowE enLg w L nl lg) (hnl : nl ≤ 90000) (h3 : Rows3 w r A1 A2 A3 n1 n2 n3) (hn3 : n1 ≤ 1000000 ∧ n2 ≤ 1000000 ∧ n3 ≤ 1000000) (hb : InB w b E1 E2 m1 m2 k1 k2) (hm : m1 ≤ 90000 ∧ m2 ≤ 90000) (hp : RowE enPg w P np l) (hnp : np ≤ 90000) :
    Calls Tryz.prog 9 #[stV t1 t2 t3 b.1 last A1 A2 A3 E1 E2 L P Q1 Q2 Q3 n1 n2 n3 c1 c2 c3 m1 m2 k1 k2 nl cl np cp u1 v1 u2 v2 u3 v3, .int .i64 who, .int .i64 cur] w fun e w' =>
      e = .returned (.tuple #[.int .i64 (shortN (covE (ledgerB last lg) (ofL lg (2, who, cur)) r who cur l) (covN (ledgerB last lg) (ofL lg (2, who, cur)) r who cur l) (rightB b) (margE r who cur b.2.2) (margN r who cur b.2.2)), .int .i64 (shortE (covE (ledgerB last lg) (ofL lg (2, who, cur)) r who cur l) (covN (ledgerB last lg) (ofL lg (2, who, cur)) r who cur l) (rightB b) (margE r who cur b.2.2) (margN r who cur b.2.2))]) ∧ Grew w w' := by
  have C1 := fun w' (g : Grew w w') => cof_any last L P A1 A2 A3 nl cl np cp n1 n2 n3 c1 c2 c3 lg r l who cur w' (h.keep g) hnl (h3.keep g) hn3 (hp.keep g) (by omega)
  have C2 := fun w' (g : Grew w w') => bcheck_any b E1 E2 m1 m2 k1 k2 w' (hb.keep g) (by omega)
  have C3 := fun w' (g : Grew w w') => margin_any r A1 A2 A3 E2 n1 n2 n3 c1 c2 c3 m2 k2 who cur b.2.2 w' (h3.keep g) hn3 (hb.p.keep g) (by omega)
  have HCM := Lib.hid (@cov_money (ledgerB last lg) (ofL lg (2, who, cur)) r who cur l)
  have HMM := Lib.hid (@marg_money r who cur b.2.2)
  generalize covE (ledgerB last lg) (ofL lg (2, who, cur)) r who cur l = ce at *
  generalize covN (ledgerB last lg) (ofL lg (2, who, cur)) r who cur l = cn at *
  generalize margE r who cur b.2.2 = me at *
  generalize margN r who cur b.2.2 = mn at *
  have HB : Hid (chkB b = if rightB b = true then 0 else 14) := rfl
  generalize chkB b = cb at *
  generalize rightB b = RB at *
  have HS1 := Lib.hid (@sh_1 ce cn me mn RB)
  have HS2 := Lib.hid (@sh_2 cn me mn)
  have HS3 := Lib.hid (@sh_3 cn me mn)
  have HS4 := Lib.hid (@sh_4 cn mn)
  generalize hsn : shortN ce cn RB me mn = SN at *
  generalize hse : shortE ce cn RB me mn = SE at *
  have HSN := Lib.hid hsn
  have HSE := Lib.hid hse
  clear h h3 hb hp hsn hse
  dsimp only [ldV, rlV, vBk, stV] at *
  generalize b.1 = nx at *
  have HX0 : Hid (OwnC (w.alloc (.cells #[.int .i64 t1, .int .i64 t2, .int .i64 t3, .slice A1 n1 c1, .slice A2 n2 c2, .slice A3 n3 c3, .int .i64 nx, .slice E1 m1 k1, .slice E2 m2 k2, .int .i64 last, .slice L nl cl, .slice P np cp, .slice Q1 u1 v1, .slice Q2 u2 v2, .slice Q3 u3 v3] 41)) w.heap.size [.int .i64 t1, .int .i64 t2, .int .i64 t3, .slice A1 n1 c1, .slice A2 n2 c2, .slice A3 n3 c3, .int .i64 nx, .slice E1 m1 k1, .slice E2 m2 k2, .int .i64 last, .slice L nl cl, .slice P np cp, .slice Q1 u1 v1, .slice Q2 u2 v2, .slice Q3 u3 v3]) := OwnC.new w [.int .i64 t1, .int .i64 t2, .int .i64 t3, .slice A1 n1 c1, .slice A2 n2 c2, .slice A3 n3 c3, .int .i64 nx, .slice E1 m1 k1, .slice E2 m2 k2, .int .i64 last, .slice L nl cl, .slice P np cp, .slice Q1 u1 v1, .slice Q2 u2 v2, .slice Q3 u3 v3] _ _ rfl
  have HG0 : Hid (Grew w (w.alloc (.cells #[.int .i64 t1, .int .i64 t2, .int .i64 t3, .slice A1 n1 c1, .slice A2 n2 c2, .slice A3 n3 c3, .int .i64 nx, .slice E1 m1 k1, .slice E2 m2 k2, .int .i64 last, .slice L nl cl, .slice P np cp, .slice Q1 u1 v1, .slice Q2 u2 v2, .slice Q3 u3 v3] 41))) := grew_alloc _ _ _
  go_enter Tryz.func9, Tryz.ntmps9
  go_upto_region 1 with (fail)
  generalize (w.alloc (.cells #[.int .i64 t1, .int .i64 t2, .int .i64 t3, .slice A1 n1 c1, .slice A2 n2 c2, .slice A3 n3 c3, .int .i64 nx, .slice E1 m1 k1, .slice E2 m2 k2, .int .i64 last, .slice L nl cl, .slice P np cp, .slice Q1 u1 v1, .slice Q2 u2 v2, .slice Q3 u3 v3] 41)) = w0 at *
  generalize w.heap.size = N at *
  have a0 := HX0.out.at 0 (.int .i64 t1) rfl; have a1 := HX0.out.at 1 (.int .i64 t2) rfl; have a2 := HX0.out.at 2 (.int .i64 t3) rfl; have a3 := HX0.out.at 3 (.slice A1 n1 c1) rfl; have a4 := HX0.out.at 4 (.slice A2 n2 c2) rfl; have a5 := HX0.out.at 5 (.slice A3 n3 c3) rfl; have a6 := HX0.out.at 6 (.int .i64 nx) rfl; have a7 := HX0.out.at 7 (.slice E1 m1 k1) rfl; have a8 := HX0.out.at 8 (.slice E2 m2 k2) rfl; have a9 := HX0.out.at 9 (.int .i64 last) rfl; have a10 := HX0.out.at 10 (.slice L nl cl) rfl; have a11 := HX0.out.at 11 (.slice P np cp) rfl; have a12 := HX0.out.at 12 (.slice Q1 u1 v1) rfl; have a13 := HX0.out.at 13 (.slice Q2 u2 v2) rfl; have a14 := HX0.out.at 14 (.slice Q3 u3 v3) rfl
  by_cases h1 : ce = 0
  · subst h1
    have hcm := HCM.out rfl
    have hcmi := (isMoney_iff _).1 hcm
    cases RB
    · have z1 := HS2.out.1
      have z2 := HS2.out.2
      rw [HSN.out] at z1
      rw [HSE.out] at z2
      subst z1 z2
      obtain rfl : cb = 14 := HB.out
      clear HS1 HS2 HS3 HS4 HMM HCM C3 HSN HSE HB
      go_wp2_with (first
        | (go_at_call 7; ((with_reducible refine (C1 _ HG0.out).mono ?_); rintro e w1 ⟨rfl, hg⟩; have HX1 := Lib.hid (HX0.out.keep hg); have HG1 := Lib.hid (grew_trans HG0.out hg); clear hg C1 HX0 HG0 a0 a1 a2 a3 a4 a5 a6 a7 a8 a9 a10 a11 a12 a13 a14; have b3 := HX1.out.at 3 (.slice A1 n1 c1) rfl; have b4 := HX1.out.at 4 (.slice A2 n2 c2) rfl; have b5 := HX1.out.at 5 (.slice A3 n3 c3) rfl; have b6 := HX1.out.at 6 (.int .i64 nx) rfl; have b7 := HX1.out.at 7 (.slice E1 m1 k1) rfl; have b8 := HX1.out.at 8 (.slice E2 m2 k2) rfl))
        | (go_at_call 35; ((with_reducible refine (C2 _ HG1.out).mono ?_); rintro e w2 ⟨rfl, hg⟩; have HX2 := Lib.hid (HX1.out.keep hg); have HG2 := Lib.hid (grew_trans HG1.out hg); clear hg C2 HX1 HG1 b3 b4 b5 b6 b7 b8; have d3 := HX2.out.at 3 (.slice A1 n1 c1) rfl; have d4 := HX2.out.at 4 (.slice A2 n2 c2) rfl; have d5 := HX2.out.at 5 (.slice A3 n3 c3) rfl; have d8 := HX2.out.at 8 (.slice E2 m2 k2) rfl)))
      go_ret2
      exact ⟨rfl, HG2.out⟩
    · obtain rfl : cb = 0 := HB.out
      by_cases h2 : me = 0
      · subst h2
        have hmm := HMM.out rfl
        have HS4 := Lib.hid (HS4.out hmm hcm)
        clear HS1 HS2 HS3 HMM HCM HB
        have CL := fun w => nless_any mn cn w ((isMoney_iff _).2 (by omega)) hcm
        have HZ : Hid (SN = max 0 (capV (mn - cn)) ∧ SE = capE (mn - cn)) := by
          by_cases h9 : isMoney (mn - cn) = true
          · obtain ⟨z1, z2⟩ := HS4.out.1 h9
            rw [HSN.out] at z1
            rw [HSE.out] at z2
            rw [capV_in h9, capE_in h9]; exact ⟨z1, z2⟩
          · rw [Bool.not_eq_true] at h9
            obtain ⟨z1, z2, z3⟩ := HS4.out.2 h9
            rw [HSN.out] at z1
            rw [HSE.out] at z2
            rw [capV_no h9, capE_no h9]; exact ⟨z1, z2⟩
        generalize capV (mn - cn) = dd at *
        generalize capE (mn - cn) = de at *
        clear HS4 HSN HSE
        go_wp2_with (first
          | (go_at_call 7; ((with_reducible refine (C1 _ HG0.out).mono ?_); rintro e w1 ⟨rfl, hg⟩; have HX1 := Lib.hid (HX0.out.keep hg); have HG1 := Lib.hid (grew_trans HG0.out hg); clear hg C1 HX0 HG0 a0 a1 a2 a3 a4 a5 a6 a7 a8 a9 a10 a11 a12 a13 a14; have b3 := HX1.out.at 3 (.slice A1 n1 c1) rfl; have b4 := HX1.out.at 4 (.slice A2 n2 c2) rfl; have b5 := HX1.out.at 5 (.slice A3 n3 c3) rfl; have b6 := HX1.out.at 6 (.int .i64 nx) rfl; have b7 := HX1.out.at 7 (.slice E1 m1 k1) rfl; have b8 := HX1.out.at 8 (.slice E2 m2 k2) rfl))
          | (go_at_call 35; ((with_reducible refine (C2 _ HG1.out).mono ?_); rintro e w2 ⟨rfl, hg⟩; have HX2 := Lib.hid (HX1.out.keep hg); have HG2 := Lib.hid (grew_trans HG1.out hg); clear hg C2 HX1 HG1 b3 b4 b5 b6 b7 b8; have d3 := HX2.out.at 3 (.slice A1 n1 c1) rfl; have d4 := HX2.out.at 4 (.slice A2 n2 c2) rfl; have d5 := HX2.out.at 5 (.slice A3 n3 c3) rfl; have d8 := HX2.out.at 8 (.slice E2 m2 k2) rfl))
          | (go_at_call 36; ((with_reducible refine (C3 _ HG2.out).mono ?_); rintro e w3 ⟨rfl, hg⟩; have HG3 := Lib.hid (grew_trans HG2.out hg); clear hg C3 HX2 HG2 d3 d4 d5 d8))
          | (go_at_call 37; ((with_reducible refine (CL _).mono ?_); rintro e w4 ⟨rfl, hg⟩; have HG4 := Lib.hid (grew_trans HG3.out hg); clear hg CL)))
        go_ret2
        exact ⟨ret2 (by rw [HZ.out.1]; try (simp only [Int.max_def]; split <;> split <;> omega)) HZ.out.2.symm, HG4.out⟩
      · have z1 := (HS3.out h2).1
        have z2 := (HS3.out h2).2
        rw [HSN.out] at z1
        rw [HSE.out] at z2
        have HZ := Lib.hid z2
        subst z1
        have d1 : (me == 0) = false := by simpa using h2
        clear HS1 HS2 HS3 HS4 HMM HCM HSN HSE z2 HB
        go_wp2_with (first
          | (go_at_call 7; ((with_reducible refine (C1 _ HG0.out).mono ?_); rintro e w1 ⟨rfl, hg⟩; have HX1 := Lib.hid (HX0.out.keep hg); have HG1 := Lib.hid (grew_trans HG0.out hg); clear hg C1 HX0 HG0 a0 a1 a2 a3 a4 a5 a6 a7 a8 a9 a10 a11 a12 a13 a14; have b3 := HX1.out.at 3 (.slice A1 n1 c1) rfl; have b4 := HX1.out.at 4 (.slice A2 n2 c2) rfl; have b5 := HX1.out.at 5 (.slice A3 n3 c3) rfl; have b6 := HX1.out.at 6 (.int .i64 nx) rfl; have b7 := HX1.out.at 7 (.slice E1 m1 k1) rfl; have b8 := HX1.out.at 8 (.slice E2 m2 k2) rfl))
          | (go_at_call 35; ((with_reducible refine (C2 _ HG1.out).mono ?_); rintro e w2 ⟨rfl, hg⟩; have HX2 := Lib.hid (HX1.out.keep hg); have HG2 := Lib.hid (grew_trans HG1.out hg); clear hg C2 HX1 HG1 b3 b4 b5 b6 b7 b8; have d3 := HX2.out.at 3 (.slice A1 n1 c1) rfl; have d4 := HX2.out.at 4 (.slice A2 n2 c2) rfl; have d5 := HX2.out.at 5 (.slice A3 n3 c3) rfl; have d8 := HX2.out.at 8 (.slice E2 m2 k2) rfl))
          | (go_at_call 36; ((with_reducible refine (C3 _ HG2.out).mono ?_); rintro e w3 ⟨rfl, hg⟩; have HG3 := Lib.hid (grew_trans HG2.out hg); clear hg C3 HX2 HG2 d3 d4 d5 d8)))
        go_ret2
        exact ⟨ret2 rfl HZ.out.symm, HG3.out⟩
  · obtain ⟨z1, z2⟩ := HS1.out h1
    have HZ := Lib.hid z2
    subst z1
    have d1 : (ce == 0) = false := by simpa using h1
    clear HS1 HS2 HS3 HS4 HMM HCM C2 C3 HSN HSE z2 HB
    go_wp2_with (first
      | (go_at_call 7; ((with_reducible refine (C1 _ HG0.out).mono ?_); rintro e w1 ⟨rfl, hg⟩; have HX1 := Lib.hid (HX0.out.keep hg); have HG1 := Lib.hid (grew_trans HG0.out hg); clear hg C1 HX0 HG0 a0 a1 a2 a3 a4 a5 a6 a7 a8 a9 a10 a11 a12 a13 a14; have b3 := HX1.out.at 3 (.slice A1 n1 c1) rfl; have b4 := HX1.out.at 4 (.slice A2 n2 c2) rfl; have b5 := HX1.out.at 5 (.slice A3 n3 c3) rfl; have b6 := HX1.out.at 6 (.int .i64 nx) rfl; have b7 := HX1.out.at 7 (.slice E1 m1 k1) rfl; have b8 := HX1.out.at 8 (.slice E2 m2 k2) rfl)))
    go_ret2
    exact ⟨ret2 rfl HZ.out.symm, HG1.out⟩

end Go.Proofs.YtodnllopokoicaaGreat.NumK
namespace Go.Proofs.YtodnllopokoicaaGreat.NumK
open Go.RowKit
set_option linter.unusedVariables false

theorem wakes16_any (w : World) : Calls Tryz.prog 12 #[] w fun e w' => e = .returned (.bool true) ∧ Grew w w' := by
  have C := fun w => value_any (1, 0, 100, 2500) 3 w
  rw [show valueN (1, 0, 100, 2500) 3 = 225 by decide +kernel, show valueE (1, 0, 100, 2500) 3 = 0 by decide +kernel] at C
  dsimp only [vAs] at C
  go_enter Tryz.func12, Tryz.ntmps12
  go_wp2_with (go_at_call 26; ((with_reducible refine (C _).mono ?_); rintro e w1 ⟨rfl, hg⟩; have HG1 := Lib.hid hg; clear hg C))
  go_ret
  exact ⟨rfl, HG1.out⟩
end Go.Proofs.YtodnllopokoicaaGreat.NumK
namespace Go.Proofs.YtodnllopokoicaaGreat.NumK
open Go.RowKit
set_option linter.unusedVariables false

/-- What has come out, and whether either account was met. -/
abbrev PdS := List Lg × Bool × Bool
/-- The accounts that come ahead of z; at the end (z = none) whatever is left. -/
def putPd (a b : Ac) (n : Int) (z : Option Ac) (s : PdS) : PdS :=
  let aheadA := match z with | none => true | some y => lessB a y
  let aheadB := match z with | none => true | some y => lessB b y
  let s1 : PdS := if !s.2.1 && aheadA then (s.1 ++ [(a, -n)], true, s.2.2) else s
  if !s1.2.2 && aheadB then (s1.1 ++ [(b, n)], s1.2.1, true) else s1
/-- One balance. -/
def addPd (a b : Ac) (n : Int) (x : Lg) (s : PdS) : PdS :=
  let hitA := !s.2.1 && decide (x.1 = a)
  let y1 : Int := if hitA then x.2 + -n else x.2
  let hitB := !s.2.2 && decide (x.1 = b)
  let y2 : Int := if hitB then y1 + n else y1
  (if y2 = 0 then s.1 else s.1 ++ [(x.1, y2)], s.2.1 || hitA, s.2.2 || hitB)
def stepPd (a b : Ac) (n : Int) (s : PdS) (x : Lg) : PdS := addPd a b n x (putPd a b n (some x.1) s)
def runPd (a b : Ac) (n : Int) (l : List Lg) : PdS := l.foldl (stepPd a b n) ([], false, false)
def paidPd (a b : Ac) (n : Int) (l : List Lg) : List Lg := (putPd a b n none (runPd a b n l)).1

theorem put_b {a b : Ac} (hab : a ≠ b) (n : Int) (z : Option Ac) (s : PdS) (S : Int) (h : sumA s.1 b = S + if s.2.2 = true then n else 0) :
    sumA (putPd a b n z s).1 b = S + if (putPd a b n z s).2.2 = true then n else 0 := by
  obtain ⟨o, p, q⟩ := s
  have e1 : sumA (o ++ [(a, -n)]) b = sumA o b := by rw [sumA_append, sumA_one, if_neg hab, Int.add_zero]
  have e2 : ∀ o', sumA (o' ++ [(b, n)]) b = sumA o' b + n := fun o' => by rw [sumA_append, sumA_one, if_pos rfl]
  have e3 : sumA (o ++ [(a, -n), (b, n)]) b = sumA o b + n := by rw [show o ++ [(a, -n), (b, n)] = (o ++ [(a, -n)]) ++ [(b, n)] by simp, e2, e1]
  dsimp only at h
  unfold putPd
  generalize (match z with | none => true | some y => lessB a y) = A
  generalize (match z with | none => true | some y => lessB b y) = B
  cases p <;> cases q <;> cases A <;> cases B <;> simp [e1, e2, e3] at h ⊢ <;> omega
theorem put_end (a b : Ac) (n : Int) (s : PdS) : (putPd a b n none s).2.2 = true := by
  obtain ⟨o, p, q⟩ := s
  unfold putPd
  cases p <;> cases q <;> simp
theorem add_b {a b : Ac} (hab : a ≠ b) (n : Int) (x : Lg) (s : PdS) (S : Int) (h : sumA s.1 b = S + if s.2.2 = true then n else 0) :
    sumA (addPd a b n x s).1 b = S + (if x.1 = b then x.2 else 0) + if (addPd a b n x s).2.2 = true then n else 0 := by
  obtain ⟨o, p, q⟩ := s
  obtain ⟨c, v⟩ := x
  dsimp only at h
  have e2 : ∀ y, sumA (if y = 0 then o else o ++ [(c, y)]) b = sumA o b + if c = b then y else 0 := fun y => by
    by_cases hy : y = 0
    · rw [if_pos hy, hy]; split <;> omega
    · rw [if_neg hy, sumA_append, sumA_one]
  unfold addPd
  dsimp only
  rw [e2, h]
  by_cases hb : c = b
  · cases p <;> cases q <;> simp [hb, Ne.symm hab] <;> omega
  · cases p <;> cases q <;> simp [hb]
/-- What stands on the second account: so much more. -/
theorem paid_b {a b : Ac} (hab : a ≠ b) (n : Int) (l : List Lg) : sumA (paidPd a b n l) b = sumA l b + n := by
  have key : ∀ (l : List Lg) (s : PdS) (S : Int), (sumA s.1 b = S + if s.2.2 = true then n else 0) → sumA (l.foldl (stepPd a b n) s).1 b = S + sumA l b + if (l.foldl (stepPd a b n) s).2.2 = true then n else 0 := by
    intro l
    induction l with
    | nil =>
      intro s S h
      show sumA s.1 b = S + sumA [] b + _
      rw [sumA_nil, Int.add_zero]
      exact h
    | cons x l ih =>
      intro s S h
      rw [List.foldl_cons, ih (stepPd a b n s x) (S + if x.1 = b then x.2 else 0) (add_b hab n x _ S (put_b hab n _ s S h)), sumA_cons]
      omega
  have h := put_b hab n none (runPd a b n l) (sumA l b) (by
    have := key l ([], false, false) 0 (by simp [sumA_nil])
    unfold runPd; rw [this]; omega)
  rw [put_end] at h
  unfold paidPd
  rw [h]; simp
theorem paid_of {a b : Ac} (hab : a ≠ b) (n : Int) {l : List Lg} (hl : rightLg l = true) (h : rightLg (paidPd a b n l) = true) : ofL (paidPd a b n l) b = ofL l b + n := by
  rw [ofL_sum (rightB_parts h).2, ofL_sum (rightB_parts hl).2, paid_b hab]
/-- One balance more, as the loop goes. -/
theorem run_succ (a b : Ac) (n : Int) (l : List Lg) (j : Nat) (h : j < l.length) : runPd a b n (l.take (j + 1)) = stepPd a b n (runPd a b n (l.take j)) (l.getD j lg0) := by
  unfold runPd
  rw [List.take_succ_eq_append_getElem h, List.foldl_append, List.foldl_cons, List.foldl_nil]
  simp [List.getD, h]
theorem put_len (a b : Ac) (n : Int) (z : Option Ac) (s : PdS) : (putPd a b n z s).1.length ≤ s.1.length + 2 := by
  obtain ⟨o, p, q⟩ := s
  unfold putPd
  generalize (match z with | none => true | some y => lessB a y) = A
  generalize (match z with | none => true | some y => lessB b y) = B
  cases p <;> cases q <;> cases A <;> cases B <;> simp
theorem run_len (a b : Ac) (n : Int) (l : List Lg) : (runPd a b n l).1.length ≤ l.length * 3 := by
  have key : ∀ (l : List Lg) (s : PdS), (l.foldl (stepPd a b n) s).1.length ≤ s.1.length + l.length * 3 := by
    intro l
    induction l with
    | nil => intro s; simp
    | cons x l ih =>
      intro s
      rw [List.foldl_cons]
      have h1 := ih (stepPd a b n s x)
      have h2 := put_len a b n (some x.1) s
      have h3 : (stepPd a b n s x).1.length ≤ (putPd a b n (some x.1) s).1.length + 1 := by
        have hp : ∀ y : Int, (if y = 0 then (putPd a b n (some x.1) s).1 else (putPd a b n (some x.1) s).1 ++ [(x.1, y)]).length ≤ (putPd a b n (some x.1) s).1.length + 1 := fun y => by split <;> simp
        exact hp _
      rw [List.length_cons]; omega
  have := key l ([], false, false)
  unfold runPd; simpa using this
end Go.Proofs.YtodnllopokoicaaGreat.NumK
namespace Go.Proofs.YtodnllopokoicaaGreat.NumK
open Go.RowKit
set_option linter.unusedVariables false

theorem less16_any (k m c k' m' c' : Int) (w : World) : Calls Tryz.prog 53 #[.agg #[.int .i64 k, .int .i64 m, .int .i64 c], .agg #[.int .i64 k', .int .i64 m', .int .i64 c']] w fun e w' => e = .returned (.bool (lessA k m c k' m' c')) ∧ Grew w w' := by
  go_enter Tryz.func53, Tryz.ntmps53
  go_wp2
  all_goals go_ret
  all_goals exact ⟨ret_b (by simp_all [lessA]), grew_trans (grew_alloc _ _ _) (grew_alloc _ _ _)⟩

/-! ### the two accounts, one by one -/
def aheadPd (a : Ac) (z : Option Ac) : Bool := match z with | none => true | some y => lessB a y
def put1 (a : Ac) (n : Int) (z : Option Ac) (s : PdS) : PdS := if !s.2.1 && aheadPd a z then (s.1 ++ [(a, -n)], true, s.2.2) else s
def put2 (b : Ac) (n : Int) (z : Option Ac) (s : PdS) : PdS := if !s.2.2 && aheadPd b z then (s.1 ++ [(b, n)], s.2.1, true) else s
theorem put_eq (a b : Ac) (n : Int) (z : Option Ac) (s : PdS) : putPd a b n z s = put2 b n z (put1 a n z s) := rfl
theorem put1_done (a : Ac) (n : Int) (z : Option Ac) (o : List Lg) (q : Bool) : put1 a n z (o, true, q) = (o, true, q) := rfl
theorem put1_yes (a : Ac) (n : Int) (z : Option Ac) (o : List Lg) (q : Bool) (h : aheadPd a z = true) : put1 a n z (o, false, q) = (o ++ [(a, -n)], true, q) := by unfold put1; rw [h]; rfl
theorem put1_no (a : Ac) (n : Int) (z : Option Ac) (o : List Lg) (q : Bool) (h : aheadPd a z = false) : put1 a n z (o, false, q) = (o, false, q) := by unfold put1; rw [h]; rfl
theorem put2_done (b : Ac) (n : Int) (z : Option Ac) (o : List Lg) (p : Bool) : put2 b n z (o, p, true) = (o, p, true) := rfl
theorem put2_yes (b : Ac) (n : Int) (z : Option Ac) (o : List Lg) (p : Bool) (h : aheadPd b z = true) : put2 b n z (o, p, false) = (o ++ [(b, n)], p, true) := by unfold put2; rw [h]; rfl
theorem put2_no (b : Ac) (n : Int) (z : Option Ac) (o : List Lg) (p : Bool) (h : aheadPd b z = false) : put2 b n z (o, p, false) = (o, p, false) := by unfold put2; rw [h]; rfl
theorem put1_len (a : Ac) (n : Int) (z : Option Ac) (s : PdS) : (put1 a n z s).1.length ≤ s.1.length + 1 := by unfold put1; split <;> simp
/-- Behind k of the two. -/
def putK (a b : Ac) (n : Int) (z : Option Ac) (s : PdS) : Nat → PdS
  | 0 => s
  | 1 => put1 a n z s
  | _ => putPd a b n z s
/-- One balance, by what was met. -/
def add1 (a : Ac) (n : Int) (x : Ac) (p : Bool) (y : Int) : Bool × Int := if !p && decide (x = a) then (true, y + n) else (p, y)
theorem add_eq (a b : Ac) (n : Int) (x : Lg) (o : List Lg) (p q : Bool) : addPd a b n x (o, p, q) =
    (if (add1 b n x.1 q (add1 a (-n) x.1 p x.2).2).2 = 0 then o else o ++ [(x.1, (add1 b n x.1 q (add1 a (-n) x.1 p x.2).2).2)], (add1 a (-n) x.1 p x.2).1, (add1 b n x.1 q (add1 a (-n) x.1 p x.2).2).1) := by
  unfold addPd add1
  generalize decide (x.1 = a) = da
  generalize decide (x.1 = b) = db
  cases p <;> cases q <;> cases da <;> cases db <;> simp
theorem add1_done (a : Ac) (n : Int) (x : Ac) (y : Int) : add1 a n x true y = (true, y) := rfl
theorem add1_yes (a : Ac) (n : Int) (x : Ac) (y : Int) (h : x = a) : add1 a n x false y = (true, y + n) := by unfold add1; rw [decide_eq_true h]; rfl
theorem add1_no (a : Ac) (n : Int) (x : Ac) (y : Int) (h : ¬ x = a) : add1 a n x false y = (false, y) := by unfold add1; rw [decide_eq_false h]; rfl
theorem same_eq (k m c : Int) (a : Ac) : sameA k m c a.1 a.2.1 a.2.2 = decide (((k, m, c) : Ac) = a) := by
  obtain ⟨a1, a2, a3⟩ := a
  unfold sameA
  rw [Bool.eq_iff_iff]
  simp only [Bool.and_eq_true, decide_eq_true_eq, Prod.mk.injEq]
  exact ⟨fun h => ⟨h.1.1, h.1.2, h.2⟩, fun h => ⟨⟨h.1, h.2.1⟩, h.2.2⟩⟩

abbrev acC (a : Ac) : List Value := [.int .i64 a.1, .int .i64 a.2.1, .int .i64 a.2.2]
/-- Where what a call of paid holds lies. -/
structure PdB where
  (l a b r o p B : Nat)
def PdB.ok (x : PdB) (N : Nat) : Prop := N ≤ x.l ∧ x.l < x.a ∧ x.a < x.b ∧ x.b < x.r ∧ x.r < x.o ∧ x.o < x.p ∧ x.p < x.B
structure Pw (w : World) (x : PdB) (last : Int) (A : Option Addr) (n c : Nat) (a b : Ac) (wr : World) (s : PdS) (A' : Option Addr) (c' : Nat) : Prop where
  l : OwnC wr x.l [.int .i64 last, .slice A n c]
  a : OwnC wr x.a (acC a)
  b : OwnC wr x.b (acC b)
  r : OwnC wr x.r [.int .i64 0, .slice none 0 0]
  o : OwnC wr x.o [.int .i64 last, .slice A' s.1.length c']
  p : OwnC wr x.p [.bool s.2.1, .bool s.2.2]
  v : OwnE enLg wr x.B 119 (.slice A' s.1.length c') s.1
  g : Grew w wr
  sz : x.B ≤ wr.heap.size
  ok : x.ok w.heap.size
section
variable {w wr w2 : World} {x : PdB} {last : Int} {A A' A2 : Option Addr} {n c c' c2 : Nat} {a b : Ac} {s : PdS} {K : Nat} {cs : List Value}
theorem Pw.keep (h : Pw w x last A n c a b wr s A' c') (g : Grew wr w2) : Pw w x last A n c a b w2 s A' c' :=
  ⟨h.l.keep g, h.a.keep g, h.b.keep g, h.r.keep g, h.o.keep g, h.p.keep g, h.v.keep g, grew_trans h.g g, Nat.le_trans h.sz g.size, h.ok⟩
/-- One more in what has come out. -/
theorem Pw.app (h : Pw w x last A n c a b wr s A' c') (hb : Below x.B wr w2) {m : Nat} {y : Lg} (ho : OwnE enLg w2 x.B 119 (.slice A2 m c2) (s.1 ++ [y])) (hm : m = s.1.length + 1) :
    Pw w x last A n c a b (w2.setCell ⟨x.o, 1, none⟩ (.slice A2 m c2)) (s.1 ++ [y], s.2) A2 c2 := by
  obtain ⟨k0, k1, k2, k3, k4, k5, k6⟩ := h.ok
  have e : (s.1 ++ [y]).length = m := by rw [List.length_append, List.length_singleton, hm]
  refine ⟨(h.l.below hb (by omega)).other _ _ (by show x.o ≠ x.l; omega), (h.a.below hb (by omega)).other _ _ (by show x.o ≠ x.a; omega), (h.b.below hb (by omega)).other _ _ (by show x.o ≠ x.b; omega), (h.r.below hb (by omega)).other _ _ (by show x.o ≠ x.r; omega), ?_, (h.p.below hb (by omega)).other _ _ (by show x.o ≠ x.p; omega), ?_, ?_, ?_, h.ok⟩
  · show OwnC _ _ [.int .i64 last, .slice A2 (s.1 ++ [y]).length c2]
    rw [e]
    exact (h.o.below hb (by omega)).set 1 _ (by show 1 < 2; omega)
  · show OwnE _ _ _ _ (.slice A2 (s.1 ++ [y]).length c2) _
    rw [e]
    exact ho.set _ _ _ (by omega)
  · exact grew_set (Below.trans h.g (Below.mono hb (by omega))) _ (by show w.heap.size ≤ x.o; omega)
  · rw [size_set]; exact Nat.le_trans h.sz hb.size
/-- A flag is set. -/
theorem Pw.set0 (h : Pw w x last A n c a b wr s A' c') : Pw w x last A n c a b (wr.setCell ⟨x.p, 0, none⟩ (.bool true)) (s.1, true, s.2.2) A' c' := by
  obtain ⟨k0, k1, k2, k3, k4, k5, k6⟩ := h.ok
  exact ⟨h.l.other _ _ (by show x.p ≠ x.l; omega), h.a.other _ _ (by show x.p ≠ x.a; omega), h.b.other _ _ (by show x.p ≠ x.b; omega), h.r.other _ _ (by show x.p ≠ x.r; omega), h.o.other _ _ (by show x.p ≠ x.o; omega), h.p.set 0 _ (by show 0 < 2; omega), h.v.set _ _ _ (by omega), grew_set h.g _ (by show w.heap.size ≤ x.p; omega), by rw [size_set]; exact h.sz, h.ok⟩
theorem Pw.set1 (h : Pw w x last A n c a b wr s A' c') : Pw w x last A n c a b (wr.setCell ⟨x.p, 1, none⟩ (.bool true)) (s.1, s.2.1, true) A' c' := by
  obtain ⟨k0, k1, k2, k3, k4, k5, k6⟩ := h.ok
  exact ⟨h.l.other _ _ (by show x.p ≠ x.l; omega), h.a.other _ _ (by show x.p ≠ x.a; omega), h.b.other _ _ (by show x.p ≠ x.b; omega), h.r.other _ _ (by show x.p ≠ x.r; omega), h.o.other _ _ (by show x.p ≠ x.o; omega), h.p.set 1 _ (by show 1 < 2; omega), h.v.set _ _ _ (by omega), grew_set h.g _ (by show w.heap.size ≤ x.p; omega), by rw [size_set]; exact h.sz, h.ok⟩
/-- A block made since, none of the row's. -/
structure Pz (w : World) (x : PdB) (last : Int) (A : Option Addr) (n c : Nat) (a b : Ac) (wr : World) (s : PdS) (A' : Option Addr) (c' K : Nat) (cs : List Value) : Prop where
  w : Pw w x last A n c a b wr s A' c'
  k : OwnC wr K cs
  hi : x.B ≤ K
  ne : ∀ g, (Value.slice A' s.1.length c').ownBlock = some g → g ≠ K
theorem Pw.box (h : Pw w x last A n c a b wr s A' c') (cs : List Value) (t : TypeId) : Pz w x last A n c a b (wr.alloc (.cells cs.toArray t)) s A' c' wr.heap.size cs :=
  ⟨h.keep (grew_alloc _ _ _), OwnC.new wr cs t _ rfl, h.sz, fun g hg => Nat.ne_of_lt (World.ownsRow.lt h.v g hg).2⟩
theorem Pz.keep (h : Pz w x last A n c a b wr s A' c' K cs) (g : Grew wr w2) : Pz w x last A n c a b w2 s A' c' K cs := ⟨h.w.keep g, h.k.keep g, h.hi, h.ne⟩
theorem Pz.setK (h : Pz w x last A n c a b wr s A' c' K cs) (i : Nat) (u : Value) (hi : i < cs.length) : Pz w x last A n c a b (wr.setCell ⟨K, i, none⟩ u) s A' c' K (cs.set i u) := by
  obtain ⟨k0, k1, k2, k3, k4, k5, k6⟩ := h.w.ok
  have hk := h.hi
  have q := h.w
  exact ⟨⟨q.l.other _ _ (by show K ≠ x.l; omega), q.a.other _ _ (by show K ≠ x.a; omega), q.b.other _ _ (by show K ≠ x.b; omega), q.r.other _ _ (by show K ≠ x.r; omega), q.o.other _ _ (by show K ≠ x.o; omega), q.p.other _ _ (by show K ≠ x.p; omega), q.v.setO K i u h.ne, grew_set q.g _ (by show w.heap.size ≤ K; omega), by rw [size_set]; exact q.sz, q.ok⟩, h.k.set i u hi, h.hi, h.ne⟩
theorem Pz.set0 (h : Pz w x last A n c a b wr s A' c' K cs) : Pz w x last A n c a b (wr.setCell ⟨x.p, 0, none⟩ (.bool true)) (s.1, true, s.2.2) A' c' K cs := by
  obtain ⟨k0, k1, k2, k3, k4, k5, k6⟩ := h.w.ok
  have hk := h.hi
  exact ⟨h.w.set0, h.k.other _ _ (by show x.p ≠ K; omega), h.hi, h.ne⟩
theorem Pz.set1 (h : Pz w x last A n c a b wr s A' c' K cs) : Pz w x last A n c a b (wr.setCell ⟨x.p, 1, none⟩ (.bool true)) (s.1, s.2.1, true) A' c' K cs := by
  obtain ⟨k0, k1, k2, k3, k4, k5, k6⟩ := h.w.ok
  have hk := h.hi
  exact ⟨h.w.set1, h.k.other _ _ (by show x.p ≠ K; omega), h.hi, h.ne⟩
end
end Go.Proofs.YtodnllopokoicaaGreat.NumK
