/- What a member lacks: cover.Short, and the reference's. -/
import Derived.Test.YtodnllopokoicaaGreatRH38
import Derived.Test.YtodnllopokoicaaGreatRH25
import Derived.Test.YtodnllopokoicaaGreatRH40
import Derived.Test.YtodnllopokoicaaGreatRH45
import Derived.Test.YtodnllopokoicaaGreatRH47
import Derived.Test.YtodnllopokoicaaGreatRH30
import Derived.Test.YtodnllopokoicaaGreatRH22
import Derived.Deep.Slices
namespace Go.Proofs.YtodnllopokoicaaGreat.NumK
open Go.RowKit
set_option linter.unusedVariables false

theorem sh_1 {ce c me m : Int} {ok : Bool} (h : ce ≠ 0) : shortN ce c ok me m = 0 ∧ shortE ce c ok me m = ce := by
  have h1 : shortE ce c ok me m = ce := by unfold shortE; rw [if_neg h]
  exact ⟨by unfold shortN; rw [if_neg (by rw [h1]; exact h)], h1⟩
theorem sh_2 {c me m : Int} : shortN 0 c false me m = 0 ∧ shortE 0 c false me m = 14 := by
  have h1 : shortE 0 c false me m = 14 := by unfold shortE; rw [if_pos rfl, if_neg (by decide)]
  exact ⟨by unfold shortN; rw [if_neg (by rw [h1]; decide)], h1⟩
theorem sh_3 {c me m : Int} (h : me ≠ 0) : shortN 0 c true me m = 0 ∧ shortE 0 c true me m = me := by
  have h1 : shortE 0 c true me m = me := by unfold shortE; rw [if_pos rfl, if_pos rfl, if_neg h]
  exact ⟨by unfold shortN; rw [if_neg (by rw [h1]; exact h)], h1⟩
theorem sh_4 {c m : Int} (hm : 0 ≤ m ∧ m ≤ 4611686018427387904) (hc : isMoney c = true) :
    (isMoney (m - c) = true → shortN 0 c true 0 m = max 0 (m - c) ∧ shortE 0 c true 0 m = 0) ∧ (isMoney (m - c) = false → shortN 0 c true 0 m = 0 ∧ shortE 0 c true 0 m = 1 ∧ m > c) := by
  have hc := (isMoney_iff c).1 hc
  constructor
  · intro h
    have h := (isMoney_iff _).1 h
    have h1 : shortE 0 c true 0 m = 0 := by unfold shortE; rw [if_pos rfl, if_pos rfl, if_pos rfl, if_neg (by omega)]
    refine ⟨?_, h1⟩
    unfold shortN; rw [if_pos h1]
    split <;> omega
  · intro h
    have h : ¬ (-4611686018427387904 ≤ m - c ∧ m - c ≤ 4611686018427387904) := fun hh => by rw [(isMoney_iff _).2 hh] at h; cases h
    have h1 : shortE 0 c true 0 m = 1 := by unfold shortE; rw [if_pos rfl, if_pos rfl, if_pos rfl, if_pos (by omega)]
    exact ⟨by unfold shortN; rw [if_neg (by rw [h1]; decide)], h1, by omega⟩
theorem cov_money {ok : Bool} {b : Int} {r : Rl} {who cur : Int} {l : List Pg} (h : covE ok b r who cur l = 0) : isMoney (covN ok b r who cur l) = true := by
  unfold covN; rw [if_pos h]
  exact (covE_iff.1 h).2.2.2.2
theorem marg_money {r : Rl} {who cur : Int} {l : List Po} (h : margE r who cur l = 0) : 0 ≤ margN r who cur l ∧ margN r who cur l ≤ 4611686018427387904 := by
  refine ⟨(grid_covers h).2.1, ?_⟩
  have := (isMoney_iff _).1 (margE_iff.1 h).2
  unfold margN; rw [if_pos h]; omega

set_option maxRecDepth 100000 in
theorem nless_any (a b : Int) (w : World) (ha : isMoney a = true) (hb : isMoney b = true) :
    Calls Tryz.prog 37 #[.int .i64 a, .int .i64 b] w fun e w' => e = .returned (.tuple #[.int .i64 (capV (a - b)), .int .i64 (capE (a - b))]) ∧ Grew w w' := by
  have C := right_any (some ⟨w.heap.size, 0, none⟩) 2 2 [a, b] _ (ints2 w a b 3) (by omega)
  rw [show [a, b].all isMoney = true by simp [ha, hb]] at C
  have hb2 := (isMoney_iff b).1 hb
  have hnb : isMoney (-b) = true := (isMoney_iff _).2 (by omega)
  have C2 := sum_any (some ⟨w.heap.size + 1, 0, none⟩) 2 2 [a, -b] _ (ints2' (w.alloc (.cells #[.int .i64 a, .int .i64 b] 3)) a (-b) 3 _ (by simp)) (by omega)
  have hr : [a, -b].all isMoney = true := by simp [ha, hnb]
  rw [sumV_in hr, sumE_in hr, show [a, -b].sum = a - b by simp; omega] at C2
  have q1 : IntKind.i64.wrap (-b) = -b := by rw [IntKind.wrap_i64]; omega
  clear hr ha hb hb2 hnb
  go_enter Tryz.func37, Tryz.ntmps37
  go_wp2_with (first | (go_at_call 71; refine C.mono ?_; rintro e w' ⟨rfl, rfl⟩) | (go_at_call 27; ((with_reducible refine C2.mono ?_); rintro e w' ⟨rfl, hg⟩)))
  go_ret2
  exact ⟨rfl, grew_trans (grew_alloc _ _ _) (grew_trans (grew_alloc _ _ _) hg)⟩

set_option maxRecDepth 100000 in
set_option maxHeartbeats 8000000 in
theorem short_any (t1 t2 t3 last : Int) (b : Bk) (A1 A2 A3 E1 E2 L P Q1 Q2 Q3 : Option Addr) (n1 n2 n3 c1 c2 c3 m1 m2 k1 k2 nl cl np cp u1 v1 u2 v2 u3 v3 : Nat) (lg : List Lg) (r : Rl) (l : List Pg) (who cur : Int) (w : World)
    (h : RowE enLg w L nl lg) (hnl : nl ≤ 90000) (h3 : Rows3 w r A1 A2 A3 n1 n2 n3) (hn3 : n1 ≤ 1000000 ∧ n2 ≤ 1000000 ∧ n3 ≤ 1000000) (hb : InB w b E1 E2 m1 m2 k1 k2) (hm : m1 ≤ 90000 ∧ m2 ≤ 90000) (hp : RowE enPg w P np l) (hnp : np ≤ 90000) :
    Calls Tryz.prog 9 #[stV t1 t2 t3 b.1 last A1 A2 A3 E1 E2 L P Q1 Q2 Q3 n1 n2 n3 c1 c2 c3 m1 m2 k1 k2 nl cl np cp u1 v1 u2 v2 u3 v3, .int .i64 who, .int .i64 cur] w fun e w' =>
      e = .returned (.tuple #[.int .i64 (shortN (covE (ledgerB last lg) (ofL lg (2, who, cur)) r who cur l) (covN (ledgerB last lg) (ofL lg (2, who, cur)) r who cur l) (rightB b) (margE r who cur b.2.2) (margN r who cur b.2.2)), .int .i64 (shortE (covE (ledgerB last lg) (ofL lg (2, who, cur)) r who cur l) (covN (ledgerB last lg) (ofL lg (2, who, cur)) r who cur l) (rightB b) (margE r who cur b.2.2) (margN r who cur b.2.2))]) ∧ Grew w w' := by
  have C1 := fun w' (g : Grew w w') => cof_any last L P A1 A2 A3 nl cl np cp n1 n2 n3 c1 c2 c3 lg r l who cur w' (h.keep g) hnl (h3.keep g) hn3 (hp.keep g) (by omega)
  have C2 := fun w' (g : Grew w w') => bcheck_any b E1 E2 m1 m2 k1 k2 w' (hb.keep g) (by omega)
  have C3 := fun w' (g : Grew w w') => margin_any r A1 A2 A3 E2 n1 n2 n3 c1 c2 c3 m2 k2 who cur b.2.2 w' (h3.keep g) hn3 (hb.p.keep g) (by omega)
  have HCM := Lib.hid (@cov_money (ledgerB last lg) (ofL lg (2, who, cur)) r who cur l)
  have HMM := Lib.hid (@marg_money r who cur b.2.2)
  generalize covE (ledgerB last lg) (ofL lg (2, who, cur)) r who cur l = ce at *
  generalize covN (ledgerB last lg) (ofL lg (2, who, cur)) r who cur l = cn at *
  generalize margE r who cur b.2.2 = me at *
  generalize margN r who cur b.2.2 = mn at *
  have HB : Hid (chkB b = if rightB b = true then 0 else 14) := rfl
  generalize chkB b = cb at *
  generalize rightB b = RB at *
  have HS1 := Lib.hid (@sh_1 ce cn me mn RB)
  have HS2 := Lib.hid (@sh_2 cn me mn)
  have HS3 := Lib.hid (@sh_3 cn me mn)
  have HS4 := Lib.hid (@sh_4 cn mn)
  generalize hsn : shortN ce cn RB me mn = SN at *
  generalize hse : shortE ce cn RB me mn = SE at *
  have HSN := Lib.hid hsn
  have HSE := Lib.hid hse
  clear h h3 hb hp hsn hse
  dsimp only [ldV, rlV, vBk, stV] at *
  generalize b.1 = nx at *
  have HX0 : Hid (OwnC (w.alloc (.cells #[.int .i64 t1, .int .i64 t2, .int .i64 t3, .slice A1 n1 c1, .slice A2 n2 c2, .slice A3 n3 c3, .int .i64 nx, .slice E1 m1 k1, .slice E2 m2 k2, .int .i64 last, .slice L nl cl, .slice P np cp, .slice Q1 u1 v1, .slice Q2 u2 v2, .slice Q3 u3 v3] 41)) w.heap.size [.int .i64 t1, .int .i64 t2, .int .i64 t3, .slice A1 n1 c1, .slice A2 n2 c2, .slice A3 n3 c3, .int .i64 nx, .slice E1 m1 k1, .slice E2 m2 k2, .int .i64 last, .slice L nl cl, .slice P np cp, .slice Q1 u1 v1, .slice Q2 u2 v2, .slice Q3 u3 v3]) := OwnC.new w [.int .i64 t1, .int .i64 t2, .int .i64 t3, .slice A1 n1 c1, .slice A2 n2 c2, .slice A3 n3 c3, .int .i64 nx, .slice E1 m1 k1, .slice E2 m2 k2, .int .i64 last, .slice L nl cl, .slice P np cp, .slice Q1 u1 v1, .slice Q2 u2 v2, .slice Q3 u3 v3] _ _ rfl
  have HG0 : Hid (Grew w (w.alloc (.cells #[.int .i64 t1, .int .i64 t2, .int .i64 t3, .slice A1 n1 c1, .slice A2 n2 c2, .slice A3 n3 c3, .int .i64 nx, .slice E1 m1 k1, .slice E2 m2 k2, .int .i64 last, .slice L nl cl, .slice P np cp, .slice Q1 u1 v1, .slice Q2 u2 v2, .slice Q3 u3 v3] 41))) := grew_alloc _ _ _
  go_enter Tryz.func9, Tryz.ntmps9
  go_upto_region 1 with (fail)
  generalize (w.alloc (.cells #[.int .i64 t1, .int .i64 t2, .int .i64 t3, .slice A1 n1 c1, .slice A2 n2 c2, .slice A3 n3 c3, .int .i64 nx, .slice E1 m1 k1, .slice E2 m2 k2, .int .i64 last, .slice L nl cl, .slice P np cp, .slice Q1 u1 v1, .slice Q2 u2 v2, .slice Q3 u3 v3] 41)) = w0 at *
  generalize w.heap.size = N at *
  have a0 := HX0.out.at 0 (.int .i64 t1) rfl; have a1 := HX0.out.at 1 (.int .i64 t2) rfl; have a2 := HX0.out.at 2 (.int .i64 t3) rfl; have a3 := HX0.out.at 3 (.slice A1 n1 c1) rfl; have a4 := HX0.out.at 4 (.slice A2 n2 c2) rfl; have a5 := HX0.out.at 5 (.slice A3 n3 c3) rfl; have a6 := HX0.out.at 6 (.int .i64 nx) rfl; have a7 := HX0.out.at 7 (.slice E1 m1 k1) rfl; have a8 := HX0.out.at 8 (.slice E2 m2 k2) rfl; have a9 := HX0.out.at 9 (.int .i64 last) rfl; have a10 := HX0.out.at 10 (.slice L nl cl) rfl; have a11 := HX0.out.at 11 (.slice P np cp) rfl; have a12 := HX0.out.at 12 (.slice Q1 u1 v1) rfl; have a13 := HX0.out.at 13 (.slice Q2 u2 v2) rfl; have a14 := HX0.out.at 14 (.slice Q3 u3 v3) rfl
  by_cases h1 : ce = 0
  · subst h1
    have hcm := HCM.out rfl
    have hcmi := (isMoney_iff _).1 hcm
    cases RB
    · have z1 := HS2.out.1
      have z2 := HS2.out.2
      rw [HSN.out] at z1
      rw [HSE.out] at z2
      subst z1 z2
      obtain rfl : cb = 14 := HB.out
      clear HS1 HS2 HS3 HS4 HMM HCM C3 HSN HSE HB
      go_wp2_with (first
        | (go_at_call 7; ((with_reducible refine (C1 _ HG0.out).mono ?_); rintro e w1 ⟨rfl, hg⟩; have HX1 := Lib.hid (HX0.out.keep hg); have HG1 := Lib.hid (grew_trans HG0.out hg); clear hg C1 HX0 HG0 a0 a1 a2 a3 a4 a5 a6 a7 a8 a9 a10 a11 a12 a13 a14; have b3 := HX1.out.at 3 (.slice A1 n1 c1) rfl; have b4 := HX1.out.at 4 (.slice A2 n2 c2) rfl; have b5 := HX1.out.at 5 (.slice A3 n3 c3) rfl; have b6 := HX1.out.at 6 (.int .i64 nx) rfl; have b7 := HX1.out.at 7 (.slice E1 m1 k1) rfl; have b8 := HX1.out.at 8 (.slice E2 m2 k2) rfl))
        | (go_at_call 35; ((with_reducible refine (C2 _ HG1.out).mono ?_); rintro e w2 ⟨rfl, hg⟩; have HX2 := Lib.hid (HX1.out.keep hg); have HG2 := Lib.hid (grew_trans HG1.out hg); clear hg C2 HX1 HG1 b3 b4 b5 b6 b7 b8; have d3 := HX2.out.at 3 (.slice A1 n1 c1) rfl; have d4 := HX2.out.at 4 (.slice A2 n2 c2) rfl; have d5 := HX2.out.at 5 (.slice A3 n3 c3) rfl; have d8 := HX2.out.at 8 (.slice E2 m2 k2) rfl)))
      go_ret2
      exact ⟨rfl, HG2.out⟩
    · obtain rfl : cb = 0 := HB.out
      by_cases h2 : me = 0
      · subst h2
        have hmm := HMM.out rfl
        have HS4 := Lib.hid (HS4.out hmm hcm)
        clear HS1 HS2 HS3 HMM HCM HB
        have CL := fun w => nless_any mn cn w ((isMoney_iff _).2 (by omega)) hcm
        have HZ : Hid (SN = max 0 (capV (mn - cn)) ∧ SE = capE (mn - cn)) := by
          by_cases h9 : isMoney (mn - cn) = true
          · obtain ⟨z1, z2⟩ := HS4.out.1 h9
            rw [HSN.out] at z1
            rw [HSE.out] at z2
            rw [capV_in h9, capE_in h9]; exact ⟨z1, z2⟩
          · rw [Bool.not_eq_true] at h9
            obtain ⟨z1, z2, z3⟩ := HS4.out.2 h9
            rw [HSN.out] at z1
            rw [HSE.out] at z2
            rw [capV_no h9, capE_no h9]; exact ⟨z1, z2⟩
        generalize capV (mn - cn) = dd at *
        generalize capE (mn - cn) = de at *
        clear HS4 HSN HSE
        go_wp2_with (first
          | (go_at_call 7; ((with_reducible refine (C1 _ HG0.out).mono ?_); rintro e w1 ⟨rfl, hg⟩; have HX1 := Lib.hid (HX0.out.keep hg); have HG1 := Lib.hid (grew_trans HG0.out hg); clear hg C1 HX0 HG0 a0 a1 a2 a3 a4 a5 a6 a7 a8 a9 a10 a11 a12 a13 a14; have b3 := HX1.out.at 3 (.slice A1 n1 c1) rfl; have b4 := HX1.out.at 4 (.slice A2 n2 c2) rfl; have b5 := HX1.out.at 5 (.slice A3 n3 c3) rfl; have b6 := HX1.out.at 6 (.int .i64 nx) rfl; have b7 := HX1.out.at 7 (.slice E1 m1 k1) rfl; have b8 := HX1.out.at 8 (.slice E2 m2 k2) rfl))
          | (go_at_call 35; ((with_reducible refine (C2 _ HG1.out).mono ?_); rintro e w2 ⟨rfl, hg⟩; have HX2 := Lib.hid (HX1.out.keep hg); have HG2 := Lib.hid (grew_trans HG1.out hg); clear hg C2 HX1 HG1 b3 b4 b5 b6 b7 b8; have d3 := HX2.out.at 3 (.slice A1 n1 c1) rfl; have d4 := HX2.out.at 4 (.slice A2 n2 c2) rfl; have d5 := HX2.out.at 5 (.slice A3 n3 c3) rfl; have d8 := HX2.out.at 8 (.slice E2 m2 k2) rfl))
          | (go_at_call 36; ((with_reducible refine (C3 _ HG2.out).mono ?_); rintro e w3 ⟨rfl, hg⟩; have HG3 := Lib.hid (grew_trans HG2.out hg); clear hg C3 HX2 HG2 d3 d4 d5 d8))
          | (go_at_call 37; ((with_reducible refine (CL _).mono ?_); rintro e w4 ⟨rfl, hg⟩; have HG4 := Lib.hid (grew_trans HG3.out hg); clear hg CL)))
        go_ret2
        exact ⟨ret2 (by rw [HZ.out.1]; try (simp only [Int.max_def]; split <;> split <;> omega)) HZ.out.2.symm, HG4.out⟩
      · have z1 := (HS3.out h2).1
        have z2 := (HS3.out h2).2
        rw [HSN.out] at z1
        rw [HSE.out] at z2
        have HZ := Lib.hid z2
        subst z1
        have d1 : (me == 0) = false := by simpa using h2
        clear HS1 HS2 HS3 HS4 HMM HCM HSN HSE z2 HB
        go_wp2_with (first
          | (go_at_call 7; ((with_reducible refine (C1 _ HG0.out).mono ?_); rintro e w1 ⟨rfl, hg⟩; have HX1 := Lib.hid (HX0.out.keep hg); have HG1 := Lib.hid (grew_trans HG0.out hg); clear hg C1 HX0 HG0 a0 a1 a2 a3 a4 a5 a6 a7 a8 a9 a10 a11 a12 a13 a14; have b3 := HX1.out.at 3 (.slice A1 n1 c1) rfl; have b4 := HX1.out.at 4 (.slice A2 n2 c2) rfl; have b5 := HX1.out.at 5 (.slice A3 n3 c3) rfl; have b6 := HX1.out.at 6 (.int .i64 nx) rfl; have b7 := HX1.out.at 7 (.slice E1 m1 k1) rfl; have b8 := HX1.out.at 8 (.slice E2 m2 k2) rfl))
          | (go_at_call 35; ((with_reducible refine (C2 _ HG1.out).mono ?_); rintro e w2 ⟨rfl, hg⟩; have HX2 := Lib.hid (HX1.out.keep hg); have HG2 := Lib.hid (grew_trans HG1.out hg); clear hg C2 HX1 HG1 b3 b4 b5 b6 b7 b8; have d3 := HX2.out.at 3 (.slice A1 n1 c1) rfl; have d4 := HX2.out.at 4 (.slice A2 n2 c2) rfl; have d5 := HX2.out.at 5 (.slice A3 n3 c3) rfl; have d8 := HX2.out.at 8 (.slice E2 m2 k2) rfl))
          | (go_at_call 36; ((with_reducible refine (C3 _ HG2.out).mono ?_); rintro e w3 ⟨rfl, hg⟩; have HG3 := Lib.hid (grew_trans HG2.out hg); clear hg C3 HX2 HG2 d3 d4 d5 d8)))
        go_ret2
        exact ⟨ret2 rfl HZ.out.symm, HG3.out⟩
  · obtain ⟨z1, z2⟩ := HS1.out h1
    have HZ := Lib.hid z2
    subst z1
    have d1 : (ce == 0) = false := by simpa using h1
    clear HS1 HS2 HS3 HS4 HMM HCM C2 C3 HSN HSE z2 HB
    go_wp2_with (first
      | (go_at_call 7; ((with_reducible refine (C1 _ HG0.out).mono ?_); rintro e w1 ⟨rfl, hg⟩; have HX1 := Lib.hid (HX0.out.keep hg); have HG1 := Lib.hid (grew_trans HG0.out hg); clear hg C1 HX0 HG0 a0 a1 a2 a3 a4 a5 a6 a7 a8 a9 a10 a11 a12 a13 a14; have b3 := HX1.out.at 3 (.slice A1 n1 c1) rfl; have b4 := HX1.out.at 4 (.slice A2 n2 c2) rfl; have b5 := HX1.out.at 5 (.slice A3 n3 c3) rfl; have b6 := HX1.out.at 6 (.int .i64 nx) rfl; have b7 := HX1.out.at 7 (.slice E1 m1 k1) rfl; have b8 := HX1.out.at 8 (.slice E2 m2 k2) rfl)))
    go_ret2
    exact ⟨ret2 rfl HZ.out.symm, HG1.out⟩

set_option maxRecDepth 100000 in
set_option maxHeartbeats 8000000 in
theorem rshort_any (t1 t2 t3 last : Int) (b : Bk) (A1 A2 A3 E1 E2 L P Q1 Q2 Q3 : Option Addr) (n1 n2 n3 c1 c2 c3 m1 m2 k1 k2 nl cl np cp u1 v1 u2 v2 u3 v3 : Nat) (lg : List Lg) (r : Rl) (l : List Pg) (who cur : Int) (w : World)
    (h : RowE enLg w L nl lg) (hnl : nl ≤ 90000) (h3 : Rows3 w r A1 A2 A3 n1 n2 n3) (hn3 : n1 ≤ 1000000 ∧ n2 ≤ 1000000 ∧ n3 ≤ 1000000) (hb : InB w b E1 E2 m1 m2 k1 k2) (hm : m1 ≤ 90000 ∧ m2 ≤ 90000) (hp : RowE enPg w P np l) (hnp : np ≤ 90000) :
    Calls Tryz.prog 10 #[stV t1 t2 t3 b.1 last A1 A2 A3 E1 E2 L P Q1 Q2 Q3 n1 n2 n3 c1 c2 c3 m1 m2 k1 k2 nl cl np cp u1 v1 u2 v2 u3 v3, .int .i64 who, .int .i64 cur] w fun e w' =>
      e = .returned (.tuple #[.int .i64 (shortN (covE (ledgerB last lg) (ofL lg (2, who, cur)) r who cur l) (covN (ledgerB last lg) (ofL lg (2, who, cur)) r who cur l) (rightB b) (margE r who cur b.2.2) (margN r who cur b.2.2)), .int .i64 (shortE (covE (ledgerB last lg) (ofL lg (2, who, cur)) r who cur l) (covN (ledgerB last lg) (ofL lg (2, who, cur)) r who cur l) (rightB b) (margE r who cur b.2.2) (margN r who cur b.2.2))]) ∧ Grew w w' := by
  have C1 := fun w' (g : Grew w w') => rcover_any last L P A1 A2 A3 nl cl np cp n1 n2 n3 c1 c2 c3 lg r l who cur w' (h.keep g) hnl (h3.keep g) hn3 (hp.keep g) (by omega)
  have C2 := fun w' (g : Grew w w') => rbook_any b E1 E2 m1 m2 k1 k2 w' (hb.keep g) (by omega)
  have C3 := fun w' (g : Grew w w') => rmargin_any r A1 A2 A3 E2 n1 n2 n3 c1 c2 c3 m2 k2 who cur b.2.2 w' (h3.keep g) hn3 (hb.p.keep g) (by omega)
  have HCM := Lib.hid (@cov_money (ledgerB last lg) (ofL lg (2, who, cur)) r who cur l)
  have HMM := Lib.hid (@marg_money r who cur b.2.2)
  generalize covE (ledgerB last lg) (ofL lg (2, who, cur)) r who cur l = ce at *
  generalize covN (ledgerB last lg) (ofL lg (2, who, cur)) r who cur l = cn at *
  generalize margE r who cur b.2.2 = me at *
  generalize margN r who cur b.2.2 = mn at *
  
  generalize rightB b = RB at *
  have HS1 := Lib.hid (@sh_1 ce cn me mn RB)
  have HS2 := Lib.hid (@sh_2 cn me mn)
  have HS3 := Lib.hid (@sh_3 cn me mn)
  have HS4 := Lib.hid (@sh_4 cn mn)
  generalize hsn : shortN ce cn RB me mn = SN at *
  generalize hse : shortE ce cn RB me mn = SE at *
  have HSN := Lib.hid hsn
  have HSE := Lib.hid hse
  clear h h3 hb hp hsn hse
  dsimp only [ldV, rlV, vBk, stV] at *
  generalize b.1 = nx at *
  have HX0 : Hid (OwnC (w.alloc (.cells #[.int .i64 t1, .int .i64 t2, .int .i64 t3, .slice A1 n1 c1, .slice A2 n2 c2, .slice A3 n3 c3, .int .i64 nx, .slice E1 m1 k1, .slice E2 m2 k2, .int .i64 last, .slice L nl cl, .slice P np cp, .slice Q1 u1 v1, .slice Q2 u2 v2, .slice Q3 u3 v3] 41)) w.heap.size [.int .i64 t1, .int .i64 t2, .int .i64 t3, .slice A1 n1 c1, .slice A2 n2 c2, .slice A3 n3 c3, .int .i64 nx, .slice E1 m1 k1, .slice E2 m2 k2, .int .i64 last, .slice L nl cl, .slice P np cp, .slice Q1 u1 v1, .slice Q2 u2 v2, .slice Q3 u3 v3]) := OwnC.new w [.int .i64 t1, .int .i64 t2, .int .i64 t3, .slice A1 n1 c1, .slice A2 n2 c2, .slice A3 n3 c3, .int .i64 nx, .slice E1 m1 k1, .slice E2 m2 k2, .int .i64 last, .slice L nl cl, .slice P np cp, .slice Q1 u1 v1, .slice Q2 u2 v2, .slice Q3 u3 v3] _ _ rfl
  have HG0 : Hid (Grew w (w.alloc (.cells #[.int .i64 t1, .int .i64 t2, .int .i64 t3, .slice A1 n1 c1, .slice A2 n2 c2, .slice A3 n3 c3, .int .i64 nx, .slice E1 m1 k1, .slice E2 m2 k2, .int .i64 last, .slice L nl cl, .slice P np cp, .slice Q1 u1 v1, .slice Q2 u2 v2, .slice Q3 u3 v3] 41))) := grew_alloc _ _ _
  go_enter Tryz.func10, Tryz.ntmps10
  go_upto_region 1 with (fail)
  generalize (w.alloc (.cells #[.int .i64 t1, .int .i64 t2, .int .i64 t3, .slice A1 n1 c1, .slice A2 n2 c2, .slice A3 n3 c3, .int .i64 nx, .slice E1 m1 k1, .slice E2 m2 k2, .int .i64 last, .slice L nl cl, .slice P np cp, .slice Q1 u1 v1, .slice Q2 u2 v2, .slice Q3 u3 v3] 41)) = w0 at *
  generalize w.heap.size = N at *
  have a0 := HX0.out.at 0 (.int .i64 t1) rfl; have a1 := HX0.out.at 1 (.int .i64 t2) rfl; have a2 := HX0.out.at 2 (.int .i64 t3) rfl; have a3 := HX0.out.at 3 (.slice A1 n1 c1) rfl; have a4 := HX0.out.at 4 (.slice A2 n2 c2) rfl; have a5 := HX0.out.at 5 (.slice A3 n3 c3) rfl; have a6 := HX0.out.at 6 (.int .i64 nx) rfl; have a7 := HX0.out.at 7 (.slice E1 m1 k1) rfl; have a8 := HX0.out.at 8 (.slice E2 m2 k2) rfl; have a9 := HX0.out.at 9 (.int .i64 last) rfl; have a10 := HX0.out.at 10 (.slice L nl cl) rfl; have a11 := HX0.out.at 11 (.slice P np cp) rfl; have a12 := HX0.out.at 12 (.slice Q1 u1 v1) rfl; have a13 := HX0.out.at 13 (.slice Q2 u2 v2) rfl; have a14 := HX0.out.at 14 (.slice Q3 u3 v3) rfl
  by_cases h1 : ce = 0
  · subst h1
    have hcm := HCM.out rfl
    have hcmi := (isMoney_iff _).1 hcm
    cases RB
    · have z1 := HS2.out.1
      have z2 := HS2.out.2
      rw [HSN.out] at z1
      rw [HSE.out] at z2
      subst z1 z2
      clear HS1 HS2 HS3 HS4 HMM HCM C3 HSN HSE
      go_wp2_with (first
        | (go_at_call 8; ((with_reducible refine (C1 _ HG0.out).mono ?_); rintro e w1 ⟨rfl, hg⟩; have HX1 := Lib.hid (HX0.out.keep hg); have HG1 := Lib.hid (grew_trans HG0.out hg); clear hg C1 HX0 HG0 a0 a1 a2 a3 a4 a5 a6 a7 a8 a9 a10 a11 a12 a13 a14; have b3 := HX1.out.at 3 (.slice A1 n1 c1) rfl; have b4 := HX1.out.at 4 (.slice A2 n2 c2) rfl; have b5 := HX1.out.at 5 (.slice A3 n3 c3) rfl; have b6 := HX1.out.at 6 (.int .i64 nx) rfl; have b7 := HX1.out.at 7 (.slice E1 m1 k1) rfl; have b8 := HX1.out.at 8 (.slice E2 m2 k2) rfl))
        | (go_at_call 38; ((with_reducible refine (C2 _ HG1.out).mono ?_); rintro e w2 ⟨rfl, hg⟩; have HX2 := Lib.hid (HX1.out.keep hg); have HG2 := Lib.hid (grew_trans HG1.out hg); clear hg C2 HX1 HG1 b3 b4 b5 b6 b7 b8; have d3 := HX2.out.at 3 (.slice A1 n1 c1) rfl; have d4 := HX2.out.at 4 (.slice A2 n2 c2) rfl; have d5 := HX2.out.at 5 (.slice A3 n3 c3) rfl; have d8 := HX2.out.at 8 (.slice E2 m2 k2) rfl)))
      go_ret2
      exact ⟨rfl, HG2.out⟩
    · 
      by_cases h2 : me = 0
      · subst h2
        have hmm := HMM.out rfl
        have HS4 := Lib.hid (HS4.out hmm hcm)
        clear HS1 HS2 HS3 HMM HCM
        have q1 : IntKind.i64.wrap (-cn) = -cn := by rw [IntKind.wrap_i64]; omega
        have CA := fun w (N : Nat) (hN : w.heap.size = N) => add_any (some ⟨N, 0, none⟩) 2 2 [mn, -cn] (w.alloc (.cells #[.int .i64 mn, .int .i64 (-cn)] 3)) (ints2' w mn (-cn) _ N hN) (fun z hz => by simp at hz; omega) (by decide)
        rw [show [mn, -cn].sum = mn - cn by simp; omega] at CA
        by_cases h9 : isMoney (mn - cn) = true
        · obtain ⟨z1, z2⟩ := HS4.out.1 h9
          rw [HSN.out] at z1
          rw [HSE.out] at z2
          rw [h9, intV_in h9] at CA
          have HZ := Lib.hid z1
          subst z2
          generalize mn - cn = dd at *
          clear HS4 HSN HSE z1 h9
          go_wp2_with (first
            | (go_at_call 8; ((with_reducible refine (C1 _ HG0.out).mono ?_); rintro e w1 ⟨rfl, hg⟩; have HX1 := Lib.hid (HX0.out.keep hg); have HG1 := Lib.hid (grew_trans HG0.out hg); clear hg C1 HX0 HG0 a0 a1 a2 a3 a4 a5 a6 a7 a8 a9 a10 a11 a12 a13 a14; have b3 := HX1.out.at 3 (.slice A1 n1 c1) rfl; have b4 := HX1.out.at 4 (.slice A2 n2 c2) rfl; have b5 := HX1.out.at 5 (.slice A3 n3 c3) rfl; have b6 := HX1.out.at 6 (.int .i64 nx) rfl; have b7 := HX1.out.at 7 (.slice E1 m1 k1) rfl; have b8 := HX1.out.at 8 (.slice E2 m2 k2) rfl))
            | (go_at_call 38; ((with_reducible refine (C2 _ HG1.out).mono ?_); rintro e w2 ⟨rfl, hg⟩; have HX2 := Lib.hid (HX1.out.keep hg); have HG2 := Lib.hid (grew_trans HG1.out hg); clear hg C2 HX1 HG1 b3 b4 b5 b6 b7 b8; have d3 := HX2.out.at 3 (.slice A1 n1 c1) rfl; have d4 := HX2.out.at 4 (.slice A2 n2 c2) rfl; have d5 := HX2.out.at 5 (.slice A3 n3 c3) rfl; have d8 := HX2.out.at 8 (.slice E2 m2 k2) rfl))
            | (go_at_call 13; ((with_reducible refine (C3 _ HG2.out).mono ?_); rintro e w3 ⟨rfl, hg⟩; have HG3 := Lib.hid (grew_trans HG2.out hg); clear hg C3 HX2 HG2 d3 d4 d5 d8))
            | (go_at_call 34; ((with_reducible refine (CA _ _ rfl).mono ?_); rintro e w4 ⟨rfl, hg⟩; have HG4 := Lib.hid (grew_trans (grew_trans HG3.out (grew_alloc _ _ _)) hg); clear hg CA)))
          go_ret2
          exact ⟨ret2 (by rw [HZ.out]; try (simp only [Int.max_def]; split <;> split <;> omega)) rfl, HG4.out⟩
        · rw [Bool.not_eq_true] at h9
          obtain ⟨z1, z2, z3⟩ := HS4.out.2 h9
          rw [HSN.out] at z1
          rw [HSE.out] at z2
          subst z1 z2
          rw [h9] at CA
          generalize intV (mn - cn) = dd at *
          clear HS4 HSN HSE h9
          go_wp2_with (first
            | (go_at_call 8; ((with_reducible refine (C1 _ HG0.out).mono ?_); rintro e w1 ⟨rfl, hg⟩; have HX1 := Lib.hid (HX0.out.keep hg); have HG1 := Lib.hid (grew_trans HG0.out hg); clear hg C1 HX0 HG0 a0 a1 a2 a3 a4 a5 a6 a7 a8 a9 a10 a11 a12 a13 a14; have b3 := HX1.out.at 3 (.slice A1 n1 c1) rfl; have b4 := HX1.out.at 4 (.slice A2 n2 c2) rfl; have b5 := HX1.out.at 5 (.slice A3 n3 c3) rfl; have b6 := HX1.out.at 6 (.int .i64 nx) rfl; have b7 := HX1.out.at 7 (.slice E1 m1 k1) rfl; have b8 := HX1.out.at 8 (.slice E2 m2 k2) rfl))
            | (go_at_call 38; ((with_reducible refine (C2 _ HG1.out).mono ?_); rintro e w2 ⟨rfl, hg⟩; have HX2 := Lib.hid (HX1.out.keep hg); have HG2 := Lib.hid (grew_trans HG1.out hg); clear hg C2 HX1 HG1 b3 b4 b5 b6 b7 b8; have d3 := HX2.out.at 3 (.slice A1 n1 c1) rfl; have d4 := HX2.out.at 4 (.slice A2 n2 c2) rfl; have d5 := HX2.out.at 5 (.slice A3 n3 c3) rfl; have d8 := HX2.out.at 8 (.slice E2 m2 k2) rfl))
            | (go_at_call 13; ((with_reducible refine (C3 _ HG2.out).mono ?_); rintro e w3 ⟨rfl, hg⟩; have HG3 := Lib.hid (grew_trans HG2.out hg); clear hg C3 HX2 HG2 d3 d4 d5 d8))
            | (go_at_call 34; ((with_reducible refine (CA _ _ rfl).mono ?_); rintro e w4 ⟨rfl, hg⟩; have HG4 := Lib.hid (grew_trans (grew_trans HG3.out (grew_alloc _ _ _)) hg); clear hg CA)))
          go_ret2
          exact ⟨rfl, HG4.out⟩
      · have z1 := (HS3.out h2).1
        have z2 := (HS3.out h2).2
        rw [HSN.out] at z1
        rw [HSE.out] at z2
        have HZ := Lib.hid z2
        subst z1
        have d1 : (me == 0) = false := by simpa using h2
        clear HS1 HS2 HS3 HS4 HMM HCM HSN HSE z2
        go_wp2_with (first
          | (go_at_call 8; ((with_reducible refine (C1 _ HG0.out).mono ?_); rintro e w1 ⟨rfl, hg⟩; have HX1 := Lib.hid (HX0.out.keep hg); have HG1 := Lib.hid (grew_trans HG0.out hg); clear hg C1 HX0 HG0 a0 a1 a2 a3 a4 a5 a6 a7 a8 a9 a10 a11 a12 a13 a14; have b3 := HX1.out.at 3 (.slice A1 n1 c1) rfl; have b4 := HX1.out.at 4 (.slice A2 n2 c2) rfl; have b5 := HX1.out.at 5 (.slice A3 n3 c3) rfl; have b6 := HX1.out.at 6 (.int .i64 nx) rfl; have b7 := HX1.out.at 7 (.slice E1 m1 k1) rfl; have b8 := HX1.out.at 8 (.slice E2 m2 k2) rfl))
          | (go_at_call 38; ((with_reducible refine (C2 _ HG1.out).mono ?_); rintro e w2 ⟨rfl, hg⟩; have HX2 := Lib.hid (HX1.out.keep hg); have HG2 := Lib.hid (grew_trans HG1.out hg); clear hg C2 HX1 HG1 b3 b4 b5 b6 b7 b8; have d3 := HX2.out.at 3 (.slice A1 n1 c1) rfl; have d4 := HX2.out.at 4 (.slice A2 n2 c2) rfl; have d5 := HX2.out.at 5 (.slice A3 n3 c3) rfl; have d8 := HX2.out.at 8 (.slice E2 m2 k2) rfl))
          | (go_at_call 13; ((with_reducible refine (C3 _ HG2.out).mono ?_); rintro e w3 ⟨rfl, hg⟩; have HG3 := Lib.hid (grew_trans HG2.out hg); clear hg C3 HX2 HG2 d3 d4 d5 d8)))
        go_ret2
        exact ⟨ret2 rfl HZ.out.symm, HG3.out⟩
  · obtain ⟨z1, z2⟩ := HS1.out h1
    have HZ := Lib.hid z2
    subst z1
    have d1 : (ce == 0) = false := by simpa using h1
    clear HS1 HS2 HS3 HS4 HMM HCM C2 C3 HSN HSE z2
    go_wp2_with (first
      | (go_at_call 8; ((with_reducible refine (C1 _ HG0.out).mono ?_); rintro e w1 ⟨rfl, hg⟩; have HX1 := Lib.hid (HX0.out.keep hg); have HG1 := Lib.hid (grew_trans HG0.out hg); clear hg C1 HX0 HG0 a0 a1 a2 a3 a4 a5 a6 a7 a8 a9 a10 a11 a12 a13 a14; have b3 := HX1.out.at 3 (.slice A1 n1 c1) rfl; have b4 := HX1.out.at 4 (.slice A2 n2 c2) rfl; have b5 := HX1.out.at 5 (.slice A3 n3 c3) rfl; have b6 := HX1.out.at 6 (.int .i64 nx) rfl; have b7 := HX1.out.at 7 (.slice E1 m1 k1) rfl; have b8 := HX1.out.at 8 (.slice E2 m2 k2) rfl)))
    go_ret2
    exact ⟨ret2 rfl HZ.out.symm, HG1.out⟩
end Go.Proofs.YtodnllopokoicaaGreat.NumK
namespace Go.Proofs.YtodnllopokoicaaGreat.NumK
open Go.RowKit
set_option linter.unusedVariables false

theorem wakes16_any (w : World) : Calls Tryz.prog 12 #[] w fun e w' => e = .returned (.bool true) ∧ Grew w w' := by
  have C := fun w => value_any (1, 0, 100, 2500) 3 w
  rw [show valueN (1, 0, 100, 2500) 3 = 225 by decide +kernel, show valueE (1, 0, 100, 2500) 3 = 0 by decide +kernel] at C
  dsimp only [vAs] at C
  go_enter Tryz.func12, Tryz.ntmps12
  go_wp2_with (go_at_call 26; ((with_reducible refine (C _).mono ?_); rintro e w1 ⟨rfl, hg⟩; have HG1 := Lib.hid hg; clear hg C))
  go_ret
  exact ⟨rfl, HG1.out⟩
end Go.Proofs.YtodnllopokoicaaGreat.NumK
namespace Go.Proofs.YtodnllopokoicaaGreat.NumK
open Go.RowKit Go.ChangeShapes Go.WideShapes
set_option linter.unusedVariables false

abbrev spTrA : Sp (Int × Int × Int × Int × Int × Int × Bool) := spPair spI (spPair spI (spPair spI (spPair spI (spPair spI (spPair spI spBool)))))
def toTr (x : Int × Int × Int × Int × Int × Int × Bool) : Tr := ((x.1, x.2.1, x.2.2.1, x.2.2.2.1, x.2.2.2.2.1, x.2.2.2.2.2.1), x.2.2.2.2.2.2)
def spTr : Sp Tr := spMap toTr spTrA
theorem opens_bool1 : Opens Tryz.prog 4 spBool := opens_bool Tryz.underlying4 (by kernel_rfl)
theorem opens_trade : Opens Tryz.prog 158 spTr :=
  opens_map toTr (opens_struct Tryz.underlying158 (by kernel_rfl) (Fs.cons _ _ 0 rfl opens_i (Fs.cons _ _ 1 rfl opens_i (Fs.cons _ _ 2 rfl opens_i (Fs.cons _ _ 3 rfl opens_i (Fs.cons _ _ 4 rfl opens_i (Fs.cons _ _ 5 rfl opens_i (Fs.last _ 6 rfl opens_bool1))))))))
theorem tr_rd {w : World} {cs : List Value} {a : Tr} (h : spTr.rd w cs a) : cs = enTr.cs a := by
  obtain ⟨x, ⟨c1, d1, rfl, ⟨rfl, _⟩, c2, d2, rfl, ⟨rfl, _⟩, c3, d3, rfl, ⟨rfl, _⟩, c4, d4, rfl, ⟨rfl, _⟩, c5, d5, rfl, ⟨rfl, _⟩, c6, d6, rfl, ⟨rfl, _⟩, hb⟩, rfl⟩ := h
  have hb : d6 = [.bool x.2.2.2.2.2.2] := hb
  subst hb
  rfl
theorem trs_of {w : World} {A : Option Addr} {n : Nat} {l : List Tr} (h : Row spTr w A n l) : RowE enTr w A n l := rowE_of rfl (fun _ _ _ => tr_rd) h

abbrev spKey : Sp (Int × Int) := spPair spI spI
abbrev spPoA : Sp ((Int × Int) × Int × Int) := spPair spKey (spPair spI spI)
def toPo (x : (Int × Int) × Int × Int) : Po := (x.1.1, x.1.2, x.2.1, x.2.2)
def spPo : Sp Po := spMap toPo spPoA
theorem opens_key : Opens Tryz.prog 109 spKey := opens_struct Tryz.underlying109 (by kernel_rfl) (Fs.cons _ _ 0 rfl opens_i (Fs.last _ 1 rfl opens_i))
theorem opens_pos : Opens Tryz.prog 111 spPo :=
  opens_map toPo (opens_struct Tryz.underlying111 (by kernel_rfl) (Fs.cons _ _ 0 rfl opens_key (Fs.cons _ _ 2 rfl opens_i (Fs.last _ 3 rfl opens_i))))
theorem po_rd {w : World} {cs : List Value} {a : Po} (h : spPo.rd w cs a) : cs = enPo.cs a := by
  obtain ⟨x, ⟨c0, d0, rfl, ⟨c1, d1, rfl, ⟨rfl, _⟩, rfl, _⟩, c3, d3, rfl, ⟨rfl, _⟩, rfl, _⟩, rfl⟩ := h
  rfl
theorem poss_of {w : World} {A : Option Addr} {n : Nat} {l : List Po} (h : Row spPo w A n l) : RowE enPo w A n l := rowE_of rfl (fun _ _ _ => po_rd) h
theorem opens_poss : Opens Tryz.prog 30 (spSlice spPo) := opens_slice Tryz.underlying30 (by kernel_rfl) opens_pos (by decide)
theorem opens_trades : Opens Tryz.prog 29 (spSlice spTr) := opens_slice Tryz.underlying29 (by kernel_rfl) opens_trade (by decide)

abbrev spBk : Sp Bk := spPair spI (spPair (spSlice spTr) (spSlice spPo))
theorem opens_book : Opens Tryz.prog 32 spBk :=
  opens_struct Tryz.underlying32 (by kernel_rfl) (Fs.cons _ _ 0 rfl opens_i (Fs.cons _ _ 1 rfl opens_trades (Fs.last _ 2 rfl opens_poss)))
end Go.Proofs.YtodnllopokoicaaGreat.NumK
