/-
  For every state, member and currency: what stands for a member, and what it lacks, with their errors, are what the reference tells, and the state stays as it was; states with long rows the statement lets by.
-/
import Derived.Test.YtodnllopokoicaaGreatRH30
import Derived.Test.YtodnllopokoicaaGreatRH48
import Derived.Test.YtodnllopokoicaaGreatRH49
import Derived.Test.YtodnllopokoicaaGreatRows
import Derived.WalkKit
import Derived.ProofKit
import Derived.OpenShut
import Derived.ShutString
import Derived.ChangeOld
import Derived.Below
import Derived.Carry
import Derived.SizedLaws
namespace Go.Proofs.YtodnllopokoicaaGreat.NumK
open Go.RowKit
set_option linter.unusedVariables false

set_option maxRecDepth 100000 in
set_option maxHeartbeats 16000000 in
theorem coverStands_walk (t1 t2 t3 last : Int) (A1 A2 A3 E1 E2 L P Q1 Q2 Q3 : Option Addr) (n1 n2 n3 c1 c2 c3 m1 m2 k1 k2 nl cl np cp u1 v1 u2 v2 u3 v3 : Nat) (r : Rl) (b : Bk) (lg : List Lg) (pl : List Pg) (cl4 : List C4) (bd5 : List B5) (ys : List Se7) (zs : List (List D3 × List F8)) (who cur : Int) (w : World)
    (h : InZ w r b lg pl cl4 bd5 ys zs A1 A2 A3 E1 E2 L P Q1 Q2 Q3 n1 n2 n3 c1 c2 c3 m1 m2 k1 k2 nl cl np cp u1 v1 u2 v2 u3 v3) :
    Calls Tryz.prog 3 #[stV t1 t2 t3 b.1 last A1 A2 A3 E1 E2 L P Q1 Q2 Q3 n1 n2 n3 c1 c2 c3 m1 m2 k1 k2 nl cl np cp u1 v1 u2 v2 u3 v3, .int .i64 who, .int .i64 cur] w fun e w' => e = .returned (.bool true) ∧ Grew w w' := by
  have HI := Lib.hid h
  have CW := fun w => wakes16_any w
  have CH := fun w => heavy16_any t1 t2 t3 b.1 last A1 A2 A3 E1 E2 L P Q1 Q2 Q3 n1 n2 n3 c1 c2 c3 m1 m2 k1 k2 nl cl np cp u1 v1 u2 v2 u3 v3 w
  have HHN := Lib.hid (@heavyS_no n1 n2 n3 m1 m2 nl np u1 u2 u3)
  generalize heavyS n1 n2 n3 m1 m2 nl np u1 u2 u3 = HV at *
  have HT0 := Lib.hid (fun (p1 : n1 ≤ 1000 ∧ n2 ≤ 1000 ∧ n3 ≤ 1000) (p2 : m1 ≤ 1000 ∧ m2 ≤ 1000) (p3 : nl ≤ 1000 ∧ np ≤ 1000 ∧ u1 ≤ 1000 ∧ u2 ≤ 1000 ∧ u3 ≤ 1000) w' (g : Grew w w') => twinState_n t1 t2 t3 last A1 A2 A3 E1 E2 L P Q1 Q2 Q3 n1 n2 n3 c1 c2 c3 m1 m2 k1 k2 nl cl np cp u1 v1 u2 v2 u3 v3 r b lg pl cl4 bd5 ys zs w' ⟨h.r.keep g, h.b.keep g, h.l.keep g, h.lk, h.p.keep g, h.pk, h.q1.keep g, h.q1k, h.q2.keep g, h.q2k, h.q3.keep g, fun i hi => (h.si i hi).keep g⟩ p1 p2 p3)
  have HC2 := Lib.hid (fun (p1 : n1 ≤ 1000000 ∧ n2 ≤ 1000000 ∧ n3 ≤ 1000000) (p3 : nl ≤ 90000 ∧ np ≤ 90000) w' (g : Grew w w') => rcover_any last L P A1 A2 A3 nl cl np cp n1 n2 n3 c1 c2 c3 lg r pl who cur w' (h.l.keep g) p3.1 (h.r.rows.keep g) p1 (h.p.keep g) p3.2)
  have HC4 := Lib.hid (fun (p1 : n1 ≤ 1000000 ∧ n2 ≤ 1000000 ∧ n3 ≤ 1000000) (p2 : m1 ≤ 90000 ∧ m2 ≤ 90000) (p3 : nl ≤ 90000 ∧ np ≤ 90000) w' (g : Grew w w') => rshort_any t1 t2 t3 last b A1 A2 A3 E1 E2 L P Q1 Q2 Q3 n1 n2 n3 c1 c2 c3 m1 m2 k1 k2 nl cl np cp u1 v1 u2 v2 u3 v3 lg r pl who cur w' (h.l.keep g) p3.1 (h.r.rows.keep g) p1 (h.b.keep g) p2 (h.p.keep g) p3.2)
  have HC1 := Lib.hid (fun (R1 R2 R3 H1 P2 : Option Addr) (d1 d2 d3 f1 f2 : Nat) (p1 : n1 ≤ 1000000 ∧ n2 ≤ 1000000 ∧ n3 ≤ 1000000) (p3 : nl ≤ 90000 ∧ np ≤ 90000) (w5 : World) (g1 : Rows3 w5 r R1 R2 R3 n1 n2 n3) (g2 : RowE enLg w5 H1 nl lg) (g3 : RowE enPg w5 P2 np pl) w' (g : Grew w5 w') => cof_any last H1 P2 R1 R2 R3 nl f1 np f2 n1 n2 n3 d1 d2 d3 lg r pl who cur w' (g2.keep g) p3.1 (g1.keep g) p1 (g3.keep g) (by omega))
  have HC3 := Lib.hid (fun (R1 R2 R3 G1 G2 H1 P2 Q4 Q5 Q6 : Option Addr) (d1 d2 d3 e1 e2 f1 f2 f3 f4 f5 : Nat) (p1 : n1 ≤ 1000000 ∧ n2 ≤ 1000000 ∧ n3 ≤ 1000000) (p2 : m1 ≤ 90000 ∧ m2 ≤ 90000) (p3 : nl ≤ 90000 ∧ np ≤ 90000) (w5 : World) (g1 : Rows3 w5 r R1 R2 R3 n1 n2 n3) (g2 : RowE enLg w5 H1 nl lg) (g3 : RowE enPg w5 P2 np pl) (g4 : InB w5 b G1 G2 m1 m2 e1 e2) w' (g : Grew w5 w') => short_any t1 t2 t3 last b R1 R2 R3 G1 G2 H1 P2 Q4 Q5 Q6 n1 n2 n3 d1 d2 d3 m1 m2 e1 e2 nl f1 np f2 u1 f3 u2 f4 u3 f5 lg r pl who cur w' (g2.keep g) p3.1 (g1.keep g) p1 (g4.keep g) p2 (g3.keep g) p3.2)
  generalize shortN (covE (ledgerB last lg) (ofL lg (2, who, cur)) r who cur pl) (covN (ledgerB last lg) (ofL lg (2, who, cur)) r who cur pl) (rightB b) (margE r who cur b.2.2) (margN r who cur b.2.2) = sn at *
  generalize shortE (covE (ledgerB last lg) (ofL lg (2, who, cur)) r who cur pl) (covN (ledgerB last lg) (ofL lg (2, who, cur)) r who cur pl) (rightB b) (margE r who cur b.2.2) (margN r who cur b.2.2) = se at *
  generalize covE (ledgerB last lg) (ofL lg (2, who, cur)) r who cur pl = ce at *
  generalize covN (ledgerB last lg) (ofL lg (2, who, cur)) r who cur pl = cn at *
  have HKS := Lib.hid (fun (R1 R2 R3 G1 G2 H1 P2 Q4 Q5 Q6 : Option Addr) (d1 d2 d3 e1 e2 f1 f2 f3 f4 f5 : Nat) (xs : List Se7) (p1 : n1 ≤ 1000 ∧ n2 ≤ 1000 ∧ n3 ≤ 1000) (p2 : m1 ≤ 1000 ∧ m2 ≤ 1000) (p3 : nl ≤ 1000 ∧ np ≤ 1000 ∧ u1 ≤ 1000 ∧ u2 ≤ 1000 ∧ u3 ≤ 1000) (w5 : World) (ht : TwN w5 r b lg pl cl4 bd5 ys zs R1 R2 R3 G1 G2 H1 P2 Q4 Q5 Q6 n1 n2 n3 m1 m2 e1 e2 nl np u1 u2 u3 xs) w' (g0 : Grew w w') (g : Grew w5 w') =>
    kstate_yes t1 t2 t3 b.1 last A1 A2 A3 E1 E2 L P Q1 Q2 Q3 R1 R2 R3 G1 G2 H1 P2 Q4 Q5 Q6 n1 n2 n3 c1 c2 c3 m1 m2 k1 k2 nl cl np cp u1 v1 u2 v2 u3 v3 d1 d2 d3 e1 e2 f1 f2 f3 f4 f5 r b.2.1 b.2.2 lg pl cl4 bd5 xs ys zs w' (h.r.rows.keep g0) (ht.r.keep g) (h.b.t.keep g0) (ht.b.t.keep g) (h.b.p.keep g0) (ht.b.p.keep g) (h.l.keep g0) (ht.l.keep g) (h.p.keep g0) (ht.p.keep g) (h.q1.keep g0) (ht.q1.keep g) (h.q2.keep g0) (ht.q2.keep g) (h.q3.keep g0) (ht.q3.keep g)
      (fun i hi => (ht.tw i hi).keep g) (fun i hi => (h.si i hi).keep g0) p1 p2 p3)
  clear h
  generalize b.1 = nx at *
  dsimp only [stV, ldV, rlV, vBk] at *
  have HX0 : Hid (OwnC (w.alloc (.cells #[.int .i64 t1, .int .i64 t2, .int .i64 t3, .slice A1 n1 c1, .slice A2 n2 c2, .slice A3 n3 c3, .int .i64 nx, .slice E1 m1 k1, .slice E2 m2 k2, .int .i64 last, .slice L nl cl, .slice P np cp, .slice Q1 u1 v1, .slice Q2 u2 v2, .slice Q3 u3 v3] 41)) w.heap.size [.int .i64 t1, .int .i64 t2, .int .i64 t3, .slice A1 n1 c1, .slice A2 n2 c2, .slice A3 n3 c3, .int .i64 nx, .slice E1 m1 k1, .slice E2 m2 k2, .int .i64 last, .slice L nl cl, .slice P np cp, .slice Q1 u1 v1, .slice Q2 u2 v2, .slice Q3 u3 v3]) := OwnC.new w [.int .i64 t1, .int .i64 t2, .int .i64 t3, .slice A1 n1 c1, .slice A2 n2 c2, .slice A3 n3 c3, .int .i64 nx, .slice E1 m1 k1, .slice E2 m2 k2, .int .i64 last, .slice L nl cl, .slice P np cp, .slice Q1 u1 v1, .slice Q2 u2 v2, .slice Q3 u3 v3] _ _ rfl
  have HG0 : Hid (Grew w (w.alloc (.cells #[.int .i64 t1, .int .i64 t2, .int .i64 t3, .slice A1 n1 c1, .slice A2 n2 c2, .slice A3 n3 c3, .int .i64 nx, .slice E1 m1 k1, .slice E2 m2 k2, .int .i64 last, .slice L nl cl, .slice P np cp, .slice Q1 u1 v1, .slice Q2 u2 v2, .slice Q3 u3 v3] 41))) := grew_alloc _ _ _
  go_enter Tryz.func3, Tryz.ntmps3
  go_upto_region 1 with (fail)
  generalize (w.alloc (.cells #[.int .i64 t1, .int .i64 t2, .int .i64 t3, .slice A1 n1 c1, .slice A2 n2 c2, .slice A3 n3 c3, .int .i64 nx, .slice E1 m1 k1, .slice E2 m2 k2, .int .i64 last, .slice L nl cl, .slice P np cp, .slice Q1 u1 v1, .slice Q2 u2 v2, .slice Q3 u3 v3] 41)) = w0 at *
  generalize hN : w.heap.size = N at *
  clear hN
  have a0 := HX0.out.at 0 (.int .i64 t1) rfl; have a1 := HX0.out.at 1 (.int .i64 t2) rfl; have a2 := HX0.out.at 2 (.int .i64 t3) rfl; have a3 := HX0.out.at 3 (.slice A1 n1 c1) rfl; have a4 := HX0.out.at 4 (.slice A2 n2 c2) rfl; have a5 := HX0.out.at 5 (.slice A3 n3 c3) rfl; have a6 := HX0.out.at 6 (.int .i64 nx) rfl; have a7 := HX0.out.at 7 (.slice E1 m1 k1) rfl; have a8 := HX0.out.at 8 (.slice E2 m2 k2) rfl; have a9 := HX0.out.at 9 (.int .i64 last) rfl; have a10 := HX0.out.at 10 (.slice L nl cl) rfl; have a11 := HX0.out.at 11 (.slice P np cp) rfl; have a12 := HX0.out.at 12 (.slice Q1 u1 v1) rfl; have a13 := HX0.out.at 13 (.slice Q2 u2 v2) rfl; have a14 := HX0.out.at 14 (.slice Q3 u3 v3) rfl
  cases HV
  · obtain ⟨⟨g1, g2, g3⟩, ⟨g4, g5⟩, g6, g7, g8, g9, g10⟩ := HHN.out rfl
    clear HHN
    have CT := HT0.out (by omega) (by omega) (by omega)
    have C2 := HC2.out (by omega) (by omega)
    have C4 := HC4.out (by omega) (by omega) (by omega)
    clear HT0 HC2 HC4
    go_upto_region 3 with (go_at_call 5; ((with_reducible refine (CH _).mono ?_); rintro e wa ⟨rfl, hg⟩; have HX1 := Lib.hid (HX0.out.keep hg); have HG1 := Lib.hid (grew_trans HG0.out hg); clear hg CH HX0 HG0 a0 a1 a2 a3 a4 a5 a6 a7 a8 a9 a10 a11 a12 a13 a14))
    have a0 := HX1.out.at 0 (.int .i64 t1) rfl; have a1 := HX1.out.at 1 (.int .i64 t2) rfl; have a2 := HX1.out.at 2 (.int .i64 t3) rfl; have a3 := HX1.out.at 3 (.slice A1 n1 c1) rfl; have a4 := HX1.out.at 4 (.slice A2 n2 c2) rfl; have a5 := HX1.out.at 5 (.slice A3 n3 c3) rfl; have a6 := HX1.out.at 6 (.int .i64 nx) rfl; have a7 := HX1.out.at 7 (.slice E1 m1 k1) rfl; have a8 := HX1.out.at 8 (.slice E2 m2 k2) rfl; have a9 := HX1.out.at 9 (.int .i64 last) rfl; have a10 := HX1.out.at 10 (.slice L nl cl) rfl; have a11 := HX1.out.at 11 (.slice P np cp) rfl; have a12 := HX1.out.at 12 (.slice Q1 u1 v1) rfl; have a13 := HX1.out.at 13 (.slice Q2 u2 v2) rfl; have a14 := HX1.out.at 14 (.slice Q3 u3 v3) rfl
    go_upto_region 4 with (go_at_call 6; ((with_reducible refine (CT _ HG1.out).mono ?_); rintro e w2 ⟨R1, R2, R3, G1, G2, H1, P2, Q4, Q5, Q6, d1, d2, d3, e1, e2, f1, f2, f3, f4, f5, xs, rfl, ht, hg⟩; have HT2 := Lib.hid ht; have HX2 := Lib.hid (HX1.out.keep hg); have HG2 := Lib.hid (grew_trans HG1.out hg); clear hg ht CT HX1 HG1 a0 a1 a2 a3 a4 a5 a6 a7 a8 a9 a10 a11 a12 a13 a14))
    have HY3 : Hid (OwnC (w2.alloc (.cells #[.int .i64 t1, .int .i64 t2, .int .i64 t3, .slice R1 n1 d1, .slice R2 n2 d2, .slice R3 n3 d3, .int .i64 nx, .slice G1 m1 e1, .slice G2 m2 e2, .int .i64 last, .slice H1 nl f1, .slice P2 np f2, .slice Q4 u1 f3, .slice Q5 u2 f4, .slice Q6 u3 f5] 41)) w2.heap.size [.int .i64 t1, .int .i64 t2, .int .i64 t3, .slice R1 n1 d1, .slice R2 n2 d2, .slice R3 n3 d3, .int .i64 nx, .slice G1 m1 e1, .slice G2 m2 e2, .int .i64 last, .slice H1 nl f1, .slice P2 np f2, .slice Q4 u1 f3, .slice Q5 u2 f4, .slice Q6 u3 f5]) := OwnC.new w2 [.int .i64 t1, .int .i64 t2, .int .i64 t3, .slice R1 n1 d1, .slice R2 n2 d2, .slice R3 n3 d3, .int .i64 nx, .slice G1 m1 e1, .slice G2 m2 e2, .int .i64 last, .slice H1 nl f1, .slice P2 np f2, .slice Q4 u1 f3, .slice Q5 u2 f4, .slice Q6 u3 f5] _ _ rfl
    have HX3 : Hid (OwnC (w2.alloc (.cells #[.int .i64 t1, .int .i64 t2, .int .i64 t3, .slice R1 n1 d1, .slice R2 n2 d2, .slice R3 n3 d3, .int .i64 nx, .slice G1 m1 e1, .slice G2 m2 e2, .int .i64 last, .slice H1 nl f1, .slice P2 np f2, .slice Q4 u1 f3, .slice Q5 u2 f4, .slice Q6 u3 f5] 41)) N [.int .i64 t1, .int .i64 t2, .int .i64 t3, .slice A1 n1 c1, .slice A2 n2 c2, .slice A3 n3 c3, .int .i64 nx, .slice E1 m1 k1, .slice E2 m2 k2, .int .i64 last, .slice L nl cl, .slice P np cp, .slice Q1 u1 v1, .slice Q2 u2 v2, .slice Q3 u3 v3]) := HX2.out.keep (grew_alloc _ _ _)
    have HG3 : Hid (Grew w (w2.alloc (.cells #[.int .i64 t1, .int .i64 t2, .int .i64 t3, .slice R1 n1 d1, .slice R2 n2 d2, .slice R3 n3 d3, .int .i64 nx, .slice G1 m1 e1, .slice G2 m2 e2, .int .i64 last, .slice H1 nl f1, .slice P2 np f2, .slice Q4 u1 f3, .slice Q5 u2 f4, .slice Q6 u3 f5] 41))) := grew_trans HG2.out (grew_alloc _ _ _)
    have HH3 : Hid (Grew w2 (w2.alloc (.cells #[.int .i64 t1, .int .i64 t2, .int .i64 t3, .slice R1 n1 d1, .slice R2 n2 d2, .slice R3 n3 d3, .int .i64 nx, .slice G1 m1 e1, .slice G2 m2 e2, .int .i64 last, .slice H1 nl f1, .slice P2 np f2, .slice Q4 u1 f3, .slice Q5 u2 f4, .slice Q6 u3 f5] 41))) := grew_alloc _ _ _
    have C1 := HC1.out R1 R2 R3 H1 P2 d1 d2 d3 f1 f2 (by omega) (by omega) w2 HT2.out.r HT2.out.l HT2.out.p
    have C3 := HC3.out R1 R2 R3 G1 G2 H1 P2 Q4 Q5 Q6 d1 d2 d3 e1 e2 f1 f2 f3 f4 f5 (by omega) (by omega) (by omega) w2 HT2.out.r HT2.out.l HT2.out.p HT2.out.b
    have CK := HKS.out R1 R2 R3 G1 G2 H1 P2 Q4 Q5 Q6 d1 d2 d3 e1 e2 f1 f2 f3 f4 f5 xs (by omega) (by omega) (by omega) w2 HT2.out
    clear HC1 HC3 HKS HT2 HX2 HG2
    generalize (w2.alloc (.cells #[.int .i64 t1, .int .i64 t2, .int .i64 t3, .slice R1 n1 d1, .slice R2 n2 d2, .slice R3 n3 d3, .int .i64 nx, .slice G1 m1 e1, .slice G2 m2 e2, .int .i64 last, .slice H1 nl f1, .slice P2 np f2, .slice Q4 u1 f3, .slice Q5 u2 f4, .slice Q6 u3 f5] 41)) = w3 at *
    generalize hM : w2.heap.size = M at *
    clear hM
    have y0 := HY3.out.at 0 (.int .i64 t1) rfl; have y1 := HY3.out.at 1 (.int .i64 t2) rfl; have y2 := HY3.out.at 2 (.int .i64 t3) rfl; have y3 := HY3.out.at 3 (.slice R1 n1 d1) rfl; have y4 := HY3.out.at 4 (.slice R2 n2 d2) rfl; have y5 := HY3.out.at 5 (.slice R3 n3 d3) rfl; have y6 := HY3.out.at 6 (.int .i64 nx) rfl; have y7 := HY3.out.at 7 (.slice G1 m1 e1) rfl; have y8 := HY3.out.at 8 (.slice G2 m2 e2) rfl; have y9 := HY3.out.at 9 (.int .i64 last) rfl; have y10 := HY3.out.at 10 (.slice H1 nl f1) rfl; have y11 := HY3.out.at 11 (.slice P2 np f2) rfl; have y12 := HY3.out.at 12 (.slice Q4 u1 f3) rfl; have y13 := HY3.out.at 13 (.slice Q5 u2 f4) rfl; have y14 := HY3.out.at 14 (.slice Q6 u3 f5) rfl
    go_upto_region 5 with (go_at_call 7; ((with_reducible refine (C1 _ HH3.out).mono ?_); rintro e w4 ⟨rfl, hg⟩; have HX4 := Lib.hid (HX3.out.keep hg); have HY4 := Lib.hid (HY3.out.keep hg); have HG4 := Lib.hid (grew_trans HG3.out hg); have HH4 := Lib.hid (grew_trans HH3.out hg); clear hg C1 HX3 HY3 HG3 HH3 y0 y1 y2 y3 y4 y5 y6 y7 y8 y9 y10 y11 y12 y13 y14))
    have a0 := HX4.out.at 0 (.int .i64 t1) rfl; have a1 := HX4.out.at 1 (.int .i64 t2) rfl; have a2 := HX4.out.at 2 (.int .i64 t3) rfl; have a3 := HX4.out.at 3 (.slice A1 n1 c1) rfl; have a4 := HX4.out.at 4 (.slice A2 n2 c2) rfl; have a5 := HX4.out.at 5 (.slice A3 n3 c3) rfl; have a6 := HX4.out.at 6 (.int .i64 nx) rfl; have a7 := HX4.out.at 7 (.slice E1 m1 k1) rfl; have a8 := HX4.out.at 8 (.slice E2 m2 k2) rfl; have a9 := HX4.out.at 9 (.int .i64 last) rfl; have a10 := HX4.out.at 10 (.slice L nl cl) rfl; have a11 := HX4.out.at 11 (.slice P np cp) rfl; have a12 := HX4.out.at 12 (.slice Q1 u1 v1) rfl; have a13 := HX4.out.at 13 (.slice Q2 u2 v2) rfl; have a14 := HX4.out.at 14 (.slice Q3 u3 v3) rfl
    go_upto_region 6 with (go_at_call 8; ((with_reducible refine (C2 _ HG4.out).mono ?_); rintro e w5 ⟨rfl, hg⟩; have HX5 := Lib.hid (HX4.out.keep hg); have HY5 := Lib.hid (HY4.out.keep hg); have HG5 := Lib.hid (grew_trans HG4.out hg); have HH5 := Lib.hid (grew_trans HH4.out hg); clear hg C2 HX4 HY4 HG4 HH4 a0 a1 a2 a3 a4 a5 a6 a7 a8 a9 a10 a11 a12 a13 a14))
    have y0 := HY5.out.at 0 (.int .i64 t1) rfl; have y1 := HY5.out.at 1 (.int .i64 t2) rfl; have y2 := HY5.out.at 2 (.int .i64 t3) rfl; have y3 := HY5.out.at 3 (.slice R1 n1 d1) rfl; have y4 := HY5.out.at 4 (.slice R2 n2 d2) rfl; have y5 := HY5.out.at 5 (.slice R3 n3 d3) rfl; have y6 := HY5.out.at 6 (.int .i64 nx) rfl; have y7 := HY5.out.at 7 (.slice G1 m1 e1) rfl; have y8 := HY5.out.at 8 (.slice G2 m2 e2) rfl; have y9 := HY5.out.at 9 (.int .i64 last) rfl; have y10 := HY5.out.at 10 (.slice H1 nl f1) rfl; have y11 := HY5.out.at 11 (.slice P2 np f2) rfl; have y12 := HY5.out.at 12 (.slice Q4 u1 f3) rfl; have y13 := HY5.out.at 13 (.slice Q5 u2 f4) rfl; have y14 := HY5.out.at 14 (.slice Q6 u3 f5) rfl
    go_upto_region 7 with (go_at_call 9; ((with_reducible refine (C3 _ HH5.out).mono ?_); rintro e w6 ⟨rfl, hg⟩; have HX6 := Lib.hid (HX5.out.keep hg); have HY6 := Lib.hid (HY5.out.keep hg); have HG6 := Lib.hid (grew_trans HG5.out hg); have HH6 := Lib.hid (grew_trans HH5.out hg); clear hg C3 HX5 HY5 HG5 HH5 y0 y1 y2 y3 y4 y5 y6 y7 y8 y9 y10 y11 y12 y13 y14))
    have a0 := HX6.out.at 0 (.int .i64 t1) rfl; have a1 := HX6.out.at 1 (.int .i64 t2) rfl; have a2 := HX6.out.at 2 (.int .i64 t3) rfl; have a3 := HX6.out.at 3 (.slice A1 n1 c1) rfl; have a4 := HX6.out.at 4 (.slice A2 n2 c2) rfl; have a5 := HX6.out.at 5 (.slice A3 n3 c3) rfl; have a6 := HX6.out.at 6 (.int .i64 nx) rfl; have a7 := HX6.out.at 7 (.slice E1 m1 k1) rfl; have a8 := HX6.out.at 8 (.slice E2 m2 k2) rfl; have a9 := HX6.out.at 9 (.int .i64 last) rfl; have a10 := HX6.out.at 10 (.slice L nl cl) rfl; have a11 := HX6.out.at 11 (.slice P np cp) rfl; have a12 := HX6.out.at 12 (.slice Q1 u1 v1) rfl; have a13 := HX6.out.at 13 (.slice Q2 u2 v2) rfl; have a14 := HX6.out.at 14 (.slice Q3 u3 v3) rfl
    go_upto_region 8 with (go_at_call 10; ((with_reducible refine (C4 _ HG6.out).mono ?_); rintro e w7 ⟨rfl, hg⟩; have HX7 := Lib.hid (HX6.out.keep hg); have HY7 := Lib.hid (HY6.out.keep hg); have HG7 := Lib.hid (grew_trans HG6.out hg); have HH7 := Lib.hid (grew_trans HH6.out hg); clear hg C4 HX6 HY6 HG6 HH6 a0 a1 a2 a3 a4 a5 a6 a7 a8 a9 a10 a11 a12 a13 a14))
    have a0 := HX7.out.at 0 (.int .i64 t1) rfl; have a1 := HX7.out.at 1 (.int .i64 t2) rfl; have a2 := HX7.out.at 2 (.int .i64 t3) rfl; have a3 := HX7.out.at 3 (.slice A1 n1 c1) rfl; have a4 := HX7.out.at 4 (.slice A2 n2 c2) rfl; have a5 := HX7.out.at 5 (.slice A3 n3 c3) rfl; have a6 := HX7.out.at 6 (.int .i64 nx) rfl; have a7 := HX7.out.at 7 (.slice E1 m1 k1) rfl; have a8 := HX7.out.at 8 (.slice E2 m2 k2) rfl; have a9 := HX7.out.at 9 (.int .i64 last) rfl; have a10 := HX7.out.at 10 (.slice L nl cl) rfl; have a11 := HX7.out.at 11 (.slice P np cp) rfl; have a12 := HX7.out.at 12 (.slice Q1 u1 v1) rfl; have a13 := HX7.out.at 13 (.slice Q2 u2 v2) rfl; have a14 := HX7.out.at 14 (.slice Q3 u3 v3) rfl
    have y0 := HY7.out.at 0 (.int .i64 t1) rfl; have y1 := HY7.out.at 1 (.int .i64 t2) rfl; have y2 := HY7.out.at 2 (.int .i64 t3) rfl; have y3 := HY7.out.at 3 (.slice R1 n1 d1) rfl; have y4 := HY7.out.at 4 (.slice R2 n2 d2) rfl; have y5 := HY7.out.at 5 (.slice R3 n3 d3) rfl; have y6 := HY7.out.at 6 (.int .i64 nx) rfl; have y7 := HY7.out.at 7 (.slice G1 m1 e1) rfl; have y8 := HY7.out.at 8 (.slice G2 m2 e2) rfl; have y9 := HY7.out.at 9 (.int .i64 last) rfl; have y10 := HY7.out.at 10 (.slice H1 nl f1) rfl; have y11 := HY7.out.at 11 (.slice P2 np f2) rfl; have y12 := HY7.out.at 12 (.slice Q4 u1 f3) rfl; have y13 := HY7.out.at 13 (.slice Q5 u2 f4) rfl; have y14 := HY7.out.at 14 (.slice Q6 u3 f5) rfl
    go_wp2_with (first
      | (go_at_call 11; ((with_reducible refine (CK _ HG7.out HH7.out).mono ?_); rintro e w8 ⟨rfl, hg⟩; have HG8 := Lib.hid (grew_trans HG7.out hg); clear hg CK HX7 HY7 HG7 HH7 a0 a1 a2 a3 a4 a5 a6 a7 a8 a9 a10 a11 a12 a13 a14 y0 y1 y2 y3 y4 y5 y6 y7 y8 y9 y10 y11 y12 y13 y14))
      | (go_at_call 12; ((with_reducible refine (CW _).mono ?_); rintro e w9 ⟨rfl, hg⟩; have HG9 := Lib.hid (grew_trans HG8.out hg); clear hg CW)))
    go_ret
    exact ⟨rfl, HG9.out⟩
  · clear HT0 HC1 HC2 HC3 HC4 HKS CW
    go_wp2_with (go_at_call 5; ((with_reducible refine (CH _).mono ?_); rintro e wa ⟨rfl, hg⟩; have HG1 := Lib.hid (grew_trans HG0.out hg); clear hg CH HX0 HG0 a0 a1 a2 a3 a4 a5 a6 a7 a8 a9 a10 a11 a12 a13 a14))
    go_ret
    exact ⟨rfl, HG1.out⟩
end Go.Proofs.YtodnllopokoicaaGreat.NumK
namespace Go.Proofs.YtodnllopokoicaaGreat.NumK
open Go.RowKit
set_option linter.unusedVariables false

theorem coverStands_row (w : World) {cs0 : Array Value} {s} (a1 a2 : Int) (h0 : spStZ.rd w cs0.toList s) :
    Calls Tryz.prog 3 #[.agg cs0, .int .i64 a1, .int .i64 a2] w fun e w' => e = .returned (.bool true) ∧ Grew w w' := by
  obtain ⟨A1, A2, A3, E1, E2, L, P, Q1, Q2, Q3, n1, n2, n3, c1, c2, c3, m1, m2, k1, k2, nl, cl, np, cp, u1, v1, u2, v2, u3, v3, cl4, bd5, ys, zs, e, h⟩ := state_ofZ h0
  rw [e]
  exact coverStands_walk _ _ _ _ A1 A2 A3 E1 E2 L P Q1 Q2 Q3 n1 n2 n3 c1 c2 c3 m1 m2 k1 k2 nl cl np cp u1 v1 u2 v2 u3 v3 _ _ _ _ cl4 bd5 ys zs a1 a2 w h
end Go.Proofs.YtodnllopokoicaaGreat.NumK
namespace Go.Proofs.YtodnllopokoicaaGreat.coverStands
open Go.ChangeShapes Go.WideShapes Go.ChangeAt Go.RowKit
set_option linter.unusedVariables false

theorem own : ownKnob Tryz.prog.godebug = none := by kernel_rfl
theorem laidOut : laidOutB Tryz.prog = true := by kernel_rfl

set_option maxRecDepth 100000 in
theorem lifted (os : Os) (started : os.Started) (H : Type) (enc : TypeId × Value → H) :
    ReturnsInHanded {} Tryz.checked os 3 .any (Rows.coverStandsSpec.pre6 enc Tryz.prog Tryz.f3 Rows.coverStandsRow.domain false) (Rows.coverStandsSpec.post enc Tryz.prog Tryz.f3 false true false false) := by
  refine returnsInHanded_of_change_sized (C := Tryz.checked) own started (by kernel_rfl) Tryz.func3
    (ChangeSpec.witness6 (enc := enc) (C := Tryz.checked) false ⟨#[], #[.agg #[.int .i64 0, .int .i64 0, .int .i64 0, .slice none 0 0, .slice none 0 0, .slice none 0 0, .int .i64 0, .slice none 0 0, .slice none 0 0, .int .i64 0, .slice none 0 0, .slice none 0 0, .slice none 0 0, .slice none 0 0, .slice none 0 0], .int .i64 0, .int .i64 0], []⟩ 8 (by kernel_rfl) (by kernel_rfl) (by kernel_rfl) (by kernel_rfl)) ?_
  intro W base args ds gs before hval0 hW hcnd hsz0 _
  have hval : ∀ (j : Nat) t v, Tryz.f3.params[j]? = some t → args[j]? = some v → Value.okWide Tryz.prog W .any base t v := hval0
  have hW' := hW
  obtain ⟨p, q, hA0, hV, rfl, hfz, hnd⟩ := hW
  have hA : DataW.TrodAll enc Tryz.prog W 0 (fun _ => true) true Tryz.f3.params.toList args.toList ds p := hA0
  have hsz : (DataW.weightsEach Tryz.prog (Tryz.f3.params.toList ++ Rows.coverStandsSpec.plain.varTypes Tryz.prog) (ds ++ gs)).all (· ≤ reachBytes) = true := hsz0
  rw [Tryz.params3] at hA hval hsz
  obtain ⟨v0, vs0, d0, ds0, p0, q0, hargs, rfl, rfl, h0, r0⟩ := trodAll_cons hA
  obtain ⟨v1, vs1, d1, ds1, p1, q1, rfl, rfl, rfl, h1, r1⟩ := trodAll_cons r0
  obtain ⟨v2, vs2, d2, ds2, p2, q2, rfl, rfl, rfl, h2, r2⟩ := trodAll_cons r1
  obtain ⟨rfl, rfl, rfl⟩ := trodAll_nil r2
  obtain rfl : args = #[v0, v1, v2] := by cases args; simp_all
  obtain ⟨rfl, rfl⟩ := trodVars_none hV
  have k0 := h0
  have lt0 : ∀ x ∈ p0, x.block < W.heap.size := by obtain ⟨m, hm⟩ := k0; exact DataW.trod_lt m _ _ _ hm
  obtain ⟨cs0, x0, rfl, e0⟩ := NumK.arg_structZ Tryz.underlying41 NumK.opensZ_state (hval 0 41 v0 rfl rfl) h0 (j := 0) hsz rfl rfl
  obtain ⟨a1, rfl, rfl, rfl, w1⟩ := open_int Tryz.underlying3 (hval 1 3 v1 rfl rfl) h1
  obtain ⟨a2, rfl, rfl, rfl, w2⟩ := open_int Tryz.underlying3 (hval 2 3 v2 rfl rfl) h2
  clear hA0 hval0 hsz hsz0
  refine (NumK.coverStands_row W a1 a2 e0).mono fun e W' ⟨he, bel⟩ => ?_
  subst he
  exact ⟨_, rfl, _, _, _, [], _, [], hW', trodAll_mk1 (shut_bool Tryz.underlying4 _), (trodAll_cons_mk (Below.trod laidOut (by kernel_rfl) (of_decide_eq_true (by kernel_rfl)) k0 bel lt0) (trodAll_cons_mk (shut_int Tryz.underlying3 w1) (trodAll_cons_mk (shut_int Tryz.underlying3 w2) trodAll_mk0))), rfl, bel.frame _, fun h => by cases h⟩

theorem over : Rows.coverStandsRow.holds Tryz.pinned (OpenSpec.ofChange Rows.coverStandsSpec) :=
  OpenClaim.holds_of_wide 3 Tryz.f3 rfl rfl rfl rfl rfl rfl rfl ⟨rfl, rfl, rfl, rfl, rfl⟩ rfl rfl rfl rfl rfl (by kernel_rfl) Tryz.func3 (by kernel_rfl)
    (of_decide_eq_true (by kernel_rfl)) (by unfold Func.isWrapper; first | (rw [if_pos (by decide +kernel)]; kernel_rfl) | (rw [if_neg (by decide +kernel)]; exact ⟨rfl, rfl⟩))
    (fun os started H enc _ => lifted os started H enc)

/-! ### the statement -/
theorem proved : Rows.CoverStandsSaid := over
end Go.Proofs.YtodnllopokoicaaGreat.coverStands
