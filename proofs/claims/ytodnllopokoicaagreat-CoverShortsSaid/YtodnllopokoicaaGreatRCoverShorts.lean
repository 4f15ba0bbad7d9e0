/-
  For every state, member and currency: what a member lacks is what its margin asks above its cover, or nothing, and 0 where it is not told; with so much cash more, where that can be told, it lacks nothing; states with long rows, and lacks above 2^60, the statement lets by.
-/
import Derived.Test.YtodnllopokoicaaGreatRG30
import Derived.Test.YtodnllopokoicaaGreatRG48
import Derived.Test.YtodnllopokoicaaGreatRG49
import Derived.Test.YtodnllopokoicaaGreatRG47
import Derived.Test.YtodnllopokoicaaGreatRG51
import Derived.Test.YtodnllopokoicaaGreatRows
import Derived.WalkKit
import Derived.ProofKit
import Derived.OpenShut
import Derived.ShutString
import Derived.ChangeOld
import Derived.Below
import Derived.Carry
import Derived.SizedLaws
namespace Go.Proofs.YtodnllopokoicaaGreat.NumK
open Go.RowKit
set_option linter.unusedVariables false

theorem shorts_facts {last who cur : Int} {lg : List Lg} {r : Rl} {pl : List Pg} {b : Bk} (h : (shortE (covE (ledgerB last lg) (ofL lg (2, who, cur)) r who cur pl) (covN (ledgerB last lg) (ofL lg (2, who, cur)) r who cur pl) (rightB b) (margE r who cur b.2.2) (margN r who cur b.2.2)) = 0) :
    (covE (ledgerB last lg) (ofL lg (2, who, cur)) r who cur pl) = 0 ∧ (margE r who cur b.2.2) = 0 ∧ (-4611686018427387904 ≤ (covN (ledgerB last lg) (ofL lg (2, who, cur)) r who cur pl) ∧ (covN (ledgerB last lg) (ofL lg (2, who, cur)) r who cur pl) ≤ 4611686018427387904) ∧ (0 ≤ (margN r who cur b.2.2) ∧ (margN r who cur b.2.2) ≤ 4611686018427387904 ∧ (margN r who cur b.2.2) - (covN (ledgerB last lg) (ofL lg (2, who, cur)) r who cur pl) ≤ 4611686018427387904) ∧ (shortN (covE (ledgerB last lg) (ofL lg (2, who, cur)) r who cur pl) (covN (ledgerB last lg) (ofL lg (2, who, cur)) r who cur pl) (rightB b) (margE r who cur b.2.2) (margN r who cur b.2.2)) = (if (margN r who cur b.2.2) - (covN (ledgerB last lg) (ofL lg (2, who, cur)) r who cur pl) < 0 then 0 else (margN r who cur b.2.2) - (covN (ledgerB last lg) (ofL lg (2, who, cur)) r who cur pl)) ∧ ∀ i, i < lg.length → -4611686018427387904 ≤ (lg.getD i lg0).2 ∧ (lg.getD i lg0).2 ≤ 4611686018427387904 := by
  obtain ⟨h1, -, h3, h4⟩ := shortE_iff.1 h
  refine ⟨h1, h3, (isMoney_iff _).1 (cov_money h1), ⟨(marg_money h3).1, (marg_money h3).2, h4⟩, by unfold shortN; rw [if_pos h], fun i hi => ?_⟩
  have hr := (ledger_parts (covE_iff.1 h1).1).2.1
  have hs := (rightLg_iff lg).1 hr i hi
  unfold stepB okB okL at hs
  simp only [Bool.and_eq_true] at hs
  exact (isMoney_iff _).1 hs.1.1.1.2
theorem shorts_paid {last who cur : Int} {lg : List Lg} {r : Rl} {pl : List Pg} {b : Bk} (x : Int) (hx : x = (shortN (covE (ledgerB last lg) (ofL lg (2, who, cur)) r who cur pl) (covN (ledgerB last lg) (ofL lg (2, who, cur)) r who cur pl) (rightB b) (margE r who cur b.2.2) (margN r who cur b.2.2))) (h : (shortE (covE (ledgerB last lg) (ofL lg (2, who, cur)) r who cur pl) (covN (ledgerB last lg) (ofL lg (2, who, cur)) r who cur pl) (rightB b) (margE r who cur b.2.2) (margN r who cur b.2.2)) = 0) (h2 : (shortE (covE (ledgerB last (paidPd (1, 0, cur) (2, who, cur) x lg)) (ofL (paidPd (1, 0, cur) (2, who, cur) x lg) (2, who, cur)) r who cur pl) (covN (ledgerB last (paidPd (1, 0, cur) (2, who, cur) x lg)) (ofL (paidPd (1, 0, cur) (2, who, cur) x lg) (2, who, cur)) r who cur pl) (rightB b) (margE r who cur b.2.2) (margN r who cur b.2.2)) = 0) : (shortN (covE (ledgerB last (paidPd (1, 0, cur) (2, who, cur) x lg)) (ofL (paidPd (1, 0, cur) (2, who, cur) x lg) (2, who, cur)) r who cur pl) (covN (ledgerB last (paidPd (1, 0, cur) (2, who, cur) x lg)) (ofL (paidPd (1, 0, cur) (2, who, cur) x lg) (2, who, cur)) r who cur pl) (rightB b) (margE r who cur b.2.2) (margN r who cur b.2.2)) = 0 := by
  have hl := (ledger_parts (covE_iff.1 (shortE_iff.1 h).1).1).2.1
  have hp := (ledger_parts (covE_iff.1 (shortE_iff.1 h2).1).1).2.1
  have e := paid_of (a := (1, 0, cur)) (b := (2, who, cur)) (by intro h; exact absurd (Prod.mk.inj h).1 (by decide)) x hl hp
  rw [e] at h2 ⊢
  exact short_paid h hx.symm h2
theorem paid_len (a b : Ac) (n : Int) (l : List Lg) : (paidPd a b n l).length ≤ l.length * 3 + 2 := by
  have h1 := put_len a b n none (runPd a b n l)
  have h2 := run_len a b n l
  unfold paidPd; omega

set_option maxRecDepth 100000 in
set_option maxHeartbeats 16000000 in
theorem coverShorts_walk (t1 t2 t3 last : Int) (A1 A2 A3 E1 E2 L P Q1 Q2 Q3 : Option Addr) (n1 n2 n3 c1 c2 c3 m1 m2 k1 k2 nl cl np cp u1 v1 u2 v2 u3 v3 : Nat) (r : Rl) (b : Bk) (lg : List Lg) (pl : List Pg) (cl4 : List C4) (bd5 : List B5) (ys : List Se7) (zs : List (List D3 × List F8)) (who cur : Int) (w : World)
    (h : InZ w r b lg pl cl4 bd5 ys zs A1 A2 A3 E1 E2 L P Q1 Q2 Q3 n1 n2 n3 c1 c2 c3 m1 m2 k1 k2 nl cl np cp u1 v1 u2 v2 u3 v3) :
    Calls Tryz.prog 4 #[stV t1 t2 t3 b.1 last A1 A2 A3 E1 E2 L P Q1 Q2 Q3 n1 n2 n3 c1 c2 c3 m1 m2 k1 k2 nl cl np cp u1 v1 u2 v2 u3 v3, .int .i64 who, .int .i64 cur] w fun e w' => e = .returned (.bool true) ∧ Grew w w' := by
  have HLN := Lib.hid h.l.len
  have CW := fun w => wakes16_any w
  have CH := fun w => heavy16_any t1 t2 t3 b.1 last A1 A2 A3 E1 E2 L P Q1 Q2 Q3 n1 n2 n3 c1 c2 c3 m1 m2 k1 k2 nl cl np cp u1 v1 u2 v2 u3 v3 w
  have HHN := Lib.hid (@heavyS_no n1 n2 n3 m1 m2 nl np u1 u2 u3)
  generalize heavyS n1 n2 n3 m1 m2 nl np u1 u2 u3 = HV at *
  have HT0 := Lib.hid (fun (p1 : n1 ≤ 1000 ∧ n2 ≤ 1000 ∧ n3 ≤ 1000) (p2 : m1 ≤ 1000 ∧ m2 ≤ 1000) (p3 : nl ≤ 1000 ∧ np ≤ 1000 ∧ u1 ≤ 1000 ∧ u2 ≤ 1000 ∧ u3 ≤ 1000) w' (g : Grew w w') => twinState_n t1 t2 t3 last A1 A2 A3 E1 E2 L P Q1 Q2 Q3 n1 n2 n3 c1 c2 c3 m1 m2 k1 k2 nl cl np cp u1 v1 u2 v2 u3 v3 r b lg pl cl4 bd5 ys zs w' ⟨h.r.keep g, h.b.keep g, h.l.keep g, h.lk, h.p.keep g, h.pk, h.q1.keep g, h.q1k, h.q2.keep g, h.q2k, h.q3.keep g, fun i hi => (h.si i hi).keep g⟩ p1 p2 p3)
  have HC1 := Lib.hid (fun (p1 : n1 ≤ 1000000 ∧ n2 ≤ 1000000 ∧ n3 ≤ 1000000) (p2 : m1 ≤ 90000 ∧ m2 ≤ 90000) (p3 : nl ≤ 90000 ∧ np ≤ 90000) w' (g : Grew w w') => short_any t1 t2 t3 last b A1 A2 A3 E1 E2 L P Q1 Q2 Q3 n1 n2 n3 c1 c2 c3 m1 m2 k1 k2 nl cl np cp u1 v1 u2 v2 u3 v3 lg r pl who cur w' (h.l.keep g) p3.1 (h.r.rows.keep g) p1 (h.b.keep g) p2 (h.p.keep g) p3.2)
  have HC2 := Lib.hid (fun (p1 : n1 ≤ 1000000 ∧ n2 ≤ 1000000 ∧ n3 ≤ 1000000) (p3 : nl ≤ 90000 ∧ np ≤ 90000) w' (g : Grew w w') => cof_any last L P A1 A2 A3 nl cl np cp n1 n2 n3 c1 c2 c3 lg r pl who cur w' (h.l.keep g) p3.1 (h.r.rows.keep g) p1 (h.p.keep g) (by omega))
  have HC3 := Lib.hid (fun (p1 : n1 ≤ 1000000 ∧ n2 ≤ 1000000 ∧ n3 ≤ 1000000) (p2 : m1 ≤ 90000 ∧ m2 ≤ 90000) w' (g : Grew w w') => rmargin_any r A1 A2 A3 E2 n1 n2 n3 c1 c2 c3 m2 k2 who cur b.2.2 w' (h.r.rows.keep g) p1 (h.b.p.keep g) (by omega))
  have HC4 := Lib.hid (fun (p3 : nl ≤ 1000) (x : Int) (px : 0 ≤ x ∧ x ≤ 1152921504606846976) (pb : ∀ i, i < nl → -4611686018427387904 ≤ (lg.getD i lg0).2 ∧ (lg.getD i lg0).2 ≤ 4611686018427387904) w' (g : Grew w w') => paid_any last L nl cl lg (1, 0, cur) (2, who, cur) x w' (h.l.keep g) p3 px pb)
  have HC5 := Lib.hid (fun (R1 R2 R3 G1 G2 H1 P2 Q4 Q5 Q6 : Option Addr) (d1 d2 d3 e1 e2 f1 f2 f3 f4 f5 : Nat) (x : Int) (ln : Nat) (pl5 : ln ≤ 90000) (p1 : n1 ≤ 1000000 ∧ n2 ≤ 1000000 ∧ n3 ≤ 1000000) (p2 : m1 ≤ 90000 ∧ m2 ≤ 90000) (p3 : np ≤ 90000) (w5 : World) (g1 : Rows3 w5 r R1 R2 R3 n1 n2 n3) (g3 : RowE enPg w5 P2 np pl) (g4 : InB w5 b G1 G2 m1 m2 e1 e2) w' (g : Grew w5 w') (g2 : RowE enLg w' H1 ln (paidPd (1, 0, cur) (2, who, cur) x lg)) => short_any t1 t2 t3 last b R1 R2 R3 G1 G2 H1 P2 Q4 Q5 Q6 n1 n2 n3 d1 d2 d3 m1 m2 e1 e2 ln f1 np f2 u1 f3 u2 f4 u3 f5 (paidPd (1, 0, cur) (2, who, cur) x lg) r pl who cur w' g2 pl5 (g1.keep g) p1 (g4.keep g) p2 (g3.keep g) p3)
  have HF := Lib.hid (@shorts_facts last who cur lg r pl b)
  have HF2 := Lib.hid (@shorts_paid last who cur lg r pl b)
  have HF0 : Hid ((shortE (covE (ledgerB last lg) (ofL lg (2, who, cur)) r who cur pl) (covN (ledgerB last lg) (ofL lg (2, who, cur)) r who cur pl) (rightB b) (margE r who cur b.2.2) (margN r who cur b.2.2)) ≠ 0 → (shortN (covE (ledgerB last lg) (ofL lg (2, who, cur)) r who cur pl) (covN (ledgerB last lg) (ofL lg (2, who, cur)) r who cur pl) (rightB b) (margE r who cur b.2.2) (margN r who cur b.2.2)) = 0) := fun hne => by unfold shortN; rw [if_neg hne]
  generalize (shortN (covE (ledgerB last lg) (ofL lg (2, who, cur)) r who cur pl) (covN (ledgerB last lg) (ofL lg (2, who, cur)) r who cur pl) (rightB b) (margE r who cur b.2.2) (margN r who cur b.2.2)) = sn at *
  have HF3 : Hid (∀ x, x = sn → (shortE (covE (ledgerB last lg) (ofL lg (2, who, cur)) r who cur pl) (covN (ledgerB last lg) (ofL lg (2, who, cur)) r who cur pl) (rightB b) (margE r who cur b.2.2) (margN r who cur b.2.2)) = 0 → (shortE (covE (ledgerB last (paidPd (1, 0, cur) (2, who, cur) x lg)) (ofL (paidPd (1, 0, cur) (2, who, cur) x lg) (2, who, cur)) r who cur pl) (covN (ledgerB last (paidPd (1, 0, cur) (2, who, cur) x lg)) (ofL (paidPd (1, 0, cur) (2, who, cur) x lg) (2, who, cur)) r who cur pl) (rightB b) (margE r who cur b.2.2) (margN r who cur b.2.2)) = 0 → (shortN (covE (ledgerB last (paidPd (1, 0, cur) (2, who, cur) x lg)) (ofL (paidPd (1, 0, cur) (2, who, cur) x lg) (2, who, cur)) r who cur pl) (covN (ledgerB last (paidPd (1, 0, cur) (2, who, cur) x lg)) (ofL (paidPd (1, 0, cur) (2, who, cur) x lg) (2, who, cur)) r who cur pl) (rightB b) (margE r who cur b.2.2) (margN r who cur b.2.2)) = 0) := fun x hx h1 h2 => HF2.out x hx h1 h2
  clear HF2
  generalize (shortE (covE (ledgerB last lg) (ofL lg (2, who, cur)) r who cur pl) (covN (ledgerB last lg) (ofL lg (2, who, cur)) r who cur pl) (rightB b) (margE r who cur b.2.2) (margN r who cur b.2.2)) = se at *
  generalize (covE (ledgerB last lg) (ofL lg (2, who, cur)) r who cur pl) = ce at *
  generalize (covN (ledgerB last lg) (ofL lg (2, who, cur)) r who cur pl) = cn at *
  clear h
  have HLL : Hid (∀ x, (paidPd (1, 0, cur) (2, who, cur) x lg).length ≤ lg.length * 3 + 2) := fun x => paid_len _ _ x lg
  dsimp only at HC4
  generalize b.1 = nx at *
  dsimp only [stV, ldV, rlV, vBk] at *
  have HX0 : Hid (OwnC (w.alloc (.cells #[.int .i64 t1, .int .i64 t2, .int .i64 t3, .slice A1 n1 c1, .slice A2 n2 c2, .slice A3 n3 c3, .int .i64 nx, .slice E1 m1 k1, .slice E2 m2 k2, .int .i64 last, .slice L nl cl, .slice P np cp, .slice Q1 u1 v1, .slice Q2 u2 v2, .slice Q3 u3 v3] 41)) w.heap.size [.int .i64 t1, .int .i64 t2, .int .i64 t3, .slice A1 n1 c1, .slice A2 n2 c2, .slice A3 n3 c3, .int .i64 nx, .slice E1 m1 k1, .slice E2 m2 k2, .int .i64 last, .slice L nl cl, .slice P np cp, .slice Q1 u1 v1, .slice Q2 u2 v2, .slice Q3 u3 v3]) := OwnC.new w [.int .i64 t1, .int .i64 t2, .int .i64 t3, .slice A1 n1 c1, .slice A2 n2 c2, .slice A3 n3 c3, .int .i64 nx, .slice E1 m1 k1, .slice E2 m2 k2, .int .i64 last, .slice L nl cl, .slice P np cp, .slice Q1 u1 v1, .slice Q2 u2 v2, .slice Q3 u3 v3] _ _ rfl
  have HG0 : Hid (Grew w (w.alloc (.cells #[.int .i64 t1, .int .i64 t2, .int .i64 t3, .slice A1 n1 c1, .slice A2 n2 c2, .slice A3 n3 c3, .int .i64 nx, .slice E1 m1 k1, .slice E2 m2 k2, .int .i64 last, .slice L nl cl, .slice P np cp, .slice Q1 u1 v1, .slice Q2 u2 v2, .slice Q3 u3 v3] 41))) := grew_alloc _ _ _
  go_enter Tryz.func4, Tryz.ntmps4
  go_upto_region 1 with (fail)
  generalize (w.alloc (.cells #[.int .i64 t1, .int .i64 t2, .int .i64 t3, .slice A1 n1 c1, .slice A2 n2 c2, .slice A3 n3 c3, .int .i64 nx, .slice E1 m1 k1, .slice E2 m2 k2, .int .i64 last, .slice L nl cl, .slice P np cp, .slice Q1 u1 v1, .slice Q2 u2 v2, .slice Q3 u3 v3] 41)) = w0 at *
  generalize hN : w.heap.size = N at *
  clear hN
  have a0 := HX0.out.at 0 (.int .i64 t1) rfl; have a1 := HX0.out.at 1 (.int .i64 t2) rfl; have a2 := HX0.out.at 2 (.int .i64 t3) rfl; have a3 := HX0.out.at 3 (.slice A1 n1 c1) rfl; have a4 := HX0.out.at 4 (.slice A2 n2 c2) rfl; have a5 := HX0.out.at 5 (.slice A3 n3 c3) rfl; have a6 := HX0.out.at 6 (.int .i64 nx) rfl; have a7 := HX0.out.at 7 (.slice E1 m1 k1) rfl; have a8 := HX0.out.at 8 (.slice E2 m2 k2) rfl; have a9 := HX0.out.at 9 (.int .i64 last) rfl; have a10 := HX0.out.at 10 (.slice L nl cl) rfl; have a11 := HX0.out.at 11 (.slice P np cp) rfl; have a12 := HX0.out.at 12 (.slice Q1 u1 v1) rfl; have a13 := HX0.out.at 13 (.slice Q2 u2 v2) rfl; have a14 := HX0.out.at 14 (.slice Q3 u3 v3) rfl
  cases HV
  · obtain ⟨⟨g1, g2, g3⟩, ⟨g4, g5⟩, g6, g7, g8, g9, g10⟩ := HHN.out rfl
    clear HHN
    have CT := HT0.out (by omega) (by omega) (by omega)
    have C1 := HC1.out (by omega) (by omega) (by omega)
    have C2 := HC2.out (by omega) (by omega)
    have C3 := HC3.out (by omega) (by omega)
    clear HT0 HC1 HC2 HC3
    go_upto_region 3 with (go_at_call 5; ((with_reducible refine (CH _).mono ?_); rintro e wa ⟨rfl, hg⟩; have HX1 := Lib.hid (HX0.out.keep hg); have HG1 := Lib.hid (grew_trans HG0.out hg); clear hg CH HX0 HG0 a0 a1 a2 a3 a4 a5 a6 a7 a8 a9 a10 a11 a12 a13 a14))
    have a0 := HX1.out.at 0 (.int .i64 t1) rfl; have a1 := HX1.out.at 1 (.int .i64 t2) rfl; have a2 := HX1.out.at 2 (.int .i64 t3) rfl; have a3 := HX1.out.at 3 (.slice A1 n1 c1) rfl; have a4 := HX1.out.at 4 (.slice A2 n2 c2) rfl; have a5 := HX1.out.at 5 (.slice A3 n3 c3) rfl; have a6 := HX1.out.at 6 (.int .i64 nx) rfl; have a7 := HX1.out.at 7 (.slice E1 m1 k1) rfl; have a8 := HX1.out.at 8 (.slice E2 m2 k2) rfl; have a9 := HX1.out.at 9 (.int .i64 last) rfl; have a10 := HX1.out.at 10 (.slice L nl cl) rfl; have a11 := HX1.out.at 11 (.slice P np cp) rfl; have a12 := HX1.out.at 12 (.slice Q1 u1 v1) rfl; have a13 := HX1.out.at 13 (.slice Q2 u2 v2) rfl; have a14 := HX1.out.at 14 (.slice Q3 u3 v3) rfl
    go_upto_region 4 with (go_at_call 9; ((with_reducible refine (C1 _ HG1.out).mono ?_); rintro e w2 ⟨rfl, hg⟩; have HX2 := Lib.hid (HX1.out.keep hg); have HG2 := Lib.hid (grew_trans HG1.out hg); clear hg C1 HX1 HG1 a0 a1 a2 a3 a4 a5 a6 a7 a8 a9 a10 a11 a12 a13 a14))
    have a0 := HX2.out.at 0 (.int .i64 t1) rfl; have a1 := HX2.out.at 1 (.int .i64 t2) rfl; have a2 := HX2.out.at 2 (.int .i64 t3) rfl; have a3 := HX2.out.at 3 (.slice A1 n1 c1) rfl; have a4 := HX2.out.at 4 (.slice A2 n2 c2) rfl; have a5 := HX2.out.at 5 (.slice A3 n3 c3) rfl; have a6 := HX2.out.at 6 (.int .i64 nx) rfl; have a7 := HX2.out.at 7 (.slice E1 m1 k1) rfl; have a8 := HX2.out.at 8 (.slice E2 m2 k2) rfl; have a9 := HX2.out.at 9 (.int .i64 last) rfl; have a10 := HX2.out.at 10 (.slice L nl cl) rfl; have a11 := HX2.out.at 11 (.slice P np cp) rfl; have a12 := HX2.out.at 12 (.slice Q1 u1 v1) rfl; have a13 := HX2.out.at 13 (.slice Q2 u2 v2) rfl; have a14 := HX2.out.at 14 (.slice Q3 u3 v3) rfl
    go_upto_region 5 with (go_at_call 7; ((with_reducible refine (C2 _ HG2.out).mono ?_); rintro e w3 ⟨rfl, hg⟩; have HX3 := Lib.hid (HX2.out.keep hg); have HG3 := Lib.hid (grew_trans HG2.out hg); clear hg C2 HX2 HG2 a0 a1 a2 a3 a4 a5 a6 a7 a8 a9 a10 a11 a12 a13 a14))
    have a0 := HX3.out.at 0 (.int .i64 t1) rfl; have a1 := HX3.out.at 1 (.int .i64 t2) rfl; have a2 := HX3.out.at 2 (.int .i64 t3) rfl; have a3 := HX3.out.at 3 (.slice A1 n1 c1) rfl; have a4 := HX3.out.at 4 (.slice A2 n2 c2) rfl; have a5 := HX3.out.at 5 (.slice A3 n3 c3) rfl; have a6 := HX3.out.at 6 (.int .i64 nx) rfl; have a7 := HX3.out.at 7 (.slice E1 m1 k1) rfl; have a8 := HX3.out.at 8 (.slice E2 m2 k2) rfl; have a9 := HX3.out.at 9 (.int .i64 last) rfl; have a10 := HX3.out.at 10 (.slice L nl cl) rfl; have a11 := HX3.out.at 11 (.slice P np cp) rfl; have a12 := HX3.out.at 12 (.slice Q1 u1 v1) rfl; have a13 := HX3.out.at 13 (.slice Q2 u2 v2) rfl; have a14 := HX3.out.at 14 (.slice Q3 u3 v3) rfl
    by_cases hse : se = 0
    · obtain ⟨rfl, hme, ⟨b1, b2⟩, ⟨b3, b4, b5⟩, hsn, hbal⟩ := HF.out hse
      have HBAL : Hid (∀ i, i < nl → -4611686018427387904 ≤ (lg.getD i lg0).2 ∧ (lg.getD i lg0).2 ≤ 4611686018427387904) := by rw [← HLN.out]; exact hbal
      have HF4 := Lib.hid (fun x hx => HF3.out x hx hse)
      clear HF HF0 HF3 hbal
      subst hse
      rw [hme] at C3
      clear hme
      generalize (margN r who cur b.2.2) = mn at *
      have hn0 : ¬ sn < 0 := by rw [hsn]; split <;> omega
      have hw1 : IntKind.i64.wrap (mn - cn) = mn - cn := by rw [IntKind.wrap_i64]; omega
      have HSN := Lib.hid hsn
      clear hsn
      go_upto_region 10 with (go_at_call 13; ((with_reducible refine (C3 _ HG3.out).mono ?_); rintro e w4 ⟨rfl, hg⟩; have HX4 := Lib.hid (HX3.out.keep hg); have HG4 := Lib.hid (grew_trans HG3.out hg); clear hg C3 HX3 HG3 a0 a1 a2 a3 a4 a5 a6 a7 a8 a9 a10 a11 a12 a13 a14))
      by_cases hd : mn - cn ≤ 0
      · obtain rfl : sn = 0 := by rw [HSN.out]; split <;> omega
        have hm1 : (if mn - cn < 0 then 0 else mn - cn) = 0 := HSN.out.symm
        have hm2 : max (mn - cn) 0 = 0 := by omega
        clear HSN HF4 HBAL HC4 HC5 CT hn0
        go_wp2_with (go_at_call 12; ((with_reducible refine (CW _).mono ?_); rintro e w9 ⟨rfl, hg⟩; have HG9 := Lib.hid (grew_trans HG4.out hg); clear hg CW))
        go_ret
        exact ⟨rfl, HG9.out⟩
      · have hsn2 : mn - cn = sn := by rw [HSN.out]; split <;> omega
        have hp0 : ¬ sn = 0 := by omega
        have hp1 : ¬ sn ≤ 0 := by omega
        have hm2 : max sn 0 = sn := by omega
        rw [hsn2] at hw1
        clear HSN
        by_cases hc0 : sn > 1152921504606846976
        · clear HF4 HBAL HC4 HC5 CT
          go_wp2_with (go_at_call 12; ((with_reducible refine (CW _).mono ?_); rintro e w9 ⟨rfl, hg⟩; have HG9 := Lib.hid (grew_trans HG4.out hg); clear hg CW))
          go_ret
          exact ⟨rfl, HG9.out⟩
        · skip
          by_cases hc1 : who < 1
          · clear HF4 HBAL HC4 HC5 CT
            go_wp2_with (go_at_call 12; ((with_reducible refine (CW _).mono ?_); rintro e w9 ⟨rfl, hg⟩; have HG9 := Lib.hid (grew_trans HG4.out hg); clear hg CW))
            go_ret
            exact ⟨rfl, HG9.out⟩
          · skip
            by_cases hc2 : who > 16
            · clear HF4 HBAL HC4 HC5 CT
              go_wp2_with (go_at_call 12; ((with_reducible refine (CW _).mono ?_); rintro e w9 ⟨rfl, hg⟩; have HG9 := Lib.hid (grew_trans HG4.out hg); clear hg CW))
              go_ret
              exact ⟨rfl, HG9.out⟩
            · skip
              by_cases hc3 : cur < 0
              · clear HF4 HBAL HC4 HC5 CT
                go_wp2_with (go_at_call 12; ((with_reducible refine (CW _).mono ?_); rintro e w9 ⟨rfl, hg⟩; have HG9 := Lib.hid (grew_trans HG4.out hg); clear hg CW))
                go_ret
                exact ⟨rfl, HG9.out⟩
              · skip
                by_cases hc4 : cur ≥ 3
                · clear HF4 HBAL HC4 HC5 CT
                  go_wp2_with (go_at_call 12; ((with_reducible refine (CW _).mono ?_); rintro e w9 ⟨rfl, hg⟩; have HG9 := Lib.hid (grew_trans HG4.out hg); clear hg CW))
                  go_ret
                  exact ⟨rfl, HG9.out⟩
                · skip
                  go_upto_region 14 with (fail)
                  have a0 := HX4.out.at 0 (.int .i64 t1) rfl; have a1 := HX4.out.at 1 (.int .i64 t2) rfl; have a2 := HX4.out.at 2 (.int .i64 t3) rfl; have a3 := HX4.out.at 3 (.slice A1 n1 c1) rfl; have a4 := HX4.out.at 4 (.slice A2 n2 c2) rfl; have a5 := HX4.out.at 5 (.slice A3 n3 c3) rfl; have a6 := HX4.out.at 6 (.int .i64 nx) rfl; have a7 := HX4.out.at 7 (.slice E1 m1 k1) rfl; have a8 := HX4.out.at 8 (.slice E2 m2 k2) rfl; have a9 := HX4.out.at 9 (.int .i64 last) rfl; have a10 := HX4.out.at 10 (.slice L nl cl) rfl; have a11 := HX4.out.at 11 (.slice P np cp) rfl; have a12 := HX4.out.at 12 (.slice Q1 u1 v1) rfl; have a13 := HX4.out.at 13 (.slice Q2 u2 v2) rfl; have a14 := HX4.out.at 14 (.slice Q3 u3 v3) rfl
                  go_upto_region 15 with (go_at_call 6; ((with_reducible refine (CT _ HG4.out).mono ?_); rintro e w5 ⟨R1, R2, R3, G1, G2, H1, P2, Q4, Q5, Q6, d1, d2, d3, e1, e2, f1, f2, f3, f4, f5, xs, rfl, ht, hg⟩; have HT5 := Lib.hid ht; have HX5 := Lib.hid (HX4.out.keep hg); have HG5 := Lib.hid (grew_trans HG4.out hg); clear hg ht CT HX4 HG4 a0 a1 a2 a3 a4 a5 a6 a7 a8 a9 a10 a11 a12 a13 a14))
                  have HY6 : Hid (OwnC (w5.alloc (.cells #[.int .i64 t1, .int .i64 t2, .int .i64 t3, .slice R1 n1 d1, .slice R2 n2 d2, .slice R3 n3 d3, .int .i64 nx, .slice G1 m1 e1, .slice G2 m2 e2, .int .i64 last, .slice H1 nl f1, .slice P2 np f2, .slice Q4 u1 f3, .slice Q5 u2 f4, .slice Q6 u3 f5] 41)) w5.heap.size [.int .i64 t1, .int .i64 t2, .int .i64 t3, .slice R1 n1 d1, .slice R2 n2 d2, .slice R3 n3 d3, .int .i64 nx, .slice G1 m1 e1, .slice G2 m2 e2, .int .i64 last, .slice H1 nl f1, .slice P2 np f2, .slice Q4 u1 f3, .slice Q5 u2 f4, .slice Q6 u3 f5]) := OwnC.new w5 [.int .i64 t1, .int .i64 t2, .int .i64 t3, .slice R1 n1 d1, .slice R2 n2 d2, .slice R3 n3 d3, .int .i64 nx, .slice G1 m1 e1, .slice G2 m2 e2, .int .i64 last, .slice H1 nl f1, .slice P2 np f2, .slice Q4 u1 f3, .slice Q5 u2 f4, .slice Q6 u3 f5] _ _ rfl
                  have HX6 : Hid (OwnC (w5.alloc (.cells #[.int .i64 t1, .int .i64 t2, .int .i64 t3, .slice R1 n1 d1, .slice R2 n2 d2, .slice R3 n3 d3, .int .i64 nx, .slice G1 m1 e1, .slice G2 m2 e2, .int .i64 last, .slice H1 nl f1, .slice P2 np f2, .slice Q4 u1 f3, .slice Q5 u2 f4, .slice Q6 u3 f5] 41)) N [.int .i64 t1, .int .i64 t2, .int .i64 t3, .slice A1 n1 c1, .slice A2 n2 c2, .slice A3 n3 c3, .int .i64 nx, .slice E1 m1 k1, .slice E2 m2 k2, .int .i64 last, .slice L nl cl, .slice P np cp, .slice Q1 u1 v1, .slice Q2 u2 v2, .slice Q3 u3 v3]) := HX5.out.keep (grew_alloc _ _ _)
                  have HG6 : Hid (Grew w (w5.alloc (.cells #[.int .i64 t1, .int .i64 t2, .int .i64 t3, .slice R1 n1 d1, .slice R2 n2 d2, .slice R3 n3 d3, .int .i64 nx, .slice G1 m1 e1, .slice G2 m2 e2, .int .i64 last, .slice H1 nl f1, .slice P2 np f2, .slice Q4 u1 f3, .slice Q5 u2 f4, .slice Q6 u3 f5] 41))) := grew_trans HG5.out (grew_alloc _ _ _)
                  have HH6 : Hid (Grew w5 (w5.alloc (.cells #[.int .i64 t1, .int .i64 t2, .int .i64 t3, .slice R1 n1 d1, .slice R2 n2 d2, .slice R3 n3 d3, .int .i64 nx, .slice G1 m1 e1, .slice G2 m2 e2, .int .i64 last, .slice H1 nl f1, .slice P2 np f2, .slice Q4 u1 f3, .slice Q5 u2 f4, .slice Q6 u3 f5] 41))) := grew_alloc _ _ _
                  have HM : Hid (w.heap.size ≤ w5.heap.size ∧ N < w5.heap.size ∧ w5.heap.size ≤ w5.heap.size) := ⟨HG5.out.size, HX5.out.lt, Nat.le_refl _⟩
                  have C5 := HC5.out R1 R2 R3 G1 G2
                  have C6 := fun A' c' ln hln w' g gr => C5 A' P2 Q4 Q5 Q6 d1 d2 d3 e1 e2 c' f2 f3 f4 f5 sn ln hln (by omega) (by omega) (by omega) w5 HT5.out.r HT5.out.p HT5.out.b w' g gr
                  clear HC5 C5 HT5 HX5 HG5
                  generalize (w5.alloc (.cells #[.int .i64 t1, .int .i64 t2, .int .i64 t3, .slice R1 n1 d1, .slice R2 n2 d2, .slice R3 n3 d3, .int .i64 nx, .slice G1 m1 e1, .slice G2 m2 e2, .int .i64 last, .slice H1 nl f1, .slice P2 np f2, .slice Q4 u1 f3, .slice Q5 u2 f4, .slice Q6 u3 f5] 41)) = w6 at *
                  generalize hMz : w5.heap.size = M at *
                  have y10 := HY6.out.at 10 (.slice H1 nl f1) rfl
                  have z10 := HY6.out.fr 10 (by simp)
                  go_upto_region 16 with (fail)
                  have HY7 : Hid (OwnC (w6.setCell ⟨M, 10, none⟩ (.slice none 0 0)) M [.int .i64 t1, .int .i64 t2, .int .i64 t3, .slice R1 n1 d1, .slice R2 n2 d2, .slice R3 n3 d3, .int .i64 nx, .slice G1 m1 e1, .slice G2 m2 e2, .int .i64 last, .slice none 0 0, .slice P2 np f2, .slice Q4 u1 f3, .slice Q5 u2 f4, .slice Q6 u3 f5]) := HY6.out.set 10 (.slice none 0 0) (by simp)
                  have HX7 : Hid (OwnC (w6.setCell ⟨M, 10, none⟩ (.slice none 0 0)) N [.int .i64 t1, .int .i64 t2, .int .i64 t3, .slice A1 n1 c1, .slice A2 n2 c2, .slice A3 n3 c3, .int .i64 nx, .slice E1 m1 k1, .slice E2 m2 k2, .int .i64 last, .slice L nl cl, .slice P np cp, .slice Q1 u1 v1, .slice Q2 u2 v2, .slice Q3 u3 v3]) := HX6.out.other _ _ (by show M ≠ N; have := HM.out; omega)
                  have HG7 : Hid (Grew w (w6.setCell ⟨M, 10, none⟩ (.slice none 0 0))) := grew_set HG6.out _ (by show w.heap.size ≤ M; have := HM.out; omega)
                  have HH7 : Hid (Grew w5 (w6.setCell ⟨M, 10, none⟩ (.slice none 0 0))) := grew_set HH6.out _ (by show w5.heap.size ≤ M; have := HM.out; omega)
                  clear y10 z10 HY6 HX6 HG6 HH6
                  generalize (w6.setCell ⟨M, 10, none⟩ (.slice none 0 0)) = w7 at *
                  go_upto_region 18 with (fail)
                  have HK8 : Hid (OwnC ((w7.alloc (.cells #[.int .i64 2, .int .i64 who, .int .i64 cur] 53)).alloc (.cells #[.int .i64 1, .int .i64 0, .int .i64 cur] 53)) w7.heap.size [.int .i64 2, .int .i64 who, .int .i64 cur]) := (OwnC.new w7 [.int .i64 2, .int .i64 who, .int .i64 cur] _ _ rfl).keep (grew_alloc _ _ _)
                  have HB8 : Hid (OwnC ((w7.alloc (.cells #[.int .i64 2, .int .i64 who, .int .i64 cur] 53)).alloc (.cells #[.int .i64 1, .int .i64 0, .int .i64 cur] 53)) (w7.heap.size + 1) [.int .i64 1, .int .i64 0, .int .i64 cur]) := OwnC.new _ [.int .i64 1, .int .i64 0, .int .i64 cur] _ _ (by simp)
                  have HG78 : Grew w7 ((w7.alloc (.cells #[.int .i64 2, .int .i64 who, .int .i64 cur] 53)).alloc (.cells #[.int .i64 1, .int .i64 0, .int .i64 cur] 53)) := grew_trans (grew_alloc _ _ _) (grew_alloc _ _ _)
                  have HY8 := Lib.hid (HY7.out.keep HG78)
                  have HX8 := Lib.hid (HX7.out.keep HG78)
                  have HG8 := Lib.hid (grew_trans HG7.out HG78)
                  have HH8 := Lib.hid (grew_trans HH7.out HG78)
                  clear HG78 HY7 HX7 HG7 HH7
                  generalize ((w7.alloc (.cells #[.int .i64 2, .int .i64 who, .int .i64 cur] 53)).alloc (.cells #[.int .i64 1, .int .i64 0, .int .i64 cur] 53)) = w8 at *
                  generalize w7.heap.size + 1 = MB at *
                  generalize w7.heap.size = MK at *
                  have a9 := HX8.out.at 9 (.int .i64 last) rfl; have a10 := HX8.out.at 10 (.slice L nl cl) rfl
                  have k0 := HK8.out.at 0 (.int .i64 2) rfl; have k1 := HK8.out.at 1 (.int .i64 who) rfl; have k2 := HK8.out.at 2 (.int .i64 cur) rfl
                  have b0 := HB8.out.at 0 (.int .i64 1) rfl; have b1 := HB8.out.at 1 (.int .i64 0) rfl; have b2 := HB8.out.at 2 (.int .i64 cur) rfl
                  have y9 := HY8.out.at 9 (.int .i64 last) rfl; have y10 := HY8.out.at 10 (.slice none 0 0) rfl; have z9 := HY8.out.fr 9 (by simp); have z10 := HY8.out.fr 10 (by simp)
                  have CP := HC4.out (by omega) sn (by omega) HBAL.out
                  have HLX : Hid ((paidPd (1, 0, cur) (2, who, cur) sn lg).length ≤ 90000) := by
                    have h1 := HLL.out sn
                    have h2 := HLN.out
                    show _ ≤ _; omega
                  have HF5 := Lib.hid (HF4.out sn rfl)
                  clear HC4 HBAL HLL HF4
                  generalize (shortN (covE (ledgerB last (paidPd (1, 0, cur) (2, who, cur) sn lg)) (ofL (paidPd (1, 0, cur) (2, who, cur) sn lg) (2, who, cur)) r who cur pl) (covN (ledgerB last (paidPd (1, 0, cur) (2, who, cur) sn lg)) (ofL (paidPd (1, 0, cur) (2, who, cur) sn lg) (2, who, cur)) r who cur pl) (rightB b) (margE r who cur b.2.2) mn) = tn at *
                  generalize (shortE (covE (ledgerB last (paidPd (1, 0, cur) (2, who, cur) sn lg)) (ofL (paidPd (1, 0, cur) (2, who, cur) sn lg) (2, who, cur)) r who cur pl) (covN (ledgerB last (paidPd (1, 0, cur) (2, who, cur) sn lg)) (ofL (paidPd (1, 0, cur) (2, who, cur) sn lg) (2, who, cur)) r who cur pl) (rightB b) (margE r who cur b.2.2) mn) = te at *
                  generalize (paidPd (1, 0, cur) (2, who, cur) sn lg) = PX at *
                  go_upto_region 19 with (go_at_call 14; ((with_reducible refine (CP _ HG8.out).mono ?_); rintro e w9 ⟨A', c', rfl, ho, hg⟩; have HO9 := Lib.hid ho; have HOB : Hid (M < w8.heap.size) := HY8.out.lt; have HY9 := Lib.hid (HY8.out.keep hg); have HG9 := Lib.hid (grew_trans HG8.out hg); have HH9 := Lib.hid (grew_trans HH8.out hg); clear hg ho CP HY8 HX8 HG8 HH8 HK8 HB8 a9 a10 k0 k1 k2 b0 b1 b2 y9 y10 z9 z10; have y9 := HY9.out.at 9 (.int .i64 last) rfl; have y10 := HY9.out.at 10 (.slice none 0 0) rfl; have z9 := HY9.out.fr 9 (by simp); have z10 := HY9.out.fr 10 (by simp)))
                  have HYA : Hid (OwnC ((w9.setCell ⟨M, 9, none⟩ (.int .i64 last)).setCell ⟨M, 10, none⟩ (.slice A' PX.length c')) M [.int .i64 t1, .int .i64 t2, .int .i64 t3, .slice R1 n1 d1, .slice R2 n2 d2, .slice R3 n3 d3, .int .i64 nx, .slice G1 m1 e1, .slice G2 m2 e2, .int .i64 last, .slice A' PX.length c', .slice P2 np f2, .slice Q4 u1 f3, .slice Q5 u2 f4, .slice Q6 u3 f5]) := (HY9.out.set 9 (.int .i64 last) (by simp)).set 10 (.slice A' PX.length c') (by simp)
                  have HGA : Hid (Grew w ((w9.setCell ⟨M, 9, none⟩ (.int .i64 last)).setCell ⟨M, 10, none⟩ (.slice A' PX.length c'))) := grew_set (grew_set HG9.out _ (by show w.heap.size ≤ M; have := HM.out; omega)) _ (by show w.heap.size ≤ M; have := HM.out; omega)
                  have HHA : Hid (Grew w5 ((w9.setCell ⟨M, 9, none⟩ (.int .i64 last)).setCell ⟨M, 10, none⟩ (.slice A' PX.length c'))) := grew_set (grew_set HH9.out _ (by show w5.heap.size ≤ M; have := HM.out; omega)) _ (by show w5.heap.size ≤ M; have := HM.out; omega)
                  have hra := (own_form ((HO9.out.set M 9 (.int .i64 last) HOB.out).set M 10 (.slice A' PX.length c') HOB.out)).1
                  clear HO9 HOB HY9 HG9 HH9 y9 y10 z9 z10
                  generalize ((w9.setCell ⟨M, 9, none⟩ (.int .i64 last)).setCell ⟨M, 10, none⟩ (.slice A' PX.length c')) = wA at *
                  have C7 := fun w' (g : Grew wA w') => C6 A' c' PX.length HLX.out w' (grew_trans HHA.out g) (hra.keep g)
                  clear C6 hra HHA
                  have y0 := HYA.out.at 0 (.int .i64 t1) rfl; have y1 := HYA.out.at 1 (.int .i64 t2) rfl; have y2 := HYA.out.at 2 (.int .i64 t3) rfl; have y3 := HYA.out.at 3 (.slice R1 n1 d1) rfl; have y4 := HYA.out.at 4 (.slice R2 n2 d2) rfl; have y5 := HYA.out.at 5 (.slice R3 n3 d3) rfl; have y6 := HYA.out.at 6 (.int .i64 nx) rfl; have y7 := HYA.out.at 7 (.slice G1 m1 e1) rfl; have y8 := HYA.out.at 8 (.slice G2 m2 e2) rfl; have y9 := HYA.out.at 9 (.int .i64 last) rfl; have y11 := HYA.out.at 11 (.slice P2 np f2) rfl; have y12 := HYA.out.at 12 (.slice Q4 u1 f3) rfl; have y13 := HYA.out.at 13 (.slice Q5 u2 f4) rfl; have y14 := HYA.out.at 14 (.slice Q6 u3 f5) rfl; have y10 := HYA.out.at 10 (.slice A' PX.length c') rfl
                  generalize PX.length = ln at *
                  go_upto_region 20 with (go_at_call 9; ((with_reducible refine (C7 _ (grew_refl _)).mono ?_); rintro e wB ⟨rfl, hg⟩; have HGB := Lib.hid (grew_trans HGA.out hg); clear hg C7 HYA HGA y0 y1 y2 y3 y4 y5 y6 y7 y8 y9 y10 y11 y12 y13 y14))
                  by_cases hte : te = 0
                  · obtain rfl : tn = 0 := HF5.out hte
                    subst hte
                    clear HF5
                    go_wp2_with (go_at_call 12; ((with_reducible refine (CW _).mono ?_); rintro e wC ⟨rfl, hg⟩; have HGC := Lib.hid (grew_trans HGB.out hg); clear hg CW))
                    go_ret
                    exact ⟨rfl, HGC.out⟩
                  · clear HF5
                    go_wp2_with (go_at_call 12; ((with_reducible refine (CW _).mono ?_); rintro e wC ⟨rfl, hg⟩; have HGC := Lib.hid (grew_trans HGB.out hg); clear hg CW))
                    go_ret
                    exact ⟨rfl, HGC.out⟩
    · obtain rfl : sn = 0 := HF0.out hse
      clear HF HF3 HF0 HC4 HC5 CT C3
      go_wp2_with (go_at_call 12; ((with_reducible refine (CW _).mono ?_); rintro e w9 ⟨rfl, hg⟩; have HG9 := Lib.hid (grew_trans HG3.out hg); clear hg CW))
      go_ret
      exact ⟨rfl, HG9.out⟩
  · clear HT0 HC1 HC2 HC3 HC4 HC5 CW HF HF0 HF3
    go_wp2_with (go_at_call 5; ((with_reducible refine (CH _).mono ?_); rintro e wa ⟨rfl, hg⟩; have HG1 := Lib.hid (grew_trans HG0.out hg); clear hg CH HX0 HG0 a0 a1 a2 a3 a4 a5 a6 a7 a8 a9 a10 a11 a12 a13 a14))
    go_ret
    exact ⟨rfl, HG1.out⟩
end Go.Proofs.YtodnllopokoicaaGreat.NumK
namespace Go.Proofs.YtodnllopokoicaaGreat.NumK
open Go.RowKit
set_option linter.unusedVariables false

theorem coverShorts_row (w : World) {cs0 : Array Value} {s} (a1 a2 : Int) (h0 : spStZ.rd w cs0.toList s) :
    Calls Tryz.prog 4 #[.agg cs0, .int .i64 a1, .int .i64 a2] w fun e w' => e = .returned (.bool true) ∧ Grew w w' := by
  obtain ⟨A1, A2, A3, E1, E2, L, P, Q1, Q2, Q3, n1, n2, n3, c1, c2, c3, m1, m2, k1, k2, nl, cl, np, cp, u1, v1, u2, v2, u3, v3, cl4, bd5, ys, zs, e, h⟩ := state_ofZ h0
  rw [e]
  exact coverShorts_walk _ _ _ _ A1 A2 A3 E1 E2 L P Q1 Q2 Q3 n1 n2 n3 c1 c2 c3 m1 m2 k1 k2 nl cl np cp u1 v1 u2 v2 u3 v3 _ _ _ _ cl4 bd5 ys zs a1 a2 w h
end Go.Proofs.YtodnllopokoicaaGreat.NumK
namespace Go.Proofs.YtodnllopokoicaaGreat.coverShorts
open Go.ChangeShapes Go.WideShapes Go.ChangeAt Go.RowKit
set_option linter.unusedVariables false

theorem own : ownKnob Tryz.prog.godebug = none := by kernel_rfl
theorem laidOut : laidOutB Tryz.prog = true := by kernel_rfl

set_option maxRecDepth 100000 in
theorem lifted (os : Os) (started : os.Started) (H : Type) (enc : TypeId × Value → H) :
    ReturnsInHanded {} Tryz.checked os 4 .any (Rows.coverShortsSpec.pre6 enc Tryz.prog Tryz.f4 Rows.coverShortsRow.domain false) (Rows.coverShortsSpec.post enc Tryz.prog Tryz.f4 false true false false) := by
  refine returnsInHanded_of_change_sized (C := Tryz.checked) own started (by kernel_rfl) Tryz.func4
    (ChangeSpec.witness6 (enc := enc) (C := Tryz.checked) false ⟨#[], #[.agg #[.int .i64 0, .int .i64 0, .int .i64 0, .slice none 0 0, .slice none 0 0, .slice none 0 0, .int .i64 0, .slice none 0 0, .slice none 0 0, .int .i64 0, .slice none 0 0, .slice none 0 0, .slice none 0 0, .slice none 0 0, .slice none 0 0], .int .i64 0, .int .i64 0], []⟩ 8 (by kernel_rfl) (by kernel_rfl) (by kernel_rfl) (by kernel_rfl)) ?_
  intro W base args ds gs before hval0 hW hcnd hsz0 _
  have hval : ∀ (j : Nat) t v, Tryz.f4.params[j]? = some t → args[j]? = some v → Value.okWide Tryz.prog W .any base t v := hval0
  have hW' := hW
  obtain ⟨p, q, hA0, hV, rfl, hfz, hnd⟩ := hW
  have hA : DataW.TrodAll enc Tryz.prog W 0 (fun _ => true) true Tryz.f4.params.toList args.toList ds p := hA0
  have hsz : (DataW.weightsEach Tryz.prog (Tryz.f4.params.toList ++ Rows.coverShortsSpec.plain.varTypes Tryz.prog) (ds ++ gs)).all (· ≤ reachBytes) = true := hsz0
  rw [Tryz.params4] at hA hval hsz
  obtain ⟨v0, vs0, d0, ds0, p0, q0, hargs, rfl, rfl, h0, r0⟩ := trodAll_cons hA
  obtain ⟨v1, vs1, d1, ds1, p1, q1, rfl, rfl, rfl, h1, r1⟩ := trodAll_cons r0
  obtain ⟨v2, vs2, d2, ds2, p2, q2, rfl, rfl, rfl, h2, r2⟩ := trodAll_cons r1
  obtain ⟨rfl, rfl, rfl⟩ := trodAll_nil r2
  obtain rfl : args = #[v0, v1, v2] := by cases args; simp_all
  obtain ⟨rfl, rfl⟩ := trodVars_none hV
  have k0 := h0
  have lt0 : ∀ x ∈ p0, x.block < W.heap.size := by obtain ⟨m, hm⟩ := k0; exact DataW.trod_lt m _ _ _ hm
  obtain ⟨cs0, x0, rfl, e0⟩ := NumK.arg_structZ Tryz.underlying41 NumK.opensZ_state (hval 0 41 v0 rfl rfl) h0 (j := 0) hsz rfl rfl
  obtain ⟨a1, rfl, rfl, rfl, w1⟩ := open_int Tryz.underlying3 (hval 1 3 v1 rfl rfl) h1
  obtain ⟨a2, rfl, rfl, rfl, w2⟩ := open_int Tryz.underlying3 (hval 2 3 v2 rfl rfl) h2
  clear hA0 hval0 hsz hsz0
  refine (NumK.coverShorts_row W a1 a2 e0).mono fun e W' ⟨he, bel⟩ => ?_
  subst he
  exact ⟨_, rfl, _, _, _, [], _, [], hW', trodAll_mk1 (shut_bool Tryz.underlying4 _), (trodAll_cons_mk (Below.trod laidOut (by kernel_rfl) (of_decide_eq_true (by kernel_rfl)) k0 bel lt0) (trodAll_cons_mk (shut_int Tryz.underlying3 w1) (trodAll_cons_mk (shut_int Tryz.underlying3 w2) trodAll_mk0))), rfl, bel.frame _, fun h => by cases h⟩

theorem over : Rows.coverShortsRow.holds Tryz.pinned (OpenSpec.ofChange Rows.coverShortsSpec) :=
  OpenClaim.holds_of_wide 4 Tryz.f4 rfl rfl rfl rfl rfl rfl rfl ⟨rfl, rfl, rfl, rfl, rfl⟩ rfl rfl rfl rfl rfl (by kernel_rfl) Tryz.func4 (by kernel_rfl)
    (of_decide_eq_true (by kernel_rfl)) (by unfold Func.isWrapper; first | (rw [if_pos (by decide +kernel)]; kernel_rfl) | (rw [if_neg (by decide +kernel)]; exact ⟨rfl, rfl⟩))
    (fun os started H enc _ => lifted os started H enc)

/-! ### the statement -/
theorem proved : Rows.CoverShortsSaid := over
end Go.Proofs.YtodnllopokoicaaGreat.coverShorts
