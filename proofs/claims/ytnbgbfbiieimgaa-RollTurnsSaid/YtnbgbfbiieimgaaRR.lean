/- Stage 11's law functions: wakes, do. -/
import Derived.Test.YtnbgbfbiieimgaaRQ
import Derived.Deep.CutBlock
namespace Go.Proofs.Ytnbgbfbiieimgaa.NumK
open Go.RowKit
set_option linter.unusedVariables false

theorem wk_1 : admitP rl0 3 100 = (([(3, 1, 100)], [], []), 0) := by kernel_rfl
theorem wk_2 : admitP ([(3, 1, 100)], [], []) 3 5 = (rl0, 11) := by kernel_rfl
set_option maxRecDepth 100000 in
theorem wakes11_any (w : World) : Calls Try.prog 30 #[] w fun e w' => e = .returned (.bool true) ∧ Grew w w' := by
  have C1 : ∀ w, Calls Try.prog 31 #[.agg #[.slice none 0 0, .slice none 0 0, .slice none 0 0], .int .i64 3, .int .i64 100] w fun e w' => ∃ A1 A2 A3 c1 c2 c3, e = .returned (.tuple #[.agg #[.slice A1 1 c1, .slice A2 0 c2, .slice A3 0 c3], .int .i64 0]) ∧ In3 w' ([(3, 1, 100)], [], []) A1 A2 A3 1 0 0 c1 c2 c3 ∧ Grew w w' := fun w => by
    have := admit_any rl0 3 100 none none none 0 0 0 0 0 0 w (own3_nil w 0).in3 (by omega)
    rw [wk_1] at this
    refine this.mono ?_
    rintro e w' ⟨A1, A2, A3, c1, c2, c3, rfl, ho, hg⟩
    exact ⟨A1, A2, A3, c1, c2, c3, rfl, ho.in3, hg⟩
  have C2 : ∀ w A1 A2 A3 c1 c2 c3, In3 w ([(3, 1, 100)], [], []) A1 A2 A3 1 0 0 c1 c2 c3 → Calls Try.prog 31 #[.agg #[.slice A1 1 c1, .slice A2 0 c2, .slice A3 0 c3], .int .i64 3, .int .i64 5] w fun e w' => ∃ A1 A2 A3 c1 c2 c3, e = .returned (.tuple #[.agg #[.slice A1 0 c1, .slice A2 0 c2, .slice A3 0 c3], .int .i64 11]) ∧ Grew w w' := fun w A1 A2 A3 c1 c2 c3 h => by
    have := admit_any ([(3, 1, 100)], [], []) 3 5 A1 A2 A3 1 0 0 c1 c2 c3 w h (by omega)
    rw [wk_2] at this
    refine this.mono ?_
    rintro e w' ⟨A1, A2, A3, c1, c2, c3, rfl, ho, hg⟩
    exact ⟨A1, A2, A3, c1, c2, c3, rfl, hg⟩
  go_enter Try.func30, Try.ntmps30
  go_wp2_with (first
    | (go_at_call 31; ((with_reducible refine (C1 _).mono ?_); rintro e w1 ⟨A1, A2, A3, c1, c2, c3, rfl, hi, hg⟩; have HI := Lib.hid hi; have HG1 := Lib.hid hg; clear hi hg))
    | (go_at_call 31; ((with_reducible refine (C2 _ _ _ _ _ _ _ (HI.out.keep (grew_alloc _ _ _))).mono ?_); rintro e w2 ⟨D1, D2, D3, g1, g2, g3, rfl, hg⟩; have d0 : w2.cell? ⟨w1.heap.size, 0, none⟩ = some (.slice A1 1 c1) := own_cell hg 0; have d1 : w2.cell? ⟨w1.heap.size, 1, none⟩ = some (.slice A2 0 c2) := own_cell hg 1; have d2 : w2.cell? ⟨w1.heap.size, 2, none⟩ = some (.slice A3 0 c3) := own_cell hg 2; have hlt := own_lt hg; have HG2 := Lib.hid (grew_trans HG1.out (own_back hg)); have hc0 : (w2.alloc (.cells #[.slice D1 0 g1, .slice D2 0 g2, .slice D3 0 g3] 26)).cell? ⟨w1.heap.size, 0, none⟩ = some (.slice A1 1 c1) := (grew_cell (grew_alloc _ _ _) (p := ⟨w1.heap.size, 0, none⟩) hlt).trans d0; clear hg)))
  go_ret
  exact ⟨rfl, grew_trans HG2.out (grew_alloc _ _ _)⟩

/-! ### do -/
def kindA (d : Int) : Int := IntKind.u64.wrap d % 6
theorem kind_in (d : Int) : 0 ≤ kindA d ∧ kindA d < 6 := by unfold kindA; omega
def doP (r : Rl) (x : Act11) : Rl × Int :=
  if kindA x.1 = 0 then admitP r x.2.1 x.2.2.1 else if kindA x.1 = 1 then listP r x.2.2.2.1 else if kindA x.1 = 2 then holdP r x.2.2.2.2 else if kindA x.1 = 3 then tellP r x.2.1 x.2.2.1
  else if kindA x.1 = 4 then (turnF r, 0) else putP r x.2.1 x.2.2.1
abbrev vAct (x : Act11) : Value := .agg #[.int .i64 x.1, .int .i64 x.2.1, .int .i64 x.2.2.1, .int .i64 x.2.2.2.1.1.1, .int .i64 x.2.2.2.1.1.2.1, .int .i64 x.2.2.2.1.1.2.2.1, .int .i64 x.2.2.2.1.1.2.2.2.1, .int .i64 x.2.2.2.1.1.2.2.2.2.1, .int .i64 x.2.2.2.1.1.2.2.2.2.2,
  .int .i64 x.2.2.2.1.2.1, .int .i64 x.2.2.2.1.2.2.1, .int .i64 x.2.2.2.1.2.2.2.1, .int .i64 x.2.2.2.1.2.2.2.2.1, .int .i64 x.2.2.2.1.2.2.2.2.2.1, .int .i64 x.2.2.2.1.2.2.2.2.2.2, .int .i64 x.2.2.2.2.1, .int .i64 x.2.2.2.2.2.1, .int .i64 x.2.2.2.2.2.2.1, .int .i64 x.2.2.2.2.2.2.2]

set_option maxRecDepth 100000 in
set_option maxHeartbeats 4000000 in
theorem do_any (r : Rl) (x : Act11) (A1 A2 A3 : Option Addr) (n1 n2 n3 c1 c2 c3 : Nat) (w : World) (h : In3 w r A1 A2 A3 n1 n2 n3 c1 c2 c3) (hn : n1 ≤ 1000000 ∧ n2 ≤ 1000000 ∧ n3 ≤ 1000000) :
    Calls Try.prog 41 #[rlV A1 A2 A3 n1 n2 n3 c1 c2 c3, vAct x] w (RollE (doP r x).1 (doP r x).2 w) := by
  obtain ⟨dd, aa, bb, ⟨⟨q1, q2, q3, q4, q5, q6⟩, ⟨q7, q8, q9, q10, q11, q12⟩⟩, ⟨h1, h2, h3, h4⟩⟩ := x
  have HI := Lib.hid h
  have HD : Hid (doP r (dd, aa, bb, ((q1, q2, q3, q4, q5, q6), (q7, q8, q9, q10, q11, q12)), (h1, h2, h3, h4)) = if kindA dd = 0 then admitP r aa bb else if kindA dd = 1 then listP r ((q1, q2, q3, q4, q5, q6), (q7, q8, q9, q10, q11, q12)) else if kindA dd = 2 then holdP r (h1, h2, h3, h4) else if kindA dd = 3 then tellP r aa bb else if kindA dd = 4 then (turnF r, 0) else putP r aa bb) := rfl
  have CA := fun w' (g : Grew w w') => admit_any r aa bb A1 A2 A3 n1 n2 n3 c1 c2 c3 w' (h.keep g) hn
  have CL := fun w' (g : Grew w w') => list_any r ((q1, q2, q3, q4, q5, q6), (q7, q8, q9, q10, q11, q12)) A1 A2 A3 n1 n2 n3 c1 c2 c3 w' (h.keep g) hn
  have CH := fun w' (g : Grew w w') => hold_any r (h1, h2, h3, h4) A1 A2 A3 n1 n2 n3 c1 c2 c3 w' (h.keep g) hn
  have CT := fun w' (g : Grew w w') => tell_any r aa bb A1 A2 A3 n1 n2 n3 c1 c2 c3 w' (h.keep g) hn
  have CU := fun w' (g : Grew w w') => turn_any r A1 A2 A3 n1 n2 n3 c1 c2 c3 w' (h.keep g) hn
  have CP := fun w' (g : Grew w w') => rollPut_any r aa bb A1 A2 A3 n1 n2 n3 c1 c2 c3 w' (h.keep g) hn
  clear h
  generalize doP r (dd, aa, bb, ((q1, q2, q3, q4, q5, q6), (q7, q8, q9, q10, q11, q12)), (h1, h2, h3, h4)) = P at *
  dsimp only [rlV, vAct, vIn, vAs] at CA CL CH CT CU CP ⊢
  have hk := kind_in dd
  have HK : Hid (IntKind.u64.wrap dd % 6 = kindA dd) := rfl
  have HW : Hid (0 ≤ IntKind.u64.wrap dd) := by show _ ≤ _; rw [IntKind.wrap_u64]; omega
  generalize kindA dd = K at *
  have hk6 : K = 0 ∨ K = 1 ∨ K = 2 ∨ K = 3 ∨ K = 4 ∨ K = 5 := by omega
  clear hk
  rcases hk6 with rfl | rfl | rfl | rfl | rfl | rfl
  · have HP0 : Hid (P = admitP r aa bb) := HD.out
    rw [HP0.out]
    clear HD HP0 CL CH CT CU CP
    go_enter Try.func41, Try.ntmps41
    go_upto_region 1 with fail
    have HGI : Hid (Grew w (((w.alloc (.cells #[.slice A1 n1 c1, .slice A2 n2 c2, .slice A3 n3 c3] 26)).alloc (.cells #[.int .i64 dd, .int .i64 aa, .int .i64 bb, .int .i64 q1, .int .i64 q2, .int .i64 q3, .int .i64 q4, .int .i64 q5, .int .i64 q6, .int .i64 q7, .int .i64 q8, .int .i64 q9, .int .i64 q10, .int .i64 q11, .int .i64 q12, .int .i64 h1, .int .i64 h2, .int .i64 h3, .int .i64 h4] 64)).alloc (.cells #[.slice none 0 0, .slice none 0 0, .slice none 0 0] 26))) := grew_trans (grew_trans (grew_alloc _ _ _) (grew_alloc _ _ _)) (grew_alloc _ _ _)
    have HX0 : Hid (OwnC (((w.alloc (.cells #[.slice A1 n1 c1, .slice A2 n2 c2, .slice A3 n3 c3] 26)).alloc (.cells #[.int .i64 dd, .int .i64 aa, .int .i64 bb, .int .i64 q1, .int .i64 q2, .int .i64 q3, .int .i64 q4, .int .i64 q5, .int .i64 q6, .int .i64 q7, .int .i64 q8, .int .i64 q9, .int .i64 q10, .int .i64 q11, .int .i64 q12, .int .i64 h1, .int .i64 h2, .int .i64 h3, .int .i64 h4] 64)).alloc (.cells #[.slice none 0 0, .slice none 0 0, .slice none 0 0] 26)) w.heap.size [.slice A1 n1 c1, .slice A2 n2 c2, .slice A3 n3 c3]) := ((OwnC.new w [.slice A1 n1 c1, .slice A2 n2 c2, .slice A3 n3 c3] _ _ rfl).keep (grew_alloc _ _ _)).keep (grew_alloc _ _ _)
    have HY0 : Hid (OwnC (((w.alloc (.cells #[.slice A1 n1 c1, .slice A2 n2 c2, .slice A3 n3 c3] 26)).alloc (.cells #[.int .i64 dd, .int .i64 aa, .int .i64 bb, .int .i64 q1, .int .i64 q2, .int .i64 q3, .int .i64 q4, .int .i64 q5, .int .i64 q6, .int .i64 q7, .int .i64 q8, .int .i64 q9, .int .i64 q10, .int .i64 q11, .int .i64 q12, .int .i64 h1, .int .i64 h2, .int .i64 h3, .int .i64 h4] 64)).alloc (.cells #[.slice none 0 0, .slice none 0 0, .slice none 0 0] 26)) (w.heap.size + 1 + 1) [.slice none 0 0, .slice none 0 0, .slice none 0 0]) := OwnC.new _ [.slice none 0 0, .slice none 0 0, .slice none 0 0] _ _ (by simp)
    have HM0 : Hid (OwnC (((w.alloc (.cells #[.slice A1 n1 c1, .slice A2 n2 c2, .slice A3 n3 c3] 26)).alloc (.cells #[.int .i64 dd, .int .i64 aa, .int .i64 bb, .int .i64 q1, .int .i64 q2, .int .i64 q3, .int .i64 q4, .int .i64 q5, .int .i64 q6, .int .i64 q7, .int .i64 q8, .int .i64 q9, .int .i64 q10, .int .i64 q11, .int .i64 q12, .int .i64 h1, .int .i64 h2, .int .i64 h3, .int .i64 h4] 64)).alloc (.cells #[.slice none 0 0, .slice none 0 0, .slice none 0 0] 26)) (w.heap.size + 1) [.int .i64 dd, .int .i64 aa, .int .i64 bb, .int .i64 q1, .int .i64 q2, .int .i64 q3, .int .i64 q4, .int .i64 q5, .int .i64 q6, .int .i64 q7, .int .i64 q8, .int .i64 q9, .int .i64 q10, .int .i64 q11, .int .i64 q12, .int .i64 h1, .int .i64 h2, .int .i64 h3, .int .i64 h4]) := (OwnC.new _ [.int .i64 dd, .int .i64 aa, .int .i64 bb, .int .i64 q1, .int .i64 q2, .int .i64 q3, .int .i64 q4, .int .i64 q5, .int .i64 q6, .int .i64 q7, .int .i64 q8, .int .i64 q9, .int .i64 q10, .int .i64 q11, .int .i64 q12, .int .i64 h1, .int .i64 h2, .int .i64 h3, .int .i64 h4] _ _ (by simp)).keep (grew_alloc _ _ _)
    generalize (((w.alloc (.cells #[.slice A1 n1 c1, .slice A2 n2 c2, .slice A3 n3 c3] 26)).alloc (.cells #[.int .i64 dd, .int .i64 aa, .int .i64 bb, .int .i64 q1, .int .i64 q2, .int .i64 q3, .int .i64 q4, .int .i64 q5, .int .i64 q6, .int .i64 q7, .int .i64 q8, .int .i64 q9, .int .i64 q10, .int .i64 q11, .int .i64 q12, .int .i64 h1, .int .i64 h2, .int .i64 h3, .int .i64 h4] 64)).alloc (.cells #[.slice none 0 0, .slice none 0 0, .slice none 0 0] 26)) = w0 at *
    have x0 : w0.cell? ⟨w.heap.size, 0, none⟩ = some (.slice A1 n1 c1) := HX0.out.at 0 _ rfl
    have x1 : w0.cell? ⟨w.heap.size, 1, none⟩ = some (.slice A2 n2 c2) := HX0.out.at 1 _ rfl
    have x2 : w0.cell? ⟨w.heap.size, 2, none⟩ = some (.slice A3 n3 c3) := HX0.out.at 2 _ rfl
    have m0 : w0.cell? ⟨w.heap.size + 1, 0, none⟩ = some (.int .i64 dd) := HM0.out.at 0 _ rfl
    have m1 : w0.cell? ⟨w.heap.size + 1, 1, none⟩ = some (.int .i64 aa) := HM0.out.at 1 _ rfl
    have m2 : w0.cell? ⟨w.heap.size + 1, 2, none⟩ = some (.int .i64 bb) := HM0.out.at 2 _ rfl
    have m3 : w0.cell? ⟨w.heap.size + 1, 3, none⟩ = some (.int .i64 q1) := HM0.out.at 3 _ rfl
    have m4 : w0.cell? ⟨w.heap.size + 1, 4, none⟩ = some (.int .i64 q2) := HM0.out.at 4 _ rfl
    have m5 : w0.cell? ⟨w.heap.size + 1, 5, none⟩ = some (.int .i64 q3) := HM0.out.at 5 _ rfl
    have m6 : w0.cell? ⟨w.heap.size + 1, 6, none⟩ = some (.int .i64 q4) := HM0.out.at 6 _ rfl
    have m7 : w0.cell? ⟨w.heap.size + 1, 7, none⟩ = some (.int .i64 q5) := HM0.out.at 7 _ rfl
    have m8 : w0.cell? ⟨w.heap.size + 1, 8, none⟩ = some (.int .i64 q6) := HM0.out.at 8 _ rfl
    have m9 : w0.cell? ⟨w.heap.size + 1, 9, none⟩ = some (.int .i64 q7) := HM0.out.at 9 _ rfl
    have m10 : w0.cell? ⟨w.heap.size + 1, 10, none⟩ = some (.int .i64 q8) := HM0.out.at 10 _ rfl
    have m11 : w0.cell? ⟨w.heap.size + 1, 11, none⟩ = some (.int .i64 q9) := HM0.out.at 11 _ rfl
    have m12 : w0.cell? ⟨w.heap.size + 1, 12, none⟩ = some (.int .i64 q10) := HM0.out.at 12 _ rfl
    have m13 : w0.cell? ⟨w.heap.size + 1, 13, none⟩ = some (.int .i64 q11) := HM0.out.at 13 _ rfl
    have m14 : w0.cell? ⟨w.heap.size + 1, 14, none⟩ = some (.int .i64 q12) := HM0.out.at 14 _ rfl
    have m15 : w0.cell? ⟨w.heap.size + 1, 15, none⟩ = some (.int .i64 h1) := HM0.out.at 15 _ rfl
    have m16 : w0.cell? ⟨w.heap.size + 1, 16, none⟩ = some (.int .i64 h2) := HM0.out.at 16 _ rfl
    have m17 : w0.cell? ⟨w.heap.size + 1, 17, none⟩ = some (.int .i64 h3) := HM0.out.at 17 _ rfl
    have m18 : w0.cell? ⟨w.heap.size + 1, 18, none⟩ = some (.int .i64 h4) := HM0.out.at 18 _ rfl
    have hK := HK.out
    have hW := HW.out
    go_wp2_with (go_at_call 31; ((with_reducible refine (CA _ HGI.out).mono ?_); rintro e w1 ⟨D1, D2, D3, g1, g2, g3, rfl, ho, hg⟩; dsimp only [rlV]; have HO1 := Lib.hid ho; have HY1 := Lib.hid (HY0.out.keep hg); have HG1 := Lib.hid (grew_trans HGI.out hg); have HRN : Hid (w.heap.size + 1 + 1 < w0.heap.size) := HY0.out.lt; have y0 : w1.cell? ⟨w.heap.size + 1 + 1, 0, none⟩ = some (.slice none 0 0) := HY1.out.at 0 _ rfl; have f0 : w1.frozen? ⟨w.heap.size + 1 + 1, 0, none⟩ = false := HY1.out.fr 0 (by decide); have y1 : w1.cell? ⟨w.heap.size + 1 + 1, 1, none⟩ = some (.slice none 0 0) := HY1.out.at 1 _ rfl; have f1 : w1.frozen? ⟨w.heap.size + 1 + 1, 1, none⟩ = false := HY1.out.fr 1 (by decide); have y2 : w1.cell? ⟨w.heap.size + 1 + 1, 2, none⟩ = some (.slice none 0 0) := HY1.out.at 2 _ rfl; have f2 : w1.frozen? ⟨w.heap.size + 1 + 1, 2, none⟩ = false := HY1.out.fr 2 (by decide); clear ho hg))
    have HP := HY1.out.all [Value.slice D1 (admitP r aa bb).1.1.length g1, .slice D2 (admitP r aa bb).1.2.1.length g2, .slice D3 (admitP r aa bb).1.2.2.length g3] rfl
    have HGP := grew_put (w.heap.size + 1 + 1) (by show w.heap.size ≤ _; omega) [Value.slice D1 (admitP r aa bb).1.1.length g1, .slice D2 (admitP r aa bb).1.2.1.length g2, .slice D3 (admitP r aa bb).1.2.2.length g3] 0 _ HG1.out
    have Q1 := OwnE.put HRN.out [Value.slice D1 (admitP r aa bb).1.1.length g1, .slice D2 (admitP r aa bb).1.2.1.length g2, .slice D3 (admitP r aa bb).1.2.2.length g3] 0 _ HO1.out.m
    have Q2 := OwnE.put HRN.out [Value.slice D1 (admitP r aa bb).1.1.length g1, .slice D2 (admitP r aa bb).1.2.1.length g2, .slice D3 (admitP r aa bb).1.2.2.length g3] 0 _ HO1.out.i
    have Q3 := OwnE.put HRN.out [Value.slice D1 (admitP r aa bb).1.1.length g1, .slice D2 (admitP r aa bb).1.2.1.length g2, .slice D3 (admitP r aa bb).1.2.2.length g3] 0 _ HO1.out.h
    change bodyPost _ _ _ _ _ (putC w1 (w.heap.size + 1 + 1) 0 [.slice D1 (admitP r aa bb).1.1.length g1, .slice D2 (admitP r aa bb).1.2.1.length g2, .slice D3 (admitP r aa bb).1.2.2.length g3])
    generalize putC w1 (w.heap.size + 1 + 1) 0 [.slice D1 (admitP r aa bb).1.1.length g1, .slice D2 (admitP r aa bb).1.2.1.length g2, .slice D3 (admitP r aa bb).1.2.2.length g3] = w9 at *
    have z0 : w9.cell? ⟨w.heap.size + 1 + 1, 0, none⟩ = _ := HP.at 0 _ rfl
    have z1 : w9.cell? ⟨w.heap.size + 1 + 1, 1, none⟩ = _ := HP.at 1 _ rfl
    have z2 : w9.cell? ⟨w.heap.size + 1 + 1, 2, none⟩ = _ := HP.at 2 _ rfl
    have HLE : w.heap.size ≤ w0.heap.size := HGI.out.size
    refine bodyPost_ret (v := .tuple #[.agg #[.slice D1 (admitP r aa bb).1.1.length g1, .slice D2 (admitP r aa bb).1.2.1.length g2, .slice D3 (admitP r aa bb).1.2.2.length g3], .int .i64 (admitP r aa bb).2]) (by simp [results, Try.results41, go_sem, z0, z1, z2]) rfl ?_
    exact ⟨D1, D2, D3, g1, g2, g3, rfl, ⟨Q1.mono HLE, Q2.mono HLE, Q3.mono HLE⟩, HGP⟩
  · have HP0 : Hid (P = listP r ((q1, q2, q3, q4, q5, q6), (q7, q8, q9, q10, q11, q12))) := HD.out
    rw [HP0.out]
    clear HD HP0 CA CH CT CU CP
    go_enter Try.func41, Try.ntmps41
    go_upto_region 1 with fail
    have HGI : Hid (Grew w (((w.alloc (.cells #[.slice A1 n1 c1, .slice A2 n2 c2, .slice A3 n3 c3] 26)).alloc (.cells #[.int .i64 dd, .int .i64 aa, .int .i64 bb, .int .i64 q1, .int .i64 q2, .int .i64 q3, .int .i64 q4, .int .i64 q5, .int .i64 q6, .int .i64 q7, .int .i64 q8, .int .i64 q9, .int .i64 q10, .int .i64 q11, .int .i64 q12, .int .i64 h1, .int .i64 h2, .int .i64 h3, .int .i64 h4] 64)).alloc (.cells #[.slice none 0 0, .slice none 0 0, .slice none 0 0] 26))) := grew_trans (grew_trans (grew_alloc _ _ _) (grew_alloc _ _ _)) (grew_alloc _ _ _)
    have HX0 : Hid (OwnC (((w.alloc (.cells #[.slice A1 n1 c1, .slice A2 n2 c2, .slice A3 n3 c3] 26)).alloc (.cells #[.int .i64 dd, .int .i64 aa, .int .i64 bb, .int .i64 q1, .int .i64 q2, .int .i64 q3, .int .i64 q4, .int .i64 q5, .int .i64 q6, .int .i64 q7, .int .i64 q8, .int .i64 q9, .int .i64 q10, .int .i64 q11, .int .i64 q12, .int .i64 h1, .int .i64 h2, .int .i64 h3, .int .i64 h4] 64)).alloc (.cells #[.slice none 0 0, .slice none 0 0, .slice none 0 0] 26)) w.heap.size [.slice A1 n1 c1, .slice A2 n2 c2, .slice A3 n3 c3]) := ((OwnC.new w [.slice A1 n1 c1, .slice A2 n2 c2, .slice A3 n3 c3] _ _ rfl).keep (grew_alloc _ _ _)).keep (grew_alloc _ _ _)
    have HY0 : Hid (OwnC (((w.alloc (.cells #[.slice A1 n1 c1, .slice A2 n2 c2, .slice A3 n3 c3] 26)).alloc (.cells #[.int .i64 dd, .int .i64 aa, .int .i64 bb, .int .i64 q1, .int .i64 q2, .int .i64 q3, .int .i64 q4, .int .i64 q5, .int .i64 q6, .int .i64 q7, .int .i64 q8, .int .i64 q9, .int .i64 q10, .int .i64 q11, .int .i64 q12, .int .i64 h1, .int .i64 h2, .int .i64 h3, .int .i64 h4] 64)).alloc (.cells #[.slice none 0 0, .slice none 0 0, .slice none 0 0] 26)) (w.heap.size + 1 + 1) [.slice none 0 0, .slice none 0 0, .slice none 0 0]) := OwnC.new _ [.slice none 0 0, .slice none 0 0, .slice none 0 0] _ _ (by simp)
    have HM0 : Hid (OwnC (((w.alloc (.cells #[.slice A1 n1 c1, .slice A2 n2 c2, .slice A3 n3 c3] 26)).alloc (.cells #[.int .i64 dd, .int .i64 aa, .int .i64 bb, .int .i64 q1, .int .i64 q2, .int .i64 q3, .int .i64 q4, .int .i64 q5, .int .i64 q6, .int .i64 q7, .int .i64 q8, .int .i64 q9, .int .i64 q10, .int .i64 q11, .int .i64 q12, .int .i64 h1, .int .i64 h2, .int .i64 h3, .int .i64 h4] 64)).alloc (.cells #[.slice none 0 0, .slice none 0 0, .slice none 0 0] 26)) (w.heap.size + 1) [.int .i64 dd, .int .i64 aa, .int .i64 bb, .int .i64 q1, .int .i64 q2, .int .i64 q3, .int .i64 q4, .int .i64 q5, .int .i64 q6, .int .i64 q7, .int .i64 q8, .int .i64 q9, .int .i64 q10, .int .i64 q11, .int .i64 q12, .int .i64 h1, .int .i64 h2, .int .i64 h3, .int .i64 h4]) := (OwnC.new _ [.int .i64 dd, .int .i64 aa, .int .i64 bb, .int .i64 q1, .int .i64 q2, .int .i64 q3, .int .i64 q4, .int .i64 q5, .int .i64 q6, .int .i64 q7, .int .i64 q8, .int .i64 q9, .int .i64 q10, .int .i64 q11, .int .i64 q12, .int .i64 h1, .int .i64 h2, .int .i64 h3, .int .i64 h4] _ _ (by simp)).keep (grew_alloc _ _ _)
    generalize (((w.alloc (.cells #[.slice A1 n1 c1, .slice A2 n2 c2, .slice A3 n3 c3] 26)).alloc (.cells #[.int .i64 dd, .int .i64 aa, .int .i64 bb, .int .i64 q1, .int .i64 q2, .int .i64 q3, .int .i64 q4, .int .i64 q5, .int .i64 q6, .int .i64 q7, .int .i64 q8, .int .i64 q9, .int .i64 q10, .int .i64 q11, .int .i64 q12, .int .i64 h1, .int .i64 h2, .int .i64 h3, .int .i64 h4] 64)).alloc (.cells #[.slice none 0 0, .slice none 0 0, .slice none 0 0] 26)) = w0 at *
    have x0 : w0.cell? ⟨w.heap.size, 0, none⟩ = some (.slice A1 n1 c1) := HX0.out.at 0 _ rfl
    have x1 : w0.cell? ⟨w.heap.size, 1, none⟩ = some (.slice A2 n2 c2) := HX0.out.at 1 _ rfl
    have x2 : w0.cell? ⟨w.heap.size, 2, none⟩ = some (.slice A3 n3 c3) := HX0.out.at 2 _ rfl
    have m0 : w0.cell? ⟨w.heap.size + 1, 0, none⟩ = some (.int .i64 dd) := HM0.out.at 0 _ rfl
    have m1 : w0.cell? ⟨w.heap.size + 1, 1, none⟩ = some (.int .i64 aa) := HM0.out.at 1 _ rfl
    have m2 : w0.cell? ⟨w.heap.size + 1, 2, none⟩ = some (.int .i64 bb) := HM0.out.at 2 _ rfl
    have m3 : w0.cell? ⟨w.heap.size + 1, 3, none⟩ = some (.int .i64 q1) := HM0.out.at 3 _ rfl
    have m4 : w0.cell? ⟨w.heap.size + 1, 4, none⟩ = some (.int .i64 q2) := HM0.out.at 4 _ rfl
    have m5 : w0.cell? ⟨w.heap.size + 1, 5, none⟩ = some (.int .i64 q3) := HM0.out.at 5 _ rfl
    have m6 : w0.cell? ⟨w.heap.size + 1, 6, none⟩ = some (.int .i64 q4) := HM0.out.at 6 _ rfl
    have m7 : w0.cell? ⟨w.heap.size + 1, 7, none⟩ = some (.int .i64 q5) := HM0.out.at 7 _ rfl
    have m8 : w0.cell? ⟨w.heap.size + 1, 8, none⟩ = some (.int .i64 q6) := HM0.out.at 8 _ rfl
    have m9 : w0.cell? ⟨w.heap.size + 1, 9, none⟩ = some (.int .i64 q7) := HM0.out.at 9 _ rfl
    have m10 : w0.cell? ⟨w.heap.size + 1, 10, none⟩ = some (.int .i64 q8) := HM0.out.at 10 _ rfl
    have m11 : w0.cell? ⟨w.heap.size + 1, 11, none⟩ = some (.int .i64 q9) := HM0.out.at 11 _ rfl
    have m12 : w0.cell? ⟨w.heap.size + 1, 12, none⟩ = some (.int .i64 q10) := HM0.out.at 12 _ rfl
    have m13 : w0.cell? ⟨w.heap.size + 1, 13, none⟩ = some (.int .i64 q11) := HM0.out.at 13 _ rfl
    have m14 : w0.cell? ⟨w.heap.size + 1, 14, none⟩ = some (.int .i64 q12) := HM0.out.at 14 _ rfl
    have m15 : w0.cell? ⟨w.heap.size + 1, 15, none⟩ = some (.int .i64 h1) := HM0.out.at 15 _ rfl
    have m16 : w0.cell? ⟨w.heap.size + 1, 16, none⟩ = some (.int .i64 h2) := HM0.out.at 16 _ rfl
    have m17 : w0.cell? ⟨w.heap.size + 1, 17, none⟩ = some (.int .i64 h3) := HM0.out.at 17 _ rfl
    have m18 : w0.cell? ⟨w.heap.size + 1, 18, none⟩ = some (.int .i64 h4) := HM0.out.at 18 _ rfl
    have hK := HK.out
    have hW := HW.out
    go_wp2_with (go_at_call 33; ((with_reducible refine (CL _ HGI.out).mono ?_); rintro e w1 ⟨D1, D2, D3, g1, g2, g3, rfl, ho, hg⟩; dsimp only [rlV]; have HO1 := Lib.hid ho; have HY1 := Lib.hid (HY0.out.keep hg); have HG1 := Lib.hid (grew_trans HGI.out hg); have HRN : Hid (w.heap.size + 1 + 1 < w0.heap.size) := HY0.out.lt; have y0 : w1.cell? ⟨w.heap.size + 1 + 1, 0, none⟩ = some (.slice none 0 0) := HY1.out.at 0 _ rfl; have f0 : w1.frozen? ⟨w.heap.size + 1 + 1, 0, none⟩ = false := HY1.out.fr 0 (by decide); have y1 : w1.cell? ⟨w.heap.size + 1 + 1, 1, none⟩ = some (.slice none 0 0) := HY1.out.at 1 _ rfl; have f1 : w1.frozen? ⟨w.heap.size + 1 + 1, 1, none⟩ = false := HY1.out.fr 1 (by decide); have y2 : w1.cell? ⟨w.heap.size + 1 + 1, 2, none⟩ = some (.slice none 0 0) := HY1.out.at 2 _ rfl; have f2 : w1.frozen? ⟨w.heap.size + 1 + 1, 2, none⟩ = false := HY1.out.fr 2 (by decide); clear ho hg))
    have HP := HY1.out.all [Value.slice D1 (listP r ((q1, q2, q3, q4, q5, q6), (q7, q8, q9, q10, q11, q12))).1.1.length g1, .slice D2 (listP r ((q1, q2, q3, q4, q5, q6), (q7, q8, q9, q10, q11, q12))).1.2.1.length g2, .slice D3 (listP r ((q1, q2, q3, q4, q5, q6), (q7, q8, q9, q10, q11, q12))).1.2.2.length g3] rfl
    have HGP := grew_put (w.heap.size + 1 + 1) (by show w.heap.size ≤ _; omega) [Value.slice D1 (listP r ((q1, q2, q3, q4, q5, q6), (q7, q8, q9, q10, q11, q12))).1.1.length g1, .slice D2 (listP r ((q1, q2, q3, q4, q5, q6), (q7, q8, q9, q10, q11, q12))).1.2.1.length g2, .slice D3 (listP r ((q1, q2, q3, q4, q5, q6), (q7, q8, q9, q10, q11, q12))).1.2.2.length g3] 0 _ HG1.out
    have Q1 := OwnE.put HRN.out [Value.slice D1 (listP r ((q1, q2, q3, q4, q5, q6), (q7, q8, q9, q10, q11, q12))).1.1.length g1, .slice D2 (listP r ((q1, q2, q3, q4, q5, q6), (q7, q8, q9, q10, q11, q12))).1.2.1.length g2, .slice D3 (listP r ((q1, q2, q3, q4, q5, q6), (q7, q8, q9, q10, q11, q12))).1.2.2.length g3] 0 _ HO1.out.m
    have Q2 := OwnE.put HRN.out [Value.slice D1 (listP r ((q1, q2, q3, q4, q5, q6), (q7, q8, q9, q10, q11, q12))).1.1.length g1, .slice D2 (listP r ((q1, q2, q3, q4, q5, q6), (q7, q8, q9, q10, q11, q12))).1.2.1.length g2, .slice D3 (listP r ((q1, q2, q3, q4, q5, q6), (q7, q8, q9, q10, q11, q12))).1.2.2.length g3] 0 _ HO1.out.i
    have Q3 := OwnE.put HRN.out [Value.slice D1 (listP r ((q1, q2, q3, q4, q5, q6), (q7, q8, q9, q10, q11, q12))).1.1.length g1, .slice D2 (listP r ((q1, q2, q3, q4, q5, q6), (q7, q8, q9, q10, q11, q12))).1.2.1.length g2, .slice D3 (listP r ((q1, q2, q3, q4, q5, q6), (q7, q8, q9, q10, q11, q12))).1.2.2.length g3] 0 _ HO1.out.h
    change bodyPost _ _ _ _ _ (putC w1 (w.heap.size + 1 + 1) 0 [.slice D1 (listP r ((q1, q2, q3, q4, q5, q6), (q7, q8, q9, q10, q11, q12))).1.1.length g1, .slice D2 (listP r ((q1, q2, q3, q4, q5, q6), (q7, q8, q9, q10, q11, q12))).1.2.1.length g2, .slice D3 (listP r ((q1, q2, q3, q4, q5, q6), (q7, q8, q9, q10, q11, q12))).1.2.2.length g3])
    generalize putC w1 (w.heap.size + 1 + 1) 0 [.slice D1 (listP r ((q1, q2, q3, q4, q5, q6), (q7, q8, q9, q10, q11, q12))).1.1.length g1, .slice D2 (listP r ((q1, q2, q3, q4, q5, q6), (q7, q8, q9, q10, q11, q12))).1.2.1.length g2, .slice D3 (listP r ((q1, q2, q3, q4, q5, q6), (q7, q8, q9, q10, q11, q12))).1.2.2.length g3] = w9 at *
    have z0 : w9.cell? ⟨w.heap.size + 1 + 1, 0, none⟩ = _ := HP.at 0 _ rfl
    have z1 : w9.cell? ⟨w.heap.size + 1 + 1, 1, none⟩ = _ := HP.at 1 _ rfl
    have z2 : w9.cell? ⟨w.heap.size + 1 + 1, 2, none⟩ = _ := HP.at 2 _ rfl
    have HLE : w.heap.size ≤ w0.heap.size := HGI.out.size
    refine bodyPost_ret (v := .tuple #[.agg #[.slice D1 (listP r ((q1, q2, q3, q4, q5, q6), (q7, q8, q9, q10, q11, q12))).1.1.length g1, .slice D2 (listP r ((q1, q2, q3, q4, q5, q6), (q7, q8, q9, q10, q11, q12))).1.2.1.length g2, .slice D3 (listP r ((q1, q2, q3, q4, q5, q6), (q7, q8, q9, q10, q11, q12))).1.2.2.length g3], .int .i64 (listP r ((q1, q2, q3, q4, q5, q6), (q7, q8, q9, q10, q11, q12))).2]) (by simp [results, Try.results41, go_sem, z0, z1, z2]) rfl ?_
    exact ⟨D1, D2, D3, g1, g2, g3, rfl, ⟨Q1.mono HLE, Q2.mono HLE, Q3.mono HLE⟩, HGP⟩
  · have HP0 : Hid (P = holdP r (h1, h2, h3, h4)) := HD.out
    rw [HP0.out]
    clear HD HP0 CA CL CT CU CP
    go_enter Try.func41, Try.ntmps41
    go_upto_region 1 with fail
    have HGI : Hid (Grew w (((w.alloc (.cells #[.slice A1 n1 c1, .slice A2 n2 c2, .slice A3 n3 c3] 26)).alloc (.cells #[.int .i64 dd, .int .i64 aa, .int .i64 bb, .int .i64 q1, .int .i64 q2, .int .i64 q3, .int .i64 q4, .int .i64 q5, .int .i64 q6, .int .i64 q7, .int .i64 q8, .int .i64 q9, .int .i64 q10, .int .i64 q11, .int .i64 q12, .int .i64 h1, .int .i64 h2, .int .i64 h3, .int .i64 h4] 64)).alloc (.cells #[.slice none 0 0, .slice none 0 0, .slice none 0 0] 26))) := grew_trans (grew_trans (grew_alloc _ _ _) (grew_alloc _ _ _)) (grew_alloc _ _ _)
    have HX0 : Hid (OwnC (((w.alloc (.cells #[.slice A1 n1 c1, .slice A2 n2 c2, .slice A3 n3 c3] 26)).alloc (.cells #[.int .i64 dd, .int .i64 aa, .int .i64 bb, .int .i64 q1, .int .i64 q2, .int .i64 q3, .int .i64 q4, .int .i64 q5, .int .i64 q6, .int .i64 q7, .int .i64 q8, .int .i64 q9, .int .i64 q10, .int .i64 q11, .int .i64 q12, .int .i64 h1, .int .i64 h2, .int .i64 h3, .int .i64 h4] 64)).alloc (.cells #[.slice none 0 0, .slice none 0 0, .slice none 0 0] 26)) w.heap.size [.slice A1 n1 c1, .slice A2 n2 c2, .slice A3 n3 c3]) := ((OwnC.new w [.slice A1 n1 c1, .slice A2 n2 c2, .slice A3 n3 c3] _ _ rfl).keep (grew_alloc _ _ _)).keep (grew_alloc _ _ _)
    have HY0 : Hid (OwnC (((w.alloc (.cells #[.slice A1 n1 c1, .slice A2 n2 c2, .slice A3 n3 c3] 26)).alloc (.cells #[.int .i64 dd, .int .i64 aa, .int .i64 bb, .int .i64 q1, .int .i64 q2, .int .i64 q3, .int .i64 q4, .int .i64 q5, .int .i64 q6, .int .i64 q7, .int .i64 q8, .int .i64 q9, .int .i64 q10, .int .i64 q11, .int .i64 q12, .int .i64 h1, .int .i64 h2, .int .i64 h3, .int .i64 h4] 64)).alloc (.cells #[.slice none 0 0, .slice none 0 0, .slice none 0 0] 26)) (w.heap.size + 1 + 1) [.slice none 0 0, .slice none 0 0, .slice none 0 0]) := OwnC.new _ [.slice none 0 0, .slice none 0 0, .slice none 0 0] _ _ (by simp)
    have HM0 : Hid (OwnC (((w.alloc (.cells #[.slice A1 n1 c1, .slice A2 n2 c2, .slice A3 n3 c3] 26)).alloc (.cells #[.int .i64 dd, .int .i64 aa, .int .i64 bb, .int .i64 q1, .int .i64 q2, .int .i64 q3, .int .i64 q4, .int .i64 q5, .int .i64 q6, .int .i64 q7, .int .i64 q8, .int .i64 q9, .int .i64 q10, .int .i64 q11, .int .i64 q12, .int .i64 h1, .int .i64 h2, .int .i64 h3, .int .i64 h4] 64)).alloc (.cells #[.slice none 0 0, .slice none 0 0, .slice none 0 0] 26)) (w.heap.size + 1) [.int .i64 dd, .int .i64 aa, .int .i64 bb, .int .i64 q1, .int .i64 q2, .int .i64 q3, .int .i64 q4, .int .i64 q5, .int .i64 q6, .int .i64 q7, .int .i64 q8, .int .i64 q9, .int .i64 q10, .int .i64 q11, .int .i64 q12, .int .i64 h1, .int .i64 h2, .int .i64 h3, .int .i64 h4]) := (OwnC.new _ [.int .i64 dd, .int .i64 aa, .int .i64 bb, .int .i64 q1, .int .i64 q2, .int .i64 q3, .int .i64 q4, .int .i64 q5, .int .i64 q6, .int .i64 q7, .int .i64 q8, .int .i64 q9, .int .i64 q10, .int .i64 q11, .int .i64 q12, .int .i64 h1, .int .i64 h2, .int .i64 h3, .int .i64 h4] _ _ (by simp)).keep (grew_alloc _ _ _)
    generalize (((w.alloc (.cells #[.slice A1 n1 c1, .slice A2 n2 c2, .slice A3 n3 c3] 26)).alloc (.cells #[.int .i64 dd, .int .i64 aa, .int .i64 bb, .int .i64 q1, .int .i64 q2, .int .i64 q3, .int .i64 q4, .int .i64 q5, .int .i64 q6, .int .i64 q7, .int .i64 q8, .int .i64 q9, .int .i64 q10, .int .i64 q11, .int .i64 q12, .int .i64 h1, .int .i64 h2, .int .i64 h3, .int .i64 h4] 64)).alloc (.cells #[.slice none 0 0, .slice none 0 0, .slice none 0 0] 26)) = w0 at *
    have x0 : w0.cell? ⟨w.heap.size, 0, none⟩ = some (.slice A1 n1 c1) := HX0.out.at 0 _ rfl
    have x1 : w0.cell? ⟨w.heap.size, 1, none⟩ = some (.slice A2 n2 c2) := HX0.out.at 1 _ rfl
    have x2 : w0.cell? ⟨w.heap.size, 2, none⟩ = some (.slice A3 n3 c3) := HX0.out.at 2 _ rfl
    have m0 : w0.cell? ⟨w.heap.size + 1, 0, none⟩ = some (.int .i64 dd) := HM0.out.at 0 _ rfl
    have m1 : w0.cell? ⟨w.heap.size + 1, 1, none⟩ = some (.int .i64 aa) := HM0.out.at 1 _ rfl
    have m2 : w0.cell? ⟨w.heap.size + 1, 2, none⟩ = some (.int .i64 bb) := HM0.out.at 2 _ rfl
    have m3 : w0.cell? ⟨w.heap.size + 1, 3, none⟩ = some (.int .i64 q1) := HM0.out.at 3 _ rfl
    have m4 : w0.cell? ⟨w.heap.size + 1, 4, none⟩ = some (.int .i64 q2) := HM0.out.at 4 _ rfl
    have m5 : w0.cell? ⟨w.heap.size + 1, 5, none⟩ = some (.int .i64 q3) := HM0.out.at 5 _ rfl
    have m6 : w0.cell? ⟨w.heap.size + 1, 6, none⟩ = some (.int .i64 q4) := HM0.out.at 6 _ rfl
    have m7 : w0.cell? ⟨w.heap.size + 1, 7, none⟩ = some (.int .i64 q5) := HM0.out.at 7 _ rfl
    have m8 : w0.cell? ⟨w.heap.size + 1, 8, none⟩ = some (.int .i64 q6) := HM0.out.at 8 _ rfl
    have m9 : w0.cell? ⟨w.heap.size + 1, 9, none⟩ = some (.int .i64 q7) := HM0.out.at 9 _ rfl
    have m10 : w0.cell? ⟨w.heap.size + 1, 10, none⟩ = some (.int .i64 q8) := HM0.out.at 10 _ rfl
    have m11 : w0.cell? ⟨w.heap.size + 1, 11, none⟩ = some (.int .i64 q9) := HM0.out.at 11 _ rfl
    have m12 : w0.cell? ⟨w.heap.size + 1, 12, none⟩ = some (.int .i64 q10) := HM0.out.at 12 _ rfl
    have m13 : w0.cell? ⟨w.heap.size + 1, 13, none⟩ = some (.int .i64 q11) := HM0.out.at 13 _ rfl
    have m14 : w0.cell? ⟨w.heap.size + 1, 14, none⟩ = some (.int .i64 q12) := HM0.out.at 14 _ rfl
    have m15 : w0.cell? ⟨w.heap.size + 1, 15, none⟩ = some (.int .i64 h1) := HM0.out.at 15 _ rfl
    have m16 : w0.cell? ⟨w.heap.size + 1, 16, none⟩ = some (.int .i64 h2) := HM0.out.at 16 _ rfl
    have m17 : w0.cell? ⟨w.heap.size + 1, 17, none⟩ = some (.int .i64 h3) := HM0.out.at 17 _ rfl
    have m18 : w0.cell? ⟨w.heap.size + 1, 18, none⟩ = some (.int .i64 h4) := HM0.out.at 18 _ rfl
    have hK := HK.out
    have hW := HW.out
    go_wp2_with (go_at_call 35; ((with_reducible refine (CH _ HGI.out).mono ?_); rintro e w1 ⟨D1, D2, D3, g1, g2, g3, rfl, ho, hg⟩; dsimp only [rlV]; have HO1 := Lib.hid ho; have HY1 := Lib.hid (HY0.out.keep hg); have HG1 := Lib.hid (grew_trans HGI.out hg); have HRN : Hid (w.heap.size + 1 + 1 < w0.heap.size) := HY0.out.lt; have y0 : w1.cell? ⟨w.heap.size + 1 + 1, 0, none⟩ = some (.slice none 0 0) := HY1.out.at 0 _ rfl; have f0 : w1.frozen? ⟨w.heap.size + 1 + 1, 0, none⟩ = false := HY1.out.fr 0 (by decide); have y1 : w1.cell? ⟨w.heap.size + 1 + 1, 1, none⟩ = some (.slice none 0 0) := HY1.out.at 1 _ rfl; have f1 : w1.frozen? ⟨w.heap.size + 1 + 1, 1, none⟩ = false := HY1.out.fr 1 (by decide); have y2 : w1.cell? ⟨w.heap.size + 1 + 1, 2, none⟩ = some (.slice none 0 0) := HY1.out.at 2 _ rfl; have f2 : w1.frozen? ⟨w.heap.size + 1 + 1, 2, none⟩ = false := HY1.out.fr 2 (by decide); clear ho hg))
    have HP := HY1.out.all [Value.slice D1 (holdP r (h1, h2, h3, h4)).1.1.length g1, .slice D2 (holdP r (h1, h2, h3, h4)).1.2.1.length g2, .slice D3 (holdP r (h1, h2, h3, h4)).1.2.2.length g3] rfl
    have HGP := grew_put (w.heap.size + 1 + 1) (by show w.heap.size ≤ _; omega) [Value.slice D1 (holdP r (h1, h2, h3, h4)).1.1.length g1, .slice D2 (holdP r (h1, h2, h3, h4)).1.2.1.length g2, .slice D3 (holdP r (h1, h2, h3, h4)).1.2.2.length g3] 0 _ HG1.out
    have Q1 := OwnE.put HRN.out [Value.slice D1 (holdP r (h1, h2, h3, h4)).1.1.length g1, .slice D2 (holdP r (h1, h2, h3, h4)).1.2.1.length g2, .slice D3 (holdP r (h1, h2, h3, h4)).1.2.2.length g3] 0 _ HO1.out.m
    have Q2 := OwnE.put HRN.out [Value.slice D1 (holdP r (h1, h2, h3, h4)).1.1.length g1, .slice D2 (holdP r (h1, h2, h3, h4)).1.2.1.length g2, .slice D3 (holdP r (h1, h2, h3, h4)).1.2.2.length g3] 0 _ HO1.out.i
    have Q3 := OwnE.put HRN.out [Value.slice D1 (holdP r (h1, h2, h3, h4)).1.1.length g1, .slice D2 (holdP r (h1, h2, h3, h4)).1.2.1.length g2, .slice D3 (holdP r (h1, h2, h3, h4)).1.2.2.length g3] 0 _ HO1.out.h
    change bodyPost _ _ _ _ _ (putC w1 (w.heap.size + 1 + 1) 0 [.slice D1 (holdP r (h1, h2, h3, h4)).1.1.length g1, .slice D2 (holdP r (h1, h2, h3, h4)).1.2.1.length g2, .slice D3 (holdP r (h1, h2, h3, h4)).1.2.2.length g3])
    generalize putC w1 (w.heap.size + 1 + 1) 0 [.slice D1 (holdP r (h1, h2, h3, h4)).1.1.length g1, .slice D2 (holdP r (h1, h2, h3, h4)).1.2.1.length g2, .slice D3 (holdP r (h1, h2, h3, h4)).1.2.2.length g3] = w9 at *
    have z0 : w9.cell? ⟨w.heap.size + 1 + 1, 0, none⟩ = _ := HP.at 0 _ rfl
    have z1 : w9.cell? ⟨w.heap.size + 1 + 1, 1, none⟩ = _ := HP.at 1 _ rfl
    have z2 : w9.cell? ⟨w.heap.size + 1 + 1, 2, none⟩ = _ := HP.at 2 _ rfl
    have HLE : w.heap.size ≤ w0.heap.size := HGI.out.size
    refine bodyPost_ret (v := .tuple #[.agg #[.slice D1 (holdP r (h1, h2, h3, h4)).1.1.length g1, .slice D2 (holdP r (h1, h2, h3, h4)).1.2.1.length g2, .slice D3 (holdP r (h1, h2, h3, h4)).1.2.2.length g3], .int .i64 (holdP r (h1, h2, h3, h4)).2]) (by simp [results, Try.results41, go_sem, z0, z1, z2]) rfl ?_
    exact ⟨D1, D2, D3, g1, g2, g3, rfl, ⟨Q1.mono HLE, Q2.mono HLE, Q3.mono HLE⟩, HGP⟩
  · have HP0 : Hid (P = tellP r aa bb) := HD.out
    rw [HP0.out]
    clear HD HP0 CA CL CH CU CP
    go_enter Try.func41, Try.ntmps41
    go_upto_region 1 with fail
    have HGI : Hid (Grew w (((w.alloc (.cells #[.slice A1 n1 c1, .slice A2 n2 c2, .slice A3 n3 c3] 26)).alloc (.cells #[.int .i64 dd, .int .i64 aa, .int .i64 bb, .int .i64 q1, .int .i64 q2, .int .i64 q3, .int .i64 q4, .int .i64 q5, .int .i64 q6, .int .i64 q7, .int .i64 q8, .int .i64 q9, .int .i64 q10, .int .i64 q11, .int .i64 q12, .int .i64 h1, .int .i64 h2, .int .i64 h3, .int .i64 h4] 64)).alloc (.cells #[.slice none 0 0, .slice none 0 0, .slice none 0 0] 26))) := grew_trans (grew_trans (grew_alloc _ _ _) (grew_alloc _ _ _)) (grew_alloc _ _ _)
    have HX0 : Hid (OwnC (((w.alloc (.cells #[.slice A1 n1 c1, .slice A2 n2 c2, .slice A3 n3 c3] 26)).alloc (.cells #[.int .i64 dd, .int .i64 aa, .int .i64 bb, .int .i64 q1, .int .i64 q2, .int .i64 q3, .int .i64 q4, .int .i64 q5, .int .i64 q6, .int .i64 q7, .int .i64 q8, .int .i64 q9, .int .i64 q10, .int .i64 q11, .int .i64 q12, .int .i64 h1, .int .i64 h2, .int .i64 h3, .int .i64 h4] 64)).alloc (.cells #[.slice none 0 0, .slice none 0 0, .slice none 0 0] 26)) w.heap.size [.slice A1 n1 c1, .slice A2 n2 c2, .slice A3 n3 c3]) := ((OwnC.new w [.slice A1 n1 c1, .slice A2 n2 c2, .slice A3 n3 c3] _ _ rfl).keep (grew_alloc _ _ _)).keep (grew_alloc _ _ _)
    have HY0 : Hid (OwnC (((w.alloc (.cells #[.slice A1 n1 c1, .slice A2 n2 c2, .slice A3 n3 c3] 26)).alloc (.cells #[.int .i64 dd, .int .i64 aa, .int .i64 bb, .int .i64 q1, .int .i64 q2, .int .i64 q3, .int .i64 q4, .int .i64 q5, .int .i64 q6, .int .i64 q7, .int .i64 q8, .int .i64 q9, .int .i64 q10, .int .i64 q11, .int .i64 q12, .int .i64 h1, .int .i64 h2, .int .i64 h3, .int .i64 h4] 64)).alloc (.cells #[.slice none 0 0, .slice none 0 0, .slice none 0 0] 26)) (w.heap.size + 1 + 1) [.slice none 0 0, .slice none 0 0, .slice none 0 0]) := OwnC.new _ [.slice none 0 0, .slice none 0 0, .slice none 0 0] _ _ (by simp)
    have HM0 : Hid (OwnC (((w.alloc (.cells #[.slice A1 n1 c1, .slice A2 n2 c2, .slice A3 n3 c3] 26)).alloc (.cells #[.int .i64 dd, .int .i64 aa, .int .i64 bb, .int .i64 q1, .int .i64 q2, .int .i64 q3, .int .i64 q4, .int .i64 q5, .int .i64 q6, .int .i64 q7, .int .i64 q8, .int .i64 q9, .int .i64 q10, .int .i64 q11, .int .i64 q12, .int .i64 h1, .int .i64 h2, .int .i64 h3, .int .i64 h4] 64)).alloc (.cells #[.slice none 0 0, .slice none 0 0, .slice none 0 0] 26)) (w.heap.size + 1) [.int .i64 dd, .int .i64 aa, .int .i64 bb, .int .i64 q1, .int .i64 q2, .int .i64 q3, .int .i64 q4, .int .i64 q5, .int .i64 q6, .int .i64 q7, .int .i64 q8, .int .i64 q9, .int .i64 q10, .int .i64 q11, .int .i64 q12, .int .i64 h1, .int .i64 h2, .int .i64 h3, .int .i64 h4]) := (OwnC.new _ [.int .i64 dd, .int .i64 aa, .int .i64 bb, .int .i64 q1, .int .i64 q2, .int .i64 q3, .int .i64 q4, .int .i64 q5, .int .i64 q6, .int .i64 q7, .int .i64 q8, .int .i64 q9, .int .i64 q10, .int .i64 q11, .int .i64 q12, .int .i64 h1, .int .i64 h2, .int .i64 h3, .int .i64 h4] _ _ (by simp)).keep (grew_alloc _ _ _)
    generalize (((w.alloc (.cells #[.slice A1 n1 c1, .slice A2 n2 c2, .slice A3 n3 c3] 26)).alloc (.cells #[.int .i64 dd, .int .i64 aa, .int .i64 bb, .int .i64 q1, .int .i64 q2, .int .i64 q3, .int .i64 q4, .int .i64 q5, .int .i64 q6, .int .i64 q7, .int .i64 q8, .int .i64 q9, .int .i64 q10, .int .i64 q11, .int .i64 q12, .int .i64 h1, .int .i64 h2, .int .i64 h3, .int .i64 h4] 64)).alloc (.cells #[.slice none 0 0, .slice none 0 0, .slice none 0 0] 26)) = w0 at *
    have x0 : w0.cell? ⟨w.heap.size, 0, none⟩ = some (.slice A1 n1 c1) := HX0.out.at 0 _ rfl
    have x1 : w0.cell? ⟨w.heap.size, 1, none⟩ = some (.slice A2 n2 c2) := HX0.out.at 1 _ rfl
    have x2 : w0.cell? ⟨w.heap.size, 2, none⟩ = some (.slice A3 n3 c3) := HX0.out.at 2 _ rfl
    have m0 : w0.cell? ⟨w.heap.size + 1, 0, none⟩ = some (.int .i64 dd) := HM0.out.at 0 _ rfl
    have m1 : w0.cell? ⟨w.heap.size + 1, 1, none⟩ = some (.int .i64 aa) := HM0.out.at 1 _ rfl
    have m2 : w0.cell? ⟨w.heap.size + 1, 2, none⟩ = some (.int .i64 bb) := HM0.out.at 2 _ rfl
    have m3 : w0.cell? ⟨w.heap.size + 1, 3, none⟩ = some (.int .i64 q1) := HM0.out.at 3 _ rfl
    have m4 : w0.cell? ⟨w.heap.size + 1, 4, none⟩ = some (.int .i64 q2) := HM0.out.at 4 _ rfl
    have m5 : w0.cell? ⟨w.heap.size + 1, 5, none⟩ = some (.int .i64 q3) := HM0.out.at 5 _ rfl
    have m6 : w0.cell? ⟨w.heap.size + 1, 6, none⟩ = some (.int .i64 q4) := HM0.out.at 6 _ rfl
    have m7 : w0.cell? ⟨w.heap.size + 1, 7, none⟩ = some (.int .i64 q5) := HM0.out.at 7 _ rfl
    have m8 : w0.cell? ⟨w.heap.size + 1, 8, none⟩ = some (.int .i64 q6) := HM0.out.at 8 _ rfl
    have m9 : w0.cell? ⟨w.heap.size + 1, 9, none⟩ = some (.int .i64 q7) := HM0.out.at 9 _ rfl
    have m10 : w0.cell? ⟨w.heap.size + 1, 10, none⟩ = some (.int .i64 q8) := HM0.out.at 10 _ rfl
    have m11 : w0.cell? ⟨w.heap.size + 1, 11, none⟩ = some (.int .i64 q9) := HM0.out.at 11 _ rfl
    have m12 : w0.cell? ⟨w.heap.size + 1, 12, none⟩ = some (.int .i64 q10) := HM0.out.at 12 _ rfl
    have m13 : w0.cell? ⟨w.heap.size + 1, 13, none⟩ = some (.int .i64 q11) := HM0.out.at 13 _ rfl
    have m14 : w0.cell? ⟨w.heap.size + 1, 14, none⟩ = some (.int .i64 q12) := HM0.out.at 14 _ rfl
    have m15 : w0.cell? ⟨w.heap.size + 1, 15, none⟩ = some (.int .i64 h1) := HM0.out.at 15 _ rfl
    have m16 : w0.cell? ⟨w.heap.size + 1, 16, none⟩ = some (.int .i64 h2) := HM0.out.at 16 _ rfl
    have m17 : w0.cell? ⟨w.heap.size + 1, 17, none⟩ = some (.int .i64 h3) := HM0.out.at 17 _ rfl
    have m18 : w0.cell? ⟨w.heap.size + 1, 18, none⟩ = some (.int .i64 h4) := HM0.out.at 18 _ rfl
    have hK := HK.out
    have hW := HW.out
    go_wp2_with (go_at_call 37; ((with_reducible refine (CT _ HGI.out).mono ?_); rintro e w1 ⟨D1, D2, D3, g1, g2, g3, rfl, ho, hg⟩; dsimp only [rlV]; have HO1 := Lib.hid ho; have HY1 := Lib.hid (HY0.out.keep hg); have HG1 := Lib.hid (grew_trans HGI.out hg); have HRN : Hid (w.heap.size + 1 + 1 < w0.heap.size) := HY0.out.lt; have y0 : w1.cell? ⟨w.heap.size + 1 + 1, 0, none⟩ = some (.slice none 0 0) := HY1.out.at 0 _ rfl; have f0 : w1.frozen? ⟨w.heap.size + 1 + 1, 0, none⟩ = false := HY1.out.fr 0 (by decide); have y1 : w1.cell? ⟨w.heap.size + 1 + 1, 1, none⟩ = some (.slice none 0 0) := HY1.out.at 1 _ rfl; have f1 : w1.frozen? ⟨w.heap.size + 1 + 1, 1, none⟩ = false := HY1.out.fr 1 (by decide); have y2 : w1.cell? ⟨w.heap.size + 1 + 1, 2, none⟩ = some (.slice none 0 0) := HY1.out.at 2 _ rfl; have f2 : w1.frozen? ⟨w.heap.size + 1 + 1, 2, none⟩ = false := HY1.out.fr 2 (by decide); clear ho hg))
    have HP := HY1.out.all [Value.slice D1 (tellP r aa bb).1.1.length g1, .slice D2 (tellP r aa bb).1.2.1.length g2, .slice D3 (tellP r aa bb).1.2.2.length g3] rfl
    have HGP := grew_put (w.heap.size + 1 + 1) (by show w.heap.size ≤ _; omega) [Value.slice D1 (tellP r aa bb).1.1.length g1, .slice D2 (tellP r aa bb).1.2.1.length g2, .slice D3 (tellP r aa bb).1.2.2.length g3] 0 _ HG1.out
    have Q1 := OwnE.put HRN.out [Value.slice D1 (tellP r aa bb).1.1.length g1, .slice D2 (tellP r aa bb).1.2.1.length g2, .slice D3 (tellP r aa bb).1.2.2.length g3] 0 _ HO1.out.m
    have Q2 := OwnE.put HRN.out [Value.slice D1 (tellP r aa bb).1.1.length g1, .slice D2 (tellP r aa bb).1.2.1.length g2, .slice D3 (tellP r aa bb).1.2.2.length g3] 0 _ HO1.out.i
    have Q3 := OwnE.put HRN.out [Value.slice D1 (tellP r aa bb).1.1.length g1, .slice D2 (tellP r aa bb).1.2.1.length g2, .slice D3 (tellP r aa bb).1.2.2.length g3] 0 _ HO1.out.h
    change bodyPost _ _ _ _ _ (putC w1 (w.heap.size + 1 + 1) 0 [.slice D1 (tellP r aa bb).1.1.length g1, .slice D2 (tellP r aa bb).1.2.1.length g2, .slice D3 (tellP r aa bb).1.2.2.length g3])
    generalize putC w1 (w.heap.size + 1 + 1) 0 [.slice D1 (tellP r aa bb).1.1.length g1, .slice D2 (tellP r aa bb).1.2.1.length g2, .slice D3 (tellP r aa bb).1.2.2.length g3] = w9 at *
    have z0 : w9.cell? ⟨w.heap.size + 1 + 1, 0, none⟩ = _ := HP.at 0 _ rfl
    have z1 : w9.cell? ⟨w.heap.size + 1 + 1, 1, none⟩ = _ := HP.at 1 _ rfl
    have z2 : w9.cell? ⟨w.heap.size + 1 + 1, 2, none⟩ = _ := HP.at 2 _ rfl
    have HLE : w.heap.size ≤ w0.heap.size := HGI.out.size
    refine bodyPost_ret (v := .tuple #[.agg #[.slice D1 (tellP r aa bb).1.1.length g1, .slice D2 (tellP r aa bb).1.2.1.length g2, .slice D3 (tellP r aa bb).1.2.2.length g3], .int .i64 (tellP r aa bb).2]) (by simp [results, Try.results41, go_sem, z0, z1, z2]) rfl ?_
    exact ⟨D1, D2, D3, g1, g2, g3, rfl, ⟨Q1.mono HLE, Q2.mono HLE, Q3.mono HLE⟩, HGP⟩
  · have HP0 : Hid (P = (turnF r, 0)) := HD.out
    rw [HP0.out]
    clear HD HP0 CA CL CH CT CP
    go_enter Try.func41, Try.ntmps41
    go_upto_region 1 with fail
    have HGI : Hid (Grew w (((w.alloc (.cells #[.slice A1 n1 c1, .slice A2 n2 c2, .slice A3 n3 c3] 26)).alloc (.cells #[.int .i64 dd, .int .i64 aa, .int .i64 bb, .int .i64 q1, .int .i64 q2, .int .i64 q3, .int .i64 q4, .int .i64 q5, .int .i64 q6, .int .i64 q7, .int .i64 q8, .int .i64 q9, .int .i64 q10, .int .i64 q11, .int .i64 q12, .int .i64 h1, .int .i64 h2, .int .i64 h3, .int .i64 h4] 64)).alloc (.cells #[.slice none 0 0, .slice none 0 0, .slice none 0 0] 26))) := grew_trans (grew_trans (grew_alloc _ _ _) (grew_alloc _ _ _)) (grew_alloc _ _ _)
    have HX0 : Hid (OwnC (((w.alloc (.cells #[.slice A1 n1 c1, .slice A2 n2 c2, .slice A3 n3 c3] 26)).alloc (.cells #[.int .i64 dd, .int .i64 aa, .int .i64 bb, .int .i64 q1, .int .i64 q2, .int .i64 q3, .int .i64 q4, .int .i64 q5, .int .i64 q6, .int .i64 q7, .int .i64 q8, .int .i64 q9, .int .i64 q10, .int .i64 q11, .int .i64 q12, .int .i64 h1, .int .i64 h2, .int .i64 h3, .int .i64 h4] 64)).alloc (.cells #[.slice none 0 0, .slice none 0 0, .slice none 0 0] 26)) w.heap.size [.slice A1 n1 c1, .slice A2 n2 c2, .slice A3 n3 c3]) := ((OwnC.new w [.slice A1 n1 c1, .slice A2 n2 c2, .slice A3 n3 c3] _ _ rfl).keep (grew_alloc _ _ _)).keep (grew_alloc _ _ _)
    have HY0 : Hid (OwnC (((w.alloc (.cells #[.slice A1 n1 c1, .slice A2 n2 c2, .slice A3 n3 c3] 26)).alloc (.cells #[.int .i64 dd, .int .i64 aa, .int .i64 bb, .int .i64 q1, .int .i64 q2, .int .i64 q3, .int .i64 q4, .int .i64 q5, .int .i64 q6, .int .i64 q7, .int .i64 q8, .int .i64 q9, .int .i64 q10, .int .i64 q11, .int .i64 q12, .int .i64 h1, .int .i64 h2, .int .i64 h3, .int .i64 h4] 64)).alloc (.cells #[.slice none 0 0, .slice none 0 0, .slice none 0 0] 26)) (w.heap.size + 1 + 1) [.slice none 0 0, .slice none 0 0, .slice none 0 0]) := OwnC.new _ [.slice none 0 0, .slice none 0 0, .slice none 0 0] _ _ (by simp)
    have HM0 : Hid (OwnC (((w.alloc (.cells #[.slice A1 n1 c1, .slice A2 n2 c2, .slice A3 n3 c3] 26)).alloc (.cells #[.int .i64 dd, .int .i64 aa, .int .i64 bb, .int .i64 q1, .int .i64 q2, .int .i64 q3, .int .i64 q4, .int .i64 q5, .int .i64 q6, .int .i64 q7, .int .i64 q8, .int .i64 q9, .int .i64 q10, .int .i64 q11, .int .i64 q12, .int .i64 h1, .int .i64 h2, .int .i64 h3, .int .i64 h4] 64)).alloc (.cells #[.slice none 0 0, .slice none 0 0, .slice none 0 0] 26)) (w.heap.size + 1) [.int .i64 dd, .int .i64 aa, .int .i64 bb, .int .i64 q1, .int .i64 q2, .int .i64 q3, .int .i64 q4, .int .i64 q5, .int .i64 q6, .int .i64 q7, .int .i64 q8, .int .i64 q9, .int .i64 q10, .int .i64 q11, .int .i64 q12, .int .i64 h1, .int .i64 h2, .int .i64 h3, .int .i64 h4]) := (OwnC.new _ [.int .i64 dd, .int .i64 aa, .int .i64 bb, .int .i64 q1, .int .i64 q2, .int .i64 q3, .int .i64 q4, .int .i64 q5, .int .i64 q6, .int .i64 q7, .int .i64 q8, .int .i64 q9, .int .i64 q10, .int .i64 q11, .int .i64 q12, .int .i64 h1, .int .i64 h2, .int .i64 h3, .int .i64 h4] _ _ (by simp)).keep (grew_alloc _ _ _)
    generalize (((w.alloc (.cells #[.slice A1 n1 c1, .slice A2 n2 c2, .slice A3 n3 c3] 26)).alloc (.cells #[.int .i64 dd, .int .i64 aa, .int .i64 bb, .int .i64 q1, .int .i64 q2, .int .i64 q3, .int .i64 q4, .int .i64 q5, .int .i64 q6, .int .i64 q7, .int .i64 q8, .int .i64 q9, .int .i64 q10, .int .i64 q11, .int .i64 q12, .int .i64 h1, .int .i64 h2, .int .i64 h3, .int .i64 h4] 64)).alloc (.cells #[.slice none 0 0, .slice none 0 0, .slice none 0 0] 26)) = w0 at *
    have x0 : w0.cell? ⟨w.heap.size, 0, none⟩ = some (.slice A1 n1 c1) := HX0.out.at 0 _ rfl
    have x1 : w0.cell? ⟨w.heap.size, 1, none⟩ = some (.slice A2 n2 c2) := HX0.out.at 1 _ rfl
    have x2 : w0.cell? ⟨w.heap.size, 2, none⟩ = some (.slice A3 n3 c3) := HX0.out.at 2 _ rfl
    have m0 : w0.cell? ⟨w.heap.size + 1, 0, none⟩ = some (.int .i64 dd) := HM0.out.at 0 _ rfl
    have m1 : w0.cell? ⟨w.heap.size + 1, 1, none⟩ = some (.int .i64 aa) := HM0.out.at 1 _ rfl
    have m2 : w0.cell? ⟨w.heap.size + 1, 2, none⟩ = some (.int .i64 bb) := HM0.out.at 2 _ rfl
    have m3 : w0.cell? ⟨w.heap.size + 1, 3, none⟩ = some (.int .i64 q1) := HM0.out.at 3 _ rfl
    have m4 : w0.cell? ⟨w.heap.size + 1, 4, none⟩ = some (.int .i64 q2) := HM0.out.at 4 _ rfl
    have m5 : w0.cell? ⟨w.heap.size + 1, 5, none⟩ = some (.int .i64 q3) := HM0.out.at 5 _ rfl
    have m6 : w0.cell? ⟨w.heap.size + 1, 6, none⟩ = some (.int .i64 q4) := HM0.out.at 6 _ rfl
    have m7 : w0.cell? ⟨w.heap.size + 1, 7, none⟩ = some (.int .i64 q5) := HM0.out.at 7 _ rfl
    have m8 : w0.cell? ⟨w.heap.size + 1, 8, none⟩ = some (.int .i64 q6) := HM0.out.at 8 _ rfl
    have m9 : w0.cell? ⟨w.heap.size + 1, 9, none⟩ = some (.int .i64 q7) := HM0.out.at 9 _ rfl
    have m10 : w0.cell? ⟨w.heap.size + 1, 10, none⟩ = some (.int .i64 q8) := HM0.out.at 10 _ rfl
    have m11 : w0.cell? ⟨w.heap.size + 1, 11, none⟩ = some (.int .i64 q9) := HM0.out.at 11 _ rfl
    have m12 : w0.cell? ⟨w.heap.size + 1, 12, none⟩ = some (.int .i64 q10) := HM0.out.at 12 _ rfl
    have m13 : w0.cell? ⟨w.heap.size + 1, 13, none⟩ = some (.int .i64 q11) := HM0.out.at 13 _ rfl
    have m14 : w0.cell? ⟨w.heap.size + 1, 14, none⟩ = some (.int .i64 q12) := HM0.out.at 14 _ rfl
    have m15 : w0.cell? ⟨w.heap.size + 1, 15, none⟩ = some (.int .i64 h1) := HM0.out.at 15 _ rfl
    have m16 : w0.cell? ⟨w.heap.size + 1, 16, none⟩ = some (.int .i64 h2) := HM0.out.at 16 _ rfl
    have m17 : w0.cell? ⟨w.heap.size + 1, 17, none⟩ = some (.int .i64 h3) := HM0.out.at 17 _ rfl
    have m18 : w0.cell? ⟨w.heap.size + 1, 18, none⟩ = some (.int .i64 h4) := HM0.out.at 18 _ rfl
    have hK := HK.out
    have hW := HW.out
    go_wp2_with (go_at_call 22; ((with_reducible refine (CU _ HGI.out).mono ?_); rintro e w1 ⟨D1, D2, D3, g1, g2, g3, rfl, ho, hg⟩; dsimp only [rlV]; have HO1 := Lib.hid ho; have HY1 := Lib.hid (HY0.out.keep hg); have HG1 := Lib.hid (grew_trans HGI.out hg); have HRN : Hid (w.heap.size + 1 + 1 < w0.heap.size) := HY0.out.lt; have y0 : w1.cell? ⟨w.heap.size + 1 + 1, 0, none⟩ = some (.slice none 0 0) := HY1.out.at 0 _ rfl; have f0 : w1.frozen? ⟨w.heap.size + 1 + 1, 0, none⟩ = false := HY1.out.fr 0 (by decide); have y1 : w1.cell? ⟨w.heap.size + 1 + 1, 1, none⟩ = some (.slice none 0 0) := HY1.out.at 1 _ rfl; have f1 : w1.frozen? ⟨w.heap.size + 1 + 1, 1, none⟩ = false := HY1.out.fr 1 (by decide); have y2 : w1.cell? ⟨w.heap.size + 1 + 1, 2, none⟩ = some (.slice none 0 0) := HY1.out.at 2 _ rfl; have f2 : w1.frozen? ⟨w.heap.size + 1 + 1, 2, none⟩ = false := HY1.out.fr 2 (by decide); clear ho hg))
    have HP := HY1.out.all [Value.slice D1 (turnF r, (0 : Int)).1.1.length g1, .slice D2 (turnF r, (0 : Int)).1.2.1.length g2, .slice D3 (turnF r, (0 : Int)).1.2.2.length g3] rfl
    have HGP := grew_put (w.heap.size + 1 + 1) (by show w.heap.size ≤ _; omega) [Value.slice D1 (turnF r, (0 : Int)).1.1.length g1, .slice D2 (turnF r, (0 : Int)).1.2.1.length g2, .slice D3 (turnF r, (0 : Int)).1.2.2.length g3] 0 _ HG1.out
    have Q1 := OwnE.put HRN.out [Value.slice D1 (turnF r, (0 : Int)).1.1.length g1, .slice D2 (turnF r, (0 : Int)).1.2.1.length g2, .slice D3 (turnF r, (0 : Int)).1.2.2.length g3] 0 _ HO1.out.m
    have Q2 := OwnE.put HRN.out [Value.slice D1 (turnF r, (0 : Int)).1.1.length g1, .slice D2 (turnF r, (0 : Int)).1.2.1.length g2, .slice D3 (turnF r, (0 : Int)).1.2.2.length g3] 0 _ HO1.out.i
    have Q3 := OwnE.put HRN.out [Value.slice D1 (turnF r, (0 : Int)).1.1.length g1, .slice D2 (turnF r, (0 : Int)).1.2.1.length g2, .slice D3 (turnF r, (0 : Int)).1.2.2.length g3] 0 _ HO1.out.h
    change bodyPost _ _ _ _ _ (putC w1 (w.heap.size + 1 + 1) 0 [.slice D1 (turnF r, (0 : Int)).1.1.length g1, .slice D2 (turnF r, (0 : Int)).1.2.1.length g2, .slice D3 (turnF r, (0 : Int)).1.2.2.length g3])
    generalize putC w1 (w.heap.size + 1 + 1) 0 [.slice D1 (turnF r, (0 : Int)).1.1.length g1, .slice D2 (turnF r, (0 : Int)).1.2.1.length g2, .slice D3 (turnF r, (0 : Int)).1.2.2.length g3] = w9 at *
    have z0 : w9.cell? ⟨w.heap.size + 1 + 1, 0, none⟩ = _ := HP.at 0 _ rfl
    have z1 : w9.cell? ⟨w.heap.size + 1 + 1, 1, none⟩ = _ := HP.at 1 _ rfl
    have z2 : w9.cell? ⟨w.heap.size + 1 + 1, 2, none⟩ = _ := HP.at 2 _ rfl
    have HLE : w.heap.size ≤ w0.heap.size := HGI.out.size
    refine bodyPost_ret (v := .tuple #[.agg #[.slice D1 (turnF r, (0 : Int)).1.1.length g1, .slice D2 (turnF r, (0 : Int)).1.2.1.length g2, .slice D3 (turnF r, (0 : Int)).1.2.2.length g3], .int .i64 0]) (by simp [results, Try.results41, go_sem, z0, z1, z2]) rfl ?_
    exact ⟨D1, D2, D3, g1, g2, g3, rfl, ⟨Q1.mono HLE, Q2.mono HLE, Q3.mono HLE⟩, HGP⟩
  · have HP0 : Hid (P = putP r aa bb) := HD.out
    rw [HP0.out]
    clear HD HP0 CA CL CH CT CU
    go_enter Try.func41, Try.ntmps41
    go_upto_region 1 with fail
    have HGI : Hid (Grew w (((w.alloc (.cells #[.slice A1 n1 c1, .slice A2 n2 c2, .slice A3 n3 c3] 26)).alloc (.cells #[.int .i64 dd, .int .i64 aa, .int .i64 bb, .int .i64 q1, .int .i64 q2, .int .i64 q3, .int .i64 q4, .int .i64 q5, .int .i64 q6, .int .i64 q7, .int .i64 q8, .int .i64 q9, .int .i64 q10, .int .i64 q11, .int .i64 q12, .int .i64 h1, .int .i64 h2, .int .i64 h3, .int .i64 h4] 64)).alloc (.cells #[.slice none 0 0, .slice none 0 0, .slice none 0 0] 26))) := grew_trans (grew_trans (grew_alloc _ _ _) (grew_alloc _ _ _)) (grew_alloc _ _ _)
    have HX0 : Hid (OwnC (((w.alloc (.cells #[.slice A1 n1 c1, .slice A2 n2 c2, .slice A3 n3 c3] 26)).alloc (.cells #[.int .i64 dd, .int .i64 aa, .int .i64 bb, .int .i64 q1, .int .i64 q2, .int .i64 q3, .int .i64 q4, .int .i64 q5, .int .i64 q6, .int .i64 q7, .int .i64 q8, .int .i64 q9, .int .i64 q10, .int .i64 q11, .int .i64 q12, .int .i64 h1, .int .i64 h2, .int .i64 h3, .int .i64 h4] 64)).alloc (.cells #[.slice none 0 0, .slice none 0 0, .slice none 0 0] 26)) w.heap.size [.slice A1 n1 c1, .slice A2 n2 c2, .slice A3 n3 c3]) := ((OwnC.new w [.slice A1 n1 c1, .slice A2 n2 c2, .slice A3 n3 c3] _ _ rfl).keep (grew_alloc _ _ _)).keep (grew_alloc _ _ _)
    have HY0 : Hid (OwnC (((w.alloc (.cells #[.slice A1 n1 c1, .slice A2 n2 c2, .slice A3 n3 c3] 26)).alloc (.cells #[.int .i64 dd, .int .i64 aa, .int .i64 bb, .int .i64 q1, .int .i64 q2, .int .i64 q3, .int .i64 q4, .int .i64 q5, .int .i64 q6, .int .i64 q7, .int .i64 q8, .int .i64 q9, .int .i64 q10, .int .i64 q11, .int .i64 q12, .int .i64 h1, .int .i64 h2, .int .i64 h3, .int .i64 h4] 64)).alloc (.cells #[.slice none 0 0, .slice none 0 0, .slice none 0 0] 26)) (w.heap.size + 1 + 1) [.slice none 0 0, .slice none 0 0, .slice none 0 0]) := OwnC.new _ [.slice none 0 0, .slice none 0 0, .slice none 0 0] _ _ (by simp)
    have HM0 : Hid (OwnC (((w.alloc (.cells #[.slice A1 n1 c1, .slice A2 n2 c2, .slice A3 n3 c3] 26)).alloc (.cells #[.int .i64 dd, .int .i64 aa, .int .i64 bb, .int .i64 q1, .int .i64 q2, .int .i64 q3, .int .i64 q4, .int .i64 q5, .int .i64 q6, .int .i64 q7, .int .i64 q8, .int .i64 q9, .int .i64 q10, .int .i64 q11, .int .i64 q12, .int .i64 h1, .int .i64 h2, .int .i64 h3, .int .i64 h4] 64)).alloc (.cells #[.slice none 0 0, .slice none 0 0, .slice none 0 0] 26)) (w.heap.size + 1) [.int .i64 dd, .int .i64 aa, .int .i64 bb, .int .i64 q1, .int .i64 q2, .int .i64 q3, .int .i64 q4, .int .i64 q5, .int .i64 q6, .int .i64 q7, .int .i64 q8, .int .i64 q9, .int .i64 q10, .int .i64 q11, .int .i64 q12, .int .i64 h1, .int .i64 h2, .int .i64 h3, .int .i64 h4]) := (OwnC.new _ [.int .i64 dd, .int .i64 aa, .int .i64 bb, .int .i64 q1, .int .i64 q2, .int .i64 q3, .int .i64 q4, .int .i64 q5, .int .i64 q6, .int .i64 q7, .int .i64 q8, .int .i64 q9, .int .i64 q10, .int .i64 q11, .int .i64 q12, .int .i64 h1, .int .i64 h2, .int .i64 h3, .int .i64 h4] _ _ (by simp)).keep (grew_alloc _ _ _)
    generalize (((w.alloc (.cells #[.slice A1 n1 c1, .slice A2 n2 c2, .slice A3 n3 c3] 26)).alloc (.cells #[.int .i64 dd, .int .i64 aa, .int .i64 bb, .int .i64 q1, .int .i64 q2, .int .i64 q3, .int .i64 q4, .int .i64 q5, .int .i64 q6, .int .i64 q7, .int .i64 q8, .int .i64 q9, .int .i64 q10, .int .i64 q11, .int .i64 q12, .int .i64 h1, .int .i64 h2, .int .i64 h3, .int .i64 h4] 64)).alloc (.cells #[.slice none 0 0, .slice none 0 0, .slice none 0 0] 26)) = w0 at *
    have x0 : w0.cell? ⟨w.heap.size, 0, none⟩ = some (.slice A1 n1 c1) := HX0.out.at 0 _ rfl
    have x1 : w0.cell? ⟨w.heap.size, 1, none⟩ = some (.slice A2 n2 c2) := HX0.out.at 1 _ rfl
    have x2 : w0.cell? ⟨w.heap.size, 2, none⟩ = some (.slice A3 n3 c3) := HX0.out.at 2 _ rfl
    have m0 : w0.cell? ⟨w.heap.size + 1, 0, none⟩ = some (.int .i64 dd) := HM0.out.at 0 _ rfl
    have m1 : w0.cell? ⟨w.heap.size + 1, 1, none⟩ = some (.int .i64 aa) := HM0.out.at 1 _ rfl
    have m2 : w0.cell? ⟨w.heap.size + 1, 2, none⟩ = some (.int .i64 bb) := HM0.out.at 2 _ rfl
    have m3 : w0.cell? ⟨w.heap.size + 1, 3, none⟩ = some (.int .i64 q1) := HM0.out.at 3 _ rfl
    have m4 : w0.cell? ⟨w.heap.size + 1, 4, none⟩ = some (.int .i64 q2) := HM0.out.at 4 _ rfl
    have m5 : w0.cell? ⟨w.heap.size + 1, 5, none⟩ = some (.int .i64 q3) := HM0.out.at 5 _ rfl
    have m6 : w0.cell? ⟨w.heap.size + 1, 6, none⟩ = some (.int .i64 q4) := HM0.out.at 6 _ rfl
    have m7 : w0.cell? ⟨w.heap.size + 1, 7, none⟩ = some (.int .i64 q5) := HM0.out.at 7 _ rfl
    have m8 : w0.cell? ⟨w.heap.size + 1, 8, none⟩ = some (.int .i64 q6) := HM0.out.at 8 _ rfl
    have m9 : w0.cell? ⟨w.heap.size + 1, 9, none⟩ = some (.int .i64 q7) := HM0.out.at 9 _ rfl
    have m10 : w0.cell? ⟨w.heap.size + 1, 10, none⟩ = some (.int .i64 q8) := HM0.out.at 10 _ rfl
    have m11 : w0.cell? ⟨w.heap.size + 1, 11, none⟩ = some (.int .i64 q9) := HM0.out.at 11 _ rfl
    have m12 : w0.cell? ⟨w.heap.size + 1, 12, none⟩ = some (.int .i64 q10) := HM0.out.at 12 _ rfl
    have m13 : w0.cell? ⟨w.heap.size + 1, 13, none⟩ = some (.int .i64 q11) := HM0.out.at 13 _ rfl
    have m14 : w0.cell? ⟨w.heap.size + 1, 14, none⟩ = some (.int .i64 q12) := HM0.out.at 14 _ rfl
    have m15 : w0.cell? ⟨w.heap.size + 1, 15, none⟩ = some (.int .i64 h1) := HM0.out.at 15 _ rfl
    have m16 : w0.cell? ⟨w.heap.size + 1, 16, none⟩ = some (.int .i64 h2) := HM0.out.at 16 _ rfl
    have m17 : w0.cell? ⟨w.heap.size + 1, 17, none⟩ = some (.int .i64 h3) := HM0.out.at 17 _ rfl
    have m18 : w0.cell? ⟨w.heap.size + 1, 18, none⟩ = some (.int .i64 h4) := HM0.out.at 18 _ rfl
    have hK := HK.out
    have hW := HW.out
    go_wp2_with (go_at_call 39; ((with_reducible refine (CP _ HGI.out).mono ?_); rintro e w1 ⟨D1, D2, D3, g1, g2, g3, rfl, ho, hg⟩; dsimp only [rlV]; have HO1 := Lib.hid ho; have HY1 := Lib.hid (HY0.out.keep hg); have HG1 := Lib.hid (grew_trans HGI.out hg); have HRN : Hid (w.heap.size + 1 + 1 < w0.heap.size) := HY0.out.lt; have y0 : w1.cell? ⟨w.heap.size + 1 + 1, 0, none⟩ = some (.slice none 0 0) := HY1.out.at 0 _ rfl; have f0 : w1.frozen? ⟨w.heap.size + 1 + 1, 0, none⟩ = false := HY1.out.fr 0 (by decide); have y1 : w1.cell? ⟨w.heap.size + 1 + 1, 1, none⟩ = some (.slice none 0 0) := HY1.out.at 1 _ rfl; have f1 : w1.frozen? ⟨w.heap.size + 1 + 1, 1, none⟩ = false := HY1.out.fr 1 (by decide); have y2 : w1.cell? ⟨w.heap.size + 1 + 1, 2, none⟩ = some (.slice none 0 0) := HY1.out.at 2 _ rfl; have f2 : w1.frozen? ⟨w.heap.size + 1 + 1, 2, none⟩ = false := HY1.out.fr 2 (by decide); clear ho hg))
    have HP := HY1.out.all [Value.slice D1 (putP r aa bb).1.1.length g1, .slice D2 (putP r aa bb).1.2.1.length g2, .slice D3 (putP r aa bb).1.2.2.length g3] rfl
    have HGP := grew_put (w.heap.size + 1 + 1) (by show w.heap.size ≤ _; omega) [Value.slice D1 (putP r aa bb).1.1.length g1, .slice D2 (putP r aa bb).1.2.1.length g2, .slice D3 (putP r aa bb).1.2.2.length g3] 0 _ HG1.out
    have Q1 := OwnE.put HRN.out [Value.slice D1 (putP r aa bb).1.1.length g1, .slice D2 (putP r aa bb).1.2.1.length g2, .slice D3 (putP r aa bb).1.2.2.length g3] 0 _ HO1.out.m
    have Q2 := OwnE.put HRN.out [Value.slice D1 (putP r aa bb).1.1.length g1, .slice D2 (putP r aa bb).1.2.1.length g2, .slice D3 (putP r aa bb).1.2.2.length g3] 0 _ HO1.out.i
    have Q3 := OwnE.put HRN.out [Value.slice D1 (putP r aa bb).1.1.length g1, .slice D2 (putP r aa bb).1.2.1.length g2, .slice D3 (putP r aa bb).1.2.2.length g3] 0 _ HO1.out.h
    change bodyPost _ _ _ _ _ (putC w1 (w.heap.size + 1 + 1) 0 [.slice D1 (putP r aa bb).1.1.length g1, .slice D2 (putP r aa bb).1.2.1.length g2, .slice D3 (putP r aa bb).1.2.2.length g3])
    generalize putC w1 (w.heap.size + 1 + 1) 0 [.slice D1 (putP r aa bb).1.1.length g1, .slice D2 (putP r aa bb).1.2.1.length g2, .slice D3 (putP r aa bb).1.2.2.length g3] = w9 at *
    have z0 : w9.cell? ⟨w.heap.size + 1 + 1, 0, none⟩ = _ := HP.at 0 _ rfl
    have z1 : w9.cell? ⟨w.heap.size + 1 + 1, 1, none⟩ = _ := HP.at 1 _ rfl
    have z2 : w9.cell? ⟨w.heap.size + 1 + 1, 2, none⟩ = _ := HP.at 2 _ rfl
    have HLE : w.heap.size ≤ w0.heap.size := HGI.out.size
    refine bodyPost_ret (v := .tuple #[.agg #[.slice D1 (putP r aa bb).1.1.length g1, .slice D2 (putP r aa bb).1.2.1.length g2, .slice D3 (putP r aa bb).1.2.2.length g3], .int .i64 (putP r aa bb).2]) (by simp [results, Try.results41, go_sem, z0, z1, z2]) rfl ?_
    exact ⟨D1, D2, D3, g1, g2, g3, rfl, ⟨Q1.mono HLE, Q2.mono HLE, Q3.mono HLE⟩, HGP⟩
end Go.Proofs.Ytnbgbfbiieimgaa.NumK
