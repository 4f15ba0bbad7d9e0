/- keep's Reply, Seats, State. -/
import Derived.Test.YtodnllopokoicaaGreatRH29
import Derived.Test.YtodnllopokoicaaGreatRH18
namespace Go.Proofs.YtodnllopokoicaaGreat.NumK
open Go.RowKit
set_option linter.unusedVariables false

set_option maxRecDepth 100000 in
set_option maxHeartbeats 4000000 in
theorem kreply_yes (q1 q2 q3 : Int) (D1 D2 F1 F2 : Option Addr) (n c d m e f : Nat) (ds : List D3) (fs : List F8) (w : World) (h1 : RowE enD3 w D1 n ds) (h2 : RowE enD3 w D2 n ds) (h3 : RowE enF8 w F1 m fs) (h4 : RowE enF8 w F2 m fs) (hn : n * 24 ≤ 140737488355328) (hm : m * 64 ≤ 140737488355328) :
    Calls Tryz.prog 108 #[.agg #[.int .i64 q1, .int .i64 q2, .int .i64 q3, .slice D1 n c, .slice F1 m e], .agg #[.int .i64 q1, .int .i64 q2, .int .i64 q3, .slice D2 n d, .slice F2 m f]] w fun e w' => e = .returned (.bool true) ∧ Grew w w' := by
  have C1 := fun w' (g : Grew w w') => kdues_yes D1 D2 n c d ds w' (h1.keep g) (h2.keep g) (by omega)
  have C2 := fun w' (g : Grew w w') => kfalls_yes F1 F2 m e f fs w' (h3.keep g) (h4.keep g) (by omega)
  clear h1 h2 h3 h4
  have HX0 : Hid (OwnC ((w.alloc (.cells #[.int .i64 q1, .int .i64 q2, .int .i64 q3, .slice D1 n c, .slice F1 m e] 63)).alloc (.cells #[.int .i64 q1, .int .i64 q2, .int .i64 q3, .slice D2 n d, .slice F2 m f] 63)) w.heap.size [.int .i64 q1, .int .i64 q2, .int .i64 q3, .slice D1 n c, .slice F1 m e]) := (OwnC.new w [.int .i64 q1, .int .i64 q2, .int .i64 q3, .slice D1 n c, .slice F1 m e] _ _ rfl).keep (grew_alloc _ _ _)
  have HY0 : Hid (OwnC ((w.alloc (.cells #[.int .i64 q1, .int .i64 q2, .int .i64 q3, .slice D1 n c, .slice F1 m e] 63)).alloc (.cells #[.int .i64 q1, .int .i64 q2, .int .i64 q3, .slice D2 n d, .slice F2 m f] 63)) (w.heap.size + 1) [.int .i64 q1, .int .i64 q2, .int .i64 q3, .slice D2 n d, .slice F2 m f]) := OwnC.new _ [.int .i64 q1, .int .i64 q2, .int .i64 q3, .slice D2 n d, .slice F2 m f] _ _ (by simp)
  have HG0 : Hid (Grew w ((w.alloc (.cells #[.int .i64 q1, .int .i64 q2, .int .i64 q3, .slice D1 n c, .slice F1 m e] 63)).alloc (.cells #[.int .i64 q1, .int .i64 q2, .int .i64 q3, .slice D2 n d, .slice F2 m f] 63))) := grew_trans (grew_alloc _ _ _) (grew_alloc _ _ _)
  go_enter Tryz.func108, Tryz.ntmps108
  go_upto_region 1 with (fail)
  generalize ((w.alloc (.cells #[.int .i64 q1, .int .i64 q2, .int .i64 q3, .slice D1 n c, .slice F1 m e] 63)).alloc (.cells #[.int .i64 q1, .int .i64 q2, .int .i64 q3, .slice D2 n d, .slice F2 m f] 63)) = w0 at *
  generalize w.heap.size + 1 = M at *
  generalize w.heap.size = N at *
  have x0 := HX0.out.at 0 _ rfl; have x1 := HX0.out.at 1 _ rfl; have x2 := HX0.out.at 2 _ rfl; have x3 := HX0.out.at 3 _ rfl; have x4 := HX0.out.at 4 _ rfl
  have y0 := HY0.out.at 0 _ rfl; have y1 := HY0.out.at 1 _ rfl; have y2 := HY0.out.at 2 _ rfl; have y3 := HY0.out.at 3 _ rfl; have y4 := HY0.out.at 4 _ rfl
  go_wp2_with (first
    | (go_at_call 138; ((with_reducible refine (C1 _ HG0.out).mono ?_); rintro e w1 ⟨rfl, hg⟩; have HX1 := Lib.hid (HX0.out.keep hg); have HY1 := Lib.hid (HY0.out.keep hg); have HG1 := Lib.hid (grew_trans HG0.out hg); clear hg C1 x0 x1 x2 x3 x4 y0 y1 y2 y3 y4 HX0 HY0 HG0; have x4 := HX1.out.at 4 _ rfl; have y4 := HY1.out.at 4 _ rfl))
    | (go_at_call 139; ((with_reducible refine (C2 _ HG1.out).mono ?_); rintro e w2 ⟨rfl, hg⟩; have HG2 := Lib.hid (grew_trans HG1.out hg); clear hg C2)))
  go_ret
  exact ⟨rfl, HG2.out⟩

/-- Two seats that tell the same. -/
def SameS (w : World) (x y : Se7) (z : List D3 × List F8) : Prop :=
  (x.1 = y.1 ∧ x.2.1 = y.2.1 ∧ x.2.2.1 = y.2.2.1 ∧ x.2.2.2.1 = y.2.2.2.1 ∧ x.2.2.2.2.1 = y.2.2.2.2.1 ∧ x.2.2.2.2.2.1.2.1 = y.2.2.2.2.2.1.2.1 ∧ x.2.2.2.2.2.2.2.1 = y.2.2.2.2.2.2.2.1) ∧ RowE enD3 w x.2.2.2.2.2.1.1 x.2.2.2.2.2.1.2.1 z.1 ∧ RowE enF8 w x.2.2.2.2.2.2.1 x.2.2.2.2.2.2.2.1 z.2
theorem SameS.keep {w w' : World} {x y : Se7} {z : List D3 × List F8} (h : SameS w x y z) (g : Grew w w') : SameS w' x y z := ⟨h.1, h.2.1.keep g, h.2.2.keep g⟩

set_option maxRecDepth 100000 in
set_option maxHeartbeats 4000000 in
theorem kseats_yes (A B : Option Addr) (n c d : Nat) (xs ys : List Se7) (zs : List (List D3 × List F8)) (w : World) (h : RowE enSe w A n xs) (h2 : RowE enSe w B n ys) (hs : ∀ i, i < n → SameS w (xs.getD i se0) (ys.getD i se0) (zs.getD i ([], []))) (hy : ∀ i, i < n → SeatI w (ys.getD i se0) (zs.getD i ([], [])).1 (zs.getD i ([], [])).2) (hn : n ≤ 1000000) :
    Calls Tryz.prog 46 #[.slice A n c, .slice B n d] w fun e w' => e = .returned (.bool true) ∧ Grew w w' := by
  have HI := Lib.hid h
  have HJ := Lib.hid h2
  have HS := Lib.hid hs
  have HY := Lib.hid hy
  clear h h2 hs hy
  go_enter Tryz.func46, Tryz.ntmps46
  go_wp2
  go_loopw [5] (fun v wr => ∃ j : Nat, v = .int .i64 j ∧ j ≤ n ∧ Hid (Grew w wr)) (fun v _ => n - (intOf v).toNat)
  case atStart => exact ⟨0, rfl, by omega, grew_refl _⟩
  case round =>
    obtain ⟨j, rfl, hj, HG⟩ := hrel
    by_cases hlt : j < n
    · obtain ⟨b, o, rfl, hb, hc⟩ := (HI.out.keep HG.out).rSe hlt
      obtain ⟨b2, o2, rfl, hb2, hc2⟩ := (HJ.out.keep HG.out).rSe hlt
      obtain ⟨a0, a1, a2, a3, a4, a5, a6⟩ := hc j hlt
      obtain ⟨e0, e1, e2, e3, e4, e5, e6⟩ := hc2 j hlt
      obtain ⟨⟨p1, p2, p3, p4, p5, p6, p7⟩, p8, p9⟩ := (HS.out j hlt).keep HG.out
      obtain ⟨s1, s2, -, -, s5, s6⟩ := (HY.out j hlt).keep HG.out
      clear hc hc2
      have i0 : (0 : Int) ≤ (j : Int) := by omega
      have i1 : (j : Int) < (n : Int) := by omega
      generalize xs.getD j se0 = x at *
      generalize ys.getD j se0 = y at *
      obtain ⟨x1, x2, x3, x4, x5, ⟨xa, xn, xc⟩, ⟨xb, xm, xk⟩⟩ := x
      obtain ⟨q1, q2, q3, q4, q5, ⟨ya, yn, yc⟩, ⟨yb, ym, yk⟩⟩ := y
      dsimp only at a0 a1 a2 a3 a4 a5 a6 e0 e1 e2 e3 e4 e5 e6 p1 p2 p3 p4 p5 p6 p7 p8 p9 s1 s2 s5 s6
      subst p1 p2 p3 p4 p5 p6 p7
      have CX := fun w' (g : Grew wr w') => kreply_yes x3 x4 x5 xa ya xb yb xn xc yc xm xk yk _ _ w' (p8.keep g) (s1.keep g) (p9.keep g) (s2.keep g) s5 s6
      clear p8 p9 s1 s2 s5 s6
      have X0 : ∀ p : GrewTo wr, p.to.cell? ⟨b, o + j * 7, none⟩ = _ := fun p => (grew_cell p.h (p := ⟨b, _, none⟩) hb).trans a0; have X1 : ∀ p : GrewTo wr, p.to.cell? ⟨b, o + j * 7 + 1, none⟩ = _ := fun p => (grew_cell p.h (p := ⟨b, _, none⟩) hb).trans a1; have X2 : ∀ p : GrewTo wr, p.to.cell? ⟨b, o + j * 7 + 2, none⟩ = _ := fun p => (grew_cell p.h (p := ⟨b, _, none⟩) hb).trans a2; have X3 : ∀ p : GrewTo wr, p.to.cell? ⟨b, o + j * 7 + 3, none⟩ = _ := fun p => (grew_cell p.h (p := ⟨b, _, none⟩) hb).trans a3; have X4 : ∀ p : GrewTo wr, p.to.cell? ⟨b, o + j * 7 + 4, none⟩ = _ := fun p => (grew_cell p.h (p := ⟨b, _, none⟩) hb).trans a4; have X5 : ∀ p : GrewTo wr, p.to.cell? ⟨b, o + j * 7 + 5, none⟩ = _ := fun p => (grew_cell p.h (p := ⟨b, _, none⟩) hb).trans a5; have X6 : ∀ p : GrewTo wr, p.to.cell? ⟨b, o + j * 7 + 6, none⟩ = _ := fun p => (grew_cell p.h (p := ⟨b, _, none⟩) hb).trans a6
      have Y0 : ∀ p : GrewTo wr, p.to.cell? ⟨b2, o2 + j * 7, none⟩ = _ := fun p => (grew_cell p.h (p := ⟨b2, _, none⟩) hb2).trans e0; have Y1 : ∀ p : GrewTo wr, p.to.cell? ⟨b2, o2 + j * 7 + 1, none⟩ = _ := fun p => (grew_cell p.h (p := ⟨b2, _, none⟩) hb2).trans e1; have Y2 : ∀ p : GrewTo wr, p.to.cell? ⟨b2, o2 + j * 7 + 2, none⟩ = _ := fun p => (grew_cell p.h (p := ⟨b2, _, none⟩) hb2).trans e2; have Y3 : ∀ p : GrewTo wr, p.to.cell? ⟨b2, o2 + j * 7 + 3, none⟩ = _ := fun p => (grew_cell p.h (p := ⟨b2, _, none⟩) hb2).trans e3; have Y4 : ∀ p : GrewTo wr, p.to.cell? ⟨b2, o2 + j * 7 + 4, none⟩ = _ := fun p => (grew_cell p.h (p := ⟨b2, _, none⟩) hb2).trans e4; have Y5 : ∀ p : GrewTo wr, p.to.cell? ⟨b2, o2 + j * 7 + 5, none⟩ = _ := fun p => (grew_cell p.h (p := ⟨b2, _, none⟩) hb2).trans e5; have Y6 : ∀ p : GrewTo wr, p.to.cell? ⟨b2, o2 + j * 7 + 6, none⟩ = _ := fun p => (grew_cell p.h (p := ⟨b2, _, none⟩) hb2).trans e6
      clear a0 a1 a2 a3 a4 a5 a6 e0 e1 e2 e3 e4 e5 e6 hb hb2
      go_wp2_with fail
      refine wp_region_grew (by kernel_rfl) (by kernel_rfl) ?_
      repeat (go_big_quiet_step (with_reducible exact calls_every CX))
      refine wpQuiet_nil ?_
      intro w5 hw'
      have HG5 := Lib.hid (grew_of hw')
      clear hw' X0 X1 X2 X3 X4 X5 X6 Y0 Y1 Y2 Y3 Y4 Y5 Y6
      go_wp2
      go_roundw
      case rel => exact ⟨j + 1, by go_num, by omega, grew_trans HG.out HG5.out⟩
      case measure => simp only [intOf]; omega
    · obtain rfl : j = n := by omega
      go_wp2
      go_ret
      exact ⟨rfl, HG.out⟩

set_option maxRecDepth 100000 in
set_option maxHeartbeats 8000000 in
theorem kstate_yes (t1 t2 t3 nx last : Int) (A1 A2 A3 E1 E2 L P Q1 Q2 Q3 R1 R2 R3 G1 G2 H1 P2 Q4 Q5 Q6 : Option Addr) (n1 n2 n3 c1 c2 c3 m1 m2 k1 k2 nl cl np cp u1 v1 u2 v2 u3 v3 d1 d2 d3 e1 e2 f1 f2 f3 f4 f5 : Nat)
    (r : Rl) (lt : List Tr) (ps : List Po) (lg : List Lg) (pl : List Pg) (cl4 : List C4) (bd5 : List B5) (xs ys : List Se7) (zs : List (List D3 × List F8)) (w : World)
    (hr : Rows3 w r A1 A2 A3 n1 n2 n3) (hr2 : Rows3 w r R1 R2 R3 n1 n2 n3) (ht : RowE enTr w E1 m1 lt) (ht2 : RowE enTr w G1 m1 lt) (hp : RowE enPo w E2 m2 ps) (hp2 : RowE enPo w G2 m2 ps) (hl : RowE enLg w L nl lg) (hl2 : RowE enLg w H1 nl lg)
    (hg : RowE enPg w P np pl) (hg2 : RowE enPg w P2 np pl) (hc : RowE enC4 w Q1 u1 cl4) (hc2 : RowE enC4 w Q4 u1 cl4) (hb : RowE enB5 w Q2 u2 bd5) (hb2 : RowE enB5 w Q5 u2 bd5) (hs : RowE enSe w Q3 u3 ys) (hs2 : RowE enSe w Q6 u3 xs)
    (hw : ∀ i, i < u3 → SameS w (xs.getD i se0) (ys.getD i se0) (zs.getD i ([], []))) (hy : ∀ i, i < u3 → SeatI w (ys.getD i se0) (zs.getD i ([], [])).1 (zs.getD i ([], [])).2)
    (hn : n1 ≤ 1000 ∧ n2 ≤ 1000 ∧ n3 ≤ 1000) (hm : m1 ≤ 1000 ∧ m2 ≤ 1000) (hu : nl ≤ 1000 ∧ np ≤ 1000 ∧ u1 ≤ 1000 ∧ u2 ≤ 1000 ∧ u3 ≤ 1000) :
    Calls Tryz.prog 11 #[.agg #[.int .i64 t1, .int .i64 t2, .int .i64 t3, .slice R1 n1 d1, .slice R2 n2 d2, .slice R3 n3 d3, .int .i64 nx, .slice G1 m1 e1, .slice G2 m2 e2, .int .i64 last, .slice H1 nl f1, .slice P2 np f2, .slice Q4 u1 f3, .slice Q5 u2 f4, .slice Q6 u3 f5], .agg #[.int .i64 t1, .int .i64 t2, .int .i64 t3, .slice A1 n1 c1, .slice A2 n2 c2, .slice A3 n3 c3, .int .i64 nx, .slice E1 m1 k1, .slice E2 m2 k2, .int .i64 last, .slice L nl cl, .slice P np cp, .slice Q1 u1 v1, .slice Q2 u2 v2, .slice Q3 u3 v3]] w fun e w' => e = .returned (.bool true) ∧ Grew w w' := by
  have C0 := fun w' => clock_yes t1 t2 t3 w'
  have C1 := fun w' (g : Grew w w') => keepRoll_yes r R1 R2 R3 A1 A2 A3 n1 n2 n3 d1 d2 d3 c1 c2 c3 w' (hr2.keep g) (hr.keep g) (by omega)
  have C2 := fun w' (g : Grew w w') => keepBook_yes nx G1 G2 E1 E2 m1 m2 e1 e2 k1 k2 lt ps w' (ht2.keep g) (hp2.keep g) (ht.keep g) (hp.keep g) (by omega)
  have C3 := fun w' (g : Grew w w') => ledger_yes last H1 L nl f1 cl lg w' (hl2.keep g) (hl.keep g) (by omega)
  have C4' := fun w' (g : Grew w w') => keepPgs_yes P2 P np f2 cp pl w' (hg2.keep g) (hg.keep g) (by omega)
  have C5 := fun w' (g : Grew w w') => kcalls_yes Q4 Q1 u1 f3 v1 cl4 w' (hc2.keep g) (hc.keep g) (by omega)
  have C6 := fun w' (g : Grew w w') => kbids_yes Q5 Q2 u2 f4 v2 bd5 w' (hb2.keep g) (hb.keep g) (by omega)
  have C7 := fun w' (g : Grew w w') => kseats_yes Q6 Q3 u3 f5 v3 xs ys zs w' (hs2.keep g) (hs.keep g) (fun i hi => (hw i hi).keep g) (fun i hi => (hy i hi).keep g) (by omega)
  clear hr hr2 ht ht2 hp hp2 hl hl2 hg hg2 hc hc2 hb hb2 hs hs2 hw hy
  dsimp only [rlV, vBk, ldV] at *
  have HX0 : Hid (OwnC ((w.alloc (.cells #[.int .i64 t1, .int .i64 t2, .int .i64 t3, .slice R1 n1 d1, .slice R2 n2 d2, .slice R3 n3 d3, .int .i64 nx, .slice G1 m1 e1, .slice G2 m2 e2, .int .i64 last, .slice H1 nl f1, .slice P2 np f2, .slice Q4 u1 f3, .slice Q5 u2 f4, .slice Q6 u3 f5] 41)).alloc (.cells #[.int .i64 t1, .int .i64 t2, .int .i64 t3, .slice A1 n1 c1, .slice A2 n2 c2, .slice A3 n3 c3, .int .i64 nx, .slice E1 m1 k1, .slice E2 m2 k2, .int .i64 last, .slice L nl cl, .slice P np cp, .slice Q1 u1 v1, .slice Q2 u2 v2, .slice Q3 u3 v3] 41)) w.heap.size [.int .i64 t1, .int .i64 t2, .int .i64 t3, .slice R1 n1 d1, .slice R2 n2 d2, .slice R3 n3 d3, .int .i64 nx, .slice G1 m1 e1, .slice G2 m2 e2, .int .i64 last, .slice H1 nl f1, .slice P2 np f2, .slice Q4 u1 f3, .slice Q5 u2 f4, .slice Q6 u3 f5]) := (OwnC.new w [.int .i64 t1, .int .i64 t2, .int .i64 t3, .slice R1 n1 d1, .slice R2 n2 d2, .slice R3 n3 d3, .int .i64 nx, .slice G1 m1 e1, .slice G2 m2 e2, .int .i64 last, .slice H1 nl f1, .slice P2 np f2, .slice Q4 u1 f3, .slice Q5 u2 f4, .slice Q6 u3 f5] _ _ rfl).keep (grew_alloc _ _ _)
  have HY0 : Hid (OwnC ((w.alloc (.cells #[.int .i64 t1, .int .i64 t2, .int .i64 t3, .slice R1 n1 d1, .slice R2 n2 d2, .slice R3 n3 d3, .int .i64 nx, .slice G1 m1 e1, .slice G2 m2 e2, .int .i64 last, .slice H1 nl f1, .slice P2 np f2, .slice Q4 u1 f3, .slice Q5 u2 f4, .slice Q6 u3 f5] 41)).alloc (.cells #[.int .i64 t1, .int .i64 t2, .int .i64 t3, .slice A1 n1 c1, .slice A2 n2 c2, .slice A3 n3 c3, .int .i64 nx, .slice E1 m1 k1, .slice E2 m2 k2, .int .i64 last, .slice L nl cl, .slice P np cp, .slice Q1 u1 v1, .slice Q2 u2 v2, .slice Q3 u3 v3] 41)) (w.heap.size + 1) [.int .i64 t1, .int .i64 t2, .int .i64 t3, .slice A1 n1 c1, .slice A2 n2 c2, .slice A3 n3 c3, .int .i64 nx, .slice E1 m1 k1, .slice E2 m2 k2, .int .i64 last, .slice L nl cl, .slice P np cp, .slice Q1 u1 v1, .slice Q2 u2 v2, .slice Q3 u3 v3]) := OwnC.new _ [.int .i64 t1, .int .i64 t2, .int .i64 t3, .slice A1 n1 c1, .slice A2 n2 c2, .slice A3 n3 c3, .int .i64 nx, .slice E1 m1 k1, .slice E2 m2 k2, .int .i64 last, .slice L nl cl, .slice P np cp, .slice Q1 u1 v1, .slice Q2 u2 v2, .slice Q3 u3 v3] _ _ (by simp)
  have HG0 : Hid (Grew w ((w.alloc (.cells #[.int .i64 t1, .int .i64 t2, .int .i64 t3, .slice R1 n1 d1, .slice R2 n2 d2, .slice R3 n3 d3, .int .i64 nx, .slice G1 m1 e1, .slice G2 m2 e2, .int .i64 last, .slice H1 nl f1, .slice P2 np f2, .slice Q4 u1 f3, .slice Q5 u2 f4, .slice Q6 u3 f5] 41)).alloc (.cells #[.int .i64 t1, .int .i64 t2, .int .i64 t3, .slice A1 n1 c1, .slice A2 n2 c2, .slice A3 n3 c3, .int .i64 nx, .slice E1 m1 k1, .slice E2 m2 k2, .int .i64 last, .slice L nl cl, .slice P np cp, .slice Q1 u1 v1, .slice Q2 u2 v2, .slice Q3 u3 v3] 41))) := grew_trans (grew_alloc _ _ _) (grew_alloc _ _ _)
  go_enter Tryz.func11, Tryz.ntmps11
  go_upto_region 1 with (fail)
  generalize ((w.alloc (.cells #[.int .i64 t1, .int .i64 t2, .int .i64 t3, .slice R1 n1 d1, .slice R2 n2 d2, .slice R3 n3 d3, .int .i64 nx, .slice G1 m1 e1, .slice G2 m2 e2, .int .i64 last, .slice H1 nl f1, .slice P2 np f2, .slice Q4 u1 f3, .slice Q5 u2 f4, .slice Q6 u3 f5] 41)).alloc (.cells #[.int .i64 t1, .int .i64 t2, .int .i64 t3, .slice A1 n1 c1, .slice A2 n2 c2, .slice A3 n3 c3, .int .i64 nx, .slice E1 m1 k1, .slice E2 m2 k2, .int .i64 last, .slice L nl cl, .slice P np cp, .slice Q1 u1 v1, .slice Q2 u2 v2, .slice Q3 u3 v3] 41)) = w0 at *
  generalize w.heap.size + 1 = M at *
  generalize w.heap.size = N at *
  have x0 := HX0.out.at 0 _ rfl; have x1 := HX0.out.at 1 _ rfl; have x2 := HX0.out.at 2 _ rfl; have x3 := HX0.out.at 3 _ rfl; have x4 := HX0.out.at 4 _ rfl; have x5 := HX0.out.at 5 _ rfl; have x6 := HX0.out.at 6 _ rfl; have x7 := HX0.out.at 7 _ rfl; have x8 := HX0.out.at 8 _ rfl; have x9 := HX0.out.at 9 _ rfl; have x10 := HX0.out.at 10 _ rfl; have x11 := HX0.out.at 11 _ rfl; have x12 := HX0.out.at 12 _ rfl; have x13 := HX0.out.at 13 _ rfl; have x14 := HX0.out.at 14 _ rfl
  have y0 := HY0.out.at 0 _ rfl; have y1 := HY0.out.at 1 _ rfl; have y2 := HY0.out.at 2 _ rfl; have y3 := HY0.out.at 3 _ rfl; have y4 := HY0.out.at 4 _ rfl; have y5 := HY0.out.at 5 _ rfl; have y6 := HY0.out.at 6 _ rfl; have y7 := HY0.out.at 7 _ rfl; have y8 := HY0.out.at 8 _ rfl; have y9 := HY0.out.at 9 _ rfl; have y10 := HY0.out.at 10 _ rfl; have y11 := HY0.out.at 11 _ rfl; have y12 := HY0.out.at 12 _ rfl; have y13 := HY0.out.at 13 _ rfl; have y14 := HY0.out.at 14 _ rfl
  go_wp2_with (first
    | (go_at_call 39; ((with_reducible refine (C0 _).mono ?_); rintro e w1 ⟨rfl, hg⟩; have HX1 := Lib.hid (HX0.out.keep hg); have HY1 := Lib.hid (HY0.out.keep hg); have HG1 := Lib.hid (grew_trans HG0.out hg); clear hg x0 y0 x1 y1 x2 y2 x3 y3 x4 y4 x5 y5 x6 y6 x7 y7 x8 y8 x9 y9 x10 y10 x11 y11 x12 y12 x13 y13 x14 y14 HX0 HY0; have x3 := HX1.out.at 3 _ rfl; have x4 := HX1.out.at 4 _ rfl; have x5 := HX1.out.at 5 _ rfl; have y3 := HY1.out.at 3 _ rfl; have y4 := HY1.out.at 4 _ rfl; have y5 := HY1.out.at 5 _ rfl))
    | (go_at_call 40; ((with_reducible refine (C1 _ HG1.out).mono ?_); rintro e w2 ⟨rfl, hg⟩; have HX2 := Lib.hid (HX1.out.keep hg); have HY2 := Lib.hid (HY1.out.keep hg); have HG2 := Lib.hid (grew_trans HG1.out hg); clear hg x3 y3 x4 y4 x5 y5 HX1 HY1; have x6 := HX2.out.at 6 _ rfl; have x7 := HX2.out.at 7 _ rfl; have x8 := HX2.out.at 8 _ rfl; have y6 := HY2.out.at 6 _ rfl; have y7 := HY2.out.at 7 _ rfl; have y8 := HY2.out.at 8 _ rfl))
    | (go_at_call 41; ((with_reducible refine (C2 _ HG2.out).mono ?_); rintro e w3 ⟨rfl, hg⟩; have HX3 := Lib.hid (HX2.out.keep hg); have HY3 := Lib.hid (HY2.out.keep hg); have HG3 := Lib.hid (grew_trans HG2.out hg); clear hg x6 y6 x7 y7 x8 y8 HX2 HY2; have x9 := HX3.out.at 9 _ rfl; have x10 := HX3.out.at 10 _ rfl; have y9 := HY3.out.at 9 _ rfl; have y10 := HY3.out.at 10 _ rfl))
    | (go_at_call 42; ((with_reducible refine (C3 _ HG3.out).mono ?_); rintro e w4 ⟨rfl, hg⟩; have HX4 := Lib.hid (HX3.out.keep hg); have HY4 := Lib.hid (HY3.out.keep hg); have HG4 := Lib.hid (grew_trans HG3.out hg); clear hg x9 y9 x10 y10 HX3 HY3; have x11 := HX4.out.at 11 _ rfl; have y11 := HY4.out.at 11 _ rfl))
    | (go_at_call 43; ((with_reducible refine (C4' _ HG4.out).mono ?_); rintro e w5 ⟨rfl, hg⟩; have HX5 := Lib.hid (HX4.out.keep hg); have HY5 := Lib.hid (HY4.out.keep hg); have HG5 := Lib.hid (grew_trans HG4.out hg); clear hg x11 y11 HX4 HY4; have x12 := HX5.out.at 12 _ rfl; have y12 := HY5.out.at 12 _ rfl))
    | (go_at_call 44; ((with_reducible refine (C5 _ HG5.out).mono ?_); rintro e w6 ⟨rfl, hg⟩; have HX6 := Lib.hid (HX5.out.keep hg); have HY6 := Lib.hid (HY5.out.keep hg); have HG6 := Lib.hid (grew_trans HG5.out hg); clear hg x12 y12 HX5 HY5; have x13 := HX6.out.at 13 _ rfl; have y13 := HY6.out.at 13 _ rfl))
    | (go_at_call 45; ((with_reducible refine (C6 _ HG6.out).mono ?_); rintro e w7 ⟨rfl, hg⟩; have HX7 := Lib.hid (HX6.out.keep hg); have HY7 := Lib.hid (HY6.out.keep hg); have HG7 := Lib.hid (grew_trans HG6.out hg); clear hg x13 y13 HX6 HY6; have x14 := HX7.out.at 14 _ rfl; have y14 := HY7.out.at 14 _ rfl))
    | (go_at_call 46; ((with_reducible refine (C7 _ HG7.out).mono ?_); rintro e w8 ⟨rfl, hg⟩; have HG8 := Lib.hid (grew_trans HG7.out hg); clear hg x14 y14 HX7 HY7)))
  go_ret
  exact ⟨rfl, HG8.out⟩
end Go.Proofs.YtodnllopokoicaaGreat.NumK
namespace Go.Proofs.YtodnllopokoicaaGreat.NumK
open Go.RowKit
set_option linter.unusedVariables false

/-- What of a state's rows is known, its seats' rows among it. -/
structure InZ (w : World) (r : Rl) (b : Bk) (lg : List Lg) (pl : List Pg) (cl4 : List C4) (bd5 : List B5) (ys : List Se7) (zs : List (List D3 × List F8)) (A1 A2 A3 E1 E2 L P Q1 Q2 Q3 : Option Addr) (n1 n2 n3 c1 c2 c3 m1 m2 k1 k2 nl cl np cp u1 v1 u2 v2 u3 v3 : Nat) : Prop where
  r : In3 w r A1 A2 A3 n1 n2 n3 c1 c2 c3
  b : InB w b E1 E2 m1 m2 k1 k2
  l : RowE enLg w L nl lg
  lk : L = none → cl = 0
  p : RowE enPg w P np pl
  pk : P = none → cp = 0
  q1 : RowE enC4 w Q1 u1 cl4
  q1k : Q1 = none → v1 = 0
  q2 : RowE enB5 w Q2 u2 bd5
  q2k : Q2 = none → v2 = 0
  q3 : RowE enSe w Q3 u3 ys
  si : ∀ i, i < u3 → SeatI w (ys.getD i se0) (zs.getD i ([], [])).1 (zs.getD i ([], [])).2
/-- What its twin is. -/
structure TwN (w' : World) (r : Rl) (b : Bk) (lg : List Lg) (pl : List Pg) (cl4 : List C4) (bd5 : List B5) (ys : List Se7) (zs : List (List D3 × List F8)) (R1 R2 R3 G1 G2 H1 P2 Q4 Q5 Q6 : Option Addr) (n1 n2 n3 m1 m2 e1 e2 nl np u1 u2 u3 : Nat) (xs : List Se7) : Prop where
  r : Rows3 w' r R1 R2 R3 n1 n2 n3
  b : InB w' b G1 G2 m1 m2 e1 e2
  l : RowE enLg w' H1 nl lg
  p : RowE enPg w' P2 np pl
  q1 : RowE enC4 w' Q4 u1 cl4
  q2 : RowE enB5 w' Q5 u2 bd5
  q3 : RowE enSe w' Q6 u3 xs
  tw : ∀ i, i < u3 → SameS w' (xs.getD i se0) (ys.getD i se0) (zs.getD i ([], []))
theorem twinState_n (t1 t2 t3 last : Int) (A1 A2 A3 E1 E2 L P Q1 Q2 Q3 : Option Addr) (n1 n2 n3 c1 c2 c3 m1 m2 k1 k2 nl cl np cp u1 v1 u2 v2 u3 v3 : Nat) (r : Rl) (b : Bk) (lg : List Lg) (pl : List Pg) (cl4 : List C4) (bd5 : List B5) (ys : List Se7) (zs : List (List D3 × List F8)) (w : World)
    (h : InZ w r b lg pl cl4 bd5 ys zs A1 A2 A3 E1 E2 L P Q1 Q2 Q3 n1 n2 n3 c1 c2 c3 m1 m2 k1 k2 nl cl np cp u1 v1 u2 v2 u3 v3) (hn : n1 ≤ 1000 ∧ n2 ≤ 1000 ∧ n3 ≤ 1000) (hm : m1 ≤ 1000 ∧ m2 ≤ 1000) (hu : nl ≤ 1000 ∧ np ≤ 1000 ∧ u1 ≤ 1000 ∧ u2 ≤ 1000 ∧ u3 ≤ 1000) :
    Calls Tryz.prog 6 #[stV t1 t2 t3 b.1 last A1 A2 A3 E1 E2 L P Q1 Q2 Q3 n1 n2 n3 c1 c2 c3 m1 m2 k1 k2 nl cl np cp u1 v1 u2 v2 u3 v3] w fun e w' =>
      ∃ (R1 R2 R3 G1 G2 H1 P2 Q4 Q5 Q6 : Option Addr) (d1 d2 d3 e1 e2 f1 f2 f3 f4 f5 : Nat) (xs : List Se7), e = .returned (stV t1 t2 t3 b.1 last R1 R2 R3 G1 G2 H1 P2 Q4 Q5 Q6 n1 n2 n3 d1 d2 d3 m1 m2 e1 e2 nl f1 np f2 u1 f3 u2 f4 u3 f5) ∧ TwN w' r b lg pl cl4 bd5 ys zs R1 R2 R3 G1 G2 H1 P2 Q4 Q5 Q6 n1 n2 n3 m1 m2 e1 e2 nl np u1 u2 u3 xs ∧ Grew w w' := by
  have g1 := h.r.rows.m.len
  have g2 := h.r.rows.i.len
  have g3 := h.r.rows.h.len
  have g4 := h.b.t.len
  have g5 := h.b.p.len
  refine (twinState_any t1 t2 t3 last A1 A2 A3 E1 E2 L P Q1 Q2 Q3 n1 n2 n3 c1 c2 c3 m1 m2 k1 k2 nl cl np cp u1 v1 u2 v2 u3 v3 r b lg w h.r h.b h.l h.lk hn hm hu.1 pl cl4 bd5 h.p h.pk h.q1 h.q1k h.q2 h.q2k hu.2 ys zs h.q3 h.si).mono ?_
  rintro e w' ⟨R1, R2, R3, G1, G2, H1, P2, Q4, Q5, Q6, d1, d2, d3, e1, e2, f1, f2, f3, f4, f5, xs, rfl, ht, hg⟩
  have hr := ht.r
  have hbb := ht.b
  rw [g1, g2, g3] at hr
  rw [g4, g5] at hbb
  refine ⟨R1, R2, R3, G1, G2, H1, P2, Q4, Q5, Q6, d1, d2, d3, e1, e2, f1, f2, f3, f4, f5, xs, ?_, ⟨hr, hbb, ht.l, ht.p, ht.q1, ht.q2, ht.q3, ht.tw⟩, hg⟩
  rw [g1, g2, g3, g4, g5]
end Go.Proofs.YtodnllopokoicaaGreat.NumK
namespace Go.Proofs.YtodnllopokoicaaGreat.NumK
open Go.RowKit
set_option linter.unusedVariables false

theorem val_ok {x : As} {u : Int} (h : okAs x = true) (hu : wi u 0 1099511627776 = true) :
    wqV (u * (x.2.2.1 * (10000 - x.2.2.2))) 10000 = valueN x u ∧ wqE (u * (x.2.2.1 * (10000 - x.2.2.2))) 10000 = valueE x u ∧ wqB (u * (x.2.2.1 * (10000 - x.2.2.2))) 10000 = decide (valueE x u = 0) := by
  have h1 := value_nonneg h ((wi_iff _ _ _).1 hu).1
  have h2 : u * (x.2.2.1 * (10000 - x.2.2.2)) / 10000 = valueV x u := by unfold valueV; rw [Int.fdiv_eq_ediv_of_nonneg _ (by decide)]
  have h3 : isMoney (valueV x u) = decide (valueV x u ≤ 4611686018427387904) := by
    rw [Bool.eq_iff_iff, isMoney_iff, decide_eq_true_eq]; omega
  have h4 : valueE x u = if valueV x u ≤ 4611686018427387904 then 0 else 1 := by unfold valueE; rw [if_pos (by rw [h, hu]; rfl)]
  unfold wqV wqE wqB valueN
  rw [h2, if_pos (show (0 : Int) < 10000 by decide), if_pos (show (0 : Int) < 10000 by decide), show decide ((0 : Int) < 10000) = true from rfl, Bool.true_and, h4]
  unfold capV capE
  rw [h3]
  by_cases hc : valueV x u ≤ 4611686018427387904
  · rw [if_pos hc, decide_eq_true hc]; exact ⟨by simp, by simp, by simp⟩
  · rw [if_neg hc, decide_eq_false hc]; exact ⟨by simp, by simp, by simp⟩
theorem val_no {x : As} {u : Int} (h : okAs x = false ∨ wi u 0 1099511627776 = false) : valueN x u = 0 ∧ valueE x u = 3 := by
  have h4 : valueE x u = 3 := by
    unfold valueE; rw [if_neg]
    rw [Bool.and_eq_true]
    rintro ⟨h1, h2⟩
    rcases h with h | h
    · rw [h] at h1; cases h1
    · rw [h] at h2; cases h2
  exact ⟨by unfold valueN; rw [if_neg (by rw [h4]; decide)], h4⟩
theorem val_in {x : As} (h : okAs x = true) : (-9223372036854775808 ≤ x.2.2.1 * (10000 - x.2.2.2) ∧ x.2.2.1 * (10000 - x.2.2.2) ≤ 9223372036854775807) ∧ IntKind.i64.wrap (10000 - x.2.2.2) = 10000 - x.2.2.2 ∧ IntKind.i64.wrap (x.2.2.1 * (10000 - x.2.2.2)) = x.2.2.1 * (10000 - x.2.2.2) := by
  have h1 := unitW_in h
  obtain ⟨_, _, h3, h4⟩ := (okAs_iff x).1 h
  unfold unitW at h1
  generalize x.2.2.1 * (10000 - x.2.2.2) = y at *
  rw [IntKind.wrap_i64, IntKind.wrap_i64]
  omega
theorem right_alone (x : As) : rightR ([], [], [x]) = okAs x := by
  unfold rightR
  show (true && (true && _)) = _
  rw [Bool.true_and, Bool.true_and]
  unfold rightL
  simp [stepOK]
theorem rows_alone (x : As) (w : World) (t : TypeId) (N : Nat) (hN : N = w.heap.size) : Rows3 (w.alloc (.cells #[.int .i64 x.1, .int .i64 x.2.1, .int .i64 x.2.2.1, .int .i64 x.2.2.2] t)) ([], [], [x]) none none (some ⟨N, 0, none⟩) 0 0 1 :=
  ⟨RowE.nil _ _ _, RowE.nil _ _ _, RowE.one enAs w x t N hN⟩

set_option maxRecDepth 100000 in
set_option maxHeartbeats 2000000 in
theorem value_any (x : As) (u : Int) (w : World) : Calls Tryz.prog 26 #[vAs x, .int .i64 u] w fun e w' => e = .returned (.tuple #[.int .i64 (valueN x u), .int .i64 (valueE x u)]) ∧ Grew w w' := by
  have HN := Lib.hid (@val_no x u)
  have HY := Lib.hid (@val_ok x u)
  have HI := Lib.hid (@val_in x)
  have HS := Lib.hid (fun (h : okAs x = true) (hu : wi u 0 1099511627776 = true) w => wshare_any u (x.2.2.1 * (10000 - x.2.2.2)) 10000 w (by have := (wi_iff _ _ _).1 hu; omega) (val_in h).1 (by decide))
  have CW := fun w => cwithin_any u 0 1099511627776 w
  have CK := fun w' (g : Grew ((w.alloc (.cells #[.int .i64 x.1, .int .i64 x.2.1, .int .i64 x.2.2.1, .int .i64 x.2.2.2] 76)).alloc (.cells #[.int .i64 x.1, .int .i64 x.2.1, .int .i64 x.2.2.1, .int .i64 x.2.2.2] 76)) w') => check_any ([], [], [x]) none none (some ⟨w.heap.size + 1, 0, none⟩) 0 0 1 0 0 1 w' ((rows_alone x _ 76 _ (by simp)).keep g) (by decide)
  have HR := Lib.hid (right_alone x)
  obtain ⟨q1, q2, q3, q4⟩ := x
  dsimp only [vAs, rlV] at *
  generalize valueN (q1, q2, q3, q4) u = VN at *
  generalize valueE (q1, q2, q3, q4) u = VE at *
  have HX : Hid (OwnC (((w.alloc (.cells #[.int .i64 q1, .int .i64 q2, .int .i64 q3, .int .i64 q4] 76)).alloc (.cells #[.int .i64 q1, .int .i64 q2, .int .i64 q3, .int .i64 q4] 76)).alloc (.cells #[.slice none 0 0, .slice none 0 0, .slice (some ⟨w.heap.size + 1, 0, none⟩) 1 1] 28)) w.heap.size [.int .i64 q1, .int .i64 q2, .int .i64 q3, .int .i64 q4]) := ((OwnC.new w [.int .i64 q1, .int .i64 q2, .int .i64 q3, .int .i64 q4] _ _ rfl).keep (grew_alloc _ _ _)).keep (grew_alloc _ _ _)
  go_enter Tryz.func26, Tryz.ntmps26
  go_upto_region 2 with (fail)
  have HC : Hid (OwnC (((w.alloc (.cells #[.int .i64 q1, .int .i64 q2, .int .i64 q3, .int .i64 q4] 76)).alloc (.cells #[.int .i64 q1, .int .i64 q2, .int .i64 q3, .int .i64 q4] 76)).alloc (.cells #[.slice none 0 0, .slice none 0 0, .slice (some ⟨w.heap.size + 1, 0, none⟩) 1 1] 28)) (w.heap.size + 1 + 1) [.slice none 0 0, .slice none 0 0, .slice (some ⟨w.heap.size + 1, 0, none⟩) 1 1]) := OwnC.new _ [.slice none 0 0, .slice none 0 0, .slice (some ⟨w.heap.size + 1, 0, none⟩) 1 1] _ _ (by simp)
  have HG : Hid (Grew w (((w.alloc (.cells #[.int .i64 q1, .int .i64 q2, .int .i64 q3, .int .i64 q4] 76)).alloc (.cells #[.int .i64 q1, .int .i64 q2, .int .i64 q3, .int .i64 q4] 76)).alloc (.cells #[.slice none 0 0, .slice none 0 0, .slice (some ⟨w.heap.size + 1, 0, none⟩) 1 1] 28))) := grew_trans (grew_trans (grew_alloc _ _ _) (grew_alloc _ _ _)) (grew_alloc _ _ _)
  have CK0 := CK _ (grew_alloc _ #[.slice none 0 0, .slice none 0 0, .slice (some ⟨w.heap.size + 1, 0, none⟩) 1 1] 28)
  clear CK
  generalize (((w.alloc (.cells #[.int .i64 q1, .int .i64 q2, .int .i64 q3, .int .i64 q4] 76)).alloc (.cells #[.int .i64 q1, .int .i64 q2, .int .i64 q3, .int .i64 q4] 76)).alloc (.cells #[.slice none 0 0, .slice none 0 0, .slice (some ⟨w.heap.size + 1, 0, none⟩) 1 1] 28)) = w0 at *
  have c0 := HC.out.at 0 (.slice none 0 0) rfl
  have c1 := HC.out.at 1 (.slice none 0 0) rfl
  have c2 := HC.out.at 2 (.slice (some ⟨w.heap.size + 1, 0, none⟩) 1 1) rfl
  generalize w.heap.size + 1 + 1 = N2 at *
  generalize w.heap.size + 1 = N1 at *
  by_cases h1 : okAs (q1, q2, q3, q4) = true
  · rw [chkV_yes (by rw [HR.out]; exact h1)] at CK0
    have HI2 := Lib.hid (HI.out h1)
    have HS2 := Lib.hid (HS.out h1)
    have HY2 := Lib.hid (HY.out h1)
    clear HI HS HY HR
    by_cases h2 : wi u 0 1099511627776 = true
    · have HS3 := HS2.out h2
      obtain ⟨y1, y2, y3⟩ := HY2.out h2
      rw [y1, y2] at HS3
      rw [h2] at CW
      obtain ⟨i1, i2, i3⟩ := HI2.out
      clear i1 y1 y2 y3 HI2 HS2 HY2 HN h1 h2
      go_wp2_with (first
        | (go_at_call 22; ((with_reducible refine CK0.mono ?_); rintro e w1 ⟨rfl, hg⟩; have HX1 := Lib.hid (HX.out.keep hg); have HG1 := Lib.hid (grew_trans HG.out hg); have x2 := HX1.out.at 2 (.int .i64 q3) rfl; have x3 := HX1.out.at 3 (.int .i64 q4) rfl; clear hg HX HG CK0))
        | (go_at_call 67; ((with_reducible refine (CW _).mono ?_); rintro e w2 ⟨rfl, rfl⟩))
        | (go_at_call 70; ((with_reducible refine (HS3 _).mono ?_); rintro e w3 ⟨rfl, hg⟩; have HG3 := Lib.hid (grew_trans HG1.out hg); clear hg HS3)))
      go_ret2
      exact ⟨rfl, HG3.out⟩
    · rw [Bool.not_eq_true] at h2
      obtain ⟨y1, y2⟩ := HN.out (.inr h2)
      rw [h2] at CW
      subst y1 y2
      clear HI2 HS2 HY2 HN h1 h2
      go_wp2_with (first
        | (go_at_call 22; ((with_reducible refine CK0.mono ?_); rintro e w1 ⟨rfl, hg⟩; have HG1 := Lib.hid (grew_trans HG.out hg); clear hg HX HG CK0))
        | (go_at_call 67; ((with_reducible refine (CW _).mono ?_); rintro e w2 ⟨rfl, rfl⟩)))
      go_ret2
      exact ⟨rfl, HG1.out⟩
  · rw [Bool.not_eq_true] at h1
    rw [chkV_no (by rw [HR.out]; exact h1)] at CK0
    obtain ⟨y1, y2⟩ := HN.out (.inl h1)
    subst y1 y2
    clear HI HS HY HR HN h1
    go_wp2_with (go_at_call 22; ((with_reducible refine CK0.mono ?_); rintro e w1 ⟨rfl, hg⟩; have HG1 := Lib.hid (grew_trans HG.out hg); clear hg HX HG CK0))
    go_ret2
    exact ⟨rfl, HG1.out⟩

set_option maxRecDepth 100000 in
set_option maxHeartbeats 2000000 in
theorem rvalue_any (x : As) (u : Int) (w : World) : Calls Tryz.prog 33 #[vAs x, .int .i64 u] w fun e w' => e = .returned (.tuple #[.int .i64 (valueN x u), .int .i64 (valueE x u)]) ∧ Grew w w' := by
  have HN := Lib.hid (@val_no x u)
  have HY := Lib.hid (@val_ok x u)
  have HI := Lib.hid (@val_in x)
  have HT := Lib.hid (fun (h : okAs x = true) (hu : wi u 0 1099511627776 = true) w => refTimes_any u (x.2.2.1 * (10000 - x.2.2.2)) w (by have := (wi_iff _ _ _).1 hu; omega) (val_in h).1)
  have HQ := Lib.hid (fun (h : okAs x = true) (hu : wi u 0 1099511627776 = true) w => refQuo_any (u * (x.2.2.1 * (10000 - x.2.2.2))) 10000 w (by
    obtain ⟨t1, t2, t3⟩ := times_arith u (x.2.2.1 * (10000 - x.2.2.2)) (by have := (wi_iff _ _ _).1 hu; omega) (val_in h).1
    rw [isWide_iff]
    generalize u * (x.2.2.1 * (10000 - x.2.2.2)) = p at *
    generalize u.natAbs * (x.2.2.1 * (10000 - x.2.2.2)).natAbs = P at *
    omega) (by decide))
  have CW := fun w => gwithin_any u 0 1099511627776 w
  have CK := fun w => rasset_any x w
  have HV0 : Hid (valueE x u ≠ 0 → valueN x u = 0) := fun h => by unfold valueN; rw [if_neg h]
  have HV1 : Hid (okAs x = true → wi u 0 1099511627776 = true → valueE x u = 0 ∨ valueE x u = 1) := fun h1 h2 => by
    unfold valueE; rw [if_pos (by rw [h1, h2]; rfl)]; split
    · exact .inl rfl
    · exact .inr rfl
  obtain ⟨q1, q2, q3, q4⟩ := x
  dsimp only [vAs] at *
  generalize valueN (q1, q2, q3, q4) u = VN at *
  generalize valueE (q1, q2, q3, q4) u = VE at *
  have HX : Hid (OwnC (w.alloc (.cells #[.int .i64 q1, .int .i64 q2, .int .i64 q3, .int .i64 q4] 76)) w.heap.size [.int .i64 q1, .int .i64 q2, .int .i64 q3, .int .i64 q4]) := OwnC.new w [.int .i64 q1, .int .i64 q2, .int .i64 q3, .int .i64 q4] _ _ rfl
  have HG : Hid (Grew w (w.alloc (.cells #[.int .i64 q1, .int .i64 q2, .int .i64 q3, .int .i64 q4] 76))) := grew_alloc _ _ _
  go_enter Tryz.func33, Tryz.ntmps33
  go_upto_region 1 with (fail)
  generalize w.alloc (.cells #[.int .i64 q1, .int .i64 q2, .int .i64 q3, .int .i64 q4] 76) = w0 at *
  have c0 := HX.out.at 0 (.int .i64 q1) rfl
  have c1 := HX.out.at 1 (.int .i64 q2) rfl
  have c2 := HX.out.at 2 (.int .i64 q3) rfl
  have c3 := HX.out.at 3 (.int .i64 q4) rfl
  by_cases h1 : okAs (q1, q2, q3, q4) = true
  · rw [h1] at CK
    have HI2 := Lib.hid (HI.out h1)
    by_cases h2 : wi u 0 1099511627776 = true
    · have HT2 := HT.out h1 h2
      have HQ2 := HQ.out h1 h2
      obtain ⟨y1, y2, y3⟩ := HY.out h1 h2
      rw [y1, y3] at HQ2
      have hv := HV1.out h1 h2
      have HV2 := Lib.hid HV0.out
      rw [h2] at CW
      obtain ⟨i1, i2, i3⟩ := HI2.out
      generalize u * (q3 * (10000 - q4)) = P at *
      generalize hi64 P = P1 at *
      generalize lo64 P = P2 at *
      clear i1 y1 y2 y3 HI HI2 HT HQ HY HN h1 h2 HV0 HV1
      rcases hv with rfl | rfl
      · rw [show decide ((0 : Int) = 0) = true from rfl] at HQ2
        go_wp2_with (first
          | (go_at_call 80; ((with_reducible refine (CK _).mono ?_); rintro e w1 ⟨rfl, hg⟩; have HX1 := Lib.hid (HX.out.keep hg); have HG1 := Lib.hid (grew_trans HG.out hg); have x2 := HX1.out.at 2 (.int .i64 q3) rfl; have x3 := HX1.out.at 3 (.int .i64 q4) rfl; clear hg HX HG CK))
          | (go_at_call 83; ((with_reducible refine (CW _).mono ?_); rintro e w2 ⟨rfl, rfl⟩))
          | (go_at_call 50; ((with_reducible refine (HT2 _).mono ?_); rintro e w3 ⟨rfl, hg⟩; have HG3 := Lib.hid (grew_trans HG1.out hg); clear hg HT2))
          | (go_at_call 85; ((with_reducible refine (HQ2 _).mono ?_); rintro e w4 ⟨rfl, hg⟩; have HG4 := Lib.hid (grew_trans HG3.out hg); clear hg HQ2)))
        go_ret2
        exact ⟨rfl, HG4.out⟩
      · obtain rfl := HV2.out (by decide)
        rw [show decide ((1 : Int) = 0) = false from rfl] at HQ2
        go_wp2_with (first
          | (go_at_call 80; ((with_reducible refine (CK _).mono ?_); rintro e w1 ⟨rfl, hg⟩; have HX1 := Lib.hid (HX.out.keep hg); have HG1 := Lib.hid (grew_trans HG.out hg); have x2 := HX1.out.at 2 (.int .i64 q3) rfl; have x3 := HX1.out.at 3 (.int .i64 q4) rfl; clear hg HX HG CK))
          | (go_at_call 83; ((with_reducible refine (CW _).mono ?_); rintro e w2 ⟨rfl, rfl⟩))
          | (go_at_call 50; ((with_reducible refine (HT2 _).mono ?_); rintro e w3 ⟨rfl, hg⟩; have HG3 := Lib.hid (grew_trans HG1.out hg); clear hg HT2))
          | (go_at_call 85; ((with_reducible refine (HQ2 _).mono ?_); rintro e w4 ⟨rfl, hg⟩; have HG4 := Lib.hid (grew_trans HG3.out hg); clear hg HQ2)))
        go_ret2
        exact ⟨rfl, HG4.out⟩
    · rw [Bool.not_eq_true] at h2
      obtain ⟨y1, y2⟩ := HN.out (.inr h2)
      rw [h2] at CW
      subst y1 y2
      clear HI HI2 HT HQ HY HN h1 h2 HV0 HV1
      go_wp2_with (first
        | (go_at_call 80; ((with_reducible refine (CK _).mono ?_); rintro e w1 ⟨rfl, hg⟩; have HG1 := Lib.hid (grew_trans HG.out hg); clear hg HX HG CK))
        | (go_at_call 83; ((with_reducible refine (CW _).mono ?_); rintro e w2 ⟨rfl, rfl⟩)))
      go_ret2
      exact ⟨rfl, HG1.out⟩
  · rw [Bool.not_eq_true] at h1
    rw [h1] at CK
    obtain ⟨y1, y2⟩ := HN.out (.inl h1)
    subst y1 y2
    clear HI HT HQ HY HN h1 HV0 HV1
    go_wp2_with (go_at_call 80; ((with_reducible refine (CK _).mono ?_); rintro e w1 ⟨rfl, hg⟩; have HG1 := Lib.hid (grew_trans HG.out hg); clear hg HX HG CK))
    go_ret2
    exact ⟨rfl, HG1.out⟩
end Go.Proofs.YtodnllopokoicaaGreat.NumK
