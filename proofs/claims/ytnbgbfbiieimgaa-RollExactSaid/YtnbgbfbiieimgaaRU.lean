/- The document's List. -/
import Derived.Test.YtnbgbfbiieimgaaRH
import Derived.Test.YtnbgbfbiieimgaaRI
import Derived.Test.YtnbgbfbiieimgaaRJ
import Derived.Test.YtnbgbfbiieimgaaRK
import Derived.Test.YtnbgbfbiieimgaaRS
import Derived.Deep.CutBlock
namespace Go.Proofs.Ytnbgbfbiieimgaa.NumK
open Go.RowKit
set_option linter.unusedVariables false

set_option maxRecDepth 100000 in
set_option maxHeartbeats 8000000 in
theorem rlist_any (r : Rl) (i : In) (A1 A2 A3 : Option Addr) (n1 n2 n3 c1 c2 c3 : Nat) (w : World) (h : In3 w r A1 A2 A3 n1 n2 n3 c1 c2 c3) (hn : n1 ≤ 1000000 ∧ n2 ≤ 1000000 ∧ n3 ≤ 1000000) :
    Calls Try.prog 34 #[rlV A1 A2 A3 n1 n2 n3 c1 c2 c3, vIn i] w (RollE (listP r i).1 (listP r i).2 w) := by
  obtain ⟨⟨q1, q2, q3, q4, q5, q6⟩, ⟨q7, q8, q9, q10, q11, q12⟩⟩ := i
  dsimp only [vIn]
  have HI := Lib.hid h
  have CK := fun w' (g : Grew w w') => rroll_any r A1 A2 A3 n1 n2 n3 c1 c2 c3 w' (h.rows.keep g) hn
  dsimp only [rlV] at CK ⊢
  have CR := fun w => rinst_any ((q1, q2, q3, q4, 0, 0), (q7, q8, q9, q10, q11, q12)) w
  have CM := fun w' (g : Grew w w') => rfindIn_any A1 A2 A3 n1 n2 n3 c1 c2 c3 r.2.1 q1 w' (h.rows.i.keep g) hn.2.1
  dsimp only [vIn] at CR CM
  have HSHO : Hid (rightR r = true → n1 ≤ 16 ∧ n2 ≤ 8 ∧ n3 ≤ 6) := fun e => (by have := right_short e; rw [h.rows.m.len, h.rows.i.len, h.rows.h.len] at this; exact this)
  have HSL : Hid (r.1.length = n1 ∧ r.2.1.length = n2 ∧ r.2.2.length = n3) := ⟨h.rows.m.len, h.rows.i.len, h.rows.h.len⟩
  clear h
  by_cases hr : rightR r = true
  · have HSH := Lib.hid (HSHO.out hr)
    have hrc := hr
    rw [hr] at CK
    by_cases hm : okIn ((q1, q2, q3, q4, 0, 0), (q7, q8, q9, q10, q11, q12)) = true
    · rw [hm] at CR
      have hm2 : okIn (unIn ((q1, q2, q3, q4, q5, q6), (q7, q8, q9, q10, q11, q12))) = true := hm
      obtain ⟨p, hp⟩ : ∃ p, p = findL noIn in0 r.2.1 q1 := ⟨_, rfl⟩
      obtain ⟨⟨p1, p2, p3, p4, p5, p6⟩, ⟨p7, p8, p9, p10, p11, p12⟩⟩ := p
      rw [← hp] at CM
      clear hp
      dsimp only at CM
      by_cases hh : hasL noIn r.2.1 q1 = true
      · rw [hh] at CM
        have hh2 : hasL noIn r.2.1 (noIn ((q1, q2, q3, q4, q5, q6), (q7, q8, q9, q10, q11, q12))) = true := hh
        rw [show listP r ((q1, q2, q3, q4, q5, q6), (q7, q8, q9, q10, q11, q12)) = (rl0, 11) by unfold listP; rw [if_pos hr, if_pos hm2, if_pos hh2] <;> rfl]
        go_enter Try.func34, Try.ntmps34
        go_upto_region 1 with fail
        have HGI : Hid (Grew w (((w.alloc (.cells #[.slice A1 n1 c1, .slice A2 n2 c2, .slice A3 n3 c3] 26)).alloc (.cells #[.int .i64 q1, .int .i64 q2, .int .i64 q3, .int .i64 q4, .int .i64 q5, .int .i64 q6, .int .i64 q7, .int .i64 q8, .int .i64 q9, .int .i64 q10, .int .i64 q11, .int .i64 q12] 38)).alloc (.cells #[.slice none 0 0, .slice none 0 0, .slice none 0 0] 26))) := grew_trans (grew_trans (grew_alloc _ _ _) (grew_alloc _ _ _)) (grew_alloc _ _ _)
        have HX0 : Hid (OwnC (((w.alloc (.cells #[.slice A1 n1 c1, .slice A2 n2 c2, .slice A3 n3 c3] 26)).alloc (.cells #[.int .i64 q1, .int .i64 q2, .int .i64 q3, .int .i64 q4, .int .i64 q5, .int .i64 q6, .int .i64 q7, .int .i64 q8, .int .i64 q9, .int .i64 q10, .int .i64 q11, .int .i64 q12] 38)).alloc (.cells #[.slice none 0 0, .slice none 0 0, .slice none 0 0] 26)) w.heap.size [.slice A1 n1 c1, .slice A2 n2 c2, .slice A3 n3 c3]) := ((OwnC.new w [.slice A1 n1 c1, .slice A2 n2 c2, .slice A3 n3 c3] _ _ rfl).keep (grew_alloc _ _ _)).keep (grew_alloc _ _ _)
        have HY0 : Hid (OwnC (((w.alloc (.cells #[.slice A1 n1 c1, .slice A2 n2 c2, .slice A3 n3 c3] 26)).alloc (.cells #[.int .i64 q1, .int .i64 q2, .int .i64 q3, .int .i64 q4, .int .i64 q5, .int .i64 q6, .int .i64 q7, .int .i64 q8, .int .i64 q9, .int .i64 q10, .int .i64 q11, .int .i64 q12] 38)).alloc (.cells #[.slice none 0 0, .slice none 0 0, .slice none 0 0] 26)) (w.heap.size + 1 + 1) [.slice none 0 0, .slice none 0 0, .slice none 0 0]) := OwnC.new _ [.slice none 0 0, .slice none 0 0, .slice none 0 0] _ _ (by simp)
        have HM0 : Hid (OwnC (((w.alloc (.cells #[.slice A1 n1 c1, .slice A2 n2 c2, .slice A3 n3 c3] 26)).alloc (.cells #[.int .i64 q1, .int .i64 q2, .int .i64 q3, .int .i64 q4, .int .i64 q5, .int .i64 q6, .int .i64 q7, .int .i64 q8, .int .i64 q9, .int .i64 q10, .int .i64 q11, .int .i64 q12] 38)).alloc (.cells #[.slice none 0 0, .slice none 0 0, .slice none 0 0] 26)) (w.heap.size + 1) [.int .i64 q1, .int .i64 q2, .int .i64 q3, .int .i64 q4, .int .i64 q5, .int .i64 q6, .int .i64 q7, .int .i64 q8, .int .i64 q9, .int .i64 q10, .int .i64 q11, .int .i64 q12]) := (OwnC.new _ [.int .i64 q1, .int .i64 q2, .int .i64 q3, .int .i64 q4, .int .i64 q5, .int .i64 q6, .int .i64 q7, .int .i64 q8, .int .i64 q9, .int .i64 q10, .int .i64 q11, .int .i64 q12] _ _ (by simp)).keep (grew_alloc _ _ _)
        generalize (((w.alloc (.cells #[.slice A1 n1 c1, .slice A2 n2 c2, .slice A3 n3 c3] 26)).alloc (.cells #[.int .i64 q1, .int .i64 q2, .int .i64 q3, .int .i64 q4, .int .i64 q5, .int .i64 q6, .int .i64 q7, .int .i64 q8, .int .i64 q9, .int .i64 q10, .int .i64 q11, .int .i64 q12] 38)).alloc (.cells #[.slice none 0 0, .slice none 0 0, .slice none 0 0] 26)) = w0 at *
        have x0 : w0.cell? ⟨w.heap.size, 0, none⟩ = some (.slice A1 n1 c1) := HX0.out.at 0 _ rfl
        have x1 : w0.cell? ⟨w.heap.size, 1, none⟩ = some (.slice A2 n2 c2) := HX0.out.at 1 _ rfl
        have x2 : w0.cell? ⟨w.heap.size, 2, none⟩ = some (.slice A3 n3 c3) := HX0.out.at 2 _ rfl
        have k4 : w0.cell? ⟨w.heap.size + 1, 4, none⟩ = some (.int .i64 q5) := HM0.out.at 4 _ rfl
        have k5 : w0.cell? ⟨w.heap.size + 1, 5, none⟩ = some (.int .i64 q6) := HM0.out.at 5 _ rfl
        have j4 : w0.frozen? ⟨w.heap.size + 1, 4, none⟩ = false := HM0.out.fr 4 (by show 4 < 12; omega)
        have j5 : w0.frozen? ⟨w.heap.size + 1, 5, none⟩ = false := HM0.out.fr 5 (by show 5 < 12; omega)
        go_upto_region 2 with fail
        have HXs : Hid (OwnC ((w0.setCell ⟨w.heap.size + 1, 4, none⟩ (.int .i64 0)).setCell ⟨w.heap.size + 1, 5, none⟩ (.int .i64 0)) w.heap.size [.slice A1 n1 c1, .slice A2 n2 c2, .slice A3 n3 c3]) := (HX0.out.other _ _ (by show _ + 1 ≠ _; omega)).other _ _ (by show _ + 1 ≠ _; omega)
        have HYs : Hid (OwnC ((w0.setCell ⟨w.heap.size + 1, 4, none⟩ (.int .i64 0)).setCell ⟨w.heap.size + 1, 5, none⟩ (.int .i64 0)) (w.heap.size + 1 + 1) [.slice none 0 0, .slice none 0 0, .slice none 0 0]) := (HY0.out.other _ _ (by show _ + 1 ≠ _; omega)).other _ _ (by show _ + 1 ≠ _; omega)
        have HMs : Hid (OwnC ((w0.setCell ⟨w.heap.size + 1, 4, none⟩ (.int .i64 0)).setCell ⟨w.heap.size + 1, 5, none⟩ (.int .i64 0)) (w.heap.size + 1) [.int .i64 q1, .int .i64 q2, .int .i64 q3, .int .i64 q4, .int .i64 0, .int .i64 0, .int .i64 q7, .int .i64 q8, .int .i64 q9, .int .i64 q10, .int .i64 q11, .int .i64 q12]) := (HM0.out.set 4 (.int .i64 0) (by show 4 < 12; omega)).set 5 (.int .i64 0) (by show 5 < 12; omega)
        have HGs : Hid (Grew w ((w0.setCell ⟨w.heap.size + 1, 4, none⟩ (.int .i64 0)).setCell ⟨w.heap.size + 1, 5, none⟩ (.int .i64 0))) := grew_set (grew_set HGI.out _ (by show _ ≤ _ + 1; omega)) _ (by show _ ≤ _ + 1; omega)
        clear k4 k5 j4 j5 x0 x1 x2
        generalize ((w0.setCell ⟨w.heap.size + 1, 4, none⟩ (.int .i64 0)).setCell ⟨w.heap.size + 1, 5, none⟩ (.int .i64 0)) = ws at *
        have x0 : ws.cell? ⟨w.heap.size, 0, none⟩ = some (.slice A1 n1 c1) := HXs.out.at 0 _ rfl
        have x1 : ws.cell? ⟨w.heap.size, 1, none⟩ = some (.slice A2 n2 c2) := HXs.out.at 1 _ rfl
        have x2 : ws.cell? ⟨w.heap.size, 2, none⟩ = some (.slice A3 n3 c3) := HXs.out.at 2 _ rfl
        go_wp2_with (first
          | (go_at_call 12; ((with_reducible refine (CK _ HGs.out).mono ?_); rintro e w1 ⟨rfl, hg⟩; have HX1 := Lib.hid (HXs.out.keep hg); have HY1 := Lib.hid (HYs.out.keep hg); have HM1 := Lib.hid (HMs.out.keep hg); have HG1 := Lib.hid (grew_trans HGs.out hg); have m0 : w1.cell? ⟨w.heap.size + 1, 0, none⟩ = some (.int .i64 q1) := HM1.out.at 0 _ rfl; have m1 : w1.cell? ⟨w.heap.size + 1, 1, none⟩ = some (.int .i64 q2) := HM1.out.at 1 _ rfl; have m2 : w1.cell? ⟨w.heap.size + 1, 2, none⟩ = some (.int .i64 q3) := HM1.out.at 2 _ rfl; have m3 : w1.cell? ⟨w.heap.size + 1, 3, none⟩ = some (.int .i64 q4) := HM1.out.at 3 _ rfl; have m4 : w1.cell? ⟨w.heap.size + 1, 4, none⟩ = some (.int .i64 0) := HM1.out.at 4 _ rfl; have m5 : w1.cell? ⟨w.heap.size + 1, 5, none⟩ = some (.int .i64 0) := HM1.out.at 5 _ rfl; have m6 : w1.cell? ⟨w.heap.size + 1, 6, none⟩ = some (.int .i64 q7) := HM1.out.at 6 _ rfl; have m7 : w1.cell? ⟨w.heap.size + 1, 7, none⟩ = some (.int .i64 q8) := HM1.out.at 7 _ rfl; have m8 : w1.cell? ⟨w.heap.size + 1, 8, none⟩ = some (.int .i64 q9) := HM1.out.at 8 _ rfl; have m9 : w1.cell? ⟨w.heap.size + 1, 9, none⟩ = some (.int .i64 q10) := HM1.out.at 9 _ rfl; have m10 : w1.cell? ⟨w.heap.size + 1, 10, none⟩ = some (.int .i64 q11) := HM1.out.at 10 _ rfl; have m11 : w1.cell? ⟨w.heap.size + 1, 11, none⟩ = some (.int .i64 q12) := HM1.out.at 11 _ rfl; clear hg CK))
          | (go_at_call 54; ((with_reducible refine (CR _).mono ?_); rintro e w2 ⟨rfl, hg⟩; have HX2 := Lib.hid (HX1.out.keep hg); have HY2 := Lib.hid (HY1.out.keep hg); have HM2 := Lib.hid (HM1.out.keep hg); have HG2 := Lib.hid (grew_trans HG1.out hg); have x0 : w2.cell? ⟨w.heap.size, 0, none⟩ = some (.slice A1 n1 c1) := HX2.out.at 0 _ rfl; have x1 : w2.cell? ⟨w.heap.size, 1, none⟩ = some (.slice A2 n2 c2) := HX2.out.at 1 _ rfl; have x2 : w2.cell? ⟨w.heap.size, 2, none⟩ = some (.slice A3 n3 c3) := HX2.out.at 2 _ rfl; have y0 : w2.cell? ⟨w.heap.size + 1 + 1, 0, none⟩ = some (.slice none 0 0) := HY2.out.at 0 _ rfl; have f0 : w2.frozen? ⟨w.heap.size + 1 + 1, 0, none⟩ = false := HY2.out.fr 0 (by decide); have y1 : w2.cell? ⟨w.heap.size + 1 + 1, 1, none⟩ = some (.slice none 0 0) := HY2.out.at 1 _ rfl; have f1 : w2.frozen? ⟨w.heap.size + 1 + 1, 1, none⟩ = false := HY2.out.fr 1 (by decide); have y2 : w2.cell? ⟨w.heap.size + 1 + 1, 2, none⟩ = some (.slice none 0 0) := HY2.out.at 2 _ rfl; have f2 : w2.frozen? ⟨w.heap.size + 1 + 1, 2, none⟩ = false := HY2.out.fr 2 (by decide); have n0 : w2.cell? ⟨w.heap.size + 1, 0, none⟩ = some (.int .i64 q1) := HM2.out.at 0 _ rfl; clear hg CR))
          | (go_at_call 16; ((with_reducible refine (CM _ HG2.out).mono ?_); rintro e w3 ⟨rfl, hg⟩; have HX3 : Hid (OwnC (w3.alloc (.cells #[.int .i64 p1, .int .i64 p2, .int .i64 p3, .int .i64 p4, .int .i64 p5, .int .i64 p6, .int .i64 p7, .int .i64 p8, .int .i64 p9, .int .i64 p10, .int .i64 p11, .int .i64 p12] 38)) w.heap.size [.slice A1 n1 c1, .slice A2 n2 c2, .slice A3 n3 c3]) := (HX2.out.keep hg).keep (grew_alloc _ _ _); have HY3 : Hid (OwnC (w3.alloc (.cells #[.int .i64 p1, .int .i64 p2, .int .i64 p3, .int .i64 p4, .int .i64 p5, .int .i64 p6, .int .i64 p7, .int .i64 p8, .int .i64 p9, .int .i64 p10, .int .i64 p11, .int .i64 p12] 38)) (w.heap.size + 1 + 1) [.slice none 0 0, .slice none 0 0, .slice none 0 0]) := (HY2.out.keep hg).keep (grew_alloc _ _ _); have HM3 : Hid (OwnC (w3.alloc (.cells #[.int .i64 p1, .int .i64 p2, .int .i64 p3, .int .i64 p4, .int .i64 p5, .int .i64 p6, .int .i64 p7, .int .i64 p8, .int .i64 p9, .int .i64 p10, .int .i64 p11, .int .i64 p12] 38)) (w.heap.size + 1) [.int .i64 q1, .int .i64 q2, .int .i64 q3, .int .i64 q4, .int .i64 0, .int .i64 0, .int .i64 q7, .int .i64 q8, .int .i64 q9, .int .i64 q10, .int .i64 q11, .int .i64 q12]) := (HM2.out.keep hg).keep (grew_alloc _ _ _); have HG3 : Hid (Grew w (w3.alloc (.cells #[.int .i64 p1, .int .i64 p2, .int .i64 p3, .int .i64 p4, .int .i64 p5, .int .i64 p6, .int .i64 p7, .int .i64 p8, .int .i64 p9, .int .i64 p10, .int .i64 p11, .int .i64 p12] 38))) := grew_trans (grew_trans HG2.out hg) (grew_alloc _ _ _); have y0 : (w3.alloc (.cells #[.int .i64 p1, .int .i64 p2, .int .i64 p3, .int .i64 p4, .int .i64 p5, .int .i64 p6, .int .i64 p7, .int .i64 p8, .int .i64 p9, .int .i64 p10, .int .i64 p11, .int .i64 p12] 38)).cell? ⟨w.heap.size + 1 + 1, 0, none⟩ = some (.slice none 0 0) := HY3.out.at 0 _ rfl; have f0 : (w3.alloc (.cells #[.int .i64 p1, .int .i64 p2, .int .i64 p3, .int .i64 p4, .int .i64 p5, .int .i64 p6, .int .i64 p7, .int .i64 p8, .int .i64 p9, .int .i64 p10, .int .i64 p11, .int .i64 p12] 38)).frozen? ⟨w.heap.size + 1 + 1, 0, none⟩ = false := HY3.out.fr 0 (by decide); have y1 : (w3.alloc (.cells #[.int .i64 p1, .int .i64 p2, .int .i64 p3, .int .i64 p4, .int .i64 p5, .int .i64 p6, .int .i64 p7, .int .i64 p8, .int .i64 p9, .int .i64 p10, .int .i64 p11, .int .i64 p12] 38)).cell? ⟨w.heap.size + 1 + 1, 1, none⟩ = some (.slice none 0 0) := HY3.out.at 1 _ rfl; have f1 : (w3.alloc (.cells #[.int .i64 p1, .int .i64 p2, .int .i64 p3, .int .i64 p4, .int .i64 p5, .int .i64 p6, .int .i64 p7, .int .i64 p8, .int .i64 p9, .int .i64 p10, .int .i64 p11, .int .i64 p12] 38)).frozen? ⟨w.heap.size + 1 + 1, 1, none⟩ = false := HY3.out.fr 1 (by decide); have y2 : (w3.alloc (.cells #[.int .i64 p1, .int .i64 p2, .int .i64 p3, .int .i64 p4, .int .i64 p5, .int .i64 p6, .int .i64 p7, .int .i64 p8, .int .i64 p9, .int .i64 p10, .int .i64 p11, .int .i64 p12] 38)).cell? ⟨w.heap.size + 1 + 1, 2, none⟩ = some (.slice none 0 0) := HY3.out.at 2 _ rfl; have f2 : (w3.alloc (.cells #[.int .i64 p1, .int .i64 p2, .int .i64 p3, .int .i64 p4, .int .i64 p5, .int .i64 p6, .int .i64 p7, .int .i64 p8, .int .i64 p9, .int .i64 p10, .int .i64 p11, .int .i64 p12] 38)).frozen? ⟨w.heap.size + 1 + 1, 2, none⟩ = false := HY3.out.fr 2 (by decide); clear hg CM)))
        have HP := HY3.out.all [.slice none 0 0, .slice none 0 0, .slice none 0 0] rfl
        have HGP := grew_put (w.heap.size + 1 + 1) (by show w.heap.size ≤ _; omega) [.slice none 0 0, .slice none 0 0, .slice none 0 0] 0 _ HG3.out
        change bodyPost _ _ _ _ _ (putC (w3.alloc (.cells #[.int .i64 p1, .int .i64 p2, .int .i64 p3, .int .i64 p4, .int .i64 p5, .int .i64 p6, .int .i64 p7, .int .i64 p8, .int .i64 p9, .int .i64 p10, .int .i64 p11, .int .i64 p12] 38)) (w.heap.size + 1 + 1) 0 [.slice none 0 0, .slice none 0 0, .slice none 0 0])
        generalize putC (w3.alloc (.cells #[.int .i64 p1, .int .i64 p2, .int .i64 p3, .int .i64 p4, .int .i64 p5, .int .i64 p6, .int .i64 p7, .int .i64 p8, .int .i64 p9, .int .i64 p10, .int .i64 p11, .int .i64 p12] 38)) (w.heap.size + 1 + 1) 0 [.slice none 0 0, .slice none 0 0, .slice none 0 0] = w9 at *
        have z0 : w9.cell? ⟨w.heap.size + 1 + 1, 0, none⟩ = _ := HP.at 0 _ rfl
        have z1 : w9.cell? ⟨w.heap.size + 1 + 1, 1, none⟩ = _ := HP.at 1 _ rfl
        have z2 : w9.cell? ⟨w.heap.size + 1 + 1, 2, none⟩ = _ := HP.at 2 _ rfl
        refine bodyPost_ret (v := .tuple #[.agg #[.slice none 0 0, .slice none 0 0, .slice none 0 0], .int .i64 11]) (by simp [results, Try.results34, go_sem, z0, z1, z2]) rfl ?_
        exact ⟨none, none, none, 0, 0, 0, rfl, own3_nil _ _, HGP⟩
      · rw [Bool.not_eq_true] at hh
        rw [hh] at CM
        have hhn := hh
        have hhf : ¬ hasL noIn r.2.1 (noIn ((q1, q2, q3, q4, q5, q6), (q7, q8, q9, q10, q11, q12))) = true := by (show ¬ hasL noIn r.2.1 q1 = true); rw [hh]; decide
        rw [show listP r ((q1, q2, q3, q4, q5, q6), (q7, q8, q9, q10, q11, q12)) = ((r.1, putL noIn r.2.1 ((q1, q2, q3, q4, 0, 0), (q7, q8, q9, q10, q11, q12)), r.2.2), 0) by unfold listP; rw [if_pos hr, if_pos hm2, if_neg hhf] <;> rfl]
        go_enter Try.func34, Try.ntmps34
        go_upto_region 1 with fail
        have HGI : Hid (Grew w (((w.alloc (.cells #[.slice A1 n1 c1, .slice A2 n2 c2, .slice A3 n3 c3] 26)).alloc (.cells #[.int .i64 q1, .int .i64 q2, .int .i64 q3, .int .i64 q4, .int .i64 q5, .int .i64 q6, .int .i64 q7, .int .i64 q8, .int .i64 q9, .int .i64 q10, .int .i64 q11, .int .i64 q12] 38)).alloc (.cells #[.slice none 0 0, .slice none 0 0, .slice none 0 0] 26))) := grew_trans (grew_trans (grew_alloc _ _ _) (grew_alloc _ _ _)) (grew_alloc _ _ _)
        have HX0 : Hid (OwnC (((w.alloc (.cells #[.slice A1 n1 c1, .slice A2 n2 c2, .slice A3 n3 c3] 26)).alloc (.cells #[.int .i64 q1, .int .i64 q2, .int .i64 q3, .int .i64 q4, .int .i64 q5, .int .i64 q6, .int .i64 q7, .int .i64 q8, .int .i64 q9, .int .i64 q10, .int .i64 q11, .int .i64 q12] 38)).alloc (.cells #[.slice none 0 0, .slice none 0 0, .slice none 0 0] 26)) w.heap.size [.slice A1 n1 c1, .slice A2 n2 c2, .slice A3 n3 c3]) := ((OwnC.new w [.slice A1 n1 c1, .slice A2 n2 c2, .slice A3 n3 c3] _ _ rfl).keep (grew_alloc _ _ _)).keep (grew_alloc _ _ _)
        have HY0 : Hid (OwnC (((w.alloc (.cells #[.slice A1 n1 c1, .slice A2 n2 c2, .slice A3 n3 c3] 26)).alloc (.cells #[.int .i64 q1, .int .i64 q2, .int .i64 q3, .int .i64 q4, .int .i64 q5, .int .i64 q6, .int .i64 q7, .int .i64 q8, .int .i64 q9, .int .i64 q10, .int .i64 q11, .int .i64 q12] 38)).alloc (.cells #[.slice none 0 0, .slice none 0 0, .slice none 0 0] 26)) (w.heap.size + 1 + 1) [.slice none 0 0, .slice none 0 0, .slice none 0 0]) := OwnC.new _ [.slice none 0 0, .slice none 0 0, .slice none 0 0] _ _ (by simp)
        have HM0 : Hid (OwnC (((w.alloc (.cells #[.slice A1 n1 c1, .slice A2 n2 c2, .slice A3 n3 c3] 26)).alloc (.cells #[.int .i64 q1, .int .i64 q2, .int .i64 q3, .int .i64 q4, .int .i64 q5, .int .i64 q6, .int .i64 q7, .int .i64 q8, .int .i64 q9, .int .i64 q10, .int .i64 q11, .int .i64 q12] 38)).alloc (.cells #[.slice none 0 0, .slice none 0 0, .slice none 0 0] 26)) (w.heap.size + 1) [.int .i64 q1, .int .i64 q2, .int .i64 q3, .int .i64 q4, .int .i64 q5, .int .i64 q6, .int .i64 q7, .int .i64 q8, .int .i64 q9, .int .i64 q10, .int .i64 q11, .int .i64 q12]) := (OwnC.new _ [.int .i64 q1, .int .i64 q2, .int .i64 q3, .int .i64 q4, .int .i64 q5, .int .i64 q6, .int .i64 q7, .int .i64 q8, .int .i64 q9, .int .i64 q10, .int .i64 q11, .int .i64 q12] _ _ (by simp)).keep (grew_alloc _ _ _)
        generalize (((w.alloc (.cells #[.slice A1 n1 c1, .slice A2 n2 c2, .slice A3 n3 c3] 26)).alloc (.cells #[.int .i64 q1, .int .i64 q2, .int .i64 q3, .int .i64 q4, .int .i64 q5, .int .i64 q6, .int .i64 q7, .int .i64 q8, .int .i64 q9, .int .i64 q10, .int .i64 q11, .int .i64 q12] 38)).alloc (.cells #[.slice none 0 0, .slice none 0 0, .slice none 0 0] 26)) = w0 at *
        have x0 : w0.cell? ⟨w.heap.size, 0, none⟩ = some (.slice A1 n1 c1) := HX0.out.at 0 _ rfl
        have x1 : w0.cell? ⟨w.heap.size, 1, none⟩ = some (.slice A2 n2 c2) := HX0.out.at 1 _ rfl
        have x2 : w0.cell? ⟨w.heap.size, 2, none⟩ = some (.slice A3 n3 c3) := HX0.out.at 2 _ rfl
        have k4 : w0.cell? ⟨w.heap.size + 1, 4, none⟩ = some (.int .i64 q5) := HM0.out.at 4 _ rfl
        have k5 : w0.cell? ⟨w.heap.size + 1, 5, none⟩ = some (.int .i64 q6) := HM0.out.at 5 _ rfl
        have j4 : w0.frozen? ⟨w.heap.size + 1, 4, none⟩ = false := HM0.out.fr 4 (by show 4 < 12; omega)
        have j5 : w0.frozen? ⟨w.heap.size + 1, 5, none⟩ = false := HM0.out.fr 5 (by show 5 < 12; omega)
        go_upto_region 2 with fail
        have HXs : Hid (OwnC ((w0.setCell ⟨w.heap.size + 1, 4, none⟩ (.int .i64 0)).setCell ⟨w.heap.size + 1, 5, none⟩ (.int .i64 0)) w.heap.size [.slice A1 n1 c1, .slice A2 n2 c2, .slice A3 n3 c3]) := (HX0.out.other _ _ (by show _ + 1 ≠ _; omega)).other _ _ (by show _ + 1 ≠ _; omega)
        have HYs : Hid (OwnC ((w0.setCell ⟨w.heap.size + 1, 4, none⟩ (.int .i64 0)).setCell ⟨w.heap.size + 1, 5, none⟩ (.int .i64 0)) (w.heap.size + 1 + 1) [.slice none 0 0, .slice none 0 0, .slice none 0 0]) := (HY0.out.other _ _ (by show _ + 1 ≠ _; omega)).other _ _ (by show _ + 1 ≠ _; omega)
        have HMs : Hid (OwnC ((w0.setCell ⟨w.heap.size + 1, 4, none⟩ (.int .i64 0)).setCell ⟨w.heap.size + 1, 5, none⟩ (.int .i64 0)) (w.heap.size + 1) [.int .i64 q1, .int .i64 q2, .int .i64 q3, .int .i64 q4, .int .i64 0, .int .i64 0, .int .i64 q7, .int .i64 q8, .int .i64 q9, .int .i64 q10, .int .i64 q11, .int .i64 q12]) := (HM0.out.set 4 (.int .i64 0) (by show 4 < 12; omega)).set 5 (.int .i64 0) (by show 5 < 12; omega)
        have HGs : Hid (Grew w ((w0.setCell ⟨w.heap.size + 1, 4, none⟩ (.int .i64 0)).setCell ⟨w.heap.size + 1, 5, none⟩ (.int .i64 0))) := grew_set (grew_set HGI.out _ (by show _ ≤ _ + 1; omega)) _ (by show _ ≤ _ + 1; omega)
        clear k4 k5 j4 j5 x0 x1 x2
        generalize ((w0.setCell ⟨w.heap.size + 1, 4, none⟩ (.int .i64 0)).setCell ⟨w.heap.size + 1, 5, none⟩ (.int .i64 0)) = ws at *
        have x0 : ws.cell? ⟨w.heap.size, 0, none⟩ = some (.slice A1 n1 c1) := HXs.out.at 0 _ rfl
        have x1 : ws.cell? ⟨w.heap.size, 1, none⟩ = some (.slice A2 n2 c2) := HXs.out.at 1 _ rfl
        have x2 : ws.cell? ⟨w.heap.size, 2, none⟩ = some (.slice A3 n3 c3) := HXs.out.at 2 _ rfl
        go_upto_region 9 with (first
          | (go_at_call 12; ((with_reducible refine (CK _ HGs.out).mono ?_); rintro e w1 ⟨rfl, hg⟩; have HX1 := Lib.hid (HXs.out.keep hg); have HY1 := Lib.hid (HYs.out.keep hg); have HM1 := Lib.hid (HMs.out.keep hg); have HG1 := Lib.hid (grew_trans HGs.out hg); have m0 : w1.cell? ⟨w.heap.size + 1, 0, none⟩ = some (.int .i64 q1) := HM1.out.at 0 _ rfl; have m1 : w1.cell? ⟨w.heap.size + 1, 1, none⟩ = some (.int .i64 q2) := HM1.out.at 1 _ rfl; have m2 : w1.cell? ⟨w.heap.size + 1, 2, none⟩ = some (.int .i64 q3) := HM1.out.at 2 _ rfl; have m3 : w1.cell? ⟨w.heap.size + 1, 3, none⟩ = some (.int .i64 q4) := HM1.out.at 3 _ rfl; have m4 : w1.cell? ⟨w.heap.size + 1, 4, none⟩ = some (.int .i64 0) := HM1.out.at 4 _ rfl; have m5 : w1.cell? ⟨w.heap.size + 1, 5, none⟩ = some (.int .i64 0) := HM1.out.at 5 _ rfl; have m6 : w1.cell? ⟨w.heap.size + 1, 6, none⟩ = some (.int .i64 q7) := HM1.out.at 6 _ rfl; have m7 : w1.cell? ⟨w.heap.size + 1, 7, none⟩ = some (.int .i64 q8) := HM1.out.at 7 _ rfl; have m8 : w1.cell? ⟨w.heap.size + 1, 8, none⟩ = some (.int .i64 q9) := HM1.out.at 8 _ rfl; have m9 : w1.cell? ⟨w.heap.size + 1, 9, none⟩ = some (.int .i64 q10) := HM1.out.at 9 _ rfl; have m10 : w1.cell? ⟨w.heap.size + 1, 10, none⟩ = some (.int .i64 q11) := HM1.out.at 10 _ rfl; have m11 : w1.cell? ⟨w.heap.size + 1, 11, none⟩ = some (.int .i64 q12) := HM1.out.at 11 _ rfl; clear hg CK))
          | (go_at_call 54; ((with_reducible refine (CR _).mono ?_); rintro e w2 ⟨rfl, hg⟩; have HX2 := Lib.hid (HX1.out.keep hg); have HY2 := Lib.hid (HY1.out.keep hg); have HM2 := Lib.hid (HM1.out.keep hg); have HG2 := Lib.hid (grew_trans HG1.out hg); have x0 : w2.cell? ⟨w.heap.size, 0, none⟩ = some (.slice A1 n1 c1) := HX2.out.at 0 _ rfl; have x1 : w2.cell? ⟨w.heap.size, 1, none⟩ = some (.slice A2 n2 c2) := HX2.out.at 1 _ rfl; have x2 : w2.cell? ⟨w.heap.size, 2, none⟩ = some (.slice A3 n3 c3) := HX2.out.at 2 _ rfl; have y0 : w2.cell? ⟨w.heap.size + 1 + 1, 0, none⟩ = some (.slice none 0 0) := HY2.out.at 0 _ rfl; have f0 : w2.frozen? ⟨w.heap.size + 1 + 1, 0, none⟩ = false := HY2.out.fr 0 (by decide); have y1 : w2.cell? ⟨w.heap.size + 1 + 1, 1, none⟩ = some (.slice none 0 0) := HY2.out.at 1 _ rfl; have f1 : w2.frozen? ⟨w.heap.size + 1 + 1, 1, none⟩ = false := HY2.out.fr 1 (by decide); have y2 : w2.cell? ⟨w.heap.size + 1 + 1, 2, none⟩ = some (.slice none 0 0) := HY2.out.at 2 _ rfl; have f2 : w2.frozen? ⟨w.heap.size + 1 + 1, 2, none⟩ = false := HY2.out.fr 2 (by decide); have n0 : w2.cell? ⟨w.heap.size + 1, 0, none⟩ = some (.int .i64 q1) := HM2.out.at 0 _ rfl; clear hg CR))
          | (go_at_call 16; ((with_reducible refine (CM _ HG2.out).mono ?_); rintro e w3 ⟨rfl, hg⟩; have HX3 : Hid (OwnC (w3.alloc (.cells #[.int .i64 p1, .int .i64 p2, .int .i64 p3, .int .i64 p4, .int .i64 p5, .int .i64 p6, .int .i64 p7, .int .i64 p8, .int .i64 p9, .int .i64 p10, .int .i64 p11, .int .i64 p12] 38)) w.heap.size [.slice A1 n1 c1, .slice A2 n2 c2, .slice A3 n3 c3]) := (HX2.out.keep hg).keep (grew_alloc _ _ _); have HY3 : Hid (OwnC (w3.alloc (.cells #[.int .i64 p1, .int .i64 p2, .int .i64 p3, .int .i64 p4, .int .i64 p5, .int .i64 p6, .int .i64 p7, .int .i64 p8, .int .i64 p9, .int .i64 p10, .int .i64 p11, .int .i64 p12] 38)) (w.heap.size + 1 + 1) [.slice none 0 0, .slice none 0 0, .slice none 0 0]) := (HY2.out.keep hg).keep (grew_alloc _ _ _); have HM3 : Hid (OwnC (w3.alloc (.cells #[.int .i64 p1, .int .i64 p2, .int .i64 p3, .int .i64 p4, .int .i64 p5, .int .i64 p6, .int .i64 p7, .int .i64 p8, .int .i64 p9, .int .i64 p10, .int .i64 p11, .int .i64 p12] 38)) (w.heap.size + 1) [.int .i64 q1, .int .i64 q2, .int .i64 q3, .int .i64 q4, .int .i64 0, .int .i64 0, .int .i64 q7, .int .i64 q8, .int .i64 q9, .int .i64 q10, .int .i64 q11, .int .i64 q12]) := (HM2.out.keep hg).keep (grew_alloc _ _ _); have HG3 : Hid (Grew w (w3.alloc (.cells #[.int .i64 p1, .int .i64 p2, .int .i64 p3, .int .i64 p4, .int .i64 p5, .int .i64 p6, .int .i64 p7, .int .i64 p8, .int .i64 p9, .int .i64 p10, .int .i64 p11, .int .i64 p12] 38))) := grew_trans (grew_trans HG2.out hg) (grew_alloc _ _ _); have y0 : (w3.alloc (.cells #[.int .i64 p1, .int .i64 p2, .int .i64 p3, .int .i64 p4, .int .i64 p5, .int .i64 p6, .int .i64 p7, .int .i64 p8, .int .i64 p9, .int .i64 p10, .int .i64 p11, .int .i64 p12] 38)).cell? ⟨w.heap.size + 1 + 1, 0, none⟩ = some (.slice none 0 0) := HY3.out.at 0 _ rfl; have f0 : (w3.alloc (.cells #[.int .i64 p1, .int .i64 p2, .int .i64 p3, .int .i64 p4, .int .i64 p5, .int .i64 p6, .int .i64 p7, .int .i64 p8, .int .i64 p9, .int .i64 p10, .int .i64 p11, .int .i64 p12] 38)).frozen? ⟨w.heap.size + 1 + 1, 0, none⟩ = false := HY3.out.fr 0 (by decide); have y1 : (w3.alloc (.cells #[.int .i64 p1, .int .i64 p2, .int .i64 p3, .int .i64 p4, .int .i64 p5, .int .i64 p6, .int .i64 p7, .int .i64 p8, .int .i64 p9, .int .i64 p10, .int .i64 p11, .int .i64 p12] 38)).cell? ⟨w.heap.size + 1 + 1, 1, none⟩ = some (.slice none 0 0) := HY3.out.at 1 _ rfl; have f1 : (w3.alloc (.cells #[.int .i64 p1, .int .i64 p2, .int .i64 p3, .int .i64 p4, .int .i64 p5, .int .i64 p6, .int .i64 p7, .int .i64 p8, .int .i64 p9, .int .i64 p10, .int .i64 p11, .int .i64 p12] 38)).frozen? ⟨w.heap.size + 1 + 1, 1, none⟩ = false := HY3.out.fr 1 (by decide); have y2 : (w3.alloc (.cells #[.int .i64 p1, .int .i64 p2, .int .i64 p3, .int .i64 p4, .int .i64 p5, .int .i64 p6, .int .i64 p7, .int .i64 p8, .int .i64 p9, .int .i64 p10, .int .i64 p11, .int .i64 p12] 38)).cell? ⟨w.heap.size + 1 + 1, 2, none⟩ = some (.slice none 0 0) := HY3.out.at 2 _ rfl; have f2 : (w3.alloc (.cells #[.int .i64 p1, .int .i64 p2, .int .i64 p3, .int .i64 p4, .int .i64 p5, .int .i64 p6, .int .i64 p7, .int .i64 p8, .int .i64 p9, .int .i64 p10, .int .i64 p11, .int .i64 p12] 38)).frozen? ⟨w.heap.size + 1 + 1, 2, none⟩ = false := HY3.out.fr 2 (by decide); clear hg CM)))
        have HXx := HX3
        have HYx := HY3
        have HGx := HG3
        have HMx := HM3
        clear x0 x1 x2 m0 m1 m2 m3 m4 m5 m6 m7 m8 m9 m10 m11 n0
        generalize (w3.alloc (.cells #[.int .i64 p1, .int .i64 p2, .int .i64 p3, .int .i64 p4, .int .i64 p5, .int .i64 p6, .int .i64 p7, .int .i64 p8, .int .i64 p9, .int .i64 p10, .int .i64 p11, .int .i64 p12] 38)) = wx at *
        have x0 : wx.cell? ⟨w.heap.size, 0, none⟩ = some (.slice A1 n1 c1) := HXx.out.at 0 _ rfl
        have x1 : wx.cell? ⟨w.heap.size, 1, none⟩ = some (.slice A2 n2 c2) := HXx.out.at 1 _ rfl
        have x2 : wx.cell? ⟨w.heap.size, 2, none⟩ = some (.slice A3 n3 c3) := HXx.out.at 2 _ rfl
        have CT := twinRoll_any r A1 A2 A3 n1 n2 n3 c1 c2 c3 wx (HI.out.keep HGx.out) hn
        dsimp only [rlV] at CT
        go_upto_region 10 with (go_at_call 10; ((with_reducible refine CT.mono ?_); rintro e w4 ⟨B1, B2, B3, d1, d2, d3, rfl, ⟨ho, -⟩, hg⟩; dsimp only [rlV]; have HO4 := Lib.hid ho; have HX4 := Lib.hid (HXx.out.keep hg); have HY4 := Lib.hid (HYx.out.keep hg); have HM4 := Lib.hid (HMx.out.keep hg); have HG4 := Lib.hid (grew_trans HGx.out hg); clear ho hg CT))
        have HX5 := Lib.hid (HX4.out.keep (grew_alloc w4 #[.slice B1 r.1.length d1, .slice B2 r.2.1.length d2, .slice B3 r.2.2.length d3] 26))
        have HY5 := Lib.hid (HY4.out.keep (grew_alloc w4 #[.slice B1 r.1.length d1, .slice B2 r.2.1.length d2, .slice B3 r.2.2.length d3] 26))
        have HM5 := Lib.hid (HM4.out.keep (grew_alloc w4 #[.slice B1 r.1.length d1, .slice B2 r.2.1.length d2, .slice B3 r.2.2.length d3] 26))
        have HO5 := Lib.hid (HO4.out.keep (grew_alloc w4 #[.slice B1 r.1.length d1, .slice B2 r.2.1.length d2, .slice B3 r.2.2.length d3] 26))
        have HG5 : Hid (Grew w (w4.alloc (.cells #[.slice B1 r.1.length d1, .slice B2 r.2.1.length d2, .slice B3 r.2.2.length d3] 26))) := grew_trans HG4.out (grew_alloc _ _ _)
        have HZ5 : Hid (OwnC (w4.alloc (.cells #[.slice B1 r.1.length d1, .slice B2 r.2.1.length d2, .slice B3 r.2.2.length d3] 26)) w4.heap.size [.slice B1 r.1.length d1, .slice B2 r.2.1.length d2, .slice B3 r.2.2.length d3]) := OwnC.new w4 [.slice B1 r.1.length d1, .slice B2 r.2.1.length d2, .slice B3 r.2.2.length d3] _ _ rfl
        have HBA : Hid (∀ x, B1 = some x → x.block < w4.heap.size) := fun x hx => (HO4.out.m.block x hx).2
        have HBC : Hid (∀ x, B3 = some x → x.block < w4.heap.size) := fun x hx => (HO4.out.h.block x hx).2
        have HBN4 : Hid (w.heap.size < w4.heap.size ∧ w.heap.size + 1 + 1 < w4.heap.size ∧ w.heap.size + 1 < w4.heap.size) := ⟨HX4.out.lt, HY4.out.lt, HM4.out.lt⟩
        have HBA2 : Hid (∀ x, B1 = some x → x.block ≠ w.heap.size + 1 + 1) := fun x hx => (by have h1 := (HO4.out.m.block x hx).1; have h2 := HYx.out.lt; omega)
        have HBC2 : Hid (∀ x, B3 = some x → x.block ≠ w.heap.size + 1 + 1) := fun x hx => (by have h1 := (HO4.out.h.block x hx).1; have h2 := HYx.out.lt; omega)
        have HGN : Hid (w.heap.size ≤ w4.heap.size) := HG4.out.size
        have HX2 : Hid (w.heap.size + 2 ≤ wx.heap.size + 2) := by have := HGx.out.size; show _ ≤ _; omega
        generalize (w4.alloc (.cells #[.slice B1 r.1.length d1, .slice B2 r.2.1.length d2, .slice B3 r.2.2.length d3] 26)) = w5 at *
        have zq : w5.cell? ⟨w4.heap.size, 1, none⟩ = some (.slice B2 r.2.1.length d2) := HZ5.out.at 1 _ rfl
        have gq : w5.frozen? ⟨w4.heap.size, 1, none⟩ = false := HZ5.out.fr 1 (by show 1 < 3; omega)
        go_upto_region 11 with fail
        have HND : Hid (w4.heap.size ≠ w.heap.size ∧ w4.heap.size ≠ w.heap.size + 1 + 1 ∧ w4.heap.size ≠ w.heap.size + 1) := ⟨Nat.ne_of_gt HBN4.out.1, Nat.ne_of_gt HBN4.out.2.1, Nat.ne_of_gt HBN4.out.2.2⟩
        have HX6 : Hid (OwnC (w5.setCell ⟨w4.heap.size, 1, none⟩ (.slice none 0 0)) w.heap.size [.slice A1 n1 c1, .slice A2 n2 c2, .slice A3 n3 c3]) := HX5.out.other _ _ HND.out.1
        have HY6 : Hid (OwnC (w5.setCell ⟨w4.heap.size, 1, none⟩ (.slice none 0 0)) (w.heap.size + 1 + 1) [.slice none 0 0, .slice none 0 0, .slice none 0 0]) := HY5.out.other _ _ HND.out.2.1
        have HM6 : Hid (OwnC (w5.setCell ⟨w4.heap.size, 1, none⟩ (.slice none 0 0)) (w.heap.size + 1) [.int .i64 q1, .int .i64 q2, .int .i64 q3, .int .i64 q4, .int .i64 0, .int .i64 0, .int .i64 q7, .int .i64 q8, .int .i64 q9, .int .i64 q10, .int .i64 q11, .int .i64 q12]) := HM5.out.other _ _ HND.out.2.2
        have HZ6 : Hid (OwnC (w5.setCell ⟨w4.heap.size, 1, none⟩ (.slice none 0 0)) w4.heap.size [.slice B1 r.1.length d1, .slice none 0 0, .slice B3 r.2.2.length d3]) := HZ5.out.set 1 (.slice none 0 0) (by show 1 < 3; omega)
        have HG6 : Hid (Grew w (w5.setCell ⟨w4.heap.size, 1, none⟩ (.slice none 0 0))) := grew_set HG5.out _ HGN.out
        have HA6 : Hid (OwnE enMb (w5.setCell ⟨w4.heap.size, 1, none⟩ (.slice none 0 0)) (w.heap.size + 2) 33 (.slice B1 r.1.length d1) r.1) := (HO5.out.m.otherB _ _ _ (fun x hx => Nat.ne_of_lt (HBA.out x hx))).mono HX2.out
        have HC6 : Hid (OwnE enAs (w5.setCell ⟨w4.heap.size, 1, none⟩ (.slice none 0 0)) (w.heap.size + 2) 42 (.slice B3 r.2.2.length d3) r.2.2) := (HO5.out.h.otherB _ _ _ (fun x hx => Nat.ne_of_lt (HBC.out x hx))).mono HX2.out
        clear zq gq
        generalize (w5.setCell ⟨w4.heap.size, 1, none⟩ (.slice none 0 0)) = w6 at *
        have HBN : Hid (w.heap.size < w6.heap.size ∧ w.heap.size + 1 + 1 < w6.heap.size ∧ w.heap.size + 1 < w6.heap.size ∧ w4.heap.size < w6.heap.size) := ⟨HX6.out.lt, HY6.out.lt, HM6.out.lt, HZ6.out.lt⟩
        have HGW : Hid (w.heap.size ≤ w6.heap.size) := HG6.out.size
        have CM2 := fun k w' (g : Grew w w') => rfindIn_any A1 A2 A3 n1 n2 n3 c1 c2 c3 r.2.1 ((k : Nat) : Int) w' (HI.out.rows.i.keep g) hn.2.1
        dsimp only [vIn] at CM2
        go_wp2_with fail
        go_loopw [9] (fun v wr => ∃ (m k : Nat) (A : Option Addr) (c : Nat), v = .int .i64 (m : Int) ∧ Hid (m = k + 1) ∧ k ≤ 8 ∧ Hid (OwnE enIn wr w6.heap.size 38 (.slice A (collL noIn in0 r.2.1 ((q1, q2, q3, q4, 0, 0), (q7, q8, q9, q10, q11, q12)) k).length c) (collL noIn in0 r.2.1 ((q1, q2, q3, q4, 0, 0), (q7, q8, q9, q10, q11, q12)) k)) ∧ Hid (OwnC wr w4.heap.size [.slice B1 r.1.length d1, .slice A (collL noIn in0 r.2.1 ((q1, q2, q3, q4, 0, 0), (q7, q8, q9, q10, q11, q12)) k).length c, .slice B3 r.2.2.length d3]) ∧ Hid (OwnC wr w.heap.size [.slice A1 n1 c1, .slice A2 n2 c2, .slice A3 n3 c3]) ∧ Hid (OwnC wr (w.heap.size + 1 + 1) [.slice none 0 0, .slice none 0 0, .slice none 0 0]) ∧ Hid (OwnC wr (w.heap.size + 1) [.int .i64 q1, .int .i64 q2, .int .i64 q3, .int .i64 q4, .int .i64 0, .int .i64 0, .int .i64 q7, .int .i64 q8, .int .i64 q9, .int .i64 q10, .int .i64 q11, .int .i64 q12]) ∧ Hid (OwnE enMb wr (w.heap.size + 2) 33 (.slice B1 r.1.length d1) r.1) ∧ Hid (OwnE enAs wr (w.heap.size + 2) 42 (.slice B3 r.2.2.length d3) r.2.2) ∧ Hid (Grew w wr) ∧ Hid (w6.heap.size ≤ wr.heap.size)) (fun v _ => 9 - (intOf v).toNat)
        case atStart => exact ⟨1, 0, none, 0, rfl, rfl, by omega, OwnE.nil _ _ _ _, HZ6.out, HX6.out, HY6.out, HM6.out, HA6.out, HC6.out, HG6.out, Nat.le_refl _⟩
        case round =>
          obtain ⟨m, k, A, c, rfl, HMK, hk, HO, HZ, HX, HY, HM, HA, HC, HG, HS⟩ := hrel
          clear HX6 HY6 HM6 HA6 HC6 HG6 HZ6 HX5 HY5 HM5 HO5 HG5 HZ5
          have x0 : wr.cell? ⟨w.heap.size, 0, none⟩ = some (.slice A1 n1 c1) := HX.out.at 0 _ rfl
          have x1 : wr.cell? ⟨w.heap.size, 1, none⟩ = some (.slice A2 n2 c2) := HX.out.at 1 _ rfl
          have x2 : wr.cell? ⟨w.heap.size, 2, none⟩ = some (.slice A3 n3 c3) := HX.out.at 2 _ rfl
          by_cases hlt : k < 8
          · have hmM : m ≤ 8 := by have := HMK.out; omega
            have j1 : (m : Int) ≤ 8 := by omega
            have CM2 := fun w' g => CM2 m w' g
            have HHERE := Lib.hid (@coll_here In noIn in0 r.2.1 ((q1, q2, q3, q4, 0, 0), (q7, q8, q9, q10, q11, q12)) k)
            have HHAS := Lib.hid (@coll_has In noIn in0 r.2.1 ((q1, q2, q3, q4, 0, 0), (q7, q8, q9, q10, q11, q12)) k)
            have HCNO := Lib.hid (@coll_no In noIn in0 r.2.1 ((q1, q2, q3, q4, 0, 0), (q7, q8, q9, q10, q11, q12)) k)
            have HHX : Hid (((k : Nat) : Int) + 1 = q1 → hasL noIn r.2.1 ((k : Int) + 1) = hasL noIn r.2.1 q1) := fun e => by rw [e]
            rw [show ((k : Int) + 1) = (m : Int) by have := HMK.out; omega] at HHX HHERE HHAS HCNO
            obtain ⟨s, hs⟩ : ∃ s, s = findL noIn in0 r.2.1 (m : Int) := ⟨_, rfl⟩
            rw [← hs] at CM2 HHAS
            clear hs
            obtain ⟨⟨s1, s2, s3, s4, s5, s6⟩, ⟨s7, s8, s9, s10, s11, s12⟩⟩ := s
            dsimp only at CM2
            by_cases he : (m : Int) = q1
            · have HEQ := Lib.hid (HHERE.out he)
              have HE2 : Hid (((m : Int) == q1) = true) := by show _ = _; simpa using he
              rw [HHX.out he, hhn] at CM2
              clear HHERE HHAS HCNO HHX he
              go_upto_region 17 with (go_at_call 16; ((with_reducible refine (CM2 _ HG.out).mono ?_); rintro e w7 ⟨rfl, hg⟩; have HGG : Hid (Grew wr (w7.alloc (.cells #[.int .i64 s1, .int .i64 s2, .int .i64 s3, .int .i64 s4, .int .i64 s5, .int .i64 s6, .int .i64 s7, .int .i64 s8, .int .i64 s9, .int .i64 s10, .int .i64 s11, .int .i64 s12] 38))) := grew_trans hg (grew_alloc _ _ _); have HE7 : Hid (OwnC (w7.alloc (.cells #[.int .i64 s1, .int .i64 s2, .int .i64 s3, .int .i64 s4, .int .i64 s5, .int .i64 s6, .int .i64 s7, .int .i64 s8, .int .i64 s9, .int .i64 s10, .int .i64 s11, .int .i64 s12] 38)) w7.heap.size [.int .i64 s1, .int .i64 s2, .int .i64 s3, .int .i64 s4, .int .i64 s5, .int .i64 s6, .int .i64 s7, .int .i64 s8, .int .i64 s9, .int .i64 s10, .int .i64 s11, .int .i64 s12]) := OwnC.new w7 [.int .i64 s1, .int .i64 s2, .int .i64 s3, .int .i64 s4, .int .i64 s5, .int .i64 s6, .int .i64 s7, .int .i64 s8, .int .i64 s9, .int .i64 s10, .int .i64 s11, .int .i64 s12] _ _ rfl; clear hg))
              have HO7 := Lib.hid (HO.out.keep HGG.out)
              have HZ7 := Lib.hid (HZ.out.keep HGG.out)
              have HX7 := Lib.hid (HX.out.keep HGG.out)
              have HY7 := Lib.hid (HY.out.keep HGG.out)
              have HM7 := Lib.hid (HM.out.keep HGG.out)
              have HA7 := Lib.hid (HA.out.keep HGG.out)
              have HC7 := Lib.hid (HC.out.keep HGG.out)
              have HG7 := Lib.hid (grew_trans HG.out HGG.out)
              have HS7 : Hid (w6.heap.size ≤ (w7.alloc (.cells #[.int .i64 s1, .int .i64 s2, .int .i64 s3, .int .i64 s4, .int .i64 s5, .int .i64 s6, .int .i64 s7, .int .i64 s8, .int .i64 s9, .int .i64 s10, .int .i64 s11, .int .i64 s12] 38)).heap.size) := Nat.le_trans HS.out HGG.out.size
              clear x0 x1 x2 CM2 HGG
              generalize (w7.alloc (.cells #[.int .i64 s1, .int .i64 s2, .int .i64 s3, .int .i64 s4, .int .i64 s5, .int .i64 s6, .int .i64 s7, .int .i64 s8, .int .i64 s9, .int .i64 s10, .int .i64 s11, .int .i64 s12] 38)) = wa at *
              have m0 : wa.cell? ⟨w.heap.size + 1, 0, none⟩ = some (.int .i64 q1) := HM7.out.at 0 _ rfl
              have m1 : wa.cell? ⟨w.heap.size + 1, 1, none⟩ = some (.int .i64 q2) := HM7.out.at 1 _ rfl
              have m2 : wa.cell? ⟨w.heap.size + 1, 2, none⟩ = some (.int .i64 q3) := HM7.out.at 2 _ rfl
              have m3 : wa.cell? ⟨w.heap.size + 1, 3, none⟩ = some (.int .i64 q4) := HM7.out.at 3 _ rfl
              have m4 : wa.cell? ⟨w.heap.size + 1, 4, none⟩ = some (.int .i64 0) := HM7.out.at 4 _ rfl
              have m5 : wa.cell? ⟨w.heap.size + 1, 5, none⟩ = some (.int .i64 0) := HM7.out.at 5 _ rfl
              have m6 : wa.cell? ⟨w.heap.size + 1, 6, none⟩ = some (.int .i64 q7) := HM7.out.at 6 _ rfl
              have m7 : wa.cell? ⟨w.heap.size + 1, 7, none⟩ = some (.int .i64 q8) := HM7.out.at 7 _ rfl
              have m8 : wa.cell? ⟨w.heap.size + 1, 8, none⟩ = some (.int .i64 q9) := HM7.out.at 8 _ rfl
              have m9 : wa.cell? ⟨w.heap.size + 1, 9, none⟩ = some (.int .i64 q10) := HM7.out.at 9 _ rfl
              have m10 : wa.cell? ⟨w.heap.size + 1, 10, none⟩ = some (.int .i64 q11) := HM7.out.at 10 _ rfl
              have m11 : wa.cell? ⟨w.heap.size + 1, 11, none⟩ = some (.int .i64 q12) := HM7.out.at 11 _ rfl
              have he2 := HE2.out
              go_upto_region 18 with fail
              clear he2
              have HCL : Hid ((collL noIn in0 r.2.1 ((q1, q2, q3, q4, 0, 0), (q7, q8, q9, q10, q11, q12)) k).length ≤ 20) := Nat.le_trans coll_len (by omega)
              have zq : wa.cell? ⟨w4.heap.size, 1, none⟩ = some (.slice A (collL noIn in0 r.2.1 ((q1, q2, q3, q4, 0, 0), (q7, q8, q9, q10, q11, q12)) k).length c) := HZ7.out.at 1 _ rfl
              go_wp2_with (at_builtin; refine (wpList_append_E rfl _ _ 23 38 (vIn in0) 96 rfl Try.underlying23 info_in rfl w6.heap.size _ (collL noIn in0 r.2.1 ((q1, q2, q3, q4, 0, 0), (q7, q8, q9, q10, q11, q12)) k) rfl (HO7.out.keep (grew_alloc _ _ _)) (some ⟨wa.heap.size, 0, none⟩) 1 1 [((q1, q2, q3, q4, 0, 0), (q7, q8, q9, q10, q11, q12))] rfl (by intro h; cases h) (RowE.one enIn wa ((q1, q2, q3, q4, 0, 0), (q7, q8, q9, q10, q11, q12)) 38 _ rfl) (by have := HCL.out; unfold maxLen; omega) (by have := HCL.out; omega) (Nat.le_trans HS7.out (grew_alloc wa #[.int .i64 q1, .int .i64 q2, .int .i64 q3, .int .i64 q4, .int .i64 0, .int .i64 0, .int .i64 q7, .int .i64 q8, .int .i64 q9, .int .i64 q10, .int .i64 q11, .int .i64 q12] 38).size) ?_); intro v' w8 ho hb; rw [← HEQ.out] at ho; obtain ⟨A8, c8, rfl, -⟩ := ho.form; have HO8 := Lib.hid ho; have HB8 := Lib.hid hb; have HP8 : Hid (Below w6.heap.size wa w8) := Below.trans (Below.mono (grew_alloc _ _ _) HS7.out) hb; have HZ8 := Lib.hid (HZ7.out.below HP8.out HBN.out.2.2.2); have e8 : w8.cell? ⟨w4.heap.size, 1, none⟩ = some (.slice A (collL noIn in0 r.2.1 ((q1, q2, q3, q4, 0, 0), (q7, q8, q9, q10, q11, q12)) k).length c) := HZ8.out.at 1 _ rfl; have g8 : w8.frozen? ⟨w4.heap.size, 1, none⟩ = false := HZ8.out.fr 1 (by show 1 < 3; omega); clear ho hb)
              have HZ9 : Hid (OwnC (w8.setCell ⟨w4.heap.size, 1, none⟩ (.slice A8 (collL noIn in0 r.2.1 ((q1, q2, q3, q4, 0, 0), (q7, q8, q9, q10, q11, q12)) (k + 1)).length c8)) w4.heap.size [.slice B1 r.1.length d1, .slice A8 (collL noIn in0 r.2.1 ((q1, q2, q3, q4, 0, 0), (q7, q8, q9, q10, q11, q12)) (k + 1)).length c8, .slice B3 r.2.2.length d3]) := HZ8.out.set 1 (.slice A8 (collL noIn in0 r.2.1 ((q1, q2, q3, q4, 0, 0), (q7, q8, q9, q10, q11, q12)) (k + 1)).length c8) (by show 1 < 3; omega)
              have HO9 := Lib.hid (HO8.out.set w4.heap.size 1 (.slice A8 (collL noIn in0 r.2.1 ((q1, q2, q3, q4, 0, 0), (q7, q8, q9, q10, q11, q12)) (k + 1)).length c8) HBN.out.2.2.2)
              have HX9 : Hid (OwnC (w8.setCell ⟨w4.heap.size, 1, none⟩ (.slice A8 (collL noIn in0 r.2.1 ((q1, q2, q3, q4, 0, 0), (q7, q8, q9, q10, q11, q12)) (k + 1)).length c8)) w.heap.size [.slice A1 n1 c1, .slice A2 n2 c2, .slice A3 n3 c3]) := (HX7.out.below HP8.out HBN.out.1).other _ _ HND.out.1
              have HY9 : Hid (OwnC (w8.setCell ⟨w4.heap.size, 1, none⟩ (.slice A8 (collL noIn in0 r.2.1 ((q1, q2, q3, q4, 0, 0), (q7, q8, q9, q10, q11, q12)) (k + 1)).length c8)) (w.heap.size + 1 + 1) [.slice none 0 0, .slice none 0 0, .slice none 0 0]) := (HY7.out.below HP8.out HBN.out.2.1).other _ _ HND.out.2.1
              have HM9 : Hid (OwnC (w8.setCell ⟨w4.heap.size, 1, none⟩ (.slice A8 (collL noIn in0 r.2.1 ((q1, q2, q3, q4, 0, 0), (q7, q8, q9, q10, q11, q12)) (k + 1)).length c8)) (w.heap.size + 1) [.int .i64 q1, .int .i64 q2, .int .i64 q3, .int .i64 q4, .int .i64 0, .int .i64 0, .int .i64 q7, .int .i64 q8, .int .i64 q9, .int .i64 q10, .int .i64 q11, .int .i64 q12]) := (HM7.out.below HP8.out HBN.out.2.2.1).other _ _ HND.out.2.2
              have HA9 := Lib.hid ((HA7.out.keepB HP8.out (fun x hx => Nat.lt_trans (HBA.out x hx) HBN.out.2.2.2)).otherB w4.heap.size 1 (.slice A8 (collL noIn in0 r.2.1 ((q1, q2, q3, q4, 0, 0), (q7, q8, q9, q10, q11, q12)) (k + 1)).length c8) (fun x hx => Nat.ne_of_lt (HBA.out x hx)))
              have HC9 := Lib.hid ((HC7.out.keepB HP8.out (fun x hx => Nat.lt_trans (HBC.out x hx) HBN.out.2.2.2)).otherB w4.heap.size 1 (.slice A8 (collL noIn in0 r.2.1 ((q1, q2, q3, q4, 0, 0), (q7, q8, q9, q10, q11, q12)) (k + 1)).length c8) (fun x hx => Nat.ne_of_lt (HBC.out x hx)))
              have HG9 : Hid (Grew w (w8.setCell ⟨w4.heap.size, 1, none⟩ (.slice A8 (collL noIn in0 r.2.1 ((q1, q2, q3, q4, 0, 0), (q7, q8, q9, q10, q11, q12)) (k + 1)).length c8))) := grew_set (grew_low HG7.out HP8.out HGW.out) _ (by have := HGN.out; show _ ≤ w4.heap.size; exact this)
              have HS9 : Hid (w6.heap.size ≤ (w8.setCell ⟨w4.heap.size, 1, none⟩ (.slice A8 (collL noIn in0 r.2.1 ((q1, q2, q3, q4, 0, 0), (q7, q8, q9, q10, q11, q12)) (k + 1)).length c8)).heap.size) := le_set _ _ (Nat.le_trans HS7.out HP8.out.size)
              clear zq e8 g8
              go_roundw
              case rel => exact ⟨m + 1, k + 1, A8, c8, by go_num, (by have := HMK.out; show _ = _; omega), by omega, HO9.out, HZ9.out, HX9.out, HY9.out, HM9.out, HA9.out, HC9.out, HG9.out, HS9.out⟩
              case measure => simp only [intOf]; omega
            · have he2 : ((m : Int) == q1) = false := by simpa using he
              by_cases hh : hasL noIn r.2.1 (m : Int) = true
              · have HEQ := Lib.hid (HHAS.out he hh)
                rw [hh] at CM2
                clear HHERE HHAS HCNO HHX
                go_upto_region 16 with (go_at_call 16; ((with_reducible refine (CM2 _ HG.out).mono ?_); rintro e w7 ⟨rfl, hg⟩; have HGG : Hid (Grew wr (w7.alloc (.cells #[.int .i64 s1, .int .i64 s2, .int .i64 s3, .int .i64 s4, .int .i64 s5, .int .i64 s6, .int .i64 s7, .int .i64 s8, .int .i64 s9, .int .i64 s10, .int .i64 s11, .int .i64 s12] 38))) := grew_trans hg (grew_alloc _ _ _); have HE7 : Hid (OwnC (w7.alloc (.cells #[.int .i64 s1, .int .i64 s2, .int .i64 s3, .int .i64 s4, .int .i64 s5, .int .i64 s6, .int .i64 s7, .int .i64 s8, .int .i64 s9, .int .i64 s10, .int .i64 s11, .int .i64 s12] 38)) w7.heap.size [.int .i64 s1, .int .i64 s2, .int .i64 s3, .int .i64 s4, .int .i64 s5, .int .i64 s6, .int .i64 s7, .int .i64 s8, .int .i64 s9, .int .i64 s10, .int .i64 s11, .int .i64 s12]) := OwnC.new w7 [.int .i64 s1, .int .i64 s2, .int .i64 s3, .int .i64 s4, .int .i64 s5, .int .i64 s6, .int .i64 s7, .int .i64 s8, .int .i64 s9, .int .i64 s10, .int .i64 s11, .int .i64 s12] _ _ rfl; clear hg))
                have HO7 := Lib.hid (HO.out.keep HGG.out)
                have HZ7 := Lib.hid (HZ.out.keep HGG.out)
                have HX7 := Lib.hid (HX.out.keep HGG.out)
                have HY7 := Lib.hid (HY.out.keep HGG.out)
                have HM7 := Lib.hid (HM.out.keep HGG.out)
                have HA7 := Lib.hid (HA.out.keep HGG.out)
                have HC7 := Lib.hid (HC.out.keep HGG.out)
                have HG7 := Lib.hid (grew_trans HG.out HGG.out)
                have HS7 : Hid (w6.heap.size ≤ (w7.alloc (.cells #[.int .i64 s1, .int .i64 s2, .int .i64 s3, .int .i64 s4, .int .i64 s5, .int .i64 s6, .int .i64 s7, .int .i64 s8, .int .i64 s9, .int .i64 s10, .int .i64 s11, .int .i64 s12] 38)).heap.size) := Nat.le_trans HS.out HGG.out.size
                clear x0 x1 x2 CM2 HGG
                generalize (w7.alloc (.cells #[.int .i64 s1, .int .i64 s2, .int .i64 s3, .int .i64 s4, .int .i64 s5, .int .i64 s6, .int .i64 s7, .int .i64 s8, .int .i64 s9, .int .i64 s10, .int .i64 s11, .int .i64 s12] 38)) = wa at *
                have m0 : wa.cell? ⟨w7.heap.size, 0, none⟩ = some (.int .i64 s1) := HE7.out.at 0 _ rfl
                have m1 : wa.cell? ⟨w7.heap.size, 1, none⟩ = some (.int .i64 s2) := HE7.out.at 1 _ rfl
                have m2 : wa.cell? ⟨w7.heap.size, 2, none⟩ = some (.int .i64 s3) := HE7.out.at 2 _ rfl
                have m3 : wa.cell? ⟨w7.heap.size, 3, none⟩ = some (.int .i64 s4) := HE7.out.at 3 _ rfl
                have m4 : wa.cell? ⟨w7.heap.size, 4, none⟩ = some (.int .i64 s5) := HE7.out.at 4 _ rfl
                have m5 : wa.cell? ⟨w7.heap.size, 5, none⟩ = some (.int .i64 s6) := HE7.out.at 5 _ rfl
                have m6 : wa.cell? ⟨w7.heap.size, 6, none⟩ = some (.int .i64 s7) := HE7.out.at 6 _ rfl
                have m7 : wa.cell? ⟨w7.heap.size, 7, none⟩ = some (.int .i64 s8) := HE7.out.at 7 _ rfl
                have m8 : wa.cell? ⟨w7.heap.size, 8, none⟩ = some (.int .i64 s9) := HE7.out.at 8 _ rfl
                have m9 : wa.cell? ⟨w7.heap.size, 9, none⟩ = some (.int .i64 s10) := HE7.out.at 9 _ rfl
                have m10 : wa.cell? ⟨w7.heap.size, 10, none⟩ = some (.int .i64 s11) := HE7.out.at 10 _ rfl
                have m11 : wa.cell? ⟨w7.heap.size, 11, none⟩ = some (.int .i64 s12) := HE7.out.at 11 _ rfl
                have mk : wa.cell? ⟨w.heap.size + 1, 0, none⟩ = some (.int .i64 q1) := HM7.out.at 0 _ rfl
                have HCL : Hid ((collL noIn in0 r.2.1 ((q1, q2, q3, q4, 0, 0), (q7, q8, q9, q10, q11, q12)) k).length ≤ 20) := Nat.le_trans coll_len (by omega)
                have zq : wa.cell? ⟨w4.heap.size, 1, none⟩ = some (.slice A (collL noIn in0 r.2.1 ((q1, q2, q3, q4, 0, 0), (q7, q8, q9, q10, q11, q12)) k).length c) := HZ7.out.at 1 _ rfl
                go_wp2_with (at_builtin; refine (wpList_append_E rfl _ _ 23 38 (vIn in0) 96 rfl Try.underlying23 info_in rfl w6.heap.size _ (collL noIn in0 r.2.1 ((q1, q2, q3, q4, 0, 0), (q7, q8, q9, q10, q11, q12)) k) rfl (HO7.out.keep (grew_alloc _ _ _)) (some ⟨wa.heap.size, 0, none⟩) 1 1 [((s1, s2, s3, s4, s5, s6), (s7, s8, s9, s10, s11, s12))] rfl (by intro h; cases h) (RowE.one enIn wa ((s1, s2, s3, s4, s5, s6), (s7, s8, s9, s10, s11, s12)) 38 _ rfl) (by have := HCL.out; unfold maxLen; omega) (by have := HCL.out; omega) (Nat.le_trans HS7.out (grew_alloc wa #[.int .i64 s1, .int .i64 s2, .int .i64 s3, .int .i64 s4, .int .i64 s5, .int .i64 s6, .int .i64 s7, .int .i64 s8, .int .i64 s9, .int .i64 s10, .int .i64 s11, .int .i64 s12] 38).size) ?_); intro v' w8 ho hb; rw [← HEQ.out] at ho; obtain ⟨A8, c8, rfl, -⟩ := ho.form; have HO8 := Lib.hid ho; have HB8 := Lib.hid hb; have HP8 : Hid (Below w6.heap.size wa w8) := Below.trans (Below.mono (grew_alloc _ _ _) HS7.out) hb; have HZ8 := Lib.hid (HZ7.out.below HP8.out HBN.out.2.2.2); have mk8 : w8.cell? ⟨w.heap.size + 1, 0, none⟩ = some (.int .i64 q1) := (HM7.out.below HP8.out HBN.out.2.2.1).at 0 _ rfl; have e8 : w8.cell? ⟨w4.heap.size, 1, none⟩ = some (.slice A (collL noIn in0 r.2.1 ((q1, q2, q3, q4, 0, 0), (q7, q8, q9, q10, q11, q12)) k).length c) := HZ8.out.at 1 _ rfl; have g8 : w8.frozen? ⟨w4.heap.size, 1, none⟩ = false := HZ8.out.fr 1 (by show 1 < 3; omega); clear ho hb)
                have HZ9 : Hid (OwnC (w8.setCell ⟨w4.heap.size, 1, none⟩ (.slice A8 (collL noIn in0 r.2.1 ((q1, q2, q3, q4, 0, 0), (q7, q8, q9, q10, q11, q12)) (k + 1)).length c8)) w4.heap.size [.slice B1 r.1.length d1, .slice A8 (collL noIn in0 r.2.1 ((q1, q2, q3, q4, 0, 0), (q7, q8, q9, q10, q11, q12)) (k + 1)).length c8, .slice B3 r.2.2.length d3]) := HZ8.out.set 1 (.slice A8 (collL noIn in0 r.2.1 ((q1, q2, q3, q4, 0, 0), (q7, q8, q9, q10, q11, q12)) (k + 1)).length c8) (by show 1 < 3; omega)
                have HO9 := Lib.hid (HO8.out.set w4.heap.size 1 (.slice A8 (collL noIn in0 r.2.1 ((q1, q2, q3, q4, 0, 0), (q7, q8, q9, q10, q11, q12)) (k + 1)).length c8) HBN.out.2.2.2)
                have HX9 : Hid (OwnC (w8.setCell ⟨w4.heap.size, 1, none⟩ (.slice A8 (collL noIn in0 r.2.1 ((q1, q2, q3, q4, 0, 0), (q7, q8, q9, q10, q11, q12)) (k + 1)).length c8)) w.heap.size [.slice A1 n1 c1, .slice A2 n2 c2, .slice A3 n3 c3]) := (HX7.out.below HP8.out HBN.out.1).other _ _ HND.out.1
                have HY9 : Hid (OwnC (w8.setCell ⟨w4.heap.size, 1, none⟩ (.slice A8 (collL noIn in0 r.2.1 ((q1, q2, q3, q4, 0, 0), (q7, q8, q9, q10, q11, q12)) (k + 1)).length c8)) (w.heap.size + 1 + 1) [.slice none 0 0, .slice none 0 0, .slice none 0 0]) := (HY7.out.below HP8.out HBN.out.2.1).other _ _ HND.out.2.1
                have HM9 : Hid (OwnC (w8.setCell ⟨w4.heap.size, 1, none⟩ (.slice A8 (collL noIn in0 r.2.1 ((q1, q2, q3, q4, 0, 0), (q7, q8, q9, q10, q11, q12)) (k + 1)).length c8)) (w.heap.size + 1) [.int .i64 q1, .int .i64 q2, .int .i64 q3, .int .i64 q4, .int .i64 0, .int .i64 0, .int .i64 q7, .int .i64 q8, .int .i64 q9, .int .i64 q10, .int .i64 q11, .int .i64 q12]) := (HM7.out.below HP8.out HBN.out.2.2.1).other _ _ HND.out.2.2
                have HA9 := Lib.hid ((HA7.out.keepB HP8.out (fun x hx => Nat.lt_trans (HBA.out x hx) HBN.out.2.2.2)).otherB w4.heap.size 1 (.slice A8 (collL noIn in0 r.2.1 ((q1, q2, q3, q4, 0, 0), (q7, q8, q9, q10, q11, q12)) (k + 1)).length c8) (fun x hx => Nat.ne_of_lt (HBA.out x hx)))
                have HC9 := Lib.hid ((HC7.out.keepB HP8.out (fun x hx => Nat.lt_trans (HBC.out x hx) HBN.out.2.2.2)).otherB w4.heap.size 1 (.slice A8 (collL noIn in0 r.2.1 ((q1, q2, q3, q4, 0, 0), (q7, q8, q9, q10, q11, q12)) (k + 1)).length c8) (fun x hx => Nat.ne_of_lt (HBC.out x hx)))
                have HG9 : Hid (Grew w (w8.setCell ⟨w4.heap.size, 1, none⟩ (.slice A8 (collL noIn in0 r.2.1 ((q1, q2, q3, q4, 0, 0), (q7, q8, q9, q10, q11, q12)) (k + 1)).length c8))) := grew_set (grew_low HG7.out HP8.out HGW.out) _ (by have := HGN.out; show _ ≤ w4.heap.size; exact this)
                have HS9 : Hid (w6.heap.size ≤ (w8.setCell ⟨w4.heap.size, 1, none⟩ (.slice A8 (collL noIn in0 r.2.1 ((q1, q2, q3, q4, 0, 0), (q7, q8, q9, q10, q11, q12)) (k + 1)).length c8)).heap.size) := le_set _ _ (Nat.le_trans HS7.out HP8.out.size)
                have mk9 := HM9.out.at 0 _ rfl
                clear zq e8 g8
                go_roundw
                case rel => exact ⟨m + 1, k + 1, A8, c8, by go_num, (by have := HMK.out; show _ = _; omega), by omega, HO9.out, HZ9.out, HX9.out, HY9.out, HM9.out, HA9.out, HC9.out, HG9.out, HS9.out⟩
                case measure => simp only [intOf]; omega
              · rw [Bool.not_eq_true] at hh
                have HEQ := Lib.hid (HCNO.out he hh)
                rw [hh] at CM2
                clear HHERE HHAS HCNO HHX
                go_upto_region 17 with (go_at_call 16; ((with_reducible refine (CM2 _ HG.out).mono ?_); rintro e w7 ⟨rfl, hg⟩; have HGG : Hid (Grew wr (w7.alloc (.cells #[.int .i64 s1, .int .i64 s2, .int .i64 s3, .int .i64 s4, .int .i64 s5, .int .i64 s6, .int .i64 s7, .int .i64 s8, .int .i64 s9, .int .i64 s10, .int .i64 s11, .int .i64 s12] 38))) := grew_trans hg (grew_alloc _ _ _); have HE7 : Hid (OwnC (w7.alloc (.cells #[.int .i64 s1, .int .i64 s2, .int .i64 s3, .int .i64 s4, .int .i64 s5, .int .i64 s6, .int .i64 s7, .int .i64 s8, .int .i64 s9, .int .i64 s10, .int .i64 s11, .int .i64 s12] 38)) w7.heap.size [.int .i64 s1, .int .i64 s2, .int .i64 s3, .int .i64 s4, .int .i64 s5, .int .i64 s6, .int .i64 s7, .int .i64 s8, .int .i64 s9, .int .i64 s10, .int .i64 s11, .int .i64 s12]) := OwnC.new w7 [.int .i64 s1, .int .i64 s2, .int .i64 s3, .int .i64 s4, .int .i64 s5, .int .i64 s6, .int .i64 s7, .int .i64 s8, .int .i64 s9, .int .i64 s10, .int .i64 s11, .int .i64 s12] _ _ rfl; clear hg))
                have HO7 := Lib.hid (HO.out.keep HGG.out)
                have HZ7 := Lib.hid (HZ.out.keep HGG.out)
                have HX7 := Lib.hid (HX.out.keep HGG.out)
                have HY7 := Lib.hid (HY.out.keep HGG.out)
                have HM7 := Lib.hid (HM.out.keep HGG.out)
                have HA7 := Lib.hid (HA.out.keep HGG.out)
                have HC7 := Lib.hid (HC.out.keep HGG.out)
                have HG7 := Lib.hid (grew_trans HG.out HGG.out)
                have HS7 : Hid (w6.heap.size ≤ (w7.alloc (.cells #[.int .i64 s1, .int .i64 s2, .int .i64 s3, .int .i64 s4, .int .i64 s5, .int .i64 s6, .int .i64 s7, .int .i64 s8, .int .i64 s9, .int .i64 s10, .int .i64 s11, .int .i64 s12] 38)).heap.size) := Nat.le_trans HS.out HGG.out.size
                clear x0 x1 x2 CM2 HGG
                generalize (w7.alloc (.cells #[.int .i64 s1, .int .i64 s2, .int .i64 s3, .int .i64 s4, .int .i64 s5, .int .i64 s6, .int .i64 s7, .int .i64 s8, .int .i64 s9, .int .i64 s10, .int .i64 s11, .int .i64 s12] 38)) = wa at *
                have mk : wa.cell? ⟨w.heap.size + 1, 0, none⟩ = some (.int .i64 q1) := HM7.out.at 0 _ rfl
                go_wp2
                go_roundw
                case rel => exact ⟨m + 1, k + 1, A, c, by go_num, (by have := HMK.out; show _ = _; omega), by omega, by rw [HEQ.out]; exact HO7.out, by rw [HEQ.out]; exact HZ7.out, HX7.out, HY7.out, HM7.out, HA7.out, HC7.out, HG7.out, HS7.out⟩
                case measure => simp only [intOf]; omega
          · obtain rfl : k = 8 := by omega
            have hmM : m = 8 + 1 := HMK.out
            have j1 : ¬ ((m : Int) ≤ 8) := by omega
            clear hmM
            have HCP := Lib.hid (coll_in hrc ((q1, q2, q3, q4, 0, 0), (q7, q8, q9, q10, q11, q12)) hm)
            rw [HCP.out] at HO HZ
            generalize hPL : putL noIn r.2.1 ((q1, q2, q3, q4, 0, 0), (q7, q8, q9, q10, q11, q12)) = PL at *
            clear hPL
            have z0 := HZ.out.at 0 _ rfl
            have z1 := HZ.out.at 1 _ rfl
            have z2 := HZ.out.at 2 _ rfl
            have y0 : wr.cell? ⟨w.heap.size + 1 + 1, 0, none⟩ = some (.slice none 0 0) := HY.out.at 0 _ rfl
            have f0 : wr.frozen? ⟨w.heap.size + 1 + 1, 0, none⟩ = false := HY.out.fr 0 (by decide)
            have y1 : wr.cell? ⟨w.heap.size + 1 + 1, 1, none⟩ = some (.slice none 0 0) := HY.out.at 1 _ rfl
            have f1 : wr.frozen? ⟨w.heap.size + 1 + 1, 1, none⟩ = false := HY.out.fr 1 (by decide)
            have y2 : wr.cell? ⟨w.heap.size + 1 + 1, 2, none⟩ = some (.slice none 0 0) := HY.out.at 2 _ rfl
            have f2 : wr.frozen? ⟨w.heap.size + 1 + 1, 2, none⟩ = false := HY.out.fr 2 (by decide)
            generalize hpn : PL.length = putN at *
            have HPN := Lib.hid hpn
            clear hpn x0 x1 x2
            go_wp2
            have HP := HY.out.all [Value.slice B1 r.1.length d1, .slice A putN c, .slice B3 r.2.2.length d3] rfl
            have HGP := grew_put (w.heap.size + 1 + 1) (by show w.heap.size ≤ _; omega) [Value.slice B1 r.1.length d1, .slice A putN c, .slice B3 r.2.2.length d3] 0 _ HG.out
            have Q0 := OwnE.put HBN.out.2.1 [Value.slice B1 r.1.length d1, .slice A putN c, .slice B3 r.2.2.length d3] 0 _ HO.out
            have hb2 : w.heap.size + 1 + 1 < w.heap.size + 3 := by omega
            have QA := HA.out.putB (b := w.heap.size + 1 + 1) [Value.slice B1 r.1.length d1, .slice A putN c, .slice B3 r.2.2.length d3] 0 (fun x hx => HBA2.out x hx)
            have QC := HC.out.putB (b := w.heap.size + 1 + 1) [Value.slice B1 r.1.length d1, .slice A putN c, .slice B3 r.2.2.length d3] 0 (fun x hx => HBC2.out x hx)
            change bodyPost _ _ _ _ _ (putC wr (w.heap.size + 1 + 1) 0 [.slice B1 r.1.length d1, .slice A putN c, .slice B3 r.2.2.length d3])
            generalize putC wr (w.heap.size + 1 + 1) 0 [.slice B1 r.1.length d1, .slice A putN c, .slice B3 r.2.2.length d3] = w9 at *
            have z0 : w9.cell? ⟨w.heap.size + 1 + 1, 0, none⟩ = _ := HP.at 0 _ rfl
            have z1 : w9.cell? ⟨w.heap.size + 1 + 1, 1, none⟩ = _ := HP.at 1 _ rfl
            have z2 : w9.cell? ⟨w.heap.size + 1 + 1, 2, none⟩ = _ := HP.at 2 _ rfl
            refine bodyPost_ret (v := .tuple #[.agg #[.slice B1 r.1.length d1, .slice A putN c, .slice B3 r.2.2.length d3], .int .i64 0]) (by simp [results, Try.results34, go_sem, z0, z1, z2]) rfl ?_
            obtain rfl := HPN.out
            exact ⟨B1, A, B3, d1, c, d3, rfl, ⟨QA.mono (by omega), Q0.mono HGW.out, QC.mono (by omega)⟩, HGP⟩
    · rw [Bool.not_eq_true] at hm
      rw [hm] at CR
      have hmf : ¬ okIn (unIn ((q1, q2, q3, q4, q5, q6), (q7, q8, q9, q10, q11, q12))) = true := by (show ¬ okIn ((q1, q2, q3, q4, 0, 0), (q7, q8, q9, q10, q11, q12)) = true); rw [hm]; decide
      rw [show listP r ((q1, q2, q3, q4, q5, q6), (q7, q8, q9, q10, q11, q12)) = (rl0, 3) by unfold listP; rw [if_pos hr, if_neg hmf] <;> rfl]
      go_enter Try.func34, Try.ntmps34
      go_upto_region 1 with fail
      have HGI : Hid (Grew w (((w.alloc (.cells #[.slice A1 n1 c1, .slice A2 n2 c2, .slice A3 n3 c3] 26)).alloc (.cells #[.int .i64 q1, .int .i64 q2, .int .i64 q3, .int .i64 q4, .int .i64 q5, .int .i64 q6, .int .i64 q7, .int .i64 q8, .int .i64 q9, .int .i64 q10, .int .i64 q11, .int .i64 q12] 38)).alloc (.cells #[.slice none 0 0, .slice none 0 0, .slice none 0 0] 26))) := grew_trans (grew_trans (grew_alloc _ _ _) (grew_alloc _ _ _)) (grew_alloc _ _ _)
      have HX0 : Hid (OwnC (((w.alloc (.cells #[.slice A1 n1 c1, .slice A2 n2 c2, .slice A3 n3 c3] 26)).alloc (.cells #[.int .i64 q1, .int .i64 q2, .int .i64 q3, .int .i64 q4, .int .i64 q5, .int .i64 q6, .int .i64 q7, .int .i64 q8, .int .i64 q9, .int .i64 q10, .int .i64 q11, .int .i64 q12] 38)).alloc (.cells #[.slice none 0 0, .slice none 0 0, .slice none 0 0] 26)) w.heap.size [.slice A1 n1 c1, .slice A2 n2 c2, .slice A3 n3 c3]) := ((OwnC.new w [.slice A1 n1 c1, .slice A2 n2 c2, .slice A3 n3 c3] _ _ rfl).keep (grew_alloc _ _ _)).keep (grew_alloc _ _ _)
      have HY0 : Hid (OwnC (((w.alloc (.cells #[.slice A1 n1 c1, .slice A2 n2 c2, .slice A3 n3 c3] 26)).alloc (.cells #[.int .i64 q1, .int .i64 q2, .int .i64 q3, .int .i64 q4, .int .i64 q5, .int .i64 q6, .int .i64 q7, .int .i64 q8, .int .i64 q9, .int .i64 q10, .int .i64 q11, .int .i64 q12] 38)).alloc (.cells #[.slice none 0 0, .slice none 0 0, .slice none 0 0] 26)) (w.heap.size + 1 + 1) [.slice none 0 0, .slice none 0 0, .slice none 0 0]) := OwnC.new _ [.slice none 0 0, .slice none 0 0, .slice none 0 0] _ _ (by simp)
      have HM0 : Hid (OwnC (((w.alloc (.cells #[.slice A1 n1 c1, .slice A2 n2 c2, .slice A3 n3 c3] 26)).alloc (.cells #[.int .i64 q1, .int .i64 q2, .int .i64 q3, .int .i64 q4, .int .i64 q5, .int .i64 q6, .int .i64 q7, .int .i64 q8, .int .i64 q9, .int .i64 q10, .int .i64 q11, .int .i64 q12] 38)).alloc (.cells #[.slice none 0 0, .slice none 0 0, .slice none 0 0] 26)) (w.heap.size + 1) [.int .i64 q1, .int .i64 q2, .int .i64 q3, .int .i64 q4, .int .i64 q5, .int .i64 q6, .int .i64 q7, .int .i64 q8, .int .i64 q9, .int .i64 q10, .int .i64 q11, .int .i64 q12]) := (OwnC.new _ [.int .i64 q1, .int .i64 q2, .int .i64 q3, .int .i64 q4, .int .i64 q5, .int .i64 q6, .int .i64 q7, .int .i64 q8, .int .i64 q9, .int .i64 q10, .int .i64 q11, .int .i64 q12] _ _ (by simp)).keep (grew_alloc _ _ _)
      generalize (((w.alloc (.cells #[.slice A1 n1 c1, .slice A2 n2 c2, .slice A3 n3 c3] 26)).alloc (.cells #[.int .i64 q1, .int .i64 q2, .int .i64 q3, .int .i64 q4, .int .i64 q5, .int .i64 q6, .int .i64 q7, .int .i64 q8, .int .i64 q9, .int .i64 q10, .int .i64 q11, .int .i64 q12] 38)).alloc (.cells #[.slice none 0 0, .slice none 0 0, .slice none 0 0] 26)) = w0 at *
      have x0 : w0.cell? ⟨w.heap.size, 0, none⟩ = some (.slice A1 n1 c1) := HX0.out.at 0 _ rfl
      have x1 : w0.cell? ⟨w.heap.size, 1, none⟩ = some (.slice A2 n2 c2) := HX0.out.at 1 _ rfl
      have x2 : w0.cell? ⟨w.heap.size, 2, none⟩ = some (.slice A3 n3 c3) := HX0.out.at 2 _ rfl
      have k4 : w0.cell? ⟨w.heap.size + 1, 4, none⟩ = some (.int .i64 q5) := HM0.out.at 4 _ rfl
      have k5 : w0.cell? ⟨w.heap.size + 1, 5, none⟩ = some (.int .i64 q6) := HM0.out.at 5 _ rfl
      have j4 : w0.frozen? ⟨w.heap.size + 1, 4, none⟩ = false := HM0.out.fr 4 (by show 4 < 12; omega)
      have j5 : w0.frozen? ⟨w.heap.size + 1, 5, none⟩ = false := HM0.out.fr 5 (by show 5 < 12; omega)
      go_upto_region 2 with fail
      have HXs : Hid (OwnC ((w0.setCell ⟨w.heap.size + 1, 4, none⟩ (.int .i64 0)).setCell ⟨w.heap.size + 1, 5, none⟩ (.int .i64 0)) w.heap.size [.slice A1 n1 c1, .slice A2 n2 c2, .slice A3 n3 c3]) := (HX0.out.other _ _ (by show _ + 1 ≠ _; omega)).other _ _ (by show _ + 1 ≠ _; omega)
      have HYs : Hid (OwnC ((w0.setCell ⟨w.heap.size + 1, 4, none⟩ (.int .i64 0)).setCell ⟨w.heap.size + 1, 5, none⟩ (.int .i64 0)) (w.heap.size + 1 + 1) [.slice none 0 0, .slice none 0 0, .slice none 0 0]) := (HY0.out.other _ _ (by show _ + 1 ≠ _; omega)).other _ _ (by show _ + 1 ≠ _; omega)
      have HMs : Hid (OwnC ((w0.setCell ⟨w.heap.size + 1, 4, none⟩ (.int .i64 0)).setCell ⟨w.heap.size + 1, 5, none⟩ (.int .i64 0)) (w.heap.size + 1) [.int .i64 q1, .int .i64 q2, .int .i64 q3, .int .i64 q4, .int .i64 0, .int .i64 0, .int .i64 q7, .int .i64 q8, .int .i64 q9, .int .i64 q10, .int .i64 q11, .int .i64 q12]) := (HM0.out.set 4 (.int .i64 0) (by show 4 < 12; omega)).set 5 (.int .i64 0) (by show 5 < 12; omega)
      have HGs : Hid (Grew w ((w0.setCell ⟨w.heap.size + 1, 4, none⟩ (.int .i64 0)).setCell ⟨w.heap.size + 1, 5, none⟩ (.int .i64 0))) := grew_set (grew_set HGI.out _ (by show _ ≤ _ + 1; omega)) _ (by show _ ≤ _ + 1; omega)
      clear k4 k5 j4 j5 x0 x1 x2
      generalize ((w0.setCell ⟨w.heap.size + 1, 4, none⟩ (.int .i64 0)).setCell ⟨w.heap.size + 1, 5, none⟩ (.int .i64 0)) = ws at *
      have x0 : ws.cell? ⟨w.heap.size, 0, none⟩ = some (.slice A1 n1 c1) := HXs.out.at 0 _ rfl
      have x1 : ws.cell? ⟨w.heap.size, 1, none⟩ = some (.slice A2 n2 c2) := HXs.out.at 1 _ rfl
      have x2 : ws.cell? ⟨w.heap.size, 2, none⟩ = some (.slice A3 n3 c3) := HXs.out.at 2 _ rfl
      go_wp2_with (first
        | (go_at_call 12; ((with_reducible refine (CK _ HGs.out).mono ?_); rintro e w1 ⟨rfl, hg⟩; have HX1 := Lib.hid (HXs.out.keep hg); have HY1 := Lib.hid (HYs.out.keep hg); have HM1 := Lib.hid (HMs.out.keep hg); have HG1 := Lib.hid (grew_trans HGs.out hg); have m0 : w1.cell? ⟨w.heap.size + 1, 0, none⟩ = some (.int .i64 q1) := HM1.out.at 0 _ rfl; have m1 : w1.cell? ⟨w.heap.size + 1, 1, none⟩ = some (.int .i64 q2) := HM1.out.at 1 _ rfl; have m2 : w1.cell? ⟨w.heap.size + 1, 2, none⟩ = some (.int .i64 q3) := HM1.out.at 2 _ rfl; have m3 : w1.cell? ⟨w.heap.size + 1, 3, none⟩ = some (.int .i64 q4) := HM1.out.at 3 _ rfl; have m4 : w1.cell? ⟨w.heap.size + 1, 4, none⟩ = some (.int .i64 0) := HM1.out.at 4 _ rfl; have m5 : w1.cell? ⟨w.heap.size + 1, 5, none⟩ = some (.int .i64 0) := HM1.out.at 5 _ rfl; have m6 : w1.cell? ⟨w.heap.size + 1, 6, none⟩ = some (.int .i64 q7) := HM1.out.at 6 _ rfl; have m7 : w1.cell? ⟨w.heap.size + 1, 7, none⟩ = some (.int .i64 q8) := HM1.out.at 7 _ rfl; have m8 : w1.cell? ⟨w.heap.size + 1, 8, none⟩ = some (.int .i64 q9) := HM1.out.at 8 _ rfl; have m9 : w1.cell? ⟨w.heap.size + 1, 9, none⟩ = some (.int .i64 q10) := HM1.out.at 9 _ rfl; have m10 : w1.cell? ⟨w.heap.size + 1, 10, none⟩ = some (.int .i64 q11) := HM1.out.at 10 _ rfl; have m11 : w1.cell? ⟨w.heap.size + 1, 11, none⟩ = some (.int .i64 q12) := HM1.out.at 11 _ rfl; clear hg CK))
        | (go_at_call 54; ((with_reducible refine (CR _).mono ?_); rintro e w2 ⟨rfl, hg⟩; have HX2 := Lib.hid (HX1.out.keep hg); have HY2 := Lib.hid (HY1.out.keep hg); have HM2 := Lib.hid (HM1.out.keep hg); have HG2 := Lib.hid (grew_trans HG1.out hg); have x0 : w2.cell? ⟨w.heap.size, 0, none⟩ = some (.slice A1 n1 c1) := HX2.out.at 0 _ rfl; have x1 : w2.cell? ⟨w.heap.size, 1, none⟩ = some (.slice A2 n2 c2) := HX2.out.at 1 _ rfl; have x2 : w2.cell? ⟨w.heap.size, 2, none⟩ = some (.slice A3 n3 c3) := HX2.out.at 2 _ rfl; have y0 : w2.cell? ⟨w.heap.size + 1 + 1, 0, none⟩ = some (.slice none 0 0) := HY2.out.at 0 _ rfl; have f0 : w2.frozen? ⟨w.heap.size + 1 + 1, 0, none⟩ = false := HY2.out.fr 0 (by decide); have y1 : w2.cell? ⟨w.heap.size + 1 + 1, 1, none⟩ = some (.slice none 0 0) := HY2.out.at 1 _ rfl; have f1 : w2.frozen? ⟨w.heap.size + 1 + 1, 1, none⟩ = false := HY2.out.fr 1 (by decide); have y2 : w2.cell? ⟨w.heap.size + 1 + 1, 2, none⟩ = some (.slice none 0 0) := HY2.out.at 2 _ rfl; have f2 : w2.frozen? ⟨w.heap.size + 1 + 1, 2, none⟩ = false := HY2.out.fr 2 (by decide); have n0 : w2.cell? ⟨w.heap.size + 1, 0, none⟩ = some (.int .i64 q1) := HM2.out.at 0 _ rfl; clear hg CR))
        | (go_at_call 16; ((with_reducible refine (CM _ HG2.out).mono ?_); rintro e w3 ⟨rfl, hg⟩; have HX3 : Hid (OwnC (w3.alloc (.cells #[.int .i64 p1, .int .i64 p2, .int .i64 p3, .int .i64 p4, .int .i64 p5, .int .i64 p6, .int .i64 p7, .int .i64 p8, .int .i64 p9, .int .i64 p10, .int .i64 p11, .int .i64 p12] 38)) w.heap.size [.slice A1 n1 c1, .slice A2 n2 c2, .slice A3 n3 c3]) := (HX2.out.keep hg).keep (grew_alloc _ _ _); have HY3 : Hid (OwnC (w3.alloc (.cells #[.int .i64 p1, .int .i64 p2, .int .i64 p3, .int .i64 p4, .int .i64 p5, .int .i64 p6, .int .i64 p7, .int .i64 p8, .int .i64 p9, .int .i64 p10, .int .i64 p11, .int .i64 p12] 38)) (w.heap.size + 1 + 1) [.slice none 0 0, .slice none 0 0, .slice none 0 0]) := (HY2.out.keep hg).keep (grew_alloc _ _ _); have HM3 : Hid (OwnC (w3.alloc (.cells #[.int .i64 p1, .int .i64 p2, .int .i64 p3, .int .i64 p4, .int .i64 p5, .int .i64 p6, .int .i64 p7, .int .i64 p8, .int .i64 p9, .int .i64 p10, .int .i64 p11, .int .i64 p12] 38)) (w.heap.size + 1) [.int .i64 q1, .int .i64 q2, .int .i64 q3, .int .i64 q4, .int .i64 0, .int .i64 0, .int .i64 q7, .int .i64 q8, .int .i64 q9, .int .i64 q10, .int .i64 q11, .int .i64 q12]) := (HM2.out.keep hg).keep (grew_alloc _ _ _); have HG3 : Hid (Grew w (w3.alloc (.cells #[.int .i64 p1, .int .i64 p2, .int .i64 p3, .int .i64 p4, .int .i64 p5, .int .i64 p6, .int .i64 p7, .int .i64 p8, .int .i64 p9, .int .i64 p10, .int .i64 p11, .int .i64 p12] 38))) := grew_trans (grew_trans HG2.out hg) (grew_alloc _ _ _); have y0 : (w3.alloc (.cells #[.int .i64 p1, .int .i64 p2, .int .i64 p3, .int .i64 p4, .int .i64 p5, .int .i64 p6, .int .i64 p7, .int .i64 p8, .int .i64 p9, .int .i64 p10, .int .i64 p11, .int .i64 p12] 38)).cell? ⟨w.heap.size + 1 + 1, 0, none⟩ = some (.slice none 0 0) := HY3.out.at 0 _ rfl; have f0 : (w3.alloc (.cells #[.int .i64 p1, .int .i64 p2, .int .i64 p3, .int .i64 p4, .int .i64 p5, .int .i64 p6, .int .i64 p7, .int .i64 p8, .int .i64 p9, .int .i64 p10, .int .i64 p11, .int .i64 p12] 38)).frozen? ⟨w.heap.size + 1 + 1, 0, none⟩ = false := HY3.out.fr 0 (by decide); have y1 : (w3.alloc (.cells #[.int .i64 p1, .int .i64 p2, .int .i64 p3, .int .i64 p4, .int .i64 p5, .int .i64 p6, .int .i64 p7, .int .i64 p8, .int .i64 p9, .int .i64 p10, .int .i64 p11, .int .i64 p12] 38)).cell? ⟨w.heap.size + 1 + 1, 1, none⟩ = some (.slice none 0 0) := HY3.out.at 1 _ rfl; have f1 : (w3.alloc (.cells #[.int .i64 p1, .int .i64 p2, .int .i64 p3, .int .i64 p4, .int .i64 p5, .int .i64 p6, .int .i64 p7, .int .i64 p8, .int .i64 p9, .int .i64 p10, .int .i64 p11, .int .i64 p12] 38)).frozen? ⟨w.heap.size + 1 + 1, 1, none⟩ = false := HY3.out.fr 1 (by decide); have y2 : (w3.alloc (.cells #[.int .i64 p1, .int .i64 p2, .int .i64 p3, .int .i64 p4, .int .i64 p5, .int .i64 p6, .int .i64 p7, .int .i64 p8, .int .i64 p9, .int .i64 p10, .int .i64 p11, .int .i64 p12] 38)).cell? ⟨w.heap.size + 1 + 1, 2, none⟩ = some (.slice none 0 0) := HY3.out.at 2 _ rfl; have f2 : (w3.alloc (.cells #[.int .i64 p1, .int .i64 p2, .int .i64 p3, .int .i64 p4, .int .i64 p5, .int .i64 p6, .int .i64 p7, .int .i64 p8, .int .i64 p9, .int .i64 p10, .int .i64 p11, .int .i64 p12] 38)).frozen? ⟨w.heap.size + 1 + 1, 2, none⟩ = false := HY3.out.fr 2 (by decide); clear hg CM)))
      have HP := HY2.out.all [.slice none 0 0, .slice none 0 0, .slice none 0 0] rfl
      have HGP := grew_put (w.heap.size + 1 + 1) (by show w.heap.size ≤ _; omega) [.slice none 0 0, .slice none 0 0, .slice none 0 0] 0 _ HG2.out
      change bodyPost _ _ _ _ _ (putC w2 (w.heap.size + 1 + 1) 0 [.slice none 0 0, .slice none 0 0, .slice none 0 0])
      generalize putC w2 (w.heap.size + 1 + 1) 0 [.slice none 0 0, .slice none 0 0, .slice none 0 0] = w9 at *
      have z0 : w9.cell? ⟨w.heap.size + 1 + 1, 0, none⟩ = _ := HP.at 0 _ rfl
      have z1 : w9.cell? ⟨w.heap.size + 1 + 1, 1, none⟩ = _ := HP.at 1 _ rfl
      have z2 : w9.cell? ⟨w.heap.size + 1 + 1, 2, none⟩ = _ := HP.at 2 _ rfl
      refine bodyPost_ret (v := .tuple #[.agg #[.slice none 0 0, .slice none 0 0, .slice none 0 0], .int .i64 3]) (by simp [results, Try.results34, go_sem, z0, z1, z2]) rfl ?_
      exact ⟨none, none, none, 0, 0, 0, rfl, own3_nil _ _, HGP⟩
  · rw [Bool.not_eq_true] at hr
    rw [hr] at CK
    have hrf : ¬ rightR r = true := by rw [hr]; decide
    rw [show listP r ((q1, q2, q3, q4, q5, q6), (q7, q8, q9, q10, q11, q12)) = (rl0, 14) by unfold listP; rw [if_neg hrf] <;> rfl]
    go_enter Try.func34, Try.ntmps34
    go_upto_region 1 with fail
    have HGI : Hid (Grew w (((w.alloc (.cells #[.slice A1 n1 c1, .slice A2 n2 c2, .slice A3 n3 c3] 26)).alloc (.cells #[.int .i64 q1, .int .i64 q2, .int .i64 q3, .int .i64 q4, .int .i64 q5, .int .i64 q6, .int .i64 q7, .int .i64 q8, .int .i64 q9, .int .i64 q10, .int .i64 q11, .int .i64 q12] 38)).alloc (.cells #[.slice none 0 0, .slice none 0 0, .slice none 0 0] 26))) := grew_trans (grew_trans (grew_alloc _ _ _) (grew_alloc _ _ _)) (grew_alloc _ _ _)
    have HX0 : Hid (OwnC (((w.alloc (.cells #[.slice A1 n1 c1, .slice A2 n2 c2, .slice A3 n3 c3] 26)).alloc (.cells #[.int .i64 q1, .int .i64 q2, .int .i64 q3, .int .i64 q4, .int .i64 q5, .int .i64 q6, .int .i64 q7, .int .i64 q8, .int .i64 q9, .int .i64 q10, .int .i64 q11, .int .i64 q12] 38)).alloc (.cells #[.slice none 0 0, .slice none 0 0, .slice none 0 0] 26)) w.heap.size [.slice A1 n1 c1, .slice A2 n2 c2, .slice A3 n3 c3]) := ((OwnC.new w [.slice A1 n1 c1, .slice A2 n2 c2, .slice A3 n3 c3] _ _ rfl).keep (grew_alloc _ _ _)).keep (grew_alloc _ _ _)
    have HY0 : Hid (OwnC (((w.alloc (.cells #[.slice A1 n1 c1, .slice A2 n2 c2, .slice A3 n3 c3] 26)).alloc (.cells #[.int .i64 q1, .int .i64 q2, .int .i64 q3, .int .i64 q4, .int .i64 q5, .int .i64 q6, .int .i64 q7, .int .i64 q8, .int .i64 q9, .int .i64 q10, .int .i64 q11, .int .i64 q12] 38)).alloc (.cells #[.slice none 0 0, .slice none 0 0, .slice none 0 0] 26)) (w.heap.size + 1 + 1) [.slice none 0 0, .slice none 0 0, .slice none 0 0]) := OwnC.new _ [.slice none 0 0, .slice none 0 0, .slice none 0 0] _ _ (by simp)
    have HM0 : Hid (OwnC (((w.alloc (.cells #[.slice A1 n1 c1, .slice A2 n2 c2, .slice A3 n3 c3] 26)).alloc (.cells #[.int .i64 q1, .int .i64 q2, .int .i64 q3, .int .i64 q4, .int .i64 q5, .int .i64 q6, .int .i64 q7, .int .i64 q8, .int .i64 q9, .int .i64 q10, .int .i64 q11, .int .i64 q12] 38)).alloc (.cells #[.slice none 0 0, .slice none 0 0, .slice none 0 0] 26)) (w.heap.size + 1) [.int .i64 q1, .int .i64 q2, .int .i64 q3, .int .i64 q4, .int .i64 q5, .int .i64 q6, .int .i64 q7, .int .i64 q8, .int .i64 q9, .int .i64 q10, .int .i64 q11, .int .i64 q12]) := (OwnC.new _ [.int .i64 q1, .int .i64 q2, .int .i64 q3, .int .i64 q4, .int .i64 q5, .int .i64 q6, .int .i64 q7, .int .i64 q8, .int .i64 q9, .int .i64 q10, .int .i64 q11, .int .i64 q12] _ _ (by simp)).keep (grew_alloc _ _ _)
    generalize (((w.alloc (.cells #[.slice A1 n1 c1, .slice A2 n2 c2, .slice A3 n3 c3] 26)).alloc (.cells #[.int .i64 q1, .int .i64 q2, .int .i64 q3, .int .i64 q4, .int .i64 q5, .int .i64 q6, .int .i64 q7, .int .i64 q8, .int .i64 q9, .int .i64 q10, .int .i64 q11, .int .i64 q12] 38)).alloc (.cells #[.slice none 0 0, .slice none 0 0, .slice none 0 0] 26)) = w0 at *
    have x0 : w0.cell? ⟨w.heap.size, 0, none⟩ = some (.slice A1 n1 c1) := HX0.out.at 0 _ rfl
    have x1 : w0.cell? ⟨w.heap.size, 1, none⟩ = some (.slice A2 n2 c2) := HX0.out.at 1 _ rfl
    have x2 : w0.cell? ⟨w.heap.size, 2, none⟩ = some (.slice A3 n3 c3) := HX0.out.at 2 _ rfl
    have k4 : w0.cell? ⟨w.heap.size + 1, 4, none⟩ = some (.int .i64 q5) := HM0.out.at 4 _ rfl
    have k5 : w0.cell? ⟨w.heap.size + 1, 5, none⟩ = some (.int .i64 q6) := HM0.out.at 5 _ rfl
    have j4 : w0.frozen? ⟨w.heap.size + 1, 4, none⟩ = false := HM0.out.fr 4 (by show 4 < 12; omega)
    have j5 : w0.frozen? ⟨w.heap.size + 1, 5, none⟩ = false := HM0.out.fr 5 (by show 5 < 12; omega)
    go_upto_region 2 with fail
    have HXs : Hid (OwnC ((w0.setCell ⟨w.heap.size + 1, 4, none⟩ (.int .i64 0)).setCell ⟨w.heap.size + 1, 5, none⟩ (.int .i64 0)) w.heap.size [.slice A1 n1 c1, .slice A2 n2 c2, .slice A3 n3 c3]) := (HX0.out.other _ _ (by show _ + 1 ≠ _; omega)).other _ _ (by show _ + 1 ≠ _; omega)
    have HYs : Hid (OwnC ((w0.setCell ⟨w.heap.size + 1, 4, none⟩ (.int .i64 0)).setCell ⟨w.heap.size + 1, 5, none⟩ (.int .i64 0)) (w.heap.size + 1 + 1) [.slice none 0 0, .slice none 0 0, .slice none 0 0]) := (HY0.out.other _ _ (by show _ + 1 ≠ _; omega)).other _ _ (by show _ + 1 ≠ _; omega)
    have HMs : Hid (OwnC ((w0.setCell ⟨w.heap.size + 1, 4, none⟩ (.int .i64 0)).setCell ⟨w.heap.size + 1, 5, none⟩ (.int .i64 0)) (w.heap.size + 1) [.int .i64 q1, .int .i64 q2, .int .i64 q3, .int .i64 q4, .int .i64 0, .int .i64 0, .int .i64 q7, .int .i64 q8, .int .i64 q9, .int .i64 q10, .int .i64 q11, .int .i64 q12]) := (HM0.out.set 4 (.int .i64 0) (by show 4 < 12; omega)).set 5 (.int .i64 0) (by show 5 < 12; omega)
    have HGs : Hid (Grew w ((w0.setCell ⟨w.heap.size + 1, 4, none⟩ (.int .i64 0)).setCell ⟨w.heap.size + 1, 5, none⟩ (.int .i64 0))) := grew_set (grew_set HGI.out _ (by show _ ≤ _ + 1; omega)) _ (by show _ ≤ _ + 1; omega)
    clear k4 k5 j4 j5 x0 x1 x2
    generalize ((w0.setCell ⟨w.heap.size + 1, 4, none⟩ (.int .i64 0)).setCell ⟨w.heap.size + 1, 5, none⟩ (.int .i64 0)) = ws at *
    have x0 : ws.cell? ⟨w.heap.size, 0, none⟩ = some (.slice A1 n1 c1) := HXs.out.at 0 _ rfl
    have x1 : ws.cell? ⟨w.heap.size, 1, none⟩ = some (.slice A2 n2 c2) := HXs.out.at 1 _ rfl
    have x2 : ws.cell? ⟨w.heap.size, 2, none⟩ = some (.slice A3 n3 c3) := HXs.out.at 2 _ rfl
    go_wp2_with (go_at_call 12; ((with_reducible refine (CK _ HGs.out).mono ?_); rintro e w1 ⟨rfl, hg⟩; have HX1 := Lib.hid (HXs.out.keep hg); have HY1 := Lib.hid (HYs.out.keep hg); have HM1 := Lib.hid (HMs.out.keep hg); have HG1 := Lib.hid (grew_trans HGs.out hg); have y0 : w1.cell? ⟨w.heap.size + 1 + 1, 0, none⟩ = some (.slice none 0 0) := HY1.out.at 0 _ rfl; have f0 : w1.frozen? ⟨w.heap.size + 1 + 1, 0, none⟩ = false := HY1.out.fr 0 (by decide); have y1 : w1.cell? ⟨w.heap.size + 1 + 1, 1, none⟩ = some (.slice none 0 0) := HY1.out.at 1 _ rfl; have f1 : w1.frozen? ⟨w.heap.size + 1 + 1, 1, none⟩ = false := HY1.out.fr 1 (by decide); have y2 : w1.cell? ⟨w.heap.size + 1 + 1, 2, none⟩ = some (.slice none 0 0) := HY1.out.at 2 _ rfl; have f2 : w1.frozen? ⟨w.heap.size + 1 + 1, 2, none⟩ = false := HY1.out.fr 2 (by decide); clear hg CK))
    have HP := HY1.out.all [.slice none 0 0, .slice none 0 0, .slice none 0 0] rfl
    have HGP := grew_put (w.heap.size + 1 + 1) (by show w.heap.size ≤ _; omega) [.slice none 0 0, .slice none 0 0, .slice none 0 0] 0 _ HG1.out
    change bodyPost _ _ _ _ _ (putC w1 (w.heap.size + 1 + 1) 0 [.slice none 0 0, .slice none 0 0, .slice none 0 0])
    generalize putC w1 (w.heap.size + 1 + 1) 0 [.slice none 0 0, .slice none 0 0, .slice none 0 0] = w9 at *
    have z0 : w9.cell? ⟨w.heap.size + 1 + 1, 0, none⟩ = _ := HP.at 0 _ rfl
    have z1 : w9.cell? ⟨w.heap.size + 1 + 1, 1, none⟩ = _ := HP.at 1 _ rfl
    have z2 : w9.cell? ⟨w.heap.size + 1 + 1, 2, none⟩ = _ := HP.at 2 _ rfl
    refine bodyPost_ret (v := .tuple #[.agg #[.slice none 0 0, .slice none 0 0, .slice none 0 0], .int .i64 14]) (by simp [results, Try.results34, go_sem, z0, z1, z2]) rfl ?_
    exact ⟨none, none, none, 0, 0, 0, rfl, own3_nil _ _, HGP⟩
end Go.Proofs.Ytnbgbfbiieimgaa.NumK
