/- The law EntryMoves. -/
import Derived.Test.YtmbhkeppikaeaaaEnForm
namespace Go.Proofs.Ytmbhkeppikaeaaa.NumK
open Go.RowKit

theorem keep6 {w1 w2 : World} {B C : Nat} {a b c d e f : Value} (g : Grew w1 w2) (h : B < w1.heap.size ∧ C < w1.heap.size ∧ w1.cell? ⟨B, 0, none⟩ = some a ∧ w1.cell? ⟨B, 1, none⟩ = some b ∧ w1.cell? ⟨B, 2, none⟩ = some c ∧ w1.cell? ⟨C, 0, none⟩ = some d ∧ w1.cell? ⟨C, 1, none⟩ = some e ∧ w1.cell? ⟨C, 2, none⟩ = some f) :
    w2.cell? ⟨B, 0, none⟩ = some a ∧ w2.cell? ⟨B, 1, none⟩ = some b ∧ w2.cell? ⟨B, 2, none⟩ = some c ∧ w2.cell? ⟨C, 0, none⟩ = some d ∧ w2.cell? ⟨C, 1, none⟩ = some e ∧ w2.cell? ⟨C, 2, none⟩ = some f := by
  obtain ⟨hB, hC, h1, h2, h3, h4, h5, h6⟩ := h
  exact ⟨(grew_cell g (p := ⟨B, 0, none⟩) hB).trans h1, (grew_cell g (p := ⟨B, 1, none⟩) hB).trans h2, (grew_cell g (p := ⟨B, 2, none⟩) hB).trans h3, (grew_cell g (p := ⟨C, 0, none⟩) hC).trans h4, (grew_cell g (p := ⟨C, 1, none⟩) hC).trans h5, (grew_cell g (p := ⟨C, 2, none⟩) hC).trans h6⟩

set_option maxRecDepth 100000 in
set_option maxHeartbeats 4000000 in
theorem entryMoves_walk (a1 a2 a3 b1 b2 b3 z : Int) (A : Option Addr) (n c : Nat) (l : List Lg) (w : World) (h : RowE enLg w A n l) (hA : A = none → c = 0) (hn : n ≤ 9223372036854775807) :
    Calls Try.prog 4 #[acV a1 a2 a3, acV b1 b2 b3, .int .i64 z, .slice A n c] w fun e w' => e = .returned (.bool true) ∧ Grew w w' := by
  unfold acV
  by_cases hbig : (300 : Int) < (n : Int)
  · go_enter Try.func4, Try.ntmps4
    go_wp2
    go_ret
    exact ⟨rfl, grew_trans (grew_alloc _ _ _) (grew_alloc _ _ _)⟩
  · have HI := Lib.hid h
    have HN : n ≤ 300 := by omega
    have CT := fun w (h : RowE enLg w A n l) => twin_form A n c l w h hA (by omega)
    have CU := fun A1 c1 w (h : RowE enLg w A1 n l) => turn_any A1 n c1 l w h (by omega)
    have CV := fun w (h : RowE enLg w A n l) => refTurn_form A n c l w h (by omega)
    have CL1 := fun A1 c1 w (h : RowE enLg w A1 n l) (h2 : RowE enLg w A n l) => legs_yes A1 A n n c1 c l w h h2 (by omega)
    have CL2 := fun A1 A2 c1 c2 w (h : RowE enLg w A1 n (turnL l)) (h2 : RowE enLg w A2 n (turnL l)) => legs_yes A1 A2 n n c1 c2 (turnL l) w h h2 (by omega)
    have CL3 := fun A1 A2 c1 c2 w (h : RowE enLg w A1 2 (moveL (a1, a2, a3) (b1, b2, b3) z)) (h2 : RowE enLg w A2 2 (moveL (a1, a2, a3) (b1, b2, b3) z)) => legs_yes A1 A2 2 2 c1 c2 (moveL (a1, a2, a3) (b1, b2, b3) z) w h h2 (by omega)
    have CM := fun w => move_any a1 a2 a3 b1 b2 b3 z w
    have CN := fun w => refMove_any a1 a2 a3 b1 b2 b3 z w
    have CS := fun A1 c1 base w (h : n = 0 ∨ ∃ g, A1 = some ⟨g, 0, none⟩ ∧ base ≤ g ∧ Slab w g (n * 4)) => spoilLegs_any A1 n c1 base w h (by omega)
    have WK := fun w => wakes09_any w
    unfold acV at CM CN
    generalize moveL (a1, a2, a3) (b1, b2, b3) z = ML at *
    clear h hA hn
    go_enter Try.func4, Try.ntmps4
    go_wp2_with fail
    have H00 : w.heap.size < ((w.alloc (.cells #[.int .i64 a1, .int .i64 a2, .int .i64 a3] 35)).alloc (.cells #[.int .i64 b1, .int .i64 b2, .int .i64 b3] 35)).heap.size ∧ w.heap.size + 1 < ((w.alloc (.cells #[.int .i64 a1, .int .i64 a2, .int .i64 a3] 35)).alloc (.cells #[.int .i64 b1, .int .i64 b2, .int .i64 b3] 35)).heap.size := ⟨by simp; omega, by simp⟩
    have G00 : Hid (Grew w ((w.alloc (.cells #[.int .i64 a1, .int .i64 a2, .int .i64 a3] 35)).alloc (.cells #[.int .i64 b1, .int .i64 b2, .int .i64 b3] 35))) := grew_trans (grew_alloc _ _ _) (grew_alloc _ _ _)
    have H01 := two_cells (grew_refl ((w.alloc (.cells #[.int .i64 a1, .int .i64 a2, .int .i64 a3] 35)).alloc (.cells #[.int .i64 b1, .int .i64 b2, .int .i64 b3] 35)))
    generalize (w.alloc (.cells #[.int .i64 a1, .int .i64 a2, .int .i64 a3] 35)).alloc (.cells #[.int .i64 b1, .int .i64 b2, .int .i64 b3] 35) = w0 at G00 H00 H01 ⊢
    have HC : Hid (w.heap.size < w0.heap.size ∧ w.heap.size + 1 < w0.heap.size ∧ w0.cell? ⟨w.heap.size, 0, none⟩ = some (.int .i64 a1) ∧ w0.cell? ⟨w.heap.size, 1, none⟩ = some (.int .i64 a2) ∧ w0.cell? ⟨w.heap.size, 2, none⟩ = some (.int .i64 a3) ∧ w0.cell? ⟨w.heap.size + 1, 0, none⟩ = some (.int .i64 b1) ∧ w0.cell? ⟨w.heap.size + 1, 1, none⟩ = some (.int .i64 b2) ∧ w0.cell? ⟨w.heap.size + 1, 2, none⟩ = some (.int .i64 b3)) :=
      ⟨H00.1, H00.2, H01.1 0, H01.1 1, H01.1 2, H01.2.1 0, H01.2.1 1, H01.2.1 2⟩
    clear H00 H01
    go_wp2_with (first
      | (go_at_call 9; ((with_reducible refine (CT _ (HI.out.keep G00.out)).mono ?_); rintro e w1 ⟨A1, c1, rfl, hm, hg⟩; have HT := Lib.hid hm; have G01 := Lib.hid hg; clear hm hg))
      | (go_at_call 17; ((with_reducible refine (CU _ _ _ HT.out.row).mono ?_); rintro e w2 ⟨rfl, hr, hs, hg⟩; have HX := Lib.hid hr; have HS := Lib.hid hs; have G12 := Lib.hid hg; have G02 := Lib.hid (grew_trans G01.out hg); clear hr hs hg))
      | (go_at_call 18; ((with_reducible refine (CV _ (HI.out.keep (grew_trans G00.out G02.out))).mono ?_); rintro e w3 ⟨A3, c3, rfl, hr, hg⟩; have HY := Lib.hid hr; have HX3 := Lib.hid (HX.out.keep hg); have HS3 := Lib.hid (HS.out.keep hg); have G13 := Lib.hid (grew_trans G12.out hg); have G03 := Lib.hid (grew_trans G02.out hg); clear hr hg))
      | (go_at_call 14; ((with_reducible refine (CL2 _ _ _ _ _ HX3.out HY.out).mono ?_); rintro e w4 ⟨rfl, hg⟩; have HS4 := Lib.hid (HS3.out.keep hg); have G14 := Lib.hid (grew_trans G13.out hg); have G04 := Lib.hid (grew_trans G03.out hg); clear hg))
      | (go_at_call 15; ((with_reducible refine (CS _ _ w1.heap.size _ (Or.inr ⟨w1.heap.size, rfl, Nat.le_refl _, HS4.out⟩)).mono ?_); rintro e w5 ⟨rfl, hg⟩; have G15 := Lib.hid (grew_below G14.out hg (Nat.le_refl _)); have HK := Lib.hid (grew_below G04.out hg G01.out.size); clear hg)))
    have HT5 := Lib.hid (HT.out.row.keep G15.out)
    have HI5 := Lib.hid (HI.out.keep (grew_trans G00.out HK.out))
    have hC5 := keep6 (grew_drew HK.out) HC.out
    have HB5 : w.heap.size < w5.drew.heap.size ∧ w.heap.size + 1 < w5.drew.heap.size := ⟨Nat.lt_of_lt_of_le HC.out.1 HK.out.size, Nat.lt_of_lt_of_le HC.out.2.1 HK.out.size⟩
    have HC5 := Lib.hid (And.intro HB5.1 (And.intro HB5.2 hC5))
    have GW5 : Hid (Grew w w5.drew) := grew_trans G00.out (grew_drew HK.out)
    clear hC5 HB5 HS HS3 HS4 HX HX3 HY G12 G13 G14 G15 G01 G02 G03 G04 HT CT CU CV CL2 CS HC HK G00
    go_region_held3 (fun w' => w'.cell? ⟨w.heap.size, 0, none⟩ = some (.int .i64 a1) ∧ w'.cell? ⟨w.heap.size, 1, none⟩ = some (.int .i64 a2) ∧ w'.cell? ⟨w.heap.size, 2, none⟩ = some (.int .i64 a3) ∧ w'.cell? ⟨w.heap.size + 1, 0, none⟩ = some (.int .i64 b1) ∧ w'.cell? ⟨w.heap.size + 1, 1, none⟩ = some (.int .i64 b2) ∧ w'.cell? ⟨w.heap.size + 1, 2, none⟩ = some (.int .i64 b3))
      (first
        | (with_reducible exact keep6 (grew_refl _) HC5.out)
        | (with_reducible exact keep6 GD.out HC5.out)
        | (with_reducible exact keep6 GC.out HC5.out)
        | (with_reducible exact keep6 GB.out HC5.out)
        | (with_reducible exact keep6 GA.out HC5.out)
        | (with_reducible exact keep6 G9.out HC5.out))
      (first
        | (go_at_call 14; (with_reducible refine (CL1 _ _ _ (HT5.out.keep (grew_drew (grew_refl _))) (HI5.out.keep (grew_drew (grew_refl _)))).mono ?_); rintro e w6 ⟨rfl, hg⟩; have GA := Lib.hid hg; clear hg)
        | (go_at_call 19; (with_reducible refine (CM _).mono ?_); rintro e w7 ⟨A7, rfl, hr, hg⟩; have GB := Lib.hid (grew_trans GA.out hg); have HM7 := Lib.hid hr; clear hr hg)
        | (go_at_call 20; (with_reducible refine (CN _).mono ?_); rintro e w8 ⟨A8, rfl, hr, hg⟩; have GC := Lib.hid (grew_trans GB.out hg); have HM8 := Lib.hid hr; have HM78 := Lib.hid (HM7.out.keep hg); clear hr hg)
        | (go_at_call 14; (with_reducible refine (CL3 _ _ _ _ _ HM78.out HM8.out).mono ?_); rintro e w9 ⟨rfl, hg⟩; have GD := Lib.hid (grew_trans GC.out hg); clear hg)
        | (go_at_call 16; (with_reducible refine (WK _).mono ?_); rintro e w10 ⟨rfl, hg⟩; have G9 := Lib.hid (grew_trans GD.out hg); clear hg)
        | (go_at_call 20; (with_reducible refine (CN _).mono ?_); rintro e w7 ⟨A8, rfl, hr, hg⟩; have GB := Lib.hid (grew_trans GA.out hg); have HM8 := Lib.hid hr; clear hr hg)
        | (go_at_call 19; (with_reducible refine (CM _).mono ?_); rintro e w8 ⟨A7, rfl, hr, hg⟩; have GC := Lib.hid (grew_trans GB.out hg); have HM7 := Lib.hid hr; have HM78 := Lib.hid hr; have HM8 := Lib.hid (HM8.out.keep hg); clear hr hg))
    all_goals
      go_wp2
      go_ret
      exact ⟨rfl, grew_trans GW5.out G9.out⟩
end Go.Proofs.Ytmbhkeppikaeaaa.NumK
