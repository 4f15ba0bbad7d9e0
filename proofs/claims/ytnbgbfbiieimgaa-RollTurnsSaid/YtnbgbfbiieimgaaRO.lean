/- roll.Tell. -/
import Derived.Test.YtnbgbfbiieimgaaRH
import Derived.Test.YtnbgbfbiieimgaaRI
import Derived.Test.YtnbgbfbiieimgaaRJ
import Derived.Test.YtnbgbfbiieimgaaRK
import Derived.Deep.CutBlock
namespace Go.Proofs.Ytnbgbfbiieimgaa.NumK
open Go.RowKit
set_option linter.unusedVariables false

set_option maxRecDepth 100000 in
set_option maxHeartbeats 4000000 in
theorem tell_any (r : Rl) (no price : Int) (A1 A2 A3 : Option Addr) (n1 n2 n3 c1 c2 c3 : Nat) (w : World) (h : In3 w r A1 A2 A3 n1 n2 n3 c1 c2 c3) (hn : n1 ≤ 1000000 ∧ n2 ≤ 1000000 ∧ n3 ≤ 1000000) :
    Calls Try.prog 37 #[rlV A1 A2 A3 n1 n2 n3 c1 c2 c3, .int .i64 no, .int .i64 price] w (RollE (tellP r no price).1 (tellP r no price).2 w) := by
  have HI := Lib.hid h
  have CK := fun w' (g : Grew w w') => check_any r A1 A2 A3 n1 n2 n3 c1 c2 c3 w' (h.rows.keep g) hn
  dsimp only [rlV] at CK ⊢
  have CW := fun w => within_any price 1 1073741824 w
  have CM := fun w' (g : Grew w w') => pfindIn_any A1 A2 A3 n1 n2 n3 c1 c2 c3 r.2.1 no w' (h.rows.i.keep g) hn.2.1 (fun w hh => firstIn_any A2 n2 c2 r.2.1 no w hh hn.2.1)
  dsimp only [vIn] at CM
  have HSHO : Hid (rightR r = true → n1 ≤ 16 ∧ n2 ≤ 8 ∧ n3 ≤ 6) := fun e => (by have := right_short e; rw [h.rows.m.len, h.rows.i.len, h.rows.h.len] at this; exact this)
  have HSL : Hid (r.1.length = n1 ∧ r.2.1.length = n2 ∧ r.2.2.length = n3) := ⟨h.rows.m.len, h.rows.i.len, h.rows.h.len⟩
  clear h
  by_cases hr : rightR r = true
  · have HSH := Lib.hid (HSHO.out hr)
    have HRI := Lib.hid (right_rise hr)
    rw [chkV_yes hr] at CK
    obtain ⟨p, hp⟩ : ∃ p, p = findL noIn in0 r.2.1 no := ⟨_, rfl⟩
    obtain ⟨⟨p1, p2, p3, p4, p5, p6⟩, ⟨p7, p8, p9, p10, p11, p12⟩⟩ := p
    rw [← hp] at CM
    dsimp only at CM
    by_cases hh : hasL noIn r.2.1 no = true
    · rw [hh] at CM
      by_cases hm : wi price 1 1073741824 = true
      · rw [hm] at CW
        rw [show tellP r no price = ((r.1, putL noIn r.2.1 ((p1, p2, p3, p4, price, p6), (p7, p8, p9, p10, p11, p12)), r.2.2), 0) by unfold tellP; rw [if_pos hr, if_pos hh, if_pos hm, ← hp] <;> rfl]
        clear hp
        go_enter Try.func37, Try.ntmps37
        go_upto_region 1 with fail
        have HGI : Hid (Grew w ((w.alloc (.cells #[.slice A1 n1 c1, .slice A2 n2 c2, .slice A3 n3 c3] 26)).alloc (.cells #[.slice none 0 0, .slice none 0 0, .slice none 0 0] 26))) := grew_trans (grew_alloc _ _ _) (grew_alloc _ _ _)
        have HX0 : Hid (OwnC ((w.alloc (.cells #[.slice A1 n1 c1, .slice A2 n2 c2, .slice A3 n3 c3] 26)).alloc (.cells #[.slice none 0 0, .slice none 0 0, .slice none 0 0] 26)) w.heap.size [.slice A1 n1 c1, .slice A2 n2 c2, .slice A3 n3 c3]) := (OwnC.new w [.slice A1 n1 c1, .slice A2 n2 c2, .slice A3 n3 c3] _ _ rfl).keep (grew_alloc _ _ _)
        have HY0 : Hid (OwnC ((w.alloc (.cells #[.slice A1 n1 c1, .slice A2 n2 c2, .slice A3 n3 c3] 26)).alloc (.cells #[.slice none 0 0, .slice none 0 0, .slice none 0 0] 26)) (w.heap.size + 1) [.slice none 0 0, .slice none 0 0, .slice none 0 0]) := OwnC.new _ [.slice none 0 0, .slice none 0 0, .slice none 0 0] _ _ (by simp)
        generalize ((w.alloc (.cells #[.slice A1 n1 c1, .slice A2 n2 c2, .slice A3 n3 c3] 26)).alloc (.cells #[.slice none 0 0, .slice none 0 0, .slice none 0 0] 26)) = w0 at *
        have x0 : w0.cell? ⟨w.heap.size, 0, none⟩ = some (.slice A1 n1 c1) := HX0.out.at 0 _ rfl
        have x1 : w0.cell? ⟨w.heap.size, 1, none⟩ = some (.slice A2 n2 c2) := HX0.out.at 1 _ rfl
        have x2 : w0.cell? ⟨w.heap.size, 2, none⟩ = some (.slice A3 n3 c3) := HX0.out.at 2 _ rfl
        go_upto_region 5 with (first
          | (go_at_call 11; ((with_reducible refine (CK _ HGI.out).mono ?_); rintro e w1 ⟨rfl, hg⟩; have HX1 := Lib.hid (HX0.out.keep hg); have HY1 := Lib.hid (HY0.out.keep hg); have HG1 := Lib.hid (grew_trans HGI.out hg); have x0 : w1.cell? ⟨w.heap.size, 0, none⟩ = some (.slice A1 n1 c1) := HX1.out.at 0 _ rfl; have x1 : w1.cell? ⟨w.heap.size, 1, none⟩ = some (.slice A2 n2 c2) := HX1.out.at 1 _ rfl; have x2 : w1.cell? ⟨w.heap.size, 2, none⟩ = some (.slice A3 n3 c3) := HX1.out.at 2 _ rfl; clear hg CK))
          | (go_at_call 15; ((with_reducible refine (CM _ HG1.out).mono ?_); rintro e w2 ⟨rfl, hg⟩; have HX2 : Hid (OwnC (w2.alloc (.cells #[.int .i64 p1, .int .i64 p2, .int .i64 p3, .int .i64 p4, .int .i64 p5, .int .i64 p6, .int .i64 p7, .int .i64 p8, .int .i64 p9, .int .i64 p10, .int .i64 p11, .int .i64 p12] 38)) w.heap.size [.slice A1 n1 c1, .slice A2 n2 c2, .slice A3 n3 c3]) := (HX1.out.keep hg).keep (grew_alloc _ _ _); have HY2 : Hid (OwnC (w2.alloc (.cells #[.int .i64 p1, .int .i64 p2, .int .i64 p3, .int .i64 p4, .int .i64 p5, .int .i64 p6, .int .i64 p7, .int .i64 p8, .int .i64 p9, .int .i64 p10, .int .i64 p11, .int .i64 p12] 38)) (w.heap.size + 1) [.slice none 0 0, .slice none 0 0, .slice none 0 0]) := (HY1.out.keep hg).keep (grew_alloc _ _ _); have HM2 : Hid (OwnC (w2.alloc (.cells #[.int .i64 p1, .int .i64 p2, .int .i64 p3, .int .i64 p4, .int .i64 p5, .int .i64 p6, .int .i64 p7, .int .i64 p8, .int .i64 p9, .int .i64 p10, .int .i64 p11, .int .i64 p12] 38)) w2.heap.size [.int .i64 p1, .int .i64 p2, .int .i64 p3, .int .i64 p4, .int .i64 p5, .int .i64 p6, .int .i64 p7, .int .i64 p8, .int .i64 p9, .int .i64 p10, .int .i64 p11, .int .i64 p12]) := OwnC.new w2 [.int .i64 p1, .int .i64 p2, .int .i64 p3, .int .i64 p4, .int .i64 p5, .int .i64 p6, .int .i64 p7, .int .i64 p8, .int .i64 p9, .int .i64 p10, .int .i64 p11, .int .i64 p12] _ _ rfl; have HG2 : Hid (Grew w (w2.alloc (.cells #[.int .i64 p1, .int .i64 p2, .int .i64 p3, .int .i64 p4, .int .i64 p5, .int .i64 p6, .int .i64 p7, .int .i64 p8, .int .i64 p9, .int .i64 p10, .int .i64 p11, .int .i64 p12] 38))) := grew_trans (grew_trans HG1.out hg) (grew_alloc _ _ _); have HW2 : Hid (w.heap.size + 2 ≤ w2.heap.size) := (by have hs := HG1.out.size; have h0 := HY1.out.lt; have hs2 := hg.size; show _ ≤ _; omega); clear hg CM)))
        clear x0 x1 x2
        generalize (w2.alloc (.cells #[.int .i64 p1, .int .i64 p2, .int .i64 p3, .int .i64 p4, .int .i64 p5, .int .i64 p6, .int .i64 p7, .int .i64 p8, .int .i64 p9, .int .i64 p10, .int .i64 p11, .int .i64 p12] 38)) = wa at *
        have y0 : wa.cell? ⟨w.heap.size + 1, 0, none⟩ = some (.slice none 0 0) := HY2.out.at 0 _ rfl
        have f0 : wa.frozen? ⟨w.heap.size + 1, 0, none⟩ = false := HY2.out.fr 0 (by decide)
        have y1 : wa.cell? ⟨w.heap.size + 1, 1, none⟩ = some (.slice none 0 0) := HY2.out.at 1 _ rfl
        have f1 : wa.frozen? ⟨w.heap.size + 1, 1, none⟩ = false := HY2.out.fr 1 (by decide)
        have y2 : wa.cell? ⟨w.heap.size + 1, 2, none⟩ = some (.slice none 0 0) := HY2.out.at 2 _ rfl
        have f2 : wa.frozen? ⟨w.heap.size + 1, 2, none⟩ = false := HY2.out.fr 2 (by decide)
        have k4 : wa.cell? ⟨w2.heap.size, 4, none⟩ = some (.int .i64 p5) := HM2.out.at 4 _ rfl
        have j4 : wa.frozen? ⟨w2.heap.size, 4, none⟩ = false := HM2.out.fr 4 (by show 4 < 12; omega)
        go_upto_region 10 with (go_at_call 64; ((with_reducible refine (CW _).mono ?_); rintro e w3 ⟨rfl, rfl⟩))
        have HXx : Hid (OwnC (wa.setCell ⟨w2.heap.size, 4, none⟩ (.int .i64 price)) w.heap.size [.slice A1 n1 c1, .slice A2 n2 c2, .slice A3 n3 c3]) := HX2.out.other _ _ (by have := HW2.out; show w2.heap.size ≠ _; omega)
        have HYx : Hid (OwnC (wa.setCell ⟨w2.heap.size, 4, none⟩ (.int .i64 price)) (w.heap.size + 1) [.slice none 0 0, .slice none 0 0, .slice none 0 0]) := HY2.out.other _ _ (by have := HW2.out; show w2.heap.size ≠ _; omega)
        have HMx : Hid (OwnC (wa.setCell ⟨w2.heap.size, 4, none⟩ (.int .i64 price)) w2.heap.size [.int .i64 p1, .int .i64 p2, .int .i64 p3, .int .i64 p4, .int .i64 price, .int .i64 p6, .int .i64 p7, .int .i64 p8, .int .i64 p9, .int .i64 p10, .int .i64 p11, .int .i64 p12]) := HM2.out.set 4 (.int .i64 price) (by show 4 < 12; omega)
        have HGx : Hid (Grew w (wa.setCell ⟨w2.heap.size, 4, none⟩ (.int .i64 price))) := grew_set HG2.out _ (by have := HW2.out; show _ ≤ w2.heap.size; omega)
        clear k4 j4 y0 y1 y2 f0 f1 f2
        generalize (wa.setCell ⟨w2.heap.size, 4, none⟩ (.int .i64 price)) = wx at *
        have x1 : wx.cell? ⟨w.heap.size, 1, none⟩ = some (.slice A2 n2 c2) := HXx.out.at 1 _ rfl
        have m0 : wx.cell? ⟨w2.heap.size, 0, none⟩ = some (.int .i64 p1) := HMx.out.at 0 _ rfl
        have m1 : wx.cell? ⟨w2.heap.size, 1, none⟩ = some (.int .i64 p2) := HMx.out.at 1 _ rfl
        have m2 : wx.cell? ⟨w2.heap.size, 2, none⟩ = some (.int .i64 p3) := HMx.out.at 2 _ rfl
        have m3 : wx.cell? ⟨w2.heap.size, 3, none⟩ = some (.int .i64 p4) := HMx.out.at 3 _ rfl
        have m4 : wx.cell? ⟨w2.heap.size, 4, none⟩ = some (.int .i64 price) := HMx.out.at 4 _ rfl
        have m5 : wx.cell? ⟨w2.heap.size, 5, none⟩ = some (.int .i64 p6) := HMx.out.at 5 _ rfl
        have m6 : wx.cell? ⟨w2.heap.size, 6, none⟩ = some (.int .i64 p7) := HMx.out.at 6 _ rfl
        have m7 : wx.cell? ⟨w2.heap.size, 7, none⟩ = some (.int .i64 p8) := HMx.out.at 7 _ rfl
        have m8 : wx.cell? ⟨w2.heap.size, 8, none⟩ = some (.int .i64 p9) := HMx.out.at 8 _ rfl
        have m9 : wx.cell? ⟨w2.heap.size, 9, none⟩ = some (.int .i64 p10) := HMx.out.at 9 _ rfl
        have m10 : wx.cell? ⟨w2.heap.size, 10, none⟩ = some (.int .i64 p11) := HMx.out.at 10 _ rfl
        have m11 : wx.cell? ⟨w2.heap.size, 11, none⟩ = some (.int .i64 p12) := HMx.out.at 11 _ rfl
        have CP := putIn_any A2 n2 c2 r.2.1 ((p1, p2, p3, p4, price, p6), (p7, p8, p9, p10, p11, p12)) wx (HI.out.rows.i.keep HGx.out) HI.out.k2 HRI.out.2.1 HI.out.l2.1 HI.out.l2.2 (by have := HSH.out; omega)
        dsimp only [vIn, noVIn] at CP
        have HWN : Hid (w.heap.size < wx.heap.size) := HXx.out.lt
        go_upto_region 11 with (go_at_call 62; ((with_reducible refine CP.mono ?_); rintro e w4 ⟨v, rfl, ho, hg⟩; obtain ⟨B, d, rfl, -⟩ := ho.form; have HX4 := Lib.hid (HXx.out.keep hg); have HY4 := Lib.hid (HYx.out.keep hg); have HG4 := Lib.hid (grew_trans HGx.out hg); have xq : w4.cell? ⟨w.heap.size, 1, none⟩ = some (.slice A2 n2 c2) := HX4.out.at 1 _ rfl; have fq : w4.frozen? ⟨w.heap.size, 1, none⟩ = false := HX4.out.fr 1 (by show 1 < 3; omega); have HO4 := Lib.hid ho; clear ho hg CP))
        have HX5 : Hid (OwnC (w4.setCell ⟨w.heap.size, 1, none⟩ (.slice B (putL noIn r.2.1 ((p1, p2, p3, p4, price, p6), (p7, p8, p9, p10, p11, p12))).length d)) w.heap.size [.slice A1 n1 c1, .slice B (putL noIn r.2.1 ((p1, p2, p3, p4, price, p6), (p7, p8, p9, p10, p11, p12))).length d, .slice A3 n3 c3]) := HX4.out.set 1 (.slice B (putL noIn r.2.1 ((p1, p2, p3, p4, price, p6), (p7, p8, p9, p10, p11, p12))).length d) (by show 1 < 3; omega)
        have HY5 : Hid (OwnC (w4.setCell ⟨w.heap.size, 1, none⟩ (.slice B (putL noIn r.2.1 ((p1, p2, p3, p4, price, p6), (p7, p8, p9, p10, p11, p12))).length d)) (w.heap.size + 1) [.slice none 0 0, .slice none 0 0, .slice none 0 0]) := HY4.out.other _ _ (by show w.heap.size ≠ _; omega)
        have HG5 : Hid (Grew w (w4.setCell ⟨w.heap.size, 1, none⟩ (.slice B (putL noIn r.2.1 ((p1, p2, p3, p4, price, p6), (p7, p8, p9, p10, p11, p12))).length d))) := grew_set HG4.out _ (Nat.le_refl _)
        have HO5 := Lib.hid (HO4.out.set w.heap.size 1 (.slice B (putL noIn r.2.1 ((p1, p2, p3, p4, price, p6), (p7, p8, p9, p10, p11, p12))).length d) HWN.out)
        generalize (w4.setCell ⟨w.heap.size, 1, none⟩ (.slice B (putL noIn r.2.1 ((p1, p2, p3, p4, price, p6), (p7, p8, p9, p10, p11, p12))).length d)) = w5 at *
        have HI5 : Hid (In3 w5 (r.1, (putL noIn r.2.1 ((p1, p2, p3, p4, price, p6), (p7, p8, p9, p10, p11, p12))), r.2.2) A1 B A3 n1 (putL noIn r.2.1 ((p1, p2, p3, p4, price, p6), (p7, p8, p9, p10, p11, p12))).length n3 c1 d c3) := ⟨⟨HI.out.rows.m.keep HG5.out, (own_form HO5.out).1, HI.out.rows.h.keep HG5.out⟩, HI.out.k1, (own_form HO5.out).2.1, HI.out.k3, HI.out.l1, (own_form HO5.out).2.2, HI.out.l3⟩
        have CC := copied_any (r.1, (putL noIn r.2.1 ((p1, p2, p3, p4, price, p6), (p7, p8, p9, p10, p11, p12))), r.2.2) A1 B A3 n1 (putL noIn r.2.1 ((p1, p2, p3, p4, price, p6), (p7, p8, p9, p10, p11, p12))).length n3 c1 d c3 w5 HI5.out (by have := HSH.out; have := HSL.out; have := put_len_le noIn r.2.1 ((p1, p2, p3, p4, price, p6), (p7, p8, p9, p10, p11, p12)); refine ⟨?_, ?_, ?_⟩ <;> omega)
        dsimp only [rlV] at CC
        have x0 : w5.cell? ⟨w.heap.size, 0, none⟩ = some (.slice A1 n1 c1) := HX5.out.at 0 _ rfl
        have x1 : w5.cell? ⟨w.heap.size, 1, none⟩ = some (.slice B (putL noIn r.2.1 ((p1, p2, p3, p4, price, p6), (p7, p8, p9, p10, p11, p12))).length d) := HX5.out.at 1 _ rfl
        have x2 : w5.cell? ⟨w.heap.size, 2, none⟩ = some (.slice A3 n3 c3) := HX5.out.at 2 _ rfl
        have HWS5 : Hid (w.heap.size ≤ w5.heap.size) := HG5.out.size
        go_wp2_with (go_at_call 59; ((with_reducible refine CC.mono ?_); rintro e w6 ⟨D1, D2, D3, g1, g2, g3, rfl, ⟨ho, -⟩, hg⟩; dsimp only [rlV]; have HO6 := Lib.hid ho; have HY6 := Lib.hid (HY5.out.keep hg); have HG6 := Lib.hid (grew_trans HG5.out hg); have HRN : Hid (w.heap.size + 1 < w5.heap.size) := HY5.out.lt; have y0 : w6.cell? ⟨w.heap.size + 1, 0, none⟩ = some (.slice none 0 0) := HY6.out.at 0 _ rfl; have f0 : w6.frozen? ⟨w.heap.size + 1, 0, none⟩ = false := HY6.out.fr 0 (by decide); have y1 : w6.cell? ⟨w.heap.size + 1, 1, none⟩ = some (.slice none 0 0) := HY6.out.at 1 _ rfl; have f1 : w6.frozen? ⟨w.heap.size + 1, 1, none⟩ = false := HY6.out.fr 1 (by decide); have y2 : w6.cell? ⟨w.heap.size + 1, 2, none⟩ = some (.slice none 0 0) := HY6.out.at 2 _ rfl; have f2 : w6.frozen? ⟨w.heap.size + 1, 2, none⟩ = false := HY6.out.fr 2 (by decide); clear ho hg CC))
        have HP := HY6.out.all [Value.slice D1 r.1.length g1, .slice D2 (putL noIn r.2.1 ((p1, p2, p3, p4, price, p6), (p7, p8, p9, p10, p11, p12))).length g2, .slice D3 r.2.2.length g3] rfl
        have HGP := grew_put (w.heap.size + 1) (by show w.heap.size ≤ _; omega) [Value.slice D1 r.1.length g1, .slice D2 (putL noIn r.2.1 ((p1, p2, p3, p4, price, p6), (p7, p8, p9, p10, p11, p12))).length g2, .slice D3 r.2.2.length g3] 0 _ HG6.out
        have hb : w.heap.size + 1 < w5.heap.size + 2 := Nat.lt_of_lt_of_le HRN.out (Nat.le_add_right _ _)
        have Q1 := OwnE.put hb [Value.slice D1 r.1.length g1, .slice D2 (putL noIn r.2.1 ((p1, p2, p3, p4, price, p6), (p7, p8, p9, p10, p11, p12))).length g2, .slice D3 r.2.2.length g3] 0 _ HO6.out.m
        have Q2 := OwnE.put hb [Value.slice D1 r.1.length g1, .slice D2 (putL noIn r.2.1 ((p1, p2, p3, p4, price, p6), (p7, p8, p9, p10, p11, p12))).length g2, .slice D3 r.2.2.length g3] 0 _ HO6.out.i
        have Q3 := OwnE.put hb [Value.slice D1 r.1.length g1, .slice D2 (putL noIn r.2.1 ((p1, p2, p3, p4, price, p6), (p7, p8, p9, p10, p11, p12))).length g2, .slice D3 r.2.2.length g3] 0 _ HO6.out.h
        change bodyPost _ _ _ _ _ (putC w6 (w.heap.size + 1) 0 [.slice D1 r.1.length g1, .slice D2 (putL noIn r.2.1 ((p1, p2, p3, p4, price, p6), (p7, p8, p9, p10, p11, p12))).length g2, .slice D3 r.2.2.length g3])
        generalize putC w6 (w.heap.size + 1) 0 [.slice D1 r.1.length g1, .slice D2 (putL noIn r.2.1 ((p1, p2, p3, p4, price, p6), (p7, p8, p9, p10, p11, p12))).length g2, .slice D3 r.2.2.length g3] = w9 at *
        have z0 : w9.cell? ⟨w.heap.size + 1, 0, none⟩ = _ := HP.at 0 _ rfl
        have z1 : w9.cell? ⟨w.heap.size + 1, 1, none⟩ = _ := HP.at 1 _ rfl
        have z2 : w9.cell? ⟨w.heap.size + 1, 2, none⟩ = _ := HP.at 2 _ rfl
        have HLE : w.heap.size ≤ w5.heap.size + 2 := Nat.le_trans HWS5.out (Nat.le_add_right _ _)
        refine bodyPost_ret (v := .tuple #[.agg #[.slice D1 r.1.length g1, .slice D2 (putL noIn r.2.1 ((p1, p2, p3, p4, price, p6), (p7, p8, p9, p10, p11, p12))).length g2, .slice D3 r.2.2.length g3], .int .i64 0]) (by simp [results, Try.results37, go_sem, z0, z1, z2]) rfl ?_
        exact ⟨D1, D2, D3, g1, g2, g3, rfl, ⟨Q1.mono HLE, Q2.mono HLE, Q3.mono HLE⟩, HGP⟩
      · rw [Bool.not_eq_true] at hm
        rw [hm] at CW
        have hmf : ¬ wi price 1 1073741824 = true := by rw [hm]; decide
        rw [show tellP r no price = (rl0, 3) by unfold tellP; rw [if_pos hr, if_pos hh, if_neg hmf]]
        clear hp
        go_enter Try.func37, Try.ntmps37
        go_upto_region 1 with fail
        have HGI : Hid (Grew w ((w.alloc (.cells #[.slice A1 n1 c1, .slice A2 n2 c2, .slice A3 n3 c3] 26)).alloc (.cells #[.slice none 0 0, .slice none 0 0, .slice none 0 0] 26))) := grew_trans (grew_alloc _ _ _) (grew_alloc _ _ _)
        have HX0 : Hid (OwnC ((w.alloc (.cells #[.slice A1 n1 c1, .slice A2 n2 c2, .slice A3 n3 c3] 26)).alloc (.cells #[.slice none 0 0, .slice none 0 0, .slice none 0 0] 26)) w.heap.size [.slice A1 n1 c1, .slice A2 n2 c2, .slice A3 n3 c3]) := (OwnC.new w [.slice A1 n1 c1, .slice A2 n2 c2, .slice A3 n3 c3] _ _ rfl).keep (grew_alloc _ _ _)
        have HY0 : Hid (OwnC ((w.alloc (.cells #[.slice A1 n1 c1, .slice A2 n2 c2, .slice A3 n3 c3] 26)).alloc (.cells #[.slice none 0 0, .slice none 0 0, .slice none 0 0] 26)) (w.heap.size + 1) [.slice none 0 0, .slice none 0 0, .slice none 0 0]) := OwnC.new _ [.slice none 0 0, .slice none 0 0, .slice none 0 0] _ _ (by simp)
        generalize ((w.alloc (.cells #[.slice A1 n1 c1, .slice A2 n2 c2, .slice A3 n3 c3] 26)).alloc (.cells #[.slice none 0 0, .slice none 0 0, .slice none 0 0] 26)) = w0 at *
        have x0 : w0.cell? ⟨w.heap.size, 0, none⟩ = some (.slice A1 n1 c1) := HX0.out.at 0 _ rfl
        have x1 : w0.cell? ⟨w.heap.size, 1, none⟩ = some (.slice A2 n2 c2) := HX0.out.at 1 _ rfl
        have x2 : w0.cell? ⟨w.heap.size, 2, none⟩ = some (.slice A3 n3 c3) := HX0.out.at 2 _ rfl
        go_upto_region 5 with (first
          | (go_at_call 11; ((with_reducible refine (CK _ HGI.out).mono ?_); rintro e w1 ⟨rfl, hg⟩; have HX1 := Lib.hid (HX0.out.keep hg); have HY1 := Lib.hid (HY0.out.keep hg); have HG1 := Lib.hid (grew_trans HGI.out hg); have x0 : w1.cell? ⟨w.heap.size, 0, none⟩ = some (.slice A1 n1 c1) := HX1.out.at 0 _ rfl; have x1 : w1.cell? ⟨w.heap.size, 1, none⟩ = some (.slice A2 n2 c2) := HX1.out.at 1 _ rfl; have x2 : w1.cell? ⟨w.heap.size, 2, none⟩ = some (.slice A3 n3 c3) := HX1.out.at 2 _ rfl; clear hg CK))
          | (go_at_call 15; ((with_reducible refine (CM _ HG1.out).mono ?_); rintro e w2 ⟨rfl, hg⟩; have HX2 : Hid (OwnC (w2.alloc (.cells #[.int .i64 p1, .int .i64 p2, .int .i64 p3, .int .i64 p4, .int .i64 p5, .int .i64 p6, .int .i64 p7, .int .i64 p8, .int .i64 p9, .int .i64 p10, .int .i64 p11, .int .i64 p12] 38)) w.heap.size [.slice A1 n1 c1, .slice A2 n2 c2, .slice A3 n3 c3]) := (HX1.out.keep hg).keep (grew_alloc _ _ _); have HY2 : Hid (OwnC (w2.alloc (.cells #[.int .i64 p1, .int .i64 p2, .int .i64 p3, .int .i64 p4, .int .i64 p5, .int .i64 p6, .int .i64 p7, .int .i64 p8, .int .i64 p9, .int .i64 p10, .int .i64 p11, .int .i64 p12] 38)) (w.heap.size + 1) [.slice none 0 0, .slice none 0 0, .slice none 0 0]) := (HY1.out.keep hg).keep (grew_alloc _ _ _); have HM2 : Hid (OwnC (w2.alloc (.cells #[.int .i64 p1, .int .i64 p2, .int .i64 p3, .int .i64 p4, .int .i64 p5, .int .i64 p6, .int .i64 p7, .int .i64 p8, .int .i64 p9, .int .i64 p10, .int .i64 p11, .int .i64 p12] 38)) w2.heap.size [.int .i64 p1, .int .i64 p2, .int .i64 p3, .int .i64 p4, .int .i64 p5, .int .i64 p6, .int .i64 p7, .int .i64 p8, .int .i64 p9, .int .i64 p10, .int .i64 p11, .int .i64 p12]) := OwnC.new w2 [.int .i64 p1, .int .i64 p2, .int .i64 p3, .int .i64 p4, .int .i64 p5, .int .i64 p6, .int .i64 p7, .int .i64 p8, .int .i64 p9, .int .i64 p10, .int .i64 p11, .int .i64 p12] _ _ rfl; have HG2 : Hid (Grew w (w2.alloc (.cells #[.int .i64 p1, .int .i64 p2, .int .i64 p3, .int .i64 p4, .int .i64 p5, .int .i64 p6, .int .i64 p7, .int .i64 p8, .int .i64 p9, .int .i64 p10, .int .i64 p11, .int .i64 p12] 38))) := grew_trans (grew_trans HG1.out hg) (grew_alloc _ _ _); have HW2 : Hid (w.heap.size + 2 ≤ w2.heap.size) := (by have hs := HG1.out.size; have h0 := HY1.out.lt; have hs2 := hg.size; show _ ≤ _; omega); clear hg CM)))
        clear x0 x1 x2
        generalize (w2.alloc (.cells #[.int .i64 p1, .int .i64 p2, .int .i64 p3, .int .i64 p4, .int .i64 p5, .int .i64 p6, .int .i64 p7, .int .i64 p8, .int .i64 p9, .int .i64 p10, .int .i64 p11, .int .i64 p12] 38)) = wa at *
        have y0 : wa.cell? ⟨w.heap.size + 1, 0, none⟩ = some (.slice none 0 0) := HY2.out.at 0 _ rfl
        have f0 : wa.frozen? ⟨w.heap.size + 1, 0, none⟩ = false := HY2.out.fr 0 (by decide)
        have y1 : wa.cell? ⟨w.heap.size + 1, 1, none⟩ = some (.slice none 0 0) := HY2.out.at 1 _ rfl
        have f1 : wa.frozen? ⟨w.heap.size + 1, 1, none⟩ = false := HY2.out.fr 1 (by decide)
        have y2 : wa.cell? ⟨w.heap.size + 1, 2, none⟩ = some (.slice none 0 0) := HY2.out.at 2 _ rfl
        have f2 : wa.frozen? ⟨w.heap.size + 1, 2, none⟩ = false := HY2.out.fr 2 (by decide)
        go_wp2_with (go_at_call 64; ((with_reducible refine (CW _).mono ?_); rintro e w3 ⟨rfl, rfl⟩))
        have HP := HY2.out.all [.slice none 0 0, .slice none 0 0, .slice none 0 0] rfl
        have HGP := grew_put (w.heap.size + 1) (by show w.heap.size ≤ _; omega) [.slice none 0 0, .slice none 0 0, .slice none 0 0] 0 _ HG2.out
        change bodyPost _ _ _ _ _ (putC wa (w.heap.size + 1) 0 [.slice none 0 0, .slice none 0 0, .slice none 0 0])
        generalize putC wa (w.heap.size + 1) 0 [.slice none 0 0, .slice none 0 0, .slice none 0 0] = w9 at *
        have z0 : w9.cell? ⟨w.heap.size + 1, 0, none⟩ = _ := HP.at 0 _ rfl
        have z1 : w9.cell? ⟨w.heap.size + 1, 1, none⟩ = _ := HP.at 1 _ rfl
        have z2 : w9.cell? ⟨w.heap.size + 1, 2, none⟩ = _ := HP.at 2 _ rfl
        refine bodyPost_ret (v := .tuple #[.agg #[.slice none 0 0, .slice none 0 0, .slice none 0 0], .int .i64 3]) (by simp [results, Try.results37, go_sem, z0, z1, z2]) rfl ?_
        exact ⟨none, none, none, 0, 0, 0, rfl, own3_nil _ _, HGP⟩
    · rw [Bool.not_eq_true] at hh
      rw [hh] at CM
      have hhf : ¬ hasL noIn r.2.1 no = true := by rw [hh]; decide
      rw [show tellP r no price = (rl0, 10) by unfold tellP; rw [if_pos hr, if_neg hhf]]
      clear hp
      go_enter Try.func37, Try.ntmps37
      go_upto_region 1 with fail
      have HGI : Hid (Grew w ((w.alloc (.cells #[.slice A1 n1 c1, .slice A2 n2 c2, .slice A3 n3 c3] 26)).alloc (.cells #[.slice none 0 0, .slice none 0 0, .slice none 0 0] 26))) := grew_trans (grew_alloc _ _ _) (grew_alloc _ _ _)
      have HX0 : Hid (OwnC ((w.alloc (.cells #[.slice A1 n1 c1, .slice A2 n2 c2, .slice A3 n3 c3] 26)).alloc (.cells #[.slice none 0 0, .slice none 0 0, .slice none 0 0] 26)) w.heap.size [.slice A1 n1 c1, .slice A2 n2 c2, .slice A3 n3 c3]) := (OwnC.new w [.slice A1 n1 c1, .slice A2 n2 c2, .slice A3 n3 c3] _ _ rfl).keep (grew_alloc _ _ _)
      have HY0 : Hid (OwnC ((w.alloc (.cells #[.slice A1 n1 c1, .slice A2 n2 c2, .slice A3 n3 c3] 26)).alloc (.cells #[.slice none 0 0, .slice none 0 0, .slice none 0 0] 26)) (w.heap.size + 1) [.slice none 0 0, .slice none 0 0, .slice none 0 0]) := OwnC.new _ [.slice none 0 0, .slice none 0 0, .slice none 0 0] _ _ (by simp)
      generalize ((w.alloc (.cells #[.slice A1 n1 c1, .slice A2 n2 c2, .slice A3 n3 c3] 26)).alloc (.cells #[.slice none 0 0, .slice none 0 0, .slice none 0 0] 26)) = w0 at *
      have x0 : w0.cell? ⟨w.heap.size, 0, none⟩ = some (.slice A1 n1 c1) := HX0.out.at 0 _ rfl
      have x1 : w0.cell? ⟨w.heap.size, 1, none⟩ = some (.slice A2 n2 c2) := HX0.out.at 1 _ rfl
      have x2 : w0.cell? ⟨w.heap.size, 2, none⟩ = some (.slice A3 n3 c3) := HX0.out.at 2 _ rfl
      go_upto_region 5 with (first
        | (go_at_call 11; ((with_reducible refine (CK _ HGI.out).mono ?_); rintro e w1 ⟨rfl, hg⟩; have HX1 := Lib.hid (HX0.out.keep hg); have HY1 := Lib.hid (HY0.out.keep hg); have HG1 := Lib.hid (grew_trans HGI.out hg); have x0 : w1.cell? ⟨w.heap.size, 0, none⟩ = some (.slice A1 n1 c1) := HX1.out.at 0 _ rfl; have x1 : w1.cell? ⟨w.heap.size, 1, none⟩ = some (.slice A2 n2 c2) := HX1.out.at 1 _ rfl; have x2 : w1.cell? ⟨w.heap.size, 2, none⟩ = some (.slice A3 n3 c3) := HX1.out.at 2 _ rfl; clear hg CK))
        | (go_at_call 15; ((with_reducible refine (CM _ HG1.out).mono ?_); rintro e w2 ⟨rfl, hg⟩; have HX2 : Hid (OwnC (w2.alloc (.cells #[.int .i64 p1, .int .i64 p2, .int .i64 p3, .int .i64 p4, .int .i64 p5, .int .i64 p6, .int .i64 p7, .int .i64 p8, .int .i64 p9, .int .i64 p10, .int .i64 p11, .int .i64 p12] 38)) w.heap.size [.slice A1 n1 c1, .slice A2 n2 c2, .slice A3 n3 c3]) := (HX1.out.keep hg).keep (grew_alloc _ _ _); have HY2 : Hid (OwnC (w2.alloc (.cells #[.int .i64 p1, .int .i64 p2, .int .i64 p3, .int .i64 p4, .int .i64 p5, .int .i64 p6, .int .i64 p7, .int .i64 p8, .int .i64 p9, .int .i64 p10, .int .i64 p11, .int .i64 p12] 38)) (w.heap.size + 1) [.slice none 0 0, .slice none 0 0, .slice none 0 0]) := (HY1.out.keep hg).keep (grew_alloc _ _ _); have HM2 : Hid (OwnC (w2.alloc (.cells #[.int .i64 p1, .int .i64 p2, .int .i64 p3, .int .i64 p4, .int .i64 p5, .int .i64 p6, .int .i64 p7, .int .i64 p8, .int .i64 p9, .int .i64 p10, .int .i64 p11, .int .i64 p12] 38)) w2.heap.size [.int .i64 p1, .int .i64 p2, .int .i64 p3, .int .i64 p4, .int .i64 p5, .int .i64 p6, .int .i64 p7, .int .i64 p8, .int .i64 p9, .int .i64 p10, .int .i64 p11, .int .i64 p12]) := OwnC.new w2 [.int .i64 p1, .int .i64 p2, .int .i64 p3, .int .i64 p4, .int .i64 p5, .int .i64 p6, .int .i64 p7, .int .i64 p8, .int .i64 p9, .int .i64 p10, .int .i64 p11, .int .i64 p12] _ _ rfl; have HG2 : Hid (Grew w (w2.alloc (.cells #[.int .i64 p1, .int .i64 p2, .int .i64 p3, .int .i64 p4, .int .i64 p5, .int .i64 p6, .int .i64 p7, .int .i64 p8, .int .i64 p9, .int .i64 p10, .int .i64 p11, .int .i64 p12] 38))) := grew_trans (grew_trans HG1.out hg) (grew_alloc _ _ _); have HW2 : Hid (w.heap.size + 2 ≤ w2.heap.size) := (by have hs := HG1.out.size; have h0 := HY1.out.lt; have hs2 := hg.size; show _ ≤ _; omega); clear hg CM)))
      clear x0 x1 x2
      generalize (w2.alloc (.cells #[.int .i64 p1, .int .i64 p2, .int .i64 p3, .int .i64 p4, .int .i64 p5, .int .i64 p6, .int .i64 p7, .int .i64 p8, .int .i64 p9, .int .i64 p10, .int .i64 p11, .int .i64 p12] 38)) = wa at *
      have y0 : wa.cell? ⟨w.heap.size + 1, 0, none⟩ = some (.slice none 0 0) := HY2.out.at 0 _ rfl
      have f0 : wa.frozen? ⟨w.heap.size + 1, 0, none⟩ = false := HY2.out.fr 0 (by decide)
      have y1 : wa.cell? ⟨w.heap.size + 1, 1, none⟩ = some (.slice none 0 0) := HY2.out.at 1 _ rfl
      have f1 : wa.frozen? ⟨w.heap.size + 1, 1, none⟩ = false := HY2.out.fr 1 (by decide)
      have y2 : wa.cell? ⟨w.heap.size + 1, 2, none⟩ = some (.slice none 0 0) := HY2.out.at 2 _ rfl
      have f2 : wa.frozen? ⟨w.heap.size + 1, 2, none⟩ = false := HY2.out.fr 2 (by decide)
      go_wp2
      have HP := HY2.out.all [.slice none 0 0, .slice none 0 0, .slice none 0 0] rfl
      have HGP := grew_put (w.heap.size + 1) (by show w.heap.size ≤ _; omega) [.slice none 0 0, .slice none 0 0, .slice none 0 0] 0 _ HG2.out
      change bodyPost _ _ _ _ _ (putC wa (w.heap.size + 1) 0 [.slice none 0 0, .slice none 0 0, .slice none 0 0])
      generalize putC wa (w.heap.size + 1) 0 [.slice none 0 0, .slice none 0 0, .slice none 0 0] = w9 at *
      have z0 : w9.cell? ⟨w.heap.size + 1, 0, none⟩ = _ := HP.at 0 _ rfl
      have z1 : w9.cell? ⟨w.heap.size + 1, 1, none⟩ = _ := HP.at 1 _ rfl
      have z2 : w9.cell? ⟨w.heap.size + 1, 2, none⟩ = _ := HP.at 2 _ rfl
      refine bodyPost_ret (v := .tuple #[.agg #[.slice none 0 0, .slice none 0 0, .slice none 0 0], .int .i64 10]) (by simp [results, Try.results37, go_sem, z0, z1, z2]) rfl ?_
      exact ⟨none, none, none, 0, 0, 0, rfl, own3_nil _ _, HGP⟩
  · rw [Bool.not_eq_true] at hr
    rw [chkV_no hr] at CK
    have hrf : ¬ rightR r = true := by rw [hr]; decide
    rw [show tellP r no price = (rl0, 14) by unfold tellP; rw [if_neg hrf]]
    go_enter Try.func37, Try.ntmps37
    go_upto_region 1 with fail
    have HGI : Hid (Grew w ((w.alloc (.cells #[.slice A1 n1 c1, .slice A2 n2 c2, .slice A3 n3 c3] 26)).alloc (.cells #[.slice none 0 0, .slice none 0 0, .slice none 0 0] 26))) := grew_trans (grew_alloc _ _ _) (grew_alloc _ _ _)
    have HX0 : Hid (OwnC ((w.alloc (.cells #[.slice A1 n1 c1, .slice A2 n2 c2, .slice A3 n3 c3] 26)).alloc (.cells #[.slice none 0 0, .slice none 0 0, .slice none 0 0] 26)) w.heap.size [.slice A1 n1 c1, .slice A2 n2 c2, .slice A3 n3 c3]) := (OwnC.new w [.slice A1 n1 c1, .slice A2 n2 c2, .slice A3 n3 c3] _ _ rfl).keep (grew_alloc _ _ _)
    have HY0 : Hid (OwnC ((w.alloc (.cells #[.slice A1 n1 c1, .slice A2 n2 c2, .slice A3 n3 c3] 26)).alloc (.cells #[.slice none 0 0, .slice none 0 0, .slice none 0 0] 26)) (w.heap.size + 1) [.slice none 0 0, .slice none 0 0, .slice none 0 0]) := OwnC.new _ [.slice none 0 0, .slice none 0 0, .slice none 0 0] _ _ (by simp)
    generalize ((w.alloc (.cells #[.slice A1 n1 c1, .slice A2 n2 c2, .slice A3 n3 c3] 26)).alloc (.cells #[.slice none 0 0, .slice none 0 0, .slice none 0 0] 26)) = w0 at *
    have x0 : w0.cell? ⟨w.heap.size, 0, none⟩ = some (.slice A1 n1 c1) := HX0.out.at 0 _ rfl
    have x1 : w0.cell? ⟨w.heap.size, 1, none⟩ = some (.slice A2 n2 c2) := HX0.out.at 1 _ rfl
    have x2 : w0.cell? ⟨w.heap.size, 2, none⟩ = some (.slice A3 n3 c3) := HX0.out.at 2 _ rfl
    go_wp2_with (go_at_call 11; ((with_reducible refine (CK _ HGI.out).mono ?_); rintro e w1 ⟨rfl, hg⟩; have HX1 := Lib.hid (HX0.out.keep hg); have HY1 := Lib.hid (HY0.out.keep hg); have HG1 := Lib.hid (grew_trans HGI.out hg); have y0 : w1.cell? ⟨w.heap.size + 1, 0, none⟩ = some (.slice none 0 0) := HY1.out.at 0 _ rfl; have f0 : w1.frozen? ⟨w.heap.size + 1, 0, none⟩ = false := HY1.out.fr 0 (by decide); have y1 : w1.cell? ⟨w.heap.size + 1, 1, none⟩ = some (.slice none 0 0) := HY1.out.at 1 _ rfl; have f1 : w1.frozen? ⟨w.heap.size + 1, 1, none⟩ = false := HY1.out.fr 1 (by decide); have y2 : w1.cell? ⟨w.heap.size + 1, 2, none⟩ = some (.slice none 0 0) := HY1.out.at 2 _ rfl; have f2 : w1.frozen? ⟨w.heap.size + 1, 2, none⟩ = false := HY1.out.fr 2 (by decide); clear hg CK))
    have HP := HY1.out.all [.slice none 0 0, .slice none 0 0, .slice none 0 0] rfl
    have HGP := grew_put (w.heap.size + 1) (by show w.heap.size ≤ _; omega) [.slice none 0 0, .slice none 0 0, .slice none 0 0] 0 _ HG1.out
    change bodyPost _ _ _ _ _ (putC w1 (w.heap.size + 1) 0 [.slice none 0 0, .slice none 0 0, .slice none 0 0])
    generalize putC w1 (w.heap.size + 1) 0 [.slice none 0 0, .slice none 0 0, .slice none 0 0] = w9 at *
    have z0 : w9.cell? ⟨w.heap.size + 1, 0, none⟩ = _ := HP.at 0 _ rfl
    have z1 : w9.cell? ⟨w.heap.size + 1, 1, none⟩ = _ := HP.at 1 _ rfl
    have z2 : w9.cell? ⟨w.heap.size + 1, 2, none⟩ = _ := HP.at 2 _ rfl
    refine bodyPost_ret (v := .tuple #[.agg #[.slice none 0 0, .slice none 0 0, .slice none 0 0], .int .i64 14]) (by simp [results, Try.results37, go_sem, z0, z1, z2]) rfl ?_
    exact ⟨none, none, none, 0, 0, 0, rfl, own3_nil _ _, HGP⟩
end Go.Proofs.Ytnbgbfbiieimgaa.NumK
