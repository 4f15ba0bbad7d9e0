/- roll.Hold. -/
import Derived.Test.YtnbgbfbiieimgaaRH
import Derived.Test.YtnbgbfbiieimgaaRI
import Derived.Test.YtnbgbfbiieimgaaRJ
import Derived.Test.YtnbgbfbiieimgaaRK
import Derived.Deep.CutBlock
namespace Go.Proofs.Ytnbgbfbiieimgaa.NumK
open Go.RowKit
set_option linter.unusedVariables false

set_option maxRecDepth 100000 in
set_option maxHeartbeats 4000000 in
theorem hold_any (r : Rl) (i : As) (A1 A2 A3 : Option Addr) (n1 n2 n3 c1 c2 c3 : Nat) (w : World) (h : In3 w r A1 A2 A3 n1 n2 n3 c1 c2 c3) (hn : n1 ≤ 1000000 ∧ n2 ≤ 1000000 ∧ n3 ≤ 1000000) :
    Calls Try.prog 35 #[rlV A1 A2 A3 n1 n2 n3 c1 c2 c3, vAs i] w (RollE (holdP r i).1 (holdP r i).2 w) := by
  obtain ⟨q1, q2, q3, q4⟩ := i
  dsimp only [vAs]
  have HI := Lib.hid h
  have CK := fun w' (g : Grew w w') => check_any r A1 A2 A3 n1 n2 n3 c1 c2 c3 w' (h.rows.keep g) hn
  dsimp only [rlV] at CK ⊢
  have CR := fun w => rightAsset_any (q1, q2, q3, q4) w
  have CM := fun w' (g : Grew w w') => pfindAs_any A1 A2 A3 n1 n2 n3 c1 c2 c3 r.2.2 q1 w' (h.rows.h.keep g) hn.2.2 (fun w hh => firstAs_any A3 n3 c3 r.2.2 q1 w hh hn.2.2)
  dsimp only [vAs] at CR CM
  have HSHO : Hid (rightR r = true → n1 ≤ 16 ∧ n2 ≤ 8 ∧ n3 ≤ 6) := fun e => (by have := right_short e; rw [h.rows.m.len, h.rows.i.len, h.rows.h.len] at this; exact this)
  have HSL : Hid (r.1.length = n1 ∧ r.2.1.length = n2 ∧ r.2.2.length = n3) := ⟨h.rows.m.len, h.rows.i.len, h.rows.h.len⟩
  clear h
  by_cases hr : rightR r = true
  · have HSH := Lib.hid (HSHO.out hr)
    have HRI := Lib.hid (right_rise hr)
    rw [chkV_yes hr] at CK
    have HBB : holdB r (q1, q2, q3, q4) = (!okAs (q1, q2, q3, q4) || (hasL noAs r.2.2 q1 && decide ((findL noAs as0 r.2.2 q1).2.1 ≠ q2))) := rfl
    obtain ⟨p, hp⟩ : ∃ p, p = findL noAs as0 r.2.2 q1 := ⟨_, rfl⟩
    obtain ⟨p1, p2, p3, p4⟩ := p
    rw [← hp] at CM HBB
    clear hp
    dsimp only at CM HBB
    by_cases hm : okAs (q1, q2, q3, q4) = true
    · rw [hm] at CR HBB
      by_cases hh : hasL noAs r.2.2 q1 = true
      · rw [hh] at CM HBB
        by_cases hpq : p2 = q2
        · have hB : ¬ holdB r (q1, q2, q3, q4) = true := by rw [HBB, hpq]; simp
          have hpq2 : (p2 == q2) = true := by simpa using hpq
          subst hpq
          clear HBB
          rw [show holdP r (q1, p2, q3, q4) = ((r.1, r.2.1, putL noAs r.2.2 (q1, p2, q3, q4)), 0) by unfold holdP; rw [if_pos hr, if_neg hB]]
          go_enter Try.func35, Try.ntmps35
          go_upto_region 1 with fail
          have HGI : Hid (Grew w (((w.alloc (.cells #[.slice A1 n1 c1, .slice A2 n2 c2, .slice A3 n3 c3] 26)).alloc (.cells #[.int .i64 q1, .int .i64 p2, .int .i64 q3, .int .i64 q4] 42)).alloc (.cells #[.slice none 0 0, .slice none 0 0, .slice none 0 0] 26))) := grew_trans (grew_trans (grew_alloc _ _ _) (grew_alloc _ _ _)) (grew_alloc _ _ _)
          have HX0 : Hid (OwnC (((w.alloc (.cells #[.slice A1 n1 c1, .slice A2 n2 c2, .slice A3 n3 c3] 26)).alloc (.cells #[.int .i64 q1, .int .i64 p2, .int .i64 q3, .int .i64 q4] 42)).alloc (.cells #[.slice none 0 0, .slice none 0 0, .slice none 0 0] 26)) w.heap.size [.slice A1 n1 c1, .slice A2 n2 c2, .slice A3 n3 c3]) := ((OwnC.new w [.slice A1 n1 c1, .slice A2 n2 c2, .slice A3 n3 c3] _ _ rfl).keep (grew_alloc _ _ _)).keep (grew_alloc _ _ _)
          have HY0 : Hid (OwnC (((w.alloc (.cells #[.slice A1 n1 c1, .slice A2 n2 c2, .slice A3 n3 c3] 26)).alloc (.cells #[.int .i64 q1, .int .i64 p2, .int .i64 q3, .int .i64 q4] 42)).alloc (.cells #[.slice none 0 0, .slice none 0 0, .slice none 0 0] 26)) (w.heap.size + 1 + 1) [.slice none 0 0, .slice none 0 0, .slice none 0 0]) := OwnC.new _ [.slice none 0 0, .slice none 0 0, .slice none 0 0] _ _ (by simp)
          have HM0 : Hid (OwnC (((w.alloc (.cells #[.slice A1 n1 c1, .slice A2 n2 c2, .slice A3 n3 c3] 26)).alloc (.cells #[.int .i64 q1, .int .i64 p2, .int .i64 q3, .int .i64 q4] 42)).alloc (.cells #[.slice none 0 0, .slice none 0 0, .slice none 0 0] 26)) (w.heap.size + 1) [.int .i64 q1, .int .i64 p2, .int .i64 q3, .int .i64 q4]) := (OwnC.new _ [.int .i64 q1, .int .i64 p2, .int .i64 q3, .int .i64 q4] _ _ (by simp)).keep (grew_alloc _ _ _)
          generalize (((w.alloc (.cells #[.slice A1 n1 c1, .slice A2 n2 c2, .slice A3 n3 c3] 26)).alloc (.cells #[.int .i64 q1, .int .i64 p2, .int .i64 q3, .int .i64 q4] 42)).alloc (.cells #[.slice none 0 0, .slice none 0 0, .slice none 0 0] 26)) = w0 at *
          have x0 : w0.cell? ⟨w.heap.size, 0, none⟩ = some (.slice A1 n1 c1) := HX0.out.at 0 _ rfl
          have x1 : w0.cell? ⟨w.heap.size, 1, none⟩ = some (.slice A2 n2 c2) := HX0.out.at 1 _ rfl
          have x2 : w0.cell? ⟨w.heap.size, 2, none⟩ = some (.slice A3 n3 c3) := HX0.out.at 2 _ rfl
          go_upto_region 5 with (first
            | (go_at_call 11; ((with_reducible refine (CK _ HGI.out).mono ?_); rintro e w1 ⟨rfl, hg⟩; have HX1 := Lib.hid (HX0.out.keep hg); have HY1 := Lib.hid (HY0.out.keep hg); have HG1 := Lib.hid (grew_trans HGI.out hg); have HM1 := Lib.hid (HM0.out.keep hg); have k0 : w1.cell? ⟨w.heap.size + 1, 0, none⟩ = some (.int .i64 q1) := HM1.out.at 0 _ rfl; have x0 : w1.cell? ⟨w.heap.size, 0, none⟩ = some (.slice A1 n1 c1) := HX1.out.at 0 _ rfl; have x1 : w1.cell? ⟨w.heap.size, 1, none⟩ = some (.slice A2 n2 c2) := HX1.out.at 1 _ rfl; have x2 : w1.cell? ⟨w.heap.size, 2, none⟩ = some (.slice A3 n3 c3) := HX1.out.at 2 _ rfl; clear hg CK))
            | (go_at_call 17; ((with_reducible refine (CM _ HG1.out).mono ?_); rintro e w2 ⟨rfl, hg⟩; have HX2 : Hid (OwnC (w2.alloc (.cells #[.int .i64 p1, .int .i64 p2, .int .i64 p3, .int .i64 p4] 42)) w.heap.size [.slice A1 n1 c1, .slice A2 n2 c2, .slice A3 n3 c3]) := (HX1.out.keep hg).keep (grew_alloc _ _ _); have HY2 : Hid (OwnC (w2.alloc (.cells #[.int .i64 p1, .int .i64 p2, .int .i64 p3, .int .i64 p4] 42)) (w.heap.size + 1 + 1) [.slice none 0 0, .slice none 0 0, .slice none 0 0]) := (HY1.out.keep hg).keep (grew_alloc _ _ _); have HM2 : Hid (OwnC (w2.alloc (.cells #[.int .i64 p1, .int .i64 p2, .int .i64 p3, .int .i64 p4] 42)) (w.heap.size + 1) [.int .i64 q1, .int .i64 p2, .int .i64 q3, .int .i64 q4]) := (HM1.out.keep hg).keep (grew_alloc _ _ _); have HP2 : Hid (OwnC (w2.alloc (.cells #[.int .i64 p1, .int .i64 p2, .int .i64 p3, .int .i64 p4] 42)) w2.heap.size [.int .i64 p1, .int .i64 p2, .int .i64 p3, .int .i64 p4]) := OwnC.new w2 [.int .i64 p1, .int .i64 p2, .int .i64 p3, .int .i64 p4] _ _ rfl; have HG2 : Hid (Grew w (w2.alloc (.cells #[.int .i64 p1, .int .i64 p2, .int .i64 p3, .int .i64 p4] 42))) := grew_trans (grew_trans HG1.out hg) (grew_alloc _ _ _); clear hg CM)))
          clear k0 x0 x1 x2
          generalize (w2.alloc (.cells #[.int .i64 p1, .int .i64 p2, .int .i64 p3, .int .i64 p4] 42)) = wa at *
          have m0 : wa.cell? ⟨w.heap.size + 1, 0, none⟩ = some (.int .i64 q1) := HM2.out.at 0 _ rfl
          have m1 : wa.cell? ⟨w.heap.size + 1, 1, none⟩ = some (.int .i64 p2) := HM2.out.at 1 _ rfl
          have m2 : wa.cell? ⟨w.heap.size + 1, 2, none⟩ = some (.int .i64 q3) := HM2.out.at 2 _ rfl
          have m3 : wa.cell? ⟨w.heap.size + 1, 3, none⟩ = some (.int .i64 q4) := HM2.out.at 3 _ rfl
          have p_0 : wa.cell? ⟨w2.heap.size, 0, none⟩ = some (.int .i64 p1) := HP2.out.at 0 _ rfl
          have p_1 : wa.cell? ⟨w2.heap.size, 1, none⟩ = some (.int .i64 p2) := HP2.out.at 1 _ rfl
          have p_2 : wa.cell? ⟨w2.heap.size, 2, none⟩ = some (.int .i64 p3) := HP2.out.at 2 _ rfl
          have p_3 : wa.cell? ⟨w2.heap.size, 3, none⟩ = some (.int .i64 p4) := HP2.out.at 3 _ rfl
          go_upto_region 7 with (go_at_call 52; ((with_reducible refine (CR _).mono ?_); rintro e w3 ⟨rfl, hg⟩; have HX3 := Lib.hid (HX2.out.keep hg); have HY3 := Lib.hid (HY2.out.keep hg); have HM3 := Lib.hid (HM2.out.keep hg); have HG3 := Lib.hid (grew_trans HG2.out hg); have y0 : w3.cell? ⟨w.heap.size + 1 + 1, 0, none⟩ = some (.slice none 0 0) := HY3.out.at 0 _ rfl; have f0 : w3.frozen? ⟨w.heap.size + 1 + 1, 0, none⟩ = false := HY3.out.fr 0 (by decide); have y1 : w3.cell? ⟨w.heap.size + 1 + 1, 1, none⟩ = some (.slice none 0 0) := HY3.out.at 1 _ rfl; have f1 : w3.frozen? ⟨w.heap.size + 1 + 1, 1, none⟩ = false := HY3.out.fr 1 (by decide); have y2 : w3.cell? ⟨w.heap.size + 1 + 1, 2, none⟩ = some (.slice none 0 0) := HY3.out.at 2 _ rfl; have f2 : w3.frozen? ⟨w.heap.size + 1 + 1, 2, none⟩ = false := HY3.out.fr 2 (by decide); have r1 : w3.cell? ⟨w.heap.size + 1, 1, none⟩ = some (.int .i64 p2) := HM3.out.at 1 _ rfl; have r2 : w3.cell? ⟨w2.heap.size, 1, none⟩ = some (.int .i64 p2) := (HP2.out.keep hg).at 1 _ rfl; clear hg CR))
          have HXx := HX3
          have HYx := HY3
          have HGx := HG3
          have HMx := HM3
          clear m0 m1 m2 m3 p_0 p_1 p_2 p_3
          generalize w3 = wx at *
          have x2 : wx.cell? ⟨w.heap.size, 2, none⟩ = some (.slice A3 n3 c3) := HXx.out.at 2 _ rfl
          have m0 : wx.cell? ⟨w.heap.size + 1, 0, none⟩ = some (.int .i64 q1) := HMx.out.at 0 _ rfl
          have m1 : wx.cell? ⟨w.heap.size + 1, 1, none⟩ = some (.int .i64 p2) := HMx.out.at 1 _ rfl
          have m2 : wx.cell? ⟨w.heap.size + 1, 2, none⟩ = some (.int .i64 q3) := HMx.out.at 2 _ rfl
          have m3 : wx.cell? ⟨w.heap.size + 1, 3, none⟩ = some (.int .i64 q4) := HMx.out.at 3 _ rfl
          have CP := putAs_any A3 n3 c3 r.2.2 (q1, p2, q3, q4) wx (HI.out.rows.h.keep HGx.out) HI.out.k3 HRI.out.2.2 HI.out.l3.1 HI.out.l3.2 (by have := HSH.out; omega)
          dsimp only [vAs, noVAs] at CP
          have HWN : Hid (w.heap.size < wx.heap.size) := HXx.out.lt
          go_upto_region 8 with (go_at_call 63; ((with_reducible refine CP.mono ?_); rintro e w4 ⟨v, rfl, ho, hg⟩; obtain ⟨B, d, rfl, -⟩ := ho.form; have HX4 := Lib.hid (HXx.out.keep hg); have HY4 := Lib.hid (HYx.out.keep hg); have HG4 := Lib.hid (grew_trans HGx.out hg); have xq : w4.cell? ⟨w.heap.size, 2, none⟩ = some (.slice A3 n3 c3) := HX4.out.at 2 _ rfl; have fq : w4.frozen? ⟨w.heap.size, 2, none⟩ = false := HX4.out.fr 2 (by show 2 < 3; omega); have HO4 := Lib.hid ho; clear ho hg CP))
          have HX5 : Hid (OwnC (w4.setCell ⟨w.heap.size, 2, none⟩ (.slice B (putL noAs r.2.2 (q1, p2, q3, q4)).length d)) w.heap.size [.slice A1 n1 c1, .slice A2 n2 c2, .slice B (putL noAs r.2.2 (q1, p2, q3, q4)).length d]) := HX4.out.set 2 (.slice B (putL noAs r.2.2 (q1, p2, q3, q4)).length d) (by show 2 < 3; omega)
          have HY5 : Hid (OwnC (w4.setCell ⟨w.heap.size, 2, none⟩ (.slice B (putL noAs r.2.2 (q1, p2, q3, q4)).length d)) (w.heap.size + 1 + 1) [.slice none 0 0, .slice none 0 0, .slice none 0 0]) := HY4.out.other _ _ (by show w.heap.size ≠ _; omega)
          have HG5 : Hid (Grew w (w4.setCell ⟨w.heap.size, 2, none⟩ (.slice B (putL noAs r.2.2 (q1, p2, q3, q4)).length d))) := grew_set HG4.out _ (Nat.le_refl _)
          have HO5 := Lib.hid (HO4.out.set w.heap.size 2 (.slice B (putL noAs r.2.2 (q1, p2, q3, q4)).length d) HWN.out)
          generalize (w4.setCell ⟨w.heap.size, 2, none⟩ (.slice B (putL noAs r.2.2 (q1, p2, q3, q4)).length d)) = w5 at *
          have HI5 : Hid (In3 w5 (r.1, r.2.1, (putL noAs r.2.2 (q1, p2, q3, q4))) A1 A2 B n1 n2 (putL noAs r.2.2 (q1, p2, q3, q4)).length c1 c2 d) := ⟨⟨HI.out.rows.m.keep HG5.out, HI.out.rows.i.keep HG5.out, (own_form HO5.out).1⟩, HI.out.k1, HI.out.k2, (own_form HO5.out).2.1, HI.out.l1, HI.out.l2, (own_form HO5.out).2.2⟩
          have CC := copied_any (r.1, r.2.1, (putL noAs r.2.2 (q1, p2, q3, q4))) A1 A2 B n1 n2 (putL noAs r.2.2 (q1, p2, q3, q4)).length c1 c2 d w5 HI5.out (by have := HSH.out; have := HSL.out; have := put_len_le noAs r.2.2 (q1, p2, q3, q4); refine ⟨?_, ?_, ?_⟩ <;> omega)
          dsimp only [rlV] at CC
          have x0 : w5.cell? ⟨w.heap.size, 0, none⟩ = some (.slice A1 n1 c1) := HX5.out.at 0 _ rfl
          have x1 : w5.cell? ⟨w.heap.size, 1, none⟩ = some (.slice A2 n2 c2) := HX5.out.at 1 _ rfl
          have x2 : w5.cell? ⟨w.heap.size, 2, none⟩ = some (.slice B (putL noAs r.2.2 (q1, p2, q3, q4)).length d) := HX5.out.at 2 _ rfl
          have HWS5 : Hid (w.heap.size ≤ w5.heap.size) := HG5.out.size
          go_wp2_with (go_at_call 59; ((with_reducible refine CC.mono ?_); rintro e w6 ⟨D1, D2, D3, g1, g2, g3, rfl, ⟨ho, -⟩, hg⟩; dsimp only [rlV]; have HO6 := Lib.hid ho; have HY6 := Lib.hid (HY5.out.keep hg); have HG6 := Lib.hid (grew_trans HG5.out hg); have HRN : Hid (w.heap.size + 1 + 1 < w5.heap.size) := HY5.out.lt; have y0 : w6.cell? ⟨w.heap.size + 1 + 1, 0, none⟩ = some (.slice none 0 0) := HY6.out.at 0 _ rfl; have f0 : w6.frozen? ⟨w.heap.size + 1 + 1, 0, none⟩ = false := HY6.out.fr 0 (by decide); have y1 : w6.cell? ⟨w.heap.size + 1 + 1, 1, none⟩ = some (.slice none 0 0) := HY6.out.at 1 _ rfl; have f1 : w6.frozen? ⟨w.heap.size + 1 + 1, 1, none⟩ = false := HY6.out.fr 1 (by decide); have y2 : w6.cell? ⟨w.heap.size + 1 + 1, 2, none⟩ = some (.slice none 0 0) := HY6.out.at 2 _ rfl; have f2 : w6.frozen? ⟨w.heap.size + 1 + 1, 2, none⟩ = false := HY6.out.fr 2 (by decide); clear ho hg CC))
          have HP := HY6.out.all [Value.slice D1 r.1.length g1, .slice D2 r.2.1.length g2, .slice D3 (putL noAs r.2.2 (q1, p2, q3, q4)).length g3] rfl
          have HGP := grew_put (w.heap.size + 1 + 1) (by show w.heap.size ≤ _; omega) [Value.slice D1 r.1.length g1, .slice D2 r.2.1.length g2, .slice D3 (putL noAs r.2.2 (q1, p2, q3, q4)).length g3] 0 _ HG6.out
          have hb : w.heap.size + 1 + 1 < w5.heap.size + 2 := Nat.lt_of_lt_of_le HRN.out (Nat.le_add_right _ _)
          have Q1 := OwnE.put hb [Value.slice D1 r.1.length g1, .slice D2 r.2.1.length g2, .slice D3 (putL noAs r.2.2 (q1, p2, q3, q4)).length g3] 0 _ HO6.out.m
          have Q2 := OwnE.put hb [Value.slice D1 r.1.length g1, .slice D2 r.2.1.length g2, .slice D3 (putL noAs r.2.2 (q1, p2, q3, q4)).length g3] 0 _ HO6.out.i
          have Q3 := OwnE.put hb [Value.slice D1 r.1.length g1, .slice D2 r.2.1.length g2, .slice D3 (putL noAs r.2.2 (q1, p2, q3, q4)).length g3] 0 _ HO6.out.h
          change bodyPost _ _ _ _ _ (putC w6 (w.heap.size + 1 + 1) 0 [.slice D1 r.1.length g1, .slice D2 r.2.1.length g2, .slice D3 (putL noAs r.2.2 (q1, p2, q3, q4)).length g3])
          generalize putC w6 (w.heap.size + 1 + 1) 0 [.slice D1 r.1.length g1, .slice D2 r.2.1.length g2, .slice D3 (putL noAs r.2.2 (q1, p2, q3, q4)).length g3] = w9 at *
          have z0 : w9.cell? ⟨w.heap.size + 1 + 1, 0, none⟩ = _ := HP.at 0 _ rfl
          have z1 : w9.cell? ⟨w.heap.size + 1 + 1, 1, none⟩ = _ := HP.at 1 _ rfl
          have z2 : w9.cell? ⟨w.heap.size + 1 + 1, 2, none⟩ = _ := HP.at 2 _ rfl
          have HLE : w.heap.size ≤ w5.heap.size + 2 := Nat.le_trans HWS5.out (Nat.le_add_right _ _)
          refine bodyPost_ret (v := .tuple #[.agg #[.slice D1 r.1.length g1, .slice D2 r.2.1.length g2, .slice D3 (putL noAs r.2.2 (q1, p2, q3, q4)).length g3], .int .i64 0]) (by simp [results, Try.results35, go_sem, z0, z1, z2]) rfl ?_
          exact ⟨D1, D2, D3, g1, g2, g3, rfl, ⟨Q1.mono HLE, Q2.mono HLE, Q3.mono HLE⟩, HGP⟩
        · have hB : holdB r (q1, q2, q3, q4) = true := by rw [HBB, decide_eq_true hpq]; rfl
          have hpq2 : (p2 == q2) = false := by simpa using hpq
          clear HBB
          rw [show holdP r (q1, q2, q3, q4) = (rl0, 3) by unfold holdP; rw [if_pos hr, if_pos hB]]
          go_enter Try.func35, Try.ntmps35
          go_upto_region 1 with fail
          have HGI : Hid (Grew w (((w.alloc (.cells #[.slice A1 n1 c1, .slice A2 n2 c2, .slice A3 n3 c3] 26)).alloc (.cells #[.int .i64 q1, .int .i64 q2, .int .i64 q3, .int .i64 q4] 42)).alloc (.cells #[.slice none 0 0, .slice none 0 0, .slice none 0 0] 26))) := grew_trans (grew_trans (grew_alloc _ _ _) (grew_alloc _ _ _)) (grew_alloc _ _ _)
          have HX0 : Hid (OwnC (((w.alloc (.cells #[.slice A1 n1 c1, .slice A2 n2 c2, .slice A3 n3 c3] 26)).alloc (.cells #[.int .i64 q1, .int .i64 q2, .int .i64 q3, .int .i64 q4] 42)).alloc (.cells #[.slice none 0 0, .slice none 0 0, .slice none 0 0] 26)) w.heap.size [.slice A1 n1 c1, .slice A2 n2 c2, .slice A3 n3 c3]) := ((OwnC.new w [.slice A1 n1 c1, .slice A2 n2 c2, .slice A3 n3 c3] _ _ rfl).keep (grew_alloc _ _ _)).keep (grew_alloc _ _ _)
          have HY0 : Hid (OwnC (((w.alloc (.cells #[.slice A1 n1 c1, .slice A2 n2 c2, .slice A3 n3 c3] 26)).alloc (.cells #[.int .i64 q1, .int .i64 q2, .int .i64 q3, .int .i64 q4] 42)).alloc (.cells #[.slice none 0 0, .slice none 0 0, .slice none 0 0] 26)) (w.heap.size + 1 + 1) [.slice none 0 0, .slice none 0 0, .slice none 0 0]) := OwnC.new _ [.slice none 0 0, .slice none 0 0, .slice none 0 0] _ _ (by simp)
          have HM0 : Hid (OwnC (((w.alloc (.cells #[.slice A1 n1 c1, .slice A2 n2 c2, .slice A3 n3 c3] 26)).alloc (.cells #[.int .i64 q1, .int .i64 q2, .int .i64 q3, .int .i64 q4] 42)).alloc (.cells #[.slice none 0 0, .slice none 0 0, .slice none 0 0] 26)) (w.heap.size + 1) [.int .i64 q1, .int .i64 q2, .int .i64 q3, .int .i64 q4]) := (OwnC.new _ [.int .i64 q1, .int .i64 q2, .int .i64 q3, .int .i64 q4] _ _ (by simp)).keep (grew_alloc _ _ _)
          generalize (((w.alloc (.cells #[.slice A1 n1 c1, .slice A2 n2 c2, .slice A3 n3 c3] 26)).alloc (.cells #[.int .i64 q1, .int .i64 q2, .int .i64 q3, .int .i64 q4] 42)).alloc (.cells #[.slice none 0 0, .slice none 0 0, .slice none 0 0] 26)) = w0 at *
          have x0 : w0.cell? ⟨w.heap.size, 0, none⟩ = some (.slice A1 n1 c1) := HX0.out.at 0 _ rfl
          have x1 : w0.cell? ⟨w.heap.size, 1, none⟩ = some (.slice A2 n2 c2) := HX0.out.at 1 _ rfl
          have x2 : w0.cell? ⟨w.heap.size, 2, none⟩ = some (.slice A3 n3 c3) := HX0.out.at 2 _ rfl
          go_upto_region 5 with (first
            | (go_at_call 11; ((with_reducible refine (CK _ HGI.out).mono ?_); rintro e w1 ⟨rfl, hg⟩; have HX1 := Lib.hid (HX0.out.keep hg); have HY1 := Lib.hid (HY0.out.keep hg); have HG1 := Lib.hid (grew_trans HGI.out hg); have HM1 := Lib.hid (HM0.out.keep hg); have k0 : w1.cell? ⟨w.heap.size + 1, 0, none⟩ = some (.int .i64 q1) := HM1.out.at 0 _ rfl; have x0 : w1.cell? ⟨w.heap.size, 0, none⟩ = some (.slice A1 n1 c1) := HX1.out.at 0 _ rfl; have x1 : w1.cell? ⟨w.heap.size, 1, none⟩ = some (.slice A2 n2 c2) := HX1.out.at 1 _ rfl; have x2 : w1.cell? ⟨w.heap.size, 2, none⟩ = some (.slice A3 n3 c3) := HX1.out.at 2 _ rfl; clear hg CK))
            | (go_at_call 17; ((with_reducible refine (CM _ HG1.out).mono ?_); rintro e w2 ⟨rfl, hg⟩; have HX2 : Hid (OwnC (w2.alloc (.cells #[.int .i64 p1, .int .i64 p2, .int .i64 p3, .int .i64 p4] 42)) w.heap.size [.slice A1 n1 c1, .slice A2 n2 c2, .slice A3 n3 c3]) := (HX1.out.keep hg).keep (grew_alloc _ _ _); have HY2 : Hid (OwnC (w2.alloc (.cells #[.int .i64 p1, .int .i64 p2, .int .i64 p3, .int .i64 p4] 42)) (w.heap.size + 1 + 1) [.slice none 0 0, .slice none 0 0, .slice none 0 0]) := (HY1.out.keep hg).keep (grew_alloc _ _ _); have HM2 : Hid (OwnC (w2.alloc (.cells #[.int .i64 p1, .int .i64 p2, .int .i64 p3, .int .i64 p4] 42)) (w.heap.size + 1) [.int .i64 q1, .int .i64 q2, .int .i64 q3, .int .i64 q4]) := (HM1.out.keep hg).keep (grew_alloc _ _ _); have HP2 : Hid (OwnC (w2.alloc (.cells #[.int .i64 p1, .int .i64 p2, .int .i64 p3, .int .i64 p4] 42)) w2.heap.size [.int .i64 p1, .int .i64 p2, .int .i64 p3, .int .i64 p4]) := OwnC.new w2 [.int .i64 p1, .int .i64 p2, .int .i64 p3, .int .i64 p4] _ _ rfl; have HG2 : Hid (Grew w (w2.alloc (.cells #[.int .i64 p1, .int .i64 p2, .int .i64 p3, .int .i64 p4] 42))) := grew_trans (grew_trans HG1.out hg) (grew_alloc _ _ _); clear hg CM)))
          clear k0 x0 x1 x2
          generalize (w2.alloc (.cells #[.int .i64 p1, .int .i64 p2, .int .i64 p3, .int .i64 p4] 42)) = wa at *
          have m0 : wa.cell? ⟨w.heap.size + 1, 0, none⟩ = some (.int .i64 q1) := HM2.out.at 0 _ rfl
          have m1 : wa.cell? ⟨w.heap.size + 1, 1, none⟩ = some (.int .i64 q2) := HM2.out.at 1 _ rfl
          have m2 : wa.cell? ⟨w.heap.size + 1, 2, none⟩ = some (.int .i64 q3) := HM2.out.at 2 _ rfl
          have m3 : wa.cell? ⟨w.heap.size + 1, 3, none⟩ = some (.int .i64 q4) := HM2.out.at 3 _ rfl
          have p_0 : wa.cell? ⟨w2.heap.size, 0, none⟩ = some (.int .i64 p1) := HP2.out.at 0 _ rfl
          have p_1 : wa.cell? ⟨w2.heap.size, 1, none⟩ = some (.int .i64 p2) := HP2.out.at 1 _ rfl
          have p_2 : wa.cell? ⟨w2.heap.size, 2, none⟩ = some (.int .i64 p3) := HP2.out.at 2 _ rfl
          have p_3 : wa.cell? ⟨w2.heap.size, 3, none⟩ = some (.int .i64 p4) := HP2.out.at 3 _ rfl
          go_wp2_with (go_at_call 52; ((with_reducible refine (CR _).mono ?_); rintro e w3 ⟨rfl, hg⟩; have HX3 := Lib.hid (HX2.out.keep hg); have HY3 := Lib.hid (HY2.out.keep hg); have HM3 := Lib.hid (HM2.out.keep hg); have HG3 := Lib.hid (grew_trans HG2.out hg); have y0 : w3.cell? ⟨w.heap.size + 1 + 1, 0, none⟩ = some (.slice none 0 0) := HY3.out.at 0 _ rfl; have f0 : w3.frozen? ⟨w.heap.size + 1 + 1, 0, none⟩ = false := HY3.out.fr 0 (by decide); have y1 : w3.cell? ⟨w.heap.size + 1 + 1, 1, none⟩ = some (.slice none 0 0) := HY3.out.at 1 _ rfl; have f1 : w3.frozen? ⟨w.heap.size + 1 + 1, 1, none⟩ = false := HY3.out.fr 1 (by decide); have y2 : w3.cell? ⟨w.heap.size + 1 + 1, 2, none⟩ = some (.slice none 0 0) := HY3.out.at 2 _ rfl; have f2 : w3.frozen? ⟨w.heap.size + 1 + 1, 2, none⟩ = false := HY3.out.fr 2 (by decide); have r1 : w3.cell? ⟨w.heap.size + 1, 1, none⟩ = some (.int .i64 q2) := HM3.out.at 1 _ rfl; have r2 : w3.cell? ⟨w2.heap.size, 1, none⟩ = some (.int .i64 p2) := (HP2.out.keep hg).at 1 _ rfl; clear hg CR))
          have HP := HY3.out.all [.slice none 0 0, .slice none 0 0, .slice none 0 0] rfl
          have HGP := grew_put (w.heap.size + 1 + 1) (by show w.heap.size ≤ _; omega) [.slice none 0 0, .slice none 0 0, .slice none 0 0] 0 _ HG3.out
          change bodyPost _ _ _ _ _ (putC w3 (w.heap.size + 1 + 1) 0 [.slice none 0 0, .slice none 0 0, .slice none 0 0])
          generalize putC w3 (w.heap.size + 1 + 1) 0 [.slice none 0 0, .slice none 0 0, .slice none 0 0] = w9 at *
          have z0 : w9.cell? ⟨w.heap.size + 1 + 1, 0, none⟩ = _ := HP.at 0 _ rfl
          have z1 : w9.cell? ⟨w.heap.size + 1 + 1, 1, none⟩ = _ := HP.at 1 _ rfl
          have z2 : w9.cell? ⟨w.heap.size + 1 + 1, 2, none⟩ = _ := HP.at 2 _ rfl
          refine bodyPost_ret (v := .tuple #[.agg #[.slice none 0 0, .slice none 0 0, .slice none 0 0], .int .i64 3]) (by simp [results, Try.results35, go_sem, z0, z1, z2]) rfl ?_
          exact ⟨none, none, none, 0, 0, 0, rfl, own3_nil _ _, HGP⟩
      · rw [Bool.not_eq_true] at hh
        rw [hh] at CM HBB
        have hB : ¬ holdB r (q1, q2, q3, q4) = true := by rw [HBB]; simp
        clear HBB
        rw [show holdP r (q1, q2, q3, q4) = ((r.1, r.2.1, putL noAs r.2.2 (q1, q2, q3, q4)), 0) by unfold holdP; rw [if_pos hr, if_neg hB]]
        go_enter Try.func35, Try.ntmps35
        go_upto_region 1 with fail
        have HGI : Hid (Grew w (((w.alloc (.cells #[.slice A1 n1 c1, .slice A2 n2 c2, .slice A3 n3 c3] 26)).alloc (.cells #[.int .i64 q1, .int .i64 q2, .int .i64 q3, .int .i64 q4] 42)).alloc (.cells #[.slice none 0 0, .slice none 0 0, .slice none 0 0] 26))) := grew_trans (grew_trans (grew_alloc _ _ _) (grew_alloc _ _ _)) (grew_alloc _ _ _)
        have HX0 : Hid (OwnC (((w.alloc (.cells #[.slice A1 n1 c1, .slice A2 n2 c2, .slice A3 n3 c3] 26)).alloc (.cells #[.int .i64 q1, .int .i64 q2, .int .i64 q3, .int .i64 q4] 42)).alloc (.cells #[.slice none 0 0, .slice none 0 0, .slice none 0 0] 26)) w.heap.size [.slice A1 n1 c1, .slice A2 n2 c2, .slice A3 n3 c3]) := ((OwnC.new w [.slice A1 n1 c1, .slice A2 n2 c2, .slice A3 n3 c3] _ _ rfl).keep (grew_alloc _ _ _)).keep (grew_alloc _ _ _)
        have HY0 : Hid (OwnC (((w.alloc (.cells #[.slice A1 n1 c1, .slice A2 n2 c2, .slice A3 n3 c3] 26)).alloc (.cells #[.int .i64 q1, .int .i64 q2, .int .i64 q3, .int .i64 q4] 42)).alloc (.cells #[.slice none 0 0, .slice none 0 0, .slice none 0 0] 26)) (w.heap.size + 1 + 1) [.slice none 0 0, .slice none 0 0, .slice none 0 0]) := OwnC.new _ [.slice none 0 0, .slice none 0 0, .slice none 0 0] _ _ (by simp)
        have HM0 : Hid (OwnC (((w.alloc (.cells #[.slice A1 n1 c1, .slice A2 n2 c2, .slice A3 n3 c3] 26)).alloc (.cells #[.int .i64 q1, .int .i64 q2, .int .i64 q3, .int .i64 q4] 42)).alloc (.cells #[.slice none 0 0, .slice none 0 0, .slice none 0 0] 26)) (w.heap.size + 1) [.int .i64 q1, .int .i64 q2, .int .i64 q3, .int .i64 q4]) := (OwnC.new _ [.int .i64 q1, .int .i64 q2, .int .i64 q3, .int .i64 q4] _ _ (by simp)).keep (grew_alloc _ _ _)
        generalize (((w.alloc (.cells #[.slice A1 n1 c1, .slice A2 n2 c2, .slice A3 n3 c3] 26)).alloc (.cells #[.int .i64 q1, .int .i64 q2, .int .i64 q3, .int .i64 q4] 42)).alloc (.cells #[.slice none 0 0, .slice none 0 0, .slice none 0 0] 26)) = w0 at *
        have x0 : w0.cell? ⟨w.heap.size, 0, none⟩ = some (.slice A1 n1 c1) := HX0.out.at 0 _ rfl
        have x1 : w0.cell? ⟨w.heap.size, 1, none⟩ = some (.slice A2 n2 c2) := HX0.out.at 1 _ rfl
        have x2 : w0.cell? ⟨w.heap.size, 2, none⟩ = some (.slice A3 n3 c3) := HX0.out.at 2 _ rfl
        go_upto_region 5 with (first
          | (go_at_call 11; ((with_reducible refine (CK _ HGI.out).mono ?_); rintro e w1 ⟨rfl, hg⟩; have HX1 := Lib.hid (HX0.out.keep hg); have HY1 := Lib.hid (HY0.out.keep hg); have HG1 := Lib.hid (grew_trans HGI.out hg); have HM1 := Lib.hid (HM0.out.keep hg); have k0 : w1.cell? ⟨w.heap.size + 1, 0, none⟩ = some (.int .i64 q1) := HM1.out.at 0 _ rfl; have x0 : w1.cell? ⟨w.heap.size, 0, none⟩ = some (.slice A1 n1 c1) := HX1.out.at 0 _ rfl; have x1 : w1.cell? ⟨w.heap.size, 1, none⟩ = some (.slice A2 n2 c2) := HX1.out.at 1 _ rfl; have x2 : w1.cell? ⟨w.heap.size, 2, none⟩ = some (.slice A3 n3 c3) := HX1.out.at 2 _ rfl; clear hg CK))
          | (go_at_call 17; ((with_reducible refine (CM _ HG1.out).mono ?_); rintro e w2 ⟨rfl, hg⟩; have HX2 : Hid (OwnC (w2.alloc (.cells #[.int .i64 p1, .int .i64 p2, .int .i64 p3, .int .i64 p4] 42)) w.heap.size [.slice A1 n1 c1, .slice A2 n2 c2, .slice A3 n3 c3]) := (HX1.out.keep hg).keep (grew_alloc _ _ _); have HY2 : Hid (OwnC (w2.alloc (.cells #[.int .i64 p1, .int .i64 p2, .int .i64 p3, .int .i64 p4] 42)) (w.heap.size + 1 + 1) [.slice none 0 0, .slice none 0 0, .slice none 0 0]) := (HY1.out.keep hg).keep (grew_alloc _ _ _); have HM2 : Hid (OwnC (w2.alloc (.cells #[.int .i64 p1, .int .i64 p2, .int .i64 p3, .int .i64 p4] 42)) (w.heap.size + 1) [.int .i64 q1, .int .i64 q2, .int .i64 q3, .int .i64 q4]) := (HM1.out.keep hg).keep (grew_alloc _ _ _); have HP2 : Hid (OwnC (w2.alloc (.cells #[.int .i64 p1, .int .i64 p2, .int .i64 p3, .int .i64 p4] 42)) w2.heap.size [.int .i64 p1, .int .i64 p2, .int .i64 p3, .int .i64 p4]) := OwnC.new w2 [.int .i64 p1, .int .i64 p2, .int .i64 p3, .int .i64 p4] _ _ rfl; have HG2 : Hid (Grew w (w2.alloc (.cells #[.int .i64 p1, .int .i64 p2, .int .i64 p3, .int .i64 p4] 42))) := grew_trans (grew_trans HG1.out hg) (grew_alloc _ _ _); clear hg CM)))
        clear k0 x0 x1 x2
        generalize (w2.alloc (.cells #[.int .i64 p1, .int .i64 p2, .int .i64 p3, .int .i64 p4] 42)) = wa at *
        have m0 : wa.cell? ⟨w.heap.size + 1, 0, none⟩ = some (.int .i64 q1) := HM2.out.at 0 _ rfl
        have m1 : wa.cell? ⟨w.heap.size + 1, 1, none⟩ = some (.int .i64 q2) := HM2.out.at 1 _ rfl
        have m2 : wa.cell? ⟨w.heap.size + 1, 2, none⟩ = some (.int .i64 q3) := HM2.out.at 2 _ rfl
        have m3 : wa.cell? ⟨w.heap.size + 1, 3, none⟩ = some (.int .i64 q4) := HM2.out.at 3 _ rfl
        have p_0 : wa.cell? ⟨w2.heap.size, 0, none⟩ = some (.int .i64 p1) := HP2.out.at 0 _ rfl
        have p_1 : wa.cell? ⟨w2.heap.size, 1, none⟩ = some (.int .i64 p2) := HP2.out.at 1 _ rfl
        have p_2 : wa.cell? ⟨w2.heap.size, 2, none⟩ = some (.int .i64 p3) := HP2.out.at 2 _ rfl
        have p_3 : wa.cell? ⟨w2.heap.size, 3, none⟩ = some (.int .i64 p4) := HP2.out.at 3 _ rfl
        go_upto_region 7 with (go_at_call 52; ((with_reducible refine (CR _).mono ?_); rintro e w3 ⟨rfl, hg⟩; have HX3 := Lib.hid (HX2.out.keep hg); have HY3 := Lib.hid (HY2.out.keep hg); have HM3 := Lib.hid (HM2.out.keep hg); have HG3 := Lib.hid (grew_trans HG2.out hg); have y0 : w3.cell? ⟨w.heap.size + 1 + 1, 0, none⟩ = some (.slice none 0 0) := HY3.out.at 0 _ rfl; have f0 : w3.frozen? ⟨w.heap.size + 1 + 1, 0, none⟩ = false := HY3.out.fr 0 (by decide); have y1 : w3.cell? ⟨w.heap.size + 1 + 1, 1, none⟩ = some (.slice none 0 0) := HY3.out.at 1 _ rfl; have f1 : w3.frozen? ⟨w.heap.size + 1 + 1, 1, none⟩ = false := HY3.out.fr 1 (by decide); have y2 : w3.cell? ⟨w.heap.size + 1 + 1, 2, none⟩ = some (.slice none 0 0) := HY3.out.at 2 _ rfl; have f2 : w3.frozen? ⟨w.heap.size + 1 + 1, 2, none⟩ = false := HY3.out.fr 2 (by decide); have r1 : w3.cell? ⟨w.heap.size + 1, 1, none⟩ = some (.int .i64 q2) := HM3.out.at 1 _ rfl; have r2 : w3.cell? ⟨w2.heap.size, 1, none⟩ = some (.int .i64 p2) := (HP2.out.keep hg).at 1 _ rfl; clear hg CR))
        have HXx := HX3
        have HYx := HY3
        have HGx := HG3
        have HMx := HM3
        clear m0 m1 m2 m3 p_0 p_1 p_2 p_3
        generalize w3 = wx at *
        have x2 : wx.cell? ⟨w.heap.size, 2, none⟩ = some (.slice A3 n3 c3) := HXx.out.at 2 _ rfl
        have m0 : wx.cell? ⟨w.heap.size + 1, 0, none⟩ = some (.int .i64 q1) := HMx.out.at 0 _ rfl
        have m1 : wx.cell? ⟨w.heap.size + 1, 1, none⟩ = some (.int .i64 q2) := HMx.out.at 1 _ rfl
        have m2 : wx.cell? ⟨w.heap.size + 1, 2, none⟩ = some (.int .i64 q3) := HMx.out.at 2 _ rfl
        have m3 : wx.cell? ⟨w.heap.size + 1, 3, none⟩ = some (.int .i64 q4) := HMx.out.at 3 _ rfl
        have CP := putAs_any A3 n3 c3 r.2.2 (q1, q2, q3, q4) wx (HI.out.rows.h.keep HGx.out) HI.out.k3 HRI.out.2.2 HI.out.l3.1 HI.out.l3.2 (by have := HSH.out; omega)
        dsimp only [vAs, noVAs] at CP
        have HWN : Hid (w.heap.size < wx.heap.size) := HXx.out.lt
        go_upto_region 8 with (go_at_call 63; ((with_reducible refine CP.mono ?_); rintro e w4 ⟨v, rfl, ho, hg⟩; obtain ⟨B, d, rfl, -⟩ := ho.form; have HX4 := Lib.hid (HXx.out.keep hg); have HY4 := Lib.hid (HYx.out.keep hg); have HG4 := Lib.hid (grew_trans HGx.out hg); have xq : w4.cell? ⟨w.heap.size, 2, none⟩ = some (.slice A3 n3 c3) := HX4.out.at 2 _ rfl; have fq : w4.frozen? ⟨w.heap.size, 2, none⟩ = false := HX4.out.fr 2 (by show 2 < 3; omega); have HO4 := Lib.hid ho; clear ho hg CP))
        have HX5 : Hid (OwnC (w4.setCell ⟨w.heap.size, 2, none⟩ (.slice B (putL noAs r.2.2 (q1, q2, q3, q4)).length d)) w.heap.size [.slice A1 n1 c1, .slice A2 n2 c2, .slice B (putL noAs r.2.2 (q1, q2, q3, q4)).length d]) := HX4.out.set 2 (.slice B (putL noAs r.2.2 (q1, q2, q3, q4)).length d) (by show 2 < 3; omega)
        have HY5 : Hid (OwnC (w4.setCell ⟨w.heap.size, 2, none⟩ (.slice B (putL noAs r.2.2 (q1, q2, q3, q4)).length d)) (w.heap.size + 1 + 1) [.slice none 0 0, .slice none 0 0, .slice none 0 0]) := HY4.out.other _ _ (by show w.heap.size ≠ _; omega)
        have HG5 : Hid (Grew w (w4.setCell ⟨w.heap.size, 2, none⟩ (.slice B (putL noAs r.2.2 (q1, q2, q3, q4)).length d))) := grew_set HG4.out _ (Nat.le_refl _)
        have HO5 := Lib.hid (HO4.out.set w.heap.size 2 (.slice B (putL noAs r.2.2 (q1, q2, q3, q4)).length d) HWN.out)
        generalize (w4.setCell ⟨w.heap.size, 2, none⟩ (.slice B (putL noAs r.2.2 (q1, q2, q3, q4)).length d)) = w5 at *
        have HI5 : Hid (In3 w5 (r.1, r.2.1, (putL noAs r.2.2 (q1, q2, q3, q4))) A1 A2 B n1 n2 (putL noAs r.2.2 (q1, q2, q3, q4)).length c1 c2 d) := ⟨⟨HI.out.rows.m.keep HG5.out, HI.out.rows.i.keep HG5.out, (own_form HO5.out).1⟩, HI.out.k1, HI.out.k2, (own_form HO5.out).2.1, HI.out.l1, HI.out.l2, (own_form HO5.out).2.2⟩
        have CC := copied_any (r.1, r.2.1, (putL noAs r.2.2 (q1, q2, q3, q4))) A1 A2 B n1 n2 (putL noAs r.2.2 (q1, q2, q3, q4)).length c1 c2 d w5 HI5.out (by have := HSH.out; have := HSL.out; have := put_len_le noAs r.2.2 (q1, q2, q3, q4); refine ⟨?_, ?_, ?_⟩ <;> omega)
        dsimp only [rlV] at CC
        have x0 : w5.cell? ⟨w.heap.size, 0, none⟩ = some (.slice A1 n1 c1) := HX5.out.at 0 _ rfl
        have x1 : w5.cell? ⟨w.heap.size, 1, none⟩ = some (.slice A2 n2 c2) := HX5.out.at 1 _ rfl
        have x2 : w5.cell? ⟨w.heap.size, 2, none⟩ = some (.slice B (putL noAs r.2.2 (q1, q2, q3, q4)).length d) := HX5.out.at 2 _ rfl
        have HWS5 : Hid (w.heap.size ≤ w5.heap.size) := HG5.out.size
        go_wp2_with (go_at_call 59; ((with_reducible refine CC.mono ?_); rintro e w6 ⟨D1, D2, D3, g1, g2, g3, rfl, ⟨ho, -⟩, hg⟩; dsimp only [rlV]; have HO6 := Lib.hid ho; have HY6 := Lib.hid (HY5.out.keep hg); have HG6 := Lib.hid (grew_trans HG5.out hg); have HRN : Hid (w.heap.size + 1 + 1 < w5.heap.size) := HY5.out.lt; have y0 : w6.cell? ⟨w.heap.size + 1 + 1, 0, none⟩ = some (.slice none 0 0) := HY6.out.at 0 _ rfl; have f0 : w6.frozen? ⟨w.heap.size + 1 + 1, 0, none⟩ = false := HY6.out.fr 0 (by decide); have y1 : w6.cell? ⟨w.heap.size + 1 + 1, 1, none⟩ = some (.slice none 0 0) := HY6.out.at 1 _ rfl; have f1 : w6.frozen? ⟨w.heap.size + 1 + 1, 1, none⟩ = false := HY6.out.fr 1 (by decide); have y2 : w6.cell? ⟨w.heap.size + 1 + 1, 2, none⟩ = some (.slice none 0 0) := HY6.out.at 2 _ rfl; have f2 : w6.frozen? ⟨w.heap.size + 1 + 1, 2, none⟩ = false := HY6.out.fr 2 (by decide); clear ho hg CC))
        have HP := HY6.out.all [Value.slice D1 r.1.length g1, .slice D2 r.2.1.length g2, .slice D3 (putL noAs r.2.2 (q1, q2, q3, q4)).length g3] rfl
        have HGP := grew_put (w.heap.size + 1 + 1) (by show w.heap.size ≤ _; omega) [Value.slice D1 r.1.length g1, .slice D2 r.2.1.length g2, .slice D3 (putL noAs r.2.2 (q1, q2, q3, q4)).length g3] 0 _ HG6.out
        have hb : w.heap.size + 1 + 1 < w5.heap.size + 2 := Nat.lt_of_lt_of_le HRN.out (Nat.le_add_right _ _)
        have Q1 := OwnE.put hb [Value.slice D1 r.1.length g1, .slice D2 r.2.1.length g2, .slice D3 (putL noAs r.2.2 (q1, q2, q3, q4)).length g3] 0 _ HO6.out.m
        have Q2 := OwnE.put hb [Value.slice D1 r.1.length g1, .slice D2 r.2.1.length g2, .slice D3 (putL noAs r.2.2 (q1, q2, q3, q4)).length g3] 0 _ HO6.out.i
        have Q3 := OwnE.put hb [Value.slice D1 r.1.length g1, .slice D2 r.2.1.length g2, .slice D3 (putL noAs r.2.2 (q1, q2, q3, q4)).length g3] 0 _ HO6.out.h
        change bodyPost _ _ _ _ _ (putC w6 (w.heap.size + 1 + 1) 0 [.slice D1 r.1.length g1, .slice D2 r.2.1.length g2, .slice D3 (putL noAs r.2.2 (q1, q2, q3, q4)).length g3])
        generalize putC w6 (w.heap.size + 1 + 1) 0 [.slice D1 r.1.length g1, .slice D2 r.2.1.length g2, .slice D3 (putL noAs r.2.2 (q1, q2, q3, q4)).length g3] = w9 at *
        have z0 : w9.cell? ⟨w.heap.size + 1 + 1, 0, none⟩ = _ := HP.at 0 _ rfl
        have z1 : w9.cell? ⟨w.heap.size + 1 + 1, 1, none⟩ = _ := HP.at 1 _ rfl
        have z2 : w9.cell? ⟨w.heap.size + 1 + 1, 2, none⟩ = _ := HP.at 2 _ rfl
        have HLE : w.heap.size ≤ w5.heap.size + 2 := Nat.le_trans HWS5.out (Nat.le_add_right _ _)
        refine bodyPost_ret (v := .tuple #[.agg #[.slice D1 r.1.length g1, .slice D2 r.2.1.length g2, .slice D3 (putL noAs r.2.2 (q1, q2, q3, q4)).length g3], .int .i64 0]) (by simp [results, Try.results35, go_sem, z0, z1, z2]) rfl ?_
        exact ⟨D1, D2, D3, g1, g2, g3, rfl, ⟨Q1.mono HLE, Q2.mono HLE, Q3.mono HLE⟩, HGP⟩
    · rw [Bool.not_eq_true] at hm
      rw [hm] at CR HBB
      have hB : holdB r (q1, q2, q3, q4) = true := by rw [HBB]; rfl
      clear HBB
      generalize hasL noAs r.2.2 q1 = HS at *
      rw [show holdP r (q1, q2, q3, q4) = (rl0, 3) by unfold holdP; rw [if_pos hr, if_pos hB]]
      go_enter Try.func35, Try.ntmps35
      go_upto_region 1 with fail
      have HGI : Hid (Grew w (((w.alloc (.cells #[.slice A1 n1 c1, .slice A2 n2 c2, .slice A3 n3 c3] 26)).alloc (.cells #[.int .i64 q1, .int .i64 q2, .int .i64 q3, .int .i64 q4] 42)).alloc (.cells #[.slice none 0 0, .slice none 0 0, .slice none 0 0] 26))) := grew_trans (grew_trans (grew_alloc _ _ _) (grew_alloc _ _ _)) (grew_alloc _ _ _)
      have HX0 : Hid (OwnC (((w.alloc (.cells #[.slice A1 n1 c1, .slice A2 n2 c2, .slice A3 n3 c3] 26)).alloc (.cells #[.int .i64 q1, .int .i64 q2, .int .i64 q3, .int .i64 q4] 42)).alloc (.cells #[.slice none 0 0, .slice none 0 0, .slice none 0 0] 26)) w.heap.size [.slice A1 n1 c1, .slice A2 n2 c2, .slice A3 n3 c3]) := ((OwnC.new w [.slice A1 n1 c1, .slice A2 n2 c2, .slice A3 n3 c3] _ _ rfl).keep (grew_alloc _ _ _)).keep (grew_alloc _ _ _)
      have HY0 : Hid (OwnC (((w.alloc (.cells #[.slice A1 n1 c1, .slice A2 n2 c2, .slice A3 n3 c3] 26)).alloc (.cells #[.int .i64 q1, .int .i64 q2, .int .i64 q3, .int .i64 q4] 42)).alloc (.cells #[.slice none 0 0, .slice none 0 0, .slice none 0 0] 26)) (w.heap.size + 1 + 1) [.slice none 0 0, .slice none 0 0, .slice none 0 0]) := OwnC.new _ [.slice none 0 0, .slice none 0 0, .slice none 0 0] _ _ (by simp)
      have HM0 : Hid (OwnC (((w.alloc (.cells #[.slice A1 n1 c1, .slice A2 n2 c2, .slice A3 n3 c3] 26)).alloc (.cells #[.int .i64 q1, .int .i64 q2, .int .i64 q3, .int .i64 q4] 42)).alloc (.cells #[.slice none 0 0, .slice none 0 0, .slice none 0 0] 26)) (w.heap.size + 1) [.int .i64 q1, .int .i64 q2, .int .i64 q3, .int .i64 q4]) := (OwnC.new _ [.int .i64 q1, .int .i64 q2, .int .i64 q3, .int .i64 q4] _ _ (by simp)).keep (grew_alloc _ _ _)
      generalize (((w.alloc (.cells #[.slice A1 n1 c1, .slice A2 n2 c2, .slice A3 n3 c3] 26)).alloc (.cells #[.int .i64 q1, .int .i64 q2, .int .i64 q3, .int .i64 q4] 42)).alloc (.cells #[.slice none 0 0, .slice none 0 0, .slice none 0 0] 26)) = w0 at *
      have x0 : w0.cell? ⟨w.heap.size, 0, none⟩ = some (.slice A1 n1 c1) := HX0.out.at 0 _ rfl
      have x1 : w0.cell? ⟨w.heap.size, 1, none⟩ = some (.slice A2 n2 c2) := HX0.out.at 1 _ rfl
      have x2 : w0.cell? ⟨w.heap.size, 2, none⟩ = some (.slice A3 n3 c3) := HX0.out.at 2 _ rfl
      go_upto_region 5 with (first
        | (go_at_call 11; ((with_reducible refine (CK _ HGI.out).mono ?_); rintro e w1 ⟨rfl, hg⟩; have HX1 := Lib.hid (HX0.out.keep hg); have HY1 := Lib.hid (HY0.out.keep hg); have HG1 := Lib.hid (grew_trans HGI.out hg); have HM1 := Lib.hid (HM0.out.keep hg); have k0 : w1.cell? ⟨w.heap.size + 1, 0, none⟩ = some (.int .i64 q1) := HM1.out.at 0 _ rfl; have x0 : w1.cell? ⟨w.heap.size, 0, none⟩ = some (.slice A1 n1 c1) := HX1.out.at 0 _ rfl; have x1 : w1.cell? ⟨w.heap.size, 1, none⟩ = some (.slice A2 n2 c2) := HX1.out.at 1 _ rfl; have x2 : w1.cell? ⟨w.heap.size, 2, none⟩ = some (.slice A3 n3 c3) := HX1.out.at 2 _ rfl; clear hg CK))
        | (go_at_call 17; ((with_reducible refine (CM _ HG1.out).mono ?_); rintro e w2 ⟨rfl, hg⟩; have HX2 : Hid (OwnC (w2.alloc (.cells #[.int .i64 p1, .int .i64 p2, .int .i64 p3, .int .i64 p4] 42)) w.heap.size [.slice A1 n1 c1, .slice A2 n2 c2, .slice A3 n3 c3]) := (HX1.out.keep hg).keep (grew_alloc _ _ _); have HY2 : Hid (OwnC (w2.alloc (.cells #[.int .i64 p1, .int .i64 p2, .int .i64 p3, .int .i64 p4] 42)) (w.heap.size + 1 + 1) [.slice none 0 0, .slice none 0 0, .slice none 0 0]) := (HY1.out.keep hg).keep (grew_alloc _ _ _); have HM2 : Hid (OwnC (w2.alloc (.cells #[.int .i64 p1, .int .i64 p2, .int .i64 p3, .int .i64 p4] 42)) (w.heap.size + 1) [.int .i64 q1, .int .i64 q2, .int .i64 q3, .int .i64 q4]) := (HM1.out.keep hg).keep (grew_alloc _ _ _); have HP2 : Hid (OwnC (w2.alloc (.cells #[.int .i64 p1, .int .i64 p2, .int .i64 p3, .int .i64 p4] 42)) w2.heap.size [.int .i64 p1, .int .i64 p2, .int .i64 p3, .int .i64 p4]) := OwnC.new w2 [.int .i64 p1, .int .i64 p2, .int .i64 p3, .int .i64 p4] _ _ rfl; have HG2 : Hid (Grew w (w2.alloc (.cells #[.int .i64 p1, .int .i64 p2, .int .i64 p3, .int .i64 p4] 42))) := grew_trans (grew_trans HG1.out hg) (grew_alloc _ _ _); clear hg CM)))
      clear k0 x0 x1 x2
      generalize (w2.alloc (.cells #[.int .i64 p1, .int .i64 p2, .int .i64 p3, .int .i64 p4] 42)) = wa at *
      have m0 : wa.cell? ⟨w.heap.size + 1, 0, none⟩ = some (.int .i64 q1) := HM2.out.at 0 _ rfl
      have m1 : wa.cell? ⟨w.heap.size + 1, 1, none⟩ = some (.int .i64 q2) := HM2.out.at 1 _ rfl
      have m2 : wa.cell? ⟨w.heap.size + 1, 2, none⟩ = some (.int .i64 q3) := HM2.out.at 2 _ rfl
      have m3 : wa.cell? ⟨w.heap.size + 1, 3, none⟩ = some (.int .i64 q4) := HM2.out.at 3 _ rfl
      have p_0 : wa.cell? ⟨w2.heap.size, 0, none⟩ = some (.int .i64 p1) := HP2.out.at 0 _ rfl
      have p_1 : wa.cell? ⟨w2.heap.size, 1, none⟩ = some (.int .i64 p2) := HP2.out.at 1 _ rfl
      have p_2 : wa.cell? ⟨w2.heap.size, 2, none⟩ = some (.int .i64 p3) := HP2.out.at 2 _ rfl
      have p_3 : wa.cell? ⟨w2.heap.size, 3, none⟩ = some (.int .i64 p4) := HP2.out.at 3 _ rfl
      go_wp2_with (go_at_call 52; ((with_reducible refine (CR _).mono ?_); rintro e w3 ⟨rfl, hg⟩; have HX3 := Lib.hid (HX2.out.keep hg); have HY3 := Lib.hid (HY2.out.keep hg); have HM3 := Lib.hid (HM2.out.keep hg); have HG3 := Lib.hid (grew_trans HG2.out hg); have y0 : w3.cell? ⟨w.heap.size + 1 + 1, 0, none⟩ = some (.slice none 0 0) := HY3.out.at 0 _ rfl; have f0 : w3.frozen? ⟨w.heap.size + 1 + 1, 0, none⟩ = false := HY3.out.fr 0 (by decide); have y1 : w3.cell? ⟨w.heap.size + 1 + 1, 1, none⟩ = some (.slice none 0 0) := HY3.out.at 1 _ rfl; have f1 : w3.frozen? ⟨w.heap.size + 1 + 1, 1, none⟩ = false := HY3.out.fr 1 (by decide); have y2 : w3.cell? ⟨w.heap.size + 1 + 1, 2, none⟩ = some (.slice none 0 0) := HY3.out.at 2 _ rfl; have f2 : w3.frozen? ⟨w.heap.size + 1 + 1, 2, none⟩ = false := HY3.out.fr 2 (by decide); have r1 : w3.cell? ⟨w.heap.size + 1, 1, none⟩ = some (.int .i64 q2) := HM3.out.at 1 _ rfl; have r2 : w3.cell? ⟨w2.heap.size, 1, none⟩ = some (.int .i64 p2) := (HP2.out.keep hg).at 1 _ rfl; clear hg CR))
      have HP := HY3.out.all [.slice none 0 0, .slice none 0 0, .slice none 0 0] rfl
      have HGP := grew_put (w.heap.size + 1 + 1) (by show w.heap.size ≤ _; omega) [.slice none 0 0, .slice none 0 0, .slice none 0 0] 0 _ HG3.out
      change bodyPost _ _ _ _ _ (putC w3 (w.heap.size + 1 + 1) 0 [.slice none 0 0, .slice none 0 0, .slice none 0 0])
      generalize putC w3 (w.heap.size + 1 + 1) 0 [.slice none 0 0, .slice none 0 0, .slice none 0 0] = w9 at *
      have z0 : w9.cell? ⟨w.heap.size + 1 + 1, 0, none⟩ = _ := HP.at 0 _ rfl
      have z1 : w9.cell? ⟨w.heap.size + 1 + 1, 1, none⟩ = _ := HP.at 1 _ rfl
      have z2 : w9.cell? ⟨w.heap.size + 1 + 1, 2, none⟩ = _ := HP.at 2 _ rfl
      refine bodyPost_ret (v := .tuple #[.agg #[.slice none 0 0, .slice none 0 0, .slice none 0 0], .int .i64 3]) (by simp [results, Try.results35, go_sem, z0, z1, z2]) rfl ?_
      exact ⟨none, none, none, 0, 0, 0, rfl, own3_nil _ _, HGP⟩
  · rw [Bool.not_eq_true] at hr
    rw [chkV_no hr] at CK
    have hrf : ¬ rightR r = true := by rw [hr]; decide
    rw [show holdP r (q1, q2, q3, q4) = (rl0, 14) by unfold holdP; rw [if_neg hrf]]
    go_enter Try.func35, Try.ntmps35
    go_upto_region 1 with fail
    have HGI : Hid (Grew w (((w.alloc (.cells #[.slice A1 n1 c1, .slice A2 n2 c2, .slice A3 n3 c3] 26)).alloc (.cells #[.int .i64 q1, .int .i64 q2, .int .i64 q3, .int .i64 q4] 42)).alloc (.cells #[.slice none 0 0, .slice none 0 0, .slice none 0 0] 26))) := grew_trans (grew_trans (grew_alloc _ _ _) (grew_alloc _ _ _)) (grew_alloc _ _ _)
    have HX0 : Hid (OwnC (((w.alloc (.cells #[.slice A1 n1 c1, .slice A2 n2 c2, .slice A3 n3 c3] 26)).alloc (.cells #[.int .i64 q1, .int .i64 q2, .int .i64 q3, .int .i64 q4] 42)).alloc (.cells #[.slice none 0 0, .slice none 0 0, .slice none 0 0] 26)) w.heap.size [.slice A1 n1 c1, .slice A2 n2 c2, .slice A3 n3 c3]) := ((OwnC.new w [.slice A1 n1 c1, .slice A2 n2 c2, .slice A3 n3 c3] _ _ rfl).keep (grew_alloc _ _ _)).keep (grew_alloc _ _ _)
    have HY0 : Hid (OwnC (((w.alloc (.cells #[.slice A1 n1 c1, .slice A2 n2 c2, .slice A3 n3 c3] 26)).alloc (.cells #[.int .i64 q1, .int .i64 q2, .int .i64 q3, .int .i64 q4] 42)).alloc (.cells #[.slice none 0 0, .slice none 0 0, .slice none 0 0] 26)) (w.heap.size + 1 + 1) [.slice none 0 0, .slice none 0 0, .slice none 0 0]) := OwnC.new _ [.slice none 0 0, .slice none 0 0, .slice none 0 0] _ _ (by simp)
    have HM0 : Hid (OwnC (((w.alloc (.cells #[.slice A1 n1 c1, .slice A2 n2 c2, .slice A3 n3 c3] 26)).alloc (.cells #[.int .i64 q1, .int .i64 q2, .int .i64 q3, .int .i64 q4] 42)).alloc (.cells #[.slice none 0 0, .slice none 0 0, .slice none 0 0] 26)) (w.heap.size + 1) [.int .i64 q1, .int .i64 q2, .int .i64 q3, .int .i64 q4]) := (OwnC.new _ [.int .i64 q1, .int .i64 q2, .int .i64 q3, .int .i64 q4] _ _ (by simp)).keep (grew_alloc _ _ _)
    generalize (((w.alloc (.cells #[.slice A1 n1 c1, .slice A2 n2 c2, .slice A3 n3 c3] 26)).alloc (.cells #[.int .i64 q1, .int .i64 q2, .int .i64 q3, .int .i64 q4] 42)).alloc (.cells #[.slice none 0 0, .slice none 0 0, .slice none 0 0] 26)) = w0 at *
    have x0 : w0.cell? ⟨w.heap.size, 0, none⟩ = some (.slice A1 n1 c1) := HX0.out.at 0 _ rfl
    have x1 : w0.cell? ⟨w.heap.size, 1, none⟩ = some (.slice A2 n2 c2) := HX0.out.at 1 _ rfl
    have x2 : w0.cell? ⟨w.heap.size, 2, none⟩ = some (.slice A3 n3 c3) := HX0.out.at 2 _ rfl
    go_wp2_with (go_at_call 11; ((with_reducible refine (CK _ HGI.out).mono ?_); rintro e w1 ⟨rfl, hg⟩; have HX1 := Lib.hid (HX0.out.keep hg); have HY1 := Lib.hid (HY0.out.keep hg); have HG1 := Lib.hid (grew_trans HGI.out hg); have y0 : w1.cell? ⟨w.heap.size + 1 + 1, 0, none⟩ = some (.slice none 0 0) := HY1.out.at 0 _ rfl; have f0 : w1.frozen? ⟨w.heap.size + 1 + 1, 0, none⟩ = false := HY1.out.fr 0 (by decide); have y1 : w1.cell? ⟨w.heap.size + 1 + 1, 1, none⟩ = some (.slice none 0 0) := HY1.out.at 1 _ rfl; have f1 : w1.frozen? ⟨w.heap.size + 1 + 1, 1, none⟩ = false := HY1.out.fr 1 (by decide); have y2 : w1.cell? ⟨w.heap.size + 1 + 1, 2, none⟩ = some (.slice none 0 0) := HY1.out.at 2 _ rfl; have f2 : w1.frozen? ⟨w.heap.size + 1 + 1, 2, none⟩ = false := HY1.out.fr 2 (by decide); clear hg CK))
    have HP := HY1.out.all [.slice none 0 0, .slice none 0 0, .slice none 0 0] rfl
    have HGP := grew_put (w.heap.size + 1 + 1) (by show w.heap.size ≤ _; omega) [.slice none 0 0, .slice none 0 0, .slice none 0 0] 0 _ HG1.out
    change bodyPost _ _ _ _ _ (putC w1 (w.heap.size + 1 + 1) 0 [.slice none 0 0, .slice none 0 0, .slice none 0 0])
    generalize putC w1 (w.heap.size + 1 + 1) 0 [.slice none 0 0, .slice none 0 0, .slice none 0 0] = w9 at *
    have z0 : w9.cell? ⟨w.heap.size + 1 + 1, 0, none⟩ = _ := HP.at 0 _ rfl
    have z1 : w9.cell? ⟨w.heap.size + 1 + 1, 1, none⟩ = _ := HP.at 1 _ rfl
    have z2 : w9.cell? ⟨w.heap.size + 1 + 1, 2, none⟩ = _ := HP.at 2 _ rfl
    refine bodyPost_ret (v := .tuple #[.agg #[.slice none 0 0, .slice none 0 0, .slice none 0 0], .int .i64 14]) (by simp [results, Try.results35, go_sem, z0, z1, z2]) rfl ?_
    exact ⟨none, none, none, 0, 0, 0, rfl, own3_nil _ _, HGP⟩
end Go.Proofs.Ytnbgbfbiieimgaa.NumK
