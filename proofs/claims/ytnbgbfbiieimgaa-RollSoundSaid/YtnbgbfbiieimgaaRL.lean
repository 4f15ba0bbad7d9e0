/- roll.Admit. -/
import Derived.Test.YtnbgbfbiieimgaaRH
import Derived.Test.YtnbgbfbiieimgaaRI
import Derived.Test.YtnbgbfbiieimgaaRJ
import Derived.Test.YtnbgbfbiieimgaaRK
import Derived.Deep.CutBlock
namespace Go.Proofs.Ytnbgbfbiieimgaa.NumK
open Go.RowKit
set_option linter.unusedVariables false

set_option maxRecDepth 100000 in
set_option maxHeartbeats 4000000 in
theorem admit_any (r : Rl) (who need : Int) (A1 A2 A3 : Option Addr) (n1 n2 n3 c1 c2 c3 : Nat) (w : World) (h : In3 w r A1 A2 A3 n1 n2 n3 c1 c2 c3) (hn : n1 ≤ 1000000 ∧ n2 ≤ 1000000 ∧ n3 ≤ 1000000) :
    Calls Try.prog 31 #[rlV A1 A2 A3 n1 n2 n3 c1 c2 c3, .int .i64 who, .int .i64 need] w (RollE (admitP r who need).1 (admitP r who need).2 w) := by
  have HI := Lib.hid h
  have CK := fun w' (g : Grew w w') => check_any r A1 A2 A3 n1 n2 n3 c1 c2 c3 w' (h.rows.keep g) hn
  dsimp only [rlV] at CK ⊢
  have CR := fun w => rightMember_any (who, 1, need) w
  have CM := fun w' (g : Grew w w') => pfindMb_any A1 A2 A3 n1 n2 n3 c1 c2 c3 r.1 who w' (h.rows.m.keep g) hn.1 (fun w hh => firstMb_any A1 n1 c1 r.1 who w hh hn.1)
  dsimp only [vMb] at CR CM
  have HSHO : Hid (rightR r = true → n1 ≤ 16 ∧ n2 ≤ 8 ∧ n3 ≤ 6) := fun e => (by have := right_short e; rw [h.rows.m.len, h.rows.i.len, h.rows.h.len] at this; exact this)
  have HSL : Hid (r.1.length = n1 ∧ r.2.1.length = n2 ∧ r.2.2.length = n3) := ⟨h.rows.m.len, h.rows.i.len, h.rows.h.len⟩
  clear h
  by_cases hr : rightR r = true
  · have HSH := Lib.hid (HSHO.out hr)
    have HRI := Lib.hid (right_rise hr)
    rw [chkV_yes hr] at CK
    by_cases hm : okMb (who, 1, need) = true
    · rw [hm] at CR
      obtain ⟨⟨p1, p2, p3⟩, hp⟩ : ∃ p, p = findL noMb mb0 r.1 who := ⟨_, rfl⟩
      rw [← hp] at CM
      clear hp
      dsimp only at CM
      by_cases hh : hasL noMb r.1 who = true
      · rw [hh] at CM
        rw [show admitP r who need = (rl0, 11) by unfold admitP; rw [if_pos hr, if_pos hm, if_pos hh]]
        go_enter Try.func31, Try.ntmps31
        go_upto_region 1 with fail
        have HGI : Hid (Grew w ((w.alloc (.cells #[.slice A1 n1 c1, .slice A2 n2 c2, .slice A3 n3 c3] 26)).alloc (.cells #[.slice none 0 0, .slice none 0 0, .slice none 0 0] 26))) := grew_trans (grew_alloc _ _ _) (grew_alloc _ _ _)
        have HX0 : Hid (OwnC ((w.alloc (.cells #[.slice A1 n1 c1, .slice A2 n2 c2, .slice A3 n3 c3] 26)).alloc (.cells #[.slice none 0 0, .slice none 0 0, .slice none 0 0] 26)) w.heap.size [.slice A1 n1 c1, .slice A2 n2 c2, .slice A3 n3 c3]) := (OwnC.new w [.slice A1 n1 c1, .slice A2 n2 c2, .slice A3 n3 c3] _ _ rfl).keep (grew_alloc _ _ _)
        have HY0 : Hid (OwnC ((w.alloc (.cells #[.slice A1 n1 c1, .slice A2 n2 c2, .slice A3 n3 c3] 26)).alloc (.cells #[.slice none 0 0, .slice none 0 0, .slice none 0 0] 26)) (w.heap.size + 1) [.slice none 0 0, .slice none 0 0, .slice none 0 0]) := OwnC.new _ [.slice none 0 0, .slice none 0 0, .slice none 0 0] _ _ (by simp)
        generalize ((w.alloc (.cells #[.slice A1 n1 c1, .slice A2 n2 c2, .slice A3 n3 c3] 26)).alloc (.cells #[.slice none 0 0, .slice none 0 0, .slice none 0 0] 26)) = w0 at *
        have x0 : w0.cell? ⟨w.heap.size, 0, none⟩ = some (.slice A1 n1 c1) := HX0.out.at 0 _ rfl
        have x1 : w0.cell? ⟨w.heap.size, 1, none⟩ = some (.slice A2 n2 c2) := HX0.out.at 1 _ rfl
        have x2 : w0.cell? ⟨w.heap.size, 2, none⟩ = some (.slice A3 n3 c3) := HX0.out.at 2 _ rfl
        go_wp2_with (first
          | (go_at_call 11; ((with_reducible refine (CK _ HGI.out).mono ?_); rintro e w1 ⟨rfl, hg⟩; have HX1 := Lib.hid (HX0.out.keep hg); have HY1 := Lib.hid (HY0.out.keep hg); have HG1 := Lib.hid (grew_trans HGI.out hg); have HGA : Hid (Grew w (w1.alloc (.cells #[.int .i64 who, .int .i64 1, .int .i64 need] 33))) := grew_trans HG1.out (grew_alloc _ _ _); have HXA : Hid (OwnC (w1.alloc (.cells #[.int .i64 who, .int .i64 1, .int .i64 need] 33)) w.heap.size [.slice A1 n1 c1, .slice A2 n2 c2, .slice A3 n3 c3]) := HX1.out.keep (grew_alloc _ _ _); have HYA : Hid (OwnC (w1.alloc (.cells #[.int .i64 who, .int .i64 1, .int .i64 need] 33)) (w.heap.size + 1) [.slice none 0 0, .slice none 0 0, .slice none 0 0]) := HY1.out.keep (grew_alloc _ _ _); have HMA : Hid (OwnC (w1.alloc (.cells #[.int .i64 who, .int .i64 1, .int .i64 need] 33)) w1.heap.size [.int .i64 who, .int .i64 1, .int .i64 need]) := OwnC.new w1 [.int .i64 who, .int .i64 1, .int .i64 need] _ _ rfl; clear hg CK))
          | (go_at_call 46; ((with_reducible refine (CR _).mono ?_); rintro e w2 ⟨rfl, hg⟩; have HX2 := Lib.hid (HXA.out.keep hg); have HY2 := Lib.hid (HYA.out.keep hg); have HM2 := Lib.hid (HMA.out.keep hg); have HG2 := Lib.hid (grew_trans HGA.out hg); have x0 : w2.cell? ⟨w.heap.size, 0, none⟩ = some (.slice A1 n1 c1) := HX2.out.at 0 _ rfl; have x1 : w2.cell? ⟨w.heap.size, 1, none⟩ = some (.slice A2 n2 c2) := HX2.out.at 1 _ rfl; have x2 : w2.cell? ⟨w.heap.size, 2, none⟩ = some (.slice A3 n3 c3) := HX2.out.at 2 _ rfl; have y0 : w2.cell? ⟨w.heap.size + 1, 0, none⟩ = some (.slice none 0 0) := HY2.out.at 0 _ rfl; have f0 : w2.frozen? ⟨w.heap.size + 1, 0, none⟩ = false := HY2.out.fr 0 (by decide); have y1 : w2.cell? ⟨w.heap.size + 1, 1, none⟩ = some (.slice none 0 0) := HY2.out.at 1 _ rfl; have f1 : w2.frozen? ⟨w.heap.size + 1, 1, none⟩ = false := HY2.out.fr 1 (by decide); have y2 : w2.cell? ⟨w.heap.size + 1, 2, none⟩ = some (.slice none 0 0) := HY2.out.at 2 _ rfl; have f2 : w2.frozen? ⟨w.heap.size + 1, 2, none⟩ = false := HY2.out.fr 2 (by decide); clear hg CR))
          | (go_at_call 13; ((with_reducible refine (CM _ HG2.out).mono ?_); rintro e w3 ⟨rfl, hg⟩; have HX3 : Hid (OwnC (w3.alloc (.cells #[.int .i64 p1, .int .i64 p2, .int .i64 p3] 33)) w.heap.size [.slice A1 n1 c1, .slice A2 n2 c2, .slice A3 n3 c3]) := (HX2.out.keep hg).keep (grew_alloc _ _ _); have HY3 : Hid (OwnC (w3.alloc (.cells #[.int .i64 p1, .int .i64 p2, .int .i64 p3] 33)) (w.heap.size + 1) [.slice none 0 0, .slice none 0 0, .slice none 0 0]) := (HY2.out.keep hg).keep (grew_alloc _ _ _); have HM3 : Hid (OwnC (w3.alloc (.cells #[.int .i64 p1, .int .i64 p2, .int .i64 p3] 33)) w1.heap.size [.int .i64 who, .int .i64 1, .int .i64 need]) := (HM2.out.keep hg).keep (grew_alloc _ _ _); have HG3 : Hid (Grew w (w3.alloc (.cells #[.int .i64 p1, .int .i64 p2, .int .i64 p3] 33))) := grew_trans (grew_trans HG2.out hg) (grew_alloc _ _ _); have y0 : (w3.alloc (.cells #[.int .i64 p1, .int .i64 p2, .int .i64 p3] 33)).cell? ⟨w.heap.size + 1, 0, none⟩ = some (.slice none 0 0) := HY3.out.at 0 _ rfl; have f0 : (w3.alloc (.cells #[.int .i64 p1, .int .i64 p2, .int .i64 p3] 33)).frozen? ⟨w.heap.size + 1, 0, none⟩ = false := HY3.out.fr 0 (by decide); have y1 : (w3.alloc (.cells #[.int .i64 p1, .int .i64 p2, .int .i64 p3] 33)).cell? ⟨w.heap.size + 1, 1, none⟩ = some (.slice none 0 0) := HY3.out.at 1 _ rfl; have f1 : (w3.alloc (.cells #[.int .i64 p1, .int .i64 p2, .int .i64 p3] 33)).frozen? ⟨w.heap.size + 1, 1, none⟩ = false := HY3.out.fr 1 (by decide); have y2 : (w3.alloc (.cells #[.int .i64 p1, .int .i64 p2, .int .i64 p3] 33)).cell? ⟨w.heap.size + 1, 2, none⟩ = some (.slice none 0 0) := HY3.out.at 2 _ rfl; have f2 : (w3.alloc (.cells #[.int .i64 p1, .int .i64 p2, .int .i64 p3] 33)).frozen? ⟨w.heap.size + 1, 2, none⟩ = false := HY3.out.fr 2 (by decide); clear hg CM)))
        have HP := HY3.out.all [.slice none 0 0, .slice none 0 0, .slice none 0 0] rfl
        have HGP := grew_put (w.heap.size + 1) (by show w.heap.size ≤ _; omega) [.slice none 0 0, .slice none 0 0, .slice none 0 0] 0 _ HG3.out
        change bodyPost _ _ _ _ _ (putC (w3.alloc (.cells #[.int .i64 p1, .int .i64 p2, .int .i64 p3] 33)) (w.heap.size + 1) 0 [.slice none 0 0, .slice none 0 0, .slice none 0 0])
        generalize putC (w3.alloc (.cells #[.int .i64 p1, .int .i64 p2, .int .i64 p3] 33)) (w.heap.size + 1) 0 [.slice none 0 0, .slice none 0 0, .slice none 0 0] = w9 at *
        have z0 : w9.cell? ⟨w.heap.size + 1, 0, none⟩ = _ := HP.at 0 _ rfl
        have z1 : w9.cell? ⟨w.heap.size + 1, 1, none⟩ = _ := HP.at 1 _ rfl
        have z2 : w9.cell? ⟨w.heap.size + 1, 2, none⟩ = _ := HP.at 2 _ rfl
        refine bodyPost_ret (v := .tuple #[.agg #[.slice none 0 0, .slice none 0 0, .slice none 0 0], .int .i64 11]) (by simp [results, Try.results31, go_sem, z0, z1, z2]) rfl ?_
        exact ⟨none, none, none, 0, 0, 0, rfl, own3_nil _ _, HGP⟩
      · rw [Bool.not_eq_true] at hh
        rw [hh] at CM
        have hhf : ¬ hasL noMb r.1 who = true := by rw [hh]; decide
        rw [show admitP r who need = ((putL noMb r.1 (who, 1, need), r.2.1, r.2.2), 0) by unfold admitP; rw [if_pos hr, if_pos hm, if_neg hhf]]
        go_enter Try.func31, Try.ntmps31
        go_upto_region 1 with fail
        have HGI : Hid (Grew w ((w.alloc (.cells #[.slice A1 n1 c1, .slice A2 n2 c2, .slice A3 n3 c3] 26)).alloc (.cells #[.slice none 0 0, .slice none 0 0, .slice none 0 0] 26))) := grew_trans (grew_alloc _ _ _) (grew_alloc _ _ _)
        have HX0 : Hid (OwnC ((w.alloc (.cells #[.slice A1 n1 c1, .slice A2 n2 c2, .slice A3 n3 c3] 26)).alloc (.cells #[.slice none 0 0, .slice none 0 0, .slice none 0 0] 26)) w.heap.size [.slice A1 n1 c1, .slice A2 n2 c2, .slice A3 n3 c3]) := (OwnC.new w [.slice A1 n1 c1, .slice A2 n2 c2, .slice A3 n3 c3] _ _ rfl).keep (grew_alloc _ _ _)
        have HY0 : Hid (OwnC ((w.alloc (.cells #[.slice A1 n1 c1, .slice A2 n2 c2, .slice A3 n3 c3] 26)).alloc (.cells #[.slice none 0 0, .slice none 0 0, .slice none 0 0] 26)) (w.heap.size + 1) [.slice none 0 0, .slice none 0 0, .slice none 0 0]) := OwnC.new _ [.slice none 0 0, .slice none 0 0, .slice none 0 0] _ _ (by simp)
        generalize ((w.alloc (.cells #[.slice A1 n1 c1, .slice A2 n2 c2, .slice A3 n3 c3] 26)).alloc (.cells #[.slice none 0 0, .slice none 0 0, .slice none 0 0] 26)) = w0 at *
        have x0 : w0.cell? ⟨w.heap.size, 0, none⟩ = some (.slice A1 n1 c1) := HX0.out.at 0 _ rfl
        have x1 : w0.cell? ⟨w.heap.size, 1, none⟩ = some (.slice A2 n2 c2) := HX0.out.at 1 _ rfl
        have x2 : w0.cell? ⟨w.heap.size, 2, none⟩ = some (.slice A3 n3 c3) := HX0.out.at 2 _ rfl
        go_upto_region 10 with (first
          | (go_at_call 11; ((with_reducible refine (CK _ HGI.out).mono ?_); rintro e w1 ⟨rfl, hg⟩; have HX1 := Lib.hid (HX0.out.keep hg); have HY1 := Lib.hid (HY0.out.keep hg); have HG1 := Lib.hid (grew_trans HGI.out hg); have HGA : Hid (Grew w (w1.alloc (.cells #[.int .i64 who, .int .i64 1, .int .i64 need] 33))) := grew_trans HG1.out (grew_alloc _ _ _); have HXA : Hid (OwnC (w1.alloc (.cells #[.int .i64 who, .int .i64 1, .int .i64 need] 33)) w.heap.size [.slice A1 n1 c1, .slice A2 n2 c2, .slice A3 n3 c3]) := HX1.out.keep (grew_alloc _ _ _); have HYA : Hid (OwnC (w1.alloc (.cells #[.int .i64 who, .int .i64 1, .int .i64 need] 33)) (w.heap.size + 1) [.slice none 0 0, .slice none 0 0, .slice none 0 0]) := HY1.out.keep (grew_alloc _ _ _); have HMA : Hid (OwnC (w1.alloc (.cells #[.int .i64 who, .int .i64 1, .int .i64 need] 33)) w1.heap.size [.int .i64 who, .int .i64 1, .int .i64 need]) := OwnC.new w1 [.int .i64 who, .int .i64 1, .int .i64 need] _ _ rfl; clear hg CK))
          | (go_at_call 46; ((with_reducible refine (CR _).mono ?_); rintro e w2 ⟨rfl, hg⟩; have HX2 := Lib.hid (HXA.out.keep hg); have HY2 := Lib.hid (HYA.out.keep hg); have HM2 := Lib.hid (HMA.out.keep hg); have HG2 := Lib.hid (grew_trans HGA.out hg); have x0 : w2.cell? ⟨w.heap.size, 0, none⟩ = some (.slice A1 n1 c1) := HX2.out.at 0 _ rfl; have x1 : w2.cell? ⟨w.heap.size, 1, none⟩ = some (.slice A2 n2 c2) := HX2.out.at 1 _ rfl; have x2 : w2.cell? ⟨w.heap.size, 2, none⟩ = some (.slice A3 n3 c3) := HX2.out.at 2 _ rfl; have y0 : w2.cell? ⟨w.heap.size + 1, 0, none⟩ = some (.slice none 0 0) := HY2.out.at 0 _ rfl; have f0 : w2.frozen? ⟨w.heap.size + 1, 0, none⟩ = false := HY2.out.fr 0 (by decide); have y1 : w2.cell? ⟨w.heap.size + 1, 1, none⟩ = some (.slice none 0 0) := HY2.out.at 1 _ rfl; have f1 : w2.frozen? ⟨w.heap.size + 1, 1, none⟩ = false := HY2.out.fr 1 (by decide); have y2 : w2.cell? ⟨w.heap.size + 1, 2, none⟩ = some (.slice none 0 0) := HY2.out.at 2 _ rfl; have f2 : w2.frozen? ⟨w.heap.size + 1, 2, none⟩ = false := HY2.out.fr 2 (by decide); clear hg CR))
          | (go_at_call 13; ((with_reducible refine (CM _ HG2.out).mono ?_); rintro e w3 ⟨rfl, hg⟩; have HX3 : Hid (OwnC (w3.alloc (.cells #[.int .i64 p1, .int .i64 p2, .int .i64 p3] 33)) w.heap.size [.slice A1 n1 c1, .slice A2 n2 c2, .slice A3 n3 c3]) := (HX2.out.keep hg).keep (grew_alloc _ _ _); have HY3 : Hid (OwnC (w3.alloc (.cells #[.int .i64 p1, .int .i64 p2, .int .i64 p3] 33)) (w.heap.size + 1) [.slice none 0 0, .slice none 0 0, .slice none 0 0]) := (HY2.out.keep hg).keep (grew_alloc _ _ _); have HM3 : Hid (OwnC (w3.alloc (.cells #[.int .i64 p1, .int .i64 p2, .int .i64 p3] 33)) w1.heap.size [.int .i64 who, .int .i64 1, .int .i64 need]) := (HM2.out.keep hg).keep (grew_alloc _ _ _); have HG3 : Hid (Grew w (w3.alloc (.cells #[.int .i64 p1, .int .i64 p2, .int .i64 p3] 33))) := grew_trans (grew_trans HG2.out hg) (grew_alloc _ _ _); have y0 : (w3.alloc (.cells #[.int .i64 p1, .int .i64 p2, .int .i64 p3] 33)).cell? ⟨w.heap.size + 1, 0, none⟩ = some (.slice none 0 0) := HY3.out.at 0 _ rfl; have f0 : (w3.alloc (.cells #[.int .i64 p1, .int .i64 p2, .int .i64 p3] 33)).frozen? ⟨w.heap.size + 1, 0, none⟩ = false := HY3.out.fr 0 (by decide); have y1 : (w3.alloc (.cells #[.int .i64 p1, .int .i64 p2, .int .i64 p3] 33)).cell? ⟨w.heap.size + 1, 1, none⟩ = some (.slice none 0 0) := HY3.out.at 1 _ rfl; have f1 : (w3.alloc (.cells #[.int .i64 p1, .int .i64 p2, .int .i64 p3] 33)).frozen? ⟨w.heap.size + 1, 1, none⟩ = false := HY3.out.fr 1 (by decide); have y2 : (w3.alloc (.cells #[.int .i64 p1, .int .i64 p2, .int .i64 p3] 33)).cell? ⟨w.heap.size + 1, 2, none⟩ = some (.slice none 0 0) := HY3.out.at 2 _ rfl; have f2 : (w3.alloc (.cells #[.int .i64 p1, .int .i64 p2, .int .i64 p3] 33)).frozen? ⟨w.heap.size + 1, 2, none⟩ = false := HY3.out.fr 2 (by decide); clear hg CM)))
        have HXx := HX3
        have HYx := HY3
        have HGx := HG3
        have HMx := HM3
        generalize (w3.alloc (.cells #[.int .i64 p1, .int .i64 p2, .int .i64 p3] 33)) = wx at *
        have x0 : wx.cell? ⟨w.heap.size, 0, none⟩ = some (.slice A1 n1 c1) := HXx.out.at 0 _ rfl
        have m0 : wx.cell? ⟨w1.heap.size, 0, none⟩ = some (.int .i64 who) := HMx.out.at 0 _ rfl
        have m1 : wx.cell? ⟨w1.heap.size, 1, none⟩ = some (.int .i64 1) := HMx.out.at 1 _ rfl
        have m2 : wx.cell? ⟨w1.heap.size, 2, none⟩ = some (.int .i64 need) := HMx.out.at 2 _ rfl
        have CP := putMb_any A1 n1 c1 r.1 (who, 1, need) wx (HI.out.rows.m.keep HGx.out) HI.out.k1 HRI.out.1 HI.out.l1.1 HI.out.l1.2 (by have := HSH.out; omega)
        dsimp only [vMb, noVMb] at CP
        have HWN : Hid (w.heap.size < wx.heap.size) := HXx.out.lt
        go_upto_region 11 with (go_at_call 61; ((with_reducible refine CP.mono ?_); rintro e w4 ⟨v, rfl, ho, hg⟩; obtain ⟨B, d, rfl, -⟩ := ho.form; have HX4 := Lib.hid (HXx.out.keep hg); have HY4 := Lib.hid (HYx.out.keep hg); have HG4 := Lib.hid (grew_trans HGx.out hg); have xq : w4.cell? ⟨w.heap.size, 0, none⟩ = some (.slice A1 n1 c1) := HX4.out.at 0 _ rfl; have fq : w4.frozen? ⟨w.heap.size, 0, none⟩ = false := HX4.out.fr 0 (by show 0 < 3; omega); have HO4 := Lib.hid ho; clear ho hg CP))
        have HX5 : Hid (OwnC (w4.setCell ⟨w.heap.size, 0, none⟩ (.slice B (putL noMb r.1 (who, 1, need)).length d)) w.heap.size [.slice B (putL noMb r.1 (who, 1, need)).length d, .slice A2 n2 c2, .slice A3 n3 c3]) := HX4.out.set 0 (.slice B (putL noMb r.1 (who, 1, need)).length d) (by show 0 < 3; omega)
        have HY5 : Hid (OwnC (w4.setCell ⟨w.heap.size, 0, none⟩ (.slice B (putL noMb r.1 (who, 1, need)).length d)) (w.heap.size + 1) [.slice none 0 0, .slice none 0 0, .slice none 0 0]) := HY4.out.other _ _ (by show w.heap.size ≠ _; omega)
        have HG5 : Hid (Grew w (w4.setCell ⟨w.heap.size, 0, none⟩ (.slice B (putL noMb r.1 (who, 1, need)).length d))) := grew_set HG4.out _ (Nat.le_refl _)
        have HO5 := Lib.hid (HO4.out.set w.heap.size 0 (.slice B (putL noMb r.1 (who, 1, need)).length d) HWN.out)
        generalize (w4.setCell ⟨w.heap.size, 0, none⟩ (.slice B (putL noMb r.1 (who, 1, need)).length d)) = w5 at *
        have HI5 : Hid (In3 w5 ((putL noMb r.1 (who, 1, need)), r.2.1, r.2.2) B A2 A3 (putL noMb r.1 (who, 1, need)).length n2 n3 d c2 c3) := ⟨⟨(own_form HO5.out).1, HI.out.rows.i.keep HG5.out, HI.out.rows.h.keep HG5.out⟩, (own_form HO5.out).2.1, HI.out.k2, HI.out.k3, (own_form HO5.out).2.2, HI.out.l2, HI.out.l3⟩
        have CC := copied_any ((putL noMb r.1 (who, 1, need)), r.2.1, r.2.2) B A2 A3 (putL noMb r.1 (who, 1, need)).length n2 n3 d c2 c3 w5 HI5.out (by have := HSH.out; have := HSL.out; have := put_len_le noMb r.1 (who, 1, need); refine ⟨?_, ?_, ?_⟩ <;> omega)
        dsimp only [rlV] at CC
        have x0 : w5.cell? ⟨w.heap.size, 0, none⟩ = some (.slice B (putL noMb r.1 (who, 1, need)).length d) := HX5.out.at 0 _ rfl
        have x1 : w5.cell? ⟨w.heap.size, 1, none⟩ = some (.slice A2 n2 c2) := HX5.out.at 1 _ rfl
        have x2 : w5.cell? ⟨w.heap.size, 2, none⟩ = some (.slice A3 n3 c3) := HX5.out.at 2 _ rfl
        have HWS5 : Hid (w.heap.size ≤ w5.heap.size) := HG5.out.size
        go_wp2_with (go_at_call 59; ((with_reducible refine CC.mono ?_); rintro e w6 ⟨D1, D2, D3, g1, g2, g3, rfl, ⟨ho, -⟩, hg⟩; dsimp only [rlV]; have HO6 := Lib.hid ho; have HY6 := Lib.hid (HY5.out.keep hg); have HG6 := Lib.hid (grew_trans HG5.out hg); have HRN : Hid (w.heap.size + 1 < w5.heap.size) := HY5.out.lt; have y0 : w6.cell? ⟨w.heap.size + 1, 0, none⟩ = some (.slice none 0 0) := HY6.out.at 0 _ rfl; have f0 : w6.frozen? ⟨w.heap.size + 1, 0, none⟩ = false := HY6.out.fr 0 (by decide); have y1 : w6.cell? ⟨w.heap.size + 1, 1, none⟩ = some (.slice none 0 0) := HY6.out.at 1 _ rfl; have f1 : w6.frozen? ⟨w.heap.size + 1, 1, none⟩ = false := HY6.out.fr 1 (by decide); have y2 : w6.cell? ⟨w.heap.size + 1, 2, none⟩ = some (.slice none 0 0) := HY6.out.at 2 _ rfl; have f2 : w6.frozen? ⟨w.heap.size + 1, 2, none⟩ = false := HY6.out.fr 2 (by decide); clear ho hg CC))
        have HP := HY6.out.all [Value.slice D1 (putL noMb r.1 (who, 1, need)).length g1, .slice D2 r.2.1.length g2, .slice D3 r.2.2.length g3] rfl
        have HGP := grew_put (w.heap.size + 1) (by show w.heap.size ≤ _; omega) [Value.slice D1 (putL noMb r.1 (who, 1, need)).length g1, .slice D2 r.2.1.length g2, .slice D3 r.2.2.length g3] 0 _ HG6.out
        have hb : w.heap.size + 1 < w5.heap.size + 2 := Nat.lt_of_lt_of_le HRN.out (Nat.le_add_right _ _)
        have Q1 := OwnE.put hb [Value.slice D1 (putL noMb r.1 (who, 1, need)).length g1, .slice D2 r.2.1.length g2, .slice D3 r.2.2.length g3] 0 _ HO6.out.m
        have Q2 := OwnE.put hb [Value.slice D1 (putL noMb r.1 (who, 1, need)).length g1, .slice D2 r.2.1.length g2, .slice D3 r.2.2.length g3] 0 _ HO6.out.i
        have Q3 := OwnE.put hb [Value.slice D1 (putL noMb r.1 (who, 1, need)).length g1, .slice D2 r.2.1.length g2, .slice D3 r.2.2.length g3] 0 _ HO6.out.h
        change bodyPost _ _ _ _ _ (putC w6 (w.heap.size + 1) 0 [.slice D1 (putL noMb r.1 (who, 1, need)).length g1, .slice D2 r.2.1.length g2, .slice D3 r.2.2.length g3])
        generalize putC w6 (w.heap.size + 1) 0 [.slice D1 (putL noMb r.1 (who, 1, need)).length g1, .slice D2 r.2.1.length g2, .slice D3 r.2.2.length g3] = w9 at *
        have z0 : w9.cell? ⟨w.heap.size + 1, 0, none⟩ = _ := HP.at 0 _ rfl
        have z1 : w9.cell? ⟨w.heap.size + 1, 1, none⟩ = _ := HP.at 1 _ rfl
        have z2 : w9.cell? ⟨w.heap.size + 1, 2, none⟩ = _ := HP.at 2 _ rfl
        have HLE : w.heap.size ≤ w5.heap.size + 2 := Nat.le_trans HWS5.out (Nat.le_add_right _ _)
        refine bodyPost_ret (v := .tuple #[.agg #[.slice D1 (putL noMb r.1 (who, 1, need)).length g1, .slice D2 r.2.1.length g2, .slice D3 r.2.2.length g3], .int .i64 0]) (by simp [results, Try.results31, go_sem, z0, z1, z2]) rfl ?_
        exact ⟨D1, D2, D3, g1, g2, g3, rfl, ⟨Q1.mono HLE, Q2.mono HLE, Q3.mono HLE⟩, HGP⟩
    · rw [Bool.not_eq_true] at hm
      rw [hm] at CR
      have hmf : ¬ okMb (who, 1, need) = true := by rw [hm]; decide
      rw [show admitP r who need = (rl0, 3) by unfold admitP; rw [if_pos hr, if_neg hmf]]
      go_enter Try.func31, Try.ntmps31
      go_upto_region 1 with fail
      have HGI : Hid (Grew w ((w.alloc (.cells #[.slice A1 n1 c1, .slice A2 n2 c2, .slice A3 n3 c3] 26)).alloc (.cells #[.slice none 0 0, .slice none 0 0, .slice none 0 0] 26))) := grew_trans (grew_alloc _ _ _) (grew_alloc _ _ _)
      have HX0 : Hid (OwnC ((w.alloc (.cells #[.slice A1 n1 c1, .slice A2 n2 c2, .slice A3 n3 c3] 26)).alloc (.cells #[.slice none 0 0, .slice none 0 0, .slice none 0 0] 26)) w.heap.size [.slice A1 n1 c1, .slice A2 n2 c2, .slice A3 n3 c3]) := (OwnC.new w [.slice A1 n1 c1, .slice A2 n2 c2, .slice A3 n3 c3] _ _ rfl).keep (grew_alloc _ _ _)
      have HY0 : Hid (OwnC ((w.alloc (.cells #[.slice A1 n1 c1, .slice A2 n2 c2, .slice A3 n3 c3] 26)).alloc (.cells #[.slice none 0 0, .slice none 0 0, .slice none 0 0] 26)) (w.heap.size + 1) [.slice none 0 0, .slice none 0 0, .slice none 0 0]) := OwnC.new _ [.slice none 0 0, .slice none 0 0, .slice none 0 0] _ _ (by simp)
      generalize ((w.alloc (.cells #[.slice A1 n1 c1, .slice A2 n2 c2, .slice A3 n3 c3] 26)).alloc (.cells #[.slice none 0 0, .slice none 0 0, .slice none 0 0] 26)) = w0 at *
      have x0 : w0.cell? ⟨w.heap.size, 0, none⟩ = some (.slice A1 n1 c1) := HX0.out.at 0 _ rfl
      have x1 : w0.cell? ⟨w.heap.size, 1, none⟩ = some (.slice A2 n2 c2) := HX0.out.at 1 _ rfl
      have x2 : w0.cell? ⟨w.heap.size, 2, none⟩ = some (.slice A3 n3 c3) := HX0.out.at 2 _ rfl
      go_wp2_with (first
        | (go_at_call 11; ((with_reducible refine (CK _ HGI.out).mono ?_); rintro e w1 ⟨rfl, hg⟩; have HX1 := Lib.hid (HX0.out.keep hg); have HY1 := Lib.hid (HY0.out.keep hg); have HG1 := Lib.hid (grew_trans HGI.out hg); have HGA : Hid (Grew w (w1.alloc (.cells #[.int .i64 who, .int .i64 1, .int .i64 need] 33))) := grew_trans HG1.out (grew_alloc _ _ _); have HXA : Hid (OwnC (w1.alloc (.cells #[.int .i64 who, .int .i64 1, .int .i64 need] 33)) w.heap.size [.slice A1 n1 c1, .slice A2 n2 c2, .slice A3 n3 c3]) := HX1.out.keep (grew_alloc _ _ _); have HYA : Hid (OwnC (w1.alloc (.cells #[.int .i64 who, .int .i64 1, .int .i64 need] 33)) (w.heap.size + 1) [.slice none 0 0, .slice none 0 0, .slice none 0 0]) := HY1.out.keep (grew_alloc _ _ _); have HMA : Hid (OwnC (w1.alloc (.cells #[.int .i64 who, .int .i64 1, .int .i64 need] 33)) w1.heap.size [.int .i64 who, .int .i64 1, .int .i64 need]) := OwnC.new w1 [.int .i64 who, .int .i64 1, .int .i64 need] _ _ rfl; clear hg CK))
        | (go_at_call 46; ((with_reducible refine (CR _).mono ?_); rintro e w2 ⟨rfl, hg⟩; have HX2 := Lib.hid (HXA.out.keep hg); have HY2 := Lib.hid (HYA.out.keep hg); have HM2 := Lib.hid (HMA.out.keep hg); have HG2 := Lib.hid (grew_trans HGA.out hg); have x0 : w2.cell? ⟨w.heap.size, 0, none⟩ = some (.slice A1 n1 c1) := HX2.out.at 0 _ rfl; have x1 : w2.cell? ⟨w.heap.size, 1, none⟩ = some (.slice A2 n2 c2) := HX2.out.at 1 _ rfl; have x2 : w2.cell? ⟨w.heap.size, 2, none⟩ = some (.slice A3 n3 c3) := HX2.out.at 2 _ rfl; have y0 : w2.cell? ⟨w.heap.size + 1, 0, none⟩ = some (.slice none 0 0) := HY2.out.at 0 _ rfl; have f0 : w2.frozen? ⟨w.heap.size + 1, 0, none⟩ = false := HY2.out.fr 0 (by decide); have y1 : w2.cell? ⟨w.heap.size + 1, 1, none⟩ = some (.slice none 0 0) := HY2.out.at 1 _ rfl; have f1 : w2.frozen? ⟨w.heap.size + 1, 1, none⟩ = false := HY2.out.fr 1 (by decide); have y2 : w2.cell? ⟨w.heap.size + 1, 2, none⟩ = some (.slice none 0 0) := HY2.out.at 2 _ rfl; have f2 : w2.frozen? ⟨w.heap.size + 1, 2, none⟩ = false := HY2.out.fr 2 (by decide); clear hg CR))
        | (go_at_call 13; ((with_reducible refine (CM _ HG2.out).mono ?_); rintro e w3 ⟨rfl, hg⟩; have HX3 : Hid (OwnC (w3.alloc (.cells #[.int .i64 p1, .int .i64 p2, .int .i64 p3] 33)) w.heap.size [.slice A1 n1 c1, .slice A2 n2 c2, .slice A3 n3 c3]) := (HX2.out.keep hg).keep (grew_alloc _ _ _); have HY3 : Hid (OwnC (w3.alloc (.cells #[.int .i64 p1, .int .i64 p2, .int .i64 p3] 33)) (w.heap.size + 1) [.slice none 0 0, .slice none 0 0, .slice none 0 0]) := (HY2.out.keep hg).keep (grew_alloc _ _ _); have HM3 : Hid (OwnC (w3.alloc (.cells #[.int .i64 p1, .int .i64 p2, .int .i64 p3] 33)) w1.heap.size [.int .i64 who, .int .i64 1, .int .i64 need]) := (HM2.out.keep hg).keep (grew_alloc _ _ _); have HG3 : Hid (Grew w (w3.alloc (.cells #[.int .i64 p1, .int .i64 p2, .int .i64 p3] 33))) := grew_trans (grew_trans HG2.out hg) (grew_alloc _ _ _); have y0 : (w3.alloc (.cells #[.int .i64 p1, .int .i64 p2, .int .i64 p3] 33)).cell? ⟨w.heap.size + 1, 0, none⟩ = some (.slice none 0 0) := HY3.out.at 0 _ rfl; have f0 : (w3.alloc (.cells #[.int .i64 p1, .int .i64 p2, .int .i64 p3] 33)).frozen? ⟨w.heap.size + 1, 0, none⟩ = false := HY3.out.fr 0 (by decide); have y1 : (w3.alloc (.cells #[.int .i64 p1, .int .i64 p2, .int .i64 p3] 33)).cell? ⟨w.heap.size + 1, 1, none⟩ = some (.slice none 0 0) := HY3.out.at 1 _ rfl; have f1 : (w3.alloc (.cells #[.int .i64 p1, .int .i64 p2, .int .i64 p3] 33)).frozen? ⟨w.heap.size + 1, 1, none⟩ = false := HY3.out.fr 1 (by decide); have y2 : (w3.alloc (.cells #[.int .i64 p1, .int .i64 p2, .int .i64 p3] 33)).cell? ⟨w.heap.size + 1, 2, none⟩ = some (.slice none 0 0) := HY3.out.at 2 _ rfl; have f2 : (w3.alloc (.cells #[.int .i64 p1, .int .i64 p2, .int .i64 p3] 33)).frozen? ⟨w.heap.size + 1, 2, none⟩ = false := HY3.out.fr 2 (by decide); clear hg CM)))
      have HP := HY2.out.all [.slice none 0 0, .slice none 0 0, .slice none 0 0] rfl
      have HGP := grew_put (w.heap.size + 1) (by show w.heap.size ≤ _; omega) [.slice none 0 0, .slice none 0 0, .slice none 0 0] 0 _ HG2.out
      change bodyPost _ _ _ _ _ (putC w2 (w.heap.size + 1) 0 [.slice none 0 0, .slice none 0 0, .slice none 0 0])
      generalize putC w2 (w.heap.size + 1) 0 [.slice none 0 0, .slice none 0 0, .slice none 0 0] = w9 at *
      have z0 : w9.cell? ⟨w.heap.size + 1, 0, none⟩ = _ := HP.at 0 _ rfl
      have z1 : w9.cell? ⟨w.heap.size + 1, 1, none⟩ = _ := HP.at 1 _ rfl
      have z2 : w9.cell? ⟨w.heap.size + 1, 2, none⟩ = _ := HP.at 2 _ rfl
      refine bodyPost_ret (v := .tuple #[.agg #[.slice none 0 0, .slice none 0 0, .slice none 0 0], .int .i64 3]) (by simp [results, Try.results31, go_sem, z0, z1, z2]) rfl ?_
      exact ⟨none, none, none, 0, 0, 0, rfl, own3_nil _ _, HGP⟩
  · rw [Bool.not_eq_true] at hr
    rw [chkV_no hr] at CK
    have hrf : ¬ rightR r = true := by rw [hr]; decide
    rw [show admitP r who need = (rl0, 14) by unfold admitP; rw [if_neg hrf]]
    go_enter Try.func31, Try.ntmps31
    go_upto_region 1 with fail
    have HGI : Hid (Grew w ((w.alloc (.cells #[.slice A1 n1 c1, .slice A2 n2 c2, .slice A3 n3 c3] 26)).alloc (.cells #[.slice none 0 0, .slice none 0 0, .slice none 0 0] 26))) := grew_trans (grew_alloc _ _ _) (grew_alloc _ _ _)
    have HX0 : Hid (OwnC ((w.alloc (.cells #[.slice A1 n1 c1, .slice A2 n2 c2, .slice A3 n3 c3] 26)).alloc (.cells #[.slice none 0 0, .slice none 0 0, .slice none 0 0] 26)) w.heap.size [.slice A1 n1 c1, .slice A2 n2 c2, .slice A3 n3 c3]) := (OwnC.new w [.slice A1 n1 c1, .slice A2 n2 c2, .slice A3 n3 c3] _ _ rfl).keep (grew_alloc _ _ _)
    have HY0 : Hid (OwnC ((w.alloc (.cells #[.slice A1 n1 c1, .slice A2 n2 c2, .slice A3 n3 c3] 26)).alloc (.cells #[.slice none 0 0, .slice none 0 0, .slice none 0 0] 26)) (w.heap.size + 1) [.slice none 0 0, .slice none 0 0, .slice none 0 0]) := OwnC.new _ [.slice none 0 0, .slice none 0 0, .slice none 0 0] _ _ (by simp)
    generalize ((w.alloc (.cells #[.slice A1 n1 c1, .slice A2 n2 c2, .slice A3 n3 c3] 26)).alloc (.cells #[.slice none 0 0, .slice none 0 0, .slice none 0 0] 26)) = w0 at *
    have x0 : w0.cell? ⟨w.heap.size, 0, none⟩ = some (.slice A1 n1 c1) := HX0.out.at 0 _ rfl
    have x1 : w0.cell? ⟨w.heap.size, 1, none⟩ = some (.slice A2 n2 c2) := HX0.out.at 1 _ rfl
    have x2 : w0.cell? ⟨w.heap.size, 2, none⟩ = some (.slice A3 n3 c3) := HX0.out.at 2 _ rfl
    go_wp2_with (go_at_call 11; ((with_reducible refine (CK _ HGI.out).mono ?_); rintro e w1 ⟨rfl, hg⟩; have HX1 := Lib.hid (HX0.out.keep hg); have HY1 := Lib.hid (HY0.out.keep hg); have HG1 := Lib.hid (grew_trans HGI.out hg); have y0 : w1.cell? ⟨w.heap.size + 1, 0, none⟩ = some (.slice none 0 0) := HY1.out.at 0 _ rfl; have f0 : w1.frozen? ⟨w.heap.size + 1, 0, none⟩ = false := HY1.out.fr 0 (by decide); have y1 : w1.cell? ⟨w.heap.size + 1, 1, none⟩ = some (.slice none 0 0) := HY1.out.at 1 _ rfl; have f1 : w1.frozen? ⟨w.heap.size + 1, 1, none⟩ = false := HY1.out.fr 1 (by decide); have y2 : w1.cell? ⟨w.heap.size + 1, 2, none⟩ = some (.slice none 0 0) := HY1.out.at 2 _ rfl; have f2 : w1.frozen? ⟨w.heap.size + 1, 2, none⟩ = false := HY1.out.fr 2 (by decide); clear hg CK))
    have HP := HY1.out.all [.slice none 0 0, .slice none 0 0, .slice none 0 0] rfl
    have HGP := grew_put (w.heap.size + 1) (by show w.heap.size ≤ _; omega) [.slice none 0 0, .slice none 0 0, .slice none 0 0] 0 _ HG1.out
    change bodyPost _ _ _ _ _ (putC w1 (w.heap.size + 1) 0 [.slice none 0 0, .slice none 0 0, .slice none 0 0])
    generalize putC w1 (w.heap.size + 1) 0 [.slice none 0 0, .slice none 0 0, .slice none 0 0] = w9 at *
    have z0 : w9.cell? ⟨w.heap.size + 1, 0, none⟩ = _ := HP.at 0 _ rfl
    have z1 : w9.cell? ⟨w.heap.size + 1, 1, none⟩ = _ := HP.at 1 _ rfl
    have z2 : w9.cell? ⟨w.heap.size + 1, 2, none⟩ = _ := HP.at 2 _ rfl
    refine bodyPost_ret (v := .tuple #[.agg #[.slice none 0 0, .slice none 0 0, .slice none 0 0], .int .i64 14]) (by simp [results, Try.results31, go_sem, z0, z1, z2]) rfl ?_
    exact ⟨none, none, none, 0, 0, 0, rfl, own3_nil _ _, HGP⟩
end Go.Proofs.Ytnbgbfbiieimgaa.NumK
