/- Legs: which are the same; a twin; May. -/
import Derived.Test.YtmbhkeppikaeaaaLegA
namespace Go.Proofs.Ytmbhkeppikaeaaa.NumK
open Go.RowKit

theorem pair_ne {a b : Ac} {x y : Int} : decide ((a, x) = (b, y)) = (decide (a = b) && decide (x = y)) := by
  rw [Bool.eq_iff_iff]; simp

set_option maxRecDepth 100000 in
theorem keepLegs_any (A B : Option Addr) (n m c d : Nat) (l r : List Lg) (w : World) (h : RowE enLg w A n l) (h2 : RowE enLg w B m r) (hn : n ≤ 1000000) :
    Calls Try.prog 14 #[.slice A n c, .slice B m d] w fun e w' => e = .returned (.bool (decide (l = r))) ∧ Grew w w' := by
  have HI := Lib.hid h
  have HJ := Lib.hid h2
  have HL := Lib.hid h.len
  have HM := Lib.hid h2.len
  clear h h2
  by_cases hnm : n = m
  · subst hnm
    go_enter Try.func14, Try.ntmps14
    go_wp2
    go_loopw [5] (fun v5 wr => ∃ j : Nat, v5 = .int .i64 j ∧ j ≤ n ∧ Hid (l.take j = r.take j) ∧ Hid (Grew w wr)) (fun v5 _ => n - (intOf v5).toNat)
    case atStart => exact ⟨0, rfl, by omega, rfl, grew_refl _⟩
    case round =>
      obtain ⟨j, rfl, hj, HE, HG⟩ := hrel
      by_cases hlt : j < n
      · obtain ⟨b, o, rfl, hb, a1, a2, a3, a7⟩ := (HI.out.keep HG.out).lg hlt
        obtain ⟨b2, o2, rfl, hb2, a4, a5, a6, a8⟩ := (HJ.out.keep HG.out).lg hlt
        have HT1 := Lib.hid (take_snoc l j lg0 (by rw [HL.out]; exact hlt))
        have HT2 := Lib.hid (take_snoc r j lg0 (by rw [HM.out]; exact hlt))
        have x1 : ∀ p : GrewTo wr, p.to.cell? ⟨b, o + j * 4, none⟩ = _ := fun p => (grew_cell p.h (p := ⟨b, o + j * 4, none⟩) hb).trans a1
        have x2 : ∀ p : GrewTo wr, p.to.cell? ⟨b, o + j * 4 + 1, none⟩ = _ := fun p => (grew_cell p.h (p := ⟨b, o + j * 4 + 1, none⟩) hb).trans a2
        have x3 : ∀ p : GrewTo wr, p.to.cell? ⟨b, o + j * 4 + 2, none⟩ = _ := fun p => (grew_cell p.h (p := ⟨b, o + j * 4 + 2, none⟩) hb).trans a3
        have x4 : ∀ p : GrewTo wr, p.to.cell? ⟨b, o + j * 4 + 3, none⟩ = _ := fun p => (grew_cell p.h (p := ⟨b, o + j * 4 + 3, none⟩) hb).trans a7
        have y1 : ∀ p : GrewTo wr, p.to.cell? ⟨b2, o2 + j * 4, none⟩ = _ := fun p => (grew_cell p.h (p := ⟨b2, o2 + j * 4, none⟩) hb2).trans a4
        have y2 : ∀ p : GrewTo wr, p.to.cell? ⟨b2, o2 + j * 4 + 1, none⟩ = _ := fun p => (grew_cell p.h (p := ⟨b2, o2 + j * 4 + 1, none⟩) hb2).trans a5
        have y3 : ∀ p : GrewTo wr, p.to.cell? ⟨b2, o2 + j * 4 + 2, none⟩ = _ := fun p => (grew_cell p.h (p := ⟨b2, o2 + j * 4 + 2, none⟩) hb2).trans a6
        have y4 : ∀ p : GrewTo wr, p.to.cell? ⟨b2, o2 + j * 4 + 3, none⟩ = _ := fun p => (grew_cell p.h (p := ⟨b2, o2 + j * 4 + 3, none⟩) hb2).trans a8
        have CK := fun w => keepAcct_any (l.getD j lg0).1.1 (l.getD j lg0).1.2.1 (l.getD j lg0).1.2.2 (r.getD j lg0).1.1 (r.getD j lg0).1.2.1 (r.getD j lg0).1.2.2 w
        rw [sameA_iff] at CK
        clear a1 a2 a3 a4 a5 a6 a7 a8
        generalize hX : l.getD j lg0 = X at *
        generalize hY : r.getD j lg0 = Y at *
        have i0 : (0 : Int) ≤ (j : Int) := by omega
        have i1 : (j : Int) < (n : Int) := by omega
        unfold acV at CK
        by_cases hxy : X.1 = Y.1
        · rw [decide_eq_true hxy] at CK
          by_cases hz : X.2 = Y.2
          · have HN : Hid (l.take (j + 1) = r.take (j + 1)) := by show _ = _; rw [HT1.out, HT2.out, HE.out, Prod.ext hxy hz]
            rw [hz] at x4
            clear HT1 HT2 hxy hX hY hz
            generalize X.1.1 = q1 at *
            generalize X.1.2.1 = q2 at *
            generalize X.1.2.2 = q3 at *
            generalize Y.1.1 = p1 at *
            generalize Y.1.2.1 = p2 at *
            generalize Y.1.2.2 = p3 at *
            generalize Y.2 = p4 at *
            go_wp2_with fail
            refine wp_region_grew (by kernel_rfl) (by kernel_rfl) ?_
            repeat (go_big_quiet_step (with_reducible exact calls_grew (CK _)))
            refine wpQuiet_nil ?_
            intro w2 hw'
            have HG2 := Lib.hid (grew_trans HG.out (grew_of hw'))
            clear hw' x1 x2 x3 x4 y1 y2 y3 y4
            go_wp2
            go_roundw
            case rel => exact ⟨j + 1, by go_num, by omega, HN, HG2⟩
            case measure => simp only [intOf]; omega
          · have HN : Hid (false = decide (l = r)) := by
              show _ = _
              symm; rw [decide_eq_false_iff_not]; rintro rfl; exact hz (congrArg Prod.snd (hX.symm.trans hY))
            clear HT1 HT2 hxy hX hY
            generalize X.1.1 = q1 at *
            generalize X.1.2.1 = q2 at *
            generalize X.1.2.2 = q3 at *
            generalize Y.1.1 = p1 at *
            generalize Y.1.2.1 = p2 at *
            generalize Y.1.2.2 = p3 at *
            generalize Y.2 = p4 at *
            generalize X.2 = q4 at *
            have d4 : (q4 != p4) = true := by simpa using hz
            go_wp2_with fail
            refine wp_region_grew (by kernel_rfl) (by kernel_rfl) ?_
            repeat (go_big_quiet_step (with_reducible exact calls_grew (CK _)))
            refine wpQuiet_nil ?_
            intro w2 hw'
            have HG2 := Lib.hid (grew_trans HG.out (grew_of hw'))
            clear hw' x1 x2 x3 x4 y1 y2 y3 y4
            go_wp2
            go_ret
            exact ⟨ret_b HN.out, HG2.out⟩
        · rw [decide_eq_false hxy] at CK
          have HN : Hid (false = decide (l = r)) := by
            show _ = _
            symm; rw [decide_eq_false_iff_not]; rintro rfl; exact hxy (congrArg Prod.fst (hX.symm.trans hY))
          clear HT1 HT2 hxy hX hY
          generalize X.1.1 = q1 at *
          generalize X.1.2.1 = q2 at *
          generalize X.1.2.2 = q3 at *
          generalize Y.1.1 = p1 at *
          generalize Y.1.2.1 = p2 at *
          generalize Y.1.2.2 = p3 at *
          generalize Y.2 = p4 at *
          generalize X.2 = q4 at *
          go_wp2_with fail
          refine wp_region_grew (by kernel_rfl) (by kernel_rfl) ?_
          repeat (go_big_quiet_step (with_reducible exact calls_grew (CK _)))
          refine wpQuiet_nil ?_
          intro w2 hw'
          have HG2 := Lib.hid (grew_trans HG.out (grew_of hw'))
          clear hw' x1 x2 x3 x4 y1 y2 y3 y4
          go_wp2
          go_ret
          exact ⟨ret_b HN.out, HG2.out⟩
      · obtain rfl : j = n := by omega
        have HN : Hid (true = decide (l = r)) := by
          show _ = _
          have := HE.out
          rw [List.take_of_length_le (by rw [HL.out]; exact Nat.le_refl _), List.take_of_length_le (by rw [HM.out]; exact Nat.le_refl _)] at this
          symm; rw [decide_eq_true_iff]; exact this
        go_wp2
        go_ret
        exact ⟨ret_b HN.out, HG.out⟩
  · have d1 : ((n : Int) != (m : Int)) = true := by simp; omega
    have HN : Hid (false = decide (l = r)) := by
      show _ = _
      symm; rw [decide_eq_false_iff_not]; rintro rfl; exact hnm (HL.out.symm.trans HM.out)
    go_enter Try.func14, Try.ntmps14
    go_wp2
    go_ret
    exact ⟨ret_b HN.out, grew_refl _⟩

theorem twinLegs_any (A : Option Addr) (n c : Nat) (l : List Lg) (w : World) (h : RowE enLg w A n l) (hA : A = none → c = 0) (hn : n ≤ 1000000) :
    Calls Try.prog 9 #[.slice A n c] w fun e w' => ∃ v, e = .returned v ∧ OwnE enLg w' w.heap.size 40 v l ∧ Grew w w' := by
  have HI := Lib.hid h
  have HA := Lib.hid hA
  clear h hA
  go_enter Try.func9, Try.ntmps9
  go_wp2_with (at_builtin; refine (wpList_append_E rfl _ _ 22 40 (legV 0 0 0 0) 32 rfl Try.underlying22 info_lg rfl w.heap.size _ [] rfl (OwnE.nil enLg _ _ _) A n c l rfl HA.out HI.out (by simp; unfold maxLen; omega) (by simp; omega) (Nat.le_refl _) ?_); intro v' w' ho hb; rw [List.nil_append] at ho; have HP := Lib.hid ho; have HB : Hid (Grew w w') := hb; clear ho hb)
  go_ret
  exact ⟨_, rfl, HP.out, HB.out⟩

set_option maxRecDepth 100000 in
theorem refMay_any (A : Option Addr) (n c : Nat) (l : List Lg) (w : World) (h : RowE enLg w A n l) (hn : n ≤ 9223372036854775807) :
    Calls Try.prog 24 #[.slice A n c] w fun e w' => e = .returned (.bool (mayL l)) ∧ Grew w w' := by
  have HI := Lib.hid h
  have HL := Lib.hid h.len
  clear h
  go_enter Try.func24, Try.ntmps24
  go_wp2
  go_loopw [3] (fun v7 wr => ∃ j : Nat, v7 = .int .i64 j ∧ j ≤ n ∧ Hid (mayL (l.take j) = true) ∧ Hid (Grew w wr)) (fun v7 _ => n - (intOf v7).toNat)
  case atStart => exact ⟨0, rfl, by omega, rfl, grew_refl _⟩
  case round =>
    obtain ⟨j, rfl, hj, HM, HG⟩ := hrel
    by_cases hlt : j < n
    · obtain ⟨b, o, rfl, hb, a1, a2, a3, a4⟩ := (HI.out.keep HG.out).lg hlt
      have HS := Lib.hid (may_succ l j (by rw [HL.out]; exact hlt))
      have HN : Hid (okL (l.getD j lg0) = false → false = mayL l) := may_no l j (by rw [HL.out]; exact hlt)
      have CR := fun w => r8right_any (l.getD j lg0).1.1 (l.getD j lg0).1.2.1 (l.getD j lg0).1.2.2 w
      have C1 := fun w => refRight_any (l.getD j lg0).2 w
      have HO : Hid (okL (l.getD j lg0) = (rightA (l.getD j lg0).1.1 (l.getD j lg0).1.2.1 (l.getD j lg0).1.2.2 && isMoney (l.getD j lg0).2)) := rfl
      have i1 : (j : Int) < (n : Int) := by omega
      have HB := Lib.hid hb
      clear hb
      generalize okL (l.getD j lg0) = ok at *
      unfold acV at CR
      generalize rightA (l.getD j lg0).1.1 (l.getD j lg0).1.2.1 (l.getD j lg0).1.2.2 = R at *
      generalize isMoney (l.getD j lg0).2 = M at *
      generalize (l.getD j lg0).1.1 = q1 at *
      generalize (l.getD j lg0).1.2.1 = q2 at *
      generalize (l.getD j lg0).1.2.2 = q3 at *
      generalize (l.getD j lg0).2 = q4 at *
      cases R
      · have HF := Lib.hid (HN.out (by rw [HO.out]; rfl))
        clear HN HS HO C1
        go_wp2_with (go_at_call 21; ((with_reducible refine (CR _).mono ?_); rintro e w1 ⟨rfl, hg⟩; have HG1 := Lib.hid (grew_trans HG.out hg); clear hg))
        go_ret
        exact ⟨ret_b HF.out, HG1.out⟩
      · cases M
        · have HF := Lib.hid (HN.out (by rw [HO.out]; rfl))
          clear HN HS HO
          go_wp2_with (first
            | (go_at_call 21; ((with_reducible refine (CR _).mono ?_); rintro e w1 ⟨rfl, hg⟩; have d4 : w1.cell? ⟨b, o + j * 4 + 3, none⟩ = some (.int .i64 q4) := (grew_cell hg (p := ⟨b, o + j * 4 + 3, none⟩) HB.out).trans a4; have HG1 := Lib.hid (grew_trans HG.out hg); clear hg))
            | (go_at_call 34; ((with_reducible refine (C1 _).mono ?_); rintro e w2 ⟨rfl, rfl⟩)))
          go_ret
          exact ⟨ret_b HF.out, HG1.out⟩
        · have HM2 : Hid (mayL (l.take (j + 1)) = true) := by show _ = _; rw [HS.out, HM.out, HO.out]; rfl
          clear HN HS HO
          go_wp2_with (first
            | (go_at_call 21; ((with_reducible refine (CR _).mono ?_); rintro e w1 ⟨rfl, hg⟩; have d4 : w1.cell? ⟨b, o + j * 4 + 3, none⟩ = some (.int .i64 q4) := (grew_cell hg (p := ⟨b, o + j * 4 + 3, none⟩) HB.out).trans a4; have HG1 := Lib.hid (grew_trans HG.out hg); clear hg))
            | (go_at_call 34; ((with_reducible refine (C1 _).mono ?_); rintro e w2 ⟨rfl, rfl⟩)))
          go_roundw
          case rel => exact ⟨j + 1, by go_num, by omega, HM2, HG1⟩
          case measure => simp only [intOf]; omega
    · obtain rfl : j = n := by omega
      have HE : Hid (true = mayL l) := by
        have := HM.out
        rw [List.take_of_length_le (by rw [HL.out]; exact Nat.le_refl _)] at this
        exact this.symm
      go_wp2
      go_ret
      exact ⟨ret_b HE.out, HG.out⟩
end Go.Proofs.Ytmbhkeppikaeaaa.NumK
