/- Whether a roll is right: the document's word. -/
import Derived.Test.YtodnllopokoicaaGreatRG13
namespace Go.Proofs.YtodnllopokoicaaGreat.NumK
open Go.RowKit
set_option linter.unusedVariables false

theorem right_no1 {r : Rl} (h : false = rightL okMb noMb mb0 r.1) : false = rightR r := by unfold rightR; rw [← h]; rfl
theorem right_no2 {r : Rl} (h : false = rightL okIn noIn in0 r.2.1) : false = rightR r := by unfold rightR; rw [← h]; simp
theorem right_no3 {r : Rl} (h : false = rightL okAs noAs as0 r.2.2) : false = rightR r := by unfold rightR; rw [← h]; simp
theorem right_yes {r : Rl} (h1 : rightL okMb noMb mb0 r.1 = true) (h2 : rightL okIn noIn in0 r.2.1 = true) (h3 : rightL okAs noAs as0 r.2.2 = true) : rightR r = true := by unfold rightR; rw [h1, h2, h3]; rfl
set_option maxRecDepth 100000 in
set_option maxHeartbeats 8000000 in
theorem rroll_any (r : Rl) (A1 A2 A3 : Option Addr) (n1 n2 n3 c1 c2 c3 : Nat) (w : World) (h : Rows3 w r A1 A2 A3 n1 n2 n3) (hn : n1 ≤ 1000000 ∧ n2 ≤ 1000000 ∧ n3 ≤ 1000000) :
    Calls Tryz.prog 29 #[rlV A1 A2 A3 n1 n2 n3 c1 c2 c3] w fun e w' => e = .returned (.bool (rightR r)) ∧ Grew w w' := by
  have HI := Lib.hid h
  have HR1 : Hid (rightL okMb noMb mb0 r.1 = (List.range n1).all (stepOK okMb noMb mb0 r.1)) := by show _ = _; rw [← h.m.len]; rfl
  have HR2 : Hid (rightL okIn noIn in0 r.2.1 = (List.range n2).all (stepOK okIn noIn in0 r.2.1)) := by show _ = _; rw [← h.i.len]; rfl
  have HR3 : Hid (rightL okAs noAs as0 r.2.2 = (List.range n3).all (stepOK okAs noAs as0 r.2.2)) := by show _ = _; rw [← h.h.len]; rfl
  have HN1 := Lib.hid (@right_no1 r)
  have HN2 := Lib.hid (@right_no2 r)
  have HN3 := Lib.hid (@right_no3 r)
  have HYY := Lib.hid (@right_yes r)
  generalize rightR r = R at *
  have HG0 : Hid (Grew w (w.alloc (.cells #[.slice A1 n1 c1, .slice A2 n2 c2, .slice A3 n3 c3] 28))) := grew_alloc _ _ _
  have HX0 : Hid (OwnC (w.alloc (.cells #[.slice A1 n1 c1, .slice A2 n2 c2, .slice A3 n3 c3] 28)) w.heap.size [.slice A1 n1 c1, .slice A2 n2 c2, .slice A3 n3 c3]) := OwnC.new w [.slice A1 n1 c1, .slice A2 n2 c2, .slice A3 n3 c3] _ _ rfl
  clear h
  dsimp only [rlV]
  go_enter Tryz.func29, Tryz.ntmps29
  go_wp2
  generalize w.alloc (.cells #[.slice A1 n1 c1, .slice A2 n2 c2, .slice A3 n3 c3] 28) = w0 at *
  go_loopw [3] (fun v wr => ∃ j : Nat, v = .int .i64 j ∧ j ≤ n1 ∧ Hid ((List.range j).all (stepOK okMb noMb mb0 r.1) = true) ∧ Hid (Grew w0 wr)) (fun v _ => n1 - (intOf v).toNat)
  case atStart => exact ⟨0, rfl, by omega, rfl, grew_refl _⟩
  case round =>
    obtain ⟨j, rfl, hj, HM, HGx⟩ := hrel
    have HG := Lib.hid (grew_trans HG0.out HGx.out)
    have HX := Lib.hid (HX0.out.keep HGx.out)
    have px : wr.cell? ⟨w.heap.size, 0, none⟩ = some (.slice A1 n1 c1) := HX.out.at 0 _ rfl
    by_cases hlt : j < n1
    · obtain ⟨b, o, rfl, hb, hc⟩ := (HI.out.m.keep HG.out).mb hlt
      have HNO := Lib.hid (range_all_no (stepOK okMb noMb mb0 r.1) j n1 hlt)
      have HY := Lib.hid (range_all_succ (stepOK okMb noMb mb0 r.1) j)
      have HST : Hid (stepOK okMb noMb mb0 r.1 j = (okMb (r.1.getD j mb0) && (decide (j = 0) || decide (noMb (r.1.getD (j - 1) mb0) < noMb (r.1.getD j mb0))))) := rfl
      generalize stepOK okMb noMb mb0 r.1 j = st at *
      have i0 : (0 : Int) ≤ (j : Int) := by omega
      have i1 : (j : Int) < (n1 : Int) := by omega
      have CR := fun w => rmember_any (r.1.getD j mb0) w
      generalize okMb (r.1.getD j mb0) = ok at *
      obtain ⟨a0, a1, a2⟩ := hc j hlt
      have HPB : Hid (0 < j → wr.cell? ⟨b, o + (j - 1) * 3, none⟩ = some (.int .i64 (r.1.getD (j - 1) mb0).1)) := fun h0 => (hc (j - 1) (by omega)).1
      clear hc
      have HB := Lib.hid hb
      clear hb
      have HNX : Hid (noMb (r.1.getD j mb0) = (r.1.getD j mb0).1) := rfl
      have HNP : Hid (noMb (r.1.getD (j - 1) mb0) = (r.1.getD (j - 1) mb0).1) := rfl
      rw [HNX.out, HNP.out] at HST
      clear HNX HNP
      generalize r.1.getD j mb0 = x at *
      generalize (r.1.getD (j - 1) mb0).1 = np at *
      obtain ⟨q1, q2, q3⟩ := x
      dsimp only at a0 a1 a2  HST
      dsimp only [vMb] at CR
      have yx : ∀ p : GrewTo wr, p.to.cell? ⟨w.heap.size, 0, none⟩ = _ := fun p => (grew_cell p.h (p := ⟨w.heap.size, 0, none⟩) HX.out.lt).trans px
      have y0 : ∀ p : GrewTo wr, p.to.cell? ⟨b, o + j * 3, none⟩ = _ := fun p => (grew_cell p.h (p := ⟨b, _, none⟩) HB.out).trans a0; have y1 : ∀ p : GrewTo wr, p.to.cell? ⟨b, o + j * 3 + 1, none⟩ = _ := fun p => (grew_cell p.h (p := ⟨b, _, none⟩) HB.out).trans a1; have y2 : ∀ p : GrewTo wr, p.to.cell? ⟨b, o + j * 3 + 2, none⟩ = _ := fun p => (grew_cell p.h (p := ⟨b, _, none⟩) HB.out).trans a2
      clear a0 a1 a2 
      go_wp2_with fail
      clear px
      cases ok
      · have HF : Hid (false = R) := HN1.out (by rw [HR1.out]; exact HNO.out (by rw [HST.out]; rfl))
        clear HNO HY HST HM HPB
        refine wp_region_grew (by kernel_rfl) (by kernel_rfl) ?_
        repeat (go_big_quiet_step (with_reducible exact calls_grew (CR _)))
        refine wpQuiet_nil ?_
        intro w5 hw'
        have HG5 := Lib.hid (grew_of hw')
        clear hw' y0 y1 y2  yx
        go_wp2
        go_ret
        exact ⟨ret_b HF.out, grew_trans HG.out HG5.out⟩
      · by_cases hj0 : j = 0
        · have HM2 := Lib.hid (HY.out.trans (by rw [HST.out, decide_eq_true hj0, HM.out]))
          have q6x : decide (0 < j) = false := by simp [hj0]
          clear HNO HY HST HM HPB hj0
          refine wp_region_grew (by kernel_rfl) (by kernel_rfl) ?_
          repeat (go_big_quiet_step (with_reducible exact calls_grew (CR _)))
          refine wpQuiet_nil ?_
          intro w5 hw'
          have HG5 := Lib.hid (grew_of hw')
          clear hw' y0 y1 y2  yx
          go_wp2
          go_roundw
          case rel => exact ⟨j + 1, by go_num, by omega, HM2.out, grew_trans HGx.out HG5.out⟩
          case measure => simp only [intOf]; omega
        · obtain ⟨i, rfl⟩ : ∃ i, j = i + 1 := ⟨j - 1, by omega⟩
          have e0 := HPB.out (by omega)
          rw [show i + 1 - 1 = i from rfl] at e0
          have HST2 : Hid (st = decide (np < q1)) := by show _ = _; rw [HST.out]; simp
          have q5x : IntKind.i64.wrap (((i + 1 : Nat) : Int) - 1) = (i : Int) := by rw [IntKind.wrap_i64]; omega
          have q6x : (0 : Int) < ((i + 1 : Nat) : Int) := by omega
          have q7x : (i : Int) < (n1 : Int) := by omega
          have q8x : (0 : Int) ≤ (i : Int) := by omega
          clear HPB HST
          have z0 : ∀ p : GrewTo wr, p.to.cell? ⟨b, o + i * 3, none⟩ = _ := fun p => (grew_cell p.h (p := ⟨b, _, none⟩) HB.out).trans e0
          clear e0
          by_cases hnp : np < q1
          · have HM2 := Lib.hid (HY.out.trans (by rw [HST2.out, decide_eq_true hnp, HM.out]))
            have q9x : ¬ (q1 ≤ np) := by omega
            clear HNO HY HST2 HM hnp
            refine wp_region_grew (by kernel_rfl) (by kernel_rfl) ?_
            repeat (go_big_quiet_step (with_reducible exact calls_grew (CR _)))
            refine wpQuiet_nil ?_
            intro w5 hw'
            have HG5 := Lib.hid (grew_of hw')
            clear hw' y0 y1 y2  yx z0
            go_wp2
            go_roundw
            case rel => exact ⟨i + 1 + 1, by go_num, by omega, HM2.out, grew_trans HGx.out HG5.out⟩
            case measure => simp only [intOf]; omega
          · have HF : Hid (false = R) := HN1.out (by rw [HR1.out]; exact HNO.out (by rw [HST2.out, decide_eq_false hnp]))
            have q9x : q1 ≤ np := by omega
            clear HNO HY HST2 HM hnp
            refine wp_region_grew (by kernel_rfl) (by kernel_rfl) ?_
            repeat (go_big_quiet_step (with_reducible exact calls_grew (CR _)))
            refine wpQuiet_nil ?_
            intro w5 hw'
            have HG5 := Lib.hid (grew_of hw')
            clear hw' y0 y1 y2  yx z0
            go_wp2
            go_ret
            exact ⟨ret_b HF.out, grew_trans HG.out HG5.out⟩
    · obtain rfl : j = n1 := by omega
      have HT1 := Lib.hid (HR1.out.trans HM.out)
      clear HM HR1 hlt hj HG HX
      go_wp2
      generalize wr = wM at *
      have HGxM := HGx
      go_loopw [4] (fun v wr => ∃ j : Nat, v = .int .i64 j ∧ j ≤ n2 ∧ Hid ((List.range j).all (stepOK okIn noIn in0 r.2.1) = true) ∧ Hid (Grew w0 wr)) (fun v _ => n2 - (intOf v).toNat)
      case atStart => exact ⟨0, rfl, by omega, rfl, HGxM.out⟩
      case round =>
        obtain ⟨j, rfl, hj, HM, HGx⟩ := hrel
        have HG := Lib.hid (grew_trans HG0.out HGx.out)
        have HX := Lib.hid (HX0.out.keep HGx.out)
        have px : wr.cell? ⟨w.heap.size, 1, none⟩ = some (.slice A2 n2 c2) := HX.out.at 1 _ rfl
        by_cases hlt : j < n2
        · obtain ⟨b, o, rfl, hb, hc⟩ := (HI.out.i.keep HG.out).in hlt
          have HNO := Lib.hid (range_all_no (stepOK okIn noIn in0 r.2.1) j n2 hlt)
          have HY := Lib.hid (range_all_succ (stepOK okIn noIn in0 r.2.1) j)
          have HST : Hid (stepOK okIn noIn in0 r.2.1 j = (okIn (r.2.1.getD j in0) && (decide (j = 0) || decide (noIn (r.2.1.getD (j - 1) in0) < noIn (r.2.1.getD j in0))))) := rfl
          generalize stepOK okIn noIn in0 r.2.1 j = st at *
          have i0 : (0 : Int) ≤ (j : Int) := by omega
          have i1 : (j : Int) < (n2 : Int) := by omega
          have CR := fun w => rinst_any (r.2.1.getD j in0) w
          generalize okIn (r.2.1.getD j in0) = ok at *
          obtain ⟨a0, a1, a2, a3, a4, a5, a6, a7, a8, a9, a10, a11⟩ := hc j hlt
          have HPB : Hid (0 < j → wr.cell? ⟨b, o + (j - 1) * 12, none⟩ = some (.int .i64 (r.2.1.getD (j - 1) in0).1.1)) := fun h0 => (hc (j - 1) (by omega)).1
          clear hc
          have HB := Lib.hid hb
          clear hb
          have HNX : Hid (noIn (r.2.1.getD j in0) = (r.2.1.getD j in0).1.1) := rfl
          have HNP : Hid (noIn (r.2.1.getD (j - 1) in0) = (r.2.1.getD (j - 1) in0).1.1) := rfl
          rw [HNX.out, HNP.out] at HST
          clear HNX HNP
          generalize r.2.1.getD j in0 = x at *
          generalize (r.2.1.getD (j - 1) in0).1.1 = np at *
          obtain ⟨⟨q1, q2, q3, q4, q5, q6⟩, ⟨q7, q8, q9, q10, q11, q12⟩⟩ := x
          dsimp only at a0 a1 a2 a3 a4 a5 a6 a7 a8 a9 a10 a11  HST
          dsimp only [vIn] at CR
          have yx : ∀ p : GrewTo wr, p.to.cell? ⟨w.heap.size, 1, none⟩ = _ := fun p => (grew_cell p.h (p := ⟨w.heap.size, 1, none⟩) HX.out.lt).trans px
          have y0 : ∀ p : GrewTo wr, p.to.cell? ⟨b, o + j * 12, none⟩ = _ := fun p => (grew_cell p.h (p := ⟨b, _, none⟩) HB.out).trans a0; have y1 : ∀ p : GrewTo wr, p.to.cell? ⟨b, o + j * 12 + 1, none⟩ = _ := fun p => (grew_cell p.h (p := ⟨b, _, none⟩) HB.out).trans a1; have y2 : ∀ p : GrewTo wr, p.to.cell? ⟨b, o + j * 12 + 2, none⟩ = _ := fun p => (grew_cell p.h (p := ⟨b, _, none⟩) HB.out).trans a2; have y3 : ∀ p : GrewTo wr, p.to.cell? ⟨b, o + j * 12 + 3, none⟩ = _ := fun p => (grew_cell p.h (p := ⟨b, _, none⟩) HB.out).trans a3; have y4 : ∀ p : GrewTo wr, p.to.cell? ⟨b, o + j * 12 + 4, none⟩ = _ := fun p => (grew_cell p.h (p := ⟨b, _, none⟩) HB.out).trans a4; have y5 : ∀ p : GrewTo wr, p.to.cell? ⟨b, o + j * 12 + 5, none⟩ = _ := fun p => (grew_cell p.h (p := ⟨b, _, none⟩) HB.out).trans a5; have y6 : ∀ p : GrewTo wr, p.to.cell? ⟨b, o + j * 12 + 6, none⟩ = _ := fun p => (grew_cell p.h (p := ⟨b, _, none⟩) HB.out).trans a6; have y7 : ∀ p : GrewTo wr, p.to.cell? ⟨b, o + j * 12 + 7, none⟩ = _ := fun p => (grew_cell p.h (p := ⟨b, _, none⟩) HB.out).trans a7; have y8 : ∀ p : GrewTo wr, p.to.cell? ⟨b, o + j * 12 + 8, none⟩ = _ := fun p => (grew_cell p.h (p := ⟨b, _, none⟩) HB.out).trans a8; have y9 : ∀ p : GrewTo wr, p.to.cell? ⟨b, o + j * 12 + 9, none⟩ = _ := fun p => (grew_cell p.h (p := ⟨b, _, none⟩) HB.out).trans a9; have y10 : ∀ p : GrewTo wr, p.to.cell? ⟨b, o + j * 12 + 10, none⟩ = _ := fun p => (grew_cell p.h (p := ⟨b, _, none⟩) HB.out).trans a10; have y11 : ∀ p : GrewTo wr, p.to.cell? ⟨b, o + j * 12 + 11, none⟩ = _ := fun p => (grew_cell p.h (p := ⟨b, _, none⟩) HB.out).trans a11
          clear a0 a1 a2 a3 a4 a5 a6 a7 a8 a9 a10 a11 
          go_wp2_with fail
          clear px
          cases ok
          · have HF : Hid (false = R) := HN2.out (by rw [HR2.out]; exact HNO.out (by rw [HST.out]; rfl))
            clear HNO HY HST HM HPB
            refine wp_region_grew (by kernel_rfl) (by kernel_rfl) ?_
            repeat (go_big_quiet_step (with_reducible exact calls_grew (CR _)))
            refine wpQuiet_nil ?_
            intro w5 hw'
            have HG5 := Lib.hid (grew_of hw')
            clear hw' y0 y1 y2 y3 y4 y5 y6 y7 y8 y9 y10 y11  yx
            go_wp2
            go_ret
            exact ⟨ret_b HF.out, grew_trans HG.out HG5.out⟩
          · by_cases hj0 : j = 0
            · have HM2 := Lib.hid (HY.out.trans (by rw [HST.out, decide_eq_true hj0, HM.out]))
              have q6x : decide (0 < j) = false := by simp [hj0]
              clear HNO HY HST HM HPB hj0
              refine wp_region_grew (by kernel_rfl) (by kernel_rfl) ?_
              repeat (go_big_quiet_step (with_reducible exact calls_grew (CR _)))
              refine wpQuiet_nil ?_
              intro w5 hw'
              have HG5 := Lib.hid (grew_of hw')
              clear hw' y0 y1 y2 y3 y4 y5 y6 y7 y8 y9 y10 y11  yx
              go_wp2
              go_roundw
              case rel => exact ⟨j + 1, by go_num, by omega, HM2.out, grew_trans HGx.out HG5.out⟩
              case measure => simp only [intOf]; omega
            · obtain ⟨i, rfl⟩ : ∃ i, j = i + 1 := ⟨j - 1, by omega⟩
              have e0 := HPB.out (by omega)
              rw [show i + 1 - 1 = i from rfl] at e0
              have HST2 : Hid (st = decide (np < q1)) := by show _ = _; rw [HST.out]; simp
              have q5x : IntKind.i64.wrap (((i + 1 : Nat) : Int) - 1) = (i : Int) := by rw [IntKind.wrap_i64]; omega
              have q6x : (0 : Int) < ((i + 1 : Nat) : Int) := by omega
              have q7x : (i : Int) < (n2 : Int) := by omega
              have q8x : (0 : Int) ≤ (i : Int) := by omega
              clear HPB HST
              have z0 : ∀ p : GrewTo wr, p.to.cell? ⟨b, o + i * 12, none⟩ = _ := fun p => (grew_cell p.h (p := ⟨b, _, none⟩) HB.out).trans e0
              clear e0
              by_cases hnp : np < q1
              · have HM2 := Lib.hid (HY.out.trans (by rw [HST2.out, decide_eq_true hnp, HM.out]))
                have q9x : ¬ (q1 ≤ np) := by omega
                clear HNO HY HST2 HM hnp
                refine wp_region_grew (by kernel_rfl) (by kernel_rfl) ?_
                repeat (go_big_quiet_step (with_reducible exact calls_grew (CR _)))
                refine wpQuiet_nil ?_
                intro w5 hw'
                have HG5 := Lib.hid (grew_of hw')
                clear hw' y0 y1 y2 y3 y4 y5 y6 y7 y8 y9 y10 y11  yx z0
                go_wp2
                go_roundw
                case rel => exact ⟨i + 1 + 1, by go_num, by omega, HM2.out, grew_trans HGx.out HG5.out⟩
                case measure => simp only [intOf]; omega
              · have HF : Hid (false = R) := HN2.out (by rw [HR2.out]; exact HNO.out (by rw [HST2.out, decide_eq_false hnp]))
                have q9x : q1 ≤ np := by omega
                clear HNO HY HST2 HM hnp
                refine wp_region_grew (by kernel_rfl) (by kernel_rfl) ?_
                repeat (go_big_quiet_step (with_reducible exact calls_grew (CR _)))
                refine wpQuiet_nil ?_
                intro w5 hw'
                have HG5 := Lib.hid (grew_of hw')
                clear hw' y0 y1 y2 y3 y4 y5 y6 y7 y8 y9 y10 y11  yx z0
                go_wp2
                go_ret
                exact ⟨ret_b HF.out, grew_trans HG.out HG5.out⟩
        · obtain rfl : j = n2 := by omega
          have HT2 := Lib.hid (HR2.out.trans HM.out)
          clear HM HR2 hlt hj HG HX
          go_wp2
          generalize wr = wI at *
          have HGxI := HGx
          go_loopw [5] (fun v wr => ∃ j : Nat, v = .int .i64 j ∧ j ≤ n3 ∧ Hid ((List.range j).all (stepOK okAs noAs as0 r.2.2) = true) ∧ Hid (Grew w0 wr)) (fun v _ => n3 - (intOf v).toNat)
          case atStart => exact ⟨0, rfl, by omega, rfl, HGxI.out⟩
          case round =>
            obtain ⟨j, rfl, hj, HM, HGx⟩ := hrel
            have HG := Lib.hid (grew_trans HG0.out HGx.out)
            have HX := Lib.hid (HX0.out.keep HGx.out)
            have px : wr.cell? ⟨w.heap.size, 2, none⟩ = some (.slice A3 n3 c3) := HX.out.at 2 _ rfl
            by_cases hlt : j < n3
            · obtain ⟨b, o, rfl, hb, hc⟩ := (HI.out.h.keep HG.out).as hlt
              have HNO := Lib.hid (range_all_no (stepOK okAs noAs as0 r.2.2) j n3 hlt)
              have HY := Lib.hid (range_all_succ (stepOK okAs noAs as0 r.2.2) j)
              have HST : Hid (stepOK okAs noAs as0 r.2.2 j = (okAs (r.2.2.getD j as0) && (decide (j = 0) || decide (noAs (r.2.2.getD (j - 1) as0) < noAs (r.2.2.getD j as0))))) := rfl
              generalize stepOK okAs noAs as0 r.2.2 j = st at *
              have i0 : (0 : Int) ≤ (j : Int) := by omega
              have i1 : (j : Int) < (n3 : Int) := by omega
              have CR := fun w => rasset_any (r.2.2.getD j as0) w
              generalize okAs (r.2.2.getD j as0) = ok at *
              obtain ⟨a0, a1, a2, a3⟩ := hc j hlt
              have HPB : Hid (0 < j → wr.cell? ⟨b, o + (j - 1) * 4, none⟩ = some (.int .i64 (r.2.2.getD (j - 1) as0).1)) := fun h0 => (hc (j - 1) (by omega)).1
              clear hc
              have HB := Lib.hid hb
              clear hb
              have HNX : Hid (noAs (r.2.2.getD j as0) = (r.2.2.getD j as0).1) := rfl
              have HNP : Hid (noAs (r.2.2.getD (j - 1) as0) = (r.2.2.getD (j - 1) as0).1) := rfl
              rw [HNX.out, HNP.out] at HST
              clear HNX HNP
              generalize r.2.2.getD j as0 = x at *
              generalize (r.2.2.getD (j - 1) as0).1 = np at *
              obtain ⟨q1, q2, q3, q4⟩ := x
              dsimp only at a0 a1 a2 a3  HST
              dsimp only [vAs] at CR
              have yx : ∀ p : GrewTo wr, p.to.cell? ⟨w.heap.size, 2, none⟩ = _ := fun p => (grew_cell p.h (p := ⟨w.heap.size, 2, none⟩) HX.out.lt).trans px
              have y0 : ∀ p : GrewTo wr, p.to.cell? ⟨b, o + j * 4, none⟩ = _ := fun p => (grew_cell p.h (p := ⟨b, _, none⟩) HB.out).trans a0; have y1 : ∀ p : GrewTo wr, p.to.cell? ⟨b, o + j * 4 + 1, none⟩ = _ := fun p => (grew_cell p.h (p := ⟨b, _, none⟩) HB.out).trans a1; have y2 : ∀ p : GrewTo wr, p.to.cell? ⟨b, o + j * 4 + 2, none⟩ = _ := fun p => (grew_cell p.h (p := ⟨b, _, none⟩) HB.out).trans a2; have y3 : ∀ p : GrewTo wr, p.to.cell? ⟨b, o + j * 4 + 3, none⟩ = _ := fun p => (grew_cell p.h (p := ⟨b, _, none⟩) HB.out).trans a3
              clear a0 a1 a2 a3 
              go_wp2_with fail
              clear px
              cases ok
              · have HF : Hid (false = R) := HN3.out (by rw [HR3.out]; exact HNO.out (by rw [HST.out]; rfl))
                clear HNO HY HST HM HPB
                refine wp_region_grew (by kernel_rfl) (by kernel_rfl) ?_
                repeat (go_big_quiet_step (with_reducible exact calls_grew (CR _)))
                refine wpQuiet_nil ?_
                intro w5 hw'
                have HG5 := Lib.hid (grew_of hw')
                clear hw' y0 y1 y2 y3  yx
                go_wp2
                go_ret
                exact ⟨ret_b HF.out, grew_trans HG.out HG5.out⟩
              · by_cases hj0 : j = 0
                · have HM2 := Lib.hid (HY.out.trans (by rw [HST.out, decide_eq_true hj0, HM.out]))
                  have q6x : decide (0 < j) = false := by simp [hj0]
                  clear HNO HY HST HM HPB hj0
                  refine wp_region_grew (by kernel_rfl) (by kernel_rfl) ?_
                  repeat (go_big_quiet_step (with_reducible exact calls_grew (CR _)))
                  refine wpQuiet_nil ?_
                  intro w5 hw'
                  have HG5 := Lib.hid (grew_of hw')
                  clear hw' y0 y1 y2 y3  yx
                  go_wp2
                  go_roundw
                  case rel => exact ⟨j + 1, by go_num, by omega, HM2.out, grew_trans HGx.out HG5.out⟩
                  case measure => simp only [intOf]; omega
                · obtain ⟨i, rfl⟩ : ∃ i, j = i + 1 := ⟨j - 1, by omega⟩
                  have e0 := HPB.out (by omega)
                  rw [show i + 1 - 1 = i from rfl] at e0
                  have HST2 : Hid (st = decide (np < q1)) := by show _ = _; rw [HST.out]; simp
                  have q5x : IntKind.i64.wrap (((i + 1 : Nat) : Int) - 1) = (i : Int) := by rw [IntKind.wrap_i64]; omega
                  have q6x : (0 : Int) < ((i + 1 : Nat) : Int) := by omega
                  have q7x : (i : Int) < (n3 : Int) := by omega
                  have q8x : (0 : Int) ≤ (i : Int) := by omega
                  clear HPB HST
                  have z0 : ∀ p : GrewTo wr, p.to.cell? ⟨b, o + i * 4, none⟩ = _ := fun p => (grew_cell p.h (p := ⟨b, _, none⟩) HB.out).trans e0
                  clear e0
                  by_cases hnp : np < q1
                  · have HM2 := Lib.hid (HY.out.trans (by rw [HST2.out, decide_eq_true hnp, HM.out]))
                    have q9x : ¬ (q1 ≤ np) := by omega
                    clear HNO HY HST2 HM hnp
                    refine wp_region_grew (by kernel_rfl) (by kernel_rfl) ?_
                    repeat (go_big_quiet_step (with_reducible exact calls_grew (CR _)))
                    refine wpQuiet_nil ?_
                    intro w5 hw'
                    have HG5 := Lib.hid (grew_of hw')
                    clear hw' y0 y1 y2 y3  yx z0
                    go_wp2
                    go_roundw
                    case rel => exact ⟨i + 1 + 1, by go_num, by omega, HM2.out, grew_trans HGx.out HG5.out⟩
                    case measure => simp only [intOf]; omega
                  · have HF : Hid (false = R) := HN3.out (by rw [HR3.out]; exact HNO.out (by rw [HST2.out, decide_eq_false hnp]))
                    have q9x : q1 ≤ np := by omega
                    clear HNO HY HST2 HM hnp
                    refine wp_region_grew (by kernel_rfl) (by kernel_rfl) ?_
                    repeat (go_big_quiet_step (with_reducible exact calls_grew (CR _)))
                    refine wpQuiet_nil ?_
                    intro w5 hw'
                    have HG5 := Lib.hid (grew_of hw')
                    clear hw' y0 y1 y2 y3  yx z0
                    go_wp2
                    go_ret
                    exact ⟨ret_b HF.out, grew_trans HG.out HG5.out⟩
            · obtain rfl : j = n3 := by omega
              have HT3 := Lib.hid (HR3.out.trans HM.out)
              clear HM HR3 hlt hj HG HX
              have HF := Lib.hid (HYY.out HT1.out HT2.out HT3.out)
              go_wp2
              go_ret
              exact ⟨ret_b HF.out.symm, grew_trans HG0.out HGx.out⟩
end Go.Proofs.YtodnllopokoicaaGreat.NumK
