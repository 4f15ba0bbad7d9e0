/- A list of Mb: whether all of it are right, and it rises. -/
import Derived.Test.YtodnllopokoicaaGreatRG9
import Derived.Test.YtodnllopokoicaaGreatRG1
namespace Go.Proofs.YtodnllopokoicaaGreat.NumK
open Go.RowKit
set_option linter.unusedVariables false

set_option maxRecDepth 100000 in
set_option maxHeartbeats 2000000 in
theorem rightMb_any (A : Option Addr) (n c : Nat) (l : List Mb) (w : World) (h : RowE enMb w A n l) (hn : n ≤ 1000000) :
    Calls Tryz.prog 57 #[.slice A n c, .func (.func 58) #[] #[], .func (.func 59) #[] #[]] w fun e w' => e = .returned (.bool (rightL okMb noMb mb0 l)) ∧ Grew w w' := by
  have HI := Lib.hid h
  have HR : Hid (rightL okMb noMb mb0 l = (List.range n).all (stepOK okMb noMb mb0 l)) := by show _ = _; rw [← h.len]; rfl
  generalize rightL okMb noMb mb0 l = R at *
  clear h
  go_enter Tryz.func57, Tryz.ntmps57
  go_wp2
  go_loopw [11] (fun v wr => ∃ j : Nat, v = .int .i64 j ∧ j ≤ n ∧ Hid ((List.range j).all (stepOK okMb noMb mb0 l) = true) ∧ Hid (Grew w wr)) (fun v _ => n - (intOf v).toNat)
  case atStart => exact ⟨0, rfl, by omega, rfl, grew_refl _⟩
  case round =>
    obtain ⟨j, rfl, hj, HM, HG⟩ := hrel
    by_cases hlt : j < n
    · obtain ⟨b, o, rfl, hb, hc⟩ := (HI.out.keep HG.out).mb hlt
      have HN := Lib.hid (range_all_no (stepOK okMb noMb mb0 l) j n hlt)
      have HY := Lib.hid (range_all_succ (stepOK okMb noMb mb0 l) j)
      have HST : Hid (stepOK okMb noMb mb0 l j = (okMb (l.getD j mb0) && (decide (j = 0) || decide (noMb (l.getD (j - 1) mb0) < noMb (l.getD j mb0))))) := rfl
      generalize stepOK okMb noMb mb0 l j = st at *
      have i0 : (0 : Int) ≤ (j : Int) := by omega
      have i1 : (j : Int) < (n : Int) := by omega
      have CR := fun w => rightMember_any (l.getD j mb0) w
      have CX := fun w => memberNo_any (l.getD j mb0) w
      have CP := fun w => memberNo_any (l.getD (j - 1) mb0) w
      generalize okMb (l.getD j mb0) = ok at *
      obtain ⟨a0, a1, a2⟩ := hc j hlt
      have HPB : Hid (0 < j → CMb wr b (o + (j - 1) * 3) (l.getD (j - 1) mb0)) := fun h0 => hc (j - 1) (by omega)
      clear hc
      have HB := Lib.hid hb
      clear hb
      generalize noMb (l.getD j mb0) = nx at *
      generalize noMb (l.getD (j - 1) mb0) = np at *
      generalize l.getD j mb0 = x at *
      generalize l.getD (j - 1) mb0 = p at *
      obtain ⟨q1, q2, q3⟩ := x
      dsimp only at a0 a1 a2 
      dsimp only [vMb] at CR CX CP
      have HW0G : Hid (Grew wr (wr.alloc (.cells #[.int .i64 q1, .int .i64 q2, .int .i64 q3] 123))) := grew_alloc _ _ _
      go_wp2_with fail
      have hw0 : (wr.alloc (.cells #[.int .i64 q1, .int .i64 q2, .int .i64 q3] 123)).cell? ⟨wr.heap.size, 0, none⟩ = some (.int .i64 q1) ∧ (wr.alloc (.cells #[.int .i64 q1, .int .i64 q2, .int .i64 q3] 123)).cell? ⟨wr.heap.size, 1, none⟩ = some (.int .i64 q2) ∧ (wr.alloc (.cells #[.int .i64 q1, .int .i64 q2, .int .i64 q3] 123)).cell? ⟨wr.heap.size, 2, none⟩ = some (.int .i64 q3) ∧ wr.heap.size < (wr.alloc (.cells #[.int .i64 q1, .int .i64 q2, .int .i64 q3] 123)).heap.size := ⟨by simp, by simp, by simp, by simp⟩
      generalize wr.alloc (.cells #[.int .i64 q1, .int .i64 q2, .int .i64 q3] 123) = w0 at hw0 HW0G ⊢
      obtain ⟨d0, d1, d2, hw0⟩ := hw0
      have y0 : ∀ p : GrewTo w0, p.to.cell? ⟨wr.heap.size, 0, none⟩ = _ := fun p => (grew_cell p.h (p := ⟨wr.heap.size, 0, none⟩) hw0).trans d0; have y1 : ∀ p : GrewTo w0, p.to.cell? ⟨wr.heap.size, 1, none⟩ = _ := fun p => (grew_cell p.h (p := ⟨wr.heap.size, 1, none⟩) hw0).trans d1; have y2 : ∀ p : GrewTo w0, p.to.cell? ⟨wr.heap.size, 2, none⟩ = _ := fun p => (grew_cell p.h (p := ⟨wr.heap.size, 2, none⟩) hw0).trans d2
      clear a0 a1 a2  d0 d1 d2  hw0
      cases ok
      · have HF : Hid (R = false) := by show _ = _; rw [HR.out]; exact (HN.out (by rw [HST.out]; rfl)).symm
        clear HN HY HST HM HR HPB CX CP
        refine wp_region_grew (by kernel_rfl) (by kernel_rfl) ?_
        repeat (go_big_quiet_step (with_reducible exact calls_grew (CR _)))
        refine wpQuiet_nil ?_
        intro w5 hw'
        have HG5 := Lib.hid (grew_of hw')
        clear hw' y0 y1 y2 
        go_wp2
        go_ret
        exact ⟨ret_b HF.out.symm, grew_trans HG.out (grew_trans HW0G.out HG5.out)⟩
      · cases j with
        | zero =>
          have HM2 := Lib.hid (HY.out.trans (by rw [HST.out]))
          clear HN HY HST HM HPB CX CP
          refine wp_region_grew (by kernel_rfl) (by kernel_rfl) ?_
          repeat (go_big_quiet_step (with_reducible exact calls_grew (CR _)))
          refine wpQuiet_nil ?_
          intro w5 hw'
          have HG5 := Lib.hid (grew_of hw')
          clear hw' y0 y1 y2 
          go_wp2
          go_roundw
          case rel => exact ⟨1, by go_num, by omega, HM2.out, grew_trans HG.out (grew_trans HW0G.out HG5.out)⟩
          case measure => simp only [intOf]; omega
        | succ i =>
          obtain ⟨e0, e1, e2⟩ := HPB.out (by omega)
          rw [show i + 1 - 1 = i from rfl] at e0 e1 e2 
          have HST2 : Hid (st = decide (np < nx)) := by show _ = _; rw [HST.out]; simp
          have q5 : IntKind.i64.wrap (((i + 1 : Nat) : Int) - 1) = (i : Int) := by rw [IntKind.wrap_i64]; omega
          have q6 : (0 : Int) < ((i + 1 : Nat) : Int) := by omega
          have q7 : (i : Int) < (n : Int) := by omega
          have q8 : (0 : Int) ≤ (i : Int) := by omega
          clear HPB HST
          obtain ⟨p1, p2, p3⟩ := p
          dsimp only at e0 e1 e2  CP
          have HWB : Hid (b < w0.heap.size) := Nat.lt_of_lt_of_le HB.out HW0G.out.size
          have z0 : ∀ p : GrewTo w0, p.to.cell? ⟨b, o + i * 3, none⟩ = _ := fun p => (grew_cell p.h (p := ⟨b, _, none⟩) HWB.out).trans ((grew_cell HW0G.out (p := ⟨b, _, none⟩) HB.out).trans e0); have z1 : ∀ p : GrewTo w0, p.to.cell? ⟨b, o + i * 3 + 1, none⟩ = _ := fun p => (grew_cell p.h (p := ⟨b, _, none⟩) HWB.out).trans ((grew_cell HW0G.out (p := ⟨b, _, none⟩) HB.out).trans e1); have z2 : ∀ p : GrewTo w0, p.to.cell? ⟨b, o + i * 3 + 2, none⟩ = _ := fun p => (grew_cell p.h (p := ⟨b, _, none⟩) HWB.out).trans ((grew_cell HW0G.out (p := ⟨b, _, none⟩) HB.out).trans e2)
          clear e0 e1 e2 
          by_cases hnp : np < nx
          · have HM2 := Lib.hid (HY.out.trans (by rw [HST2.out, decide_eq_true hnp, HM.out]))
            have q9 : ¬ (np ≥ nx) := by omega
            clear HN HY HST2 HM hnp
            refine wp_region_grew (by kernel_rfl) (by kernel_rfl) ?_
            repeat (go_big_quiet_step (with_reducible (first | exact calls_grew (CR _) | exact calls_grew (CX _) | exact calls_grew (CP _))))
            refine wpQuiet_nil ?_
            intro w5 hw'
            have HG5 := Lib.hid (grew_of hw')
            clear hw' y0 y1 y2  z0 z1 z2 
            go_wp2
            go_roundw
            case rel => exact ⟨i + 1 + 1, by go_num, by omega, HM2.out, grew_trans HG.out (grew_trans HW0G.out HG5.out)⟩
            case measure => simp only [intOf]; omega
          · have HF : Hid (R = false) := by show _ = _; rw [HR.out]; exact (HN.out (by rw [HST2.out, decide_eq_false hnp])).symm
            have q9 : np ≥ nx := by omega
            clear HN HY HST2 HM hnp HR
            refine wp_region_grew (by kernel_rfl) (by kernel_rfl) ?_
            repeat (go_big_quiet_step (with_reducible (first | exact calls_grew (CR _) | exact calls_grew (CX _) | exact calls_grew (CP _))))
            refine wpQuiet_nil ?_
            intro w5 hw'
            have HG5 := Lib.hid (grew_of hw')
            clear hw' y0 y1 y2  z0 z1 z2 
            go_wp2
            go_ret
            exact ⟨ret_b HF.out.symm, grew_trans HG.out (grew_trans HW0G.out HG5.out)⟩
    · obtain rfl : j = n := by omega
      have HF : Hid (R = true) := by show _ = _; rw [HR.out]; exact HM.out
      clear HM HR
      go_wp2
      go_ret
      exact ⟨ret_b HF.out.symm, HG.out⟩
end Go.Proofs.YtodnllopokoicaaGreat.NumK
