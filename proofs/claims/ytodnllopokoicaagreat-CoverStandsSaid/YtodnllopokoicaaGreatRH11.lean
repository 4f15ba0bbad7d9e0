/- A list of In: whether all of it are right, and it rises. -/
import Derived.Test.YtodnllopokoicaaGreatRH9
import Derived.Test.YtodnllopokoicaaGreatRH1
namespace Go.Proofs.YtodnllopokoicaaGreat.NumK
open Go.RowKit
set_option linter.unusedVariables false

set_option maxRecDepth 100000 in
set_option maxHeartbeats 2000000 in
theorem rightIn_any (A : Option Addr) (n c : Nat) (l : List In) (w : World) (h : RowE enIn w A n l) (hn : n ≤ 1000000) :
    Calls Tryz.prog 60 #[.slice A n c, .func (.func 61) #[] #[], .func (.func 62) #[] #[]] w fun e w' => e = .returned (.bool (rightL okIn noIn in0 l)) ∧ Grew w w' := by
  have HI := Lib.hid h
  have HR : Hid (rightL okIn noIn in0 l = (List.range n).all (stepOK okIn noIn in0 l)) := by show _ = _; rw [← h.len]; rfl
  generalize rightL okIn noIn in0 l = R at *
  clear h
  go_enter Tryz.func60, Tryz.ntmps60
  go_wp2
  go_loopw [11] (fun v wr => ∃ j : Nat, v = .int .i64 j ∧ j ≤ n ∧ Hid ((List.range j).all (stepOK okIn noIn in0 l) = true) ∧ Hid (Grew w wr)) (fun v _ => n - (intOf v).toNat)
  case atStart => exact ⟨0, rfl, by omega, rfl, grew_refl _⟩
  case round =>
    obtain ⟨j, rfl, hj, HM, HG⟩ := hrel
    by_cases hlt : j < n
    · obtain ⟨b, o, rfl, hb, hc⟩ := (HI.out.keep HG.out).in hlt
      have HN := Lib.hid (range_all_no (stepOK okIn noIn in0 l) j n hlt)
      have HY := Lib.hid (range_all_succ (stepOK okIn noIn in0 l) j)
      have HST : Hid (stepOK okIn noIn in0 l j = (okIn (l.getD j in0) && (decide (j = 0) || decide (noIn (l.getD (j - 1) in0) < noIn (l.getD j in0))))) := rfl
      generalize stepOK okIn noIn in0 l j = st at *
      have i0 : (0 : Int) ≤ (j : Int) := by omega
      have i1 : (j : Int) < (n : Int) := by omega
      have CR := fun w => rightInst_any (l.getD j in0) w
      have CX := fun w => instNo_any (l.getD j in0) w
      have CP := fun w => instNo_any (l.getD (j - 1) in0) w
      generalize okIn (l.getD j in0) = ok at *
      obtain ⟨a0, a1, a2, a3, a4, a5, a6, a7, a8, a9, a10, a11⟩ := hc j hlt
      have HPB : Hid (0 < j → CIn wr b (o + (j - 1) * 12) (l.getD (j - 1) in0)) := fun h0 => hc (j - 1) (by omega)
      clear hc
      have HB := Lib.hid hb
      clear hb
      generalize noIn (l.getD j in0) = nx at *
      generalize noIn (l.getD (j - 1) in0) = np at *
      generalize l.getD j in0 = x at *
      generalize l.getD (j - 1) in0 = p at *
      obtain ⟨⟨q1, q2, q3, q4, q5, q6⟩, ⟨q7, q8, q9, q10, q11, q12⟩⟩ := x
      dsimp only at a0 a1 a2 a3 a4 a5 a6 a7 a8 a9 a10 a11 
      dsimp only [vIn] at CR CX CP
      have HW0G : Hid (Grew wr (wr.alloc (.cells #[.int .i64 q1, .int .i64 q2, .int .i64 q3, .int .i64 q4, .int .i64 q5, .int .i64 q6, .int .i64 q7, .int .i64 q8, .int .i64 q9, .int .i64 q10, .int .i64 q11, .int .i64 q12] 105))) := grew_alloc _ _ _
      go_wp2_with fail
      have hw0 : (wr.alloc (.cells #[.int .i64 q1, .int .i64 q2, .int .i64 q3, .int .i64 q4, .int .i64 q5, .int .i64 q6, .int .i64 q7, .int .i64 q8, .int .i64 q9, .int .i64 q10, .int .i64 q11, .int .i64 q12] 105)).cell? ⟨wr.heap.size, 0, none⟩ = some (.int .i64 q1) ∧ (wr.alloc (.cells #[.int .i64 q1, .int .i64 q2, .int .i64 q3, .int .i64 q4, .int .i64 q5, .int .i64 q6, .int .i64 q7, .int .i64 q8, .int .i64 q9, .int .i64 q10, .int .i64 q11, .int .i64 q12] 105)).cell? ⟨wr.heap.size, 1, none⟩ = some (.int .i64 q2) ∧ (wr.alloc (.cells #[.int .i64 q1, .int .i64 q2, .int .i64 q3, .int .i64 q4, .int .i64 q5, .int .i64 q6, .int .i64 q7, .int .i64 q8, .int .i64 q9, .int .i64 q10, .int .i64 q11, .int .i64 q12] 105)).cell? ⟨wr.heap.size, 2, none⟩ = some (.int .i64 q3) ∧ (wr.alloc (.cells #[.int .i64 q1, .int .i64 q2, .int .i64 q3, .int .i64 q4, .int .i64 q5, .int .i64 q6, .int .i64 q7, .int .i64 q8, .int .i64 q9, .int .i64 q10, .int .i64 q11, .int .i64 q12] 105)).cell? ⟨wr.heap.size, 3, none⟩ = some (.int .i64 q4) ∧ (wr.alloc (.cells #[.int .i64 q1, .int .i64 q2, .int .i64 q3, .int .i64 q4, .int .i64 q5, .int .i64 q6, .int .i64 q7, .int .i64 q8, .int .i64 q9, .int .i64 q10, .int .i64 q11, .int .i64 q12] 105)).cell? ⟨wr.heap.size, 4, none⟩ = some (.int .i64 q5) ∧ (wr.alloc (.cells #[.int .i64 q1, .int .i64 q2, .int .i64 q3, .int .i64 q4, .int .i64 q5, .int .i64 q6, .int .i64 q7, .int .i64 q8, .int .i64 q9, .int .i64 q10, .int .i64 q11, .int .i64 q12] 105)).cell? ⟨wr.heap.size, 5, none⟩ = some (.int .i64 q6) ∧ (wr.alloc (.cells #[.int .i64 q1, .int .i64 q2, .int .i64 q3, .int .i64 q4, .int .i64 q5, .int .i64 q6, .int .i64 q7, .int .i64 q8, .int .i64 q9, .int .i64 q10, .int .i64 q11, .int .i64 q12] 105)).cell? ⟨wr.heap.size, 6, none⟩ = some (.int .i64 q7) ∧ (wr.alloc (.cells #[.int .i64 q1, .int .i64 q2, .int .i64 q3, .int .i64 q4, .int .i64 q5, .int .i64 q6, .int .i64 q7, .int .i64 q8, .int .i64 q9, .int .i64 q10, .int .i64 q11, .int .i64 q12] 105)).cell? ⟨wr.heap.size, 7, none⟩ = some (.int .i64 q8) ∧ (wr.alloc (.cells #[.int .i64 q1, .int .i64 q2, .int .i64 q3, .int .i64 q4, .int .i64 q5, .int .i64 q6, .int .i64 q7, .int .i64 q8, .int .i64 q9, .int .i64 q10, .int .i64 q11, .int .i64 q12] 105)).cell? ⟨wr.heap.size, 8, none⟩ = some (.int .i64 q9) ∧ (wr.alloc (.cells #[.int .i64 q1, .int .i64 q2, .int .i64 q3, .int .i64 q4, .int .i64 q5, .int .i64 q6, .int .i64 q7, .int .i64 q8, .int .i64 q9, .int .i64 q10, .int .i64 q11, .int .i64 q12] 105)).cell? ⟨wr.heap.size, 9, none⟩ = some (.int .i64 q10) ∧ (wr.alloc (.cells #[.int .i64 q1, .int .i64 q2, .int .i64 q3, .int .i64 q4, .int .i64 q5, .int .i64 q6, .int .i64 q7, .int .i64 q8, .int .i64 q9, .int .i64 q10, .int .i64 q11, .int .i64 q12] 105)).cell? ⟨wr.heap.size, 10, none⟩ = some (.int .i64 q11) ∧ (wr.alloc (.cells #[.int .i64 q1, .int .i64 q2, .int .i64 q3, .int .i64 q4, .int .i64 q5, .int .i64 q6, .int .i64 q7, .int .i64 q8, .int .i64 q9, .int .i64 q10, .int .i64 q11, .int .i64 q12] 105)).cell? ⟨wr.heap.size, 11, none⟩ = some (.int .i64 q12) ∧ wr.heap.size < (wr.alloc (.cells #[.int .i64 q1, .int .i64 q2, .int .i64 q3, .int .i64 q4, .int .i64 q5, .int .i64 q6, .int .i64 q7, .int .i64 q8, .int .i64 q9, .int .i64 q10, .int .i64 q11, .int .i64 q12] 105)).heap.size := ⟨by simp, by simp, by simp, by simp, by simp, by simp, by simp, by simp, by simp, by simp, by simp, by simp, by simp⟩
      generalize wr.alloc (.cells #[.int .i64 q1, .int .i64 q2, .int .i64 q3, .int .i64 q4, .int .i64 q5, .int .i64 q6, .int .i64 q7, .int .i64 q8, .int .i64 q9, .int .i64 q10, .int .i64 q11, .int .i64 q12] 105) = w0 at hw0 HW0G ⊢
      obtain ⟨d0, d1, d2, d3, d4, d5, d6, d7, d8, d9, d10, d11, hw0⟩ := hw0
      have y0 : ∀ p : GrewTo w0, p.to.cell? ⟨wr.heap.size, 0, none⟩ = _ := fun p => (grew_cell p.h (p := ⟨wr.heap.size, 0, none⟩) hw0).trans d0; have y1 : ∀ p : GrewTo w0, p.to.cell? ⟨wr.heap.size, 1, none⟩ = _ := fun p => (grew_cell p.h (p := ⟨wr.heap.size, 1, none⟩) hw0).trans d1; have y2 : ∀ p : GrewTo w0, p.to.cell? ⟨wr.heap.size, 2, none⟩ = _ := fun p => (grew_cell p.h (p := ⟨wr.heap.size, 2, none⟩) hw0).trans d2; have y3 : ∀ p : GrewTo w0, p.to.cell? ⟨wr.heap.size, 3, none⟩ = _ := fun p => (grew_cell p.h (p := ⟨wr.heap.size, 3, none⟩) hw0).trans d3; have y4 : ∀ p : GrewTo w0, p.to.cell? ⟨wr.heap.size, 4, none⟩ = _ := fun p => (grew_cell p.h (p := ⟨wr.heap.size, 4, none⟩) hw0).trans d4; have y5 : ∀ p : GrewTo w0, p.to.cell? ⟨wr.heap.size, 5, none⟩ = _ := fun p => (grew_cell p.h (p := ⟨wr.heap.size, 5, none⟩) hw0).trans d5; have y6 : ∀ p : GrewTo w0, p.to.cell? ⟨wr.heap.size, 6, none⟩ = _ := fun p => (grew_cell p.h (p := ⟨wr.heap.size, 6, none⟩) hw0).trans d6; have y7 : ∀ p : GrewTo w0, p.to.cell? ⟨wr.heap.size, 7, none⟩ = _ := fun p => (grew_cell p.h (p := ⟨wr.heap.size, 7, none⟩) hw0).trans d7; have y8 : ∀ p : GrewTo w0, p.to.cell? ⟨wr.heap.size, 8, none⟩ = _ := fun p => (grew_cell p.h (p := ⟨wr.heap.size, 8, none⟩) hw0).trans d8; have y9 : ∀ p : GrewTo w0, p.to.cell? ⟨wr.heap.size, 9, none⟩ = _ := fun p => (grew_cell p.h (p := ⟨wr.heap.size, 9, none⟩) hw0).trans d9; have y10 : ∀ p : GrewTo w0, p.to.cell? ⟨wr.heap.size, 10, none⟩ = _ := fun p => (grew_cell p.h (p := ⟨wr.heap.size, 10, none⟩) hw0).trans d10; have y11 : ∀ p : GrewTo w0, p.to.cell? ⟨wr.heap.size, 11, none⟩ = _ := fun p => (grew_cell p.h (p := ⟨wr.heap.size, 11, none⟩) hw0).trans d11
      clear a0 a1 a2 a3 a4 a5 a6 a7 a8 a9 a10 a11  d0 d1 d2 d3 d4 d5 d6 d7 d8 d9 d10 d11  hw0
      cases ok
      · have HF : Hid (R = false) := by show _ = _; rw [HR.out]; exact (HN.out (by rw [HST.out]; rfl)).symm
        clear HN HY HST HM HR HPB CX CP
        refine wp_region_grew (by kernel_rfl) (by kernel_rfl) ?_
        repeat (go_big_quiet_step (with_reducible exact calls_grew (CR _)))
        refine wpQuiet_nil ?_
        intro w5 hw'
        have HG5 := Lib.hid (grew_of hw')
        clear hw' y0 y1 y2 y3 y4 y5 y6 y7 y8 y9 y10 y11 
        go_wp2
        go_ret
        exact ⟨ret_b HF.out.symm, grew_trans HG.out (grew_trans HW0G.out HG5.out)⟩
      · cases j with
        | zero =>
          have HM2 := Lib.hid (HY.out.trans (by rw [HST.out]))
          clear HN HY HST HM HPB CX CP
          refine wp_region_grew (by kernel_rfl) (by kernel_rfl) ?_
          repeat (go_big_quiet_step (with_reducible exact calls_grew (CR _)))
          refine wpQuiet_nil ?_
          intro w5 hw'
          have HG5 := Lib.hid (grew_of hw')
          clear hw' y0 y1 y2 y3 y4 y5 y6 y7 y8 y9 y10 y11 
          go_wp2
          go_roundw
          case rel => exact ⟨1, by go_num, by omega, HM2.out, grew_trans HG.out (grew_trans HW0G.out HG5.out)⟩
          case measure => simp only [intOf]; omega
        | succ i =>
          obtain ⟨e0, e1, e2, e3, e4, e5, e6, e7, e8, e9, e10, e11⟩ := HPB.out (by omega)
          rw [show i + 1 - 1 = i from rfl] at e0 e1 e2 e3 e4 e5 e6 e7 e8 e9 e10 e11 
          have HST2 : Hid (st = decide (np < nx)) := by show _ = _; rw [HST.out]; simp
          have q5 : IntKind.i64.wrap (((i + 1 : Nat) : Int) - 1) = (i : Int) := by rw [IntKind.wrap_i64]; omega
          have q6 : (0 : Int) < ((i + 1 : Nat) : Int) := by omega
          have q7 : (i : Int) < (n : Int) := by omega
          have q8 : (0 : Int) ≤ (i : Int) := by omega
          clear HPB HST
          obtain ⟨⟨p1, p2, p3, p4, p5, p6⟩, ⟨p7, p8, p9, p10, p11, p12⟩⟩ := p
          dsimp only at e0 e1 e2 e3 e4 e5 e6 e7 e8 e9 e10 e11  CP
          have HWB : Hid (b < w0.heap.size) := Nat.lt_of_lt_of_le HB.out HW0G.out.size
          have z0 : ∀ p : GrewTo w0, p.to.cell? ⟨b, o + i * 12, none⟩ = _ := fun p => (grew_cell p.h (p := ⟨b, _, none⟩) HWB.out).trans ((grew_cell HW0G.out (p := ⟨b, _, none⟩) HB.out).trans e0); have z1 : ∀ p : GrewTo w0, p.to.cell? ⟨b, o + i * 12 + 1, none⟩ = _ := fun p => (grew_cell p.h (p := ⟨b, _, none⟩) HWB.out).trans ((grew_cell HW0G.out (p := ⟨b, _, none⟩) HB.out).trans e1); have z2 : ∀ p : GrewTo w0, p.to.cell? ⟨b, o + i * 12 + 2, none⟩ = _ := fun p => (grew_cell p.h (p := ⟨b, _, none⟩) HWB.out).trans ((grew_cell HW0G.out (p := ⟨b, _, none⟩) HB.out).trans e2); have z3 : ∀ p : GrewTo w0, p.to.cell? ⟨b, o + i * 12 + 3, none⟩ = _ := fun p => (grew_cell p.h (p := ⟨b, _, none⟩) HWB.out).trans ((grew_cell HW0G.out (p := ⟨b, _, none⟩) HB.out).trans e3); have z4 : ∀ p : GrewTo w0, p.to.cell? ⟨b, o + i * 12 + 4, none⟩ = _ := fun p => (grew_cell p.h (p := ⟨b, _, none⟩) HWB.out).trans ((grew_cell HW0G.out (p := ⟨b, _, none⟩) HB.out).trans e4); have z5 : ∀ p : GrewTo w0, p.to.cell? ⟨b, o + i * 12 + 5, none⟩ = _ := fun p => (grew_cell p.h (p := ⟨b, _, none⟩) HWB.out).trans ((grew_cell HW0G.out (p := ⟨b, _, none⟩) HB.out).trans e5); have z6 : ∀ p : GrewTo w0, p.to.cell? ⟨b, o + i * 12 + 6, none⟩ = _ := fun p => (grew_cell p.h (p := ⟨b, _, none⟩) HWB.out).trans ((grew_cell HW0G.out (p := ⟨b, _, none⟩) HB.out).trans e6); have z7 : ∀ p : GrewTo w0, p.to.cell? ⟨b, o + i * 12 + 7, none⟩ = _ := fun p => (grew_cell p.h (p := ⟨b, _, none⟩) HWB.out).trans ((grew_cell HW0G.out (p := ⟨b, _, none⟩) HB.out).trans e7); have z8 : ∀ p : GrewTo w0, p.to.cell? ⟨b, o + i * 12 + 8, none⟩ = _ := fun p => (grew_cell p.h (p := ⟨b, _, none⟩) HWB.out).trans ((grew_cell HW0G.out (p := ⟨b, _, none⟩) HB.out).trans e8); have z9 : ∀ p : GrewTo w0, p.to.cell? ⟨b, o + i * 12 + 9, none⟩ = _ := fun p => (grew_cell p.h (p := ⟨b, _, none⟩) HWB.out).trans ((grew_cell HW0G.out (p := ⟨b, _, none⟩) HB.out).trans e9); have z10 : ∀ p : GrewTo w0, p.to.cell? ⟨b, o + i * 12 + 10, none⟩ = _ := fun p => (grew_cell p.h (p := ⟨b, _, none⟩) HWB.out).trans ((grew_cell HW0G.out (p := ⟨b, _, none⟩) HB.out).trans e10); have z11 : ∀ p : GrewTo w0, p.to.cell? ⟨b, o + i * 12 + 11, none⟩ = _ := fun p => (grew_cell p.h (p := ⟨b, _, none⟩) HWB.out).trans ((grew_cell HW0G.out (p := ⟨b, _, none⟩) HB.out).trans e11)
          clear e0 e1 e2 e3 e4 e5 e6 e7 e8 e9 e10 e11 
          by_cases hnp : np < nx
          · have HM2 := Lib.hid (HY.out.trans (by rw [HST2.out, decide_eq_true hnp, HM.out]))
            have q9 : ¬ (np ≥ nx) := by omega
            clear HN HY HST2 HM hnp
            refine wp_region_grew (by kernel_rfl) (by kernel_rfl) ?_
            repeat (go_big_quiet_step (with_reducible (first | exact calls_grew (CR _) | exact calls_grew (CX _) | exact calls_grew (CP _))))
            refine wpQuiet_nil ?_
            intro w5 hw'
            have HG5 := Lib.hid (grew_of hw')
            clear hw' y0 y1 y2 y3 y4 y5 y6 y7 y8 y9 y10 y11  z0 z1 z2 z3 z4 z5 z6 z7 z8 z9 z10 z11 
            go_wp2
            go_roundw
            case rel => exact ⟨i + 1 + 1, by go_num, by omega, HM2.out, grew_trans HG.out (grew_trans HW0G.out HG5.out)⟩
            case measure => simp only [intOf]; omega
          · have HF : Hid (R = false) := by show _ = _; rw [HR.out]; exact (HN.out (by rw [HST2.out, decide_eq_false hnp])).symm
            have q9 : np ≥ nx := by omega
            clear HN HY HST2 HM hnp HR
            refine wp_region_grew (by kernel_rfl) (by kernel_rfl) ?_
            repeat (go_big_quiet_step (with_reducible (first | exact calls_grew (CR _) | exact calls_grew (CX _) | exact calls_grew (CP _))))
            refine wpQuiet_nil ?_
            intro w5 hw'
            have HG5 := Lib.hid (grew_of hw')
            clear hw' y0 y1 y2 y3 y4 y5 y6 y7 y8 y9 y10 y11  z0 z1 z2 z3 z4 z5 z6 z7 z8 z9 z10 z11 
            go_wp2
            go_ret
            exact ⟨ret_b HF.out.symm, grew_trans HG.out (grew_trans HW0G.out HG5.out)⟩
    · obtain rfl : j = n := by omega
      have HF : Hid (R = true) := by show _ = _; rw [HR.out]; exact HM.out
      clear HM HR
      go_wp2
      go_ret
      exact ⟨ret_b HF.out.symm, HG.out⟩
end Go.Proofs.YtodnllopokoicaaGreat.NumK
