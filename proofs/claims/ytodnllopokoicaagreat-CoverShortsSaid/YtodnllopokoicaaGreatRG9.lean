/- Which members, assets, instruments are right: the program's word, the document's. -/
import Derived.Test.YtodnllopokoicaaGreatRG8
namespace Go.Proofs.YtodnllopokoicaaGreat.NumK
open Go.RowKit


set_option maxRecDepth 100000 in
theorem rightMember_any (x : Mb) (w : World) : Calls Tryz.prog 59 #[vMb x] w fun e w' => e = .returned (.bool (okMb x)) ∧ Grew w w' := by
  obtain ⟨q1, q2, q3⟩ := x
  have HV : Hid (okMb (q1, q2, q3) = (wi q1 1 16 && wi q2 1 3 && wi q3 0 4611686018427387904)) := rfl
  have CW1 := fun w => within_any q1 1 16 w
  have CW2 := fun w => within_any q2 1 3 w
  have CW3 := fun w => within_any q3 0 4611686018427387904 w
  generalize okMb (q1, q2, q3) = V at *
  generalize wi q1 1 16 = R1 at *
  generalize wi q2 1 3 = R2 at *
  generalize wi q3 0 4611686018427387904 = R3 at *
  dsimp only [vMb]
  cases R1
  · have HF : Hid (V = false) := by show _ = _; rw [HV.out]; rfl
    clear HV
    go_enter Tryz.func59, Tryz.ntmps59; go_wp2_with (first | (go_at_call 118; ((with_reducible refine (CW1 _).mono ?_); rintro e w1 ⟨rfl, rfl⟩)) | (go_at_call 118; ((with_reducible refine (CW2 _).mono ?_); rintro e w1 ⟨rfl, rfl⟩)) | (go_at_call 118; ((with_reducible refine (CW3 _).mono ?_); rintro e w1 ⟨rfl, rfl⟩))); go_ret; exact ⟨ret_b HF.out.symm, grew_alloc _ _ _⟩
  ·
    cases R2
    · have HF : Hid (V = false) := by show _ = _; rw [HV.out]; rfl
      clear HV
      go_enter Tryz.func59, Tryz.ntmps59; go_wp2_with (first | (go_at_call 118; ((with_reducible refine (CW1 _).mono ?_); rintro e w1 ⟨rfl, rfl⟩)) | (go_at_call 118; ((with_reducible refine (CW2 _).mono ?_); rintro e w1 ⟨rfl, rfl⟩)) | (go_at_call 118; ((with_reducible refine (CW3 _).mono ?_); rintro e w1 ⟨rfl, rfl⟩))); go_ret; exact ⟨ret_b HF.out.symm, grew_alloc _ _ _⟩
    ·
      cases R3
      · have HF : Hid (V = false) := by show _ = _; rw [HV.out]; rfl
        clear HV
        go_enter Tryz.func59, Tryz.ntmps59; go_wp2_with (first | (go_at_call 118; ((with_reducible refine (CW1 _).mono ?_); rintro e w1 ⟨rfl, rfl⟩)) | (go_at_call 118; ((with_reducible refine (CW2 _).mono ?_); rintro e w1 ⟨rfl, rfl⟩)) | (go_at_call 118; ((with_reducible refine (CW3 _).mono ?_); rintro e w1 ⟨rfl, rfl⟩))); go_ret; exact ⟨ret_b HF.out.symm, grew_alloc _ _ _⟩
      · have HF : Hid (V = true) := by show _ = _; rw [HV.out]; rfl
        clear HV
        go_enter Tryz.func59, Tryz.ntmps59; go_wp2_with (first | (go_at_call 118; ((with_reducible refine (CW1 _).mono ?_); rintro e w1 ⟨rfl, rfl⟩)) | (go_at_call 118; ((with_reducible refine (CW2 _).mono ?_); rintro e w1 ⟨rfl, rfl⟩)) | (go_at_call 118; ((with_reducible refine (CW3 _).mono ?_); rintro e w1 ⟨rfl, rfl⟩))); go_ret; exact ⟨ret_b HF.out.symm, grew_alloc _ _ _⟩

set_option maxRecDepth 100000 in
theorem rmember_any (x : Mb) (w : World) : Calls Tryz.prog 78 #[vMb x] w fun e w' => e = .returned (.bool (okMb x)) ∧ Grew w w' := by
  obtain ⟨q1, q2, q3⟩ := x
  have HV : Hid (okMb (q1, q2, q3) = (wi q1 1 16 && wi q2 1 3 && wi q3 0 4611686018427387904)) := rfl
  have CW1 := fun w => rwho_any q1 w
  have CW2 := fun w => rwithin_any q2 1 3 w
  have CW3 := fun w => rwithin_any q3 0 4611686018427387904 w
  generalize okMb (q1, q2, q3) = V at *
  generalize wi q1 1 16 = R1 at *
  generalize wi q2 1 3 = R2 at *
  generalize wi q3 0 4611686018427387904 = R3 at *
  dsimp only [vMb]
  cases R1
  · have HF : Hid (V = false) := by show _ = _; rw [HV.out]; rfl
    clear HV
    go_enter Tryz.func78, Tryz.ntmps78; go_wp2_with (first | (go_at_call 81; ((with_reducible refine (CW1 _).mono ?_); rintro e w1 ⟨rfl, rfl⟩)) | (go_at_call 97; ((with_reducible refine (CW2 _).mono ?_); rintro e w1 ⟨rfl, rfl⟩)) | (go_at_call 97; ((with_reducible refine (CW3 _).mono ?_); rintro e w1 ⟨rfl, rfl⟩))); go_ret; exact ⟨ret_b HF.out.symm, grew_alloc _ _ _⟩
  ·
    cases R2
    · have HF : Hid (V = false) := by show _ = _; rw [HV.out]; rfl
      clear HV
      go_enter Tryz.func78, Tryz.ntmps78; go_wp2_with (first | (go_at_call 81; ((with_reducible refine (CW1 _).mono ?_); rintro e w1 ⟨rfl, rfl⟩)) | (go_at_call 97; ((with_reducible refine (CW2 _).mono ?_); rintro e w1 ⟨rfl, rfl⟩)) | (go_at_call 97; ((with_reducible refine (CW3 _).mono ?_); rintro e w1 ⟨rfl, rfl⟩))); go_ret; exact ⟨ret_b HF.out.symm, grew_alloc _ _ _⟩
    ·
      cases R3
      · have HF : Hid (V = false) := by show _ = _; rw [HV.out]; rfl
        clear HV
        go_enter Tryz.func78, Tryz.ntmps78; go_wp2_with (first | (go_at_call 81; ((with_reducible refine (CW1 _).mono ?_); rintro e w1 ⟨rfl, rfl⟩)) | (go_at_call 97; ((with_reducible refine (CW2 _).mono ?_); rintro e w1 ⟨rfl, rfl⟩)) | (go_at_call 97; ((with_reducible refine (CW3 _).mono ?_); rintro e w1 ⟨rfl, rfl⟩))); go_ret; exact ⟨ret_b HF.out.symm, grew_alloc _ _ _⟩
      · have HF : Hid (V = true) := by show _ = _; rw [HV.out]; rfl
        clear HV
        go_enter Tryz.func78, Tryz.ntmps78; go_wp2_with (first | (go_at_call 81; ((with_reducible refine (CW1 _).mono ?_); rintro e w1 ⟨rfl, rfl⟩)) | (go_at_call 97; ((with_reducible refine (CW2 _).mono ?_); rintro e w1 ⟨rfl, rfl⟩)) | (go_at_call 97; ((with_reducible refine (CW3 _).mono ?_); rintro e w1 ⟨rfl, rfl⟩))); go_ret; exact ⟨ret_b HF.out.symm, grew_alloc _ _ _⟩

set_option maxRecDepth 100000 in
theorem rightAsset_any (x : As) (w : World) : Calls Tryz.prog 65 #[vAs x] w fun e w' => e = .returned (.bool (okAs x)) ∧ Grew w w' := by
  obtain ⟨q1, q2, q3, q4⟩ := x
  have HV : Hid (okAs (q1, q2, q3, q4) = (wi q1 1 6 && wi q2 0 2 && wi q3 1 1073741824 && wi q4 0 10000)) := rfl
  have CW1 := fun w => within_any q1 1 6 w
  have CW2 := fun w => within_any q2 0 2 w
  have CW3 := fun w => within_any q3 1 1073741824 w
  have CW4 := fun w => within_any q4 0 10000 w
  generalize okAs (q1, q2, q3, q4) = V at *
  generalize wi q1 1 6 = R1 at *
  generalize wi q2 0 2 = R2 at *
  generalize wi q3 1 1073741824 = R3 at *
  generalize wi q4 0 10000 = R4 at *
  dsimp only [vAs]
  cases R1
  · have HF : Hid (V = false) := by show _ = _; rw [HV.out]; rfl
    clear HV
    go_enter Tryz.func65, Tryz.ntmps65; go_wp2_with (first | (go_at_call 118; ((with_reducible refine (CW1 _).mono ?_); rintro e w1 ⟨rfl, rfl⟩)) | (go_at_call 118; ((with_reducible refine (CW2 _).mono ?_); rintro e w1 ⟨rfl, rfl⟩)) | (go_at_call 118; ((with_reducible refine (CW3 _).mono ?_); rintro e w1 ⟨rfl, rfl⟩)) | (go_at_call 118; ((with_reducible refine (CW4 _).mono ?_); rintro e w1 ⟨rfl, rfl⟩))); go_ret; exact ⟨ret_b HF.out.symm, grew_alloc _ _ _⟩
  ·
    cases R2
    · have HF : Hid (V = false) := by show _ = _; rw [HV.out]; rfl
      clear HV
      go_enter Tryz.func65, Tryz.ntmps65; go_wp2_with (first | (go_at_call 118; ((with_reducible refine (CW1 _).mono ?_); rintro e w1 ⟨rfl, rfl⟩)) | (go_at_call 118; ((with_reducible refine (CW2 _).mono ?_); rintro e w1 ⟨rfl, rfl⟩)) | (go_at_call 118; ((with_reducible refine (CW3 _).mono ?_); rintro e w1 ⟨rfl, rfl⟩)) | (go_at_call 118; ((with_reducible refine (CW4 _).mono ?_); rintro e w1 ⟨rfl, rfl⟩))); go_ret; exact ⟨ret_b HF.out.symm, grew_alloc _ _ _⟩
    ·
      cases R3
      · have HF : Hid (V = false) := by show _ = _; rw [HV.out]; rfl
        clear HV
        go_enter Tryz.func65, Tryz.ntmps65; go_wp2_with (first | (go_at_call 118; ((with_reducible refine (CW1 _).mono ?_); rintro e w1 ⟨rfl, rfl⟩)) | (go_at_call 118; ((with_reducible refine (CW2 _).mono ?_); rintro e w1 ⟨rfl, rfl⟩)) | (go_at_call 118; ((with_reducible refine (CW3 _).mono ?_); rintro e w1 ⟨rfl, rfl⟩)) | (go_at_call 118; ((with_reducible refine (CW4 _).mono ?_); rintro e w1 ⟨rfl, rfl⟩))); go_ret; exact ⟨ret_b HF.out.symm, grew_alloc _ _ _⟩
      ·
        cases R4
        · have HF : Hid (V = false) := by show _ = _; rw [HV.out]; rfl
          clear HV
          go_enter Tryz.func65, Tryz.ntmps65; go_wp2_with (first | (go_at_call 118; ((with_reducible refine (CW1 _).mono ?_); rintro e w1 ⟨rfl, rfl⟩)) | (go_at_call 118; ((with_reducible refine (CW2 _).mono ?_); rintro e w1 ⟨rfl, rfl⟩)) | (go_at_call 118; ((with_reducible refine (CW3 _).mono ?_); rintro e w1 ⟨rfl, rfl⟩)) | (go_at_call 118; ((with_reducible refine (CW4 _).mono ?_); rintro e w1 ⟨rfl, rfl⟩))); go_ret; exact ⟨ret_b HF.out.symm, grew_alloc _ _ _⟩
        · have HF : Hid (V = true) := by show _ = _; rw [HV.out]; rfl
          clear HV
          go_enter Tryz.func65, Tryz.ntmps65; go_wp2_with (first | (go_at_call 118; ((with_reducible refine (CW1 _).mono ?_); rintro e w1 ⟨rfl, rfl⟩)) | (go_at_call 118; ((with_reducible refine (CW2 _).mono ?_); rintro e w1 ⟨rfl, rfl⟩)) | (go_at_call 118; ((with_reducible refine (CW3 _).mono ?_); rintro e w1 ⟨rfl, rfl⟩)) | (go_at_call 118; ((with_reducible refine (CW4 _).mono ?_); rintro e w1 ⟨rfl, rfl⟩))); go_ret; exact ⟨ret_b HF.out.symm, grew_alloc _ _ _⟩

set_option maxRecDepth 100000 in
theorem rasset_any (x : As) (w : World) : Calls Tryz.prog 80 #[vAs x] w fun e w' => e = .returned (.bool (okAs x)) ∧ Grew w w' := by
  obtain ⟨q1, q2, q3, q4⟩ := x
  have HV : Hid (okAs (q1, q2, q3, q4) = (wi q1 1 6 && wi q2 0 2 && wi q3 1 1073741824 && wi q4 0 10000)) := rfl
  have CW1 := fun w => rwithin_any q1 1 6 w
  have CW2 := fun w => rcur_any q2 w
  have CW3 := fun w => rwithin_any q3 1 1073741824 w
  have CW4 := fun w => rwithin_any q4 0 10000 w
  generalize okAs (q1, q2, q3, q4) = V at *
  generalize wi q1 1 6 = R1 at *
  generalize wi q2 0 2 = R2 at *
  generalize wi q3 1 1073741824 = R3 at *
  generalize wi q4 0 10000 = R4 at *
  dsimp only [vAs]
  cases R1
  · have HF : Hid (V = false) := by show _ = _; rw [HV.out]; rfl
    clear HV
    go_enter Tryz.func80, Tryz.ntmps80; go_wp2_with (first | (go_at_call 97; ((with_reducible refine (CW1 _).mono ?_); rintro e w1 ⟨rfl, rfl⟩)) | (go_at_call 122; ((with_reducible refine (CW2 _).mono ?_); rintro e w1 ⟨rfl, rfl⟩)) | (go_at_call 97; ((with_reducible refine (CW3 _).mono ?_); rintro e w1 ⟨rfl, rfl⟩)) | (go_at_call 97; ((with_reducible refine (CW4 _).mono ?_); rintro e w1 ⟨rfl, rfl⟩))); go_ret; exact ⟨ret_b HF.out.symm, grew_alloc _ _ _⟩
  ·
    cases R2
    · have HF : Hid (V = false) := by show _ = _; rw [HV.out]; rfl
      clear HV
      go_enter Tryz.func80, Tryz.ntmps80; go_wp2_with (first | (go_at_call 97; ((with_reducible refine (CW1 _).mono ?_); rintro e w1 ⟨rfl, rfl⟩)) | (go_at_call 122; ((with_reducible refine (CW2 _).mono ?_); rintro e w1 ⟨rfl, rfl⟩)) | (go_at_call 97; ((with_reducible refine (CW3 _).mono ?_); rintro e w1 ⟨rfl, rfl⟩)) | (go_at_call 97; ((with_reducible refine (CW4 _).mono ?_); rintro e w1 ⟨rfl, rfl⟩))); go_ret; exact ⟨ret_b HF.out.symm, grew_alloc _ _ _⟩
    ·
      cases R3
      · have HF : Hid (V = false) := by show _ = _; rw [HV.out]; rfl
        clear HV
        go_enter Tryz.func80, Tryz.ntmps80; go_wp2_with (first | (go_at_call 97; ((with_reducible refine (CW1 _).mono ?_); rintro e w1 ⟨rfl, rfl⟩)) | (go_at_call 122; ((with_reducible refine (CW2 _).mono ?_); rintro e w1 ⟨rfl, rfl⟩)) | (go_at_call 97; ((with_reducible refine (CW3 _).mono ?_); rintro e w1 ⟨rfl, rfl⟩)) | (go_at_call 97; ((with_reducible refine (CW4 _).mono ?_); rintro e w1 ⟨rfl, rfl⟩))); go_ret; exact ⟨ret_b HF.out.symm, grew_alloc _ _ _⟩
      ·
        cases R4
        · have HF : Hid (V = false) := by show _ = _; rw [HV.out]; rfl
          clear HV
          go_enter Tryz.func80, Tryz.ntmps80; go_wp2_with (first | (go_at_call 97; ((with_reducible refine (CW1 _).mono ?_); rintro e w1 ⟨rfl, rfl⟩)) | (go_at_call 122; ((with_reducible refine (CW2 _).mono ?_); rintro e w1 ⟨rfl, rfl⟩)) | (go_at_call 97; ((with_reducible refine (CW3 _).mono ?_); rintro e w1 ⟨rfl, rfl⟩)) | (go_at_call 97; ((with_reducible refine (CW4 _).mono ?_); rintro e w1 ⟨rfl, rfl⟩))); go_ret; exact ⟨ret_b HF.out.symm, grew_alloc _ _ _⟩
        · have HF : Hid (V = true) := by show _ = _; rw [HV.out]; rfl
          clear HV
          go_enter Tryz.func80, Tryz.ntmps80; go_wp2_with (first | (go_at_call 97; ((with_reducible refine (CW1 _).mono ?_); rintro e w1 ⟨rfl, rfl⟩)) | (go_at_call 122; ((with_reducible refine (CW2 _).mono ?_); rintro e w1 ⟨rfl, rfl⟩)) | (go_at_call 97; ((with_reducible refine (CW3 _).mono ?_); rintro e w1 ⟨rfl, rfl⟩)) | (go_at_call 97; ((with_reducible refine (CW4 _).mono ?_); rintro e w1 ⟨rfl, rfl⟩))); go_ret; exact ⟨ret_b HF.out.symm, grew_alloc _ _ _⟩

set_option maxRecDepth 100000 in
set_option maxHeartbeats 1000000 in
theorem rightInst_any (x : In) (w : World) : Calls Tryz.prog 62 #[vIn x] w fun e w' => e = .returned (.bool (okIn x)) ∧ Grew w w' := by
  obtain ⟨⟨q1, q2, q3, q4, q5, q6⟩, ⟨q7, q8, q9, q10, q11, q12⟩⟩ := x
  have HS : Hid (okIn ((q1, q2, q3, q4, q5, q6), (q7, q8, q9, q10, q11, q12)) = ((List.range 6).all (fun j => okSh (([q7, q8, q9, q10, q11, q12] : List Int).getD j 0)) && okIn6 ((q1, q2, q3, q4, q5, q6), (q7, q8, q9, q10, q11, q12)))) := by
    show _ = _
    rfl
  have HV : Hid (okIn6 ((q1, q2, q3, q4, q5, q6), (q7, q8, q9, q10, q11, q12)) = (wi q1 1 8 && wi q2 0 2 && wi q3 1 1024 && wi q4 0 1073741824 && wi q5 0 1073741824 && wi q6 0 1073741824)) := rfl
  have CW1 := fun w => within_any q1 1 8 w
  have CW2 := fun w => within_any q2 0 2 w
  have CW3 := fun w => within_any q3 1 1024 w
  have CW4 := fun w => within_any q4 0 1073741824 w
  have CW5 := fun w => within_any q5 0 1073741824 w
  have CW6 := fun w => within_any q6 0 1073741824 w
  generalize okIn ((q1, q2, q3, q4, q5, q6), (q7, q8, q9, q10, q11, q12)) = U at *
  generalize okIn6 ((q1, q2, q3, q4, q5, q6), (q7, q8, q9, q10, q11, q12)) = V at *
  generalize wi q1 1 8 = R1 at *
  generalize wi q2 0 2 = R2 at *
  generalize wi q3 1 1024 = R3 at *
  generalize wi q4 0 1073741824 = R4 at *
  generalize wi q5 0 1073741824 = R5 at *
  generalize wi q6 0 1073741824 = R6 at *
  dsimp only [vIn]
  have HG0 : Hid (Grew w (w.alloc (.cells #[.int .i64 q1, .int .i64 q2, .int .i64 q3, .int .i64 q4, .int .i64 q5, .int .i64 q6, .int .i64 q7, .int .i64 q8, .int .i64 q9, .int .i64 q10, .int .i64 q11, .int .i64 q12] 105))) := grew_alloc _ _ _
  go_enter Tryz.func62, Tryz.ntmps62
  go_wp2
  go_loopw [7] (fun v wr => ∃ j : Nat, v = .int .i64 j ∧ j ≤ 6 ∧ Hid ((List.range j).all (fun j => okSh (([q7, q8, q9, q10, q11, q12] : List Int).getD j 0)) = true) ∧ Hid (Grew (w.alloc (.cells #[.int .i64 q1, .int .i64 q2, .int .i64 q3, .int .i64 q4, .int .i64 q5, .int .i64 q6, .int .i64 q7, .int .i64 q8, .int .i64 q9, .int .i64 q10, .int .i64 q11, .int .i64 q12] 105)) wr)) (fun v _ => 6 - (intOf v).toNat)
  case atStart => exact ⟨0, rfl, by omega, rfl, grew_refl _⟩
  case round =>
    obtain ⟨j, rfl, hj, HM, HG1⟩ := hrel
    have HG := Lib.hid (grew_trans HG0.out HG1.out)
    have p0 : wr.cell? ⟨w.heap.size, 0, none⟩ = some (.int .i64 q1) := own_cell HG1.out 0
    have p1 : wr.cell? ⟨w.heap.size, 1, none⟩ = some (.int .i64 q2) := own_cell HG1.out 1
    have p2 : wr.cell? ⟨w.heap.size, 2, none⟩ = some (.int .i64 q3) := own_cell HG1.out 2
    have p3 : wr.cell? ⟨w.heap.size, 3, none⟩ = some (.int .i64 q4) := own_cell HG1.out 3
    have p4 : wr.cell? ⟨w.heap.size, 4, none⟩ = some (.int .i64 q5) := own_cell HG1.out 4
    have p5 : wr.cell? ⟨w.heap.size, 5, none⟩ = some (.int .i64 q6) := own_cell HG1.out 5
    have p6 : wr.cell? ⟨w.heap.size, 6, none⟩ = some (.int .i64 q7) := own_cell HG1.out 6
    have p7 : wr.cell? ⟨w.heap.size, 7, none⟩ = some (.int .i64 q8) := own_cell HG1.out 7
    have p8 : wr.cell? ⟨w.heap.size, 8, none⟩ = some (.int .i64 q9) := own_cell HG1.out 8
    have p9 : wr.cell? ⟨w.heap.size, 9, none⟩ = some (.int .i64 q10) := own_cell HG1.out 9
    have p10 : wr.cell? ⟨w.heap.size, 10, none⟩ = some (.int .i64 q11) := own_cell HG1.out 10
    have p11 : wr.cell? ⟨w.heap.size, 11, none⟩ = some (.int .i64 q12) := own_cell HG1.out 11
    by_cases hlt : j < 6
    · have HN := Lib.hid (range_all_no (fun j => okSh (([q7, q8, q9, q10, q11, q12] : List Int).getD j 0)) j 6 hlt)
      have HY := Lib.hid (range_all_succ (fun j => okSh (([q7, q8, q9, q10, q11, q12] : List Int).getD j 0)) j)
      have hj6 : j = 0 ∨ j = 1 ∨ j = 2 ∨ j = 3 ∨ j = 4 ∨ j = 5 := by omega
      clear hj hlt CW1 CW2 CW3 CW4 CW5 CW6 HV
      rcases hj6 with rfl | rfl | rfl | rfl | rfl | rfl
      · have CS := fun w => within_any q7 (-1073741824) 1073741824 w
        have HN2 : Hid (okSh q7 = false → false = U) := fun h => by rw [HS.out, ← HN.out h]; rfl
        have HY2 : Hid (okSh q7 = true → (List.range 1).all (fun j => okSh (([q7, q8, q9, q10, q11, q12] : List Int).getD j 0)) = true) := fun h => by rw [show 1 = 0 + 1 from rfl, HY.out, HM.out]; exact h
        rw [show wi q7 (-1073741824) 1073741824 = okSh q7 from rfl] at CS
        have ix : ∀ w, (Instr.index 96 (.agg #[.int .i64 q7, .int .i64 q8, .int .i64 q9, .int .i64 q10, .int .i64 q11, .int .i64 q12]) (.int .i64 0)).run Tryz.prog w = .ok (.int .i64 q7) w := fun _ => by kernel_rfl
        generalize okSh q7 = S at *
        clear HN HY HM
        cases S
        · have HF := Lib.hid (HN2.out rfl)
          clear HN2 HY2
          go_wp2_with (go_at_call 118; ((with_reducible refine (CS _).mono ?_); rintro e w1 ⟨rfl, rfl⟩))
          go_ret
          exact ⟨ret_b HF.out, HG.out⟩
        · have HM2 := Lib.hid (HY2.out rfl)
          clear HN2 HY2
          go_wp2_with (go_at_call 118; ((with_reducible refine (CS _).mono ?_); rintro e w1 ⟨rfl, rfl⟩))
          go_roundw
          case rel => exact ⟨1, by go_num, by omega, HM2.out, HG1.out⟩
          case measure => simp only [intOf]; omega
      · have CS := fun w => within_any q8 (-1073741824) 1073741824 w
        have HN2 : Hid (okSh q8 = false → false = U) := fun h => by rw [HS.out, ← HN.out h]; rfl
        have HY2 : Hid (okSh q8 = true → (List.range 2).all (fun j => okSh (([q7, q8, q9, q10, q11, q12] : List Int).getD j 0)) = true) := fun h => by rw [show 2 = 1 + 1 from rfl, HY.out, HM.out]; exact h
        rw [show wi q8 (-1073741824) 1073741824 = okSh q8 from rfl] at CS
        have ix : ∀ w, (Instr.index 96 (.agg #[.int .i64 q7, .int .i64 q8, .int .i64 q9, .int .i64 q10, .int .i64 q11, .int .i64 q12]) (.int .i64 1)).run Tryz.prog w = .ok (.int .i64 q8) w := fun _ => by kernel_rfl
        generalize okSh q8 = S at *
        clear HN HY HM
        cases S
        · have HF := Lib.hid (HN2.out rfl)
          clear HN2 HY2
          go_wp2_with (go_at_call 118; ((with_reducible refine (CS _).mono ?_); rintro e w1 ⟨rfl, rfl⟩))
          go_ret
          exact ⟨ret_b HF.out, HG.out⟩
        · have HM2 := Lib.hid (HY2.out rfl)
          clear HN2 HY2
          go_wp2_with (go_at_call 118; ((with_reducible refine (CS _).mono ?_); rintro e w1 ⟨rfl, rfl⟩))
          go_roundw
          case rel => exact ⟨2, by go_num, by omega, HM2.out, HG1.out⟩
          case measure => simp only [intOf]; omega
      · have CS := fun w => within_any q9 (-1073741824) 1073741824 w
        have HN2 : Hid (okSh q9 = false → false = U) := fun h => by rw [HS.out, ← HN.out h]; rfl
        have HY2 : Hid (okSh q9 = true → (List.range 3).all (fun j => okSh (([q7, q8, q9, q10, q11, q12] : List Int).getD j 0)) = true) := fun h => by rw [show 3 = 2 + 1 from rfl, HY.out, HM.out]; exact h
        rw [show wi q9 (-1073741824) 1073741824 = okSh q9 from rfl] at CS
        have ix : ∀ w, (Instr.index 96 (.agg #[.int .i64 q7, .int .i64 q8, .int .i64 q9, .int .i64 q10, .int .i64 q11, .int .i64 q12]) (.int .i64 2)).run Tryz.prog w = .ok (.int .i64 q9) w := fun _ => by kernel_rfl
        generalize okSh q9 = S at *
        clear HN HY HM
        cases S
        · have HF := Lib.hid (HN2.out rfl)
          clear HN2 HY2
          go_wp2_with (go_at_call 118; ((with_reducible refine (CS _).mono ?_); rintro e w1 ⟨rfl, rfl⟩))
          go_ret
          exact ⟨ret_b HF.out, HG.out⟩
        · have HM2 := Lib.hid (HY2.out rfl)
          clear HN2 HY2
          go_wp2_with (go_at_call 118; ((with_reducible refine (CS _).mono ?_); rintro e w1 ⟨rfl, rfl⟩))
          go_roundw
          case rel => exact ⟨3, by go_num, by omega, HM2.out, HG1.out⟩
          case measure => simp only [intOf]; omega
      · have CS := fun w => within_any q10 (-1073741824) 1073741824 w
        have HN2 : Hid (okSh q10 = false → false = U) := fun h => by rw [HS.out, ← HN.out h]; rfl
        have HY2 : Hid (okSh q10 = true → (List.range 4).all (fun j => okSh (([q7, q8, q9, q10, q11, q12] : List Int).getD j 0)) = true) := fun h => by rw [show 4 = 3 + 1 from rfl, HY.out, HM.out]; exact h
        rw [show wi q10 (-1073741824) 1073741824 = okSh q10 from rfl] at CS
        have ix : ∀ w, (Instr.index 96 (.agg #[.int .i64 q7, .int .i64 q8, .int .i64 q9, .int .i64 q10, .int .i64 q11, .int .i64 q12]) (.int .i64 3)).run Tryz.prog w = .ok (.int .i64 q10) w := fun _ => by kernel_rfl
        generalize okSh q10 = S at *
        clear HN HY HM
        cases S
        · have HF := Lib.hid (HN2.out rfl)
          clear HN2 HY2
          go_wp2_with (go_at_call 118; ((with_reducible refine (CS _).mono ?_); rintro e w1 ⟨rfl, rfl⟩))
          go_ret
          exact ⟨ret_b HF.out, HG.out⟩
        · have HM2 := Lib.hid (HY2.out rfl)
          clear HN2 HY2
          go_wp2_with (go_at_call 118; ((with_reducible refine (CS _).mono ?_); rintro e w1 ⟨rfl, rfl⟩))
          go_roundw
          case rel => exact ⟨4, by go_num, by omega, HM2.out, HG1.out⟩
          case measure => simp only [intOf]; omega
      · have CS := fun w => within_any q11 (-1073741824) 1073741824 w
        have HN2 : Hid (okSh q11 = false → false = U) := fun h => by rw [HS.out, ← HN.out h]; rfl
        have HY2 : Hid (okSh q11 = true → (List.range 5).all (fun j => okSh (([q7, q8, q9, q10, q11, q12] : List Int).getD j 0)) = true) := fun h => by rw [show 5 = 4 + 1 from rfl, HY.out, HM.out]; exact h
        rw [show wi q11 (-1073741824) 1073741824 = okSh q11 from rfl] at CS
        have ix : ∀ w, (Instr.index 96 (.agg #[.int .i64 q7, .int .i64 q8, .int .i64 q9, .int .i64 q10, .int .i64 q11, .int .i64 q12]) (.int .i64 4)).run Tryz.prog w = .ok (.int .i64 q11) w := fun _ => by kernel_rfl
        generalize okSh q11 = S at *
        clear HN HY HM
        cases S
        · have HF := Lib.hid (HN2.out rfl)
          clear HN2 HY2
          go_wp2_with (go_at_call 118; ((with_reducible refine (CS _).mono ?_); rintro e w1 ⟨rfl, rfl⟩))
          go_ret
          exact ⟨ret_b HF.out, HG.out⟩
        · have HM2 := Lib.hid (HY2.out rfl)
          clear HN2 HY2
          go_wp2_with (go_at_call 118; ((with_reducible refine (CS _).mono ?_); rintro e w1 ⟨rfl, rfl⟩))
          go_roundw
          case rel => exact ⟨5, by go_num, by omega, HM2.out, HG1.out⟩
          case measure => simp only [intOf]; omega
      · have CS := fun w => within_any q12 (-1073741824) 1073741824 w
        have HN2 : Hid (okSh q12 = false → false = U) := fun h => by rw [HS.out, ← HN.out h]; rfl
        have HY2 : Hid (okSh q12 = true → (List.range 6).all (fun j => okSh (([q7, q8, q9, q10, q11, q12] : List Int).getD j 0)) = true) := fun h => by rw [show 6 = 5 + 1 from rfl, HY.out, HM.out]; exact h
        rw [show wi q12 (-1073741824) 1073741824 = okSh q12 from rfl] at CS
        have ix : ∀ w, (Instr.index 96 (.agg #[.int .i64 q7, .int .i64 q8, .int .i64 q9, .int .i64 q10, .int .i64 q11, .int .i64 q12]) (.int .i64 5)).run Tryz.prog w = .ok (.int .i64 q12) w := fun _ => by kernel_rfl
        generalize okSh q12 = S at *
        clear HN HY HM
        cases S
        · have HF := Lib.hid (HN2.out rfl)
          clear HN2 HY2
          go_wp2_with (go_at_call 118; ((with_reducible refine (CS _).mono ?_); rintro e w1 ⟨rfl, rfl⟩))
          go_ret
          exact ⟨ret_b HF.out, HG.out⟩
        · have HM2 := Lib.hid (HY2.out rfl)
          clear HN2 HY2
          go_wp2_with (go_at_call 118; ((with_reducible refine (CS _).mono ?_); rintro e w1 ⟨rfl, rfl⟩))
          go_roundw
          case rel => exact ⟨6, by go_num, by omega, HM2.out, HG1.out⟩
          case measure => simp only [intOf]; omega
    · obtain rfl : j = 6 := by omega
      have HU : Hid (U = V) := by show _ = _; rw [HS.out, HM.out]; rfl
      clear HS HM hj hlt
      cases R1
      · have HF : Hid (V = false) := by show _ = _; rw [HV.out]; rfl
        clear HV
        go_wp2_with (first | (go_at_call 118; ((with_reducible refine (CW1 _).mono ?_); rintro e w1 ⟨rfl, rfl⟩)) | (go_at_call 118; ((with_reducible refine (CW2 _).mono ?_); rintro e w1 ⟨rfl, rfl⟩)) | (go_at_call 118; ((with_reducible refine (CW3 _).mono ?_); rintro e w1 ⟨rfl, rfl⟩)) | (go_at_call 118; ((with_reducible refine (CW4 _).mono ?_); rintro e w1 ⟨rfl, rfl⟩)) | (go_at_call 118; ((with_reducible refine (CW5 _).mono ?_); rintro e w1 ⟨rfl, rfl⟩)) | (go_at_call 118; ((with_reducible refine (CW6 _).mono ?_); rintro e w1 ⟨rfl, rfl⟩))); go_ret; exact ⟨ret_b (HU.out.trans HF.out).symm, HG.out⟩
      ·
        cases R2
        · have HF : Hid (V = false) := by show _ = _; rw [HV.out]; rfl
          clear HV
          go_wp2_with (first | (go_at_call 118; ((with_reducible refine (CW1 _).mono ?_); rintro e w1 ⟨rfl, rfl⟩)) | (go_at_call 118; ((with_reducible refine (CW2 _).mono ?_); rintro e w1 ⟨rfl, rfl⟩)) | (go_at_call 118; ((with_reducible refine (CW3 _).mono ?_); rintro e w1 ⟨rfl, rfl⟩)) | (go_at_call 118; ((with_reducible refine (CW4 _).mono ?_); rintro e w1 ⟨rfl, rfl⟩)) | (go_at_call 118; ((with_reducible refine (CW5 _).mono ?_); rintro e w1 ⟨rfl, rfl⟩)) | (go_at_call 118; ((with_reducible refine (CW6 _).mono ?_); rintro e w1 ⟨rfl, rfl⟩))); go_ret; exact ⟨ret_b (HU.out.trans HF.out).symm, HG.out⟩
        ·
          cases R3
          · have HF : Hid (V = false) := by show _ = _; rw [HV.out]; rfl
            clear HV
            go_wp2_with (first | (go_at_call 118; ((with_reducible refine (CW1 _).mono ?_); rintro e w1 ⟨rfl, rfl⟩)) | (go_at_call 118; ((with_reducible refine (CW2 _).mono ?_); rintro e w1 ⟨rfl, rfl⟩)) | (go_at_call 118; ((with_reducible refine (CW3 _).mono ?_); rintro e w1 ⟨rfl, rfl⟩)) | (go_at_call 118; ((with_reducible refine (CW4 _).mono ?_); rintro e w1 ⟨rfl, rfl⟩)) | (go_at_call 118; ((with_reducible refine (CW5 _).mono ?_); rintro e w1 ⟨rfl, rfl⟩)) | (go_at_call 118; ((with_reducible refine (CW6 _).mono ?_); rintro e w1 ⟨rfl, rfl⟩))); go_ret; exact ⟨ret_b (HU.out.trans HF.out).symm, HG.out⟩
          ·
            cases R4
            · have HF : Hid (V = false) := by show _ = _; rw [HV.out]; rfl
              clear HV
              go_wp2_with (first | (go_at_call 118; ((with_reducible refine (CW1 _).mono ?_); rintro e w1 ⟨rfl, rfl⟩)) | (go_at_call 118; ((with_reducible refine (CW2 _).mono ?_); rintro e w1 ⟨rfl, rfl⟩)) | (go_at_call 118; ((with_reducible refine (CW3 _).mono ?_); rintro e w1 ⟨rfl, rfl⟩)) | (go_at_call 118; ((with_reducible refine (CW4 _).mono ?_); rintro e w1 ⟨rfl, rfl⟩)) | (go_at_call 118; ((with_reducible refine (CW5 _).mono ?_); rintro e w1 ⟨rfl, rfl⟩)) | (go_at_call 118; ((with_reducible refine (CW6 _).mono ?_); rintro e w1 ⟨rfl, rfl⟩))); go_ret; exact ⟨ret_b (HU.out.trans HF.out).symm, HG.out⟩
            ·
              cases R5
              · have HF : Hid (V = false) := by show _ = _; rw [HV.out]; rfl
                clear HV
                go_wp2_with (first | (go_at_call 118; ((with_reducible refine (CW1 _).mono ?_); rintro e w1 ⟨rfl, rfl⟩)) | (go_at_call 118; ((with_reducible refine (CW2 _).mono ?_); rintro e w1 ⟨rfl, rfl⟩)) | (go_at_call 118; ((with_reducible refine (CW3 _).mono ?_); rintro e w1 ⟨rfl, rfl⟩)) | (go_at_call 118; ((with_reducible refine (CW4 _).mono ?_); rintro e w1 ⟨rfl, rfl⟩)) | (go_at_call 118; ((with_reducible refine (CW5 _).mono ?_); rintro e w1 ⟨rfl, rfl⟩)) | (go_at_call 118; ((with_reducible refine (CW6 _).mono ?_); rintro e w1 ⟨rfl, rfl⟩))); go_ret; exact ⟨ret_b (HU.out.trans HF.out).symm, HG.out⟩
              ·
                cases R6
                · have HF : Hid (V = false) := by show _ = _; rw [HV.out]; rfl
                  clear HV
                  go_wp2_with (first | (go_at_call 118; ((with_reducible refine (CW1 _).mono ?_); rintro e w1 ⟨rfl, rfl⟩)) | (go_at_call 118; ((with_reducible refine (CW2 _).mono ?_); rintro e w1 ⟨rfl, rfl⟩)) | (go_at_call 118; ((with_reducible refine (CW3 _).mono ?_); rintro e w1 ⟨rfl, rfl⟩)) | (go_at_call 118; ((with_reducible refine (CW4 _).mono ?_); rintro e w1 ⟨rfl, rfl⟩)) | (go_at_call 118; ((with_reducible refine (CW5 _).mono ?_); rintro e w1 ⟨rfl, rfl⟩)) | (go_at_call 118; ((with_reducible refine (CW6 _).mono ?_); rintro e w1 ⟨rfl, rfl⟩))); go_ret; exact ⟨ret_b (HU.out.trans HF.out).symm, HG.out⟩
                · have HF : Hid (V = true) := by show _ = _; rw [HV.out]; rfl
                  clear HV
                  go_wp2_with (first | (go_at_call 118; ((with_reducible refine (CW1 _).mono ?_); rintro e w1 ⟨rfl, rfl⟩)) | (go_at_call 118; ((with_reducible refine (CW2 _).mono ?_); rintro e w1 ⟨rfl, rfl⟩)) | (go_at_call 118; ((with_reducible refine (CW3 _).mono ?_); rintro e w1 ⟨rfl, rfl⟩)) | (go_at_call 118; ((with_reducible refine (CW4 _).mono ?_); rintro e w1 ⟨rfl, rfl⟩)) | (go_at_call 118; ((with_reducible refine (CW5 _).mono ?_); rintro e w1 ⟨rfl, rfl⟩)) | (go_at_call 118; ((with_reducible refine (CW6 _).mono ?_); rintro e w1 ⟨rfl, rfl⟩))); go_ret; exact ⟨ret_b (HU.out.trans HF.out).symm, HG.out⟩

set_option maxRecDepth 100000 in
set_option maxHeartbeats 1000000 in
theorem rinst_any (x : In) (w : World) : Calls Tryz.prog 79 #[vIn x] w fun e w' => e = .returned (.bool (okIn x)) ∧ Grew w w' := by
  obtain ⟨⟨q1, q2, q3, q4, q5, q6⟩, ⟨q7, q8, q9, q10, q11, q12⟩⟩ := x
  have HS : Hid (okIn ((q1, q2, q3, q4, q5, q6), (q7, q8, q9, q10, q11, q12)) = ((List.range 6).all (fun j => okSh (([q7, q8, q9, q10, q11, q12] : List Int).getD j 0)) && okIn6 ((q1, q2, q3, q4, q5, q6), (q7, q8, q9, q10, q11, q12)))) := by
    show _ = _
    rfl
  have HV : Hid (okIn6 ((q1, q2, q3, q4, q5, q6), (q7, q8, q9, q10, q11, q12)) = (wi q1 1 8 && wi q2 0 2 && wi q3 1 1024 && wi q4 0 1073741824 && wi q5 0 1073741824 && wi q6 0 1073741824)) := rfl
  have CW1 := fun w => rwithin_any q1 1 8 w
  have CW2 := fun w => rcur_any q2 w
  have CW3 := fun w => rwithin_any q3 1 1024 w
  have CW4 := fun w => rwithin_any q4 0 1073741824 w
  have CW5 := fun w => rwithin_any q5 0 1073741824 w
  have CW6 := fun w => rwithin_any q6 0 1073741824 w
  generalize okIn ((q1, q2, q3, q4, q5, q6), (q7, q8, q9, q10, q11, q12)) = U at *
  generalize okIn6 ((q1, q2, q3, q4, q5, q6), (q7, q8, q9, q10, q11, q12)) = V at *
  generalize wi q1 1 8 = R1 at *
  generalize wi q2 0 2 = R2 at *
  generalize wi q3 1 1024 = R3 at *
  generalize wi q4 0 1073741824 = R4 at *
  generalize wi q5 0 1073741824 = R5 at *
  generalize wi q6 0 1073741824 = R6 at *
  dsimp only [vIn]
  have HG0 : Hid (Grew w (w.alloc (.cells #[.int .i64 q1, .int .i64 q2, .int .i64 q3, .int .i64 q4, .int .i64 q5, .int .i64 q6, .int .i64 q7, .int .i64 q8, .int .i64 q9, .int .i64 q10, .int .i64 q11, .int .i64 q12] 105))) := grew_alloc _ _ _
  go_enter Tryz.func79, Tryz.ntmps79
  go_wp2
  go_loopw [3] (fun v wr => ∃ j : Nat, v = .int .i64 j ∧ j ≤ 6 ∧ Hid ((List.range j).all (fun j => okSh (([q7, q8, q9, q10, q11, q12] : List Int).getD j 0)) = true) ∧ Hid (Grew (w.alloc (.cells #[.int .i64 q1, .int .i64 q2, .int .i64 q3, .int .i64 q4, .int .i64 q5, .int .i64 q6, .int .i64 q7, .int .i64 q8, .int .i64 q9, .int .i64 q10, .int .i64 q11, .int .i64 q12] 105)) wr)) (fun v _ => 6 - (intOf v).toNat)
  case atStart => exact ⟨0, rfl, by omega, rfl, grew_refl _⟩
  case round =>
    obtain ⟨j, rfl, hj, HM, HG1⟩ := hrel
    have HG := Lib.hid (grew_trans HG0.out HG1.out)
    have p0 : wr.cell? ⟨w.heap.size, 0, none⟩ = some (.int .i64 q1) := own_cell HG1.out 0
    have p1 : wr.cell? ⟨w.heap.size, 1, none⟩ = some (.int .i64 q2) := own_cell HG1.out 1
    have p2 : wr.cell? ⟨w.heap.size, 2, none⟩ = some (.int .i64 q3) := own_cell HG1.out 2
    have p3 : wr.cell? ⟨w.heap.size, 3, none⟩ = some (.int .i64 q4) := own_cell HG1.out 3
    have p4 : wr.cell? ⟨w.heap.size, 4, none⟩ = some (.int .i64 q5) := own_cell HG1.out 4
    have p5 : wr.cell? ⟨w.heap.size, 5, none⟩ = some (.int .i64 q6) := own_cell HG1.out 5
    have p6 : wr.cell? ⟨w.heap.size, 6, none⟩ = some (.int .i64 q7) := own_cell HG1.out 6
    have p7 : wr.cell? ⟨w.heap.size, 7, none⟩ = some (.int .i64 q8) := own_cell HG1.out 7
    have p8 : wr.cell? ⟨w.heap.size, 8, none⟩ = some (.int .i64 q9) := own_cell HG1.out 8
    have p9 : wr.cell? ⟨w.heap.size, 9, none⟩ = some (.int .i64 q10) := own_cell HG1.out 9
    have p10 : wr.cell? ⟨w.heap.size, 10, none⟩ = some (.int .i64 q11) := own_cell HG1.out 10
    have p11 : wr.cell? ⟨w.heap.size, 11, none⟩ = some (.int .i64 q12) := own_cell HG1.out 11
    by_cases hlt : j < 6
    · have HN := Lib.hid (range_all_no (fun j => okSh (([q7, q8, q9, q10, q11, q12] : List Int).getD j 0)) j 6 hlt)
      have HY := Lib.hid (range_all_succ (fun j => okSh (([q7, q8, q9, q10, q11, q12] : List Int).getD j 0)) j)
      have hj6 : j = 0 ∨ j = 1 ∨ j = 2 ∨ j = 3 ∨ j = 4 ∨ j = 5 := by omega
      clear hj hlt CW1 CW2 CW3 CW4 CW5 CW6 HV
      rcases hj6 with rfl | rfl | rfl | rfl | rfl | rfl
      · have CS := fun w => rwithin_any q7 (-1073741824) 1073741824 w
        have HN2 : Hid (okSh q7 = false → false = U) := fun h => by rw [HS.out, ← HN.out h]; rfl
        have HY2 : Hid (okSh q7 = true → (List.range 1).all (fun j => okSh (([q7, q8, q9, q10, q11, q12] : List Int).getD j 0)) = true) := fun h => by rw [show 1 = 0 + 1 from rfl, HY.out, HM.out]; exact h
        rw [show wi q7 (-1073741824) 1073741824 = okSh q7 from rfl] at CS
        skip
        generalize okSh q7 = S at *
        clear HN HY HM
        cases S
        · have HF := Lib.hid (HN2.out rfl)
          clear HN2 HY2
          go_wp2_with (go_at_call 97; ((with_reducible refine (CS _).mono ?_); rintro e w1 ⟨rfl, rfl⟩))
          go_ret
          exact ⟨ret_b HF.out, HG.out⟩
        · have HM2 := Lib.hid (HY2.out rfl)
          clear HN2 HY2
          go_wp2_with (go_at_call 97; ((with_reducible refine (CS _).mono ?_); rintro e w1 ⟨rfl, rfl⟩))
          go_roundw
          case rel => exact ⟨1, by go_num, by omega, HM2.out, HG1.out⟩
          case measure => simp only [intOf]; omega
      · have CS := fun w => rwithin_any q8 (-1073741824) 1073741824 w
        have HN2 : Hid (okSh q8 = false → false = U) := fun h => by rw [HS.out, ← HN.out h]; rfl
        have HY2 : Hid (okSh q8 = true → (List.range 2).all (fun j => okSh (([q7, q8, q9, q10, q11, q12] : List Int).getD j 0)) = true) := fun h => by rw [show 2 = 1 + 1 from rfl, HY.out, HM.out]; exact h
        rw [show wi q8 (-1073741824) 1073741824 = okSh q8 from rfl] at CS
        skip
        generalize okSh q8 = S at *
        clear HN HY HM
        cases S
        · have HF := Lib.hid (HN2.out rfl)
          clear HN2 HY2
          go_wp2_with (go_at_call 97; ((with_reducible refine (CS _).mono ?_); rintro e w1 ⟨rfl, rfl⟩))
          go_ret
          exact ⟨ret_b HF.out, HG.out⟩
        · have HM2 := Lib.hid (HY2.out rfl)
          clear HN2 HY2
          go_wp2_with (go_at_call 97; ((with_reducible refine (CS _).mono ?_); rintro e w1 ⟨rfl, rfl⟩))
          go_roundw
          case rel => exact ⟨2, by go_num, by omega, HM2.out, HG1.out⟩
          case measure => simp only [intOf]; omega
      · have CS := fun w => rwithin_any q9 (-1073741824) 1073741824 w
        have HN2 : Hid (okSh q9 = false → false = U) := fun h => by rw [HS.out, ← HN.out h]; rfl
        have HY2 : Hid (okSh q9 = true → (List.range 3).all (fun j => okSh (([q7, q8, q9, q10, q11, q12] : List Int).getD j 0)) = true) := fun h => by rw [show 3 = 2 + 1 from rfl, HY.out, HM.out]; exact h
        rw [show wi q9 (-1073741824) 1073741824 = okSh q9 from rfl] at CS
        skip
        generalize okSh q9 = S at *
        clear HN HY HM
        cases S
        · have HF := Lib.hid (HN2.out rfl)
          clear HN2 HY2
          go_wp2_with (go_at_call 97; ((with_reducible refine (CS _).mono ?_); rintro e w1 ⟨rfl, rfl⟩))
          go_ret
          exact ⟨ret_b HF.out, HG.out⟩
        · have HM2 := Lib.hid (HY2.out rfl)
          clear HN2 HY2
          go_wp2_with (go_at_call 97; ((with_reducible refine (CS _).mono ?_); rintro e w1 ⟨rfl, rfl⟩))
          go_roundw
          case rel => exact ⟨3, by go_num, by omega, HM2.out, HG1.out⟩
          case measure => simp only [intOf]; omega
      · have CS := fun w => rwithin_any q10 (-1073741824) 1073741824 w
        have HN2 : Hid (okSh q10 = false → false = U) := fun h => by rw [HS.out, ← HN.out h]; rfl
        have HY2 : Hid (okSh q10 = true → (List.range 4).all (fun j => okSh (([q7, q8, q9, q10, q11, q12] : List Int).getD j 0)) = true) := fun h => by rw [show 4 = 3 + 1 from rfl, HY.out, HM.out]; exact h
        rw [show wi q10 (-1073741824) 1073741824 = okSh q10 from rfl] at CS
        skip
        generalize okSh q10 = S at *
        clear HN HY HM
        cases S
        · have HF := Lib.hid (HN2.out rfl)
          clear HN2 HY2
          go_wp2_with (go_at_call 97; ((with_reducible refine (CS _).mono ?_); rintro e w1 ⟨rfl, rfl⟩))
          go_ret
          exact ⟨ret_b HF.out, HG.out⟩
        · have HM2 := Lib.hid (HY2.out rfl)
          clear HN2 HY2
          go_wp2_with (go_at_call 97; ((with_reducible refine (CS _).mono ?_); rintro e w1 ⟨rfl, rfl⟩))
          go_roundw
          case rel => exact ⟨4, by go_num, by omega, HM2.out, HG1.out⟩
          case measure => simp only [intOf]; omega
      · have CS := fun w => rwithin_any q11 (-1073741824) 1073741824 w
        have HN2 : Hid (okSh q11 = false → false = U) := fun h => by rw [HS.out, ← HN.out h]; rfl
        have HY2 : Hid (okSh q11 = true → (List.range 5).all (fun j => okSh (([q7, q8, q9, q10, q11, q12] : List Int).getD j 0)) = true) := fun h => by rw [show 5 = 4 + 1 from rfl, HY.out, HM.out]; exact h
        rw [show wi q11 (-1073741824) 1073741824 = okSh q11 from rfl] at CS
        skip
        generalize okSh q11 = S at *
        clear HN HY HM
        cases S
        · have HF := Lib.hid (HN2.out rfl)
          clear HN2 HY2
          go_wp2_with (go_at_call 97; ((with_reducible refine (CS _).mono ?_); rintro e w1 ⟨rfl, rfl⟩))
          go_ret
          exact ⟨ret_b HF.out, HG.out⟩
        · have HM2 := Lib.hid (HY2.out rfl)
          clear HN2 HY2
          go_wp2_with (go_at_call 97; ((with_reducible refine (CS _).mono ?_); rintro e w1 ⟨rfl, rfl⟩))
          go_roundw
          case rel => exact ⟨5, by go_num, by omega, HM2.out, HG1.out⟩
          case measure => simp only [intOf]; omega
      · have CS := fun w => rwithin_any q12 (-1073741824) 1073741824 w
        have HN2 : Hid (okSh q12 = false → false = U) := fun h => by rw [HS.out, ← HN.out h]; rfl
        have HY2 : Hid (okSh q12 = true → (List.range 6).all (fun j => okSh (([q7, q8, q9, q10, q11, q12] : List Int).getD j 0)) = true) := fun h => by rw [show 6 = 5 + 1 from rfl, HY.out, HM.out]; exact h
        rw [show wi q12 (-1073741824) 1073741824 = okSh q12 from rfl] at CS
        skip
        generalize okSh q12 = S at *
        clear HN HY HM
        cases S
        · have HF := Lib.hid (HN2.out rfl)
          clear HN2 HY2
          go_wp2_with (go_at_call 97; ((with_reducible refine (CS _).mono ?_); rintro e w1 ⟨rfl, rfl⟩))
          go_ret
          exact ⟨ret_b HF.out, HG.out⟩
        · have HM2 := Lib.hid (HY2.out rfl)
          clear HN2 HY2
          go_wp2_with (go_at_call 97; ((with_reducible refine (CS _).mono ?_); rintro e w1 ⟨rfl, rfl⟩))
          go_roundw
          case rel => exact ⟨6, by go_num, by omega, HM2.out, HG1.out⟩
          case measure => simp only [intOf]; omega
    · obtain rfl : j = 6 := by omega
      have HU : Hid (U = V) := by show _ = _; rw [HS.out, HM.out]; rfl
      clear HS HM hj hlt
      cases R1
      · have HF : Hid (V = false) := by show _ = _; rw [HV.out]; rfl
        clear HV
        go_wp2_with (first | (go_at_call 97; ((with_reducible refine (CW1 _).mono ?_); rintro e w1 ⟨rfl, rfl⟩)) | (go_at_call 122; ((with_reducible refine (CW2 _).mono ?_); rintro e w1 ⟨rfl, rfl⟩)) | (go_at_call 97; ((with_reducible refine (CW3 _).mono ?_); rintro e w1 ⟨rfl, rfl⟩)) | (go_at_call 97; ((with_reducible refine (CW4 _).mono ?_); rintro e w1 ⟨rfl, rfl⟩)) | (go_at_call 97; ((with_reducible refine (CW5 _).mono ?_); rintro e w1 ⟨rfl, rfl⟩)) | (go_at_call 97; ((with_reducible refine (CW6 _).mono ?_); rintro e w1 ⟨rfl, rfl⟩))); go_ret; exact ⟨ret_b (HU.out.trans HF.out).symm, HG.out⟩
      ·
        cases R2
        · have HF : Hid (V = false) := by show _ = _; rw [HV.out]; rfl
          clear HV
          go_wp2_with (first | (go_at_call 97; ((with_reducible refine (CW1 _).mono ?_); rintro e w1 ⟨rfl, rfl⟩)) | (go_at_call 122; ((with_reducible refine (CW2 _).mono ?_); rintro e w1 ⟨rfl, rfl⟩)) | (go_at_call 97; ((with_reducible refine (CW3 _).mono ?_); rintro e w1 ⟨rfl, rfl⟩)) | (go_at_call 97; ((with_reducible refine (CW4 _).mono ?_); rintro e w1 ⟨rfl, rfl⟩)) | (go_at_call 97; ((with_reducible refine (CW5 _).mono ?_); rintro e w1 ⟨rfl, rfl⟩)) | (go_at_call 97; ((with_reducible refine (CW6 _).mono ?_); rintro e w1 ⟨rfl, rfl⟩))); go_ret; exact ⟨ret_b (HU.out.trans HF.out).symm, HG.out⟩
        ·
          cases R3
          · have HF : Hid (V = false) := by show _ = _; rw [HV.out]; rfl
            clear HV
            go_wp2_with (first | (go_at_call 97; ((with_reducible refine (CW1 _).mono ?_); rintro e w1 ⟨rfl, rfl⟩)) | (go_at_call 122; ((with_reducible refine (CW2 _).mono ?_); rintro e w1 ⟨rfl, rfl⟩)) | (go_at_call 97; ((with_reducible refine (CW3 _).mono ?_); rintro e w1 ⟨rfl, rfl⟩)) | (go_at_call 97; ((with_reducible refine (CW4 _).mono ?_); rintro e w1 ⟨rfl, rfl⟩)) | (go_at_call 97; ((with_reducible refine (CW5 _).mono ?_); rintro e w1 ⟨rfl, rfl⟩)) | (go_at_call 97; ((with_reducible refine (CW6 _).mono ?_); rintro e w1 ⟨rfl, rfl⟩))); go_ret; exact ⟨ret_b (HU.out.trans HF.out).symm, HG.out⟩
          ·
            cases R4
            · have HF : Hid (V = false) := by show _ = _; rw [HV.out]; rfl
              clear HV
              go_wp2_with (first | (go_at_call 97; ((with_reducible refine (CW1 _).mono ?_); rintro e w1 ⟨rfl, rfl⟩)) | (go_at_call 122; ((with_reducible refine (CW2 _).mono ?_); rintro e w1 ⟨rfl, rfl⟩)) | (go_at_call 97; ((with_reducible refine (CW3 _).mono ?_); rintro e w1 ⟨rfl, rfl⟩)) | (go_at_call 97; ((with_reducible refine (CW4 _).mono ?_); rintro e w1 ⟨rfl, rfl⟩)) | (go_at_call 97; ((with_reducible refine (CW5 _).mono ?_); rintro e w1 ⟨rfl, rfl⟩)) | (go_at_call 97; ((with_reducible refine (CW6 _).mono ?_); rintro e w1 ⟨rfl, rfl⟩))); go_ret; exact ⟨ret_b (HU.out.trans HF.out).symm, HG.out⟩
            ·
              cases R5
              · have HF : Hid (V = false) := by show _ = _; rw [HV.out]; rfl
                clear HV
                go_wp2_with (first | (go_at_call 97; ((with_reducible refine (CW1 _).mono ?_); rintro e w1 ⟨rfl, rfl⟩)) | (go_at_call 122; ((with_reducible refine (CW2 _).mono ?_); rintro e w1 ⟨rfl, rfl⟩)) | (go_at_call 97; ((with_reducible refine (CW3 _).mono ?_); rintro e w1 ⟨rfl, rfl⟩)) | (go_at_call 97; ((with_reducible refine (CW4 _).mono ?_); rintro e w1 ⟨rfl, rfl⟩)) | (go_at_call 97; ((with_reducible refine (CW5 _).mono ?_); rintro e w1 ⟨rfl, rfl⟩)) | (go_at_call 97; ((with_reducible refine (CW6 _).mono ?_); rintro e w1 ⟨rfl, rfl⟩))); go_ret; exact ⟨ret_b (HU.out.trans HF.out).symm, HG.out⟩
              ·
                cases R6
                · have HF : Hid (V = false) := by show _ = _; rw [HV.out]; rfl
                  clear HV
                  go_wp2_with (first | (go_at_call 97; ((with_reducible refine (CW1 _).mono ?_); rintro e w1 ⟨rfl, rfl⟩)) | (go_at_call 122; ((with_reducible refine (CW2 _).mono ?_); rintro e w1 ⟨rfl, rfl⟩)) | (go_at_call 97; ((with_reducible refine (CW3 _).mono ?_); rintro e w1 ⟨rfl, rfl⟩)) | (go_at_call 97; ((with_reducible refine (CW4 _).mono ?_); rintro e w1 ⟨rfl, rfl⟩)) | (go_at_call 97; ((with_reducible refine (CW5 _).mono ?_); rintro e w1 ⟨rfl, rfl⟩)) | (go_at_call 97; ((with_reducible refine (CW6 _).mono ?_); rintro e w1 ⟨rfl, rfl⟩))); go_ret; exact ⟨ret_b (HU.out.trans HF.out).symm, HG.out⟩
                · have HF : Hid (V = true) := by show _ = _; rw [HV.out]; rfl
                  clear HV
                  go_wp2_with (first | (go_at_call 97; ((with_reducible refine (CW1 _).mono ?_); rintro e w1 ⟨rfl, rfl⟩)) | (go_at_call 122; ((with_reducible refine (CW2 _).mono ?_); rintro e w1 ⟨rfl, rfl⟩)) | (go_at_call 97; ((with_reducible refine (CW3 _).mono ?_); rintro e w1 ⟨rfl, rfl⟩)) | (go_at_call 97; ((with_reducible refine (CW4 _).mono ?_); rintro e w1 ⟨rfl, rfl⟩)) | (go_at_call 97; ((with_reducible refine (CW5 _).mono ?_); rintro e w1 ⟨rfl, rfl⟩)) | (go_at_call 97; ((with_reducible refine (CW6 _).mono ?_); rintro e w1 ⟨rfl, rfl⟩))); go_ret; exact ⟨ret_b (HU.out.trans HF.out).symm, HG.out⟩

end Go.Proofs.YtodnllopokoicaaGreat.NumK
