/- The reference's Ledger. -/
import Derived.Test.YtodnllopokoicaaGreatRH35
namespace Go.Proofs.YtodnllopokoicaaGreat.NumK
open Go.RowKit

set_option maxRecDepth 100000 in
set_option maxHeartbeats 4000000 in
theorem rledger_any (last : Int) (A : Option Addr) (n c : Nat) (l : List Lg) (w : World) (h : RowE enLg w A n l) (hn : n ≤ 90000) :
    Calls Tryz.prog 28 #[ldV last A n c] w fun e w' => e = .returned (.bool (ledgerB last l)) ∧ Grew w w' := by
  have HI := Lib.hid h
  have HL := Lib.hid h.len
  have HV : Hid (ledgerB last l = (decide (0 ≤ last) && rightLg l && evenL l)) := rfl
  generalize ledgerB last l = V at *
  have HNO := Lib.hid (rightB_no l)
  have HYES : Hid ((∀ i, i < n → stepB l i = true) → rightLg l = true) := fun hh => (rightLg_iff l).2 fun i hi => hh i (by rw [← h.len]; exact hi)
  have HEV : Hid ((∀ q : Nat, q < 3 → sumC l q = 0) → evenL l = true) := fun h => by
    unfold evenL; rw [show sumC l 0 = 0 from h 0 (by omega), show sumC l 1 = 0 from h 1 (by omega), show sumC l 2 = 0 from h 2 (by omega)]; rfl
  have HNE : Hid (∀ q : Nat, q < 3 → ¬ sumC l q = 0 → evenL l = false) := fun q hq h => by
    rw [Bool.eq_false_iff]
    unfold evenL
    have : q = 0 ∨ q = 1 ∨ q = 2 := by omega
    rcases this with rfl | rfl | rfl
    · simp only [ne_eq, Bool.and_eq_true, decide_eq_true_eq]; exact fun hh => h hh.1.1
    · simp only [ne_eq, Bool.and_eq_true, decide_eq_true_eq]; exact fun hh => h hh.1.2
    · simp only [ne_eq, Bool.and_eq_true, decide_eq_true_eq]; exact fun hh => h hh.2
  have CT0 := fun (q : Nat) (hr : rightLg l = true) w K (h : RowE enLg w A n l) (hk : Ints w K 6 [1, 2, 3, 4, 5, 6]) => rtotal_any last q A K n c 6 6 l [1, 2, 3, 4, 5, 6] w h hk (rightB_may hr) hn (by omega)
  have HSK : Hid (rightLg l = true → ∀ q : Nat, sumK l q [1, 2, 3, 4, 5, 6] = sumC l q) := fun hr q => by
    unfold sumK sumC
    rw [sumK_all l q [1, 2, 3, 4, 5, 6] (rightB_may hr)]
    intro k h1 h2
    have : k = 1 ∨ k = 2 ∨ k = 3 ∨ k = 4 ∨ k = 5 ∨ k = 6 := by omega
    rcases this with rfl | rfl | rfl | rfl | rfl | rfl <;> decide
  generalize rightLg l = R at *
  generalize evenL l = EV at *
  clear h
  unfold ldV
  unfold ldV at CT0
  by_cases h0 : last < 0
  · have HR : Hid (V = false) := by show _ = _; rw [HV.out, decide_eq_false (by omega : ¬ 0 ≤ last)]; rfl
    clear CT0 HNO HYES HEV HNE HSK HV
    go_enter Tryz.func28, Tryz.ntmps28
    go_wp2
    go_ret
    exact ⟨ret_b HR.out.symm, grew_alloc _ _ _⟩
  have HV1 : Hid (V = (R && EV)) := by show _ = _; rw [HV.out, decide_eq_true (by omega : 0 ≤ last)]; rfl
  clear HV
  go_enter Tryz.func28, Tryz.ntmps28
  go_wp2
  go_loopw [3] (fun v wr => ∃ j : Nat, v = .int .i64 j ∧ j ≤ n ∧ Hid (∀ i, i < j → stepB l i = true) ∧ Hid (Grew (w.alloc (.cells #[.int .i64 last, .slice A n c] 35)) wr)) (fun v _ => n - (intOf v).toNat)
  case atStart => exact ⟨0, rfl, by omega, (by intro i hi; omega), grew_refl _⟩
  case round =>
    obtain ⟨j, rfl, hj, HK, HG⟩ := hrel
    have p0 : wr.cell? ⟨w.heap.size, 0, none⟩ = some (.int .i64 last) := own_cell HG.out 0
    have p1 : wr.cell? ⟨w.heap.size, 1, none⟩ = some (.slice A n c) := own_cell HG.out 1
    have hp1 : w.heap.size < wr.heap.size := own_lt HG.out
    have HG0 := Lib.hid (own_back HG.out)
    generalize wr = wo at *
    by_cases hlt : j < n
    · have hjl : j < l.length := by rw [HL.out]; exact hlt
      obtain ⟨b, o, rfl, hb, a1, a2, a3, a4⟩ := (HI.out.keep HG0.out).lg hlt
      have HNo : Hid (stepB l j = false → V = false) := fun hs => by rw [HV1.out, HNO.out j hjl hs]; rfl
      have HKK : Hid (stepB l j = true → ∀ i, i < j + 1 → stepB l i = true) := fun h i hi => by
        rcases Nat.lt_or_ge i j with h1 | h1
        · exact HK.out i h1
        · obtain rfl : i = j := by omega
          exact h
      have HST : Hid (stepB l j = (okB (l.getD j lg0) && (decide (j = 0) || lessB (l.getD (j - 1) lg0).1 (l.getD j lg0).1))) := rfl
      clear HNO HYES HEV HNE HSK CT0
      generalize stepB l j = st at *
      have i0 : (0 : Int) ≤ (j : Int) := by omega
      have i1 : (j : Int) < (n : Int) := by omega
      have HOK : Hid (okB (l.getD j lg0) = (rightA (l.getD j lg0).1.1 (l.getD j lg0).1.2.1 (l.getD j lg0).1.2.2 && isMoney (l.getD j lg0).2 && decide ((l.getD j lg0).2 ≠ 0) && decide (floorA (l.getD j lg0).1.1 (l.getD j lg0).1.2.1 (l.getD j lg0).1.2.2 ≤ (l.getD j lg0).2))) := rfl
      have CR := fun w => r8right_any (l.getD j lg0).1.1 (l.getD j lg0).1.2.1 (l.getD j lg0).1.2.2 w
      have CF := fun w => refFloor_any (l.getD j lg0).1.1 (l.getD j lg0).1.2.1 (l.getD j lg0).1.2.2 w
      have CM := fun w => (refRight_any (l.getD j lg0).2 w).mono fun e w' (h : e = .returned (.bool (isMoney (l.getD j lg0).2)) ∧ w = w') => (⟨h.1, h.2 ▸ grew_refl _⟩ : e = .returned (.bool (isMoney (l.getD j lg0).2)) ∧ Grew w w')
      have CL := fun w => refLess_any (l.getD (j - 1) lg0).1.1 (l.getD (j - 1) lg0).1.2.1 (l.getD (j - 1) lg0).1.2.2 (l.getD j lg0).1.1 (l.getD j lg0).1.2.1 (l.getD j lg0).1.2.2 w
      rw [show lessA (l.getD (j - 1) lg0).1.1 (l.getD (j - 1) lg0).1.2.1 (l.getD (j - 1) lg0).1.2.2 (l.getD j lg0).1.1 (l.getD j lg0).1.2.1 (l.getD j lg0).1.2.2 = lessB (l.getD (j - 1) lg0).1 (l.getD j lg0).1 from rfl] at CL
      unfold acV at CR CF CL
      generalize okB (l.getD j lg0) = ok at *
      generalize lessB (l.getD (j - 1) lg0).1 (l.getD j lg0).1 = le at *
      generalize rightA (l.getD j lg0).1.1 (l.getD j lg0).1.2.1 (l.getD j lg0).1.2.2 = rr at *
      generalize floorA (l.getD j lg0).1.1 (l.getD j lg0).1.2.1 (l.getD j lg0).1.2.2 = fl at *
      generalize isMoney (l.getD j lg0).2 = mo at *
      have HPB : Hid (0 < j → ∀ w', Grew wo w' → w'.cell? ⟨b, o + (j - 1) * 4, none⟩ = some (.int .i64 (l.getD (j - 1) lg0).1.1) ∧ w'.cell? ⟨b, o + (j - 1) * 4 + 1, none⟩ = some (.int .i64 (l.getD (j - 1) lg0).1.2.1) ∧ w'.cell? ⟨b, o + (j - 1) * 4 + 2, none⟩ = some (.int .i64 (l.getD (j - 1) lg0).1.2.2)) := fun h0 w' g => by
        obtain ⟨b', o', e, hb', z1, z2, z3, _⟩ := ((HI.out.keep HG0.out).keep g).lg (j := j - 1) (by omega)
        cases e
        exact ⟨z1, z2, z3⟩
      generalize (l.getD (j - 1) lg0).1.1 = p1' at *
      generalize (l.getD (j - 1) lg0).1.2.1 = p2' at *
      generalize (l.getD (j - 1) lg0).1.2.2 = p3' at *
      generalize (l.getD j lg0).1.1 = q1 at *
      generalize (l.getD j lg0).1.2.1 = q2 at *
      generalize (l.getD j lg0).1.2.2 = q3 at *
      generalize (l.getD j lg0).2 = q4 at *
      clear hb hjl
      have HW0G : Hid (Grew wo (wo.alloc (.cells #[.int .i64 q1, .int .i64 q2, .int .i64 q3, .int .i64 q4] 119))) := grew_alloc _ _ _
      have HP1 : Hid (∀ w', Grew wo w' → w'.cell? ⟨w.heap.size, 1, none⟩ = some (.slice (some ⟨b, o, none⟩) n c)) := fun w' g => (grew_cell g (p := ⟨w.heap.size, 1, none⟩) hp1).trans p1
      go_wp2_with fail
      have h0 : ((wo.alloc (.cells #[.int .i64 q1, .int .i64 q2, .int .i64 q3, .int .i64 q4] 119)).cell? ⟨wo.heap.size, 0, none⟩ = some (.int .i64 q1) ∧ (wo.alloc (.cells #[.int .i64 q1, .int .i64 q2, .int .i64 q3, .int .i64 q4] 119)).cell? ⟨wo.heap.size, 1, none⟩ = some (.int .i64 q2) ∧ (wo.alloc (.cells #[.int .i64 q1, .int .i64 q2, .int .i64 q3, .int .i64 q4] 119)).cell? ⟨wo.heap.size, 2, none⟩ = some (.int .i64 q3) ∧ (wo.alloc (.cells #[.int .i64 q1, .int .i64 q2, .int .i64 q3, .int .i64 q4] 119)).cell? ⟨wo.heap.size, 3, none⟩ = some (.int .i64 q4))
          ∧ wo.heap.size < (wo.alloc (.cells #[.int .i64 q1, .int .i64 q2, .int .i64 q3, .int .i64 q4] 119)).heap.size := ⟨⟨by simp, by simp, by simp, by simp⟩, by simp⟩
      generalize wo.alloc (.cells #[.int .i64 q1, .int .i64 q2, .int .i64 q3, .int .i64 q4] 119) = w0 at h0 HW0G ⊢
      obtain ⟨hc0, hw0⟩ := h0
      have y0 : ∀ p : GrewTo w0, p.to.cell? ⟨wo.heap.size, 0, none⟩ = some (.int .i64 q1) := fun p => (grew_cell p.h (p := ⟨wo.heap.size, 0, none⟩) hw0).trans hc0.1
      have y1 : ∀ p : GrewTo w0, p.to.cell? ⟨wo.heap.size, 1, none⟩ = some (.int .i64 q2) := fun p => (grew_cell p.h (p := ⟨wo.heap.size, 1, none⟩) hw0).trans hc0.2.1
      have y2 : ∀ p : GrewTo w0, p.to.cell? ⟨wo.heap.size, 2, none⟩ = some (.int .i64 q3) := fun p => (grew_cell p.h (p := ⟨wo.heap.size, 2, none⟩) hw0).trans hc0.2.2.1
      have y3 : ∀ p : GrewTo w0, p.to.cell? ⟨wo.heap.size, 3, none⟩ = some (.int .i64 q4) := fun p => (grew_cell p.h (p := ⟨wo.heap.size, 3, none⟩) hw0).trans hc0.2.2.2
      have z1 : ∀ p : GrewTo w0, p.to.cell? ⟨w.heap.size, 1, none⟩ = some (.slice (some ⟨b, o, none⟩) n c) := fun p => HP1.out _ (grew_trans HW0G.out p.h)
      clear a1 a2 a3 a4 p0 p1 hp1 hc0 hw0
      cases rr
      · have HR : Hid (V = false) := HNo.out (by rw [HST.out, HOK.out]; rfl)
        clear HNo HST HOK HKK CF CM CL
        refine wp_region_grew (by kernel_rfl) (by kernel_rfl) ?_
        repeat (go_big_quiet_step (with_reducible exact calls_grew (CR _)))
        refine wpQuiet_nil ?_
        intro w6 hw'
        have HG6 := Lib.hid (grew_of hw')
        clear hw' y0 y1 y2 y3 z1
        go_wp2
        go_ret
        exact ⟨ret_b HR.out.symm, grew_trans HG0.out (grew_trans HW0G.out HG6.out)⟩
      · by_cases hz : q4 = 0
        · have HR : Hid (V = false) := HNo.out (by rw [HST.out, HOK.out, decide_eq_false (fun h => h hz)]; simp)
          have d0 : (q4 == 0) = true := by simpa using hz
          clear HNo HST HOK HKK hz CF CM CL
          refine wp_region_grew (by kernel_rfl) (by kernel_rfl) ?_
          repeat (go_big_quiet_step (with_reducible exact calls_grew (CR _)))
          refine wpQuiet_nil ?_
          intro w6 hw'
          have HG6 := Lib.hid (grew_of hw')
          clear hw' y0 y1 y2 y3 z1
          go_wp2
          go_ret
          exact ⟨ret_b HR.out.symm, grew_trans HG0.out (grew_trans HW0G.out HG6.out)⟩
        · have d0 : (q4 == 0) = false := by simpa using hz
          cases mo
          · have HR : Hid (V = false) := HNo.out (by rw [HST.out, HOK.out]; simp)
            clear HNo HST HOK HKK hz CF CL
            refine wp_region_grew (by kernel_rfl) (by kernel_rfl) ?_
            repeat (go_big_quiet_step (first | (with_reducible exact calls_grew (CR _)) | (with_reducible exact calls_grew (CM _))))
            refine wpQuiet_nil ?_
            intro w6 hw'
            have HG6 := Lib.hid (grew_of hw')
            clear hw' y0 y1 y2 y3 z1
            go_wp2
            go_ret
            exact ⟨ret_b HR.out.symm, grew_trans HG0.out (grew_trans HW0G.out HG6.out)⟩
          · by_cases hf : q4 < fl
            · have HR : Hid (V = false) := HNo.out (by rw [HST.out, HOK.out, decide_eq_false (by omega : ¬ fl ≤ q4)]; simp)
              clear HNo HST HOK HKK hz CL
              refine wp_region_grew (by kernel_rfl) (by kernel_rfl) ?_
              repeat (go_big_quiet_step (first | (with_reducible exact calls_grew (CR _)) | (with_reducible exact calls_grew (CM _)) | (with_reducible exact calls_grew (CF _))))
              refine wpQuiet_nil ?_
              intro w6 hw'
              have HG6 := Lib.hid (grew_of hw')
              clear hw' y0 y1 y2 y3 z1
              go_wp2
              go_ret
              exact ⟨ret_b HR.out.symm, grew_trans HG0.out (grew_trans HW0G.out HG6.out)⟩
            · have HOK1 : Hid (ok = true) := by show _ = _; rw [HOK.out, decide_eq_true hz, decide_eq_true (by omega : fl ≤ q4)]; rfl
              clear HOK hz
              by_cases hj0 : j = 0
              · have HK2 := Lib.hid (HKK.out (by rw [HST.out, HOK1.out, decide_eq_true hj0]; rfl))
                have d5 : decide ((j : Int) > 0) = false := decide_eq_false (by omega)
                have d6 : ¬ (0 : Int) < (j : Int) := by omega
                clear HKK HST HOK1 HNo HPB CL
                refine wp_region_grew (by kernel_rfl) (by kernel_rfl) ?_
                repeat (go_big_quiet_step (first | (with_reducible exact calls_grew (CR _)) | (with_reducible exact calls_grew (CM _)) | (with_reducible exact calls_grew (CF _))))
                refine wpQuiet_nil ?_
                intro w6 hw'
                have HG6 := Lib.hid (grew_of hw')
                clear hw' y0 y1 y2 y3 z1
                go_wp2
                go_roundw
                case rel => exact ⟨j + 1, by go_num, by omega, HK2.out, grew_trans HG.out (grew_trans HW0G.out HG6.out)⟩
                case measure => simp only [intOf]; omega
              · obtain ⟨i, rfl⟩ : ∃ i, j = i + 1 := ⟨j - 1, by omega⟩
                have zj : ((i + 1 : Nat) : Int) = (i : Int) + 1 := by omega
                have HPB1 : Hid (∀ w', Grew wo w' → w'.cell? ⟨b, o + i * 4, none⟩ = some (.int .i64 p1') ∧ w'.cell? ⟨b, o + i * 4 + 1, none⟩ = some (.int .i64 p2') ∧ w'.cell? ⟨b, o + i * 4 + 2, none⟩ = some (.int .i64 p3')) := fun w' g => HPB.out (by omega) w' g
                have x0 : ∀ p : GrewTo w0, p.to.cell? ⟨b, o + i * 4, none⟩ = some (.int .i64 p1') := fun p => (HPB1.out _ (grew_trans HW0G.out p.h)).1
                have x1 : ∀ p : GrewTo w0, p.to.cell? ⟨b, o + i * 4 + 1, none⟩ = some (.int .i64 p2') := fun p => (HPB1.out _ (grew_trans HW0G.out p.h)).2.1
                have x2 : ∀ p : GrewTo w0, p.to.cell? ⟨b, o + i * 4 + 2, none⟩ = some (.int .i64 p3') := fun p => (HPB1.out _ (grew_trans HW0G.out p.h)).2.2
                have d5 : decide ((i : Int) + 1 > 0) = true := decide_eq_true (by omega)
                have d6 : (0 : Int) < (i : Int) + 1 := by omega
                have q4' : IntKind.i64.wrap ((i : Int) + 1) = (i : Int) + 1 := by rw [IntKind.wrap_i64]; omega
                have q5 : IntKind.i64.wrap ((i : Int) + 1 - 1) = (i : Int) := by rw [IntKind.wrap_i64]; omega
                have q6 : (i : Int) < (n : Int) := by omega
                have q7 : (0 : Int) ≤ (i : Int) := by omega
                have q8 : ((i : Int)).toNat = i := by omega
                have HST2 : Hid (st = le) := by show _ = _; rw [HST.out, HOK1.out, decide_eq_false hj0]; simp
                clear HPB HPB1 hj0 HST HOK1
                rw [zj]
                cases le
                · have HR : Hid (V = false) := HNo.out HST2.out
                  clear HNo HST2 HKK
                  refine wp_region_grew (by kernel_rfl) (by kernel_rfl) ?_
                  repeat (go_big_quiet_step (first | (with_reducible exact calls_grew (CR _)) | (with_reducible exact calls_grew (CM _)) | (with_reducible exact calls_grew (CF _)) | (with_reducible exact calls_grew (CL _))))
                  refine wpQuiet_nil ?_
                  intro w6 hw'
                  have HG6 := Lib.hid (grew_of hw')
                  clear hw' y0 y1 y2 y3 z1
                  clear x0 x1 x2
                  go_wp2
                  go_ret
                  exact ⟨ret_b HR.out.symm, grew_trans HG0.out (grew_trans HW0G.out HG6.out)⟩
                · have HK2 := Lib.hid (HKK.out HST2.out)
                  clear HNo HST2 HKK
                  refine wp_region_grew (by kernel_rfl) (by kernel_rfl) ?_
                  repeat (go_big_quiet_step (first | (with_reducible exact calls_grew (CR _)) | (with_reducible exact calls_grew (CM _)) | (with_reducible exact calls_grew (CF _)) | (with_reducible exact calls_grew (CL _))))
                  refine wpQuiet_nil ?_
                  intro w6 hw'
                  have HG6 := Lib.hid (grew_of hw')
                  clear hw' y0 y1 y2 y3 z1
                  clear x0 x1 x2
                  go_wp2
                  go_roundw
                  case rel => exact ⟨i + 1 + 1, by go_num, by omega, HK2.out, grew_trans HG.out (grew_trans HW0G.out HG6.out)⟩
                  case measure => simp only [intOf]; omega
    · obtain rfl : j = n := by omega
      have hR1 := HYES.out HK.out
      have HV2 : Hid (V = EV) := by show _ = _; rw [HV1.out, hR1]; rfl
      have HSK1 := Lib.hid (HSK.out hR1)
      have CT1 := fun q => CT0 q hR1
      clear HNO HYES HSK CT0 HV1 hR1
      go_wp2
      go_loopw [5] (fun v wr => ∃ q : Nat, v = .int .i64 q ∧ q ≤ 3 ∧ Hid (∀ i : Nat, i < q → sumC l i = 0) ∧ Hid (Grew wo wr)) (fun v _ => 3 - (intOf v).toNat)
      case atStart => exact ⟨0, rfl, by omega, (by intro i hi; omega), grew_refl _⟩
      case round =>
        obtain ⟨q, rfl, hq, HQ, HG2⟩ := hrel
        have r0 : wr.cell? ⟨w.heap.size, 0, none⟩ = some (.int .i64 last) := (grew_cell HG2.out (p := ⟨w.heap.size, 0, none⟩) hp1).trans p0
        have r1 : wr.cell? ⟨w.heap.size, 1, none⟩ = some (.slice A j c) := (grew_cell HG2.out (p := ⟨w.heap.size, 1, none⟩) hp1).trans p1
        by_cases hq3 : q < 3
        · have i9 : (q : Int) < 3 := by omega
          have CT : ∀ N, N = wr.heap.size → Calls Tryz.prog 77 #[.agg #[.int .i64 last, .slice A j c], .int .i64 q, .slice (some ⟨N, 0, none⟩) 6 6] (wr.alloc (.cells #[.int .i64 1, .int .i64 2, .int .i64 3, .int .i64 4, .int .i64 5, .int .i64 6] 3)) fun e w' => e = .returned (.tuple #[.int .i64 (intV (sumC l q)), .bool (isMoney (sumC l q))]) ∧ Grew wr w' := by
            rintro N rfl
            have := CT1 q _ _ ((HI.out.keep (grew_trans HG0.out HG2.out)).keep (grew_alloc wr #[.int .i64 1, .int .i64 2, .int .i64 3, .int .i64 4, .int .i64 5, .int .i64 6] 3)) (ints6' wr 1 2 3 4 5 6 3 _ rfl)
            rw [HSK1.out q] at this
            exact this.mono fun e w' ⟨he, hg⟩ => ⟨he, own_back hg⟩
          have HNE1 : Hid (¬ sumC l q = 0 → V = false) := fun h => by rw [HV2.out, HNE.out q hq3 h]
          have HQ1 : Hid (sumC l q = 0 → ∀ i : Nat, i < q + 1 → sumC l i = 0) := fun h i hi => by
            rcases Nat.lt_or_ge i q with h1 | h1
            · exact HQ.out i h1
            · obtain rfl : i = q := by omega
              exact h
          have HZ := Lib.hid (intV_ne (sumC l q))
          clear CT1
          generalize sumC l (q : Int) = s at *
          by_cases hs : s = 0
          · have HQ2 := Lib.hid (HQ1.out hs)
            obtain ⟨e1, e2⟩ := HZ.out.2 hs
            rw [e1, e2] at CT
            clear HQ1 HNE1 HZ hs e1 e2
            go_wp2_with (go_at_call 77; ((with_reducible refine (CT _ rfl).mono ?_); rintro e w7 ⟨rfl, hg⟩; have HG7 := Lib.hid (grew_trans HG2.out hg); clear hg CT))
            go_roundw
            case rel => exact ⟨q + 1, by go_num, by omega, HQ2.out, HG7.out⟩
            case measure => simp only [intOf]; omega
          · have HR := Lib.hid (HNE1.out hs)
            cases hmm : isMoney s
            · rw [hmm] at CT
              clear HQ1 HNE1 HZ hs hmm
              generalize intV s = iv at *
              go_wp2_with (go_at_call 77; ((with_reducible refine (CT _ rfl).mono ?_); rintro e w7 ⟨rfl, hg⟩; have HG7 := Lib.hid (grew_trans HG2.out hg); clear hg CT))
              go_ret
              exact ⟨ret_b HR.out.symm, grew_trans HG0.out HG7.out⟩
            · rw [hmm, intV_in hmm] at CT
              have d1 : (s != 0) = true := by simpa using hs
              clear HQ1 HNE1 HZ hs hmm
              go_wp2_with (go_at_call 77; ((with_reducible refine (CT _ rfl).mono ?_); rintro e w7 ⟨rfl, hg⟩; have HG7 := Lib.hid (grew_trans HG2.out hg); clear hg CT))
              go_ret
              exact ⟨ret_b HR.out.symm, grew_trans HG0.out HG7.out⟩
        · obtain rfl : q = 3 := by omega
          have HR0 : Hid (V = true) := by show _ = _; rw [HV2.out, HEV.out HQ.out]
          go_wp2
          go_ret
          exact ⟨ret_b HR0.out.symm, grew_trans HG0.out HG2.out⟩
end Go.Proofs.YtodnllopokoicaaGreat.NumK
