/- Rows of positions, trades, legs: which are right; books in memory; book.Check. -/
import Derived.Test.YtodnllopokoicaaGreatRH23
import Derived.Test.YtodnllopokoicaaGreatRH2
import Derived.Test.YtodnllopokoicaaGreatRH5
namespace Go.Proofs.YtodnllopokoicaaGreat.NumK
open Go.RowKit
set_option linter.unusedVariables false

set_option maxRecDepth 100000 in
set_option maxHeartbeats 2000000 in
theorem rnumbers_any (t : Tr) (w : World) : Calls Tryz.prog 100 #[vTr t] w fun e w' => e = .returned (.bool (numsT t)) ∧ Grew w w' := by
  have HV : Hid (numsT t = (sizedT t && wi t.1.2.1 1 16 && wi t.1.2.2.1 1 16 && !(decide (t.1.2.1 = t.1.2.2.1)) && wi t.1.2.2.2.1 1 8)) := rfl
  have C1 := fun w => rsized_any t w
  generalize numsT t = V at *
  generalize sizedT t = R1 at *
  obtain ⟨⟨q1, q2, q3, q4, q5, q6⟩, q7⟩ := t
  dsimp only at HV
  have C2 := fun w => rwho_any q2 w
  have C3 := fun w => rwho_any q3 w
  have C5 := fun w => rwithin_any q4 1 8 w
  have HX0 : Hid (OwnC (w.alloc (.cells #[.int .i64 q1, .int .i64 q2, .int .i64 q3, .int .i64 q4, .int .i64 q5, .int .i64 q6, .bool q7] 158)) w.heap.size [.int .i64 q1, .int .i64 q2, .int .i64 q3, .int .i64 q4, .int .i64 q5, .int .i64 q6, .bool q7]) := OwnC.new w [.int .i64 q1, .int .i64 q2, .int .i64 q3, .int .i64 q4, .int .i64 q5, .int .i64 q6, .bool q7] _ _ rfl
  generalize wi q2 1 16 = R2 at *
  generalize wi q3 1 16 = R3 at *
  generalize wi q4 1 8 = R5 at *
  have H4 : Hid ((q2 = q3 ∧ decide (q2 = q3) = true) ∨ ((q2 != q3) = true ∧ decide (q2 = q3) = false)) := by
    by_cases h : q2 = q3
    · exact Or.inl ⟨h, decide_eq_true h⟩
    · exact Or.inr ⟨by simpa using h, decide_eq_false h⟩
  generalize hR4 : decide (q2 = q3) = R4 at *
  clear hR4
  dsimp only [vTr] at C1 ⊢
  have H : (R1 = false) ∨ (R1 = true ∧ R2 = false) ∨ (R1 = true ∧ R2 = true ∧ R3 = false) ∨ (R1 = true ∧ R2 = true ∧ R3 = true) := by cases R1 <;> cases R2 <;> cases R3 <;> simp
  rcases H with rfl | ⟨rfl, rfl⟩ | ⟨rfl, rfl, rfl⟩ | ⟨rfl, rfl, rfl⟩
  · have HF : Hid (V = false) := by show _ = _; rw [HV.out]; rfl
    clear HV H4
    go_enter Tryz.func100, Tryz.ntmps100
    go_wp2_with (go_at_call 134; ((with_reducible refine (C1 _).mono ?_); rintro e w1 ⟨rfl, hg⟩; have HG := Lib.hid (own_back hg); clear hg))
    go_ret
    exact ⟨ret_b HF.out.symm, HG.out⟩
  · have HF : Hid (V = false) := by show _ = _; rw [HV.out]; rfl
    clear HV H4
    go_enter Tryz.func100, Tryz.ntmps100
    go_wp2_with (first
      | (go_at_call 134; ((with_reducible refine (C1 _).mono ?_); rintro e w1 ⟨rfl, hg⟩; have HG := Lib.hid (own_back hg); have HX := Lib.hid (HX0.out.keep hg); have x1 : w1.cell? ⟨w.heap.size, 1, none⟩ = some (.int .i64 q2) := HX.out.at 1 _ rfl; clear hg))
      | (go_at_call 81; ((with_reducible refine (C2 _).mono ?_); rintro e w2 ⟨rfl, rfl⟩)))
    go_ret
    exact ⟨ret_b HF.out.symm, HG.out⟩
  · have HF : Hid (V = false) := by show _ = _; rw [HV.out]; rfl
    clear HV H4
    go_enter Tryz.func100, Tryz.ntmps100
    go_wp2_with (first
      | (go_at_call 134; ((with_reducible refine (C1 _).mono ?_); rintro e w1 ⟨rfl, hg⟩; have HG := Lib.hid (own_back hg); have HX := Lib.hid (HX0.out.keep hg); have x1 : w1.cell? ⟨w.heap.size, 1, none⟩ = some (.int .i64 q2) := HX.out.at 1 _ rfl; have x2 : w1.cell? ⟨w.heap.size, 2, none⟩ = some (.int .i64 q3) := HX.out.at 2 _ rfl; clear hg))
      | (go_at_call 81; ((with_reducible refine (C2 _).mono ?_); rintro e w2 ⟨rfl, rfl⟩))
      | (go_at_call 81; ((with_reducible refine (C3 _).mono ?_); rintro e w2 ⟨rfl, rfl⟩)))
    go_ret
    exact ⟨ret_b HF.out.symm, HG.out⟩
  · rcases H4.out with ⟨rfl, rfl⟩ | ⟨d4, rfl⟩
    · have HF : Hid (V = false) := by show _ = _; rw [HV.out]; rfl
      clear HV H4
      go_enter Tryz.func100, Tryz.ntmps100
      go_wp2_with (first
        | (go_at_call 134; ((with_reducible refine (C1 _).mono ?_); rintro e w1 ⟨rfl, hg⟩; have HG := Lib.hid (own_back hg); have HX := Lib.hid (HX0.out.keep hg); have x1 : w1.cell? ⟨w.heap.size, 1, none⟩ = some (.int .i64 q2) := HX.out.at 1 _ rfl; have x2 : w1.cell? ⟨w.heap.size, 2, none⟩ = some (.int .i64 q2) := HX.out.at 2 _ rfl; clear hg))
        | (go_at_call 81; ((with_reducible refine (C2 _).mono ?_); rintro e w2 ⟨rfl, rfl⟩)))
      go_ret
      exact ⟨ret_b HF.out.symm, HG.out⟩
    · have HF : Hid (V = R5) := by show _ = _; rw [HV.out]; rfl
      clear HV H4
      go_enter Tryz.func100, Tryz.ntmps100
      go_wp2_with (first
        | (go_at_call 134; ((with_reducible refine (C1 _).mono ?_); rintro e w1 ⟨rfl, hg⟩; have HG := Lib.hid (own_back hg); have HX := Lib.hid (HX0.out.keep hg); have x1 : w1.cell? ⟨w.heap.size, 1, none⟩ = some (.int .i64 q2) := HX.out.at 1 _ rfl; have x2 : w1.cell? ⟨w.heap.size, 2, none⟩ = some (.int .i64 q3) := HX.out.at 2 _ rfl; have x3 : w1.cell? ⟨w.heap.size, 3, none⟩ = some (.int .i64 q4) := HX.out.at 3 _ rfl; clear hg))
        | (go_at_call 81; ((with_reducible refine (C2 _).mono ?_); rintro e w2 ⟨rfl, rfl⟩))
        | (go_at_call 81; ((with_reducible refine (C3 _).mono ?_); rintro e w2 ⟨rfl, rfl⟩))
        | (go_at_call 97; ((with_reducible refine (C5 _).mono ?_); rintro e w2 ⟨rfl, rfl⟩)))
      go_ret
      exact ⟨ret_b HF.out.symm, HG.out⟩
end Go.Proofs.YtodnllopokoicaaGreat.NumK
namespace Go.Proofs.YtodnllopokoicaaGreat.NumK
open Go.RowKit
set_option linter.unusedVariables false

theorem okPo_alt (x : Po) : okPo x = (okK (x.1, x.2.1) && wi x.2.2.1 (-1099511627776) 1099511627776 && isMoney x.2.2.2 && !(noneP x.2.2.1 x.2.2.2)) := rfl
theorem ok_klt {a b : Po} (ha : okPo a = true) (hb : okPo b = true) : kltB (a.1, a.2.1) (b.1, b.2.1) = decide (noPo a < noPo b) :=
  klt_no (a := keyP a) (b := keyP b) ((okPo_iff a).1 ha).1 ((okPo_iff b).1 hb).1
theorem steps_ok {l : List Po} {j : Nat} (h : (List.range j).all (stepOK okPo noPo po0 l) = true) {i : Nat} (hi : i < j) : okPo (l.getD i po0) = true := by
  have := (List.all_eq_true.1 h) i (List.mem_range.2 hi)
  unfold stepOK at this
  rw [Bool.and_eq_true] at this
  exact this.1
theorem steps_all {l : List Po} (h : (List.range l.length).all (stepOK okPo noPo po0 l) = true) : ∀ x ∈ l, okPo x = true := fun x hx => by
  obtain ⟨i, hi, rfl⟩ := List.getElem_of_mem hx
  rw [← getD_at l po0 i hi]
  exact steps_ok h hi

set_option maxRecDepth 100000 in
set_option maxHeartbeats 4000000 in
theorem rightPoss_any (A : Option Addr) (n c : Nat) (l : List Po) (w : World) (h : RowE enPo w A n l) (hn : n ≤ 100000) :
    Calls Tryz.prog 87 #[.slice A n c] w fun e w' => e = .returned (.bool (rightPs l)) ∧ Grew w w' := by
  have HI := Lib.hid h
  have HL := Lib.hid h.len
  have HR : Hid (rightPs l = ((List.range n).all (stepOK okPo noPo po0 l) && flatI l)) := by show _ = _; rw [← h.len]; rfl
  have HEV : Hid ((List.range n).all (stepOK okPo noPo po0 l) = true → ∀ w', Grew w w' → Calls Tryz.prog 127 #[.slice A n c] w' fun e w'' => e = .returned (.bool (flatI l)) ∧ Grew w' w'') := fun hs w' g => by
    have h2 : ∀ x ∈ l, okPo x = true := steps_all (by rw [h.len]; exact hs)
    exact beven_any A n c l w' (h.keep g) (fun x hx => ((okPo_iff x).1 (h2 x hx)).1) (fun x hx => (isMoney_iff _).2 (by have := (okQ_iff _).1 ((okPo_iff x).1 (h2 x hx)).2.1; omega)) hn
  generalize flatI l = FL at *
  generalize rightPs l = R at *
  clear h
  go_enter Tryz.func87, Tryz.ntmps87
  go_wp2
  go_loopw [7] (fun v wr => ∃ j : Nat, v = .int .i64 j ∧ j ≤ n ∧ Hid ((List.range j).all (stepOK okPo noPo po0 l) = true) ∧ Hid (Grew w wr)) (fun v _ => n - (intOf v).toNat)
  case atStart => exact ⟨0, rfl, by omega, rfl, grew_refl _⟩
  case round =>
    obtain ⟨j, rfl, hj, HM, HG⟩ := hrel
    by_cases hlt : j < n
    · obtain ⟨b, o, rfl, hb, hc⟩ := (HI.out.keep HG.out).po hlt
      have HN := Lib.hid (range_all_no (stepOK okPo noPo po0 l) j n hlt)
      have HY := Lib.hid (range_all_succ (stepOK okPo noPo po0 l) j)
      have HST : Hid (stepOK okPo noPo po0 l j = (okPo (l.getD j po0) && (decide (j = 0) || decide (noPo (l.getD (j - 1) po0) < noPo (l.getD j po0))))) := rfl
      have HKL : Hid (0 < j → okPo (l.getD j po0) = true → kltB ((l.getD (j - 1) po0).1, (l.getD (j - 1) po0).2.1) ((l.getD j po0).1, (l.getD j po0).2.1) = decide (noPo (l.getD (j - 1) po0) < noPo (l.getD j po0))) := fun h0 hx => ok_klt (steps_ok HM.out (by omega)) hx
      have HOK := Lib.hid (okPo_alt (l.getD j po0))
      have CE := fun w => empty_any (l.getD j po0) w
      obtain ⟨a0, a1, a2, a3⟩ := hc j hlt
      have HPB : Hid (0 < j → CPo wr b (o + (j - 1) * 4) (l.getD (j - 1) po0)) := fun h0 => hc (j - 1) (by omega)
      have HB := Lib.hid hb
      clear hc hb
      have i0 : (0 : Int) ≤ (j : Int) := by omega
      have i1 : (j : Int) < (n : Int) := by omega
      generalize stepOK okPo noPo po0 l j = st at *
      generalize decide (noPo (l.getD (j - 1) po0) < noPo (l.getD j po0)) = lt at *
      generalize okPo (l.getD j po0) = ok at *
      generalize l.getD j po0 = x at *
      generalize l.getD (j - 1) po0 = p at *
      obtain ⟨q1, q2, q3, q4⟩ := x
      dsimp only at a0 a1 a2 a3 HKL HOK CE
      dsimp only [vPo] at CE
      have C1 := fun w => permitted_any q1 q2 w
      have C2 := fun w => bwithin_any q3 (-1099511627776) 1099511627776 w
      have C3 := fun w => right_any (some ⟨w.heap.size, 0, none⟩) 1 1 [q4] (w.alloc (.cells #[.int .i64 q4] 3)) (ints1 w q4 _) (by decide)
      simp only [List.all_cons, List.all_nil, Bool.and_true] at C3
      dsimp only [vKy] at C1
      generalize okK (q1, q2) = R1 at *
      generalize wi q3 (-1099511627776) 1099511627776 = R2 at *
      generalize isMoney q4 = R3 at *
      generalize noneP q3 q4 = R4 at *
      have HX0 : Hid (OwnC (wr.alloc (.cells #[.int .i64 q1, .int .i64 q2, .int .i64 q3, .int .i64 q4] 111)) wr.heap.size [.int .i64 q1, .int .i64 q2, .int .i64 q3, .int .i64 q4]) := OwnC.new wr [.int .i64 q1, .int .i64 q2, .int .i64 q3, .int .i64 q4] _ _ rfl
      have H : (R1 = false) ∨ (R1 = true ∧ R2 = false) ∨ (R1 = true ∧ R2 = true ∧ R3 = false) ∨ (R1 = true ∧ R2 = true ∧ R3 = true ∧ R4 = true) ∨ (R1 = true ∧ R2 = true ∧ R3 = true ∧ R4 = false) := by cases R1 <;> cases R2 <;> cases R3 <;> cases R4 <;> simp
      rcases H with rfl | ⟨rfl, rfl⟩ | ⟨rfl, rfl, rfl⟩ | ⟨rfl, rfl, rfl, rfl⟩ | ⟨rfl, rfl, rfl, rfl⟩
      · have HF : Hid (R = false) := by show _ = _; rw [HR.out, ← HN.out (by rw [HST.out, HOK.out]; rfl)]; rfl
        clear HN HY HST HKL HOK HPB HM HR HEV
        go_wp2_with (go_at_call 124; ((with_reducible refine (C1 _).mono ?_); rintro e w1 ⟨rfl, hg⟩; have HG1 := Lib.hid (grew_trans HG.out (own_back hg)); clear hg))
        go_ret
        exact ⟨ret_b HF.out.symm, HG1.out⟩
      · have HF : Hid (R = false) := by show _ = _; rw [HR.out, ← HN.out (by rw [HST.out, HOK.out]; rfl)]; rfl
        clear HN HY HST HKL HOK HPB HM HR HEV
        go_wp2_with (first
          | (go_at_call 124; ((with_reducible refine (C1 _).mono ?_); rintro e w1 ⟨rfl, hg⟩; have HG1 := Lib.hid (grew_trans HG.out (own_back hg)); have x2 : w1.cell? ⟨wr.heap.size, 2, none⟩ = some (.int .i64 q3) := (HX0.out.keep hg).at 2 _ rfl; clear hg))
          | (go_at_call 86; ((with_reducible refine (C2 _).mono ?_); rintro e w2 ⟨rfl, rfl⟩)))
        go_ret
        exact ⟨ret_b HF.out.symm, HG1.out⟩
      · have HF : Hid (R = false) := by show _ = _; rw [HR.out, ← HN.out (by rw [HST.out, HOK.out]; rfl)]; rfl
        clear HN HY HST HKL HOK HPB HM HR HEV
        go_wp2_with (first
          | (go_at_call 124; ((with_reducible refine (C1 _).mono ?_); rintro e w1 ⟨rfl, hg⟩; have HG1 := Lib.hid (grew_trans HG.out (own_back hg)); have x2 : w1.cell? ⟨wr.heap.size, 2, none⟩ = some (.int .i64 q3) := (HX0.out.keep hg).at 2 _ rfl; have x3 : w1.cell? ⟨wr.heap.size, 3, none⟩ = some (.int .i64 q4) := (HX0.out.keep hg).at 3 _ rfl; clear hg))
          | (go_at_call 86; ((with_reducible refine (C2 _).mono ?_); rintro e w2 ⟨rfl, rfl⟩))
          | (go_at_call 71; ((with_reducible refine (C3 _).mono ?_); rintro e w2 ⟨rfl, rfl⟩)))
        go_ret
        exact ⟨ret_b HF.out.symm, grew_trans HG1.out (grew_alloc _ _ _)⟩
      · have HF : Hid (R = false) := by show _ = _; rw [HR.out, ← HN.out (by rw [HST.out, HOK.out]; rfl)]; rfl
        clear HN HY HST HKL HOK HPB HM HR HEV
        go_wp2_with (first
          | (go_at_call 124; ((with_reducible refine (C1 _).mono ?_); rintro e w1 ⟨rfl, hg⟩; have HG1 := Lib.hid (grew_trans HG.out (own_back hg)); have HX1 := Lib.hid (HX0.out.keep hg); have hN1 := HX1.out.lt; have x0 : w1.cell? ⟨wr.heap.size, 0, none⟩ = some (.int .i64 q1) := HX1.out.at 0 _ rfl; have x1 : w1.cell? ⟨wr.heap.size, 1, none⟩ = some (.int .i64 q2) := HX1.out.at 1 _ rfl; have x2 : w1.cell? ⟨wr.heap.size, 2, none⟩ = some (.int .i64 q3) := HX1.out.at 2 _ rfl; have x3 : w1.cell? ⟨wr.heap.size, 3, none⟩ = some (.int .i64 q4) := HX1.out.at 3 _ rfl; clear hg))
          | (go_at_call 86; ((with_reducible refine (C2 _).mono ?_); rintro e w2 ⟨rfl, rfl⟩))
          | (go_at_call 71; ((with_reducible refine (C3 _).mono ?_); rintro e w2 ⟨rfl, rfl⟩))
          | (go_at_call 125; ((with_reducible refine (CE _).mono ?_); rintro e w3 ⟨rfl, hg⟩; have HG3 := Lib.hid (grew_trans (grew_trans HG1.out (grew_alloc _ _ _)) hg); clear hg)))
        go_ret
        exact ⟨ret_b HF.out.symm, HG3.out⟩
      · have hok : ok = true := HOK.out
        subst hok
        have HKL2 : Hid (0 < j → kltB (p.1, p.2.1) (q1, q2) = lt) := fun h0 => HKL.out h0 rfl
        clear HOK HKL
        go_upto_region 6 with (first
          | (go_at_call 124; ((with_reducible refine (C1 _).mono ?_); rintro e w1 ⟨rfl, hg⟩; have HG1 := Lib.hid (grew_trans HG.out (own_back hg)); have HX1 := Lib.hid (HX0.out.keep hg); have hN1 := HX1.out.lt; have x0 : w1.cell? ⟨wr.heap.size, 0, none⟩ = some (.int .i64 q1) := HX1.out.at 0 _ rfl; have x1 : w1.cell? ⟨wr.heap.size, 1, none⟩ = some (.int .i64 q2) := HX1.out.at 1 _ rfl; have x2 : w1.cell? ⟨wr.heap.size, 2, none⟩ = some (.int .i64 q3) := HX1.out.at 2 _ rfl; have x3 : w1.cell? ⟨wr.heap.size, 3, none⟩ = some (.int .i64 q4) := HX1.out.at 3 _ rfl; have HGB := Lib.hid (own_back hg); clear hg))
          | (go_at_call 86; ((with_reducible refine (C2 _).mono ?_); rintro e w2 ⟨rfl, rfl⟩))
          | (go_at_call 71; ((with_reducible refine (C3 _).mono ?_); rintro e w2 ⟨rfl, rfl⟩))
          | (go_at_call 125; ((with_reducible refine (CE _).mono ?_); rintro e w3 ⟨rfl, hg⟩; have HG3 := Lib.hid (grew_trans (grew_trans HG1.out (grew_alloc _ _ _)) hg); have HX3 := Lib.hid ((HX1.out.keep (grew_alloc _ _ _)).keep hg); have HGC := Lib.hid (grew_trans (grew_trans HGB.out (grew_alloc _ _ _)) hg); clear hg x0 x1 x2 x3 hN1)))
        clear C1 C2 C3 CE HG1 HX1 HGB HX0
        have y0 := grew_every (w := w3) (S := fun w' => w'.cell? ⟨wr.heap.size, 0, none⟩ = some (.int .i64 q1)) (fun w' g => (HX3.out.keep g).at 0 _ rfl)
        have y1 := grew_every (w := w3) (S := fun w' => w'.cell? ⟨wr.heap.size, 1, none⟩ = some (.int .i64 q2)) (fun w' g => (HX3.out.keep g).at 1 _ rfl)
        cases j with
        | zero =>
          have HM2 := Lib.hid (HY.out.trans (by rw [HST.out]))
          clear HN HY HST HM HPB HKL2
          refine wp_region_grew (by kernel_rfl) (by kernel_rfl) ?_
          repeat (go_big_quiet_step (fail))
          refine wpQuiet_nil ?_
          intro w5 hw'
          have HG5 := Lib.hid (grew_of hw')
          clear hw' y0 y1
          go_wp2
          go_roundw
          case rel => exact ⟨1, by go_num, by omega, HM2.out, grew_trans HG3.out HG5.out⟩
          case measure => simp only [intOf]; omega
        | succ i =>
          obtain ⟨e0, e1, e2, e3⟩ := HPB.out (by omega)
          rw [show i + 1 - 1 = i from rfl] at e0 e1
          have HST2 : Hid (st = lt) := by show _ = _; rw [HST.out]; simp
          have q5 : IntKind.i64.wrap (((i + 1 : Nat) : Int) - 1) = (i : Int) := by rw [IntKind.wrap_i64]; omega
          have q6 : (0 : Int) < ((i + 1 : Nat) : Int) := by omega
          have q7 : (i : Int) < (n : Int) := by omega
          have q8 : (0 : Int) ≤ (i : Int) := by omega
          obtain ⟨p1, p2, p3, p4⟩ := p
          dsimp only at e0 e1
          have HKL3 := Lib.hid (HKL2.out (by omega))
          dsimp only at HKL3
          have CL := fun w' (g : Grew w3 w') => less_any p1 p2 q1 q2 w'
          dsimp only [vKy] at CL
          rw [HKL3.out] at CL
          have z0 := grew_every (w := w3) (S := fun w' => w'.cell? ⟨b, o + i * 4, none⟩ = some (.int .i64 p1)) (fun w' g => (grew_cell (grew_trans HGC.out g) (p := ⟨b, _, none⟩) HB.out).trans e0)
          have z1 := grew_every (w := w3) (S := fun w' => w'.cell? ⟨b, o + i * 4 + 1, none⟩ = some (.int .i64 p2)) (fun w' g => (grew_cell (grew_trans HGC.out g) (p := ⟨b, _, none⟩) HB.out).trans e1)
          clear HPB HST HKL2 HKL3 e0 e1 e2 e3
          cases lt
          · have HF : Hid (R = false) := by show _ = _; rw [HR.out, ← HN.out (by rw [HST2.out])]; rfl
            clear HN HY HST2 HM HR
            refine wp_region_grew (by kernel_rfl) (by kernel_rfl) ?_
            repeat (go_big_quiet_step (with_reducible exact calls_every CL))
            refine wpQuiet_nil ?_
            intro w5 hw'
            have HG5 := Lib.hid (grew_of hw')
            clear hw' y0 y1 z0 z1
            go_wp2
            go_ret
            exact ⟨ret_b HF.out.symm, grew_trans HG3.out HG5.out⟩
          · have HM2 := Lib.hid (HY.out.trans (by rw [HST2.out, HM.out]))
            clear HN HY HST2 HM
            refine wp_region_grew (by kernel_rfl) (by kernel_rfl) ?_
            repeat (go_big_quiet_step (with_reducible exact calls_every CL))
            refine wpQuiet_nil ?_
            intro w5 hw'
            have HG5 := Lib.hid (grew_of hw')
            clear hw' y0 y1 z0 z1
            go_wp2
            go_roundw
            case rel => exact ⟨i + 1 + 1, by go_num, by omega, HM2.out, grew_trans HG3.out HG5.out⟩
            case measure => simp only [intOf]; omega
    · obtain rfl : j = n := by omega
      have CV := HEV.out HM.out
      have HF : Hid (R = FL) := by show _ = _; rw [HR.out, HM.out]; rfl
      clear HEV HR HM
      go_wp2_with (go_at_call 127; ((with_reducible refine (CV _ HG.out).mono ?_); rintro e w1 ⟨rfl, hg⟩; have HG1 := Lib.hid (grew_trans HG.out hg); clear hg))
      go_ret
      exact ⟨ret_b HF.out.symm, HG1.out⟩
end Go.Proofs.YtodnllopokoicaaGreat.NumK
namespace Go.Proofs.YtodnllopokoicaaGreat.NumK
open Go.RowKit
set_option linter.unusedVariables false

theorem calls_same {P : Program} {f : FuncId} {args : Array Value} {w : World} {v : Value} (h : Calls P f args w fun e w' => e = .returned v ∧ w = w') : Calls P f args w fun e w' => e = .returned v ∧ Grew w w' :=
  h.mono fun e w' ⟨he, hw⟩ => ⟨he, hw ▸ grew_refl _⟩

set_option maxRecDepth 100000 in
set_option maxHeartbeats 4000000 in
theorem rightTrades_any (A : Option Addr) (n c : Nat) (l : List Tr) (next : Int) (w : World) (h : RowE enTr w A n l) (hn : n ≤ 100000) :
    Calls Tryz.prog 88 #[.slice A n c, .int .i64 next] w fun e w' => e = .returned (.bool (rightTs next l)) ∧ Grew w w' := by
  have HI := Lib.hid h
  have HL := Lib.hid h.len
  have HR : Hid (rightTs next l = ((List.range n).all (stepOK (okTr next) noTr tr0 l) && decide (n ≤ 128))) := by show _ = _; rw [← h.len]; rfl
  generalize rightTs next l = R at *
  clear h
  go_enter Tryz.func88, Tryz.ntmps88
  go_wp2
  go_loopw [9] (fun v wr => ∃ j : Nat, v = .int .i64 j ∧ j ≤ n ∧ Hid ((List.range j).all (stepOK (okTr next) noTr tr0 l) = true) ∧ Hid (Grew w wr)) (fun v _ => n - (intOf v).toNat)
  case atStart => exact ⟨0, rfl, by omega, rfl, grew_refl _⟩
  case round =>
    obtain ⟨j, rfl, hj, HM, HG⟩ := hrel
    by_cases hlt : j < n
    · obtain ⟨b, o, rfl, hb, hc⟩ := (HI.out.keep HG.out).tr hlt
      have HN := Lib.hid (range_all_no (stepOK (okTr next) noTr tr0 l) j n hlt)
      have HY := Lib.hid (range_all_succ (stepOK (okTr next) noTr tr0 l) j)
      have HST : Hid (stepOK (okTr next) noTr tr0 l j = ((numsT (l.getD j tr0) && wi (l.getD j tr0).1.1 1 next) && (decide (j = 0) || decide ((l.getD (j - 1) tr0).1.1 < (l.getD j tr0).1.1)))) := rfl
      have CR := fun w => rightTrade_any (l.getD j tr0) w
      obtain ⟨a0, a1, a2, a3, a4, a5, a6⟩ := hc j hlt
      have HPB : Hid (0 < j → CTr wr b (o + (j - 1) * 7) (l.getD (j - 1) tr0)) := fun h0 => hc (j - 1) (by omega)
      have HB := Lib.hid hb
      clear hc hb
      have i0 : (0 : Int) ≤ (j : Int) := by omega
      have i1 : (j : Int) < (n : Int) := by omega
      generalize stepOK (okTr next) noTr tr0 l j = st at *
      generalize numsT (l.getD j tr0) = R1 at *
      generalize l.getD j tr0 = x at *
      generalize l.getD (j - 1) tr0 = p at *
      obtain ⟨⟨q1, q2, q3, q4, q5, q6⟩, q7⟩ := x
      dsimp only at a0 a1 a2 a3 a4 a5 a6 HST
      dsimp only [vTr] at CR
      have CW := fun w => calls_same (bwithin_any q1 1 next w)
      generalize wi q1 1 next = R2 at *
      have HX0 : Hid (OwnC (wr.alloc (.cells #[.int .i64 q1, .int .i64 q2, .int .i64 q3, .int .i64 q4, .int .i64 q5, .int .i64 q6, .bool q7] 158)) wr.heap.size [.int .i64 q1, .int .i64 q2, .int .i64 q3, .int .i64 q4, .int .i64 q5, .int .i64 q6, .bool q7]) := OwnC.new wr [.int .i64 q1, .int .i64 q2, .int .i64 q3, .int .i64 q4, .int .i64 q5, .int .i64 q6, .bool q7] _ _ rfl
      have HG0 : Hid (Grew wr (wr.alloc (.cells #[.int .i64 q1, .int .i64 q2, .int .i64 q3, .int .i64 q4, .int .i64 q5, .int .i64 q6, .bool q7] 158))) := grew_alloc _ _ _
      go_upto_region 4 with fail
      generalize wr.alloc (.cells #[.int .i64 q1, .int .i64 q2, .int .i64 q3, .int .i64 q4, .int .i64 q5, .int .i64 q6, .bool q7] 158) = w0 at *
      clear a0 a1 a2 a3 a4 a5 a6
      have y0 := grew_every (w := w0) (S := fun w' => w'.cell? ⟨wr.heap.size, 0, none⟩ = some (.int .i64 q1)) (fun w' g => (HX0.out.keep g).at 0 _ rfl)
      have y1 := grew_every (w := w0) (S := fun w' => w'.cell? ⟨wr.heap.size, 1, none⟩ = some (.int .i64 q2)) (fun w' g => (HX0.out.keep g).at 1 _ rfl)
      have y2 := grew_every (w := w0) (S := fun w' => w'.cell? ⟨wr.heap.size, 2, none⟩ = some (.int .i64 q3)) (fun w' g => (HX0.out.keep g).at 2 _ rfl)
      have y3 := grew_every (w := w0) (S := fun w' => w'.cell? ⟨wr.heap.size, 3, none⟩ = some (.int .i64 q4)) (fun w' g => (HX0.out.keep g).at 3 _ rfl)
      have y4 := grew_every (w := w0) (S := fun w' => w'.cell? ⟨wr.heap.size, 4, none⟩ = some (.int .i64 q5)) (fun w' g => (HX0.out.keep g).at 4 _ rfl)
      have y5 := grew_every (w := w0) (S := fun w' => w'.cell? ⟨wr.heap.size, 5, none⟩ = some (.int .i64 q6)) (fun w' g => (HX0.out.keep g).at 5 _ rfl)
      have y6 := grew_every (w := w0) (S := fun w' => w'.cell? ⟨wr.heap.size, 6, none⟩ = some (.bool q7)) (fun w' g => (HX0.out.keep g).at 6 _ rfl)
      have C1 := fun w' (g : Grew w0 w') => CR w'
      have C2 := fun w' (g : Grew w0 w') => CW w'
      clear CR CW
      have H : (R1 = false) ∨ (R1 = true ∧ R2 = false) ∨ (R1 = true ∧ R2 = true) := by cases R1 <;> cases R2 <;> simp
      rcases H with rfl | ⟨rfl, rfl⟩ | ⟨rfl, rfl⟩
      · have HF : Hid (R = false) := by show _ = _; rw [HR.out, ← HN.out (by rw [HST.out]; rfl)]; rfl
        clear HN HY HST HM HR HPB
        refine wp_region_grew (by kernel_rfl) (by kernel_rfl) ?_
        repeat (go_big_quiet_step (with_reducible (first | exact calls_every C1 | exact calls_every C2)))
        refine wpQuiet_nil ?_
        intro w5 hw'
        have HG5 := Lib.hid (grew_of hw')
        clear hw' y0 y1 y2 y3 y4 y5 y6
        go_wp2
        go_ret
        exact ⟨ret_b HF.out.symm, grew_trans HG.out (grew_trans HG0.out HG5.out)⟩
      · have HF : Hid (R = false) := by show _ = _; rw [HR.out, ← HN.out (by rw [HST.out]; rfl)]; rfl
        clear HN HY HST HM HR HPB
        refine wp_region_grew (by kernel_rfl) (by kernel_rfl) ?_
        repeat (go_big_quiet_step (with_reducible (first | exact calls_every C1 | exact calls_every C2)))
        refine wpQuiet_nil ?_
        intro w5 hw'
        have HG5 := Lib.hid (grew_of hw')
        clear hw' y0 y1 y2 y3 y4 y5 y6
        go_wp2
        go_ret
        exact ⟨ret_b HF.out.symm, grew_trans HG.out (grew_trans HG0.out HG5.out)⟩
      · cases j with
        | zero =>
          have HM2 := Lib.hid (HY.out.trans (by rw [HST.out]))
          clear HN HY HST HM HPB
          refine wp_region_grew (by kernel_rfl) (by kernel_rfl) ?_
          repeat (go_big_quiet_step (with_reducible (first | exact calls_every C1 | exact calls_every C2)))
          refine wpQuiet_nil ?_
          intro w5 hw'
          have HG5 := Lib.hid (grew_of hw')
          clear hw' y0 y1 y2 y3 y4 y5 y6
          go_wp2
          go_roundw
          case rel => exact ⟨1, by go_num, by omega, HM2.out, grew_trans HG.out (grew_trans HG0.out HG5.out)⟩
          case measure => simp only [intOf]; omega
        | succ i =>
          obtain ⟨e0, -⟩ := HPB.out (by omega)
          rw [show i + 1 - 1 = i from rfl] at e0
          have HST2 : Hid (st = decide (p.1.1 < q1)) := by show _ = _; rw [HST.out]; simp
          have q5 : IntKind.i64.wrap (((i + 1 : Nat) : Int) - 1) = (i : Int) := by rw [IntKind.wrap_i64]; omega
          have q6 : (0 : Int) < ((i + 1 : Nat) : Int) := by omega
          have q7 : (i : Int) < (n : Int) := by omega
          have q8 : (0 : Int) ≤ (i : Int) := by omega
          generalize p.1.1 = p1 at *
          have z0 := grew_every (w := w0) (S := fun w' => w'.cell? ⟨b, o + i * 7, none⟩ = some (.int .i64 p1)) (fun w' g => (grew_cell (grew_trans HG0.out g) (p := ⟨b, _, none⟩) HB.out).trans e0)
          clear HPB HST e0
          by_cases hnp : p1 < q1
          · have HM2 := Lib.hid (HY.out.trans (by rw [HST2.out, decide_eq_true hnp, HM.out]))
            have q9 : ¬ (p1 ≥ q1) := by omega
            clear HN HY HST2 HM hnp
            refine wp_region_grew (by kernel_rfl) (by kernel_rfl) ?_
            repeat (go_big_quiet_step (with_reducible (first | exact calls_every C1 | exact calls_every C2)))
            refine wpQuiet_nil ?_
            intro w5 hw'
            have HG5 := Lib.hid (grew_of hw')
            clear hw' y0 y1 y2 y3 y4 y5 y6 z0
            go_wp2
            go_roundw
            case rel => exact ⟨i + 1 + 1, by go_num, by omega, HM2.out, grew_trans HG.out (grew_trans HG0.out HG5.out)⟩
            case measure => simp only [intOf]; omega
          · have HF : Hid (R = false) := by show _ = _; rw [HR.out, ← HN.out (by rw [HST2.out, decide_eq_false hnp])]; rfl
            have q9 : p1 ≥ q1 := by omega
            clear HN HY HST2 HM HR hnp
            refine wp_region_grew (by kernel_rfl) (by kernel_rfl) ?_
            repeat (go_big_quiet_step (with_reducible (first | exact calls_every C1 | exact calls_every C2)))
            refine wpQuiet_nil ?_
            intro w5 hw'
            have HG5 := Lib.hid (grew_of hw')
            clear hw' y0 y1 y2 y3 y4 y5 y6 z0
            go_wp2
            go_ret
            exact ⟨ret_b HF.out.symm, grew_trans HG.out (grew_trans HG0.out HG5.out)⟩
    · obtain rfl : j = n := by omega
      by_cases h8 : j ≤ 128
      · have HF : Hid (R = true) := by show _ = _; rw [HR.out, HM.out, decide_eq_true h8]; rfl
        have d8 : (j : Int) ≤ 128 := by omega
        clear HR HM h8
        go_wp2
        go_ret
        exact ⟨ret_b HF.out.symm, HG.out⟩
      · have HF : Hid (R = false) := by show _ = _; rw [HR.out, HM.out, decide_eq_false h8]; rfl
        have d8 : ¬ (j : Int) ≤ 128 := by omega
        clear HR HM h8
        go_wp2
        go_ret
        exact ⟨ret_b HF.out.symm, HG.out⟩

end Go.Proofs.YtodnllopokoicaaGreat.NumK
