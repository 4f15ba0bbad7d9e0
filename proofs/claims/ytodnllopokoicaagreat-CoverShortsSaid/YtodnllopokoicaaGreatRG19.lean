/- Which pledges are right: cover.Check, and the reference's. -/
import Derived.Test.YtodnllopokoicaaGreatRG18
import Derived.Test.YtodnllopokoicaaGreatRG5
namespace Go.Proofs.YtodnllopokoicaaGreat.NumK
open Go.RowKit
set_option linter.unusedVariables false

def chkP (l : List Pg) : Int := if rightPg l = true then 0 else 14
theorem steps_pg {l : List Pg} {j : Nat} (h : (List.range j).all (stepOK okPg noPg pg0 l) = true) {i : Nat} (hi : i < j) : okPg (l.getD i pg0) = true := by
  have := (List.all_eq_true.1 h) i (List.mem_range.2 hi)
  unfold stepOK at this
  rw [Bool.and_eq_true] at this
  exact this.1
theorem calls_pure {P : Program} {f : FuncId} {args : Array Value} {w : World} {v : Value}
    (h : ∀ w', Calls P f args w' fun e w'' => e = .returned v ∧ w' = w'') : ∀ w', Grew w w' → Calls P f args w' fun e w'' => e = .returned v ∧ Grew w' w'' := fun w' _ =>
  (h w').mono (by rintro e w1 ⟨rfl, rfl⟩; exact ⟨rfl, grew_refl _⟩)

set_option maxRecDepth 100000 in
set_option maxHeartbeats 4000000 in
theorem pcheck_any (A : Option Addr) (n c : Nat) (l : List Pg) (w : World) (h : RowE enPg w A n l) (hn : n ≤ 1000000) :
    Calls Tryz.prog 23 #[.slice A n c] w fun e w' => e = .returned (.int .i64 (chkP l)) ∧ Grew w w' := by
  have HI := Lib.hid h
  have HL := Lib.hid h.len
  have HR : Hid (chkP l = if (List.range n).all (stepOK okPg noPg pg0 l) = true then 0 else 14) := by show _ = _; rw [← h.len]; rfl
  generalize chkP l = R at *
  clear h
  go_enter Tryz.func23, Tryz.ntmps23
  go_wp2
  go_loopw [7] (fun v wr => ∃ j : Nat, v = .int .i64 j ∧ j ≤ n ∧ Hid ((List.range j).all (stepOK okPg noPg pg0 l) = true) ∧ Hid (Grew w wr)) (fun v _ => n - (intOf v).toNat)
  case atStart => exact ⟨0, rfl, by omega, rfl, grew_refl _⟩
  case round =>
    obtain ⟨j, rfl, hj, HM, HG⟩ := hrel
    by_cases hlt : j < n
    · obtain ⟨b, o, rfl, hb, hc⟩ := (HI.out.keep HG.out).pg hlt
      have HN := Lib.hid (range_all_no (stepOK okPg noPg pg0 l) j n hlt)
      have HY := Lib.hid (range_all_succ (stepOK okPg noPg pg0 l) j)
      have HST : Hid (stepOK okPg noPg pg0 l j = (okPg (l.getD j pg0) && (decide (j = 0) || decide (noPg (l.getD (j - 1) pg0) < noPg (l.getD j pg0))))) := rfl
      have HP : Hid (0 < j → okPg (l.getD (j - 1) pg0) = true) := fun h0 => steps_pg HM.out (by omega)
      obtain ⟨a0, a1, a2⟩ := hc j hlt
      have HPB : Hid (0 < j → CPg wr b (o + (j - 1) * 3) (l.getD (j - 1) pg0)) := fun h0 => hc (j - 1) (by omega)
      have HB := Lib.hid hb
      clear hc hb
      have i0 : (0 : Int) ≤ (j : Int) := by omega
      have i1 : (j : Int) < (n : Int) := by omega
      generalize stepOK okPg noPg pg0 l j = st at *
      generalize l.getD j pg0 = x at *
      generalize l.getD (j - 1) pg0 = p at *
      obtain ⟨q1, q2, q3⟩ := x
      have HOK : Hid (okPg (q1, q2, q3) = (okPK q1 q2 && wi q3 1 1099511627776)) := rfl
      have HNO : Hid (okPK p.1 p.2.1 = true → okPK q1 q2 = true → (ordP p (q1, q2, q3) < 0 ↔ noPg p < noPg (q1, q2, q3))) := fun h1 h2 => (ordP_no (y := (q1, q2, q3)) h1 h2).1
      have CO := fun w => order_any p (q1, q2, q3) w
      dsimp only [vPg] at a0 a1 a2 CO
      have C1 := fun w => cpermitted_any q1 q2 w
      have C2 := fun w => cwithin_any q3 1 1099511627776 w
      generalize okPK q1 q2 = R1 at *
      generalize wi q3 1 1099511627776 = R2 at *
      generalize ordP p (q1, q2, q3) = O at *
      have HX0 : Hid (OwnC (wr.alloc (.cells #[.int .i64 q1, .int .i64 q2, .int .i64 q3] 74)) wr.heap.size [.int .i64 q1, .int .i64 q2, .int .i64 q3]) := OwnC.new wr [.int .i64 q1, .int .i64 q2, .int .i64 q3] _ _ rfl
      have HG0 : Hid (Grew wr (wr.alloc (.cells #[.int .i64 q1, .int .i64 q2, .int .i64 q3] 74))) := grew_alloc _ _ _
      go_upto_region 4 with (fail)
      generalize (wr.alloc (.cells #[.int .i64 q1, .int .i64 q2, .int .i64 q3] 74)) = w3 at *
      have HB3 : Hid (∀ (w' : World) (q : Addr), Grew w3 w' → q.block = b → w'.cell? q = wr.cell? q) := fun w' q g e => grew_cell (grew_trans HG0.out g) (by rw [e]; exact HB.out)
      generalize wr.heap.size = N at *
      have HG3 := Lib.hid (grew_trans HG.out HG0.out)
      have x0 := grew_every (w := w3) (S := fun w' => w'.cell? ⟨N, 0, none⟩ = some (.int .i64 q1)) (fun w' g => (HX0.out.keep g).at 0 _ rfl)
      have x1 := grew_every (w := w3) (S := fun w' => w'.cell? ⟨N, 1, none⟩ = some (.int .i64 q2)) (fun w' g => (HX0.out.keep g).at 1 _ rfl)
      have x2 := grew_every (w := w3) (S := fun w' => w'.cell? ⟨N, 2, none⟩ = some (.int .i64 q3)) (fun w' g => (HX0.out.keep g).at 2 _ rfl)
      have H : (R1 = false) ∨ (R1 = true ∧ R2 = false) ∨ (R1 = true ∧ R2 = true) := by cases R1 <;> cases R2 <;> simp
      rcases H with rfl | ⟨rfl, rfl⟩ | ⟨rfl, rfl⟩
      · have HF : Hid (R = 14) := by show _ = _; rw [HR.out, if_neg]; rw [← HN.out (by rw [HST.out, HOK.out]; rfl)]; decide
        have D1 := calls_pure (w := w3) C1
        clear HN HY HST HOK HNO HPB HM HR HP C1 C2 CO a0 a1 a2
        refine wp_region_grew (by kernel_rfl) (by kernel_rfl) ?_
        repeat (go_big_quiet_step (with_reducible exact calls_every D1))
        refine wpQuiet_nil ?_
        intro w5 hw'
        have HG5 := Lib.hid (grew_of hw')
        clear hw' x0 x1 x2
        go_wp2
        go_ret
        exact ⟨ret_i HF.out.symm, grew_trans HG3.out HG5.out⟩
      · have HF : Hid (R = 14) := by show _ = _; rw [HR.out, if_neg]; rw [← HN.out (by rw [HST.out, HOK.out]; rfl)]; decide
        have D1 := calls_pure (w := w3) C1
        have D2 := calls_pure (w := w3) C2
        clear HN HY HST HOK HNO HPB HM HR HP C1 C2 CO a0 a1 a2
        refine wp_region_grew (by kernel_rfl) (by kernel_rfl) ?_
        repeat (go_big_quiet_step (first | (with_reducible exact calls_every D1) | (with_reducible exact calls_every D2)))
        refine wpQuiet_nil ?_
        intro w5 hw'
        have HG5 := Lib.hid (grew_of hw')
        clear hw' x0 x1 x2
        go_wp2
        go_ret
        exact ⟨ret_i HF.out.symm, grew_trans HG3.out HG5.out⟩
      · have D1 := calls_pure (w := w3) C1
        have D2 := calls_pure (w := w3) C2
        clear C1 C2
        cases j with
        | zero =>
          have HM2 := Lib.hid (HY.out.trans (by rw [HST.out, HOK.out]))
          clear HN HY HST HM HPB HNO HP HOK CO
          refine wp_region_grew (by kernel_rfl) (by kernel_rfl) ?_
          repeat (go_big_quiet_step (first | (with_reducible exact calls_every D1) | (with_reducible exact calls_every D2)))
          refine wpQuiet_nil ?_
          intro w5 hw'
          have HG5 := Lib.hid (grew_of hw')
          clear hw' x0 x1 x2
          go_wp2
          go_roundw
          case rel => exact ⟨1, by go_num, by omega, HM2.out, grew_trans HG3.out HG5.out⟩
          case measure => simp only [intOf]; omega
        | succ i =>
          obtain ⟨e0, e1, e2⟩ := HPB.out (by omega)
          rw [show i + 1 - 1 = i from rfl] at e0 e1 e2
          have HNO2 := Lib.hid (HNO.out (by have := (okPg_iff p).1 (HP.out (by omega)); exact this.1) rfl)
          have HST2 : Hid (st = decide (noPg p < noPg (q1, q2, q3))) := by show _ = _; rw [HST.out, HOK.out]; simp
          have q5 : IntKind.i64.wrap (((i + 1 : Nat) : Int) - 1) = (i : Int) := by rw [IntKind.wrap_i64]; omega
          have q6 : (0 : Int) < ((i + 1 : Nat) : Int) := by omega
          have q7 : (i : Int) < (n : Int) := by omega
          have q8 : (0 : Int) ≤ (i : Int) := by omega
          clear HNO HP HST HOK
          generalize noPg p = np at *
          generalize noPg (q1, q2, q3) = nq at *
          obtain ⟨p1, p2, p3⟩ := p
          dsimp only at e0 e1 e2 CO
          have CL := fun w' (g : Grew w3 w') => CO w'
          have z0 := grew_every (w := w3) (S := fun w' => w'.cell? ⟨b, o + i * 3, none⟩ = some (.int .i64 p1)) (fun w' g => (HB3.out w' ⟨b, _, none⟩ g rfl).trans e0)
          have z1 := grew_every (w := w3) (S := fun w' => w'.cell? ⟨b, o + i * 3 + 1, none⟩ = some (.int .i64 p2)) (fun w' g => (HB3.out w' ⟨b, _, none⟩ g rfl).trans e1)
          have z2 := grew_every (w := w3) (S := fun w' => w'.cell? ⟨b, o + i * 3 + 2, none⟩ = some (.int .i64 p3)) (fun w' g => (HB3.out w' ⟨b, _, none⟩ g rfl).trans e2)
          clear HPB e0 e1 e2 CO a0 a1 a2
          by_cases hO : O < 0
          · have HM2 := Lib.hid (HY.out.trans (by rw [HST2.out, HM.out, decide_eq_true (HNO2.out.1 hO)]))
            have d1 : ¬ O ≥ 0 := by omega
            clear HN HY HST2 HM HNO2 hO
            refine wp_region_grew (by kernel_rfl) (by kernel_rfl) ?_
            repeat (go_big_quiet_step (first | (with_reducible exact calls_every D1) | (with_reducible exact calls_every D2) | (with_reducible exact calls_every CL)))
            refine wpQuiet_nil ?_
            intro w5 hw'
            have HG5 := Lib.hid (grew_of hw')
            clear hw' x0 x1 x2 z0 z1 z2
            go_wp2
            go_roundw
            case rel => exact ⟨i + 1 + 1, by go_num, by omega, HM2.out, grew_trans HG3.out HG5.out⟩
            case measure => simp only [intOf]; omega
          · have HF : Hid (R = 14) := by show _ = _; rw [HR.out, if_neg]; rw [← HN.out (by rw [HST2.out]; exact decide_eq_false (fun h => hO (HNO2.out.2 h)))]; decide
            have d1 : O ≥ 0 := by omega
            clear HN HY HST2 HM HNO2 hO HR
            refine wp_region_grew (by kernel_rfl) (by kernel_rfl) ?_
            repeat (go_big_quiet_step (first | (with_reducible exact calls_every D1) | (with_reducible exact calls_every D2) | (with_reducible exact calls_every CL)))
            refine wpQuiet_nil ?_
            intro w5 hw'
            have HG5 := Lib.hid (grew_of hw')
            clear hw' x0 x1 x2 z0 z1 z2
            go_wp2
            go_ret
            exact ⟨ret_i HF.out.symm, grew_trans HG3.out HG5.out⟩
    · obtain rfl : j = n := by omega
      have HF : Hid (R = 0) := by show _ = _; rw [HR.out, if_pos HM.out]
      clear HR HM
      go_wp2
      go_ret
      exact ⟨ret_i HF.out.symm, HG.out⟩

end Go.Proofs.YtodnllopokoicaaGreat.NumK
