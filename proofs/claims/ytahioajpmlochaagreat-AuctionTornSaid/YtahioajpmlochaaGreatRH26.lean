/- The document's Book: whether a book is right. -/
import Derived.Test.YtahioajpmlochaaGreatRH15
namespace Go.Proofs.YtahioajpmlochaaGreat.NumK
open Go.RowKit
set_option linter.unusedVariables false

theorem rowI_step (l : List Po) (k i : Nat) (h : i < l.length) : rowI (l.take (i + 1)) k = rowI (l.take i) k ++ (if isI (k : Int) (l.getD i po0) then [(l.getD i po0).2.2.1] else []) := by
  unfold rowI
  rw [filter_take_succ _ l po0 i h]
  unfold qtys
  rw [List.map_append]
  congr 1
  split <;> rfl
theorem flatI_no {l : List Po} {k : Nat} (h1 : 1 ≤ k) (h2 : k ≤ 8) (h : (rowI l k).sum ≠ 0) : flatI l = false := by
  rw [← Bool.not_eq_true, flatI_iff]
  intro h3
  exact h (h3 (k : Int) (by omega) (by omega))
theorem flatI_yes {l : List Po} (h : ∀ k : Nat, 1 ≤ k → k < 9 → (rowI l k).sum = 0) : flatI l = true := by
  rw [flatI_iff]
  intro m h3 h4
  have := h m.toNat (by omega) (by omega)
  rw [rowI_sum, show ((m.toNat : Nat) : Int) = m by omega] at this
  exact this

set_option maxRecDepth 100000 in
set_option maxHeartbeats 8000000 in
theorem rbook_any (b : Bk) (A1 A2 : Option Addr) (n1 n2 c1 c2 : Nat) (w : World) (h : InB w b A1 A2 n1 n2 c1 c2) (hn : n1 ≤ 100000 ∧ n2 ≤ 100000) :
    Calls Tryz.prog 21 #[vBk b.1 A1 A2 n1 n2 c1 c2] w fun e w' => e = .returned (.bool (rightB b)) ∧ Grew w w' := by
  have HI := Lib.hid h.p
  have HL := Lib.hid h.p.len
  have HIT := Lib.hid h.t
  have HLT := Lib.hid h.t.len
  have HR : Hid (rightB b = (wi b.1 0 1099511627776 && ((List.range n1).all (stepOK (okTr b.1) noTr tr0 b.2.1) && decide (n1 ≤ 128)) && ((List.range n2).all (stepOK okPo noPo po0 b.2.2) && flatI b.2.2))) := by
    show _ = _; rw [← h.p.len, ← h.t.len]; rfl
  clear h
  obtain ⟨hn1, hn2⟩ := hn
  generalize rightB b = R at *
  dsimp only [vBk]
  generalize b.1 = nx at *
  generalize b.2.1 = lt at *
  generalize b.2.2 = l at *
  have CN := fun w => rwithin_any nx 0 1099511627776 w
  have HX0 : Hid (OwnC (w.alloc (.cells #[.int .i64 nx, .slice A1 n1 c1, .slice A2 n2 c2] 28)) w.heap.size [.int .i64 nx, .slice A1 n1 c1, .slice A2 n2 c2]) := OwnC.new w [.int .i64 nx, .slice A1 n1 c1, .slice A2 n2 c2] _ _ rfl
  have HG0 : Hid (Grew w (w.alloc (.cells #[.int .i64 nx, .slice A1 n1 c1, .slice A2 n2 c2] 28))) := grew_alloc _ _ _
  generalize hW : wi nx 0 1099511627776 = W at *
  clear hW
  cases W
  · have HF : Hid (R = false) := by show _ = _; rw [HR.out]; rfl
    clear HR
    go_enter Tryz.func21, Tryz.ntmps21
    go_wp2_with (go_at_call 26; ((with_reducible refine (CN _).mono ?_); rintro e w1 ⟨rfl, rfl⟩))
    go_ret
    exact ⟨ret_b HF.out.symm, HG0.out⟩
  by_cases h128 : ¬ n1 ≤ 128
  · have HF : Hid (R = false) := by show _ = _; rw [HR.out, decide_eq_false h128]; simp
    have d8 : (n1 : Int) > 128 := by omega
    clear HR h128
    go_enter Tryz.func21, Tryz.ntmps21
    go_wp2_with (go_at_call 26; ((with_reducible refine (CN _).mono ?_); rintro e w1 ⟨rfl, rfl⟩))
    go_ret
    exact ⟨ret_b HF.out.symm, HG0.out⟩
  have h128 : n1 ≤ 128 := by omega
  have d8 : ¬ (n1 : Int) > 128 := by omega
  rw [decide_eq_true h128] at HR
  simp only [Bool.and_true, Bool.true_and] at HR
  go_enter Tryz.func21, Tryz.ntmps21
  go_upto_region 1 with fail
  generalize w.alloc (.cells #[.int .i64 nx, .slice A1 n1 c1, .slice A2 n2 c2] 28) = wA at *
  have x0 : wA.cell? ⟨w.heap.size, 0, none⟩ = some (.int .i64 nx) := HX0.out.at 0 _ rfl
  have x1 : wA.cell? ⟨w.heap.size, 1, none⟩ = some (.slice A1 n1 c1) := HX0.out.at 1 _ rfl
  go_wp2_with (go_at_call 26; ((with_reducible refine (CN _).mono ?_); rintro e w1 ⟨rfl, rfl⟩))
  clear x0 x1 CN
  go_loopw [3] (fun v wr => ∃ j : Nat, v = .int .i64 j ∧ j ≤ n2 ∧ Hid ((List.range j).all (stepOK okPo noPo po0 l) = true) ∧ Hid (Grew wA wr)) (fun v _ => n2 - (intOf v).toNat)
  case atStart => exact ⟨0, rfl, by omega, rfl, grew_refl _⟩
  case round =>
    obtain ⟨j, rfl, hj, HM, HG⟩ := hrel
    have HX := Lib.hid (HX0.out.keep HG.out)
    have x2 : wr.cell? ⟨w.heap.size, 2, none⟩ = some (.slice A2 n2 c2) := HX.out.at 2 _ rfl
    have HGW := Lib.hid (grew_trans HG0.out HG.out)
    by_cases hlt : j < n2
    · obtain ⟨bb, o, rfl, hb, hc⟩ := (HI.out.keep HGW.out).po hlt
      have HN := Lib.hid (range_all_no (stepOK okPo noPo po0 l) j n2 hlt)
      have HY := Lib.hid (range_all_succ (stepOK okPo noPo po0 l) j)
      have HST : Hid (stepOK okPo noPo po0 l j = (okPo (l.getD j po0) && (decide (j = 0) || decide (noPo (l.getD (j - 1) po0) < noPo (l.getD j po0))))) := rfl
      have HKL : Hid (0 < j → okPo (l.getD j po0) = true → kltB ((l.getD (j - 1) po0).1, (l.getD (j - 1) po0).2.1) ((l.getD j po0).1, (l.getD j po0).2.1) = decide (noPo (l.getD (j - 1) po0) < noPo (l.getD j po0))) := fun h0 hx => ok_klt (steps_ok HM.out (by omega)) hx
      have HOK := Lib.hid (okPo_alt (l.getD j po0))
      obtain ⟨a0, a1, a2, a3⟩ := hc j hlt
      have HPB : Hid (0 < j → CPo wr bb (o + (j - 1) * 4) (l.getD (j - 1) po0)) := fun h0 => hc (j - 1) (by omega)
      have HB := Lib.hid hb
      clear hc hb
      have i0 : (0 : Int) ≤ (j : Int) := by omega
      have i1 : (j : Int) < (n2 : Int) := by omega
      generalize stepOK okPo noPo po0 l j = st at *
      generalize decide (noPo (l.getD (j - 1) po0) < noPo (l.getD j po0)) = ltb at *
      generalize okPo (l.getD j po0) = ok at *
      generalize l.getD j po0 = x at *
      generalize l.getD (j - 1) po0 = p at *
      obtain ⟨q1, q2, q3, q4⟩ := x
      dsimp only at a0 a1 a2 a3 HKL HOK
      have C1 := fun w => rkey_any q1 q2 w
      have C2 := fun w => calls_same (rwithin_any q3 (-1099511627776) 1099511627776 w)
      have C3 := fun w => calls_same (refRight_any q4 w)
      dsimp only [vKy] at C1
      have HNP : Hid (noneP q3 q4 = (decide (q3 = 0) && decide (q4 = 0))) := rfl
      generalize okK (q1, q2) = R1 at *
      generalize wi q3 (-1099511627776) 1099511627776 = R2 at *
      generalize isMoney q4 = R3 at *
      generalize noneP q3 q4 = R4 at *
      have HX1 : Hid (OwnC (wr.alloc (.cells #[.int .i64 q1, .int .i64 q2, .int .i64 q3, .int .i64 q4] 31)) wr.heap.size [.int .i64 q1, .int .i64 q2, .int .i64 q3, .int .i64 q4]) := OwnC.new wr [.int .i64 q1, .int .i64 q2, .int .i64 q3, .int .i64 q4] _ _ rfl
      have HG1 : Hid (Grew wr (wr.alloc (.cells #[.int .i64 q1, .int .i64 q2, .int .i64 q3, .int .i64 q4] 31))) := grew_alloc _ _ _
      go_upto_region 7 with fail
      generalize wr.alloc (.cells #[.int .i64 q1, .int .i64 q2, .int .i64 q3, .int .i64 q4] 31) = w3 at *
      have HX2 := Lib.hid (HX.out.keep HG1.out)
      have HGS := Lib.hid (grew_trans HG.out HG1.out)
      have y0 := grew_every (w := w3) (S := fun w' => w'.cell? ⟨wr.heap.size, 0, none⟩ = some (.int .i64 q1)) (fun w' g => (HX1.out.keep g).at 0 _ rfl)
      have y1 := grew_every (w := w3) (S := fun w' => w'.cell? ⟨wr.heap.size, 1, none⟩ = some (.int .i64 q2)) (fun w' g => (HX1.out.keep g).at 1 _ rfl)
      have y2 := grew_every (w := w3) (S := fun w' => w'.cell? ⟨wr.heap.size, 2, none⟩ = some (.int .i64 q3)) (fun w' g => (HX1.out.keep g).at 2 _ rfl)
      have y3 := grew_every (w := w3) (S := fun w' => w'.cell? ⟨wr.heap.size, 3, none⟩ = some (.int .i64 q4)) (fun w' g => (HX1.out.keep g).at 3 _ rfl)
      have y4 := grew_every (w := w3) (S := fun w' => w'.cell? ⟨w.heap.size, 2, none⟩ = some (.slice (some ⟨bb, o, none⟩) n2 c2)) (fun w' g => (HX2.out.keep g).at 2 _ rfl)
      have D1 := fun w' (g : Grew w3 w') => C1 w'
      have D2 := fun w' (g : Grew w3 w') => C2 w'
      have D3 := fun w' (g : Grew w3 w') => C3 w'
      clear C1 C2 C3 a0 a1 a2 a3 x2
      have H : (ok = false ∧ (R1 = false ∨ (R1 = true ∧ R2 = false) ∨ (R1 = true ∧ R2 = true ∧ R3 = false) ∨ (R1 = true ∧ R2 = true ∧ R3 = true ∧ q3 = 0 ∧ q4 = 0))) ∨ (ok = true ∧ R1 = true ∧ R2 = true ∧ R3 = true ∧ ((q3 == 0) = false ∨ (q3 = 0 ∧ (q4 == 0) = false))) := by
        rw [HOK.out, HNP.out]
        by_cases h3 : q3 = 0 <;> by_cases h4 : q4 = 0 <;> cases R1 <;> cases R2 <;> cases R3 <;> simp [h3, h4]
      clear HOK HNP
      rcases H with ⟨rfl, H⟩ | ⟨rfl, rfl, rfl, rfl, H⟩
      · have HF : Hid (R = false) := by show _ = _; rw [HR.out, ← HN.out (by rw [HST.out]; rfl)]; simp
        clear HN HY HST HKL HPB HM HR
        rcases H with rfl | ⟨rfl, rfl⟩ | ⟨rfl, rfl, rfl⟩ | ⟨rfl, rfl, rfl, rfl, rfl⟩
        all_goals
          (refine wp_region_grew (by kernel_rfl) (by kernel_rfl) ?_
           repeat (go_big_quiet_step (with_reducible (first | exact calls_every D1 | exact calls_every D2 | exact calls_every D3)))
           refine wpQuiet_nil ?_
           intro w5 hw'
           have HG5 := Lib.hid (grew_of hw')
           clear hw' y0 y1 y2 y3 y4
           go_wp2
           go_ret
           exact ⟨ret_b HF.out.symm, grew_trans HG0.out (grew_trans HGS.out HG5.out)⟩)
      · have HKL2 : Hid (0 < j → kltB (p.1, p.2.1) (q1, q2) = ltb) := fun h0 => HKL.out h0 rfl
        clear HKL
        cases j with
        | zero =>
          have HM2 := Lib.hid (HY.out.trans (by rw [HST.out]))
          clear HN HY HST HM HPB HKL2
          rcases H with d3 | ⟨rfl, d4⟩
          all_goals
            (refine wp_region_grew (by kernel_rfl) (by kernel_rfl) ?_
             repeat (go_big_quiet_step (with_reducible (first | exact calls_every D1 | exact calls_every D2 | exact calls_every D3)))
             refine wpQuiet_nil ?_
             intro w5 hw'
             have HG5 := Lib.hid (grew_of hw')
             clear hw' y0 y1 y2 y3 y4
             go_wp2
             go_roundw
             case rel => exact ⟨1, by go_num, by omega, HM2.out, grew_trans HGS.out HG5.out⟩
             case measure => simp only [intOf]; omega)
        | succ i =>
          obtain ⟨e0, e1, e2, e3⟩ := HPB.out (by omega)
          rw [show i + 1 - 1 = i from rfl] at e0 e1
          have HST2 : Hid (st = ltb) := by show _ = _; rw [HST.out]; simp
          have q5 : IntKind.i64.wrap (((i + 1 : Nat) : Int) - 1) = (i : Int) := by rw [IntKind.wrap_i64]; omega
          have q6 : (((i + 1 : Nat) : Int) > 0) := by omega
          have q7 : (i : Int) < (n2 : Int) := by omega
          have q8 : (0 : Int) ≤ (i : Int) := by omega
          obtain ⟨p1, p2, p3, p4⟩ := p
          dsimp only at e0 e1
          have HKL3 := Lib.hid (HKL2.out (by omega))
          dsimp only at HKL3
          have D4 := fun w' (g : Grew w3 w') => rless_any p1 p2 q1 q2 w'
          dsimp only [vKy] at D4
          rw [HKL3.out] at D4
          have z0 := grew_every (w := w3) (S := fun w' => w'.cell? ⟨bb, o + i * 4, none⟩ = some (.int .i64 p1)) (fun w' g => (grew_cell (grew_trans HG1.out g) (p := ⟨bb, _, none⟩) HB.out).trans e0)
          have z1 := grew_every (w := w3) (S := fun w' => w'.cell? ⟨bb, o + i * 4 + 1, none⟩ = some (.int .i64 p2)) (fun w' g => (grew_cell (grew_trans HG1.out g) (p := ⟨bb, _, none⟩) HB.out).trans e1)
          clear HPB HST HKL2 HKL3 e0 e1 e2 e3
          cases ltb
          · have HF : Hid (R = false) := by show _ = _; rw [HR.out, ← HN.out (by rw [HST2.out])]; simp
            clear HN HY HST2 HM HR
            rcases H with d3 | ⟨rfl, d4⟩
            all_goals
              (refine wp_region_grew (by kernel_rfl) (by kernel_rfl) ?_
               repeat (go_big_quiet_step (with_reducible (first | exact calls_every D1 | exact calls_every D2 | exact calls_every D3 | exact calls_every D4)))
               refine wpQuiet_nil ?_
               intro w5 hw'
               have HG5 := Lib.hid (grew_of hw')
               clear hw' y0 y1 y2 y3 y4 z0 z1
               go_wp2
               go_ret
               exact ⟨ret_b HF.out.symm, grew_trans HG0.out (grew_trans HGS.out HG5.out)⟩)
          · have HM2 := Lib.hid (HY.out.trans (by rw [HST2.out, HM.out]))
            clear HN HY HST2 HM
            rcases H with d3 | ⟨rfl, d4⟩
            all_goals
              (refine wp_region_grew (by kernel_rfl) (by kernel_rfl) ?_
               repeat (go_big_quiet_step (with_reducible (first | exact calls_every D1 | exact calls_every D2 | exact calls_every D3 | exact calls_every D4)))
               refine wpQuiet_nil ?_
               intro w5 hw'
               have HG5 := Lib.hid (grew_of hw')
               clear hw' y0 y1 y2 y3 y4 z0 z1
               go_wp2
               go_roundw
               case rel => exact ⟨i + 1 + 1, by go_num, by omega, HM2.out, grew_trans HGS.out HG5.out⟩
               case measure => simp only [intOf]; omega)
    · obtain rfl : j = n2 := by omega
      have HOKS : Hid (∀ k : Nat, ∀ z ∈ rowI l k, -9223372036854775808 ≤ z ∧ z ≤ 9223372036854775807) := fun k z hz => by
        unfold rowI qtys at hz
        obtain ⟨y, hy, rfl⟩ := List.mem_map.1 hz
        have h2 := steps_all (l := l) (by rw [HL.out]; exact HM.out) y (List.mem_filter.1 hy).1
        have := (okQ_iff _).1 ((okPo_iff y).1 h2).2.1
        omega
      have HR2 : Hid (R = ((List.range n1).all (stepOK (okTr nx) noTr tr0 lt) && flatI l)) := by show _ = _; rw [HR.out, HM.out, Bool.true_and]
      clear HR HM x2
      generalize wr = wB at *
      have hge : ¬ (j : Int) < (j : Int) := by omega
      have x2 : wB.cell? ⟨w.heap.size, 2, none⟩ = some (.slice A2 j c2) := HX.out.at 2 _ rfl
      go_wp2
      clear x2
      go_loopw [5] (fun v wr => ∃ k : Nat, v = .int .i64 k ∧ 1 ≤ k ∧ k ≤ 9 ∧ Hid (∀ i : Nat, 1 ≤ i → i < k → (rowI l i).sum = 0) ∧ Hid (Grew wA wr)) (fun v _ => 9 - (intOf v).toNat)
      case atStart => exact ⟨1, rfl, by omega, by omega, fun i h1 h2 => by omega, HG.out⟩
      case round =>
        clear HGW HX
        obtain ⟨k, rfl, hk1, hk, HZ0, HG⟩ := hrel
        have i0 : (0 : Int) ≤ (k : Int) := by omega
        by_cases hk9 : k < 9
        · have i1 : (k : Int) ≤ 8 := by omega
          go_wp2
          generalize wr = wC at *
          go_loopw [6, 7] (fun v6 v7 wr => ∃ i : Nat, v7 = .int .i64 i ∧ i ≤ j ∧ Hid (OwnE enInt wr wA.heap.size 3 v6 (rowI (l.take i) k)) ∧ Hid (Grew wA wr)) (fun _ v7 _ => j - (intOf v7).toNat)
          case atStart => exact ⟨0, rfl, by omega, OwnE.nil _ _ _ _, HG.out⟩
          case round =>
            obtain ⟨i, rfl, hi, HO, HG2⟩ := hrel
            have HX := Lib.hid (HX0.out.keep HG2.out)
            have x2 : wr.cell? ⟨w.heap.size, 2, none⟩ = some (.slice A2 j c2) := HX.out.at 2 _ rfl
            have HGW := Lib.hid (grew_trans HG0.out HG2.out)
            by_cases hlt : i < j
            · have hil : i < l.length := by rw [HL.out]; exact hlt
              obtain ⟨bb, o, rfl, hb, hc⟩ := (HI.out.keep HGW.out).po hlt
              obtain ⟨a0, a1, a2, a3⟩ := hc i hlt
              have HS := Lib.hid (rowI_step l k i hil)
              have HLN := Lib.hid (rowI_len l i k)
              have HIM : Hid (isI (k : Int) (l.getD i po0) = decide ((l.getD i po0).2.1 = (k : Int))) := rfl
              have HWL : Hid (wA.heap.size ≤ wr.heap.size) := HG2.out.size
              have j0 : (0 : Int) ≤ (i : Int) := by omega
              have j1 : (i : Int) < (j : Int) := by omega
              clear hc hb
              generalize rowI (l.take i) k = ri at *
              generalize isI (k : Int) (l.getD i po0) = im at *
              generalize l.getD i po0 = x at *
              obtain ⟨q1, q2, q3, q4⟩ := x
              dsimp only at a0 a1 a2 a3 HIM HS
              by_cases hm : q2 = (k : Int)
              · have HS2 : Hid (rowI (l.take (i + 1)) k = ri ++ [q3]) := by show _ = _; rw [HS.out, HIM.out, decide_eq_true hm]; rfl
                subst hm
                clear HS HIM
                go_wp2_with (at_builtin; refine (wpList_append_E rfl _ _ 56 3 (.int .i64 0) 8 rfl Tryz.underlying56 info_int1 rfl wA.heap.size _ ri rfl (HO.out.keep (grew_alloc _ _ _)) _ 1 1 [q3] rfl (by intro h; cases h) (RowE.one1 enInt _ _ _ _ _ rfl rfl) (by have := HLN.out; unfold maxLen; omega) (by have := HLN.out; omega) (Nat.le_trans HWL.out (by simp)) ?_); intro v' w' ho hb; have HP := Lib.hid ho; have HB : Hid (Grew wA w') := Below.trans (grew_trans HG2.out (grew_alloc _ _ _)) hb; clear ho hb)
                go_roundw
                case rel => exact ⟨i + 1, by go_num, by omega, by rw [HS2.out]; exact HP.out, HB.out⟩
                case measure => simp only [intOf]; omega
              · have HS2 : Hid (rowI (l.take (i + 1)) k = ri) := by show _ = _; rw [HS.out, HIM.out, decide_eq_false hm]; simp
                have d0 : (q2 == (k : Int)) = false := by simpa using hm
                clear HS HIM hm
                go_wp2
                go_roundw
                case rel => exact ⟨i + 1, by go_num, by omega, by rw [HS2.out]; exact HO.out, HG2.out⟩
                case measure => simp only [intOf]; omega
            · obtain rfl : i = j := by omega
              have ht : l.take i = l := List.take_of_length_le (by rw [HL.out]; exact Nat.le_refl _)
              rw [ht] at HO
              have hlen : (rowI l k).length ≤ 100000 := by have := rowI_len l i k; rw [ht] at this; omega
              obtain ⟨A3, c3, hv3, hr3, -, -, -⟩ := HO.out.form
              subst hv3
              have CA := add_any A3 _ c3 _ wr (ints_of_E hr3) (HOKS.out k) hlen
              have HN1 : Hid ((rowI l k).sum ≠ 0 → R = false) := fun h => by rw [HR2.out, flatI_no hk1 (by omega) h]; simp
              have HZ1 : Hid ((rowI l k).sum = 0 → ∀ i : Nat, 1 ≤ i → i < k + 1 → (rowI l i).sum = 0) := fun h i h1 h2 => by
                rcases Nat.lt_or_ge i k with h3 | h3
                · exact HZ0.out i h1 h3
                · obtain rfl : i = k := by omega
                  exact h
              clear ht hr3 HO HZ0
              generalize (rowI l k).length = n3 at *
              generalize (rowI l k).sum = s at *
              by_cases hs : s = 0
              · have HZ2 := Lib.hid (HZ1.out hs)
                subst hs
                have hI0 : intV 0 = 0 := by decide
                have hM0 : isMoney 0 = true := by decide
                rw [hI0, hM0] at CA
                clear HZ1 HN1 hI0 hM0 hlt hi
                go_wp2_with (go_at_call 24; ((with_reducible refine CA.mono ?_); rintro e w5 ⟨rfl, hg⟩; have HG5 := Lib.hid hg; clear hg))
                go_roundw
                case rel => exact ⟨k + 1, by go_num, by omega, by omega, HZ2.out, grew_trans HG2.out HG5.out⟩
                case measure => simp only [intOf]; omega
              · have HF2 := Lib.hid (HN1.out hs)
                clear HZ1 HN1
                by_cases hms : isMoney s = true
                · rw [hms, intV_in hms] at CA
                  have d1 : (s != 0) = true := by simpa using hs
                  clear hms hs hlt hi
                  go_wp2_with (go_at_call 24; ((with_reducible refine CA.mono ?_); rintro e w5 ⟨rfl, hg⟩; have HG5 := Lib.hid hg; clear hg))
                  go_ret
                  exact ⟨ret_b HF2.out.symm, grew_trans HGW.out HG5.out⟩
                · rw [Bool.not_eq_true] at hms
                  rw [hms] at CA
                  clear hms hs hlt hi
                  go_wp2_with (go_at_call 24; ((with_reducible refine CA.mono ?_); rintro e w5 ⟨rfl, hg⟩; have HG5 := Lib.hid hg; clear hg))
                  go_ret
                  exact ⟨ret_b HF2.out.symm, grew_trans HGW.out HG5.out⟩
        · obtain rfl : k = 9 := by omega
          have HR3 : Hid (R = (List.range n1).all (stepOK (okTr nx) noTr tr0 lt)) := by show _ = _; rw [HR2.out, flatI_yes HZ0.out, Bool.and_true]
          clear HR2 HZ0 HOKS hk hk1 hk9
          go_wp2
          go_loopw [10] (fun v wr => ∃ i : Nat, v = .int .i64 i ∧ i ≤ n1 ∧ Hid ((List.range i).all (stepOK (okTr nx) noTr tr0 lt) = true) ∧ Hid (Grew wA wr)) (fun v _ => n1 - (intOf v).toNat)
          case atStart => exact ⟨0, rfl, by omega, rfl, HG.out⟩
          case round =>
            clear HG
            obtain ⟨i, rfl, hi, HM, HG⟩ := hrel
            have HX := Lib.hid (HX0.out.keep HG.out)
            have x1 : wr.cell? ⟨w.heap.size, 1, none⟩ = some (.slice A1 n1 c1) := HX.out.at 1 _ rfl
            have HGW := Lib.hid (grew_trans HG0.out HG.out)
            by_cases hlt : i < n1
            · obtain ⟨bb, o, rfl, hb, hc⟩ := (HIT.out.keep HGW.out).tr hlt
              have HN := Lib.hid (range_all_no (stepOK (okTr nx) noTr tr0 lt) i n1 hlt)
              have HY := Lib.hid (range_all_succ (stepOK (okTr nx) noTr tr0 lt) i)
              have HST : Hid (stepOK (okTr nx) noTr tr0 lt i = ((numsT (lt.getD i tr0) && wi (lt.getD i tr0).1.1 1 nx) && (decide (i = 0) || decide ((lt.getD (i - 1) tr0).1.1 < (lt.getD i tr0).1.1)))) := rfl
              have CR := fun w => rnumbers_any (lt.getD i tr0) w
              obtain ⟨a0, a1, a2, a3, a4, a5, a6⟩ := hc i hlt
              have HPB : Hid (0 < i → CTr wr bb (o + (i - 1) * 7) (lt.getD (i - 1) tr0)) := fun h0 => hc (i - 1) (by omega)
              have HB := Lib.hid hb
              clear hc hb
              have i0 : (0 : Int) ≤ (i : Int) := by omega
              have i1 : (i : Int) < (n1 : Int) := by omega
              generalize stepOK (okTr nx) noTr tr0 lt i = st at *
              generalize numsT (lt.getD i tr0) = R1 at *
              generalize lt.getD i tr0 = x at *
              generalize lt.getD (i - 1) tr0 = p at *
              obtain ⟨⟨q1, q2, q3, q4, q5, q6⟩, q7⟩ := x
              dsimp only at a0 a1 a2 a3 a4 a5 a6 HST
              dsimp only [vTr] at CR
              have CW := fun w => calls_same (rwithin_any q1 1 nx w)
              generalize wi q1 1 nx = R2 at *
              have HX1 : Hid (OwnC (wr.alloc (.cells #[.int .i64 q1, .int .i64 q2, .int .i64 q3, .int .i64 q4, .int .i64 q5, .int .i64 q6, .bool q7] 50)) wr.heap.size [.int .i64 q1, .int .i64 q2, .int .i64 q3, .int .i64 q4, .int .i64 q5, .int .i64 q6, .bool q7]) := OwnC.new wr [.int .i64 q1, .int .i64 q2, .int .i64 q3, .int .i64 q4, .int .i64 q5, .int .i64 q6, .bool q7] _ _ rfl
              have HG1 : Hid (Grew wr (wr.alloc (.cells #[.int .i64 q1, .int .i64 q2, .int .i64 q3, .int .i64 q4, .int .i64 q5, .int .i64 q6, .bool q7] 50))) := grew_alloc _ _ _
              go_upto_region 25 with fail
              generalize wr.alloc (.cells #[.int .i64 q1, .int .i64 q2, .int .i64 q3, .int .i64 q4, .int .i64 q5, .int .i64 q6, .bool q7] 50) = w3 at *
              have HX2 := Lib.hid (HX.out.keep HG1.out)
              have HGS := Lib.hid (grew_trans HG.out HG1.out)
              clear a0 a1 a2 a3 a4 a5 a6 x1
              have y0 := grew_every (w := w3) (S := fun w' => w'.cell? ⟨wr.heap.size, 0, none⟩ = some (.int .i64 q1)) (fun w' g => (HX1.out.keep g).at 0 _ rfl)
              have y1 := grew_every (w := w3) (S := fun w' => w'.cell? ⟨wr.heap.size, 1, none⟩ = some (.int .i64 q2)) (fun w' g => (HX1.out.keep g).at 1 _ rfl)
              have y2 := grew_every (w := w3) (S := fun w' => w'.cell? ⟨wr.heap.size, 2, none⟩ = some (.int .i64 q3)) (fun w' g => (HX1.out.keep g).at 2 _ rfl)
              have y3 := grew_every (w := w3) (S := fun w' => w'.cell? ⟨wr.heap.size, 3, none⟩ = some (.int .i64 q4)) (fun w' g => (HX1.out.keep g).at 3 _ rfl)
              have y4 := grew_every (w := w3) (S := fun w' => w'.cell? ⟨wr.heap.size, 4, none⟩ = some (.int .i64 q5)) (fun w' g => (HX1.out.keep g).at 4 _ rfl)
              have y5 := grew_every (w := w3) (S := fun w' => w'.cell? ⟨wr.heap.size, 5, none⟩ = some (.int .i64 q6)) (fun w' g => (HX1.out.keep g).at 5 _ rfl)
              have y6 := grew_every (w := w3) (S := fun w' => w'.cell? ⟨wr.heap.size, 6, none⟩ = some (.bool q7)) (fun w' g => (HX1.out.keep g).at 6 _ rfl)
              have y7 := grew_every (w := w3) (S := fun w' => w'.cell? ⟨w.heap.size, 0, none⟩ = some (.int .i64 nx)) (fun w' g => (HX2.out.keep g).at 0 _ rfl)
              have y8 := grew_every (w := w3) (S := fun w' => w'.cell? ⟨w.heap.size, 1, none⟩ = some (.slice (some ⟨bb, o, none⟩) n1 c1)) (fun w' g => (HX2.out.keep g).at 1 _ rfl)
              have D1 := fun w' (g : Grew w3 w') => CR w'
              have D2 := fun w' (g : Grew w3 w') => CW w'
              clear CR CW
              have H : ((R1 && R2) = false ∧ (R1 = false ∨ (R1 = true ∧ R2 = false))) ∨ (R1 = true ∧ R2 = true) := by cases R1 <;> cases R2 <;> simp
              rcases H with ⟨h12, H⟩ | ⟨rfl, rfl⟩
              · have HF : Hid (R = false) := by show _ = _; rw [HR3.out, ← HN.out (by rw [HST.out, h12]; rfl)]
                clear HN HY HST HM HR3 HPB h12
                rcases H with rfl | ⟨rfl, rfl⟩
                all_goals
                  (refine wp_region_grew (by kernel_rfl) (by kernel_rfl) ?_
                   repeat (go_big_quiet_step (with_reducible (first | exact calls_every D1 | exact calls_every D2)))
                   refine wpQuiet_nil ?_
                   intro w5 hw'
                   have HG5 := Lib.hid (grew_of hw')
                   clear hw' y0 y1 y2 y3 y4 y5 y6 y7 y8
                   go_wp2
                   go_ret
                   exact ⟨ret_b HF.out.symm, grew_trans HG0.out (grew_trans HGS.out HG5.out)⟩)
              · cases i with
                | zero =>
                  have HM2 := Lib.hid (HY.out.trans (by rw [HST.out]))
                  clear HN HY HST HM HPB
                  refine wp_region_grew (by kernel_rfl) (by kernel_rfl) ?_
                  repeat (go_big_quiet_step (with_reducible (first | exact calls_every D1 | exact calls_every D2)))
                  refine wpQuiet_nil ?_
                  intro w5 hw'
                  have HG5 := Lib.hid (grew_of hw')
                  clear hw' y0 y1 y2 y3 y4 y5 y6 y7 y8
                  go_wp2
                  go_roundw
                  case rel => exact ⟨1, by go_num, by omega, HM2.out, grew_trans HGS.out HG5.out⟩
                  case measure => simp only [intOf]; omega
                | succ i =>
                  obtain ⟨e0, -⟩ := HPB.out (by omega)
                  rw [show i + 1 - 1 = i from rfl] at e0
                  have HST2 : Hid (st = decide (p.1.1 < q1)) := by show _ = _; rw [HST.out]; simp
                  have q5 : IntKind.i64.wrap (((i + 1 : Nat) : Int) - 1) = (i : Int) := by rw [IntKind.wrap_i64]; omega
                  have q6 : (((i + 1 : Nat) : Int) > 0) := by omega
                  have q7 : (i : Int) < (n1 : Int) := by omega
                  have q8 : (0 : Int) ≤ (i : Int) := by omega
                  generalize p.1.1 = p1 at *
                  have z0 := grew_every (w := w3) (S := fun w' => w'.cell? ⟨bb, o + i * 7, none⟩ = some (.int .i64 p1)) (fun w' g => (grew_cell (grew_trans HG1.out g) (p := ⟨bb, _, none⟩) HB.out).trans e0)
                  clear HPB HST e0
                  by_cases hnp : p1 < q1
                  · have HM2 := Lib.hid (HY.out.trans (by rw [HST2.out, decide_eq_true hnp, HM.out]))
                    have q9 : ¬ (q1 ≤ p1) := by omega
                    clear HN HY HST2 HM hnp
                    refine wp_region_grew (by kernel_rfl) (by kernel_rfl) ?_
                    repeat (go_big_quiet_step (with_reducible (first | exact calls_every D1 | exact calls_every D2)))
                    refine wpQuiet_nil ?_
                    intro w5 hw'
                    have HG5 := Lib.hid (grew_of hw')
                    clear hw' y0 y1 y2 y3 y4 y5 y6 y7 y8 z0
                    go_wp2
                    go_roundw
                    case rel => exact ⟨i + 1 + 1, by go_num, by omega, HM2.out, grew_trans HGS.out HG5.out⟩
                    case measure => simp only [intOf]; omega
                  · have HF : Hid (R = false) := by show _ = _; rw [HR3.out, ← HN.out (by rw [HST2.out, decide_eq_false hnp])]
                    have q9 : q1 ≤ p1 := by omega
                    clear HN HY HST2 HM HR3 hnp
                    refine wp_region_grew (by kernel_rfl) (by kernel_rfl) ?_
                    repeat (go_big_quiet_step (with_reducible (first | exact calls_every D1 | exact calls_every D2)))
                    refine wpQuiet_nil ?_
                    intro w5 hw'
                    have HG5 := Lib.hid (grew_of hw')
                    clear hw' y0 y1 y2 y3 y4 y5 y6 y7 y8 z0
                    go_wp2
                    go_ret
                    exact ⟨ret_b HF.out.symm, grew_trans HG0.out (grew_trans HGS.out HG5.out)⟩
            · obtain rfl : i = n1 := by omega
              have HF : Hid (R = true) := HR3.out.trans HM.out
              clear HR3 HM
              go_wp2
              go_ret
              exact ⟨ret_b HF.out.symm, HGW.out⟩
end Go.Proofs.YtahioajpmlochaaGreat.NumK
