/- Rows of trades, and of legs: which are right (the program's). -/
import Derived.Test.YtahioajpmlochaaGreatRH13
import Derived.Lib.Walk
import Derived.Lib.SliceRun
import Derived.Test.YtahioajpmlochaaGreatRH3
import Derived.Deep.RegionLaw
namespace Go.Proofs.YtahioajpmlochaaGreat.NumK
open Go.RowKit
set_option linter.unusedVariables false

theorem calls_same {P : Program} {f : FuncId} {args : Array Value} {w : World} {v : Value} (h : Calls P f args w fun e w' => e = .returned v ∧ w = w') : Calls P f args w fun e w' => e = .returned v ∧ Grew w w' :=
  h.mono fun e w' ⟨he, hw⟩ => ⟨he, hw ▸ grew_refl _⟩

set_option maxRecDepth 100000 in
set_option maxHeartbeats 4000000 in
theorem rightTrades_any (A : Option Addr) (n c : Nat) (l : List Tr) (next : Int) (w : World) (h : RowE enTr w A n l) (hn : n ≤ 100000) :
    Calls Tryz.prog 33 #[.slice A n c, .int .i64 next] w fun e w' => e = .returned (.bool (rightTs next l)) ∧ Grew w w' := by
  have HI := Lib.hid h
  have HL := Lib.hid h.len
  have HR : Hid (rightTs next l = ((List.range n).all (stepOK (okTr next) noTr tr0 l) && decide (n ≤ 128))) := by show _ = _; rw [← h.len]; rfl
  generalize rightTs next l = R at *
  clear h
  go_enter Tryz.func33, Tryz.ntmps33
  go_wp2
  go_loopw [9] (fun v wr => ∃ j : Nat, v = .int .i64 j ∧ j ≤ n ∧ Hid ((List.range j).all (stepOK (okTr next) noTr tr0 l) = true) ∧ Hid (Grew w wr)) (fun v _ => n - (intOf v).toNat)
  case atStart => exact ⟨0, rfl, by omega, rfl, grew_refl _⟩
  case round =>
    obtain ⟨j, rfl, hj, HM, HG⟩ := hrel
    by_cases hlt : j < n
    · obtain ⟨b, o, rfl, hb, hc⟩ := (HI.out.keep HG.out).tr hlt
      have HN := Lib.hid (range_all_no (stepOK (okTr next) noTr tr0 l) j n hlt)
      have HY := Lib.hid (range_all_succ (stepOK (okTr next) noTr tr0 l) j)
      have HST : Hid (stepOK (okTr next) noTr tr0 l j = ((numsT (l.getD j tr0) && wi (l.getD j tr0).1.1 1 next) && (decide (j = 0) || decide ((l.getD (j - 1) tr0).1.1 < (l.getD j tr0).1.1)))) := rfl
      have CR := fun w => rightTrade_any (l.getD j tr0) w
      obtain ⟨a0, a1, a2, a3, a4, a5, a6⟩ := hc j hlt
      have HPB : Hid (0 < j → CTr wr b (o + (j - 1) * 7) (l.getD (j - 1) tr0)) := fun h0 => hc (j - 1) (by omega)
      have HB := Lib.hid hb
      clear hc hb
      have i0 : (0 : Int) ≤ (j : Int) := by omega
      have i1 : (j : Int) < (n : Int) := by omega
      generalize stepOK (okTr next) noTr tr0 l j = st at *
      generalize numsT (l.getD j tr0) = R1 at *
      generalize l.getD j tr0 = x at *
      generalize l.getD (j - 1) tr0 = p at *
      obtain ⟨⟨q1, q2, q3, q4, q5, q6⟩, q7⟩ := x
      dsimp only at a0 a1 a2 a3 a4 a5 a6 HST
      dsimp only [vTr] at CR
      have CW := fun w => calls_same (bwithin_any q1 1 next w)
      generalize wi q1 1 next = R2 at *
      have HX0 : Hid (OwnC (wr.alloc (.cells #[.int .i64 q1, .int .i64 q2, .int .i64 q3, .int .i64 q4, .int .i64 q5, .int .i64 q6, .bool q7] 50)) wr.heap.size [.int .i64 q1, .int .i64 q2, .int .i64 q3, .int .i64 q4, .int .i64 q5, .int .i64 q6, .bool q7]) := OwnC.new wr [.int .i64 q1, .int .i64 q2, .int .i64 q3, .int .i64 q4, .int .i64 q5, .int .i64 q6, .bool q7] _ _ rfl
      have HG0 : Hid (Grew wr (wr.alloc (.cells #[.int .i64 q1, .int .i64 q2, .int .i64 q3, .int .i64 q4, .int .i64 q5, .int .i64 q6, .bool q7] 50))) := grew_alloc _ _ _
      go_upto_region 4 with fail
      generalize wr.alloc (.cells #[.int .i64 q1, .int .i64 q2, .int .i64 q3, .int .i64 q4, .int .i64 q5, .int .i64 q6, .bool q7] 50) = w0 at *
      clear a0 a1 a2 a3 a4 a5 a6
      have y0 := grew_every (w := w0) (S := fun w' => w'.cell? ⟨wr.heap.size, 0, none⟩ = some (.int .i64 q1)) (fun w' g => (HX0.out.keep g).at 0 _ rfl)
      have y1 := grew_every (w := w0) (S := fun w' => w'.cell? ⟨wr.heap.size, 1, none⟩ = some (.int .i64 q2)) (fun w' g => (HX0.out.keep g).at 1 _ rfl)
      have y2 := grew_every (w := w0) (S := fun w' => w'.cell? ⟨wr.heap.size, 2, none⟩ = some (.int .i64 q3)) (fun w' g => (HX0.out.keep g).at 2 _ rfl)
      have y3 := grew_every (w := w0) (S := fun w' => w'.cell? ⟨wr.heap.size, 3, none⟩ = some (.int .i64 q4)) (fun w' g => (HX0.out.keep g).at 3 _ rfl)
      have y4 := grew_every (w := w0) (S := fun w' => w'.cell? ⟨wr.heap.size, 4, none⟩ = some (.int .i64 q5)) (fun w' g => (HX0.out.keep g).at 4 _ rfl)
      have y5 := grew_every (w := w0) (S := fun w' => w'.cell? ⟨wr.heap.size, 5, none⟩ = some (.int .i64 q6)) (fun w' g => (HX0.out.keep g).at 5 _ rfl)
      have y6 := grew_every (w := w0) (S := fun w' => w'.cell? ⟨wr.heap.size, 6, none⟩ = some (.bool q7)) (fun w' g => (HX0.out.keep g).at 6 _ rfl)
      have C1 := fun w' (g : Grew w0 w') => CR w'
      have C2 := fun w' (g : Grew w0 w') => CW w'
      clear CR CW
      have H : (R1 = false) ∨ (R1 = true ∧ R2 = false) ∨ (R1 = true ∧ R2 = true) := by cases R1 <;> cases R2 <;> simp
      rcases H with rfl | ⟨rfl, rfl⟩ | ⟨rfl, rfl⟩
      · have HF : Hid (R = false) := by show _ = _; rw [HR.out, ← HN.out (by rw [HST.out]; rfl)]; rfl
        clear HN HY HST HM HR HPB
        refine wp_region_grew (by kernel_rfl) (by kernel_rfl) ?_
        repeat (go_big_quiet_step (with_reducible (first | exact calls_every C1 | exact calls_every C2)))
        refine wpQuiet_nil ?_
        intro w5 hw'
        have HG5 := Lib.hid (grew_of hw')
        clear hw' y0 y1 y2 y3 y4 y5 y6
        go_wp2
        go_ret
        exact ⟨ret_b HF.out.symm, grew_trans HG.out (grew_trans HG0.out HG5.out)⟩
      · have HF : Hid (R = false) := by show _ = _; rw [HR.out, ← HN.out (by rw [HST.out]; rfl)]; rfl
        clear HN HY HST HM HR HPB
        refine wp_region_grew (by kernel_rfl) (by kernel_rfl) ?_
        repeat (go_big_quiet_step (with_reducible (first | exact calls_every C1 | exact calls_every C2)))
        refine wpQuiet_nil ?_
        intro w5 hw'
        have HG5 := Lib.hid (grew_of hw')
        clear hw' y0 y1 y2 y3 y4 y5 y6
        go_wp2
        go_ret
        exact ⟨ret_b HF.out.symm, grew_trans HG.out (grew_trans HG0.out HG5.out)⟩
      · cases j with
        | zero =>
          have HM2 := Lib.hid (HY.out.trans (by rw [HST.out]))
          clear HN HY HST HM HPB
          refine wp_region_grew (by kernel_rfl) (by kernel_rfl) ?_
          repeat (go_big_quiet_step (with_reducible (first | exact calls_every C1 | exact calls_every C2)))
          refine wpQuiet_nil ?_
          intro w5 hw'
          have HG5 := Lib.hid (grew_of hw')
          clear hw' y0 y1 y2 y3 y4 y5 y6
          go_wp2
          go_roundw
          case rel => exact ⟨1, by go_num, by omega, HM2.out, grew_trans HG.out (grew_trans HG0.out HG5.out)⟩
          case measure => simp only [intOf]; omega
        | succ i =>
          obtain ⟨e0, -⟩ := HPB.out (by omega)
          rw [show i + 1 - 1 = i from rfl] at e0
          have HST2 : Hid (st = decide (p.1.1 < q1)) := by show _ = _; rw [HST.out]; simp
          have q5 : IntKind.i64.wrap (((i + 1 : Nat) : Int) - 1) = (i : Int) := by rw [IntKind.wrap_i64]; omega
          have q6 : (0 : Int) < ((i + 1 : Nat) : Int) := by omega
          have q7 : (i : Int) < (n : Int) := by omega
          have q8 : (0 : Int) ≤ (i : Int) := by omega
          generalize p.1.1 = p1 at *
          have z0 := grew_every (w := w0) (S := fun w' => w'.cell? ⟨b, o + i * 7, none⟩ = some (.int .i64 p1)) (fun w' g => (grew_cell (grew_trans HG0.out g) (p := ⟨b, _, none⟩) HB.out).trans e0)
          clear HPB HST e0
          by_cases hnp : p1 < q1
          · have HM2 := Lib.hid (HY.out.trans (by rw [HST2.out, decide_eq_true hnp, HM.out]))
            have q9 : ¬ (p1 ≥ q1) := by omega
            clear HN HY HST2 HM hnp
            refine wp_region_grew (by kernel_rfl) (by kernel_rfl) ?_
            repeat (go_big_quiet_step (with_reducible (first | exact calls_every C1 | exact calls_every C2)))
            refine wpQuiet_nil ?_
            intro w5 hw'
            have HG5 := Lib.hid (grew_of hw')
            clear hw' y0 y1 y2 y3 y4 y5 y6 z0
            go_wp2
            go_roundw
            case rel => exact ⟨i + 1 + 1, by go_num, by omega, HM2.out, grew_trans HG.out (grew_trans HG0.out HG5.out)⟩
            case measure => simp only [intOf]; omega
          · have HF : Hid (R = false) := by show _ = _; rw [HR.out, ← HN.out (by rw [HST2.out, decide_eq_false hnp])]; rfl
            have q9 : p1 ≥ q1 := by omega
            clear HN HY HST2 HM HR hnp
            refine wp_region_grew (by kernel_rfl) (by kernel_rfl) ?_
            repeat (go_big_quiet_step (with_reducible (first | exact calls_every C1 | exact calls_every C2)))
            refine wpQuiet_nil ?_
            intro w5 hw'
            have HG5 := Lib.hid (grew_of hw')
            clear hw' y0 y1 y2 y3 y4 y5 y6 z0
            go_wp2
            go_ret
            exact ⟨ret_b HF.out.symm, grew_trans HG.out (grew_trans HG0.out HG5.out)⟩
    · obtain rfl : j = n := by omega
      by_cases h8 : j ≤ 128
      · have HF : Hid (R = true) := by show _ = _; rw [HR.out, HM.out, decide_eq_true h8]; rfl
        have d8 : (j : Int) ≤ 128 := by omega
        clear HR HM h8
        go_wp2
        go_ret
        exact ⟨ret_b HF.out.symm, HG.out⟩
      · have HF : Hid (R = false) := by show _ = _; rw [HR.out, HM.out, decide_eq_false h8]; rfl
        have d8 : ¬ (j : Int) ≤ 128 := by omega
        clear HR HM h8
        go_wp2
        go_ret
        exact ⟨ret_b HF.out.symm, HG.out⟩

theorem legs_no_at (l : List Po) (j : Nat) (h : j < l.length) (hx : okLeg (l.getD j po0) = false) : l.all okLeg = false := by
  rw [List.all_eq_false]
  exact ⟨_, getD_mem l po0 j h, by rw [hx]; decide⟩
theorem legs_succ (l : List Po) (j : Nat) (h : j < l.length) : (l.take (j + 1)).all okLeg = ((l.take j).all okLeg && okLeg (l.getD j po0)) := by
  rw [List.take_succ_eq_append_getElem h, List.all_append, getD_at l po0 j h]; simp

set_option maxRecDepth 100000 in
set_option maxHeartbeats 4000000 in
theorem rightLegs_any (A : Option Addr) (n c : Nat) (l : List Po) (w : World) (h : RowE enPo w A n l) (hn : n ≤ 100000) :
    Calls Tryz.prog 82 #[.slice A n c] w fun e w' => e = .returned (.bool (l.all okLeg)) ∧ Grew w w' := by
  have HI := Lib.hid h
  have HL := Lib.hid h.len
  have HR : Hid (l.all okLeg = (l.take n).all okLeg) := by show _ = _; rw [List.take_of_length_le (by rw [h.len]; exact Nat.le_refl _)]
  have HNO := fun j hj => legs_no_at l j (by rw [h.len]; exact hj)
  have HNO := Lib.hid HNO
  generalize l.all okLeg = R at *
  clear h
  go_enter Tryz.func82, Tryz.ntmps82
  go_wp2
  go_loopw [7] (fun v wr => ∃ j : Nat, v = .int .i64 j ∧ j ≤ n ∧ Hid ((l.take j).all okLeg = true) ∧ Hid (Grew w wr)) (fun v _ => n - (intOf v).toNat)
  case atStart => exact ⟨0, rfl, by omega, rfl, grew_refl _⟩
  case round =>
    obtain ⟨j, rfl, hj, HM, HG⟩ := hrel
    by_cases hlt : j < n
    · have hjl : j < l.length := by rw [HL.out]; exact hlt
      obtain ⟨b, o, rfl, hb, hc⟩ := (HI.out.keep HG.out).po hlt
      obtain ⟨a0, a1, a2, a3⟩ := hc j hlt
      have HN := Lib.hid (HNO.out j hlt)
      have HY := Lib.hid (legs_succ l j hjl)
      have HOK : Hid (okLeg (l.getD j po0) = (okK ((l.getD j po0).1, (l.getD j po0).2.1) && (isMoney (l.getD j po0).2.2.1 && isMoney (l.getD j po0).2.2.2))) := rfl
      clear hc hb HNO
      have i0 : (0 : Int) ≤ (j : Int) := by omega
      have i1 : (j : Int) < (n : Int) := by omega
      generalize okLeg (l.getD j po0) = ok at *
      generalize l.getD j po0 = x at *
      obtain ⟨q1, q2, q3, q4⟩ := x
      dsimp only at a0 a1 a2 a3 HOK
      have C1 := fun w => permitted_any q1 q2 w
      have C3 := fun w => right_any (some ⟨w.heap.size, 0, none⟩) 2 2 [q3, q4] (w.alloc (.cells #[.int .i64 q3, .int .i64 q4] 3)) (ints2 w q3 q4 _) (by decide)
      simp only [List.all_cons, List.all_nil, Bool.and_true] at C3
      dsimp only [vKy] at C1
      generalize okK (q1, q2) = R1 at *
      generalize (isMoney q3 && isMoney q4) = R2 at *
      have HX0 : Hid (OwnC (wr.alloc (.cells #[.int .i64 q1, .int .i64 q2, .int .i64 q3, .int .i64 q4] 31)) wr.heap.size [.int .i64 q1, .int .i64 q2, .int .i64 q3, .int .i64 q4]) := OwnC.new wr [.int .i64 q1, .int .i64 q2, .int .i64 q3, .int .i64 q4] _ _ rfl
      have H : (R1 = false) ∨ (R1 = true ∧ R2 = false) ∨ (R1 = true ∧ R2 = true) := by cases R1 <;> cases R2 <;> simp
      rcases H with rfl | ⟨rfl, rfl⟩ | ⟨rfl, rfl⟩
      · have HF : Hid (R = false) := HN.out (by rw [HOK.out]; rfl)
        clear HN HY HOK HM HR
        go_wp2_with (go_at_call 57; ((with_reducible refine (C1 _).mono ?_); rintro e w1 ⟨rfl, hg⟩; have HG1 := Lib.hid (grew_trans HG.out (own_back hg)); clear hg))
        go_ret
        exact ⟨ret_b HF.out.symm, HG1.out⟩
      · have HF : Hid (R = false) := HN.out (by rw [HOK.out]; rfl)
        clear HN HY HOK HM HR
        go_wp2_with (first
          | (go_at_call 57; ((with_reducible refine (C1 _).mono ?_); rintro e w1 ⟨rfl, hg⟩; have HG1 := Lib.hid (grew_trans HG.out (own_back hg)); have HX1 := Lib.hid (HX0.out.keep hg); have hN1 := HX1.out.lt; have x2 : w1.cell? ⟨wr.heap.size, 2, none⟩ = some (.int .i64 q3) := HX1.out.at 2 _ rfl; have x3 : w1.cell? ⟨wr.heap.size, 3, none⟩ = some (.int .i64 q4) := HX1.out.at 3 _ rfl; clear hg))
          | (go_at_call 34; ((with_reducible refine (C3 _).mono ?_); rintro e w2 ⟨rfl, rfl⟩)))
        go_ret
        exact ⟨ret_b HF.out.symm, grew_trans HG1.out (grew_alloc _ _ _)⟩
      · have HM2 : Hid ((l.take (j + 1)).all okLeg = true) := by show _ = _; rw [HY.out, HM.out, HOK.out]; rfl
        clear HN HY HOK HM HR
        go_wp2_with (first
          | (go_at_call 57; ((with_reducible refine (C1 _).mono ?_); rintro e w1 ⟨rfl, hg⟩; have HG1 := Lib.hid (grew_trans HG.out (own_back hg)); have HX1 := Lib.hid (HX0.out.keep hg); have hN1 := HX1.out.lt; have x2 : w1.cell? ⟨wr.heap.size, 2, none⟩ = some (.int .i64 q3) := HX1.out.at 2 _ rfl; have x3 : w1.cell? ⟨wr.heap.size, 3, none⟩ = some (.int .i64 q4) := HX1.out.at 3 _ rfl; clear hg))
          | (go_at_call 34; ((with_reducible refine (C3 _).mono ?_); rintro e w2 ⟨rfl, rfl⟩)))
        go_roundw
        case rel => exact ⟨j + 1, by go_num, by omega, HM2.out, grew_trans HG1.out (grew_alloc _ _ _)⟩
        case measure => simp only [intOf]; omega
    · obtain rfl : j = n := by omega
      have HF : Hid (R = true) := HR.out.trans HM.out
      clear HR HM HNO
      go_wp2
      go_ret
      exact ⟨ret_b HF.out.symm, HG.out⟩
end Go.Proofs.YtahioajpmlochaaGreat.NumK
namespace Go.Proofs.YtahioajpmlochaaGreat.NumK
open Go.RowKit
set_option linter.unusedVariables false

abbrev vBk (next : Int) (A1 A2 : Option Addr) (n1 n2 c1 c2 : Nat) : Value := .agg #[.int .i64 next, .slice A1 n1 c1, .slice A2 n2 c2]
/-- What of a book's slices is known whoever owns them. -/
structure InB (w : World) (b : Bk) (A1 A2 : Option Addr) (n1 n2 c1 c2 : Nat) : Prop where
  t : RowE enTr w A1 n1 b.2.1
  p : RowE enPo w A2 n2 b.2.2
  k1 : A1 = none → c1 = 0
  k2 : A2 = none → c2 = 0
  l1 : n1 ≤ c1 ∧ c1 ≤ 9223372036854775807
  l2 : n2 ≤ c2 ∧ c2 ≤ 9223372036854775807
structure OwnB (w : World) (base : Nat) (b : Bk) (A1 A2 : Option Addr) (c1 c2 : Nat) : Prop where
  t : OwnE enTr w base 50 (.slice A1 b.2.1.length c1) b.2.1
  p : OwnE enPo w base 31 (.slice A2 b.2.2.length c2) b.2.2
  ne : Apart A1 A2
section
variable {w w' : World} {base : Nat} {b : Bk} {A1 A2 : Option Addr} {n1 n2 c1 c2 : Nat}
theorem InB.keep (h : InB w b A1 A2 n1 n2 c1 c2) (g : Grew w w') : InB w' b A1 A2 n1 n2 c1 c2 := ⟨h.t.keep g, h.p.keep g, h.k1, h.k2, h.l1, h.l2⟩
theorem OwnB.keep (h : OwnB w base b A1 A2 c1 c2) (g : Grew w w') : OwnB w' base b A1 A2 c1 c2 := ⟨h.t.keep g, h.p.keep g, h.ne⟩
theorem OwnB.mono {b2 : Nat} (h : OwnB w base b A1 A2 c1 c2) (hb : b2 ≤ base) : OwnB w b2 b A1 A2 c1 c2 := ⟨h.t.mono hb, h.p.mono hb, h.ne⟩
theorem OwnB.in (h : OwnB w base b A1 A2 c1 c2) : InB w b A1 A2 b.2.1.length b.2.2.length c1 c2 :=
  ⟨(own_form h.t).1, (own_form h.p).1, (own_form h.t).2.1, (own_form h.p).2.1, (own_form h.t).2.2, (own_form h.p).2.2⟩
theorem OwnB.nil (w : World) (base : Nat) : OwnB w base bk0 none none 0 0 := ⟨OwnE.nil _ _ _ _, OwnE.nil _ _ _ _, fun x y h => by cases h⟩
end
/-- A book that a call hands back. -/
def BookP (b : Bk) (w : World) (e : Ending) (w' : World) : Prop :=
  ∃ A1 A2 c1 c2, e = .returned (vBk b.1 A1 A2 b.2.1.length b.2.2.length c1 c2) ∧ OwnB w' w.heap.size b A1 A2 c1 c2 ∧ Grew w w'
/-- A book and an error. -/
def BookE (b : Bk) (n : Int) (w : World) (e : Ending) (w' : World) : Prop :=
  ∃ A1 A2 c1 c2, e = .returned (.tuple #[vBk b.1 A1 A2 b.2.1.length b.2.2.length c1 c2, .int .i64 n]) ∧ OwnB w' w.heap.size b A1 A2 c1 c2 ∧ Grew w w'
/-- A book, a number and an error. -/
def BookN (b : Bk) (no n : Int) (w : World) (e : Ending) (w' : World) : Prop :=
  ∃ A1 A2 c1 c2, e = .returned (.tuple #[vBk b.1 A1 A2 b.2.1.length b.2.2.length c1 c2, .int .i64 no, .int .i64 n]) ∧ OwnB w' w.heap.size b A1 A2 c1 c2 ∧ Grew w w'

def chkB (b : Bk) : Int := if rightB b then 0 else 14
theorem chkB_yes {b : Bk} (h : rightB b = true) : chkB b = 0 := by unfold chkB; rw [if_pos h]
theorem chkB_no {b : Bk} (h : rightB b = false) : chkB b = 14 := by unfold chkB; rw [h]; rfl

set_option maxRecDepth 100000 in
set_option maxHeartbeats 1000000 in
theorem bcheck_any (b : Bk) (A1 A2 : Option Addr) (n1 n2 c1 c2 : Nat) (w : World) (h : InB w b A1 A2 n1 n2 c1 c2) (hn : n1 ≤ 100000 ∧ n2 ≤ 100000) :
    Calls Tryz.prog 12 #[vBk b.1 A1 A2 n1 n2 c1 c2] w fun e w' => e = .returned (.int .i64 (chkB b)) ∧ Grew w w' := by
  have C1 := fun w' => bwithin_any b.1 0 1099511627776 w'
  have C2 := fun w' (g : Grew w w') => rightPoss_any A2 n2 c2 b.2.2 w' (h.p.keep g) hn.2
  have C3 := fun w' (g : Grew w w') => rightTrades_any A1 n1 c1 b.2.1 b.1 w' (h.t.keep g) hn.1
  have HR : Hid (chkB b = if (wi b.1 0 1099511627776 && rightTs b.1 b.2.1 && rightPs b.2.2) = true then 0 else 14) := rfl
  have HX0 : Hid (OwnC (w.alloc (.cells #[.int .i64 b.1, .slice A1 n1 c1, .slice A2 n2 c2] 28)) w.heap.size [.int .i64 b.1, .slice A1 n1 c1, .slice A2 n2 c2]) := OwnC.new w [.int .i64 b.1, .slice A1 n1 c1, .slice A2 n2 c2] _ _ rfl
  clear h
  generalize chkB b = V at *
  generalize rightTs b.1 b.2.1 = R3 at *
  generalize rightPs b.2.2 = R2 at *
  generalize b.1 = nx at *
  generalize wi nx 0 1099511627776 = R1 at *
  dsimp only [vBk]
  have H : (R1 = false) ∨ (R1 = true ∧ R2 = false) ∨ (R1 = true ∧ R2 = true) := by cases R1 <;> cases R2 <;> simp
  rcases H with rfl | ⟨rfl, rfl⟩ | ⟨rfl, rfl⟩
  · have HF : Hid (V = 14) := by show _ = _; rw [HR.out]; rfl
    clear HR
    go_enter Tryz.func12, Tryz.ntmps12
    go_wp2_with (go_at_call 31; ((with_reducible refine (C1 _).mono ?_); rintro e w1 ⟨rfl, rfl⟩))
    go_ret
    exact ⟨ret_i HF.out.symm, grew_alloc _ _ _⟩
  · have HF : Hid (V = 14) := by show _ = _; rw [HR.out]; cases R3 <;> rfl
    clear HR
    go_enter Tryz.func12, Tryz.ntmps12
    go_wp2_with (first
      | (go_at_call 31; ((with_reducible refine (C1 _).mono ?_); rintro e w1 ⟨rfl, rfl⟩))
      | (go_at_call 32; ((with_reducible refine (C2 _ (grew_alloc _ _ _)).mono ?_); rintro e w2 ⟨rfl, hg⟩; have HG2 := Lib.hid (own_back hg); clear hg)))
    go_ret
    exact ⟨ret_i HF.out.symm, HG2.out⟩
  · cases R3
    all_goals
      (have HF := Lib.hid HR.out
       simp only [Bool.and_true, Bool.and_false, if_true, Bool.false_eq_true, if_false] at HF
       clear HR
       go_enter Tryz.func12, Tryz.ntmps12
       go_wp2_with (first
         | (go_at_call 31; ((with_reducible refine (C1 _).mono ?_); rintro e w1 ⟨rfl, rfl⟩))
         | (go_at_call 32; ((with_reducible refine (C2 _ (grew_alloc _ _ _)).mono ?_); rintro e w2 ⟨rfl, hg⟩; have HG2 := Lib.hid (own_back hg); have x0 : w2.cell? ⟨w.heap.size, 0, none⟩ = some (.int .i64 nx) := (HX0.out.keep hg).at 0 _ rfl; have x1 : w2.cell? ⟨w.heap.size, 1, none⟩ = some (.slice A1 n1 c1) := (HX0.out.keep hg).at 1 _ rfl; clear hg))
         | (go_at_call 33; ((with_reducible refine (C3 _ HG2.out).mono ?_); rintro e w3 ⟨rfl, hg⟩; have HG3 := Lib.hid (grew_trans HG2.out hg); clear hg)))
       go_ret
       exact ⟨ret_i HF.out.symm, HG3.out⟩)

/-! ### slices.Clone -/
theorem clonePo_any (A : Option Addr) (n c : Nat) (l : List Po) (w : World) (h : RowE enPo w A n l) (hA : A = none → c = 0) (hn : n ≤ 1000000) :
    Calls Tryz.prog 54 #[.slice A n c] w fun e w' => ∃ A' c', e = .returned (.slice A' n c') ∧ OwnE enPo w' w.heap.size 31 (.slice A' n c') l ∧ Grew w w' := by
  have q22 : ∀ (w : World) (a : Option Addr) (n c n' c' : Nat), (binOp .eql 26 (.slice a n c) (.slice none n' c')).run Tryz.prog w = .ok (.bool a.isNone) w := fun w a n c n' c' => Lib.run_eql_slice_nil w _ _ a n c n' c' Tryz.underlying26
  have HL := Lib.hid h.len
  cases A with
  | none =>
    obtain rfl := hA rfl
    obtain rfl : n = 0 := by
      rcases Nat.eq_zero_or_pos n with h1 | h1
      · exact h1
      · obtain ⟨b, o, e, _⟩ := h.2 h1; cases e
    obtain rfl := List.eq_nil_of_length_eq_zero h.len
    go_enter Tryz.func54, Tryz.ntmps54
    go_wp2
    go_ret
    exact ⟨none, 0, rfl, OwnE.nil _ _ _ _, grew_refl _⟩
  | some ad =>
    have HI := Lib.hid h
    clear h hA
    obtain ⟨ab, ao, asp⟩ := ad
    go_enter Tryz.func54, Tryz.ntmps54
    go_wp2_with (at_builtin; refine (wpList_append_E rfl _ _ 26 31 (vPo po0) 32 rfl Tryz.underlying26 info_po rfl w.heap.size _ [] rfl (OwnE.empty enPo w _ _ (Nat.le_refl _)) _ n c l rfl (by intro h; cases h) (HI.out.keep (grew_alloc _ _ _)) (by simp; unfold maxLen; omega) (by simp; omega) (by simp) ?_); intro v' w' ho hb; rw [List.nil_append] at ho; have HP := Lib.hid ho; have HB : Hid (Grew w w') := Below.trans (grew_alloc _ _ _) hb; clear ho hb)
    go_ret
    obtain ⟨A', c', rfl, -⟩ := HP.out.form
    rw [HL.out] at HP
    exact ⟨A', c', by rw [HL.out]; rfl, HP.out, HB.out⟩
theorem cloneTr_any (A : Option Addr) (n c : Nat) (l : List Tr) (w : World) (h : RowE enTr w A n l) (hA : A = none → c = 0) (hn : n ≤ 1000000) :
    Calls Tryz.prog 85 #[.slice A n c] w fun e w' => ∃ A' c', e = .returned (.slice A' n c') ∧ OwnE enTr w' w.heap.size 50 (.slice A' n c') l ∧ Grew w w' := by
  have q22 : ∀ (w : World) (a : Option Addr) (n c n' c' : Nat), (binOp .eql 25 (.slice a n c) (.slice none n' c')).run Tryz.prog w = .ok (.bool a.isNone) w := fun w a n c n' c' => Lib.run_eql_slice_nil w _ _ a n c n' c' Tryz.underlying25
  have HL := Lib.hid h.len
  cases A with
  | none =>
    obtain rfl := hA rfl
    obtain rfl : n = 0 := by
      rcases Nat.eq_zero_or_pos n with h1 | h1
      · exact h1
      · obtain ⟨b, o, e, _⟩ := h.2 h1; cases e
    obtain rfl := List.eq_nil_of_length_eq_zero h.len
    go_enter Tryz.func85, Tryz.ntmps85
    go_wp2
    go_ret
    exact ⟨none, 0, rfl, OwnE.nil _ _ _ _, grew_refl _⟩
  | some ad =>
    have HI := Lib.hid h
    clear h hA
    obtain ⟨ab, ao, asp⟩ := ad
    go_enter Tryz.func85, Tryz.ntmps85
    go_wp2_with (at_builtin; refine (wpList_append_E rfl _ _ 25 50 (vTr tr0) 56 rfl Tryz.underlying25 info_tr rfl w.heap.size _ [] rfl (OwnE.empty enTr w _ _ (Nat.le_refl _)) _ n c l rfl (by intro h; cases h) (HI.out.keep (grew_alloc _ _ _)) (by simp; unfold maxLen; omega) (by simp; omega) (by simp) ?_); intro v' w' ho hb; rw [List.nil_append] at ho; have HP := Lib.hid ho; have HB : Hid (Grew w w') := Below.trans (grew_alloc _ _ _) hb; clear ho hb)
    go_ret
    obtain ⟨A', c', rfl, -⟩ := HP.out.form
    rw [HL.out] at HP
    exact ⟨A', c', by rw [HL.out]; rfl, HP.out, HB.out⟩
end Go.Proofs.YtahioajpmlochaaGreat.NumK
namespace Go.Proofs.YtahioajpmlochaaGreat.NumK
open Go.RowKit
set_option linter.unusedVariables false

set_option maxRecDepth 100000 in
set_option maxHeartbeats 4000000 in
theorem psumP_any (A : Option Addr) (n c : Nat) (l : List Po) (w : World) (h : RowE enPo w A n l) (hn : n ≤ 100000) :
    Calls Tryz.prog 97 #[.slice A n c] w (SumPost l w) := by
  have HI := Lib.hid h
  have HL := Lib.hid h.len
  have HN := Lib.hid (@post_arg l)
  have HB := Lib.hid (@post_big l)
  have HY := Lib.hid (@post_ok l)
  clear h
  generalize hPP : SumPost l w = PP at *
  replace HN : Hid (l.all okAm = false → ∀ w', Grew w w' → PP (.returned (.tuple #[.int .i64 0, .int .i64 0, .int .i64 3])) w') := fun h w' g => hPP ▸ HN.out h w w' g
  replace HB : Hid (l.all okAm = true → (isMoney (qtys l).sum && isMoney (csts l).sum) = false → ∀ w', Grew w w' → PP (.returned (.tuple #[.int .i64 0, .int .i64 0, .int .i64 1])) w') := fun h h2 w' g => hPP ▸ HB.out h h2 w w' g
  replace HY : Hid (l.all okAm = true → isMoney (qtys l).sum = true → isMoney (csts l).sum = true → ∀ w', Grew w w' → PP (.returned (.tuple #[.int .i64 (qtys l).sum, .int .i64 (csts l).sum, .int .i64 0])) w') := fun h h2 h3 w' g => hPP ▸ HY.out h h2 h3 w w' g
  clear hPP
  go_enter Tryz.func97, Tryz.ntmps97
  go_wp2
  go_loopw [5, 6, 13] (fun va vb vi wr => ∃ j : Nat, vi = .int .i64 j ∧ j ≤ n ∧ Hid (Two enInt enInt wr w.heap.size 3 3 va vb (qtys (l.take j)) (csts (l.take j))) ∧ Hid (Grew w wr)) (fun _ _ vi _ => n - (intOf vi).toNat)
  case atStart => exact ⟨0, rfl, by omega, Two.nil _ _ _ _ _ _, grew_refl _⟩
  case round =>
    obtain ⟨j, rfl, hj, HT, HG⟩ := hrel
    by_cases hlt : j < n
    · have hjl : j < l.length := by rw [HL.out]; exact hlt
      obtain ⟨b, o, rfl, hb, hc⟩ := HI.out.po hlt
      have HCP : Hid (∀ w', Grew w w' → CPo w' b (o + j * 4) (l.getD j po0)) := fun w' g => (hc j hlt).keep g hb
      obtain ⟨a0, a1, a2, a3⟩ := HCP.out _ HG.out
      clear hc hb
      have HQ := Lib.hid (qtys_succ l j hjl)
      have HC := Lib.hid (csts_succ l j hjl)
      have HLQ : Hid ((qtys (l.take j)).length = j) := by show _ = _; rw [qtys_len, List.length_take]; omega
      have HLC : Hid ((csts (l.take j)).length = j) := by show _ = _; rw [csts_len, List.length_take]; omega
      have i0 : (0 : Int) ≤ (j : Int) := by omega
      have i1 : (j : Int) < (n : Int) := by omega
      generalize l.getD j po0 = x at *
      obtain ⟨q1, q2, q3, q4⟩ := x
      dsimp only at a0 a1 a2 a3 HQ HC
      clear HN HB HY HCP
      go_wp2
      have HG0 : Hid (Grew w (wr.alloc (.cells #[.int .i64 q1, .int .i64 q2, .int .i64 q3, .int .i64 q4] 31))) := grew_trans HG.out (grew_alloc _ _ _)
      have HX0 : Hid (OwnC (wr.alloc (.cells #[.int .i64 q1, .int .i64 q2, .int .i64 q3, .int .i64 q4] 31)) wr.heap.size [.int .i64 q1, .int .i64 q2, .int .i64 q3, .int .i64 q4]) := OwnC.new wr [.int .i64 q1, .int .i64 q2, .int .i64 q3, .int .i64 q4] _ _ rfl
      have HT0 := Lib.hid (HT.out.keep (grew_alloc wr #[.int .i64 q1, .int .i64 q2, .int .i64 q3, .int .i64 q4] 31))
      have HF0 := Lib.hid (HT.out.far (Nat.le_refl _))
      generalize wr.alloc (.cells #[.int .i64 q1, .int .i64 q2, .int .i64 q3, .int .i64 q4] 31) = w0 at *
      have x2 : w0.cell? ⟨wr.heap.size, 2, none⟩ = some (.int .i64 q3) := HX0.out.at 2 _ rfl
      have x3 : w0.cell? ⟨wr.heap.size, 3, none⟩ = some (.int .i64 q4) := HX0.out.at 3 _ rfl
      have hN0 : wr.heap.size < w0.heap.size := HX0.out.lt
      have HS0 := Lib.hid HG0.out.size
      clear a0 a1 a2 a3 HX0 HT HG
      generalize wr.heap.size = N0 at *
      go_region_law (first
        | (refine step_two (E := enInt) (F := enInt) (s := 3) (t := 3) (base := w.heap.size) rfl _ _ 56 (.int .i64 0) 8 rfl Tryz.underlying56 info_int1 rfl (HT0.out.keep (by repeat (first | exact grew_refl _ | refine grew_drew ?_ | refine grew_trans ?_ (grew_alloc _ _ _)))) rfl _ q3 rfl (by first | exact (RowE.one1 enInt _ _ _ _ _ (by simp) rfl).keep (grew_drew (grew_refl _)) | exact (RowE.one1 enInt _ _ _ _ _ (by simp) rfl).keep (grew_drew (grew_alloc _ _ _))) (by rw [HLQ.out]; unfold maxLen; omega) (by rw [HLQ.out]; omega) (by simp; have := HS0.out; omega) ?_; intro v1 w1 ht hb hg; have HT1 := Lib.hid ht; have HG1 : Hid (Grew w w1) := Below.trans (grew_trans HG0.out (by repeat (first | exact grew_refl _ | refine grew_drew ?_ | refine grew_trans ?_ (grew_alloc _ _ _)))) hb; have HL1 : Hid (∀ N, RowE enInt _ (some ⟨N, 0, none⟩) 1 [q4] → w0.heap.size ≤ N → RowE enInt w1 (some ⟨N, 0, none⟩) 1 [q4]) := fun N h hN => h.grown hg (HT0.out.far hN).1; have y3 : w1.cell? ⟨N0, 3, none⟩ = some (.int .i64 q4) := (hg.cell_far ⟨N0, 3, none⟩ (by simp; omega) HF0.out.1).trans ((grew_cell (w := w0) (by repeat (first | exact grew_refl _ | refine grew_drew ?_ | refine grew_trans ?_ (grew_alloc _ _ _))) (p := ⟨N0, 3, none⟩) hN0).trans x3); clear ht hb hg)
        | (refine step_two (E := enInt) (F := enInt) (s := 3) (t := 3) (base := w.heap.size) rfl _ _ 56 (.int .i64 0) 8 rfl Tryz.underlying56 info_int1 rfl (HT1.out.swap.keep (by repeat (first | exact grew_refl _ | refine grew_drew ?_ | refine grew_trans ?_ (grew_alloc _ _ _)))) rfl _ q4 rfl (by first | exact RowE.one1 enInt _ _ _ _ _ (by simp) rfl | exact HL1.out _ ((RowE.one1 enInt _ _ _ _ _ (by simp) rfl).keep (grew_drew (grew_refl _))) (by simp) | exact HL1.out _ ((RowE.one1 enInt _ _ _ _ _ (by simp) rfl).keep (grew_drew (grew_alloc _ _ _))) (by simp)) (by rw [HLC.out]; unfold maxLen; omega) (by rw [HLC.out]; omega) (by first | exact HG1.out.size | (simp; have := HG1.out.size; omega)) ?_; intro v2 w2 ht hb hg; have HT2 := Lib.hid ht.swap; have HG2 : Hid (Grew w w2) := Below.trans (grew_trans HG1.out (by repeat (first | exact grew_refl _ | refine grew_drew ?_ | refine grew_trans ?_ (grew_alloc _ _ _)))) hb; clear ht hb hg))
      all_goals (
        go_wp2
        go_roundw
        case rel => exact ⟨j + 1, by go_num, by omega, (by rw [HQ.out, HC.out]; exact HT2.out), HG2.out⟩
        case measure => simp only [intOf]; omega)
    · obtain rfl : j = n := by omega
      have ht : l.take j = l := List.take_of_length_le (by rw [HL.out]; exact Nat.le_refl _)
      rw [ht] at HT
      obtain ⟨A3, c3, hv3, hr3, -, -, -⟩ := HT.out.a.form
      obtain ⟨A4, c4, hv4, hr4, -, -, -⟩ := HT.out.b.form
      rw [qtys_len, HL.out] at hv3 hr3
      rw [csts_len, HL.out] at hv4 hr4
      subst hv3 hv4
      have hok := okAm_all l
      have CR1 := fun w' (g : Grew wr w') => right_any A3 j c3 (qtys l) w' (ints_of_E (hr3.keep g)) (by omega)
      have CR2 := fun w' (g : Grew wr w') => right_any A4 j c4 (csts l) w' (ints_of_E (hr4.keep g)) (by omega)
      replace CR1 := CR1 wr (grew_refl _)
      replace CR2 := CR2 wr (grew_refl _)
      have CS1 := sum_any A3 j c3 (qtys l) wr (ints_of_E hr3) (by omega)
      have CS2 := fun w' (g : Grew wr w') => sum_any A4 j c4 (csts l) w' (ints_of_E (hr4.keep g)) (by omega)
      have HV1 : Hid ((qtys l).all isMoney = true → sumV (qtys l) = capV (qtys l).sum ∧ sumE (qtys l) = capE (qtys l).sum) := fun h => ⟨sumV_in h, sumE_in h⟩
      have HV2 : Hid ((csts l).all isMoney = true → sumV (csts l) = capV (csts l).sum ∧ sumE (csts l) = capE (csts l).sum) := fun h => ⟨sumV_in h, sumE_in h⟩
      have HU1 : Hid (isMoney (qtys l).sum = true → capV (qtys l).sum = (qtys l).sum ∧ capE (qtys l).sum = 0) := fun h => ⟨capV_in h, capE_in h⟩
      have HU2 : Hid (isMoney (csts l).sum = true → capV (csts l).sum = (csts l).sum ∧ capE (csts l).sum = 0) := fun h => ⟨capV_in h, capE_in h⟩
      have HW1 : Hid (isMoney (qtys l).sum = false → capE (qtys l).sum = 1) := fun h => capE_out h
      have HW2 : Hid (isMoney (csts l).sum = false → capE (csts l).sum = 1) := fun h => capE_out h
      clear HT hr3 hr4 ht
      have HOK := Lib.hid hok
      clear hok
      generalize l.all okAm = OKL at *
      generalize (qtys l).all isMoney = R1 at *
      generalize (csts l).all isMoney = R2 at *
      generalize sumV (qtys l) = SV1 at *
      generalize sumV (csts l) = SV2 at *
      generalize sumE (qtys l) = SE1 at *
      generalize sumE (csts l) = SE2 at *
      generalize (qtys l).sum = Sq at *
      generalize (csts l).sum = Sc at *
      generalize capV Sq = Vq at *
      generalize capV Sc = Vc at *
      generalize capE Sq = Eq at *
      generalize capE Sc = Ec at *
      generalize isMoney Sq = M1 at *
      generalize isMoney Sc = M2 at *
      cases R1
      · have HF := Lib.hid (HN.out (by rw [HOK.out]; rfl) _ HG.out)
        clear HN HB HY HOK HV1 HV2 HU1 HU2 HW1 HW2 CS1 CS2 CR2
        go_wp2_with (go_at_call 34; ((with_reducible refine (CR1.mono ?_)); rintro e w1 ⟨rfl, rfl⟩))
        go_ret3
        exact HF.out
      · cases R2
        · have HF := Lib.hid (HN.out (by rw [HOK.out]; rfl) _ HG.out)
          clear HN HB HY HOK HV1 HV2 HU1 HU2 HW1 HW2 CS1 CS2
          go_wp2_with (first | (go_at_call 34; ((with_reducible refine (CR1.mono ?_)); rintro e w1 ⟨rfl, rfl⟩)) | (go_at_call 34; ((with_reducible refine (CR2.mono ?_)); rintro e w1 ⟨rfl, rfl⟩)))
          go_ret3
          exact HF.out
        · have hOK : OKL = true := by rw [HOK.out]; rfl
          have HB2 := Lib.hid (HB.out hOK)
          have HY2 := Lib.hid (HY.out hOK)
          obtain ⟨rfl, rfl⟩ := HV1.out rfl
          obtain ⟨rfl, rfl⟩ := HV2.out rfl
          clear HN HB HY HOK hOK HV1 HV2
          cases M1
          · obtain rfl := HW1.out rfl
            have HF := Lib.hid (HB2.out rfl)
            clear HB2 HY2 HU1 HU2 HW1 HW2
            go_wp2_with (first | (go_at_call 34; ((with_reducible refine (CR1.mono ?_)); rintro e w1 ⟨rfl, rfl⟩)) | (go_at_call 34; ((with_reducible refine (CR2.mono ?_)); rintro e w1 ⟨rfl, rfl⟩)) | (go_at_call 17; ((with_reducible refine (CS1.mono ?_)); rintro e w2 ⟨rfl, hg⟩; have HG1 := Lib.hid hg; clear hg)) | (go_at_call 17; ((with_reducible refine (CS2 _ HG1.out).mono ?_); rintro e w3 ⟨rfl, hg⟩; have HG2 := Lib.hid (grew_trans HG1.out hg); clear hg)))
            go_ret3
            exact HF.out _ (grew_trans HG.out HG2.out)
          · obtain ⟨rfl, rfl⟩ := HU1.out rfl
            cases M2
            · obtain rfl := HW2.out rfl
              have HF := Lib.hid (HB2.out rfl)
              clear HB2 HY2 HU1 HU2 HW1 HW2
              go_wp2_with (first | (go_at_call 34; ((with_reducible refine (CR1.mono ?_)); rintro e w1 ⟨rfl, rfl⟩)) | (go_at_call 34; ((with_reducible refine (CR2.mono ?_)); rintro e w1 ⟨rfl, rfl⟩)) | (go_at_call 17; ((with_reducible refine (CS1.mono ?_)); rintro e w2 ⟨rfl, hg⟩; have HG1 := Lib.hid hg; clear hg)) | (go_at_call 17; ((with_reducible refine (CS2 _ HG1.out).mono ?_); rintro e w3 ⟨rfl, hg⟩; have HG2 := Lib.hid (grew_trans HG1.out hg); clear hg)))
              go_ret3
              exact HF.out _ (grew_trans HG.out HG2.out)
            · obtain ⟨rfl, rfl⟩ := HU2.out rfl
              have HF := Lib.hid (HY2.out rfl rfl)
              clear HB2 HY2 HU1 HU2 HW1 HW2
              go_wp2_with (first | (go_at_call 34; ((with_reducible refine (CR1.mono ?_)); rintro e w1 ⟨rfl, rfl⟩)) | (go_at_call 34; ((with_reducible refine (CR2.mono ?_)); rintro e w1 ⟨rfl, rfl⟩)) | (go_at_call 17; ((with_reducible refine (CS1.mono ?_)); rintro e w2 ⟨rfl, hg⟩; have HG1 := Lib.hid hg; clear hg)) | (go_at_call 17; ((with_reducible refine (CS2 _ HG1.out).mono ?_); rintro e w3 ⟨rfl, hg⟩; have HG2 := Lib.hid (grew_trans HG1.out hg); clear hg)))
              go_ret3
              exact HF.out _ (grew_trans HG.out HG2.out)
end Go.Proofs.YtahioajpmlochaaGreat.NumK
