/- A list of As: whether all of it are right, and it rises. -/
import Derived.Test.YtckdbbjeifindaaRG7
import Derived.Test.YtckdbbjeifindaaRG1
import Derived.Test.YtckdbbjeifindaaRG2
import Derived.Test.YtckdbbjeifindaaRG8
import Derived.Test.YtckdbbjeifindaaRG9
import Derived.Deep.RegionHeld3
namespace Go.Proofs.Ytckdbbjeifindaa.NumK
open Go.RowKit
set_option linter.unusedVariables false

set_option maxRecDepth 100000 in
set_option maxHeartbeats 2000000 in
theorem rightAs_any (A : Option Addr) (n c : Nat) (l : List As) (w : World) (h : RowE enAs w A n l) (hn : n ≤ 1000000) :
    Calls Try.prog 44 #[.slice A n c, .func (.func 45) #[] #[], .func (.func 46) #[] #[]] w fun e w' => e = .returned (.bool (rightL okAs noAs as0 l)) ∧ Grew w w' := by
  have HI := Lib.hid h
  have HR : Hid (rightL okAs noAs as0 l = (List.range n).all (stepOK okAs noAs as0 l)) := by show _ = _; rw [← h.len]; rfl
  generalize rightL okAs noAs as0 l = R at *
  clear h
  go_enter Try.func44, Try.ntmps44
  go_wp2
  go_loopw [11] (fun v wr => ∃ j : Nat, v = .int .i64 j ∧ j ≤ n ∧ Hid ((List.range j).all (stepOK okAs noAs as0 l) = true) ∧ Hid (Grew w wr)) (fun v _ => n - (intOf v).toNat)
  case atStart => exact ⟨0, rfl, by omega, rfl, grew_refl _⟩
  case round =>
    obtain ⟨j, rfl, hj, HM, HG⟩ := hrel
    by_cases hlt : j < n
    · obtain ⟨b, o, rfl, hb, hc⟩ := (HI.out.keep HG.out).as hlt
      have HN := Lib.hid (range_all_no (stepOK okAs noAs as0 l) j n hlt)
      have HY := Lib.hid (range_all_succ (stepOK okAs noAs as0 l) j)
      have HST : Hid (stepOK okAs noAs as0 l j = (okAs (l.getD j as0) && (decide (j = 0) || decide (noAs (l.getD (j - 1) as0) < noAs (l.getD j as0))))) := rfl
      generalize stepOK okAs noAs as0 l j = st at *
      have i0 : (0 : Int) ≤ (j : Int) := by omega
      have i1 : (j : Int) < (n : Int) := by omega
      have CR := fun w => rightAsset_any (l.getD j as0) w
      have CX := fun w => assetNo_any (l.getD j as0) w
      have CP := fun w => assetNo_any (l.getD (j - 1) as0) w
      generalize okAs (l.getD j as0) = ok at *
      obtain ⟨a0, a1, a2, a3⟩ := hc j hlt
      have HPB : Hid (0 < j → CAs wr b (o + (j - 1) * 4) (l.getD (j - 1) as0)) := fun h0 => hc (j - 1) (by omega)
      clear hc
      have HB := Lib.hid hb
      clear hb
      generalize noAs (l.getD j as0) = nx at *
      generalize noAs (l.getD (j - 1) as0) = np at *
      generalize l.getD j as0 = x at *
      generalize l.getD (j - 1) as0 = p at *
      obtain ⟨q1, q2, q3, q4⟩ := x
      dsimp only at a0 a1 a2 a3 
      dsimp only [vAs] at CR CX CP
      have HW0G : Hid (Grew wr (wr.alloc (.cells #[.int .i64 q1, .int .i64 q2, .int .i64 q3, .int .i64 q4] 23))) := grew_alloc _ _ _
      go_wp2_with fail
      have hw0 : (wr.alloc (.cells #[.int .i64 q1, .int .i64 q2, .int .i64 q3, .int .i64 q4] 23)).cell? ⟨wr.heap.size, 0, none⟩ = some (.int .i64 q1) ∧ (wr.alloc (.cells #[.int .i64 q1, .int .i64 q2, .int .i64 q3, .int .i64 q4] 23)).cell? ⟨wr.heap.size, 1, none⟩ = some (.int .i64 q2) ∧ (wr.alloc (.cells #[.int .i64 q1, .int .i64 q2, .int .i64 q3, .int .i64 q4] 23)).cell? ⟨wr.heap.size, 2, none⟩ = some (.int .i64 q3) ∧ (wr.alloc (.cells #[.int .i64 q1, .int .i64 q2, .int .i64 q3, .int .i64 q4] 23)).cell? ⟨wr.heap.size, 3, none⟩ = some (.int .i64 q4) ∧ wr.heap.size < (wr.alloc (.cells #[.int .i64 q1, .int .i64 q2, .int .i64 q3, .int .i64 q4] 23)).heap.size := ⟨by simp, by simp, by simp, by simp, by simp⟩
      generalize wr.alloc (.cells #[.int .i64 q1, .int .i64 q2, .int .i64 q3, .int .i64 q4] 23) = w0 at hw0 HW0G ⊢
      obtain ⟨d0, d1, d2, d3, hw0⟩ := hw0
      have y0 : ∀ p : GrewTo w0, p.to.cell? ⟨wr.heap.size, 0, none⟩ = _ := fun p => (grew_cell p.h (p := ⟨wr.heap.size, 0, none⟩) hw0).trans d0; have y1 : ∀ p : GrewTo w0, p.to.cell? ⟨wr.heap.size, 1, none⟩ = _ := fun p => (grew_cell p.h (p := ⟨wr.heap.size, 1, none⟩) hw0).trans d1; have y2 : ∀ p : GrewTo w0, p.to.cell? ⟨wr.heap.size, 2, none⟩ = _ := fun p => (grew_cell p.h (p := ⟨wr.heap.size, 2, none⟩) hw0).trans d2; have y3 : ∀ p : GrewTo w0, p.to.cell? ⟨wr.heap.size, 3, none⟩ = _ := fun p => (grew_cell p.h (p := ⟨wr.heap.size, 3, none⟩) hw0).trans d3
      clear a0 a1 a2 a3  d0 d1 d2 d3  hw0
      cases ok
      · have HF : Hid (R = false) := by show _ = _; rw [HR.out]; exact (HN.out (by rw [HST.out]; rfl)).symm
        clear HN HY HST HM HR HPB CX CP
        refine wp_region_grew (by kernel_rfl) (by kernel_rfl) ?_
        repeat (go_big_quiet_step (with_reducible exact calls_grew (CR _)))
        refine wpQuiet_nil ?_
        intro w5 hw'
        have HG5 := Lib.hid (grew_of hw')
        clear hw' y0 y1 y2 y3 
        go_wp2
        go_ret
        exact ⟨ret_b HF.out.symm, grew_trans HG.out (grew_trans HW0G.out HG5.out)⟩
      · cases j with
        | zero =>
          have HM2 := Lib.hid (HY.out.trans (by rw [HST.out]))
          clear HN HY HST HM HPB CX CP
          refine wp_region_grew (by kernel_rfl) (by kernel_rfl) ?_
          repeat (go_big_quiet_step (with_reducible exact calls_grew (CR _)))
          refine wpQuiet_nil ?_
          intro w5 hw'
          have HG5 := Lib.hid (grew_of hw')
          clear hw' y0 y1 y2 y3 
          go_wp2
          go_roundw
          case rel => exact ⟨1, by go_num, by omega, HM2.out, grew_trans HG.out (grew_trans HW0G.out HG5.out)⟩
          case measure => simp only [intOf]; omega
        | succ i =>
          obtain ⟨e0, e1, e2, e3⟩ := HPB.out (by omega)
          rw [show i + 1 - 1 = i from rfl] at e0 e1 e2 e3 
          have HST2 : Hid (st = decide (np < nx)) := by show _ = _; rw [HST.out]; simp
          have q5 : IntKind.i64.wrap (((i + 1 : Nat) : Int) - 1) = (i : Int) := by rw [IntKind.wrap_i64]; omega
          have q6 : (0 : Int) < ((i + 1 : Nat) : Int) := by omega
          have q7 : (i : Int) < (n : Int) := by omega
          have q8 : (0 : Int) ≤ (i : Int) := by omega
          clear HPB HST
          obtain ⟨p1, p2, p3, p4⟩ := p
          dsimp only at e0 e1 e2 e3  CP
          have HWB : Hid (b < w0.heap.size) := Nat.lt_of_lt_of_le HB.out HW0G.out.size
          have z0 : ∀ p : GrewTo w0, p.to.cell? ⟨b, o + i * 4, none⟩ = _ := fun p => (grew_cell p.h (p := ⟨b, _, none⟩) HWB.out).trans ((grew_cell HW0G.out (p := ⟨b, _, none⟩) HB.out).trans e0); have z1 : ∀ p : GrewTo w0, p.to.cell? ⟨b, o + i * 4 + 1, none⟩ = _ := fun p => (grew_cell p.h (p := ⟨b, _, none⟩) HWB.out).trans ((grew_cell HW0G.out (p := ⟨b, _, none⟩) HB.out).trans e1); have z2 : ∀ p : GrewTo w0, p.to.cell? ⟨b, o + i * 4 + 2, none⟩ = _ := fun p => (grew_cell p.h (p := ⟨b, _, none⟩) HWB.out).trans ((grew_cell HW0G.out (p := ⟨b, _, none⟩) HB.out).trans e2); have z3 : ∀ p : GrewTo w0, p.to.cell? ⟨b, o + i * 4 + 3, none⟩ = _ := fun p => (grew_cell p.h (p := ⟨b, _, none⟩) HWB.out).trans ((grew_cell HW0G.out (p := ⟨b, _, none⟩) HB.out).trans e3)
          clear e0 e1 e2 e3 
          by_cases hnp : np < nx
          · have HM2 := Lib.hid (HY.out.trans (by rw [HST2.out, decide_eq_true hnp, HM.out]))
            have q9 : ¬ (np ≥ nx) := by omega
            clear HN HY HST2 HM hnp
            refine wp_region_grew (by kernel_rfl) (by kernel_rfl) ?_
            repeat (go_big_quiet_step (with_reducible (first | exact calls_grew (CR _) | exact calls_grew (CX _) | exact calls_grew (CP _))))
            refine wpQuiet_nil ?_
            intro w5 hw'
            have HG5 := Lib.hid (grew_of hw')
            clear hw' y0 y1 y2 y3  z0 z1 z2 z3 
            go_wp2
            go_roundw
            case rel => exact ⟨i + 1 + 1, by go_num, by omega, HM2.out, grew_trans HG.out (grew_trans HW0G.out HG5.out)⟩
            case measure => simp only [intOf]; omega
          · have HF : Hid (R = false) := by show _ = _; rw [HR.out]; exact (HN.out (by rw [HST2.out, decide_eq_false hnp])).symm
            have q9 : np ≥ nx := by omega
            clear HN HY HST2 HM hnp HR
            refine wp_region_grew (by kernel_rfl) (by kernel_rfl) ?_
            repeat (go_big_quiet_step (with_reducible (first | exact calls_grew (CR _) | exact calls_grew (CX _) | exact calls_grew (CP _))))
            refine wpQuiet_nil ?_
            intro w5 hw'
            have HG5 := Lib.hid (grew_of hw')
            clear hw' y0 y1 y2 y3  z0 z1 z2 z3 
            go_wp2
            go_ret
            exact ⟨ret_b HF.out.symm, grew_trans HG.out (grew_trans HW0G.out HG5.out)⟩
    · obtain rfl : j = n := by omega
      have HF : Hid (R = true) := by show _ = _; rw [HR.out]; exact HM.out
      clear HM HR
      go_wp2
      go_ret
      exact ⟨ret_b HF.out.symm, HG.out⟩
end Go.Proofs.Ytckdbbjeifindaa.NumK
namespace Go.Proofs.Ytckdbbjeifindaa.NumK
open Go.RowKit

/-! ### rolls -/
abbrev rlV (A1 A2 A3 : Option Addr) (n1 n2 n3 c1 c2 c3 : Nat) : Value := .agg #[.slice A1 n1 c1, .slice A2 n2 c2, .slice A3 n3 c3]
/-- A roll's rows, wherever they lie. -/
structure Rows3 (w : World) (r : Rl) (A1 A2 A3 : Option Addr) (n1 n2 n3 : Nat) : Prop where
  m : RowE enMb w A1 n1 r.1
  i : RowE enIn w A2 n2 r.2.1
  h : RowE enAs w A3 n3 r.2.2
theorem Rows3.keep {w w' : World} {r : Rl} {A1 A2 A3 : Option Addr} {n1 n2 n3 : Nat} (h : Rows3 w r A1 A2 A3 n1 n2 n3) (g : Grew w w') : Rows3 w' r A1 A2 A3 n1 n2 n3 := ⟨h.m.keep g, h.i.keep g, h.h.keep g⟩

end Go.Proofs.Ytckdbbjeifindaa.NumK
namespace Go.Proofs.Ytckdbbjeifindaa.NumK
open Go.RowKit
set_option linter.unusedVariables false

def rightR (r : Rl) : Bool := rightL okMb noMb mb0 r.1 && (rightL okIn noIn in0 r.2.1 && rightL okAs noAs as0 r.2.2)

def chkV (r : Rl) : Int := if rightR r = true then 0 else 14
theorem chkV_yes {r : Rl} (h : rightR r = true) : chkV r = 0 := by unfold chkV; rw [if_pos h]
theorem chkV_no {r : Rl} (h : rightR r = false) : chkV r = 14 := by unfold chkV; rw [h]; rfl
structure Own3 (w : World) (base : Nat) (r : Rl) (A1 A2 A3 : Option Addr) (c1 c2 c3 : Nat) : Prop where
  m : OwnE enMb w base 91 (.slice A1 r.1.length c1) r.1
  i : OwnE enIn w base 97 (.slice A2 r.2.1.length c2) r.2.1
  h : OwnE enAs w base 23 (.slice A3 r.2.2.length c3) r.2.2
section
variable {w w' : World} {base : Nat} {r : Rl} {A1 A2 A3 : Option Addr} {c1 c2 c3 : Nat}
theorem Own3.keep (h : Own3 w base r A1 A2 A3 c1 c2 c3) (g : Grew w w') : Own3 w' base r A1 A2 A3 c1 c2 c3 := ⟨h.m.keep g, h.i.keep g, h.h.keep g⟩
theorem Own3.mono {b2 : Nat} (h : Own3 w base r A1 A2 A3 c1 c2 c3) (hb : b2 ≤ base) : Own3 w b2 r A1 A2 A3 c1 c2 c3 := ⟨h.m.mono hb, h.i.mono hb, h.h.mono hb⟩
theorem Own3.rows (h : Own3 w base r A1 A2 A3 c1 c2 c3) : Rows3 w r A1 A2 A3 r.1.length r.2.1.length r.2.2.length := ⟨(own_form h.m).1, (own_form h.i).1, (own_form h.h).1⟩
end
/-- What of a roll's slices is known whoever owns them. -/
structure In3 (w : World) (r : Rl) (A1 A2 A3 : Option Addr) (n1 n2 n3 c1 c2 c3 : Nat) : Prop where
  rows : Rows3 w r A1 A2 A3 n1 n2 n3
  k1 : A1 = none → c1 = 0
  k2 : A2 = none → c2 = 0
  k3 : A3 = none → c3 = 0
  l1 : n1 ≤ c1 ∧ c1 ≤ 9223372036854775807
  l2 : n2 ≤ c2 ∧ c2 ≤ 9223372036854775807
  l3 : n3 ≤ c3 ∧ c3 ≤ 9223372036854775807
theorem In3.keep {w w' : World} {r : Rl} {A1 A2 A3 : Option Addr} {n1 n2 n3 c1 c2 c3 : Nat} (h : In3 w r A1 A2 A3 n1 n2 n3 c1 c2 c3) (g : Grew w w') : In3 w' r A1 A2 A3 n1 n2 n3 c1 c2 c3 := ⟨h.rows.keep g, h.k1, h.k2, h.k3, h.l1, h.l2, h.l3⟩
/-- A roll that a call hands back. -/
def RollP (r : Rl) (w : World) (e : Ending) (w' : World) : Prop :=
  ∃ A1 A2 A3 c1 c2 c3, e = .returned (rlV A1 A2 A3 r.1.length r.2.1.length r.2.2.length c1 c2 c3) ∧ Own3 w' w.heap.size r A1 A2 A3 c1 c2 c3 ∧ Grew w w'
/-- One of three rows of its own. -/
def RollQ (r : Rl) (w : World) (e : Ending) (w' : World) : Prop :=
  ∃ A1 A2 A3 c1 c2 c3, e = .returned (rlV A1 A2 A3 r.1.length r.2.1.length r.2.2.length c1 c2 c3) ∧ (Own3 w' (w.heap.size + 2) r A1 A2 A3 c1 c2 c3 ∧ Apart A1 A2 ∧ Apart A1 A3 ∧ Apart A2 A3) ∧ Grew w w'
theorem RollQ.p {r : Rl} {w : World} {e : Ending} {w' : World} (h : RollQ r w e w') : RollP r w e w' := by
  obtain ⟨A1, A2, A3, c1, c2, c3, he, ⟨ho, _⟩, hg⟩ := h
  exact ⟨A1, A2, A3, c1, c2, c3, he, ho.mono (by omega), hg⟩
/-- A roll and an error. -/
def RollE (r : Rl) (n : Int) (w : World) (e : Ending) (w' : World) : Prop :=
  ∃ A1 A2 A3 c1 c2 c3, e = .returned (.tuple #[rlV A1 A2 A3 r.1.length r.2.1.length r.2.2.length c1 c2 c3, .int .i64 n]) ∧ Own3 w' w.heap.size r A1 A2 A3 c1 c2 c3 ∧ Grew w w'

set_option maxRecDepth 100000 in
set_option maxHeartbeats 1000000 in
theorem check_any (r : Rl) (A1 A2 A3 : Option Addr) (n1 n2 n3 c1 c2 c3 : Nat) (w : World) (h : Rows3 w r A1 A2 A3 n1 n2 n3) (hn : n1 ≤ 1000000 ∧ n2 ≤ 1000000 ∧ n3 ≤ 1000000) :
    Calls Try.prog 20 #[rlV A1 A2 A3 n1 n2 n3 c1 c2 c3] w fun e w' => e = .returned (.int .i64 (chkV r)) ∧ Grew w w' := by
  have C1 := fun w' (g : Grew w w') => rightMb_any A1 n1 c1 r.1 w' (h.m.keep g) hn.1
  have C2 := fun w' (g : Grew w w') => rightIn_any A2 n2 c2 r.2.1 w' (h.i.keep g) hn.2.1
  have C3 := fun w' (g : Grew w w') => rightAs_any A3 n3 c3 r.2.2 w' (h.h.keep g) hn.2.2
  have HR : Hid (chkV r = if (rightL okMb noMb mb0 r.1 && (rightL okIn noIn in0 r.2.1 && rightL okAs noAs as0 r.2.2)) = true then 0 else 14) := rfl
  have HX0 : Hid (OwnC (w.alloc (.cells #[.slice A1 n1 c1, .slice A2 n2 c2, .slice A3 n3 c3] 48)) w.heap.size [.slice A1 n1 c1, .slice A2 n2 c2, .slice A3 n3 c3]) := OwnC.new w [.slice A1 n1 c1, .slice A2 n2 c2, .slice A3 n3 c3] _ _ rfl
  clear h
  generalize chkV r = V at *
  generalize rightL okMb noMb mb0 r.1 = R1 at *
  generalize rightL okIn noIn in0 r.2.1 = R2 at *
  generalize rightL okAs noAs as0 r.2.2 = R3 at *
  dsimp only [rlV]
  cases R1
  · have HF : Hid (14 = V) := by show _ = _; rw [HR.out]; rfl
    clear HR
    go_enter Try.func20, Try.ntmps20
    go_wp2_with (go_at_call 38; ((with_reducible refine (C1 _ (grew_alloc _ _ _)).mono ?_); rintro e w1 ⟨rfl, hg⟩; have HG1 := Lib.hid (own_back hg); clear hg C1))
    go_ret
    exact ⟨ret_i HF.out, HG1.out⟩
  · cases R2
    · have HF : Hid (14 = V) := by show _ = _; rw [HR.out]; rfl
      clear HR
      go_enter Try.func20, Try.ntmps20
      go_wp2_with (first
        | (go_at_call 38; ((with_reducible refine (C1 _ (grew_alloc _ _ _)).mono ?_); rintro e w1 ⟨rfl, hg⟩; have x1 : w1.cell? ⟨w.heap.size, 1, none⟩ = some (.slice A2 n2 c2) := (HX0.out.keep hg).at 1 _ rfl; have HG1 := Lib.hid (own_back hg); clear hg C1))
        | (go_at_call 41; ((with_reducible refine (C2 _ HG1.out).mono ?_); rintro e w2 ⟨rfl, hg⟩; have HG2 := Lib.hid (grew_trans HG1.out hg); clear hg C2)))
      go_ret
      exact ⟨ret_i HF.out, HG2.out⟩
    · cases R3
      all_goals
        (have HF := Lib.hid HR.out
         simp only [Bool.and_true, Bool.and_false, if_true, Bool.false_eq_true, if_false] at HF
         clear HR
         go_enter Try.func20, Try.ntmps20
         go_wp2_with (first
           | (go_at_call 38; ((with_reducible refine (C1 _ (grew_alloc _ _ _)).mono ?_); rintro e w1 ⟨rfl, hg⟩; have x1 : w1.cell? ⟨w.heap.size, 1, none⟩ = some (.slice A2 n2 c2) := (HX0.out.keep hg).at 1 _ rfl; have HX1 := Lib.hid (HX0.out.keep hg); have HG1 := Lib.hid (own_back hg); clear hg C1))
           | (go_at_call 41; ((with_reducible refine (C2 _ HG1.out).mono ?_); rintro e w2 ⟨rfl, hg⟩; have x2 : w2.cell? ⟨w.heap.size, 2, none⟩ = some (.slice A3 n3 c3) := (HX1.out.keep hg).at 2 _ rfl; have HG2 := Lib.hid (grew_trans HG1.out hg); clear hg C2))
           | (go_at_call 44; ((with_reducible refine (C3 _ HG2.out).mono ?_); rintro e w3 ⟨rfl, hg⟩; have HG3 := Lib.hid (grew_trans HG2.out hg); clear hg C3)))
         go_ret
         exact ⟨ret_i HF.out.symm, HG3.out⟩)

end Go.Proofs.Ytckdbbjeifindaa.NumK
