/-
  For every book, key and legs: whether the book is right, the position, the sums, and what stands behind legs that are added, are what the reference tells, the book stays, and what is told is new memory; books of more than 300 trades or positions, and more than 300 legs, the statement lets by.
-/
import Derived.Test.YtkbmiajgmnfpfaaRX
import Derived.Test.YtkbmiajgmnfpfaaRY
import Derived.Test.YtkbmiajgmnfpfaaRZ
import Derived.BigQuiet
import Derived.Deep.CutRange
import Derived.Test.YtkbmiajgmnfpfaaRX2
import Derived.Test.YtkbmiajgmnfpfaaRows
import Derived.WalkKit
import Derived.ProofKit
import Derived.OpenShut
import Derived.ShutString
import Derived.ChangeOld
import Derived.Below
import Derived.Carry
namespace Go.Proofs.Ytkbmiajgmnfpfaa.NumK
open Go.RowKit
set_option linter.unusedVariables false

theorem addB_len (b : Bk) (m : List Po) : (addB b m).2.1.length ≤ b.2.1.length ∧ (addB b m).2.2.length ≤ 128 := by
  by_cases h : addE b m = 0
  · rw [addB_ok h]; exact ⟨Nat.le_refl _, plA_len _⟩
  · have : addB b m = bk0 := by unfold addB; rw [if_neg h]
    rw [this]; exact ⟨Nat.zero_le _, Nat.zero_le _⟩

set_option maxRecDepth 100000 in
set_option maxHeartbeats 8000000 in
theorem bookExact_walk (b : Bk) (k1 k2 : Int) (m : List Po) (A1 A2 A3 : Option Addr) (n1 n2 n3 c1 c2 c3 : Nat) (w : World) (h : InB w b A1 A2 n1 n2 c1 c2) (h3 : RowE enPo w A3 n3 m) (kk3 : A3 = none → c3 = 0) :
    Calls Try.prog 3 #[vBk b.1 A1 A2 n1 n2 c1 c2, vKy (k1, k2), .slice A3 n3 c3] w fun e w' => e = .returned (.bool true) ∧ Grew w w' := by
  have CH := fun w' => heavy_any b.1 A1 A2 n1 n2 c1 c2 w'
  have HX0 : Hid (OwnC ((w.alloc (.cells #[.int .i64 b.1, .slice A1 n1 c1, .slice A2 n2 c2] 25)).alloc (.cells #[.int .i64 k1, .int .i64 k2] 27)) (w.heap.size) [.int .i64 b.1, .slice A1 n1 c1, .slice A2 n2 c2]) := (OwnC.new w [.int .i64 b.1, .slice A1 n1 c1, .slice A2 n2 c2] _ _ rfl).keep (grew_alloc _ _ _)
  by_cases hv : 300 < n1 ∨ 300 < n2
  · have hd : (decide (300 < n1) || decide (300 < n2)) = true := by simpa using hv
    rw [hd] at CH
    clear h h3 hv hd
    generalize b.1 = nx at *
    dsimp only [vBk, vKy] at *
    have HK0 : Hid (OwnC ((w.alloc (.cells #[.int .i64 nx, .slice A1 n1 c1, .slice A2 n2 c2] 25)).alloc (.cells #[.int .i64 k1, .int .i64 k2] 27)) (w.heap.size + 1) [.int .i64 k1, .int .i64 k2]) := OwnC.new _ [.int .i64 k1, .int .i64 k2] _ _ (by simp)
    have HG0 : Hid (Grew w ((w.alloc (.cells #[.int .i64 nx, .slice A1 n1 c1, .slice A2 n2 c2] 25)).alloc (.cells #[.int .i64 k1, .int .i64 k2] 27))) := grew_trans (grew_alloc _ _ _) (grew_alloc _ _ _)
    go_enter Try.func3, Try.ntmps3
    go_upto_region 1 with fail
    generalize (w.alloc (.cells #[.int .i64 nx, .slice A1 n1 c1, .slice A2 n2 c2] 25)).alloc (.cells #[.int .i64 k1, .int .i64 k2] 27) = w0 at *
    have x0 : w0.cell? ⟨w.heap.size, 0, none⟩ = some (.int .i64 nx) := HX0.out.at 0 _ rfl
    have x1 : w0.cell? ⟨w.heap.size, 1, none⟩ = some (.slice A1 n1 c1) := HX0.out.at 1 _ rfl
    have x2 : w0.cell? ⟨w.heap.size, 2, none⟩ = some (.slice A2 n2 c2) := HX0.out.at 2 _ rfl
    go_wp2_with (go_at_call 9; ((with_reducible refine (CH _).mono ?_); rintro e w1 ⟨rfl, hg⟩; have HG1 := Lib.hid (grew_trans HG0.out hg); clear hg))
    go_ret
    exact ⟨rfl, HG1.out⟩
  · have hd : (decide (300 < n1) || decide (300 < n2)) = false := by simpa using hv
    rw [hd] at CH
    clear hd
    by_cases h300 : 300 < n3
    · have l1 : (n3 : Int) > 300 := by omega
      clear h h3 hv
      generalize b.1 = nx at *
      dsimp only [vBk, vKy] at *
      have HK0 : Hid (OwnC ((w.alloc (.cells #[.int .i64 nx, .slice A1 n1 c1, .slice A2 n2 c2] 25)).alloc (.cells #[.int .i64 k1, .int .i64 k2] 27)) (w.heap.size + 1) [.int .i64 k1, .int .i64 k2]) := OwnC.new _ [.int .i64 k1, .int .i64 k2] _ _ (by simp)
      have HG0 : Hid (Grew w ((w.alloc (.cells #[.int .i64 nx, .slice A1 n1 c1, .slice A2 n2 c2] 25)).alloc (.cells #[.int .i64 k1, .int .i64 k2] 27))) := grew_trans (grew_alloc _ _ _) (grew_alloc _ _ _)
      go_enter Try.func3, Try.ntmps3
      go_upto_region 1 with fail
      generalize (w.alloc (.cells #[.int .i64 nx, .slice A1 n1 c1, .slice A2 n2 c2] 25)).alloc (.cells #[.int .i64 k1, .int .i64 k2] 27) = w0 at *
      have x0 : w0.cell? ⟨w.heap.size, 0, none⟩ = some (.int .i64 nx) := HX0.out.at 0 _ rfl
      have x1 : w0.cell? ⟨w.heap.size, 1, none⟩ = some (.slice A1 n1 c1) := HX0.out.at 1 _ rfl
      have x2 : w0.cell? ⟨w.heap.size, 2, none⟩ = some (.slice A2 n2 c2) := HX0.out.at 2 _ rfl
      go_wp2_with (go_at_call 9; ((with_reducible refine (CH _).mono ?_); rintro e w1 ⟨rfl, hg⟩; have HG1 := Lib.hid (grew_trans HG0.out hg); clear hg))
      go_ret
      exact ⟨rfl, HG1.out⟩
    · have l1 : ¬ (n3 : Int) > 300 := by omega
      obtain rfl := h.t.len
      obtain rfl := h.p.len
      have hl3 := h3.len
      obtain ⟨nx, lt, lp⟩ := b
      dsimp only at *
      have HI := Lib.hid h
      have HJ := Lib.hid h3
      clear HX0
      have HX0 : Hid (OwnC ((w.alloc (.cells #[.int .i64 nx, .slice A1 lt.length c1, .slice A2 lp.length c2] 25)).alloc (.cells #[.int .i64 k1, .int .i64 k2] 27)) w.heap.size [.int .i64 nx, .slice A1 lt.length c1, .slice A2 lp.length c2]) := (OwnC.new w [.int .i64 nx, .slice A1 lt.length c1, .slice A2 lp.length c2] _ _ rfl).keep (grew_alloc _ _ _)
      have HK0 : Hid (OwnC ((w.alloc (.cells #[.int .i64 nx, .slice A1 lt.length c1, .slice A2 lp.length c2] 25)).alloc (.cells #[.int .i64 k1, .int .i64 k2] 27)) (w.heap.size + 1) [.int .i64 k1, .int .i64 k2]) := OwnC.new _ [.int .i64 k1, .int .i64 k2] _ _ (by simp)
      have HG0 : Hid (Grew w ((w.alloc (.cells #[.int .i64 nx, .slice A1 lt.length c1, .slice A2 lp.length c2] 25)).alloc (.cells #[.int .i64 k1, .int .i64 k2] 27))) := grew_trans (grew_alloc _ _ _) (grew_alloc _ _ _)
      have CT := fun w' (g : Grew w w') => twinBook_any (nx, lt, lp) A1 A2 _ _ c1 c2 w' (h.keep g) ⟨by omega, by omega⟩
      unfold BookP at CT
      have CS := fun I1 I2 i1 i2 w' (ho : InB w' (nx, lt, lp) I1 I2 lt.length lp.length i1 i2) => bsum_any (nx, lt, lp) I1 I2 _ _ i1 i2 k2 w' ho (by omega)
      have CB := fun w' (g : Grew w w') => rboth_any (nx, lt, lp) A1 A2 _ _ c1 c2 k2 w' (h.keep g) (by omega)
      have CC := fun I1 I2 i1 i2 w' (ho : InB w' (nx, lt, lp) I1 I2 lt.length lp.length i1 i2) => bcheck_any (nx, lt, lp) I1 I2 _ _ i1 i2 w' ho ⟨by omega, by omega⟩
      have CR := fun w' (g : Grew w w') => rbook_any (nx, lt, lp) A1 A2 _ _ c1 c2 w' (h.keep g) ⟨by omega, by omega⟩
      have CO := fun I1 I2 i1 i2 w' (ho : InB w' (nx, lt, lp) I1 I2 lt.length lp.length i1 i2) => bof_any (nx, lt, lp) I1 I2 _ _ i1 i2 k1 k2 w' ho (by omega)
      have CF := fun w' (g : Grew w w') => rof_any (nx, lt, lp) A1 A2 _ _ c1 c2 k1 k2 w' (h.keep g) (by omega)
      have CP := fun w' => keepPos_yes (ofP lp (k1, k2)) w'
      have CA := fun I1 I2 i1 i2 w' (ho : InB w' (nx, lt, lp) I1 I2 lt.length lp.length i1 i2) (g : Grew w w') => badd_any (nx, lt, lp) I1 I2 A3 _ _ n3 i1 i2 c3 m w' ho (h3.keep g) kk3 ⟨by omega, by omega, by omega⟩
      have CD := fun w' (g : Grew w w') => radd_any (nx, lt, lp) A1 A2 A3 _ _ n3 c1 c2 c3 m w' (h.keep g) (h3.keep g) ⟨by omega, by omega, by omega⟩
      have CL := fun I1 I2 i1 i2 w' (ho : InB w' (nx, lt, lp) I1 I2 lt.length lp.length i1 i2) => clear_any (nx, lt, lp) I1 I2 _ _ i1 i2 w' ho (by omega)
      have CW := fun w' => wakes13_any w'
      unfold BookE at CA CD
      unfold BookP at CL
      have hcl : clearB (nx, lt, lp) = (nx, [], lp) := rfl
      rw [hcl] at CL
      clear hcl
      have HV : Hid (chkB (nx, lt, lp) = if rightB (nx, lt, lp) then 0 else 14) := rfl
      generalize chkB (nx, lt, lp) = V at *
      generalize rightB (nx, lt, lp) = R at *
      generalize addE (nx, lt, lp) m = ae at *
      have hal := addB_len (nx, lt, lp) m
      generalize addB (nx, lt, lp) m = AB at *
      obtain ⟨ax, al, ap⟩ := AB
      generalize hPP : ofP lp (k1, k2) = PP at *
      clear hPP
      obtain ⟨p1, p2, p3, p4⟩ := PP
      dsimp only [vBk, vKy, vPo] at *
      simp only [List.length_nil] at CL
      generalize bothQ lp k2 = SQ at *
      generalize bothC lp k2 = SC at *
      have hltl : lt.length ≤ 300 ∧ lp.length ≤ 300 := by omega
      clear h h3 hv
      go_enter Try.func3, Try.ntmps3
      go_upto_region 1 with fail
      generalize (w.alloc (.cells #[.int .i64 nx, .slice A1 lt.length c1, .slice A2 lp.length c2] 25)).alloc (.cells #[.int .i64 k1, .int .i64 k2] 27) = w0 at *
      have x0 : w0.cell? ⟨w.heap.size, 0, none⟩ = some (.int .i64 nx) := HX0.out.at 0 _ rfl
      have x1 : w0.cell? ⟨w.heap.size, 1, none⟩ = some (.slice A1 lt.length c1) := HX0.out.at 1 _ rfl
      have x2 : w0.cell? ⟨w.heap.size, 2, none⟩ = some (.slice A2 lp.length c2) := HX0.out.at 2 _ rfl
      go_upto_region 3 with (go_at_call 9; ((with_reducible refine (CH _).mono ?_); rintro e w1 ⟨rfl, hg⟩; have HR1 := Lib.hid hg; clear hg CH x0 x1 x2))
      have HX1 := Lib.hid (HX0.out.keep HR1.out)
      have HK1 := Lib.hid (HK0.out.keep HR1.out)
      have HG1 := Lib.hid (grew_trans HG0.out HR1.out)
      have x0 : w1.cell? ⟨w.heap.size, 0, none⟩ = some (.int .i64 nx) := HX1.out.at 0 _ rfl
      have x1 : w1.cell? ⟨w.heap.size, 1, none⟩ = some (.slice A1 lt.length c1) := HX1.out.at 1 _ rfl
      have x2 : w1.cell? ⟨w.heap.size, 2, none⟩ = some (.slice A2 lp.length c2) := HX1.out.at 2 _ rfl
      go_upto_region 4 with (go_at_call 10; ((with_reducible refine (CT _ HG1.out).mono ?_); rintro e w2 ⟨I1, I2, i1, i2, rfl, hb, hg⟩; have HB2 := Lib.hid (hb.keep (grew_alloc w2 #[.int .i64 nx, .slice I1 lt.length i1, .slice I2 lp.length i2] 25)); have HR2 := Lib.hid (grew_trans hg (grew_alloc w2 #[.int .i64 nx, .slice I1 lt.length i1, .slice I2 lp.length i2] 25)); have HN2 := Lib.hid (OwnC.new w2 [.int .i64 nx, .slice I1 lt.length i1, .slice I2 lp.length i2] 25 _ rfl); clear hb hg x0 x1 x2))
      generalize w2.alloc (.cells #[.int .i64 nx, .slice I1 lt.length i1, .slice I2 lp.length i2] 25) = w3 at *
      generalize w2.heap.size = N at *
      have HX3 := Lib.hid (HX1.out.keep HR2.out)
      have HK3 := Lib.hid (HK1.out.keep HR2.out)
      have HG3 := Lib.hid (grew_trans HG1.out HR2.out)
      have nz0 : w3.cell? ⟨N, 0, none⟩ = some (.int .i64 nx) := HN2.out.at 0 _ rfl
      have nz1 : w3.cell? ⟨N, 1, none⟩ = some (.slice I1 lt.length i1) := HN2.out.at 1 _ rfl
      have nz2 : w3.cell? ⟨N, 2, none⟩ = some (.slice I2 lp.length i2) := HN2.out.at 2 _ rfl
      have kz0 : w3.cell? ⟨w.heap.size + 1, 0, none⟩ = some (.int .i64 k1) := HK3.out.at 0 _ rfl
      have kz1 : w3.cell? ⟨w.heap.size + 1, 1, none⟩ = some (.int .i64 k2) := HK3.out.at 1 _ rfl
      go_upto_region 5 with (go_at_call 11; ((with_reducible refine (CS _ _ _ _ _ HB2.out.in).mono ?_); rintro e w4 ⟨rfl, hg⟩; have HR4 := Lib.hid hg; clear hg CS nz0 nz1 nz2 kz0 kz1))
      have HX4 := Lib.hid (HX3.out.keep HR4.out)
      have HK4 := Lib.hid (HK3.out.keep HR4.out)
      have x0 : w4.cell? ⟨w.heap.size, 0, none⟩ = some (.int .i64 nx) := HX4.out.at 0 _ rfl
      have x1 : w4.cell? ⟨w.heap.size, 1, none⟩ = some (.slice A1 lt.length c1) := HX4.out.at 1 _ rfl
      have x2 : w4.cell? ⟨w.heap.size, 2, none⟩ = some (.slice A2 lp.length c2) := HX4.out.at 2 _ rfl
      have kz0 : w4.cell? ⟨w.heap.size + 1, 0, none⟩ = some (.int .i64 k1) := HK4.out.at 0 _ rfl
      have kz1 : w4.cell? ⟨w.heap.size + 1, 1, none⟩ = some (.int .i64 k2) := HK4.out.at 1 _ rfl
      go_upto_region 6 with (go_at_call 12; ((with_reducible refine (CB _ (grew_trans HG3.out HR4.out)).mono ?_); rintro e w5 ⟨rfl, hg⟩; have HR5 := Lib.hid hg; clear hg CB x0 x1 x2 kz0 kz1))
      have HR35 := Lib.hid (grew_trans HR4.out HR5.out)
      have HX5 := Lib.hid (HX3.out.keep HR35.out)
      have HK5 := Lib.hid (HK3.out.keep HR35.out)
      have HN5 := Lib.hid (HN2.out.keep HR35.out)
      have HG5 := Lib.hid (grew_trans HG3.out HR35.out)
      have HB5 := Lib.hid (HB2.out.keep HR35.out)
      clear HX0 HX1 HX3 HX4 HK0 HK1 HK3 HK4 HR4 HR5
      have D1 := fun w' (g : Grew w5 w') => CC I1 I2 i1 i2 w' (HB5.out.in.keep g)
      have D2 := fun w' (g : Grew w5 w') => CR w' (grew_trans HG5.out g)
      have D3 := fun w' (g : Grew w5 w') => CO I1 I2 i1 i2 w' (HB5.out.in.keep g)
      have D4 := fun w' (g : Grew w5 w') => CF w' (grew_trans HG5.out g)
      have D5 := fun w' (g : Grew w5 w') => CP w'
      clear CC CR CO CF CP
      go_cut [65] (fun s65 wx => s65 = .bool false ∧ Hid (Grew w5 wx))
      case first =>
        have y0 := grew_every (w := w5) (S := fun w' => w'.cell? ⟨N, 0, none⟩ = some (.int .i64 nx)) (fun w' g => (HN5.out.keep g).at 0 _ rfl)
        have y1 := grew_every (w := w5) (S := fun w' => w'.cell? ⟨N, 1, none⟩ = some (.slice I1 lt.length i1)) (fun w' g => (HN5.out.keep g).at 1 _ rfl)
        have y2 := grew_every (w := w5) (S := fun w' => w'.cell? ⟨N, 2, none⟩ = some (.slice I2 lp.length i2)) (fun w' g => (HN5.out.keep g).at 2 _ rfl)
        have z0 := grew_every (w := w5) (S := fun w' => w'.cell? ⟨w.heap.size, 0, none⟩ = some (.int .i64 nx)) (fun w' g => (HX5.out.keep g).at 0 _ rfl)
        have z1 := grew_every (w := w5) (S := fun w' => w'.cell? ⟨w.heap.size, 1, none⟩ = some (.slice A1 lt.length c1)) (fun w' g => (HX5.out.keep g).at 1 _ rfl)
        have z2 := grew_every (w := w5) (S := fun w' => w'.cell? ⟨w.heap.size, 2, none⟩ = some (.slice A2 lp.length c2)) (fun w' g => (HX5.out.keep g).at 2 _ rfl)
        have v0 := grew_every (w := w5) (S := fun w' => w'.cell? ⟨w.heap.size + 1, 0, none⟩ = some (.int .i64 k1)) (fun w' g => (HK5.out.keep g).at 0 _ rfl)
        have v1 := grew_every (w := w5) (S := fun w' => w'.cell? ⟨w.heap.size + 1, 1, none⟩ = some (.int .i64 k2)) (fun w' g => (HK5.out.keep g).at 1 _ rfl)
        clear CA CD CL CT
        cases R
        all_goals
          (obtain rfl := HV.out
           simp only [Bool.false_eq_true, if_false, if_true] at D1
           refine wp_region_grew (by kernel_rfl) (by kernel_rfl) ?_
           repeat (go_big_quiet_step (with_reducible (first | exact calls_every D1 | exact calls_every D2 | exact calls_every D3 | exact calls_every D4 | exact calls_every D5)))
           refine wpQuiet_nil ?_
           intro w6 hw'
           have HG6 := Lib.hid (grew_of hw')
           clear hw' y0 y1 y2 z0 z1 z2 v0 v1
           go_wp2
           go_meet
           exact ⟨rfl, HG6.out⟩)
      case rest =>
        obtain ⟨rfl, HR6⟩ := hcut
        clear D1 D2 D3 D4 D5 HV
        have HNc := Lib.hid (HN5.out.keep HR6.out)
        have HBc := Lib.hid (HB5.out.keep HR6.out)
        have HXc := Lib.hid (HX5.out.keep HR6.out)
        have HGc := Lib.hid (grew_trans HG5.out HR6.out)
        clear HX5 HK5 HN5 HG5 HB5 HR6 HR35
        have hNc : N < wc.heap.size := HNc.out.lt
        have hXc : w.heap.size < wc.heap.size := HXc.out.lt
        have nz0 : wc.cell? ⟨N, 0, none⟩ = some (.int .i64 nx) := HNc.out.at 0 _ rfl
        have nz1 : wc.cell? ⟨N, 1, none⟩ = some (.slice I1 lt.length i1) := HNc.out.at 1 _ rfl
        have nz2 : wc.cell? ⟨N, 2, none⟩ = some (.slice I2 lp.length i2) := HNc.out.at 2 _ rfl
        go_upto_region 9 with (go_at_call 18; ((with_reducible refine (CA _ _ _ _ _ HBc.out.in HGc.out).mono ?_); rintro e w6 ⟨P1, P2, q1, q2, rfl, hb, hg⟩; have HA7 := Lib.hid (hb.keep (grew_alloc w6 #[.int .i64 ax, .slice P1 al.length q1, .slice P2 ap.length q2] 25)); have HR7 := Lib.hid (grew_trans hg (grew_alloc w6 #[.int .i64 ax, .slice P1 al.length q1, .slice P2 ap.length q2] 25)); have HV7 := Lib.hid (OwnC.new w6 [.int .i64 ax, .slice P1 al.length q1, .slice P2 ap.length q2] 25 _ rfl); have HPB : Hid ((∀ x, P1 = some x → wc.heap.size ≤ x.block ∧ x.block < w6.heap.size) ∧ (∀ x, P2 = some x → wc.heap.size ≤ x.block ∧ x.block < w6.heap.size)) := ⟨hb.t.block, hb.p.block⟩; have hM : wc.heap.size ≤ w6.heap.size := hg.size; clear hb hg CA nz0 nz1 nz2))
        generalize w6.alloc (.cells #[.int .i64 ax, .slice P1 al.length q1, .slice P2 ap.length q2] 25) = w7 at *
        generalize w6.heap.size = M at *
        have HX7 := Lib.hid (HXc.out.keep HR7.out)
        have HG7 := Lib.hid (grew_trans HGc.out HR7.out)
        have x0 : w7.cell? ⟨w.heap.size, 0, none⟩ = some (.int .i64 nx) := HX7.out.at 0 _ rfl
        have x1 : w7.cell? ⟨w.heap.size, 1, none⟩ = some (.slice A1 lt.length c1) := HX7.out.at 1 _ rfl
        have x2 : w7.cell? ⟨w.heap.size, 2, none⟩ = some (.slice A2 lp.length c2) := HX7.out.at 2 _ rfl
        go_upto_region 10 with (go_at_call 19; ((with_reducible refine (CD _ HG7.out).mono ?_); rintro e w8 ⟨D1, D2, d1, d2, rfl, hb, hg⟩; have HD9 := Lib.hid (hb.keep (grew_alloc w8 #[.int .i64 ax, .slice D1 al.length d1, .slice D2 ap.length d2] 25)); have HR9 := Lib.hid (grew_trans hg (grew_alloc w8 #[.int .i64 ax, .slice D1 al.length d1, .slice D2 ap.length d2] 25)); have HE9 := Lib.hid (OwnC.new w8 [.int .i64 ax, .slice D1 al.length d1, .slice D2 ap.length d2] 25 _ rfl); have hM2 : M < w8.heap.size := Nat.lt_of_lt_of_le HV7.out.lt hg.size; clear hb hg CD x0 x1 x2))
        generalize w8.alloc (.cells #[.int .i64 ax, .slice D1 al.length d1, .slice D2 ap.length d2] 25) = w9 at *
        generalize w8.heap.size = M2 at *
        have HV9 := Lib.hid (HV7.out.keep HR9.out)
        have HA9 := Lib.hid (HA7.out.keep HR9.out)
        have v0 : w9.cell? ⟨M, 0, none⟩ = some (.int .i64 ax) := HV9.out.at 0 _ rfl
        have v1 : w9.cell? ⟨M, 1, none⟩ = some (.slice P1 al.length q1) := HV9.out.at 1 _ rfl
        have v2 : w9.cell? ⟨M, 2, none⟩ = some (.slice P2 ap.length q2) := HV9.out.at 2 _ rfl
        have e0 : w9.cell? ⟨M2, 0, none⟩ = some (.int .i64 ax) := HE9.out.at 0 _ rfl
        have e1 : w9.cell? ⟨M2, 1, none⟩ = some (.slice D1 al.length d1) := HE9.out.at 1 _ rfl
        have e2 : w9.cell? ⟨M2, 2, none⟩ = some (.slice D2 ap.length d2) := HE9.out.at 2 _ rfl
        have CK := keepBook_yes ax P1 P2 D1 D2 al.length ap.length q1 q2 d1 d2 al ap w9 HA9.out.in.t HA9.out.in.p HD9.out.in.t HD9.out.in.p ⟨by omega, by omega⟩
        dsimp only [vBk] at CK
        go_upto_region 12 with (go_at_call 20; ((with_reducible refine CK.mono ?_); rintro e wA ⟨rfl, hg⟩; have HRA := Lib.hid hg; clear hg CK v0 v1 v2 e0 e1 e2))
        have HRcA := Lib.hid (grew_trans HR7.out (grew_trans HR9.out HRA.out))
        have HVA := Lib.hid (HV9.out.keep HRA.out)
        have HEA := Lib.hid (HE9.out.keep HRA.out)
        have HAA := Lib.hid (HA9.out.keep HRA.out)
        have v0 : wA.cell? ⟨M, 0, none⟩ = some (.int .i64 ax) := HVA.out.at 0 _ rfl
        have v1 : wA.cell? ⟨M, 1, none⟩ = some (.slice P1 al.length q1) := HVA.out.at 1 _ rfl
        have v2 : wA.cell? ⟨M, 2, none⟩ = some (.slice P2 ap.length q2) := HVA.out.at 2 _ rfl
        have CZ := spoilBook_same ax P1 P2 al.length ap.length q1 q2 wc.heap.size wA HAA.out.t.spb HAA.out.p.spb HRcA.out.size ⟨by omega, by omega⟩
        dsimp only [vBk] at CZ
        go_upto_region 13 with (go_at_call 21; ((with_reducible refine CZ.mono ?_); rintro e wB ⟨rfl, hb, hs⟩; have HZB := Lib.hid hb; have HSB := Lib.hid hs; clear hb hs CZ v0 v1 v2))
        have HXB := Lib.hid ((HXc.out.keep HRcA.out).below HZB.out hXc)
        have HNB := Lib.hid ((HNc.out.keep HRcA.out).below HZB.out hNc)
        have hzz := HZB.out.size
        have HVB : Hid (OwnC wB M [.int .i64 ax, .slice P1 al.length q1, .slice P2 ap.length q2]) := HVA.out.same (HSB.out M HVA.out.lt (by intro e; obtain ⟨x, hx, e2⟩ := Option.map_eq_some_iff.1 e; have := (HPB.out.1 x hx).2; omega) (by intro e; obtain ⟨x, hx, e2⟩ := Option.map_eq_some_iff.1 e; have := (HPB.out.2 x hx).2; omega)) hzz
        have HEB : Hid (OwnC wB M2 [.int .i64 ax, .slice D1 al.length d1, .slice D2 ap.length d2]) := HEA.out.same (HSB.out M2 HEA.out.lt (by intro e; obtain ⟨x, hx, e2⟩ := Option.map_eq_some_iff.1 e; have := (HPB.out.1 x hx).2; omega) (by intro e; obtain ⟨x, hx, e2⟩ := Option.map_eq_some_iff.1 e; have := (HPB.out.2 x hx).2; omega)) hzz
        have HGB : Hid (Grew w wB) := Below.trans (grew_trans HGc.out HRcA.out) (HZB.out.mono HGc.out.size)
        have HBA := Lib.hid (HBc.out.keep HRcA.out)
        have HBL : Hid ((∀ x, I1 = some x → x.block < wc.heap.size) ∧ (∀ x, I2 = some x → x.block < wc.heap.size)) := ⟨fun x hx => (HBc.out.t.block x hx).2, fun x hx => (HBc.out.p.block x hx).2⟩
        have HIB : Hid (OwnB wB w1.heap.size (nx, lt, lp) I1 I2 i1 i2) := ⟨own_kept HBA.out.t HZB.out HBL.out.1, own_kept HBA.out.p HZB.out HBL.out.2, HBA.out.ne⟩
        clear HXc HNc HBc HBA HA7 HA9 HAA HD9 HV7 HV9 HVA HE9 HEA HR7 HR9 HRA HRcA HX7 HG7 HG3 HG1 HB2 HN2 HZB HSB HPB
        have hM3 : M2 < wB.heap.size := HEB.out.lt
        have hIM : Hid (∀ Z, wc.heap.size ≤ Z → (∀ x, I1 = some x → x.block ≠ Z) ∧ (∀ x, I2 = some x → x.block ≠ Z)) := fun Z hZ => ⟨fun x hx => by have := HBL.out.1 x hx; omega, fun x hx => by have := HBL.out.2 x hx; omega⟩
        have nz0 : wB.cell? ⟨N, 0, none⟩ = some (.int .i64 nx) := HNB.out.at 0 _ rfl
        have nz1 : wB.cell? ⟨N, 1, none⟩ = some (.slice I1 lt.length i1) := HNB.out.at 1 _ rfl
        have nz2 : wB.cell? ⟨N, 2, none⟩ = some (.slice I2 lp.length i2) := HNB.out.at 2 _ rfl
        go_upto_region 14 with (go_at_call 22; ((with_reducible refine (CL _ _ _ _ _ HIB.out.in).mono ?_); rintro e wC ⟨C1, C2, g1, g2, rfl, hb, hg⟩; have HCC := Lib.hid hb; have HRC := Lib.hid hg; have HVC := Lib.hid (HVB.out.keep hg); have v0 : wC.cell? ⟨M, 0, none⟩ = some (.int .i64 ax) := HVC.out.at 0 _ rfl; have v1 : wC.cell? ⟨M, 1, none⟩ = some (.slice P1 al.length q1) := HVC.out.at 1 _ rfl; have v2 : wC.cell? ⟨M, 2, none⟩ = some (.slice P2 ap.length q2) := HVC.out.at 2 _ rfl; have fz0 : wC.frozen? ⟨M, 0, none⟩ = false := HVC.out.fr 0 (by show 0 < 3; omega); have fz1 : wC.frozen? ⟨M, 1, none⟩ = false := HVC.out.fr 1 (by show 1 < 3; omega); have fz2 : wC.frozen? ⟨M, 2, none⟩ = false := HVC.out.fr 2 (by show 2 < 3; omega); clear hb hg CL nz0 nz1 nz2))
        change Code.wp _ _ _ _ (putC wC M 0 [.int .i64 nx, .slice C1 0 g1, .slice C2 lp.length g2])
        clear v0 v1 v2 fz0 fz1 fz2
        have HVD : Hid (OwnC (putC wC M 0 [.int .i64 nx, .slice C1 0 g1, .slice C2 lp.length g2]) M [.int .i64 nx, .slice C1 0 g1, .slice C2 lp.length g2]) := HVC.out.all [.int .i64 nx, .slice C1 0 g1, .slice C2 lp.length g2] rfl
        have HND : Hid (OwnC (putC wC M 0 [.int .i64 nx, .slice C1 0 g1, .slice C2 lp.length g2]) N [.int .i64 nx, .slice I1 lt.length i1, .slice I2 lp.length i2]) := OwnC.putO (by omega) [.int .i64 nx, .slice C1 0 g1, .slice C2 lp.length g2] 0 _ (HNB.out.keep HRC.out)
        have HXD : Hid (OwnC (putC wC M 0 [.int .i64 nx, .slice C1 0 g1, .slice C2 lp.length g2]) w.heap.size [.int .i64 nx, .slice A1 lt.length c1, .slice A2 lp.length c2]) := OwnC.putO (by omega) [.int .i64 nx, .slice C1 0 g1, .slice C2 lp.length g2] 0 _ (HXB.out.keep HRC.out)
        have HED : Hid (OwnC (putC wC M 0 [.int .i64 nx, .slice C1 0 g1, .slice C2 lp.length g2]) M2 [.int .i64 ax, .slice D1 al.length d1, .slice D2 ap.length d2]) := OwnC.putO (by omega) [.int .i64 nx, .slice C1 0 g1, .slice C2 lp.length g2] 0 _ (HEB.out.keep HRC.out)
        have HID : Hid (OwnB (putC wC M 0 [.int .i64 nx, .slice C1 0 g1, .slice C2 lp.length g2]) w1.heap.size (nx, lt, lp) I1 I2 i1 i2) := (HIB.out.keep HRC.out).putN (hIM.out M (by omega)).1 (hIM.out M (by omega)).2 [.int .i64 nx, .slice C1 0 g1, .slice C2 lp.length g2]
        have HCD : Hid (OwnB (putC wC M 0 [.int .i64 nx, .slice C1 0 g1, .slice C2 lp.length g2]) wB.heap.size (nx, [], lp) C1 C2 g1 g2) := HCC.out.put (b2 := M) (by omega) [.int .i64 nx, .slice C1 0 g1, .slice C2 lp.length g2]
        have HGD : Hid (Grew w (putC wC M 0 [.int .i64 nx, .slice C1 0 g1, .slice C2 lp.length g2])) := grew_put (w := w) M (by omega) [.int .i64 nx, .slice C1 0 g1, .slice C2 lp.length g2] 0 _ (grew_trans HGB.out HRC.out)
        have hMD := HVD.out.lt
        generalize putC wC M 0 [.int .i64 nx, .slice C1 0 g1, .slice C2 lp.length g2] = wD at *
        clear HCC HVC HNB HXB HEB HIB HGB HVB
        have x0 : wD.cell? ⟨w.heap.size, 0, none⟩ = some (.int .i64 nx) := HXD.out.at 0 _ rfl
        have x1 : wD.cell? ⟨w.heap.size, 1, none⟩ = some (.slice A1 lt.length c1) := HXD.out.at 1 _ rfl
        have x2 : wD.cell? ⟨w.heap.size, 2, none⟩ = some (.slice A2 lp.length c2) := HXD.out.at 2 _ rfl
        go_upto_region 15 with (go_at_call 10; ((with_reducible refine (CT _ HGD.out).mono ?_); rintro e wE ⟨E1, E2, h1, h2, rfl, hb, hg⟩; have HTE := Lib.hid hb; have HRE := Lib.hid hg; have HEE := Lib.hid (HED.out.keep hg); have e0 : wE.cell? ⟨M2, 0, none⟩ = some (.int .i64 ax) := HEE.out.at 0 _ rfl; have e1 : wE.cell? ⟨M2, 1, none⟩ = some (.slice D1 al.length d1) := HEE.out.at 1 _ rfl; have e2 : wE.cell? ⟨M2, 2, none⟩ = some (.slice D2 ap.length d2) := HEE.out.at 2 _ rfl; have fz0 : wE.frozen? ⟨M2, 0, none⟩ = false := HEE.out.fr 0 (by show 0 < 3; omega); have fz1 : wE.frozen? ⟨M2, 1, none⟩ = false := HEE.out.fr 1 (by show 1 < 3; omega); have fz2 : wE.frozen? ⟨M2, 2, none⟩ = false := HEE.out.fr 2 (by show 2 < 3; omega); clear hb hg CT x0 x1 x2))
        change Code.wp _ _ _ _ (putC wE M2 0 [.int .i64 nx, .slice E1 lt.length h1, .slice E2 lp.length h2])
        clear e0 e1 e2 fz0 fz1 fz2
        have HEF : Hid (OwnC (putC wE M2 0 [.int .i64 nx, .slice E1 lt.length h1, .slice E2 lp.length h2]) M2 [.int .i64 nx, .slice E1 lt.length h1, .slice E2 lp.length h2]) := HEE.out.all [.int .i64 nx, .slice E1 lt.length h1, .slice E2 lp.length h2] rfl
        have HVF : Hid (OwnC (putC wE M2 0 [.int .i64 nx, .slice E1 lt.length h1, .slice E2 lp.length h2]) M [.int .i64 nx, .slice C1 0 g1, .slice C2 lp.length g2]) := OwnC.putO (by omega) [.int .i64 nx, .slice E1 lt.length h1, .slice E2 lp.length h2] 0 _ (HVD.out.keep HRE.out)
        have HNF : Hid (OwnC (putC wE M2 0 [.int .i64 nx, .slice E1 lt.length h1, .slice E2 lp.length h2]) N [.int .i64 nx, .slice I1 lt.length i1, .slice I2 lp.length i2]) := OwnC.putO (by omega) [.int .i64 nx, .slice E1 lt.length h1, .slice E2 lp.length h2] 0 _ (HND.out.keep HRE.out)
        have HXF : Hid (OwnC (putC wE M2 0 [.int .i64 nx, .slice E1 lt.length h1, .slice E2 lp.length h2]) w.heap.size [.int .i64 nx, .slice A1 lt.length c1, .slice A2 lp.length c2]) := OwnC.putO (by omega) [.int .i64 nx, .slice E1 lt.length h1, .slice E2 lp.length h2] 0 _ (HXD.out.keep HRE.out)
        have HIF : Hid (OwnB (putC wE M2 0 [.int .i64 nx, .slice E1 lt.length h1, .slice E2 lp.length h2]) w1.heap.size (nx, lt, lp) I1 I2 i1 i2) := (HID.out.keep HRE.out).putN (hIM.out M2 (by omega)).1 (hIM.out M2 (by omega)).2 [.int .i64 nx, .slice E1 lt.length h1, .slice E2 lp.length h2]
        have HCF : Hid (OwnB (putC wE M2 0 [.int .i64 nx, .slice E1 lt.length h1, .slice E2 lp.length h2]) wB.heap.size (nx, [], lp) C1 C2 g1 g2) := (HCD.out.keep HRE.out).put (b2 := M2) (by omega) [.int .i64 nx, .slice E1 lt.length h1, .slice E2 lp.length h2]
        have HTF : Hid (OwnB (putC wE M2 0 [.int .i64 nx, .slice E1 lt.length h1, .slice E2 lp.length h2]) wD.heap.size (nx, lt, lp) E1 E2 h1 h2) := HTE.out.put (b2 := M2) HED.out.lt [.int .i64 nx, .slice E1 lt.length h1, .slice E2 lp.length h2]
        have HGF : Hid (Grew w (putC wE M2 0 [.int .i64 nx, .slice E1 lt.length h1, .slice E2 lp.length h2])) := grew_put (w := w) M2 (by omega) [.int .i64 nx, .slice E1 lt.length h1, .slice E2 lp.length h2] 0 _ (grew_trans HGD.out HRE.out)
        have HFS : Hid ((∀ x, E1 = some x → x.block ≠ M2) ∧ (∀ x, E2 = some x → x.block ≠ M2)) := ⟨fun x hx => by have := (HTE.out.t.block x hx).1; have := HED.out.lt; omega, fun x hx => by have := (HTE.out.p.block x hx).1; have := HED.out.lt; omega⟩
        generalize putC wE M2 0 [.int .i64 nx, .slice E1 lt.length h1, .slice E2 lp.length h2] = wF at *
        clear HTE HEE HVD HND HXD HED HID HCD HGD HRE
        have e1 : wF.cell? ⟨M2, 1, none⟩ = some (.slice E1 lt.length h1) := HEF.out.at 1 _ rfl
        have fz1 : wF.frozen? ⟨M2, 1, none⟩ = false := HEF.out.fr 1 (by show 1 < 3; omega)
        go_upto_region 16 with fail
        clear e1 fz1
        have HEG : Hid (OwnC (wF.setCell ⟨M2, 1, none⟩ (.slice none 0 0)) M2 [.int .i64 nx, .slice none 0 0, .slice E2 lp.length h2]) := HEF.out.set 1 _ (by show 1 < 3; omega)
        have HVG : Hid (OwnC (wF.setCell ⟨M2, 1, none⟩ (.slice none 0 0)) M [.int .i64 nx, .slice C1 0 g1, .slice C2 lp.length g2]) := HVF.out.other ⟨M2, 1, none⟩ _ (by show M2 ≠ M; omega)
        have HNG : Hid (OwnC (wF.setCell ⟨M2, 1, none⟩ (.slice none 0 0)) N [.int .i64 nx, .slice I1 lt.length i1, .slice I2 lp.length i2]) := HNF.out.other ⟨M2, 1, none⟩ _ (by show M2 ≠ N; omega)
        have HXG : Hid (OwnC (wF.setCell ⟨M2, 1, none⟩ (.slice none 0 0)) w.heap.size [.int .i64 nx, .slice A1 lt.length c1, .slice A2 lp.length c2]) := HXF.out.other ⟨M2, 1, none⟩ _ (by show M2 ≠ w.heap.size; omega)
        have HIG : Hid (OwnB (wF.setCell ⟨M2, 1, none⟩ (.slice none 0 0)) w1.heap.size (nx, lt, lp) I1 I2 i1 i2) := HIF.out.setO (hIM.out M2 (by omega)).1 (hIM.out M2 (by omega)).2 M2 1 _ rfl
        have HCG : Hid (OwnB (wF.setCell ⟨M2, 1, none⟩ (.slice none 0 0)) (M2 + 1) (nx, [], lp) C1 C2 g1 g2) := (HCF.out.mono (b2 := M2 + 1) (by omega)).setO (t := M2) (fun x hx => by have := (HCF.out.t.block x hx).1; omega) (fun x hx => by have := (HCF.out.p.block x hx).1; omega) M2 1 _ rfl
        have HTG : Hid (OwnB (wF.setCell ⟨M2, 1, none⟩ (.slice none 0 0)) wD.heap.size (nx, lt, lp) E1 E2 h1 h2) := HTF.out.setO HFS.out.1 HFS.out.2 M2 1 _ rfl
        have HGG : Hid (Grew w (wF.setCell ⟨M2, 1, none⟩ (.slice none 0 0))) := grew_set HGF.out _ (by show w.heap.size ≤ M2; omega)
        generalize (wF.setCell ⟨M2, 1, none⟩ (.slice none 0 0)) = wG at *
        clear HEF HVF HNF HXF HIF HCF HTF HGF HFS
        have v0 : wG.cell? ⟨M, 0, none⟩ = some (.int .i64 nx) := HVG.out.at 0 _ rfl
        have v1 : wG.cell? ⟨M, 1, none⟩ = some (.slice C1 0 g1) := HVG.out.at 1 _ rfl
        have v2 : wG.cell? ⟨M, 2, none⟩ = some (.slice C2 lp.length g2) := HVG.out.at 2 _ rfl
        have e0 : wG.cell? ⟨M2, 0, none⟩ = some (.int .i64 nx) := HEG.out.at 0 _ rfl
        have e1 : wG.cell? ⟨M2, 1, none⟩ = some (.slice none 0 0) := HEG.out.at 1 _ rfl
        have e2 : wG.cell? ⟨M2, 2, none⟩ = some (.slice E2 lp.length h2) := HEG.out.at 2 _ rfl
        have CK := keepBook_yes nx C1 C2 none E2 0 lp.length g1 g2 0 h2 [] lp wG HCG.out.in.t HCG.out.in.p (RowE.nil _ _ _) HTG.out.in.p ⟨by omega, by omega⟩
        dsimp only [vBk] at CK
        go_upto_region 17 with (go_at_call 20; ((with_reducible refine CK.mono ?_); rintro e wH ⟨rfl, hg⟩; have HRH := Lib.hid hg; clear hg CK v0 v1 v2 e0 e1 e2))
        have HVH := Lib.hid (HVG.out.keep HRH.out)
        have HCH := Lib.hid (HCG.out.keep HRH.out)
        have v0 : wH.cell? ⟨M, 0, none⟩ = some (.int .i64 nx) := HVH.out.at 0 _ rfl
        have v1 : wH.cell? ⟨M, 1, none⟩ = some (.slice C1 0 g1) := HVH.out.at 1 _ rfl
        have v2 : wH.cell? ⟨M, 2, none⟩ = some (.slice C2 lp.length g2) := HVH.out.at 2 _ rfl
        have CZ := spoilBook_same nx C1 C2 0 lp.length g1 g2 (M2 + 1) wH HCH.out.t.spb HCH.out.p.spb (Nat.le_trans HEG.out.lt HRH.out.size) ⟨by omega, by omega⟩
        dsimp only [vBk] at CZ
        go_upto_region 18 with (go_at_call 21; ((with_reducible refine CZ.mono ?_); rintro e wI ⟨rfl, hb, hs⟩; have HZI := Lib.hid hb; clear hb hs CZ v0 v1 v2))
        have HXI := Lib.hid ((HXG.out.keep HRH.out).below HZI.out (by omega))
        have HNI := Lib.hid ((HNG.out.keep HRH.out).below HZI.out (by omega))
        have HIH := Lib.hid (HIG.out.keep HRH.out)
        have HT1 := own_kept HIH.out.t HZI.out (fun x hx => by have := HBL.out.1 x hx; omega)
        have HT2 := own_kept HIH.out.p HZI.out (fun x hx => by have := HBL.out.2 x hx; omega)
        have HGI : Hid (Grew w wI) := Below.trans (grew_trans HGG.out HRH.out) (HZI.out.mono (by omega))
        have CK := keepBook_yes nx I1 I2 A1 A2 lt.length lp.length i1 i2 c1 c2 lt lp wI (own_form HT1).1 (own_form HT2).1 (HI.out.t.keep HGI.out) (HI.out.p.keep HGI.out) ⟨by omega, by omega⟩
        dsimp only [vBk] at CK
        clear HT1 HT2
        have nz0 : wI.cell? ⟨N, 0, none⟩ = some (.int .i64 nx) := HNI.out.at 0 _ rfl
        have nz1 : wI.cell? ⟨N, 1, none⟩ = some (.slice I1 lt.length i1) := HNI.out.at 1 _ rfl
        have nz2 : wI.cell? ⟨N, 2, none⟩ = some (.slice I2 lp.length i2) := HNI.out.at 2 _ rfl
        have x0 : wI.cell? ⟨w.heap.size, 0, none⟩ = some (.int .i64 nx) := HXI.out.at 0 _ rfl
        have x1 : wI.cell? ⟨w.heap.size, 1, none⟩ = some (.slice A1 lt.length c1) := HXI.out.at 1 _ rfl
        have x2 : wI.cell? ⟨w.heap.size, 2, none⟩ = some (.slice A2 lp.length c2) := HXI.out.at 2 _ rfl
        go_wp2_with (first
          | (go_at_call 20; ((with_reducible refine CK.mono ?_); rintro e wJ ⟨rfl, hg⟩; have HGJ := Lib.hid (grew_trans HGI.out hg); clear hg))
          | (go_at_call 23; ((with_reducible refine (CW _).mono ?_); rintro e wK ⟨rfl, hg⟩; have HGK := Lib.hid (grew_trans HGJ.out hg); clear hg)))
        go_ret
        exact ⟨rfl, HGK.out⟩
end Go.Proofs.Ytkbmiajgmnfpfaa.NumK
namespace Go.Proofs.Ytkbmiajgmnfpfaa.NumK
open Go.RowKit
set_option linter.unusedVariables false

theorem bookExact_row (w : World) {cs0 cs1 : Array Value} {b : Bk} {k : Int × Int} {A : Option Addr} {n c : Nat} {l : List Po} (h0 : spBk.rd w cs0.toList b) (h1 : spKey.rd w cs1.toList k) (h2 : RowE enPo w A n l) (hA : A = none → c = 0) :
    Calls Try.prog 3 #[.agg cs0, .agg cs1, .slice A n c] w fun e w' => e = .returned (.bool true) ∧ Grew w w' := by
  obtain ⟨A1, A2, n1, n2, c1, c2, e, h⟩ := book_of h0
  rw [e, key_of h1]
  exact bookExact_walk b k.1 k.2 l A1 A2 A n1 n2 n c1 c2 c w h h2 hA
end Go.Proofs.Ytkbmiajgmnfpfaa.NumK
namespace Go.Proofs.Ytkbmiajgmnfpfaa.bookExact
open Go.ChangeShapes Go.WideShapes Go.ChangeAt Go.RowKit
set_option linter.unusedVariables false

theorem own : ownKnob Try.prog.godebug = none := by kernel_rfl
theorem laidOut : laidOutB Try.prog = true := by kernel_rfl

set_option maxRecDepth 100000 in
theorem lifted (os : Os) (started : os.Started) (H : Type) (enc : TypeId × Value → H) :
    ReturnsInHanded {} Try.checked os 3 .any (Rows.bookExactSpec.pre6 enc Try.prog Try.f3 Rows.bookExactRow.domain false) (Rows.bookExactSpec.post enc Try.prog Try.f3 false true false false) := by
  refine returnsInHanded_of_change (C := Try.checked) own started (by kernel_rfl) Try.func3
    (ChangeSpec.witness6 (enc := enc) (C := Try.checked) false ⟨#[], #[.agg #[.int .i64 0, .slice none 0 0, .slice none 0 0], .agg #[.int .i64 0, .int .i64 0], .slice none 0 0], []⟩ 8 (by kernel_rfl) (by kernel_rfl) (by kernel_rfl) (by kernel_rfl)) ?_
  intro W base args ds gs before hval0 hW hcnd _
  have hval : ∀ (j : Nat) t v, Try.f3.params[j]? = some t → args[j]? = some v → Value.okWide Try.prog W .any base t v := hval0
  have hW' := hW
  obtain ⟨p, q, hA0, hV, rfl, hfz, hnd⟩ := hW
  have hA : DataW.TrodAll enc Try.prog W 0 (fun _ => true) true Try.f3.params.toList args.toList ds p := hA0
  skip
  rw [Try.params3] at hA hval
  obtain ⟨v0, vs0, d0, ds0, p0, q0, hargs, rfl, rfl, h0, r0⟩ := trodAll_cons hA
  obtain ⟨v1, vs1, d1, ds1, p1, q1, rfl, rfl, rfl, h1, r1⟩ := trodAll_cons r0
  obtain ⟨v2, vs2, d2, ds2, p2, q2, rfl, rfl, rfl, h2, r2⟩ := trodAll_cons r1
  obtain ⟨rfl, rfl, rfl⟩ := trodAll_nil r2
  obtain rfl : args = #[v0, v1, v2] := by cases args; simp_all
  obtain ⟨rfl, rfl⟩ := trodVars_none hV
  have k0 := h0
  have lt0 : ∀ x ∈ p0, x.block < W.heap.size := by obtain ⟨m, hm⟩ := k0; exact DataW.trod_lt m _ _ _ hm
  obtain ⟨cs0, x0, rfl, e0⟩ := NumK.arg_struct Try.underlying25 NumK.opens_book (hval 0 25 v0 rfl rfl) h0
  have k1 := h1
  have lt1 : ∀ x ∈ p1, x.block < W.heap.size := by obtain ⟨m, hm⟩ := k1; exact DataW.trod_lt m _ _ _ hm
  obtain ⟨cs1, x1, rfl, e1⟩ := NumK.arg_struct Try.underlying27 NumK.opens_key (hval 1 27 v1 rfl rfl) h1
  have k2 := h2
  have lt2 : ∀ x ∈ p2, x.block < W.heap.size := by obtain ⟨m, hm⟩ := k2; exact DataW.trod_lt m _ _ _ hm
  obtain ⟨A2, len2, cap2, l2, rfl, ro2, n2, c2, m2⟩ := NumK.arg_slice Try.underlying23 NumK.opens_poss (hval 2 23 v2 rfl rfl) h2
  clear hA0 hval0
  refine (NumK.bookExact_row W e0 e1 (NumK.poss_of ro2) n2).mono fun e W' ⟨he, bel⟩ => ?_
  subst he
  exact ⟨_, rfl, _, _, _, [], _, [], hW', trodAll_mk1 (shut_bool Try.underlying4 _), (trodAll_cons_mk (Below.trod laidOut (by kernel_rfl) (of_decide_eq_true (by kernel_rfl)) k0 bel lt0) (trodAll_cons_mk (Below.trod laidOut (by kernel_rfl) (of_decide_eq_true (by kernel_rfl)) k1 bel lt1) (trodAll_cons_mk (Below.trod laidOut (by kernel_rfl) (of_decide_eq_true (by kernel_rfl)) k2 bel lt2) trodAll_mk0))), rfl, bel.frame _, fun h => by cases h⟩

theorem over : Rows.bookExactRow.holds Try.pinned (OpenSpec.ofChange Rows.bookExactSpec) :=
  OpenClaim.holds_of_wide 3 Try.f3 rfl rfl rfl rfl rfl rfl rfl ⟨rfl, rfl, rfl, rfl, rfl⟩ rfl rfl rfl rfl rfl (by kernel_rfl) Try.func3 (by kernel_rfl)
    (of_decide_eq_true (by kernel_rfl)) (by unfold Func.isWrapper; first | (rw [if_pos (by decide +kernel)]; kernel_rfl) | (rw [if_neg (by decide +kernel)]; exact ⟨rfl, rfl⟩))
    (fun os started H enc _ => lifted os started H enc)

/-! ### the statement -/
theorem proved : Rows.BookExactSaid := over
end Go.Proofs.Ytkbmiajgmnfpfaa.bookExact
