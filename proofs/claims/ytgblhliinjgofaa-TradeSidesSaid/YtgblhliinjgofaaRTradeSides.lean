/-
  For every roll and trade: a trade that may be is between two active members in a listed instrument; with its sides changed it is told the same, and its legs change sides; rolls of more than 100 rows the statement lets by.
-/
import Derived.Test.YtgblhliinjgofaaRP
import Derived.Test.YtgblhliinjgofaaRT
import Derived.Test.YtgblhliinjgofaaRQ
import Derived.Deep.RegionHeld3
import Derived.Deep.CutBlock
import Derived.BigQuiet
import Derived.Test.YtgblhliinjgofaaRows
import Derived.WalkKit
import Derived.ProofKit
import Derived.OpenShut
import Derived.ShutString
import Derived.ChangeOld
import Derived.Below
import Derived.Carry
namespace Go.Proofs.Ytgblhliinjgofaa.NumK
open Go.RowKit
set_option linter.unusedVariables false

theorem tradeP_swap (r : Rl) (q1 q2 q3 q4 q5 q6 : Int) (q7 : Bool) : tradeP r ((q1, q3, q2, q4, q5, q6), q7) = tradeP r ((q1, q2, q3, q4, q5, q6), q7) := by
  unfold tradeP
  dsimp only
  have hs : sizedT ((q1, q3, q2, q4, q5, q6), q7) = sizedT ((q1, q2, q3, q4, q5, q6), q7) := rfl
  rw [hs, Bool.and_comm (hasL noMb r.1 q3)]
  by_cases h : q2 = q3
  · subst h; rfl
  · have h' : ¬ q3 = q2 := fun e => h e.symm
    simp only [h, h', if_false]
    by_cases h1 : (findL noMb mb0 r.1 q2).2.1 = 1 <;> by_cases h2 : (findL noMb mb0 r.1 q3).2.1 = 1 <;> simp only [h1, h2, if_true, if_false]
/-- Who trades is there, is another one, and active. -/
theorem tradeP_zero {r : Rl} {q1 q2 q3 q4 q5 q6 : Int} {q7 : Bool} (h : tradeP r ((q1, q2, q3, q4, q5, q6), q7) = 0) :
    q2 ≠ q3 ∧ hasL noMb r.1 q2 = true ∧ hasL noMb r.1 q3 = true ∧ hasL noIn r.2.1 q4 = true ∧ (findL noMb mb0 r.1 q2).2.1 = 1 ∧ (findL noMb mb0 r.1 q3).2.1 = 1 := by
  unfold tradeP at h
  dsimp only at h
  split at h
  · cases h
  · split at h
    · cases h
    · split at h
      · cases h
      · rename_i h3
        simp only [Bool.not_eq_false, Bool.and_eq_true] at h3
        split at h
        · cases h
        · rename_i h4
          split at h
          · rename_i h5
            split at h
            · rename_i h6
              exact ⟨h4, h3.2.1, h3.2.2, h3.1, h5, h6⟩
            · cases h
          · cases h
/-- The legs of a trade, and of the same with its sides changed. -/
theorem sides_at (q1 q2 q3 q4 q5 q6 : Int) (q7 : Bool) (h : sizedT ((q1, q2, q3, q4, q5, q6), q7) = true) :
    (-1048576 ≤ q5 ∧ q5 ≤ 1048576) ∧ legsT ((q1, q2, q3, q4, q5, q6), q7) false = [(q2, q4, q5, q5 * q6), (q3, q4, -q5, -q5 * q6)] ∧ legsT ((q1, q3, q2, q4, q5, q6), q7) false = [(q3, q4, q5, q5 * q6), (q2, q4, -q5, -q5 * q6)] := by
  have hI := (sizedT_iff _).1 h
  dsimp only at hI
  exact ⟨by omega, legs_yes h false, legs_yes (t := ((q1, q3, q2, q4, q5, q6), q7)) h false⟩

set_option maxRecDepth 100000 in
set_option maxHeartbeats 16000000 in
theorem tradeSides_walk (r : Rl) (t : Tr) (A1 A2 A3 : Option Addr) (n1 n2 n3 c1 c2 c3 : Nat) (w : World) (h : Rows3 w r A1 A2 A3 n1 n2 n3) :
    Calls Try.prog 6 #[rlV A1 A2 A3 n1 n2 n3 c1 c2 c3, vTr t] w fun e w' => e = .returned (.bool true) ∧ Grew w w' := by
  obtain ⟨⟨q1, q2, q3, q4, q5, q6⟩, q7⟩ := t
  have CH := fun w' (g : Grew w w') => heavy11_any A1 A2 A3 n1 n2 n3 c1 c2 c3 w'
  have HSG : Hid (Grew w ((w.alloc (.cells #[.slice A1 n1 c1, .slice A2 n2 c2, .slice A3 n3 c3] 26)).alloc (.cells #[.int .i64 q1, .int .i64 q2, .int .i64 q3, .int .i64 q4, .int .i64 q5, .int .i64 q6, .bool q7] 28))) := grew_trans (grew_alloc _ _ _) (grew_alloc _ _ _)
  have HSX : Hid (OwnC ((w.alloc (.cells #[.slice A1 n1 c1, .slice A2 n2 c2, .slice A3 n3 c3] 26)).alloc (.cells #[.int .i64 q1, .int .i64 q2, .int .i64 q3, .int .i64 q4, .int .i64 q5, .int .i64 q6, .bool q7] 28)) w.heap.size [.slice A1 n1 c1, .slice A2 n2 c2, .slice A3 n3 c3]) := (OwnC.new w [.slice A1 n1 c1, .slice A2 n2 c2, .slice A3 n3 c3] _ _ rfl).keep (grew_alloc _ _ _)
  have HST : Hid (OwnC ((w.alloc (.cells #[.slice A1 n1 c1, .slice A2 n2 c2, .slice A3 n3 c3] 26)).alloc (.cells #[.int .i64 q1, .int .i64 q2, .int .i64 q3, .int .i64 q4, .int .i64 q5, .int .i64 q6, .bool q7] 28)) (w.heap.size + 1) [.int .i64 q1, .int .i64 q2, .int .i64 q3, .int .i64 q4, .int .i64 q5, .int .i64 q6, .bool q7]) := OwnC.new _ [.int .i64 q1, .int .i64 q2, .int .i64 q3, .int .i64 q4, .int .i64 q5, .int .i64 q6, .bool q7] _ _ (by simp)
  have hH0 : w.heap.size < w.heap.size + 1 := by omega
  cases hv : heavyR n1 n2 n3 with
  | true =>
    rw [hv] at CH
    dsimp only [rlV, vTr] at CH ⊢
    clear h hv
    go_enter Try.func6, Try.ntmps6
    go_wp2_with (go_at_call 8; ((with_reducible refine (CH _ HSG.out).mono ?_); rintro e w1 ⟨rfl, hg⟩; have HG := Lib.hid (grew_trans HSG.out hg); clear hg CH))
    go_ret
    exact ⟨rfl, HG.out⟩
  | false =>
    rw [hv] at CH
    have hn : n1 ≤ 1000000 ∧ n2 ≤ 1000000 ∧ n3 ≤ 1000000 := by
      unfold heavyR at hv
      simp only [Bool.or_eq_false_iff, decide_eq_false_iff_not] at hv
      omega
    have HZ := Lib.hid (@tradeP_zero r q1 q2 q3 q4 q5 q6 q7)
    have CK := fun w' (g : Grew w w') => tcheck_any r ((q1, q2, q3, q4, q5, q6), q7) A1 A2 A3 n1 n2 n3 c1 c2 c3 w' (h.keep g) hn
    have CK2 := fun w' (g : Grew w w') => tcheck_any r ((q1, q3, q2, q4, q5, q6), q7) A1 A2 A3 n1 n2 n3 c1 c2 c3 w' (h.keep g) hn
    rw [tradeP_swap] at CK2
    have CI := fun w' (g : Grew w w') => rfindIn_any A1 A2 A3 n1 n2 n3 c1 c2 c3 r.2.1 q4 w' (h.i.keep g) hn.2.1
    have CA := fun w' (g : Grew w w') => rfindMb_any A1 A2 A3 n1 n2 n3 c1 c2 c3 r.1 q2 w' (h.m.keep g) hn.1
    have CB := fun w' (g : Grew w w') => rfindMb_any A1 A2 A3 n1 n2 n3 c1 c2 c3 r.1 q3 w' (h.m.keep g) hn.1
    have CL := fun w => legs12_any ((q1, q2, q3, q4, q5, q6), q7) w
    have CU := fun w => legs12_any ((q1, q3, q2, q4, q5, q6), q7) w
    have CW := fun w => wakes12_any w
    have HS := Lib.hid (sides_at q1 q2 q3 q4 q5 q6 q7)
    have HNO : Hid (sizedT ((q1, q2, q3, q4, q5, q6), q7) = false → legsT ((q1, q2, q3, q4, q5, q6), q7) false = [] ∧ legsT ((q1, q3, q2, q4, q5, q6), q7) false = []) := fun h => ⟨legs_no h false, legs_no (t := ((q1, q3, q2, q4, q5, q6), q7)) h false⟩
    unfold LegsPost at CL CU
    clear h hv
    generalize tradeP r ((q1, q2, q3, q4, q5, q6), q7) = V at *
    generalize sizedT ((q1, q2, q3, q4, q5, q6), q7) = SZ at *
    generalize legsT ((q1, q2, q3, q4, q5, q6), q7) false = lf at *
    generalize legsT ((q1, q3, q2, q4, q5, q6), q7) false = lu at *
    dsimp only [rlV, vTr] at CH CK CK2 CL CU ⊢
    generalize hasL noIn r.2.1 q4 = L at *
    generalize hasL noMb r.1 q2 = M1 at *
    generalize hasL noMb r.1 q3 = M2 at *
    generalize findL noIn in0 r.2.1 q4 = fi at *
    generalize findL noMb mb0 r.1 q2 = fa at *
    generalize findL noMb mb0 r.1 q3 = fb at *
    obtain ⟨⟨i1, i2, i3, i4, i5, i6⟩, ⟨j1, j2, j3, j4, j5, j6⟩⟩ := fi
    obtain ⟨a1, a2, a3⟩ := fa
    obtain ⟨b1, b2, b3⟩ := fb
    dsimp only [vIn, vMb] at CI CA CB HZ
    go_enter Try.func6, Try.ntmps6
    go_upto_region 7 with (first
      | (go_at_call 8; ((with_reducible refine (CH _ HSG.out).mono ?_); rintro e w1 ⟨rfl, hg⟩; have HHX0 := Lib.hid (HSX.out.keep hg); have HHT0 := Lib.hid (HST.out.keep hg); have HHG : Hid (Grew w w1) := grew_trans HSG.out hg; have HHX : Hid (OwnC w1 w.heap.size [.slice A1 n1 c1, .slice A2 n2 c2, .slice A3 n3 c3]) := HHX0.out; have HHT : Hid (OwnC w1 (w.heap.size + 1) [.int .i64 q1, .int .i64 q2, .int .i64 q3, .int .i64 q4, .int .i64 q5, .int .i64 q6, .bool q7]) := HHT0.out; have HHl0 : w.heap.size < w1.heap.size := HHX0.out.lt; have HHl1 : w.heap.size + 1 < w1.heap.size := HHT0.out.lt; have x0 : w1.cell? ⟨w.heap.size, 0, none⟩ = some (.slice A1 n1 c1) := HHX0.out.at 0 _ rfl; have x1 : w1.cell? ⟨w.heap.size, 1, none⟩ = some (.slice A2 n2 c2) := HHX0.out.at 1 _ rfl; have x2 : w1.cell? ⟨w.heap.size, 2, none⟩ = some (.slice A3 n3 c3) := HHX0.out.at 2 _ rfl; have t0 : w1.cell? ⟨w.heap.size + 1, 0, none⟩ = some (.int .i64 q1) := HHT0.out.at 0 _ rfl; have t1 : w1.cell? ⟨w.heap.size + 1, 1, none⟩ = some (.int .i64 q2) := HHT0.out.at 1 _ rfl; have t2 : w1.cell? ⟨w.heap.size + 1, 2, none⟩ = some (.int .i64 q3) := HHT0.out.at 2 _ rfl; have t3 : w1.cell? ⟨w.heap.size + 1, 3, none⟩ = some (.int .i64 q4) := HHT0.out.at 3 _ rfl; have t4 : w1.cell? ⟨w.heap.size + 1, 4, none⟩ = some (.int .i64 q5) := HHT0.out.at 4 _ rfl; have t5 : w1.cell? ⟨w.heap.size + 1, 5, none⟩ = some (.int .i64 q6) := HHT0.out.at 5 _ rfl; have t6 : w1.cell? ⟨w.heap.size + 1, 6, none⟩ = some (.bool q7) := HHT0.out.at 6 _ rfl; clear hg CH HHX0 HHT0))
      | (go_at_call 10; ((with_reducible refine (CK _ HHG.out).mono ?_); rintro e w2 ⟨rfl, hg⟩; have HKX0 := Lib.hid (HHX.out.keep hg); have HKT0 := Lib.hid (HHT.out.keep hg); have HKG : Hid (Grew w w2) := grew_trans HHG.out hg; have HKX : Hid (OwnC w2 w.heap.size [.slice A1 n1 c1, .slice A2 n2 c2, .slice A3 n3 c3]) := HKX0.out; have HKT : Hid (OwnC w2 (w.heap.size + 1) [.int .i64 q1, .int .i64 q2, .int .i64 q3, .int .i64 q4, .int .i64 q5, .int .i64 q6, .bool q7]) := HKT0.out; have HKl0 : w.heap.size < w2.heap.size := HKX0.out.lt; have HKl1 : w.heap.size + 1 < w2.heap.size := HKT0.out.lt; have x0 : w2.cell? ⟨w.heap.size, 0, none⟩ = some (.slice A1 n1 c1) := HKX0.out.at 0 _ rfl; have x1 : w2.cell? ⟨w.heap.size, 1, none⟩ = some (.slice A2 n2 c2) := HKX0.out.at 1 _ rfl; have x2 : w2.cell? ⟨w.heap.size, 2, none⟩ = some (.slice A3 n3 c3) := HKX0.out.at 2 _ rfl; have t0 : w2.cell? ⟨w.heap.size + 1, 0, none⟩ = some (.int .i64 q1) := HKT0.out.at 0 _ rfl; have t1 : w2.cell? ⟨w.heap.size + 1, 1, none⟩ = some (.int .i64 q2) := HKT0.out.at 1 _ rfl; have t2 : w2.cell? ⟨w.heap.size + 1, 2, none⟩ = some (.int .i64 q3) := HKT0.out.at 2 _ rfl; have t3 : w2.cell? ⟨w.heap.size + 1, 3, none⟩ = some (.int .i64 q4) := HKT0.out.at 3 _ rfl; have t4 : w2.cell? ⟨w.heap.size + 1, 4, none⟩ = some (.int .i64 q5) := HKT0.out.at 4 _ rfl; have t5 : w2.cell? ⟨w.heap.size + 1, 5, none⟩ = some (.int .i64 q6) := HKT0.out.at 5 _ rfl; have t6 : w2.cell? ⟨w.heap.size + 1, 6, none⟩ = some (.bool q7) := HKT0.out.at 6 _ rfl; clear hg CK HKX0 HKT0))
      | (go_at_call 21; ((with_reducible refine (CA _ HKG.out).mono ?_); rintro e w3 ⟨rfl, hg⟩; have HAX0 := Lib.hid (HKX.out.keep hg); have HAT0 := Lib.hid (HKT.out.keep hg); have HAG : Hid (Grew w (w3.alloc (.cells #[.int .i64 a1, .int .i64 a2, .int .i64 a3] 51))) := grew_trans (grew_trans HKG.out hg) (grew_alloc _ _ _); have HAX : Hid (OwnC (w3.alloc (.cells #[.int .i64 a1, .int .i64 a2, .int .i64 a3] 51)) w.heap.size [.slice A1 n1 c1, .slice A2 n2 c2, .slice A3 n3 c3]) := HAX0.out.keep (grew_alloc _ _ _); have HAT : Hid (OwnC (w3.alloc (.cells #[.int .i64 a1, .int .i64 a2, .int .i64 a3] 51)) (w.heap.size + 1) [.int .i64 q1, .int .i64 q2, .int .i64 q3, .int .i64 q4, .int .i64 q5, .int .i64 q6, .bool q7]) := HAT0.out.keep (grew_alloc _ _ _); have HAl0 : w.heap.size < w3.heap.size := HAX0.out.lt; have HAl1 : w.heap.size + 1 < w3.heap.size := HAT0.out.lt; have x0 : w3.cell? ⟨w.heap.size, 0, none⟩ = some (.slice A1 n1 c1) := HAX0.out.at 0 _ rfl; have x1 : w3.cell? ⟨w.heap.size, 1, none⟩ = some (.slice A2 n2 c2) := HAX0.out.at 1 _ rfl; have x2 : w3.cell? ⟨w.heap.size, 2, none⟩ = some (.slice A3 n3 c3) := HAX0.out.at 2 _ rfl; have t0 : w3.cell? ⟨w.heap.size + 1, 0, none⟩ = some (.int .i64 q1) := HAT0.out.at 0 _ rfl; have t1 : w3.cell? ⟨w.heap.size + 1, 1, none⟩ = some (.int .i64 q2) := HAT0.out.at 1 _ rfl; have t2 : w3.cell? ⟨w.heap.size + 1, 2, none⟩ = some (.int .i64 q3) := HAT0.out.at 2 _ rfl; have t3 : w3.cell? ⟨w.heap.size + 1, 3, none⟩ = some (.int .i64 q4) := HAT0.out.at 3 _ rfl; have t4 : w3.cell? ⟨w.heap.size + 1, 4, none⟩ = some (.int .i64 q5) := HAT0.out.at 4 _ rfl; have t5 : w3.cell? ⟨w.heap.size + 1, 5, none⟩ = some (.int .i64 q6) := HAT0.out.at 5 _ rfl; have t6 : w3.cell? ⟨w.heap.size + 1, 6, none⟩ = some (.bool q7) := HAT0.out.at 6 _ rfl; have HAM : Hid (OwnC (w3.alloc (.cells #[.int .i64 a1, .int .i64 a2, .int .i64 a3] 51)) w3.heap.size [.int .i64 a1, .int .i64 a2, .int .i64 a3]) := OwnC.new w3 [.int .i64 a1, .int .i64 a2, .int .i64 a3] _ _ rfl; clear hg CA HAX0 HAT0))
      | (go_at_call 21; ((with_reducible refine (CB _ HAG.out).mono ?_); rintro e w4 ⟨rfl, hg⟩; have HBX0 := Lib.hid (HAX.out.keep hg); have HBT0 := Lib.hid (HAT.out.keep hg); have HBG : Hid (Grew w (w4.alloc (.cells #[.int .i64 b1, .int .i64 b2, .int .i64 b3] 51))) := grew_trans (grew_trans HAG.out hg) (grew_alloc _ _ _); have HBX : Hid (OwnC (w4.alloc (.cells #[.int .i64 b1, .int .i64 b2, .int .i64 b3] 51)) w.heap.size [.slice A1 n1 c1, .slice A2 n2 c2, .slice A3 n3 c3]) := HBX0.out.keep (grew_alloc _ _ _); have HBT : Hid (OwnC (w4.alloc (.cells #[.int .i64 b1, .int .i64 b2, .int .i64 b3] 51)) (w.heap.size + 1) [.int .i64 q1, .int .i64 q2, .int .i64 q3, .int .i64 q4, .int .i64 q5, .int .i64 q6, .bool q7]) := HBT0.out.keep (grew_alloc _ _ _); have HBl0 : w.heap.size < w4.heap.size := HBX0.out.lt; have HBl1 : w.heap.size + 1 < w4.heap.size := HBT0.out.lt; have x0 : w4.cell? ⟨w.heap.size, 0, none⟩ = some (.slice A1 n1 c1) := HBX0.out.at 0 _ rfl; have x1 : w4.cell? ⟨w.heap.size, 1, none⟩ = some (.slice A2 n2 c2) := HBX0.out.at 1 _ rfl; have x2 : w4.cell? ⟨w.heap.size, 2, none⟩ = some (.slice A3 n3 c3) := HBX0.out.at 2 _ rfl; have t0 : w4.cell? ⟨w.heap.size + 1, 0, none⟩ = some (.int .i64 q1) := HBT0.out.at 0 _ rfl; have t1 : w4.cell? ⟨w.heap.size + 1, 1, none⟩ = some (.int .i64 q2) := HBT0.out.at 1 _ rfl; have t2 : w4.cell? ⟨w.heap.size + 1, 2, none⟩ = some (.int .i64 q3) := HBT0.out.at 2 _ rfl; have t3 : w4.cell? ⟨w.heap.size + 1, 3, none⟩ = some (.int .i64 q4) := HBT0.out.at 3 _ rfl; have t4 : w4.cell? ⟨w.heap.size + 1, 4, none⟩ = some (.int .i64 q5) := HBT0.out.at 4 _ rfl; have t5 : w4.cell? ⟨w.heap.size + 1, 5, none⟩ = some (.int .i64 q6) := HBT0.out.at 5 _ rfl; have t6 : w4.cell? ⟨w.heap.size + 1, 6, none⟩ = some (.bool q7) := HBT0.out.at 6 _ rfl; have HAM2 : Hid (OwnC (w4.alloc (.cells #[.int .i64 b1, .int .i64 b2, .int .i64 b3] 51)) w3.heap.size [.int .i64 a1, .int .i64 a2, .int .i64 a3]) := (HAM.out.keep hg).keep (grew_alloc _ _ _); have HBM : Hid (OwnC (w4.alloc (.cells #[.int .i64 b1, .int .i64 b2, .int .i64 b3] 51)) w4.heap.size [.int .i64 b1, .int .i64 b2, .int .i64 b3]) := OwnC.new w4 [.int .i64 b1, .int .i64 b2, .int .i64 b3] _ _ rfl; clear hg CB HBX0 HBT0))
      | (go_at_call 22; ((with_reducible refine (CI _ HBG.out).mono ?_); rintro e w5 ⟨rfl, hg⟩; have HIX0 := Lib.hid (HBX.out.keep hg); have HIT0 := Lib.hid (HBT.out.keep hg); have HIG : Hid (Grew w (w5.alloc (.cells #[.int .i64 i1, .int .i64 i2, .int .i64 i3, .int .i64 i4, .int .i64 i5, .int .i64 i6, .int .i64 j1, .int .i64 j2, .int .i64 j3, .int .i64 j4, .int .i64 j5, .int .i64 j6] 56))) := grew_trans (grew_trans HBG.out hg) (grew_alloc _ _ _); have HIX : Hid (OwnC (w5.alloc (.cells #[.int .i64 i1, .int .i64 i2, .int .i64 i3, .int .i64 i4, .int .i64 i5, .int .i64 i6, .int .i64 j1, .int .i64 j2, .int .i64 j3, .int .i64 j4, .int .i64 j5, .int .i64 j6] 56)) w.heap.size [.slice A1 n1 c1, .slice A2 n2 c2, .slice A3 n3 c3]) := HIX0.out.keep (grew_alloc _ _ _); have HIT : Hid (OwnC (w5.alloc (.cells #[.int .i64 i1, .int .i64 i2, .int .i64 i3, .int .i64 i4, .int .i64 i5, .int .i64 i6, .int .i64 j1, .int .i64 j2, .int .i64 j3, .int .i64 j4, .int .i64 j5, .int .i64 j6] 56)) (w.heap.size + 1) [.int .i64 q1, .int .i64 q2, .int .i64 q3, .int .i64 q4, .int .i64 q5, .int .i64 q6, .bool q7]) := HIT0.out.keep (grew_alloc _ _ _); have HIl0 : w.heap.size < w5.heap.size := HIX0.out.lt; have HIl1 : w.heap.size + 1 < w5.heap.size := HIT0.out.lt; have x0 : w5.cell? ⟨w.heap.size, 0, none⟩ = some (.slice A1 n1 c1) := HIX0.out.at 0 _ rfl; have x1 : w5.cell? ⟨w.heap.size, 1, none⟩ = some (.slice A2 n2 c2) := HIX0.out.at 1 _ rfl; have x2 : w5.cell? ⟨w.heap.size, 2, none⟩ = some (.slice A3 n3 c3) := HIX0.out.at 2 _ rfl; have t0 : w5.cell? ⟨w.heap.size + 1, 0, none⟩ = some (.int .i64 q1) := HIT0.out.at 0 _ rfl; have t1 : w5.cell? ⟨w.heap.size + 1, 1, none⟩ = some (.int .i64 q2) := HIT0.out.at 1 _ rfl; have t2 : w5.cell? ⟨w.heap.size + 1, 2, none⟩ = some (.int .i64 q3) := HIT0.out.at 2 _ rfl; have t3 : w5.cell? ⟨w.heap.size + 1, 3, none⟩ = some (.int .i64 q4) := HIT0.out.at 3 _ rfl; have t4 : w5.cell? ⟨w.heap.size + 1, 4, none⟩ = some (.int .i64 q5) := HIT0.out.at 4 _ rfl; have t5 : w5.cell? ⟨w.heap.size + 1, 5, none⟩ = some (.int .i64 q6) := HIT0.out.at 5 _ rfl; have t6 : w5.cell? ⟨w.heap.size + 1, 6, none⟩ = some (.bool q7) := HIT0.out.at 6 _ rfl; have HAM3 : Hid (OwnC (w5.alloc (.cells #[.int .i64 i1, .int .i64 i2, .int .i64 i3, .int .i64 i4, .int .i64 i5, .int .i64 i6, .int .i64 j1, .int .i64 j2, .int .i64 j3, .int .i64 j4, .int .i64 j5, .int .i64 j6] 56)) w3.heap.size [.int .i64 a1, .int .i64 a2, .int .i64 a3]) := (HAM2.out.keep hg).keep (grew_alloc _ _ _); have HBM3 : Hid (OwnC (w5.alloc (.cells #[.int .i64 i1, .int .i64 i2, .int .i64 i3, .int .i64 i4, .int .i64 i5, .int .i64 i6, .int .i64 j1, .int .i64 j2, .int .i64 j3, .int .i64 j4, .int .i64 j5, .int .i64 j6] 56)) w4.heap.size [.int .i64 b1, .int .i64 b2, .int .i64 b3]) := (HBM.out.keep hg).keep (grew_alloc _ _ _); clear hg CI HIX0 HIT0)))
    generalize w5.alloc (.cells #[.int .i64 i1, .int .i64 i2, .int .i64 i3, .int .i64 i4, .int .i64 i5, .int .i64 i6, .int .i64 j1, .int .i64 j2, .int .i64 j3, .int .i64 j4, .int .i64 j5, .int .i64 j6] 56) = w6 at *
    have NA := HAM3.out.lt
    clear HAG HAX HAT HAM HBG HBX HBT HAM2 HBM HKX HKT HKG HHX HHT HHG HSX HST HSG
    have t1 : w6.cell? ⟨w.heap.size + 1, 1, none⟩ = some (.int .i64 q2) := HIT.out.at 1 _ rfl
    have t2 : w6.cell? ⟨w.heap.size + 1, 2, none⟩ = some (.int .i64 q3) := HIT.out.at 2 _ rfl
    have am : w6.cell? ⟨w3.heap.size, 1, none⟩ = some (.int .i64 a2) := HAM3.out.at 1 _ rfl
    have bm : w6.cell? ⟨w4.heap.size, 1, none⟩ = some (.int .i64 b2) := HBM3.out.at 1 _ rfl
    have hG6 := Lib.hid (fun w' => @OwnC.keep w6 w')
    clear HAM3 HBM3 NA HHl0 HHl1 HKl0 HKl1 HAl0 HAl1 HBl0 HBl1 HIl0 HIl1
    generalize w3.heap.size = NA at *
    generalize w4.heap.size = NB at *
    by_cases hV : V = 0
    case' pos =>
      obtain ⟨hne, rfl, rfl, rfl, rfl, rfl⟩ := HZ.out hV
      have hne2 : (q2 == q3) = false := by simp [hne]
      have hV2 : (V == 0) = true := by simp [hV]
    case' neg =>
      have hV2 : (V == 0) = false := by simp [hV]
    all_goals (
      clear HZ
      go_upto_region 9 with fail
      have s0 : w6.cell? ⟨w.heap.size + 1, 0, none⟩ = some (.int .i64 q1) := HIT.out.at 0 _ rfl
      have s3 : w6.cell? ⟨w.heap.size + 1, 3, none⟩ = some (.int .i64 q4) := HIT.out.at 3 _ rfl
      have s4 : w6.cell? ⟨w.heap.size + 1, 4, none⟩ = some (.int .i64 q5) := HIT.out.at 4 _ rfl
      have s5 : w6.cell? ⟨w.heap.size + 1, 5, none⟩ = some (.int .i64 q6) := HIT.out.at 5 _ rfl
      have s6 : w6.cell? ⟨w.heap.size + 1, 6, none⟩ = some (.bool q7) := HIT.out.at 6 _ rfl
      go_upto_region 10 with fail
      have HU7 : Hid (OwnC (w6.alloc (.cells #[.int .i64 q1, .int .i64 q2, .int .i64 q3, .int .i64 q4, .int .i64 q5, .int .i64 q6, .bool q7] 28)) w6.heap.size [.int .i64 q1, .int .i64 q2, .int .i64 q3, .int .i64 q4, .int .i64 q5, .int .i64 q6, .bool q7]) := OwnC.new w6 [.int .i64 q1, .int .i64 q2, .int .i64 q3, .int .i64 q4, .int .i64 q5, .int .i64 q6, .bool q7] _ _ rfl
      have HT7 : Hid (OwnC (w6.alloc (.cells #[.int .i64 q1, .int .i64 q2, .int .i64 q3, .int .i64 q4, .int .i64 q5, .int .i64 q6, .bool q7] 28)) (w.heap.size + 1) [.int .i64 q1, .int .i64 q2, .int .i64 q3, .int .i64 q4, .int .i64 q5, .int .i64 q6, .bool q7]) := HIT.out.keep (grew_alloc _ _ _)
      have HX7 : Hid (OwnC (w6.alloc (.cells #[.int .i64 q1, .int .i64 q2, .int .i64 q3, .int .i64 q4, .int .i64 q5, .int .i64 q6, .bool q7] 28)) w.heap.size [.slice A1 n1 c1, .slice A2 n2 c2, .slice A3 n3 c3]) := HIX.out.keep (grew_alloc _ _ _)
      have HG7 : Hid (Grew w (w6.alloc (.cells #[.int .i64 q1, .int .i64 q2, .int .i64 q3, .int .i64 q4, .int .i64 q5, .int .i64 q6, .bool q7] 28))) := grew_trans HIG.out (grew_alloc _ _ _)
      have hTU : w.heap.size + 1 < w6.heap.size := HIT.out.lt
      have hGU := Lib.hid HIG.out.size
      generalize (w6.alloc (.cells #[.int .i64 q1, .int .i64 q2, .int .i64 q3, .int .i64 q4, .int .i64 q5, .int .i64 q6, .bool q7] 28)) = w7 at *
      generalize w6.heap.size = NU at *
      have t1 : w7.cell? ⟨w.heap.size + 1, 1, none⟩ = some (.int .i64 q2) := HT7.out.at 1 _ rfl
      have t2 : w7.cell? ⟨w.heap.size + 1, 2, none⟩ = some (.int .i64 q3) := HT7.out.at 2 _ rfl
      have u1 : w7.cell? ⟨NU, 1, none⟩ = some (.int .i64 q2) := HU7.out.at 1 _ rfl
      have u2 : w7.cell? ⟨NU, 2, none⟩ = some (.int .i64 q3) := HU7.out.at 2 _ rfl
      have uf1 : w7.frozen? ⟨NU, 1, none⟩ = false := HU7.out.fr 1 (by show 1 < 7; decide)
      have uf2 : w7.frozen? ⟨NU, 2, none⟩ = false := HU7.out.fr 2 (by show 2 < 7; decide)
      have hne3 : ¬ NU = w.heap.size + 1 := by omega
      have HU8 : Hid (OwnC ((w7.setCell ⟨NU, 1, none⟩ (.int .i64 q3)).setCell ⟨NU, 2, none⟩ (.int .i64 q2)).drew NU [.int .i64 q1, .int .i64 q3, .int .i64 q2, .int .i64 q4, .int .i64 q5, .int .i64 q6, .bool q7]) := ((HU7.out.set 1 (.int .i64 q3) (by show 1 < 7; decide)).set 2 (.int .i64 q2) (by show 2 < 7; decide)).drew
      have HT8 : Hid (OwnC ((w7.setCell ⟨NU, 1, none⟩ (.int .i64 q3)).setCell ⟨NU, 2, none⟩ (.int .i64 q2)).drew (w.heap.size + 1) [.int .i64 q1, .int .i64 q2, .int .i64 q3, .int .i64 q4, .int .i64 q5, .int .i64 q6, .bool q7]) := ((HT7.out.other ⟨NU, 1, none⟩ (.int .i64 q3) (by show NU ≠ _; omega)).other ⟨NU, 2, none⟩ (.int .i64 q2) (by show NU ≠ _; omega)).drew
      have HX8 : Hid (OwnC ((w7.setCell ⟨NU, 1, none⟩ (.int .i64 q3)).setCell ⟨NU, 2, none⟩ (.int .i64 q2)).drew w.heap.size [.slice A1 n1 c1, .slice A2 n2 c2, .slice A3 n3 c3]) := ((HX7.out.other ⟨NU, 1, none⟩ (.int .i64 q3) (by show NU ≠ _; omega)).other ⟨NU, 2, none⟩ (.int .i64 q2) (by show NU ≠ _; omega)).drew
      have HG8 : Hid (Grew w ((w7.setCell ⟨NU, 1, none⟩ (.int .i64 q3)).setCell ⟨NU, 2, none⟩ (.int .i64 q2)).drew) := grew_drew (grew_set (grew_set HG7.out (p := ⟨NU, 1, none⟩) _ hGU.out) (p := ⟨NU, 2, none⟩) _ hGU.out)
      clear HIX HIT HIG
      go_region
      clear t1 t2 u1 u2 uf1 uf2 HU7 HT7 HX7 HG7 hGU
      generalize ((w7.setCell ⟨NU, 1, none⟩ (.int .i64 q3)).setCell ⟨NU, 2, none⟩ (.int .i64 q2)).drew = w8 at *
      have x0 : w8.cell? ⟨w.heap.size, 0, none⟩ = some (.slice A1 n1 c1) := HX8.out.at 0 _ rfl
      have x1 : w8.cell? ⟨w.heap.size, 1, none⟩ = some (.slice A2 n2 c2) := HX8.out.at 1 _ rfl
      have x2 : w8.cell? ⟨w.heap.size, 2, none⟩ = some (.slice A3 n3 c3) := HX8.out.at 2 _ rfl
      have y0 : w8.cell? ⟨NU, 0, none⟩ = some (.int .i64 q1) := HU8.out.at 0 _ rfl
      have y1 : w8.cell? ⟨NU, 1, none⟩ = some (.int .i64 q3) := HU8.out.at 1 _ rfl
      have y2 : w8.cell? ⟨NU, 2, none⟩ = some (.int .i64 q2) := HU8.out.at 2 _ rfl
      have y3 : w8.cell? ⟨NU, 3, none⟩ = some (.int .i64 q4) := HU8.out.at 3 _ rfl
      have y4 : w8.cell? ⟨NU, 4, none⟩ = some (.int .i64 q5) := HU8.out.at 4 _ rfl
      have y5 : w8.cell? ⟨NU, 5, none⟩ = some (.int .i64 q6) := HU8.out.at 5 _ rfl
      have y6 : w8.cell? ⟨NU, 6, none⟩ = some (.bool q7) := HU8.out.at 6 _ rfl
      have hVV : (V != V) = false := by simp
      go_upto_region 13 with (go_at_call 10; ((with_reducible refine (CK2 _ HG8.out).mono ?_); rintro e w9 ⟨rfl, hg⟩; have HU9 := Lib.hid (HU8.out.keep hg); have HT9 := Lib.hid (HT8.out.keep hg); have HG9 := Lib.hid (grew_trans HG8.out hg); clear hg CK2 HU8 HT8 HX8 HG8))
      have HK : Hid (∀ w', Grew w9 w' → (w'.cell? ⟨w.heap.size + 1, 0, none⟩ = some (.int .i64 q1) ∧ w'.cell? ⟨w.heap.size + 1, 1, none⟩ = some (.int .i64 q2) ∧ w'.cell? ⟨w.heap.size + 1, 2, none⟩ = some (.int .i64 q3) ∧ w'.cell? ⟨w.heap.size + 1, 3, none⟩ = some (.int .i64 q4) ∧ w'.cell? ⟨w.heap.size + 1, 4, none⟩ = some (.int .i64 q5) ∧ w'.cell? ⟨w.heap.size + 1, 5, none⟩ = some (.int .i64 q6) ∧ w'.cell? ⟨w.heap.size + 1, 6, none⟩ = some (.bool q7) ∧ w'.cell? ⟨NU, 0, none⟩ = some (.int .i64 q1) ∧ w'.cell? ⟨NU, 1, none⟩ = some (.int .i64 q3) ∧ w'.cell? ⟨NU, 2, none⟩ = some (.int .i64 q2) ∧ w'.cell? ⟨NU, 3, none⟩ = some (.int .i64 q4) ∧ w'.cell? ⟨NU, 4, none⟩ = some (.int .i64 q5) ∧ w'.cell? ⟨NU, 5, none⟩ = some (.int .i64 q6) ∧ w'.cell? ⟨NU, 6, none⟩ = some (.bool q7))) := fun w' g => ⟨(HT9.out.keep g).at 0 _ rfl, (HT9.out.keep g).at 1 _ rfl, (HT9.out.keep g).at 2 _ rfl, (HT9.out.keep g).at 3 _ rfl, (HT9.out.keep g).at 4 _ rfl, (HT9.out.keep g).at 5 _ rfl, (HT9.out.keep g).at 6 _ rfl, (HU9.out.keep g).at 0 _ rfl, (HU9.out.keep g).at 1 _ rfl, (HU9.out.keep g).at 2 _ rfl, (HU9.out.keep g).at 3 _ rfl, (HU9.out.keep g).at 4 _ rfl, (HU9.out.keep g).at 5 _ rfl, (HU9.out.keep g).at 6 _ rfl⟩
      go_region_held3 (fun w' => w'.cell? ⟨w.heap.size + 1, 0, none⟩ = some (.int .i64 q1) ∧ w'.cell? ⟨w.heap.size + 1, 1, none⟩ = some (.int .i64 q2) ∧ w'.cell? ⟨w.heap.size + 1, 2, none⟩ = some (.int .i64 q3) ∧ w'.cell? ⟨w.heap.size + 1, 3, none⟩ = some (.int .i64 q4) ∧ w'.cell? ⟨w.heap.size + 1, 4, none⟩ = some (.int .i64 q5) ∧ w'.cell? ⟨w.heap.size + 1, 5, none⟩ = some (.int .i64 q6) ∧ w'.cell? ⟨w.heap.size + 1, 6, none⟩ = some (.bool q7) ∧ w'.cell? ⟨NU, 0, none⟩ = some (.int .i64 q1) ∧ w'.cell? ⟨NU, 1, none⟩ = some (.int .i64 q3) ∧ w'.cell? ⟨NU, 2, none⟩ = some (.int .i64 q2) ∧ w'.cell? ⟨NU, 3, none⟩ = some (.int .i64 q4) ∧ w'.cell? ⟨NU, 4, none⟩ = some (.int .i64 q5) ∧ w'.cell? ⟨NU, 5, none⟩ = some (.int .i64 q6) ∧ w'.cell? ⟨NU, 6, none⟩ = some (.bool q7))
        (first
          | (with_reducible exact HK.out _ (grew_drew (grew_refl _)))
          | (with_reducible exact HK.out _ HG11.out)
          | (with_reducible exact HK.out _ HG10.out))
        (first
          | (go_at_call 13; ((with_reducible refine (CL _).mono ?_); rintro e w10 ⟨B1, d1, rfl, ho, hg⟩; have HG10 : Hid (Grew w9 w10) := grew_trans (grew_drew (grew_refl _)) hg; have HR1 := Lib.hid (own_form ho).1; clear ho hg CL))
          | (go_at_call 13; ((with_reducible refine (CU _).mono ?_); rintro e w11 ⟨B2, d2, rfl, ho, hg⟩; have HG11 : Hid (Grew w9 w11) := grew_trans HG10.out hg; have HR2 := Lib.hid (own_form ho).1; have HR1 := Lib.hid (HR1.out.keep hg); clear ho hg CU)))
      have HGA : Hid (Grew w w11) := grew_trans HG9.out HG11.out
      clear HK HG9 HG10 HG11 HT9 HU9
      cases SZ
      · obtain ⟨rfl, rfl⟩ := HNO.out rfl
        clear HS HNO HR1 HR2
        go_wp2
        go_loopw [15] (fun vi wr => vi = .int .i64 0 ∧ Hid (Grew w11 wr)) (fun vi _ => 1)
        case atStart => exact ⟨rfl, grew_refl _⟩
        case round =>
          obtain ⟨rfl, HGR⟩ := hrel
          have HGL := Lib.hid (grew_trans HGA.out HGR.out)
          go_wp2_with (go_at_call 18; ((with_reducible refine (CW _).mono ?_); rintro e w12 ⟨rfl, hg⟩; have HGW := Lib.hid (grew_trans HGL.out hg); clear hg))
          go_ret
          exact ⟨rfl, HGW.out⟩
      · obtain ⟨⟨bq1, bq2⟩, rfl, rfl⟩ := HS.out rfl
        clear HS HNO
        go_wp2
        go_loopw [15] (fun vi wr => ∃ j : Nat, vi = .int .i64 j ∧ j ≤ 2 ∧ Hid (Grew w11 wr)) (fun vi _ => 2 - (intOf vi).toNat)
        case atStart => exact ⟨0, rfl, by omega, grew_refl _⟩
        case round =>
          obtain ⟨j, rfl, hj, HGR⟩ := hrel
          have HGL := Lib.hid (grew_trans HGA.out HGR.out)
          have hj3 : j = 0 ∨ j = 1 ∨ j = 2 := by omega
          obtain ⟨g1, o1, rfl, hb1, hc1⟩ := (HR1.out.keep HGR.out).po (j := 0) (by show 0 < 2; omega)
          obtain ⟨g2, o2, rfl, hb2, hc2⟩ := (HR2.out.keep HGR.out).po (j := 0) (by show 0 < 2; omega)
          clear hb1 hb2 HR1 HR2 hj
          replace hc1 : ∀ i, i < 2 → CPo wr g1 (o1 + i * 4) _ := hc1
          replace hc2 : ∀ i, i < 2 → CPo wr g2 (o2 + i * 4) _ := hc2
          rcases hj3 with rfl | rfl | rfl
          · have l0 : wr.cell? ⟨g1, o1, none⟩ = some (.int .i64 q2) := (hc1 0 (by omega)).1
            have l2 : wr.cell? ⟨g1, o1 + 2, none⟩ = some (.int .i64 (q5)) := (hc1 0 (by omega)).2.2.1
            have k0 : wr.cell? ⟨g2, o2 + 4, none⟩ = some (.int .i64 q2) := (hc2 1 (by omega)).1
            have k2 : wr.cell? ⟨g2, o2 + 6, none⟩ = some (.int .i64 (-q5)) := (hc2 1 (by omega)).2.2.1
            have en0 : (q2 != q2) = false := by simp
            have en1 : (q5 != q5) = false := by simp
            have en2 : (-q5 != -q5) = false := by simp
            clear hc1 hc2
            go_upto_region 17 with fail
            go_quiet (fail)
            go_wp2
            go_roundw
            case rel => exact ⟨1, by go_num, by omega, grew_drewN HGR.out _⟩
            case measure => simp only [intOf]; omega
          · have l0 : wr.cell? ⟨g1, o1 + 4, none⟩ = some (.int .i64 q3) := (hc1 1 (by omega)).1
            have l2 : wr.cell? ⟨g1, o1 + 6, none⟩ = some (.int .i64 (-q5)) := (hc1 1 (by omega)).2.2.1
            have k0 : wr.cell? ⟨g2, o2, none⟩ = some (.int .i64 q3) := (hc2 0 (by omega)).1
            have k2 : wr.cell? ⟨g2, o2 + 2, none⟩ = some (.int .i64 (q5)) := (hc2 0 (by omega)).2.2.1
            have en0 : (q3 != q3) = false := by simp
            have en1 : (q5 != q5) = false := by simp
            have en2 : (-q5 != -q5) = false := by simp
            clear hc1 hc2
            go_upto_region 17 with fail
            go_quiet (fail)
            go_wp2
            go_roundw
            case rel => exact ⟨2, by go_num, by omega, grew_drewN HGR.out _⟩
            case measure => simp only [intOf]; omega
          · clear hc1 hc2
            go_wp2_with (go_at_call 18; ((with_reducible refine (CW _).mono ?_); rintro e w12 ⟨rfl, hg⟩; have HGW := Lib.hid (grew_trans HGL.out hg); clear hg))
            go_ret
            exact ⟨rfl, HGW.out⟩)
end Go.Proofs.Ytgblhliinjgofaa.NumK
namespace Go.Proofs.Ytgblhliinjgofaa.NumK
open Go.RowKit
set_option linter.unusedVariables false

theorem tradeSides_row (w : World) {cs0 cs1 : Array Value} {r : Rl} {t : Tr} (h0 : spRl.rd w cs0.toList r) (h1 : spTr.rd w cs1.toList t) :
    Calls Try.prog 6 #[.agg cs0, .agg cs1] w fun e w' => e = .returned (.bool true) ∧ Grew w w' := by
  obtain ⟨A1, A2, A3, n1, n2, n3, c1, c2, c3, e, h⟩ := roll_of h0
  rw [e, tr_of h1]
  exact tradeSides_walk r t A1 A2 A3 n1 n2 n3 c1 c2 c3 w h.rows
end Go.Proofs.Ytgblhliinjgofaa.NumK
namespace Go.Proofs.Ytgblhliinjgofaa.tradeSides
open Go.ChangeShapes Go.WideShapes Go.ChangeAt Go.RowKit
set_option linter.unusedVariables false

theorem own : ownKnob Try.prog.godebug = none := by kernel_rfl
theorem laidOut : laidOutB Try.prog = true := by kernel_rfl

set_option maxRecDepth 100000 in
theorem lifted (os : Os) (started : os.Started) (H : Type) (enc : TypeId × Value → H) :
    ReturnsInHanded {} Try.checked os 6 .any (Rows.tradeSidesSpec.pre6 enc Try.prog Try.f6 Rows.tradeSidesRow.domain false) (Rows.tradeSidesSpec.post enc Try.prog Try.f6 false true false false) := by
  refine returnsInHanded_of_change (C := Try.checked) own started (by kernel_rfl) Try.func6
    (ChangeSpec.witness6 (enc := enc) (C := Try.checked) false ⟨#[], #[.agg #[.slice none 0 0, .slice none 0 0, .slice none 0 0], .agg #[.int .i64 0, .int .i64 0, .int .i64 0, .int .i64 0, .int .i64 0, .int .i64 0, .bool false]], []⟩ 8 (by kernel_rfl) (by kernel_rfl) (by kernel_rfl) (by kernel_rfl)) ?_
  intro W base args ds gs before hval0 hW hcnd _
  have hval : ∀ (j : Nat) t v, Try.f6.params[j]? = some t → args[j]? = some v → Value.okWide Try.prog W .any base t v := hval0
  have hW' := hW
  obtain ⟨p, q, hA0, hV, rfl, hfz, hnd⟩ := hW
  have hA : DataW.TrodAll enc Try.prog W 0 (fun _ => true) true Try.f6.params.toList args.toList ds p := hA0
  skip
  rw [Try.params6] at hA hval
  obtain ⟨v0, vs0, d0, ds0, p0, q0, hargs, rfl, rfl, h0, r0⟩ := trodAll_cons hA
  obtain ⟨v1, vs1, d1, ds1, p1, q1, rfl, rfl, rfl, h1, r1⟩ := trodAll_cons r0
  obtain ⟨rfl, rfl, rfl⟩ := trodAll_nil r1
  obtain rfl : args = #[v0, v1] := by cases args; simp_all
  obtain ⟨rfl, rfl⟩ := trodVars_none hV
  have k0 := h0
  have lt0 : ∀ x ∈ p0, x.block < W.heap.size := by obtain ⟨m, hm⟩ := k0; exact DataW.trod_lt m _ _ _ hm
  obtain ⟨cs0, x0, rfl, e0⟩ := NumK.arg_struct Try.underlying26 NumK.opens_roll (hval 0 26 v0 rfl rfl) h0
  have k1 := h1
  have lt1 : ∀ x ∈ p1, x.block < W.heap.size := by obtain ⟨m, hm⟩ := k1; exact DataW.trod_lt m _ _ _ hm
  obtain ⟨cs1, x1, rfl, e1⟩ := NumK.arg_struct Try.underlying28 NumK.opens_trade (hval 1 28 v1 rfl rfl) h1
  clear hA0 hval0
  refine (NumK.tradeSides_row W e0 e1).mono fun e W' ⟨he, bel⟩ => ?_
  subst he
  exact ⟨_, rfl, _, _, _, [], _, [], hW', trodAll_mk1 (shut_bool Try.underlying4 _), (trodAll_cons_mk (Below.trod laidOut (by kernel_rfl) (of_decide_eq_true (by kernel_rfl)) k0 bel lt0) (trodAll_cons_mk (Below.trod laidOut (by kernel_rfl) (of_decide_eq_true (by kernel_rfl)) k1 bel lt1) trodAll_mk0)), rfl, bel.frame _, fun h => by cases h⟩

theorem over : Rows.tradeSidesRow.holds Try.pinned (OpenSpec.ofChange Rows.tradeSidesSpec) :=
  OpenClaim.holds_of_wide 6 Try.f6 rfl rfl rfl rfl rfl rfl rfl ⟨rfl, rfl, rfl, rfl, rfl⟩ rfl rfl rfl rfl rfl (by kernel_rfl) Try.func6 (by kernel_rfl)
    (of_decide_eq_true (by kernel_rfl)) (by unfold Func.isWrapper; first | (rw [if_pos (by decide +kernel)]; kernel_rfl) | (rw [if_neg (by decide +kernel)]; exact ⟨rfl, rfl⟩))
    (fun os started H enc _ => lifted os started H enc)

/-! ### the statement -/
theorem proved : Rows.TradeSidesSaid := over
end Go.Proofs.Ytgblhliinjgofaa.tradeSides
