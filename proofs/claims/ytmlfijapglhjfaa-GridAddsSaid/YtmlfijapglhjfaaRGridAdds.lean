/-
  For every roll, key and quantity: the margin of one position is the greatest loss of a piece, or 0, and its add-on, times the pieces, and nothing needs nothing; rolls of more than 100 rows and quantities beyond 2^20 the statement lets by.
-/
import Derived.Test.YtmlfijapglhjfaaRG15
import Derived.Test.YtmlfijapglhjfaaRG17
import Derived.Test.YtmlfijapglhjfaaRG3
import Derived.BigQuiet
import Derived.Deep.CutBlock
import Derived.Test.YtmlfijapglhjfaaRows
import Derived.WalkKit
import Derived.ProofKit
import Derived.OpenShut
import Derived.ShutString
import Derived.ChangeOld
import Derived.Below
import Derived.Carry
namespace Go.Proofs.Ytmlfijapglhjfaa.NumK
open Go.RowKit
set_option linter.unusedVariables false

set_option maxRecDepth 100000 in
set_option maxHeartbeats 8000000 in
theorem gridAdds_walk (r : Rl) (A1 A2 A3 : Option Addr) (n1 n2 n3 c1 c2 c3 : Nat) (k1 k2 q : Int) (w : World) (h3 : In3 w r A1 A2 A3 n1 n2 n3 c1 c2 c3)  :
    Calls Try.prog 7 #[rlV A1 A2 A3 n1 n2 n3 c1 c2 c3, .agg #[.int .i64 k1, .int .i64 k2], .int .i64 q] w fun e w' => e = .returned (.bool true) ∧ Grew w w' := by
  have CH := fun w' => heavy11_any A1 A2 A3 n1 n2 n3 c1 c2 c3 w'
  have CV := fun w' => wakes15_any w'
  have hH : heavyR n1 n2 n3 = false → n1 ≤ 100 ∧ n2 ≤ 100 ∧ n3 ≤ 100 := by unfold heavyR; simp
  have HHH := Lib.hid hH
  clear hH
  generalize heavyR n1 n2 n3 = HH at *
  have HR0 : Hid (OwnC ((w.alloc (.cells #[.slice A1 n1 c1, .slice A2 n2 c2, .slice A3 n3 c3] 26)).alloc (.cells #[.int .i64 k1, .int .i64 k2] 44)) w.heap.size [.slice A1 n1 c1, .slice A2 n2 c2, .slice A3 n3 c3]) := (OwnC.new w [.slice A1 n1 c1, .slice A2 n2 c2, .slice A3 n3 c3] _ _ rfl).keep (grew_alloc _ _ _)
  have HK0 : Hid (OwnC ((w.alloc (.cells #[.slice A1 n1 c1, .slice A2 n2 c2, .slice A3 n3 c3] 26)).alloc (.cells #[.int .i64 k1, .int .i64 k2] 44)) (w.heap.size + 1) [.int .i64 k1, .int .i64 k2]) := OwnC.new _ [.int .i64 k1, .int .i64 k2] _ _ (by simp)
  have HG0 : Hid (Grew w ((w.alloc (.cells #[.slice A1 n1 c1, .slice A2 n2 c2, .slice A3 n3 c3] 26)).alloc (.cells #[.int .i64 k1, .int .i64 k2] 44))) := grew_trans (grew_alloc _ _ _) (grew_alloc _ _ _)
  dsimp only [rlV] at CH ⊢
  cases HH
  · have hn := HHH.out rfl
    have hn3 : n1 ≤ 1000000 ∧ n2 ≤ 1000000 ∧ n3 ≤ 1000000 := by omega
    clear HHH
    by_cases hqa : -1048576 ≤ q
    · by_cases hqb : q ≤ 1048576
      · have hq : q.natAbs ≤ 1048576 := by omega
        have hqa' : ¬ q < -1048576 := by omega
        have hqb' : ¬ 1048576 < q := by omega
        have C1 := fun b w' (g : Grew w w') (h5 : RowE enPo w' (some ⟨b, 0, none⟩) 1 [(k1, k2, 1, 0)]) => losses_any r A1 A2 A3 (some ⟨b, 0, none⟩) n1 n2 n3 c1 c2 c3 1 1 k1 0 [(k1, k2, 1, 0)] w' (h3.rows.keep g) hn3 h5 (by omega)
        have C2 := fun b w' (g : Grew w w') (h5 : RowE enPo w' (some ⟨b, 0, none⟩) 1 [(k1, k2, q, 0)]) => margin_any r A1 A2 A3 (some ⟨b, 0, none⟩) n1 n2 n3 c1 c2 c3 1 1 k1 0 [(k1, k2, q, 0)] w' (h3.rows.keep g) hn3 h5 (by omega)
        have C3 := fun w' (g : Grew w w') => margin_any r A1 A2 A3 none n1 n2 n3 c1 c2 c3 0 0 k1 0 [] w' (h3.rows.keep g) hn3 (RowE.nil _ _ _) (by omega)
        have HROW1 : Hid (∀ w : World, RowE enPo (w.alloc (.cells #[.int .i64 k1, .int .i64 k2, .int .i64 1, .int .i64 0] 46)) (some ⟨w.heap.size, 0, none⟩) 1 [(k1, k2, 1, 0)]) := fun w => RowE.one1 enPo w (k1, k2, 1, 0) _ _ _ rfl rfl
        have HROWQ : Hid (∀ w : World, RowE enPo (w.alloc (.cells #[.int .i64 k1, .int .i64 k2, .int .i64 q, .int .i64 0] 46)) (some ⟨w.heap.size, 0, none⟩) 1 [(k1, k2, q, 0)]) := fun w => RowE.one1 enPo w (k1, k2, q, 0) _ _ _ rfl rfl
        dsimp only [rlV, v6] at C1 C2 C3
        by_cases hr : rightR r = true
        · skip
          have o1 := grid_one hr k1 (k1, k2) (q := 1) (by decide) 0
          have oq := grid_one hr k1 (k1, k2) (q := q) hq 0
          have ms := most_single hr k1 (k1, k2) (q := q) hq 0
          dsimp only at o1 oq ms
          have hri := ((rightL_iff okIn noIn in0 r.2.1).1 (right_i hr)).2
          have hak := addK_all hri k1 0 (k1, k2, q, 0) rfl
          have n0 : margE r k1 0 [] = 0 := margE_iff.2 ⟨lossE_iff.2 ⟨hr, rfl, lossOK_iff.2 fun j _ => by rw [loss_nil]; decide⟩, by
            have := (marg_covers (right_i hr) k1 0 [])
            have h9 : margV r k1 0 [] = 0 := by
              have h1 := grid_none r k1 0
              show mostV (lossV r k1 0 []) 6 + addG r k1 0 [] = 0
              have e : mostV (lossV r k1 0 []) 6 = 0 := by
                have h1 := most_nonneg (lossV r k1 0 []) 6
                have h2 := most_le (lossV r k1 0 []) 0 (Int.le_refl _) 6 fun j _ => Int.le_of_eq (loss_nil r k1 0 j)
                omega
              rw [e, addG_nil]; rfl
            rw [h9]; decide⟩
          have hM : margN r k1 0 [(k1, k2, q, 0)] = mostV (fun j => lossA r k1 0 [(k1, k2, 1, 0)] j * q) 6 + absI q * addK r 0 k2 r.2.1.length := by
            rw [oq.2.2.2, ms.1, hak]
            split
            · rfl
            · rw [Int.mul_zero]
          have hab2 : 0 ≤ addK r 0 k2 r.2.1.length ∧ addK r 0 k2 r.2.1.length ≤ 1073741824 := by
            rw [hak]
            split
            · next hc => exact (inst_add (inst_ok (right_i hr) (cnt_has hc))).2.1
            · omega
          have hmost : 0 ≤ mostV (fun j => lossA r k1 0 [(k1, k2, 1, 0)] j * q) 6 ∧ mostV (fun j => lossA r k1 0 [(k1, k2, 1, 0)] j * q) 6 ≤ 1152921504606846976 := ⟨most_nonneg _ _, most_le _ _ (by decide) 6 fun j hj => by have := ms.2 j hj; omega⟩
          have HB : Hid (∀ j, j < 6 → -1152921504606846976 ≤ lossA r k1 0 [(k1, k2, 1, 0)] j * q ∧ lossA r k1 0 [(k1, k2, 1, 0)] j * q ≤ 1152921504606846976) := fun j hj => by have := ms.2 j hj; omega
          rw [o1.1] at C1
          rw [oq.2.1, hM] at C2
          rw [n0, grid_none] at C3
          have hl := h3.rows.i.len
          rw [hl] at hab2 C2
          have HIn := Lib.hid h3.rows.i
          clear o1 oq ms hri hak n0 hM h3 hr hl
          generalize lossA r k1 0 [(k1, k2, 1, 0)] = f at *
          go_enter Try.func7, Try.ntmps7
          go_upto_region 1 with (fail)
          generalize ((w.alloc (.cells #[.slice A1 n1 c1, .slice A2 n2 c2, .slice A3 n3 c3] 26)).alloc (.cells #[.int .i64 k1, .int .i64 k2] 44)) = w0 at *
          have r0 := HR0.out.at 0 (.slice A1 n1 c1) rfl; have r1 := HR0.out.at 1 (.slice A2 n2 c2) rfl; have r2 := HR0.out.at 2 (.slice A3 n3 c3) rfl
          go_upto_region 4 with (first
            | (go_at_call 8; ((with_reducible refine (CH _).mono ?_); rintro e w1 ⟨rfl, hg⟩; have HG1 := Lib.hid (grew_trans HG0.out hg); have HR1 := Lib.hid (HR0.out.keep hg); have HK1 := Lib.hid (HK0.out.keep hg); clear hg HR0 HG0 HK0 r0 r1 r2; have r0 := HR1.out.at 0 (.slice A1 n1 c1) rfl; have r1 := HR1.out.at 1 (.slice A2 n2 c2) rfl; have r2 := HR1.out.at 2 (.slice A3 n3 c3) rfl; have y0 := HK1.out.at 0 (.int .i64 k1) rfl; have y1 := HK1.out.at 1 (.int .i64 k2) rfl))
            | (go_at_call 11; ((with_reducible refine (C1 _ _ (grew_trans HG1.out (grew_alloc _ _ _)) (HROW1.out _)).mono ?_); rintro e w2 ⟨rfl, hg⟩; have HG2 := Lib.hid (grew_trans (grew_trans HG1.out (grew_alloc _ _ _)) hg); have HR2 := Lib.hid ((HR1.out.keep (grew_alloc _ _ _)).keep hg); have HK2 := Lib.hid ((HK1.out.keep (grew_alloc _ _ _)).keep hg); clear hg HG1 HR1 HK1 r0 r1 r2 y0 y1)))
          have HA3 : Hid (OwnC (w2.alloc (.cells #[.int .i64 (f 0), .int .i64 (f 1), .int .i64 (f 2), .int .i64 (f 3), .int .i64 (f 4), .int .i64 (f 5)] 31)) w2.heap.size [.int .i64 (f 0), .int .i64 (f 1), .int .i64 (f 2), .int .i64 (f 3), .int .i64 (f 4), .int .i64 (f 5)]) := OwnC.new w2 [.int .i64 (f 0), .int .i64 (f 1), .int .i64 (f 2), .int .i64 (f 3), .int .i64 (f 4), .int .i64 (f 5)] _ _ rfl
          have HR3 := Lib.hid (HR2.out.keep (grew_alloc w2 #[.int .i64 (f 0), .int .i64 (f 1), .int .i64 (f 2), .int .i64 (f 3), .int .i64 (f 4), .int .i64 (f 5)] 31))
          have HK3 := Lib.hid (HK2.out.keep (grew_alloc w2 #[.int .i64 (f 0), .int .i64 (f 1), .int .i64 (f 2), .int .i64 (f 3), .int .i64 (f 4), .int .i64 (f 5)] 31))
          have HG3 := Lib.hid (grew_trans HG2.out (grew_alloc w2 #[.int .i64 (f 0), .int .i64 (f 1), .int .i64 (f 2), .int .i64 (f 3), .int .i64 (f 4), .int .i64 (f 5)] 31))
          clear HR2 HG2 HK2
          generalize (w2.alloc (.cells #[.int .i64 (f 0), .int .i64 (f 1), .int .i64 (f 2), .int .i64 (f 3), .int .i64 (f 4), .int .i64 (f 5)] 31)) = w3 at *
          generalize w2.heap.size = ab at *
          have r0 := HR3.out.at 0 (.slice A1 n1 c1) rfl; have r1 := HR3.out.at 1 (.slice A2 n2 c2) rfl; have r2 := HR3.out.at 2 (.slice A3 n3 c3) rfl
          have y0 := HK3.out.at 0 (.int .i64 k1) rfl; have y1 := HK3.out.at 1 (.int .i64 k2) rfl
          go_upto_region 5 with (go_at_call 13; ((with_reducible refine (C2 _ _ (grew_trans HG3.out (grew_alloc _ _ _)) (HROWQ.out _)).mono ?_); rintro e w4 ⟨rfl, hg⟩; have HG4 := Lib.hid (grew_trans (grew_trans HG3.out (grew_alloc _ _ _)) hg); have HR4 := Lib.hid ((HR3.out.keep (grew_alloc _ _ _)).keep hg); have HK4 := Lib.hid ((HK3.out.keep (grew_alloc _ _ _)).keep hg); have HA4 := Lib.hid ((HA3.out.keep (grew_alloc _ _ _)).keep hg); clear hg HG3 HR3 HK3 HA3 r0 r1 r2 y0 y1))
          have r0 := HR4.out.at 0 (.slice A1 n1 c1) rfl; have r1 := HR4.out.at 1 (.slice A2 n2 c2) rfl; have r2 := HR4.out.at 2 (.slice A3 n3 c3) rfl
          have y0 := HK4.out.at 0 (.int .i64 k1) rfl; have y1 := HK4.out.at 1 (.int .i64 k2) rfl
          go_upto_region 6 with (go_at_call 13; ((with_reducible refine (C3 _ HG4.out).mono ?_); rintro e w5 ⟨rfl, hg⟩; have HG5 := Lib.hid (grew_trans HG4.out hg); have HR5 := Lib.hid (HR4.out.keep hg); have HK5 := Lib.hid (HK4.out.keep hg); have HA5 := Lib.hid (HA4.out.keep hg); clear hg HG4 HR4 HK4 HA4 r0 r1 r2 y0 y1))
          clear C1 C2 C3
          go_upto_block 1 with (fail)
          go_wp2
          go_loopw [13, 14] (fun v13 v14 wr => ∃ i : Nat, v14 = .int .i64 i ∧ v13 = .int .i64 (addK r 0 k2 i) ∧ i ≤ n2 ∧ Hid (Grew w5 wr)) (fun _ v14 _ => n2 - (intOf v14).toNat)
          case atStart => exact ⟨0, rfl, rfl, by omega, grew_refl _⟩
          case round =>
            obtain ⟨i, rfl, rfl, hi, HW⟩ := hrel
            have HR6 := Lib.hid (HR5.out.keep HW.out)
            have HK6 := Lib.hid (HK5.out.keep HW.out)
            have HG6 := Lib.hid (grew_trans HG5.out HW.out)
            have r0 := HR6.out.at 0 (.slice A1 n1 c1) rfl; have r1 := HR6.out.at 1 (.slice A2 n2 c2) rfl; have r2 := HR6.out.at 2 (.slice A3 n3 c3) rfl
            have y0 := HK6.out.at 0 (.int .i64 k1) rfl; have y1 := HK6.out.at 1 (.int .i64 k2) rfl
            by_cases hkl : i < n2
            · obtain ⟨bi, oi, rfl, hbi, hci⟩ := (HIn.out.keep HG6.out).in hkl
              have hx := hci i hkl
              have i0 : (0 : Int) ≤ (i : Int) := by omega
              have i1 : (i : Int) < (n2 : Int) := by omega
              have HAY : Hid (noIn (r.2.1.getD i in0) = k2 ∧ (r.2.1.getD i in0).1.2.1 = 0 → addK r 0 k2 (i + 1) = (r.2.1.getD i in0).1.2.2.2.1) := fun h => if_pos h
              have HAN : Hid (¬ (noIn (r.2.1.getD i in0) = k2 ∧ (r.2.1.getD i in0).1.2.1 = 0) → addK r 0 k2 (i + 1) = addK r 0 k2 i) := fun h => if_neg h
              clear hci hbi
              generalize hA0 : addK r 0 k2 i = A0 at HAN
              have HA0 := Lib.hid hA0
              clear hA0
              generalize r.2.1.getD i in0 = x at *
              obtain ⟨⟨t1, t2, t3, t4, t5, t6⟩, ⟨s1, s2, s3, s4, s5, s6⟩⟩ := x
              obtain ⟨u0, u1, u2, u3, -⟩ := hx
              dsimp only [noIn] at u0 u1 u2 u3 HAY HAN
              by_cases g1 : t1 = k2
              · by_cases g2 : t2 = 0
                · have d1 : (t1 == k2) = true := by simpa using g1
                  have d2 : (t2 == 0) = true := by simpa using g2
                  have HN : Hid (addK r 0 k2 (i + 1) = t4) := HAY.out ⟨g1, g2⟩
                  clear g1 g2 HAY HAN
                  go_upto_region 12 with (fail)
                  go_quiet (fail)
                  go_wp2
                  go_roundw
                  case rel => exact ⟨i + 1, by go_num, by rw [HN.out], by omega, (by first | exact grew_drewN HW.out _ | exact HW.out)⟩
                  case measure => simp only [intOf]; omega
                · have d1 : (t1 == k2) = true := by simpa using g1
                  have d2 : (t2 == 0) = false := by simpa using g2
                  have HN : Hid (addK r 0 k2 (i + 1) = A0) := HAN.out (fun h => g2 h.2)
                  clear g1 g2 HAY HAN
                  go_upto_region 12 with (fail)
                  go_quiet (fail)
                  go_wp2
                  go_roundw
                  case rel => exact ⟨i + 1, by go_num, by rw [HN.out, ← HA0.out], by omega, (by first | exact grew_drewN HW.out _ | exact HW.out)⟩
                  case measure => simp only [intOf]; omega
              · have d1 : (t1 == k2) = false := by simpa using g1
                have HN : Hid (addK r 0 k2 (i + 1) = A0) := HAN.out (fun h => g1 h.1)
                clear g1 HAY HAN
                go_upto_region 12 with (fail)
                go_quiet (fail)
                go_wp2
                go_roundw
                case rel => exact ⟨i + 1, by go_num, by rw [HN.out, ← HA0.out], by omega, (by first | exact grew_drewN HW.out _ | exact HW.out)⟩
                case measure => simp only [intOf]; omega
            · obtain rfl : n2 = i := by omega
              have HA6 := Lib.hid (HA5.out.keep HW.out)
              clear HR5 HK5 HA5 HG5 HW HR6 HK6 HIn
              generalize addK r 0 k2 n2 = ADD at *
              obtain ⟨wq, hwq⟩ : ∃ x, x = wr := ⟨_, rfl⟩
              subst hwq
              go_upto_block 2 with (fail)
              go_wp2
              go_loopw [15, 16] (fun v15 v16 wr => ∃ j : Nat, v16 = .int .i64 j ∧ v15 = .int .i64 (mostV (fun j => f j * q) j) ∧ j ≤ 6 ∧ wq = wr) (fun _ v16 _ => 6 - (intOf v16).toNat)
              case atStart => exact ⟨0, rfl, rfl, by omega, rfl⟩
              case round =>
                obtain ⟨j, rfl, rfl, hj, rfl⟩ := hrel
                by_cases hlt : j < 6
                · have i0 : (0 : Int) ≤ (j : Int) := by omega
                  have i1 : (j : Int) < 6 := by omega
                  have aj : wq.cell? ⟨ab, j, none⟩ = some (.int .i64 (f j)) := by
                    rcases j with _ | _ | _ | _ | _ | _ | j
                    · exact HA6.out.at 0 _ rfl
                    · exact HA6.out.at 1 _ rfl
                    · exact HA6.out.at 2 _ rfl
                    · exact HA6.out.at 3 _ rfl
                    · exact HA6.out.at 4 _ rfl
                    · exact HA6.out.at 5 _ rfl
                    · omega
                  have hb := HB.out j hlt
                  have HMs : Hid (mostV (fun j => f j * q) (j + 1) = if mostV (fun j => f j * q) j < f j * q then f j * q else mostV (fun j => f j * q) j) := rfl
                  have HMs := Lib.hid HMs.out
                  have hwz : wrap64 (f j * q) = f j * q := by unfold wrap64; omega
                  generalize mostV (fun j => f j * q) j = M0 at *
                  generalize f j = x at *
                  go_wp2
                  refine ⟨⟨j + 1, by go_num, (by first | (rw [HMs.out]; done) | (rw [HMs.out, Int.max_def]; congr 1; split <;> split <;> omega)), by omega, (by first | rfl | trivial)⟩, ?_⟩
                  simp only [intOf]; omega
                · obtain rfl : 6 = j := by omega
                  generalize mostV (fun j => f j * q) 6 = W at *
                  have hab9 := abs_facts q
                  have hA2 : absI q = if -q < q then q else -q := rfl
                  generalize absI q = AB at *
                  obtain ⟨p1, p2⟩ := hab2
                  obtain ⟨p3, p4⟩ := hmost
                  have hpr := mul_abs (a := AB) (b := ADD) (A := 1048576) (B := 1073741824) (by omega) (by omega)
                  have q1 : -1048576 ≤ q ∧ q ≤ 1048576 := by omega
                  obtain ⟨q1, q2⟩ := q1
                  by_cases hs : q < -q
                  · have hAB : AB = -q := by rw [hA2]; split <;> omega
                    subst hAB
                    have hmx : max q (-q) = -q := by rw [Int.max_def]; split <;> omega
                    have hw1 : wrap64 (ADD * -q) = -q * ADD := by rw [Int.mul_comm ADD]; unfold wrap64; omega
                    have hw2 : wrap64 (W + -q * ADD) = W + -q * ADD := by unfold wrap64; omega
                    generalize hpg : -q * ADD = PR at *
                    clear hA2 hab9 hpg HB
                    go_wp2_with (go_at_call 17; ((with_reducible refine (CV _).mono ?_); rintro e w8 ⟨rfl, hg⟩; have HG8 := Lib.hid (grew_trans HG6.out hg); clear hg HG6  ))
                    go_ret
                    exact ⟨rfl, HG8.out⟩
                  · have hAB : AB = q := by rw [hA2]; split <;> omega
                    subst hAB
                    have hmx : max AB (-AB) = AB := by rw [Int.max_def]; split <;> omega
                    have hw1 : wrap64 (ADD * AB) = AB * ADD := by rw [Int.mul_comm ADD]; unfold wrap64; omega
                    have hw2 : wrap64 (W + AB * ADD) = W + AB * ADD := by unfold wrap64; omega
                    generalize hpg : AB * ADD = PR at *
                    clear hA2 hab9 hpg HB
                    go_wp2_with (go_at_call 17; ((with_reducible refine (CV _).mono ?_); rintro e w8 ⟨rfl, hg⟩; have HG8 := Lib.hid (grew_trans HG6.out hg); clear hg HG6  ))
                    go_ret
                    exact ⟨rfl, HG8.out⟩
        · have hr := Bool.eq_false_iff.2 hr
          have e1 : ∀ l, lossE r k1 0 l = 14 := fun l => lossE_14 hr
          have e2 : ∀ l, margE r k1 0 l = 14 ∧ margN r k1 0 l = 0 := fun l => by
            obtain ⟨x, y⟩ := marg_no (r := r) (who := k1) (cur := 0) (l := l) (by rw [e1]; decide)
            exact ⟨x.trans (e1 l), y⟩
          rw [e1] at C1
          rw [(e2 _).1, (e2 _).2] at C2
          rw [(e2 _).1, (e2 _).2] at C3
          clear e1 e2 h3
          generalize lossA r k1 0 [(k1, k2, 1, 0)] = f at *
          go_enter Try.func7, Try.ntmps7
          go_upto_region 1 with (fail)
          generalize ((w.alloc (.cells #[.slice A1 n1 c1, .slice A2 n2 c2, .slice A3 n3 c3] 26)).alloc (.cells #[.int .i64 k1, .int .i64 k2] 44)) = w0 at *
          have r0 := HR0.out.at 0 (.slice A1 n1 c1) rfl; have r1 := HR0.out.at 1 (.slice A2 n2 c2) rfl; have r2 := HR0.out.at 2 (.slice A3 n3 c3) rfl
          go_upto_region 4 with (first
            | (go_at_call 8; ((with_reducible refine (CH _).mono ?_); rintro e w1 ⟨rfl, hg⟩; have HG1 := Lib.hid (grew_trans HG0.out hg); have HR1 := Lib.hid (HR0.out.keep hg); have HK1 := Lib.hid (HK0.out.keep hg); clear hg HR0 HG0 HK0 r0 r1 r2; have r0 := HR1.out.at 0 (.slice A1 n1 c1) rfl; have r1 := HR1.out.at 1 (.slice A2 n2 c2) rfl; have r2 := HR1.out.at 2 (.slice A3 n3 c3) rfl; have y0 := HK1.out.at 0 (.int .i64 k1) rfl; have y1 := HK1.out.at 1 (.int .i64 k2) rfl))
            | (go_at_call 11; ((with_reducible refine (C1 _ _ (grew_trans HG1.out (grew_alloc _ _ _)) (HROW1.out _)).mono ?_); rintro e w2 ⟨rfl, hg⟩; have HG2 := Lib.hid (grew_trans (grew_trans HG1.out (grew_alloc _ _ _)) hg); have HR2 := Lib.hid ((HR1.out.keep (grew_alloc _ _ _)).keep hg); have HK2 := Lib.hid ((HK1.out.keep (grew_alloc _ _ _)).keep hg); clear hg HG1 HR1 HK1 r0 r1 r2 y0 y1)))
          have HA3 : Hid (OwnC (w2.alloc (.cells #[.int .i64 (f 0), .int .i64 (f 1), .int .i64 (f 2), .int .i64 (f 3), .int .i64 (f 4), .int .i64 (f 5)] 31)) w2.heap.size [.int .i64 (f 0), .int .i64 (f 1), .int .i64 (f 2), .int .i64 (f 3), .int .i64 (f 4), .int .i64 (f 5)]) := OwnC.new w2 [.int .i64 (f 0), .int .i64 (f 1), .int .i64 (f 2), .int .i64 (f 3), .int .i64 (f 4), .int .i64 (f 5)] _ _ rfl
          have HR3 := Lib.hid (HR2.out.keep (grew_alloc w2 #[.int .i64 (f 0), .int .i64 (f 1), .int .i64 (f 2), .int .i64 (f 3), .int .i64 (f 4), .int .i64 (f 5)] 31))
          have HK3 := Lib.hid (HK2.out.keep (grew_alloc w2 #[.int .i64 (f 0), .int .i64 (f 1), .int .i64 (f 2), .int .i64 (f 3), .int .i64 (f 4), .int .i64 (f 5)] 31))
          have HG3 := Lib.hid (grew_trans HG2.out (grew_alloc w2 #[.int .i64 (f 0), .int .i64 (f 1), .int .i64 (f 2), .int .i64 (f 3), .int .i64 (f 4), .int .i64 (f 5)] 31))
          clear HR2 HG2 HK2
          generalize (w2.alloc (.cells #[.int .i64 (f 0), .int .i64 (f 1), .int .i64 (f 2), .int .i64 (f 3), .int .i64 (f 4), .int .i64 (f 5)] 31)) = w3 at *
          generalize w2.heap.size = ab at *
          have r0 := HR3.out.at 0 (.slice A1 n1 c1) rfl; have r1 := HR3.out.at 1 (.slice A2 n2 c2) rfl; have r2 := HR3.out.at 2 (.slice A3 n3 c3) rfl
          have y0 := HK3.out.at 0 (.int .i64 k1) rfl; have y1 := HK3.out.at 1 (.int .i64 k2) rfl
          go_upto_region 5 with (go_at_call 13; ((with_reducible refine (C2 _ _ (grew_trans HG3.out (grew_alloc _ _ _)) (HROWQ.out _)).mono ?_); rintro e w4 ⟨rfl, hg⟩; have HG4 := Lib.hid (grew_trans (grew_trans HG3.out (grew_alloc _ _ _)) hg); have HR4 := Lib.hid ((HR3.out.keep (grew_alloc _ _ _)).keep hg); have HK4 := Lib.hid ((HK3.out.keep (grew_alloc _ _ _)).keep hg); have HA4 := Lib.hid ((HA3.out.keep (grew_alloc _ _ _)).keep hg); clear hg HG3 HR3 HK3 HA3 r0 r1 r2 y0 y1))
          have r0 := HR4.out.at 0 (.slice A1 n1 c1) rfl; have r1 := HR4.out.at 1 (.slice A2 n2 c2) rfl; have r2 := HR4.out.at 2 (.slice A3 n3 c3) rfl
          have y0 := HK4.out.at 0 (.int .i64 k1) rfl; have y1 := HK4.out.at 1 (.int .i64 k2) rfl
          go_upto_region 6 with (go_at_call 13; ((with_reducible refine (C3 _ HG4.out).mono ?_); rintro e w5 ⟨rfl, hg⟩; have HG5 := Lib.hid (grew_trans HG4.out hg); have HR5 := Lib.hid (HR4.out.keep hg); have HK5 := Lib.hid (HK4.out.keep hg); have HA5 := Lib.hid (HA4.out.keep hg); clear hg HG4 HR4 HK4 HA4 r0 r1 r2 y0 y1))
          go_wp2_with (go_at_call 17; ((with_reducible refine (CV _).mono ?_); rintro e w8 ⟨rfl, hg⟩; have HG8 := Lib.hid (grew_trans HG5.out hg); clear hg HG5  ))
          go_ret
          exact ⟨rfl, HG8.out⟩
      · have hqb' : 1048576 < q := by omega
        have hqa' : ¬ q < -1048576 := by omega
        clear CV h3 hqb
        go_enter Try.func7, Try.ntmps7
        go_upto_region 1 with (fail)
        generalize ((w.alloc (.cells #[.slice A1 n1 c1, .slice A2 n2 c2, .slice A3 n3 c3] 26)).alloc (.cells #[.int .i64 k1, .int .i64 k2] 44)) = w0 at *
        have r0 := HR0.out.at 0 (.slice A1 n1 c1) rfl; have r1 := HR0.out.at 1 (.slice A2 n2 c2) rfl; have r2 := HR0.out.at 2 (.slice A3 n3 c3) rfl
        go_wp2_with (go_at_call 8; ((with_reducible refine (CH _).mono ?_); rintro e w1 ⟨rfl, hg⟩; have HG1 := Lib.hid (grew_trans HG0.out hg); have HR1 := Lib.hid (HR0.out.keep hg); have HK1 := Lib.hid (HK0.out.keep hg); clear hg HR0 HG0 HK0 r0 r1 r2; have r0 := HR1.out.at 0 (.slice A1 n1 c1) rfl; have r1 := HR1.out.at 1 (.slice A2 n2 c2) rfl; have r2 := HR1.out.at 2 (.slice A3 n3 c3) rfl; have y0 := HK1.out.at 0 (.int .i64 k1) rfl; have y1 := HK1.out.at 1 (.int .i64 k2) rfl))
        go_ret
        exact ⟨rfl, HG1.out⟩
    · have hqa' : q < -1048576 := by omega
      clear CV h3 hqa
      go_enter Try.func7, Try.ntmps7
      go_upto_region 1 with (fail)
      generalize ((w.alloc (.cells #[.slice A1 n1 c1, .slice A2 n2 c2, .slice A3 n3 c3] 26)).alloc (.cells #[.int .i64 k1, .int .i64 k2] 44)) = w0 at *
      have r0 := HR0.out.at 0 (.slice A1 n1 c1) rfl; have r1 := HR0.out.at 1 (.slice A2 n2 c2) rfl; have r2 := HR0.out.at 2 (.slice A3 n3 c3) rfl
      go_wp2_with (go_at_call 8; ((with_reducible refine (CH _).mono ?_); rintro e w1 ⟨rfl, hg⟩; have HG1 := Lib.hid (grew_trans HG0.out hg); have HR1 := Lib.hid (HR0.out.keep hg); have HK1 := Lib.hid (HK0.out.keep hg); clear hg HR0 HG0 HK0 r0 r1 r2; have r0 := HR1.out.at 0 (.slice A1 n1 c1) rfl; have r1 := HR1.out.at 1 (.slice A2 n2 c2) rfl; have r2 := HR1.out.at 2 (.slice A3 n3 c3) rfl; have y0 := HK1.out.at 0 (.int .i64 k1) rfl; have y1 := HK1.out.at 1 (.int .i64 k2) rfl))
      go_ret
      exact ⟨rfl, HG1.out⟩
  · clear CV HHH h3
    go_enter Try.func7, Try.ntmps7
    go_upto_region 1 with (fail)
    generalize ((w.alloc (.cells #[.slice A1 n1 c1, .slice A2 n2 c2, .slice A3 n3 c3] 26)).alloc (.cells #[.int .i64 k1, .int .i64 k2] 44)) = w0 at *
    have r0 := HR0.out.at 0 (.slice A1 n1 c1) rfl; have r1 := HR0.out.at 1 (.slice A2 n2 c2) rfl; have r2 := HR0.out.at 2 (.slice A3 n3 c3) rfl
    go_wp2_with (go_at_call 8; ((with_reducible refine (CH _).mono ?_); rintro e w1 ⟨rfl, hg⟩; have HG1 := Lib.hid (grew_trans HG0.out hg); have HR1 := Lib.hid (HR0.out.keep hg); have HK1 := Lib.hid (HK0.out.keep hg); clear hg HR0 HG0 HK0 r0 r1 r2; have r0 := HR1.out.at 0 (.slice A1 n1 c1) rfl; have r1 := HR1.out.at 1 (.slice A2 n2 c2) rfl; have r2 := HR1.out.at 2 (.slice A3 n3 c3) rfl; have y0 := HK1.out.at 0 (.int .i64 k1) rfl; have y1 := HK1.out.at 1 (.int .i64 k2) rfl))
    go_ret
    exact ⟨rfl, HG1.out⟩
end Go.Proofs.Ytmlfijapglhjfaa.NumK
namespace Go.Proofs.Ytmlfijapglhjfaa.NumK
open Go.RowKit
set_option linter.unusedVariables false

theorem gridAdds_row (w : World) {cs0 cs1 : Array Value} {r : Rl} {k : Int × Int} (q : Int) (h0 : spRl.rd w cs0.toList r) (h1 : spKey.rd w cs1.toList k) :
    Calls Try.prog 7 #[.agg cs0, .agg cs1, .int .i64 q] w fun e w' => e = .returned (.bool true) ∧ Grew w w' := by
  obtain ⟨A1, A2, A3, n1, n2, n3, c1, c2, c3, e, h⟩ := roll_of h0
  rw [e, key_of h1]
  exact gridAdds_walk r A1 A2 A3 n1 n2 n3 c1 c2 c3 k.1 k.2 q w h
end Go.Proofs.Ytmlfijapglhjfaa.NumK
namespace Go.Proofs.Ytmlfijapglhjfaa.gridAdds
open Go.ChangeShapes Go.WideShapes Go.ChangeAt Go.RowKit
set_option linter.unusedVariables false

theorem own : ownKnob Try.prog.godebug = none := by kernel_rfl
theorem laidOut : laidOutB Try.prog = true := by kernel_rfl

set_option maxRecDepth 100000 in
theorem lifted (os : Os) (started : os.Started) (H : Type) (enc : TypeId × Value → H) :
    ReturnsInHanded {} Try.checked os 7 .any (Rows.gridAddsSpec.pre6 enc Try.prog Try.f7 Rows.gridAddsRow.domain false) (Rows.gridAddsSpec.post enc Try.prog Try.f7 false true false false) := by
  refine returnsInHanded_of_change (C := Try.checked) own started (by kernel_rfl) Try.func7
    (ChangeSpec.witness6 (enc := enc) (C := Try.checked) false ⟨#[], #[.agg #[.slice none 0 0, .slice none 0 0, .slice none 0 0], .agg #[.int .i64 0, .int .i64 0], .int .i64 0], []⟩ 8 (by kernel_rfl) (by kernel_rfl) (by kernel_rfl) (by kernel_rfl)) ?_
  intro W base args ds gs before hval0 hW hcnd _
  have hval : ∀ (j : Nat) t v, Try.f7.params[j]? = some t → args[j]? = some v → Value.okWide Try.prog W .any base t v := hval0
  have hW' := hW
  obtain ⟨p, q, hA0, hV, rfl, hfz, hnd⟩ := hW
  have hA : DataW.TrodAll enc Try.prog W 0 (fun _ => true) true Try.f7.params.toList args.toList ds p := hA0
  skip
  rw [Try.params7] at hA hval
  obtain ⟨v0, vs0, d0, ds0, p0, q0, hargs, rfl, rfl, h0, r0⟩ := trodAll_cons hA
  obtain ⟨v1, vs1, d1, ds1, p1, q1, rfl, rfl, rfl, h1, r1⟩ := trodAll_cons r0
  obtain ⟨v2, vs2, d2, ds2, p2, q2, rfl, rfl, rfl, h2, r2⟩ := trodAll_cons r1
  obtain ⟨rfl, rfl, rfl⟩ := trodAll_nil r2
  obtain rfl : args = #[v0, v1, v2] := by cases args; simp_all
  obtain ⟨rfl, rfl⟩ := trodVars_none hV
  have k0 := h0
  have lt0 : ∀ x ∈ p0, x.block < W.heap.size := by obtain ⟨m, hm⟩ := k0; exact DataW.trod_lt m _ _ _ hm
  obtain ⟨cs0, x0, rfl, e0⟩ := NumK.arg_struct Try.underlying26 NumK.opens_roll (hval 0 26 v0 rfl rfl) h0
  have k1 := h1
  have lt1 : ∀ x ∈ p1, x.block < W.heap.size := by obtain ⟨m, hm⟩ := k1; exact DataW.trod_lt m _ _ _ hm
  obtain ⟨cs1, x1, rfl, e1⟩ := NumK.arg_struct Try.underlying44 NumK.opens_key (hval 1 44 v1 rfl rfl) h1
  obtain ⟨a2, rfl, rfl, rfl, w2⟩ := open_int Try.underlying3 (hval 2 3 v2 rfl rfl) h2
  clear hA0 hval0
  refine (NumK.gridAdds_row W a2 e0 e1).mono fun e W' ⟨he, bel⟩ => ?_
  subst he
  exact ⟨_, rfl, _, _, _, [], _, [], hW', trodAll_mk1 (shut_bool Try.underlying4 _), (trodAll_cons_mk (Below.trod laidOut (by kernel_rfl) (of_decide_eq_true (by kernel_rfl)) k0 bel lt0) (trodAll_cons_mk (Below.trod laidOut (by kernel_rfl) (of_decide_eq_true (by kernel_rfl)) k1 bel lt1) (trodAll_cons_mk (shut_int Try.underlying3 w2) trodAll_mk0))), rfl, bel.frame _, fun h => by cases h⟩

theorem over : Rows.gridAddsRow.holds Try.pinned (OpenSpec.ofChange Rows.gridAddsSpec) :=
  OpenClaim.holds_of_wide 7 Try.f7 rfl rfl rfl rfl rfl rfl rfl ⟨rfl, rfl, rfl, rfl, rfl⟩ rfl rfl rfl rfl rfl (by kernel_rfl) Try.func7 (by kernel_rfl)
    (of_decide_eq_true (by kernel_rfl)) (by unfold Func.isWrapper; first | (rw [if_pos (by decide +kernel)]; kernel_rfl) | (rw [if_neg (by decide +kernel)]; exact ⟨rfl, rfl⟩))
    (fun os started H enc _ => lifted os started H enc)

/-! ### the statement -/
theorem proved : Rows.GridAddsSaid := over
end Go.Proofs.Ytmlfijapglhjfaa.gridAdds
