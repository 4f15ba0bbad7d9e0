/- grid.Losses. -/
import Derived.Test.YtodnllopokoicaaGreatRH43
namespace Go.Proofs.YtodnllopokoicaaGreat.NumK
open Go.RowKit
set_option linter.unusedVariables false

abbrev v6 (f : Nat → Int) : Value := .agg #[.int .i64 (f 0), .int .i64 (f 1), .int .i64 (f 2), .int .i64 (f 3), .int .i64 (f 4), .int .i64 (f 5)]
/-- A row of six, filled up to j. -/
def c6 (f : Nat → Int) (j : Nat) : List Value := [.int .i64 (if 0 < j then f 0 else 0), .int .i64 (if 1 < j then f 1 else 0), .int .i64 (if 2 < j then f 2 else 0), .int .i64 (if 3 < j then f 3 else 0), .int .i64 (if 4 < j then f 4 else 0), .int .i64 (if 5 < j then f 5 else 0)]
theorem c6_set (f : Nat → Int) (j : Nat) (hj : j < 6) : (c6 f j).set j (.int .i64 (f j)) = c6 f (j + 1) := by
  rcases j with _ | _ | _ | _ | _ | _ | j <;> first | rfl | omega
theorem c6_at (f : Nat → Int) (j : Nat) (hj : j < 6) : (c6 f j)[j]? = some (.int .i64 0) := by
  rcases j with _ | _ | _ | _ | _ | _ | j <;> first | rfl | omega
theorem c6_all (f : Nat → Int) : c6 f 6 = [.int .i64 (f 0), .int .i64 (f 1), .int .i64 (f 2), .int .i64 (f 3), .int .i64 (f 4), .int .i64 (f 5)] := rfl
theorem lossA_ok {r : Rl} {who cur : Int} {l : List Po} (h1 : rightR r = true) (h2 : qsOK l = true) (h3 : ∀ j, j < 6 → isMoney (lossV r who cur l j) = true) : lossE r who cur l = 0 ∧ lossA r who cur l = lossV r who cur l := by
  have h : lossE r who cur l = 0 := lossE_iff.2 ⟨h1, h2, lossOK_iff.2 h3⟩
  exact ⟨h, by funext j; unfold lossA; rw [if_pos h]⟩
theorem lossA_no {r : Rl} {who cur : Int} {l : List Po} (e : Int) (he : e ≠ 0) (h : lossE r who cur l = e) : lossA r who cur l = fun _ => 0 := by
  funext j; unfold lossA; rw [if_neg (by rw [h]; exact he)]
theorem lossE_14 {r : Rl} {who cur : Int} {l : List Po} (h1 : rightR r = false) : lossE r who cur l = 14 := by unfold lossE; rw [if_neg (by rw [h1]; decide)]
theorem lossE_3 {r : Rl} {who cur : Int} {l : List Po} (h1 : rightR r = true) (h2 : qsOK l = false) : lossE r who cur l = 3 := by unfold lossE; rw [if_pos h1, if_neg (by rw [h2]; decide)]
theorem lossE_1 {r : Rl} {who cur : Int} {l : List Po} (h1 : rightR r = true) (h2 : qsOK l = true) {j : Nat} (hj : j < 6) (h3 : isMoney (lossV r who cur l j) = false) : lossE r who cur l = 1 := by
  unfold lossE; rw [if_pos h1, if_pos h2, if_neg]
  intro h
  rw [lossOK_iff.1 h j hj] at h3; cases h3
theorem part_loss {r : Rl} {l : List Po} (h1 : rightR r = true) (h2 : qsOK l = true) {j : Nat} (hj : j < 6) {N : Nat} {w : World} (hN : OwnC w N [.int .i64 j]) : PartOK 131 #[.pointer (some ⟨N, 0, none⟩)] (lossI j) r l w := fun p hp hi w' g =>
  lossFn_any p (instOf r p) j hj N w' (hN.keep g).lt ((hN.keep g).at 0 _ rfl) (qsOK_iff.1 h2 p hp) (inst_ok (right_i h1) hi)
theorem part_add {r : Rl} {l : List Po} (h1 : rightR r = true) (h2 : qsOK l = true) {w : World} : PartOK 91 #[] addI r l w := fun p hp hi w' g =>
  addFn_any p (instOf r p) w' (qsOK_iff.1 h2 p hp) (inst_ok (right_i h1) hi)

set_option maxRecDepth 100000 in
set_option maxHeartbeats 4000000 in
theorem losses_any (r : Rl) (A1 A2 A3 B : Option Addr) (n1 n2 n3 c1 c2 c3 n c : Nat) (who cur : Int) (l : List Po) (w : World) (h3 : Rows3 w r A1 A2 A3 n1 n2 n3) (hn3 : n1 ≤ 1000000 ∧ n2 ≤ 1000000 ∧ n3 ≤ 1000000) (h : RowE enPo w B n l) (hn : n ≤ 1000000) :
    Calls Tryz.prog 89 #[rlV A1 A2 A3 n1 n2 n3 c1 c2 c3, .int .i64 who, .int .i64 cur, .slice B n c] w fun e w' => e = .returned (.tuple #[v6 (lossA r who cur l), .int .i64 (lossE r who cur l)]) ∧ Grew w w' := by
  have HC1 := Lib.hid (fun w' (g : Grew w w') => check_any r A1 A2 A3 n1 n2 n3 c1 c2 c3 w' (h3.keep g) hn3)
  have HC2 := Lib.hid (fun w' (g : Grew w w') => containsQ_any B n c l w' (h.keep g) hn)
  have HT := Lib.hid (fun (j : Nat) (hj : j < 6) (N : Nat) (h1 : rightR r = true) (h2 : qsOK l = true) w' (g : Grew w w') (hN : OwnC w' N [.int .i64 j]) => total_any 131 #[.pointer (some ⟨N, 0, none⟩)] (lossI j) (fun args w => by rfl) r A1 A2 A3 B n1 n2 n3 c1 c2 c3 n c who cur l w' (h3.keep g) hn3.2.1 (h.keep g) hn (part_loss h1 h2 hj hN) (fun p hp hc => by have := (loss_i (inst_ok (right_i h1) (cnt_has hc)) (qsOK_iff.1 h2 p hp) hj).1; exact Nat.le_trans this (by decide)))
  have HR0 : Hid (OwnC ((w.alloc (.cells #[.slice A1 n1 c1, .slice A2 n2 c2, .slice A3 n3 c3] 28)).alloc (.cells #[.int .i64 0, .int .i64 0, .int .i64 0, .int .i64 0, .int .i64 0, .int .i64 0] 96)) w.heap.size [.slice A1 n1 c1, .slice A2 n2 c2, .slice A3 n3 c3]) := (OwnC.new w [.slice A1 n1 c1, .slice A2 n2 c2, .slice A3 n3 c3] _ _ rfl).keep (grew_alloc _ _ _)
  have HY0 : Hid (OwnC ((w.alloc (.cells #[.slice A1 n1 c1, .slice A2 n2 c2, .slice A3 n3 c3] 28)).alloc (.cells #[.int .i64 0, .int .i64 0, .int .i64 0, .int .i64 0, .int .i64 0, .int .i64 0] 96)) (w.heap.size + 1) [.int .i64 0, .int .i64 0, .int .i64 0, .int .i64 0, .int .i64 0, .int .i64 0]) := OwnC.new _ [.int .i64 0, .int .i64 0, .int .i64 0, .int .i64 0, .int .i64 0, .int .i64 0] _ _ (by simp)
  have HG0 : Hid (Grew w ((w.alloc (.cells #[.slice A1 n1 c1, .slice A2 n2 c2, .slice A3 n3 c3] 28)).alloc (.cells #[.int .i64 0, .int .i64 0, .int .i64 0, .int .i64 0, .int .i64 0, .int .i64 0] 96))) := grew_trans (grew_alloc _ _ _) (grew_alloc _ _ _)
  dsimp only [rlV] at HC1 HT ⊢
  clear h h3
  go_enter Tryz.func89, Tryz.ntmps89
  go_upto_region 1 with (fail)
  generalize ((w.alloc (.cells #[.slice A1 n1 c1, .slice A2 n2 c2, .slice A3 n3 c3] 28)).alloc (.cells #[.int .i64 0, .int .i64 0, .int .i64 0, .int .i64 0, .int .i64 0, .int .i64 0] 96)) = w0 at *
  have r0 := HR0.out.at 0 (.slice A1 n1 c1) rfl; have r1 := HR0.out.at 1 (.slice A2 n2 c2) rfl; have r2 := HR0.out.at 2 (.slice A3 n3 c3) rfl
  by_cases hr : rightR r = true
  · rw [chkV_yes hr] at HC1
    by_cases hq : qsOK l = true
    · rw [hq] at HC2
      go_upto_region 6 with (first
        | (go_at_call 22; ((with_reducible refine (HC1.out _ HG0.out).mono ?_); rintro e w1 ⟨rfl, hg⟩; have HR1 := Lib.hid (HR0.out.keep hg); have HY1 := Lib.hid (HY0.out.keep hg); have HG1 := Lib.hid (grew_trans HG0.out hg); clear hg HR0 HY0 HG0 r0 r1 r2))
        | (go_at_call 129; ((with_reducible refine (HC2.out _ HG1.out).mono ?_); rintro e w2 ⟨rfl, hg⟩; have HR2 := Lib.hid (HR1.out.keep hg); have HY2 := Lib.hid (HY1.out.keep hg); have HG2 := Lib.hid (grew_trans HG1.out hg); clear hg HR1 HY1 HG1)))
      go_upto_region 7 with (fail)
      have HL3 : Hid (OwnC (w2.alloc (.cells #[.int .i64 0, .int .i64 0, .int .i64 0, .int .i64 0, .int .i64 0, .int .i64 0] 96)) w2.heap.size (c6 (lossV r who cur l) 0)) := OwnC.new w2 [.int .i64 0, .int .i64 0, .int .i64 0, .int .i64 0, .int .i64 0, .int .i64 0] _ _ rfl
      have HR3 := Lib.hid (HR2.out.keep (grew_alloc w2 #[.int .i64 0, .int .i64 0, .int .i64 0, .int .i64 0, .int .i64 0, .int .i64 0] 96))
      have HY3 := Lib.hid (HY2.out.keep (grew_alloc w2 #[.int .i64 0, .int .i64 0, .int .i64 0, .int .i64 0, .int .i64 0, .int .i64 0] 96))
      have HG3 := Lib.hid (grew_trans HG2.out (grew_alloc w2 #[.int .i64 0, .int .i64 0, .int .i64 0, .int .i64 0, .int .i64 0, .int .i64 0] 96))
      have HBL : (w.heap.size + 1) < w2.heap.size := HY2.out.lt
      clear HR2 HY2 HG2
      generalize (w2.alloc (.cells #[.int .i64 0, .int .i64 0, .int .i64 0, .int .i64 0, .int .i64 0, .int .i64 0] 96)) = w3 at *
      generalize w2.heap.size = lb at *
      have HSL : Hid (w.heap.size ≤ lb) := by show _ ≤ _; omega
      have HNR : Hid (w.heap.size ≠ lb) := by show _ ≠ _; omega
      have HNY : Hid ((w.heap.size + 1) ≠ lb) := by show _ ≠ _; omega
      go_wp2
      go_loopw [25] (fun v wr => ∃ k : Nat, v = .int .i64 k ∧ k ≤ 6 ∧ Hid (∀ j, j < k → isMoney (lossV r who cur l j) = true) ∧ Hid (OwnC wr w.heap.size [.slice A1 n1 c1, .slice A2 n2 c2, .slice A3 n3 c3]) ∧ Hid (OwnC wr (w.heap.size + 1) [.int .i64 0, .int .i64 0, .int .i64 0, .int .i64 0, .int .i64 0, .int .i64 0]) ∧ Hid (OwnC wr lb (c6 (lossV r who cur l) k)) ∧ Hid (Grew w wr)) (fun v _ => 6 - (intOf v).toNat)
      case atStart => exact ⟨0, rfl, by omega, fun j hj => by omega, HR3.out, HY3.out, HL3.out, HG3.out⟩
      case round =>
        clear HR3 HY3 HL3 HG3
        obtain ⟨k, rfl, hk, HM, HR, HY, HL, HG⟩ := hrel
        by_cases hlt : k < 6
        · have i0 : (0 : Int) ≤ (k : Int) := by omega
          have i1 : (k : Int) < 6 := by omega
          have HT2 := Lib.hid (fun N w' g hN => HT.out k hlt N hr hq w' g hN)
          rw [tot_loss] at HT2
          have HS := Lib.hid (c6_set (lossV r who cur l) k hlt)
          have HA := Lib.hid (c6_at (lossV r who cur l) k hlt)
          have CI := fun w => wint_any (lossV r who cur l k) w
          have hlen : k < (c6 (lossV r who cur l) k).length := hlt
          have HV : Hid (lossV r who cur l k = lossV r who cur l k) := rfl
          generalize hV : lossV r who cur l k = V at HT2 CI HS
          clear HV
          have HVe := Lib.hid hV
          clear hV
          dsimp only [wvV] at HT2 CI
          have hwr : lb < wr.heap.size := HL.out.lt
          generalize hi64 V = v1 at *
          generalize lo64 V = v2 at *
          have HR4 := Lib.hid (HR.out.keep (grew_alloc wr #[.int .i64 k] 3))
          have HY4 := Lib.hid (HY.out.keep (grew_alloc wr #[.int .i64 k] 3))
          have HL4 := Lib.hid (HL.out.keep (grew_alloc wr #[.int .i64 k] 3))
          have HJ4 : Hid (OwnC (wr.alloc (.cells #[.int .i64 k] 3)) wr.heap.size [.int .i64 k]) := OwnC.new wr [.int .i64 k] _ _ rfl
          have HG4 := Lib.hid (grew_trans HG.out (grew_alloc wr #[.int .i64 k] 3))
          clear HR HY HL HG
          go_upto_region 10 with (fail)
          generalize (wr.alloc (.cells #[.int .i64 k] 3)) = w4 at *
          generalize wr.heap.size = jb at *
          have r0 := HR4.out.at 0 (.slice A1 n1 c1) rfl; have r1 := HR4.out.at 1 (.slice A2 n2 c2) rfl; have r2 := HR4.out.at 2 (.slice A3 n3 c3) rfl
          go_upto_region 11 with (go_at_call 90; ((with_reducible refine (HT2.out jb _ HG4.out HJ4.out).mono ?_); rintro e w5 ⟨rfl, hg⟩; have HR5 := Lib.hid (HR4.out.keep hg); have HY5 := Lib.hid (HY4.out.keep hg); have HL5 := Lib.hid (HL4.out.keep hg); have HJ5 := Lib.hid (HJ4.out.keep hg); have HG5 := Lib.hid (grew_trans HG4.out hg); clear hg HR4 HY4 HL4 HJ4 HG4 r0 r1 r2))
          have HX6 : Hid (OwnC (w5.alloc (.cells #[.int .i64 v1, .int .u64 v2] 101)) w5.heap.size [.int .i64 v1, .int .u64 v2]) := OwnC.new w5 [.int .i64 v1, .int .u64 v2] _ _ rfl
          have HR6 := Lib.hid (HR5.out.keep (grew_alloc w5 #[.int .i64 v1, .int .u64 v2] 101))
          have HY6 := Lib.hid (HY5.out.keep (grew_alloc w5 #[.int .i64 v1, .int .u64 v2] 101))
          have HL6 := Lib.hid (HL5.out.keep (grew_alloc w5 #[.int .i64 v1, .int .u64 v2] 101))
          have HJ6 := Lib.hid (HJ5.out.keep (grew_alloc w5 #[.int .i64 v1, .int .u64 v2] 101))
          have HG6 := Lib.hid (grew_trans HG5.out (grew_alloc w5 #[.int .i64 v1, .int .u64 v2] 101))
          clear HR5 HY5 HL5 HJ5 HG5
          generalize (w5.alloc (.cells #[.int .i64 v1, .int .u64 v2] 101)) = w6 at *
          generalize w5.heap.size = xb at *
          have x0 := HX6.out.at 0 (.int .i64 v1) rfl
          have x1 := HX6.out.at 1 (.int .u64 v2) rfl
          by_cases hm : isMoney V = true
          · have hcV : capV V = V := capV_in hm
            have hcE : capE V = 0 := capE_in hm
            rw [hcV, hcE] at CI
            have HM2 : Hid (∀ j, j < k + 1 → isMoney (lossV r who cur l j) = true) := fun j hj => by
              rcases Nat.lt_or_ge j k with h1 | h1
              · exact HM.out j h1
              · obtain rfl : j = k := by omega
                rw [HVe.out]; exact hm
            clear hcV hcE hm HM HVe HT2
            go_wp2_with (go_at_call 96; ((with_reducible refine (CI _).mono ?_); rintro e w7 ⟨rfl, hg⟩; have HR7 := Lib.hid (HR6.out.keep hg); have HY7 := Lib.hid (HY6.out.keep hg); have HL7 := Lib.hid (HL6.out.keep hg); have HJ7 := Lib.hid (HJ6.out.keep hg); have HG7 := Lib.hid (grew_trans HG6.out hg); clear hg HR6 HY6 HL6 HJ6 HG6 HX6 x0 x1; have j0 := HJ7.out.at 0 (.int .i64 k) rfl; have l0 := HL7.out.at k _ HA.out; have lf := HL7.out.fr k hlen))
            have HL8 := Lib.hid (HL7.out.set k (.int .i64 V) hlen)
            rw [HS.out] at HL8
            have HR8 := Lib.hid (HR7.out.other ⟨lb, k, none⟩ (.int .i64 V) (Ne.symm HNR.out))
            have HY8 := Lib.hid (HY7.out.other ⟨lb, k, none⟩ (.int .i64 V) (Ne.symm HNY.out))
            have HG8 := Lib.hid (grew_set HG7.out (p := ⟨lb, k, none⟩) (.int .i64 V) HSL.out)
            go_roundw
            case rel => exact ⟨k + 1, by go_num, by omega, HM2.out, HR8.out, HY8.out, HL8.out, HG8.out⟩
            case measure => simp only [intOf]; omega
          · have hm := Bool.eq_false_iff.2 hm
            have hcV : capV V = 0 := capV_out hm
            have hcE : capE V = 1 := capE_out hm
            rw [hcV, hcE] at CI
            have hE : lossE r who cur l = 1 := lossE_1 hr hq hlt (by rw [HVe.out]; exact hm)
            have hA := lossA_no 1 (by decide) hE
            have HEe := Lib.hid hE
            have HAe := Lib.hid hA
            clear hcV hcE hm HM HVe HT2 hE hA HS HA
            go_wp2_with (go_at_call 96; ((with_reducible refine (CI _).mono ?_); rintro e w7 ⟨rfl, hg⟩; have HY7 := Lib.hid (HY6.out.keep hg); have HG7 := Lib.hid (grew_trans HG6.out hg); clear hg HR6 HY6 HL6 HJ6 HG6 HX6 x0 x1; have y0 := HY7.out.at 0 (.int .i64 0) rfl; have f0 := HY7.out.fr 0 (by simp); have y1 := HY7.out.at 1 (.int .i64 0) rfl; have f1 := HY7.out.fr 1 (by simp); have y2 := HY7.out.at 2 (.int .i64 0) rfl; have f2 := HY7.out.fr 2 (by simp); have y3 := HY7.out.at 3 (.int .i64 0) rfl; have f3 := HY7.out.fr 3 (by simp); have y4 := HY7.out.at 4 (.int .i64 0) rfl; have f4 := HY7.out.fr 4 (by simp); have y5 := HY7.out.at 5 (.int .i64 0) rfl; have f5 := HY7.out.fr 5 (by simp)))
            refine end_put (w := w) (P := bodyPost _ _ _ _ _) [.int .i64 0, .int .i64 0, .int .i64 0, .int .i64 0, .int .i64 0, .int .i64 0] (by rfl) HY7.out HG7.out (by omega) ?_
            intro w9 h9 g9
            have z0 := h9.at 0 (.int .i64 0) rfl; have z1 := h9.at 1 (.int .i64 0) rfl; have z2 := h9.at 2 (.int .i64 0) rfl; have z3 := h9.at 3 (.int .i64 0) rfl; have z4 := h9.at 4 (.int .i64 0) rfl; have z5 := h9.at 5 (.int .i64 0) rfl
            exact bodyPost_ret (v := .tuple #[.agg #[.int .i64 0, .int .i64 0, .int .i64 0, .int .i64 0, .int .i64 0, .int .i64 0], .int .i64 1]) (by simp [results, Tryz.results89, go_sem, z0, z1, z2, z3, z4, z5]) rfl ⟨by rw [HEe.out, HAe.out], g9⟩
        · obtain rfl : k = 6 := by omega
          obtain ⟨hE, hA⟩ := lossA_ok hr hq HM.out
          have HEe := Lib.hid hE
          have HAe := Lib.hid hA
          clear hE hA
          have HL9 := HL.out
          rw [c6_all] at HL9
          have l0 := HL9.at 0 (.int .i64 (lossV r who cur l 0)) rfl; have l1 := HL9.at 1 (.int .i64 (lossV r who cur l 1)) rfl; have l2 := HL9.at 2 (.int .i64 (lossV r who cur l 2)) rfl; have l3 := HL9.at 3 (.int .i64 (lossV r who cur l 3)) rfl; have l4 := HL9.at 4 (.int .i64 (lossV r who cur l 4)) rfl; have l5 := HL9.at 5 (.int .i64 (lossV r who cur l 5)) rfl
          have y0 := HY.out.at 0 (.int .i64 0) rfl; have f0 := HY.out.fr 0 (by simp); have y1 := HY.out.at 1 (.int .i64 0) rfl; have f1 := HY.out.fr 1 (by simp); have y2 := HY.out.at 2 (.int .i64 0) rfl; have f2 := HY.out.fr 2 (by simp); have y3 := HY.out.at 3 (.int .i64 0) rfl; have f3 := HY.out.fr 3 (by simp); have y4 := HY.out.at 4 (.int .i64 0) rfl; have f4 := HY.out.fr 4 (by simp); have y5 := HY.out.at 5 (.int .i64 0) rfl; have f5 := HY.out.fr 5 (by simp)
          go_wp2
          refine end_put (w := w) (P := bodyPost _ _ _ _ _) [.int .i64 (lossV r who cur l 0), .int .i64 (lossV r who cur l 1), .int .i64 (lossV r who cur l 2), .int .i64 (lossV r who cur l 3), .int .i64 (lossV r who cur l 4), .int .i64 (lossV r who cur l 5)] (by rfl) HY.out HG.out (by omega) ?_
          intro w9 h9 g9
          have z0 := h9.at 0 (.int .i64 (lossV r who cur l 0)) rfl; have z1 := h9.at 1 (.int .i64 (lossV r who cur l 1)) rfl; have z2 := h9.at 2 (.int .i64 (lossV r who cur l 2)) rfl; have z3 := h9.at 3 (.int .i64 (lossV r who cur l 3)) rfl; have z4 := h9.at 4 (.int .i64 (lossV r who cur l 4)) rfl; have z5 := h9.at 5 (.int .i64 (lossV r who cur l 5)) rfl
          exact bodyPost_ret (v := .tuple #[.agg #[.int .i64 (lossV r who cur l 0), .int .i64 (lossV r who cur l 1), .int .i64 (lossV r who cur l 2), .int .i64 (lossV r who cur l 3), .int .i64 (lossV r who cur l 4), .int .i64 (lossV r who cur l 5)], .int .i64 0]) (by simp [results, Tryz.results89, go_sem, z0, z1, z2, z3, z4, z5]) rfl ⟨by rw [HEe.out, HAe.out], g9⟩
    · have hq := Bool.eq_false_iff.2 hq
      rw [hq] at HC2
      have HEe := Lib.hid (lossE_3 (who := who) (cur := cur) hr hq)
      have HAe := Lib.hid (lossA_no 3 (by decide) HEe.out)
      go_wp2_with (first
        | (go_at_call 22; ((with_reducible refine (HC1.out _ HG0.out).mono ?_); rintro e w1 ⟨rfl, hg⟩; have HY1 := Lib.hid (HY0.out.keep hg); have HG1 := Lib.hid (grew_trans HG0.out hg); clear hg HR0 HY0 HG0 r0 r1 r2))
        | (go_at_call 129; ((with_reducible refine (HC2.out _ HG1.out).mono ?_); rintro e w2 ⟨rfl, hg⟩; have HY2 := Lib.hid (HY1.out.keep hg); have HG2 := Lib.hid (grew_trans HG1.out hg); clear hg HY1 HG1; have y0 := HY2.out.at 0 (.int .i64 0) rfl; have f0 := HY2.out.fr 0 (by simp); have y1 := HY2.out.at 1 (.int .i64 0) rfl; have f1 := HY2.out.fr 1 (by simp); have y2 := HY2.out.at 2 (.int .i64 0) rfl; have f2 := HY2.out.fr 2 (by simp); have y3 := HY2.out.at 3 (.int .i64 0) rfl; have f3 := HY2.out.fr 3 (by simp); have y4 := HY2.out.at 4 (.int .i64 0) rfl; have f4 := HY2.out.fr 4 (by simp); have y5 := HY2.out.at 5 (.int .i64 0) rfl; have f5 := HY2.out.fr 5 (by simp))))
      refine end_put (w := w) (P := bodyPost _ _ _ _ _) [.int .i64 0, .int .i64 0, .int .i64 0, .int .i64 0, .int .i64 0, .int .i64 0] (by rfl) HY2.out HG2.out (by omega) ?_
      intro w9 h9 g9
      have z0 := h9.at 0 (.int .i64 0) rfl; have z1 := h9.at 1 (.int .i64 0) rfl; have z2 := h9.at 2 (.int .i64 0) rfl; have z3 := h9.at 3 (.int .i64 0) rfl; have z4 := h9.at 4 (.int .i64 0) rfl; have z5 := h9.at 5 (.int .i64 0) rfl
      exact bodyPost_ret (v := .tuple #[.agg #[.int .i64 0, .int .i64 0, .int .i64 0, .int .i64 0, .int .i64 0, .int .i64 0], .int .i64 3]) (by simp [results, Tryz.results89, go_sem, z0, z1, z2, z3, z4, z5]) rfl ⟨by rw [HEe.out, HAe.out], g9⟩
  · have hr := Bool.eq_false_iff.2 hr
    rw [chkV_no hr] at HC1
    have HEe := Lib.hid (lossE_14 (who := who) (cur := cur) (l := l) hr)
    have HAe := Lib.hid (lossA_no 14 (by decide) HEe.out)
    go_wp2_with (go_at_call 22; ((with_reducible refine (HC1.out _ HG0.out).mono ?_); rintro e w1 ⟨rfl, hg⟩; have HY1 := Lib.hid (HY0.out.keep hg); have HG1 := Lib.hid (grew_trans HG0.out hg); clear hg HR0 HY0 HG0 r0 r1 r2; have y0 := HY1.out.at 0 (.int .i64 0) rfl; have f0 := HY1.out.fr 0 (by simp); have y1 := HY1.out.at 1 (.int .i64 0) rfl; have f1 := HY1.out.fr 1 (by simp); have y2 := HY1.out.at 2 (.int .i64 0) rfl; have f2 := HY1.out.fr 2 (by simp); have y3 := HY1.out.at 3 (.int .i64 0) rfl; have f3 := HY1.out.fr 3 (by simp); have y4 := HY1.out.at 4 (.int .i64 0) rfl; have f4 := HY1.out.fr 4 (by simp); have y5 := HY1.out.at 5 (.int .i64 0) rfl; have f5 := HY1.out.fr 5 (by simp)))
    refine end_put (w := w) (P := bodyPost _ _ _ _ _) [.int .i64 0, .int .i64 0, .int .i64 0, .int .i64 0, .int .i64 0, .int .i64 0] (by rfl) HY1.out HG1.out (by omega) ?_
    intro w9 h9 g9
    have z0 := h9.at 0 (.int .i64 0) rfl; have z1 := h9.at 1 (.int .i64 0) rfl; have z2 := h9.at 2 (.int .i64 0) rfl; have z3 := h9.at 3 (.int .i64 0) rfl; have z4 := h9.at 4 (.int .i64 0) rfl; have z5 := h9.at 5 (.int .i64 0) rfl
    exact bodyPost_ret (v := .tuple #[.agg #[.int .i64 0, .int .i64 0, .int .i64 0, .int .i64 0, .int .i64 0, .int .i64 0], .int .i64 14]) (by simp [results, Tryz.results89, go_sem, z0, z1, z2, z3, z4, z5]) rfl ⟨by rw [HEe.out, HAe.out], g9⟩
end Go.Proofs.YtodnllopokoicaaGreat.NumK
