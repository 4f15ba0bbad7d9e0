/- The reference's Join. -/
import Derived.Test.YtlmnbafklefmcaaRG10
import Derived.Test.YtlmnbafklefmcaaRG7
import Derived.Test.YtlmnbafklefmcaaRG1
import Derived.Test.YtlmnbafklefmcaaRG2
import Derived.Test.YtlmnbafklefmcaaRG4
import Derived.Test.YtlmnbafklefmcaaRG3
import Derived.Deep.CutBlock
import Derived.Test.YtlmnbafklefmcaaRG5
import Derived.Test.YtlmnbafklefmcaaRG9
namespace Go.Proofs.Ytlmnbafklefmcaa.NumK
open Go.RowKit

set_option maxRecDepth 100000 in
set_option maxHeartbeats 4000000 in
theorem refJoin_any (A : Option Addr) (n c : Nat) (l : List Lg) (w : World) (h : RowE enLg w A n l) (hn : n ≤ 90000) :
    Calls Try.prog 36 #[.slice A n c] w fun e w' => ∃ v, e = .returned (.tuple #[v, .int .i64 (joinE l)]) ∧ OwnE enLg w' w.heap.size 50 v (joinL l) ∧ Grew w w' := by
  have HI := Lib.hid h
  have HL := Lib.hid h.len
  have CR := fun w (h : RowE enLg w A n l) => refMay_any A n c l w h (by omega)
  clear h
  by_cases hm : mayL l = true
  · rw [hm] at CR
    have HM := Lib.hid hm
    have HYES := Lib.hid (join_yes hm)
    have HNO := Lib.hid (join_no hm)
    clear hm
    have HJL : Hid (joinL l = if joinE l = 0 then joinF (sumA l) 108 else []) := rfl
    generalize joinE l = JE at *
    have CA : ∀ (w : World) (N : Nat), w.heap.size = N → Calls Try.prog 58 #[.slice (some ⟨N, 0, none⟩) 6 6] (w.alloc (.cells #[.int .i64 1, .int .i64 2, .int .i64 3, .int .i64 4, .int .i64 5, .int .i64 6] 3)) fun e w' => ∃ A c, e = .returned (.slice A 108 c) ∧ RowE enAc w' A 108 allK ∧ Grew w w' := by
      intro w N hN
      refine (r8all_any (some ⟨N, 0, none⟩) 6 6 [1, 2, 3, 4, 5, 6] _ (ints6' w 1 2 3 4 5 6 _ N hN) (by omega)).mono ?_
      rintro e w' ⟨v, rfl, ho, hg⟩
      obtain ⟨A, c, rfl, hr, _⟩ := ho.form
      have hl : (allL [1, 2, 3, 4, 5, 6]).length = 108 := allK_len
      rw [hl] at hr ⊢
      exact ⟨A, c, rfl, hr, own_back hg⟩
    go_enter Try.func36, Try.ntmps36
    go_wp2_with (first
      | (go_at_call 38; ((with_reducible refine (CR _ HI.out).mono ?_); rintro e w1 ⟨rfl, hg⟩; have HG1 := Lib.hid hg; clear hg))
      | (go_at_call 58; ((with_reducible refine (CA _ _ rfl).mono ?_); rintro e w4 ⟨A2, c2, rfl, hr, hg⟩; have HR := Lib.hid hr; have HG4 := Lib.hid (grew_trans HG1.out hg); clear hr hg)))
    clear CR CA HG1
    go_loopw [4, 6] (fun v4 v6 wr => ∃ k : Nat, v6 = .int .i64 k ∧ k ≤ 108 ∧ Hid (OwnE enLg wr w4.heap.size 50 v4 (joinF (sumA l) k)) ∧ Hid (∀ i, i < k → isMoney (sumA l (allK.getD i ac0)) = true) ∧ Hid (Grew w4 wr)) (fun _ v6 _ => 108 - (intOf v6).toNat)
    case atStart => exact ⟨0, rfl, by omega, OwnE.nil enLg _ _ _, (by intro i hi; omega), grew_refl _⟩
    case round =>
      obtain ⟨k, rfl, hk, HO, HK, HG⟩ := hrel
      generalize wr = wo at *
      by_cases hlt : k < 108
      · obtain ⟨bA, oA, rfl, hbA, r1, r2, r3⟩ := (HR.out.keep HG.out).ac hlt
        have hJ := joinF_succ (sumA l) k hlt
        have hJN := joinF_len (sumA l) k
        have hno := HNO.out k hlt
        have hkk : isMoney (sumA l (allK.getD k ac0)) = true → ∀ i, i < k + 1 → isMoney (sumA l (allK.getD i ac0)) = true := fun h i hi => by
          rcases Nat.lt_or_ge i k with h1 | h1
          · exact HK.out i h1
          · obtain rfl : i = k := by omega
            exact h
        have i1 : (k : Int) < 108 := by omega
        have i0 : (0 : Int) ≤ (k : Int) := by omega
        change wo.cell? ⟨bA, oA + k * 3, none⟩ = some (.int .i64 (allK.getD k ac0).1) at r1
        change wo.cell? ⟨bA, oA + k * 3 + 1, none⟩ = some (.int .i64 (allK.getD k ac0).2.1) at r2
        change wo.cell? ⟨bA, oA + k * 3 + 2, none⟩ = some (.int .i64 (allK.getD k ac0).2.2) at r3
        clear HK
        generalize allK.getD k ac0 = y at *
        have HJ := Lib.hid hJ
        have HJN := Lib.hid hJN
        have HNO1 := Lib.hid hno
        have HKK := Lib.hid hkk
        have HY : Hid (wo.cell? ⟨bA, oA + k * 3, none⟩ = some (.int .i64 y.1) ∧ wo.cell? ⟨bA, oA + k * 3 + 1, none⟩ = some (.int .i64 y.2.1) ∧ wo.cell? ⟨bA, oA + k * 3 + 2, none⟩ = some (.int .i64 y.2.2) ∧ bA < wo.heap.size) := ⟨r1, r2, r3, hbA⟩
        clear hJ hJN hno hkk HNO r1 r2 r3 hbA
        go_wp2
        go_loopw [7, 8] (fun v7 v8 wx => ∃ j : Nat, v8 = .int .i64 j ∧ j ≤ n ∧ Hid (OwnE enInt wx wo.heap.size 3 v7 (amts (fun x => decide (x.1 = y)) (l.take j))) ∧ Hid (Grew wo wx)) (fun _ v8 _ => n - (intOf v8).toNat)
        case atStart => exact ⟨0, rfl, by omega, OwnE.nil enInt _ _ _, grew_refl _⟩
        case round =>
          obtain ⟨j, rfl, hj, HN, HG2⟩ := hrel
          by_cases hjn : j < n
          · have hjl : j < l.length := by rw [HL.out]; exact hjn
            obtain ⟨b, o, rfl, hb, a1, a2, a3, a4⟩ := (HI.out.keep (grew_trans HG4.out (grew_trans HG.out HG2.out))).lg hjn
            have HA := Lib.hid (amts_snoc (fun x => decide (x.1 = y)) l j hjl)
            have HAL : Hid ((amts (fun x => decide (x.1 = y)) (l.take j)).length ≤ 90000) := by show _ ≤ _; have := amts_len (fun x => decide (x.1 = y)) (l.take j); rw [List.length_take] at this; omega
            have i2 : (j : Int) < (n : Int) := by omega
            have i3 : (0 : Int) ≤ (j : Int) := by omega
            have HSZ : Hid (wo.heap.size ≤ wr.heap.size) := HG2.out.size
            generalize l.getD j lg0 = x at *
            have x1 : ∀ p : GrewTo wr, p.to.cell? ⟨b, o + j * 4, none⟩ = _ := fun p => (grew_cell p.h (p := ⟨b, o + j * 4, none⟩) hb).trans a1
            have x2 : ∀ p : GrewTo wr, p.to.cell? ⟨b, o + j * 4 + 1, none⟩ = _ := fun p => (grew_cell p.h (p := ⟨b, o + j * 4 + 1, none⟩) hb).trans a2
            have x3 : ∀ p : GrewTo wr, p.to.cell? ⟨b, o + j * 4 + 2, none⟩ = _ := fun p => (grew_cell p.h (p := ⟨b, o + j * 4 + 2, none⟩) hb).trans a3
            have y1 : ∀ p : GrewTo wr, p.to.cell? ⟨bA, oA + k * 3, none⟩ = _ := fun p => (grew_cell (grew_trans HG2.out p.h) (p := ⟨bA, oA + k * 3, none⟩) HY.out.2.2.2).trans HY.out.1
            have y2 : ∀ p : GrewTo wr, p.to.cell? ⟨bA, oA + k * 3 + 1, none⟩ = _ := fun p => (grew_cell (grew_trans HG2.out p.h) (p := ⟨bA, oA + k * 3 + 1, none⟩) HY.out.2.2.2).trans HY.out.2.1
            have y3 : ∀ p : GrewTo wr, p.to.cell? ⟨bA, oA + k * 3 + 2, none⟩ = _ := fun p => (grew_cell (grew_trans HG2.out p.h) (p := ⟨bA, oA + k * 3 + 2, none⟩) HY.out.2.2.2).trans HY.out.2.2.1
            have CS := fun w => same_any x.1.1 x.1.2.1 x.1.2.2 y.1 y.2.1 y.2.2 w
            rw [sameA_iff] at CS
            have HB := Lib.hid hb
            have HA4 := Lib.hid a4
            unfold acV at CS
            clear a1 a2 a3 a4 hb
            by_cases hc : x.1 = y
            · have HA1 : Hid (amts (fun x => decide (x.1 = y)) (l.take (j + 1)) = amts (fun x => decide (x.1 = y)) (l.take j) ++ [x.2]) := by show _ = _; rw [HA.out, if_pos (by simpa using hc)]
              rw [decide_eq_true hc] at CS
              clear HA hc
              generalize x.2 = q4 at *
              generalize x.1.1 = q1 at *
              generalize x.1.2.1 = q2 at *
              generalize x.1.2.2 = q3 at *
              go_wp2_with fail
              refine wp_region_grew (by kernel_rfl) (by kernel_rfl) ?_
              repeat (go_big_quiet_step (with_reducible exact calls_grew (CS _)))
              refine wpQuiet_nil ?_
              intro w5 hw'
              have hg5 := grew_of hw'
              have a5 : w5.cell? ⟨b, o + j * 4 + 3, none⟩ = some (.int .i64 q4) := (grew_cell hg5 (p := ⟨b, o + j * 4 + 3, none⟩) HB.out).trans HA4.out
              have HG5 := Lib.hid hg5
              clear hw' hg5 x1 x2 x3 y1 y2 y3 CS
              go_wp2_with (at_builtin; refine (wpList_append_E rfl _ _ 52 3 (.int .i64 0) 8 rfl Try.underlying52 info_int1 rfl wo.heap.size _ _ rfl ((HN.out.keep HG5.out).keep (grew_alloc _ _ _)) _ 1 1 [q4] rfl (by intro h; cases h) (rowI_one _ _ _ _ rfl) (by have := HAL.out; unfold maxLen; omega) (by have := HAL.out; omega) (Nat.le_trans (Nat.le_trans HSZ.out HG5.out.size) (grew_alloc w5 _ _).size) ?_); intro v6 w6 hv hb6; rw [← HA1.out] at hv; have HV6 := Lib.hid hv; have HG6 : Hid (Grew wo w6) := Below.trans (grew_trans HG2.out (grew_trans HG5.out (grew_alloc _ _ _))) hb6; clear hv hb6)
              go_roundw
              case rel => exact ⟨j + 1, by go_num, by omega, HV6.out, HG6.out⟩
              case measure => simp only [intOf]; omega
            · have HA1 : Hid (amts (fun x => decide (x.1 = y)) (l.take (j + 1)) = amts (fun x => decide (x.1 = y)) (l.take j)) := by show _ = _; rw [HA.out, if_neg (by simpa using hc), List.append_nil]
              rw [← HA1.out] at HN
              rw [decide_eq_false hc] at CS
              clear HA hc HA1
              generalize x.2 = q4 at *
              generalize x.1.1 = q1 at *
              generalize x.1.2.1 = q2 at *
              generalize x.1.2.2 = q3 at *
              go_wp2_with fail
              refine wp_region_grew (by kernel_rfl) (by kernel_rfl) ?_
              repeat (go_big_quiet_step (with_reducible exact calls_grew (CS _)))
              refine wpQuiet_nil ?_
              intro w5 hw'
              have HG5 := Lib.hid (grew_of hw')
              clear hw' x1 x2 x3 y1 y2 y3 CS
              go_wp2
              go_roundw
              case rel => exact ⟨j + 1, by go_num, by omega, HN.out.keep HG5.out, grew_trans HG2.out HG5.out⟩
              case measure => simp only [intOf]; omega
          · obtain rfl : j = n := by omega
            rw [List.take_of_length_le (by rw [HL.out]; exact Nat.le_refl _)] at HN
            obtain ⟨A3, c3, rfl, hr3, _⟩ := HN.out.form
            have CD := add_any A3 _ c3 _ wr (ints_of_E hr3) (amts_in _ l HM.out) (Nat.le_trans (amts_len _ l) (by rw [HL.out]; omega))
            rw [amts_A] at CD
            generalize (amts (fun x => decide (x.1 = y)) l).length = N3 at *
            have HOW := Lib.hid (HO.out.keep HG2.out)
            have HSZ : Hid (w4.heap.size ≤ wr.heap.size) := Nat.le_trans HG.out.size HG2.out.size
            have HYW : Hid (∀ w', Grew wr w' → w'.cell? ⟨bA, oA + k * 3, none⟩ = some (.int .i64 y.1) ∧ w'.cell? ⟨bA, oA + k * 3 + 1, none⟩ = some (.int .i64 y.2.1) ∧ w'.cell? ⟨bA, oA + k * 3 + 2, none⟩ = some (.int .i64 y.2.2)) := fun w' g =>
              ⟨(grew_cell (grew_trans HG2.out g) (p := ⟨bA, oA + k * 3, none⟩) HY.out.2.2.2).trans HY.out.1, (grew_cell (grew_trans HG2.out g) (p := ⟨bA, oA + k * 3 + 1, none⟩) HY.out.2.2.2).trans HY.out.2.1, (grew_cell (grew_trans HG2.out g) (p := ⟨bA, oA + k * 3 + 2, none⟩) HY.out.2.2.2).trans HY.out.2.2.1⟩
            clear hr3 HN HY HO
            generalize sumA l y = s at *
            cases hmm : isMoney s
            · have HE1 := Lib.hid (HNO1.out hmm)
              have HJ0 : Hid (joinL l = []) := by show _ = _; rw [HJL.out, HE1.out]; rfl
              rw [hmm, intV_out hmm] at CD
              clear hmm HNO1 HKK HJ
              go_wp2_with (go_at_call 29; ((with_reducible refine CD.mono ?_); rintro e w7 ⟨rfl, hg⟩; have HG7 := Lib.hid hg; clear hg CD))
              go_ret2
              exact ⟨_, by rw [HE1.out]; rfl, by rw [HJ0.out]; exact OwnE.nil enLg _ _ _, grew_trans HG4.out (grew_trans HG.out (grew_trans HG2.out HG7.out))⟩
            · have HKK2 := Lib.hid (HKK.out hmm)
              rw [hmm, intV_in hmm] at CD
              clear hmm HNO1 HKK
              by_cases h0 : s = 0
              · have HJ0 : Hid (joinF (sumA l) (k + 1) = joinF (sumA l) k) := by show _ = _; rw [HJ.out, if_pos h0, List.append_nil]
                rw [← HJ0.out] at HOW
                subst h0
                clear HJ HJ0
                go_wp2_with (go_at_call 29; ((with_reducible refine CD.mono ?_); rintro e w7 ⟨rfl, hg⟩; have HG7 := Lib.hid hg; clear hg CD))
                go_roundw
                case rel => exact ⟨k + 1, by go_num, by omega, HOW.out.keep HG7.out, HKK2.out, grew_trans HG.out (grew_trans HG2.out HG7.out)⟩
                case measure => simp only [intOf]; omega
              · have HJ1 : Hid (joinF (sumA l) (k + 1) = joinF (sumA l) k ++ [(y, s)]) := by show _ = _; rw [HJ.out, if_neg h0]
                have d0 : (s != 0) = true := by simpa using h0
                clear HJ h0
                rcases y with ⟨y1, y2, y3⟩
                dsimp only at HYW
                go_wp2_with (first
                  | (go_at_call 29; ((with_reducible refine CD.mono ?_); rintro e w7 ⟨rfl, hg⟩; obtain ⟨z1, z2, z3⟩ := HYW.out w7 hg; have HG7 := Lib.hid hg; clear hg CD))
                  | (at_builtin; refine (wpList_append_E rfl _ _ 33 50 (legV 0 0 0 0) 32 rfl Try.underlying33 info_lg rfl w4.heap.size _ _ rfl ((HOW.out.keep HG7.out).keep (grew_alloc _ _ _)) _ 1 1 [((y1, y2, y3), s)] rfl (by intro h; cases h) (rowL_one _ _ _ _ _ _ _ rfl) (by have := HJN.out; unfold maxLen; omega) (by have := HJN.out; omega) (Nat.le_trans (Nat.le_trans HSZ.out HG7.out.size) (grew_alloc w7 _ _).size) ?_); intro v6 w6 hv hb6; rw [← HJ1.out] at hv; have HV6 := Lib.hid hv; have HG6 : Hid (Grew w4 w6) := Below.trans (grew_trans HG.out (grew_trans HG2.out (grew_trans HG7.out (grew_alloc _ _ _)))) hb6; clear hv hb6))
                go_roundw
                case rel => exact ⟨k + 1, by go_num, by omega, HV6.out, HKK2.out, HG6.out⟩
                case measure => simp only [intOf]; omega
      · obtain rfl : k = 108 := by omega
        have HE0 := Lib.hid (HYES.out HK.out)
        have HJ0 : Hid (joinL l = joinF (sumA l) 108) := by show _ = _; rw [HJL.out, HE0.out]; rfl
        go_wp2
        go_ret2
        exact ⟨_, by rw [HE0.out]; rfl, by rw [HJ0.out]; exact HO.out.mono HG4.out.size, grew_trans HG4.out HG.out⟩
  · rw [Bool.not_eq_true] at hm
    rw [hm] at CR
    have HE : Hid (joinE l = 3) := by show _ = _; unfold joinE; rw [hm]; rfl
    have HJ : Hid (joinL l = []) := by show _ = _; unfold joinL; rw [HE.out]; rfl
    rw [HE.out, HJ.out]
    clear hm HE HJ
    go_enter Try.func36, Try.ntmps36
    go_wp2_with (go_at_call 38; ((with_reducible refine (CR _ HI.out).mono ?_); rintro e w1 ⟨rfl, hg⟩; have HG1 := Lib.hid hg; clear hg))
    go_ret2
    exact ⟨_, rfl, OwnE.nil enLg _ _ _, HG1.out⟩
end Go.Proofs.Ytlmnbafklefmcaa.NumK
namespace Go.Proofs.Ytlmnbafklefmcaa.NumK
open Go.RowKit Go.Maps
set_option linter.unusedVariables false

theorem legsN_succ (l : List Dn) (j : Nat) (h : j < l.length) : legsN (l.take (j + 1)) = legsN (l.take j) ++ [cashN (l.getD j (0, 0, 0)), varN (l.getD j (0, 0, 0))] := by
  rw [List.take_succ_eq_append_getElem h, legsN_snoc, getD_at l (0, 0, 0) j h]
theorem held_at {l : List D3} {i : Nat} (hi : i < l.length) (h : heldD (l.getD i (0, 0, 0)) = false) : l.all heldD = false := by
  rw [← Bool.not_eq_true, List.all_eq_true]
  intro h2
  have := h2 _ (getD_mem l (0, 0, 0) i hi)
  rw [h] at this; cases this
theorem held_all {l : List D3} (h : ∀ i, i < l.length → heldD (l.getD i (0, 0, 0)) = true) : l.all heldD = true := by
  rw [List.all_eq_true]
  intro x hx
  obtain ⟨i, hi, rfl⟩ := List.getElem_of_mem hx
  have := h i hi
  rw [getD_at l (0, 0, 0) i hi] at this
  exact this

set_option maxRecDepth 100000 in
set_option maxHeartbeats 8000000 in
theorem rnetlegs_any (A : Option Addr) (n c : Nat) (l : List D3) (w : World) (h : RowE enD3 w A n l) (hn : n ≤ 1000) :
    Calls Try.prog 16 #[.slice A n c] w (NlPost l w) := by
  have HI := Lib.hid h
  have HL := Lib.hid h.len
  have HLN : Hid ((netF l).length ≤ n) := by show _ ≤ _; rw [← h.len]; exact len_net l
  have CN := fun w' (g : Grew w w') => rnet_any A n c l w' (h.keep g) (by omega)
  unfold NetPost at CN
  have HARG : Hid (∀ i, i < l.length → heldD (l.getD i (0, 0, 0)) = false → ∀ w', Grew w w' → NlPost l w (.returned (.tuple #[.slice none 0 0, .int .i64 3])) w') := fun i hi h w' g => nlP_arg (held_at hi h) g
  have HNET : Hid ((∀ i, i < l.length → heldD (l.getD i (0, 0, 0)) = true) → netE l ≠ 0 → ∀ w', Grew w w' → NlPost l w (.returned (.tuple #[.slice none 0 0, .int .i64 (netE l)])) w') := fun h hz w' g => nlP_net (held_all h) hz g
  have HYES : Hid ((∀ i, i < l.length → heldD (l.getD i (0, 0, 0)) = true) → netE l = 0 → ∀ w' v, OwnE enLg w' w.heap.size 50 v (joinL (legsN (netF l))) → Grew w w' → NlPost l w (.returned (.tuple #[v, .int .i64 (joinE (legsN (netF l)))])) w') := fun h hz w' v ho g => nlP_join (held_all h) hz ho g
  have HMO : Hid (netE l = 0 → ∀ j, j < (netF l).length → okD ((netF l).getD j (0, 0, 0)) = true) := fun hz j hj => List.all_eq_true.1 (net_money hz) _ (getD_mem _ (0, 0, 0) j hj)
  have HLOK : Hid (netE l = 0 → netL l = netF l) := fun hz => netL_ok hz
  clear h
  generalize NlPost l w = PP at *
  go_enter Try.func16, Try.ntmps16
  go_wp2
  go_loopw [4] (fun v wr => ∃ j : Nat, v = .int .i64 j ∧ j ≤ n ∧ Hid (∀ i, i < j → heldD (l.getD i (0, 0, 0)) = true) ∧ Hid (Grew w wr)) (fun v _ => n - (intOf v).toNat)
  case atStart => exact ⟨0, rfl, by omega, fun i hi => by omega, grew_refl _⟩
  case round =>
    obtain ⟨j, rfl, hj, HK, HG⟩ := hrel
    by_cases hlt : j < n
    · obtain ⟨b, o, rfl, hb, hc⟩ := (HI.out.keep HG.out).rD3 hlt
      obtain ⟨a0, a1, a2⟩ := hc j hlt
      have HF1 := Lib.hid (HARG.out j (by rw [HL.out]; exact hlt))
      have HK1 : Hid (heldD (l.getD j (0, 0, 0)) = true → ∀ i, i < j + 1 → heldD (l.getD i (0, 0, 0)) = true) := fun h i hi => by
        rcases Nat.lt_or_ge i j with h1 | h1
        · exact HK.out i h1
        · obtain rfl : i = j := by omega
          exact h
      have D1 := fun w' (g : Grew wr w') => r8right_any 2 (l.getD j (0, 0, 0)).1 (l.getD j (0, 0, 0)).2.1 w'
      have HE : Hid (heldD (l.getD j (0, 0, 0)) = rightA 2 (l.getD j (0, 0, 0)).1 (l.getD j (0, 0, 0)).2.1) := rfl
      unfold acV at D1
      rw [← HE.out] at D1
      have i0 : (0 : Int) ≤ (j : Int) := by omega
      have i1 : (j : Int) < (n : Int) := by omega
      clear hc HE HARG HNET HYES HMO HLOK CN HLN
      generalize heldD (l.getD j (0, 0, 0)) = m at *
      generalize l.getD j (0, 0, 0) = x at *
      obtain ⟨q1, q2, q3⟩ := x
      dsimp only at a0 a1 a2 D1
      have x0 := grew_every (w := wr) (S := fun w' => w'.cell? ⟨b, o + j * 3, none⟩ = some (.int .i64 q1)) (fun w' g => (grew_cell g (p := ⟨b, _, none⟩) hb).trans a0)
      have x1 := grew_every (w := wr) (S := fun w' => w'.cell? ⟨b, o + j * 3 + 1, none⟩ = some (.int .i64 q2)) (fun w' g => (grew_cell g (p := ⟨b, _, none⟩) hb).trans a1)
      clear a0 a1 a2 hb
      go_upto_region 4 with fail
      refine wp_region_grew (by kernel_rfl) (by kernel_rfl) ?_
      repeat (go_big_quiet_step (with_reducible (exact calls_every D1)))
      refine wpQuiet_nil ?_
      intro w6 hw'
      have HG6 := Lib.hid (grew_of hw')
      clear hw' x0 x1 D1
      cases m
      · go_wp2
        exact HF1.out (by trivial) _ (grew_trans HG.out HG6.out)
      · have HK2 := Lib.hid (HK1.out rfl)
        clear HF1 HK1 HK
        go_wp2
        go_roundw
        case rel => exact ⟨j + 1, by go_num, by omega, HK2.out, grew_trans HG.out HG6.out⟩
        case measure => simp only [intOf]; omega
    · obtain rfl : j = n := by omega
      have HK' : Hid (∀ i, i < l.length → heldD (l.getD i (0, 0, 0)) = true) := fun i hi => HK.out i (by rw [HL.out] at hi; exact hi)
      have HNET' := Lib.hid (HNET.out HK'.out)
      have HYES' := Lib.hid (HYES.out HK'.out)
      have CN' := CN _ HG.out
      clear HK HK' HNET HYES HARG CN HI HL hlt hj
      by_cases hz : netE l = 0
      · have HYES2 := Lib.hid (HYES'.out hz)
        rw [HLOK.out hz, hz] at CN'
        have HMO2 := Lib.hid (HMO.out hz)
        clear HYES' HNET' HMO HLOK hz
        generalize netF l = m at *
        go_wp2_with (go_at_call 10; ((with_reducible refine CN'.mono ?_); rintro e w2 ⟨v2, rfl, ho2, hg2⟩; obtain ⟨B, d, rfl, hrB, -, -, -⟩ := ho2.form; have HRB := Lib.hid hrB; have HGW := Lib.hid (grew_trans HG.out hg2); clear ho2 hrB hg2))
        clear CN' HG
        have HBC0 : Hid (0 < m.length → ∀ b o, B = some ⟨b, o, none⟩ → b < w2.heap.size) := fun h0 b o e => by obtain ⟨b', o', e', hb', _⟩ := HRB.out.at h0; rw [e] at e'; cases e'; exact hb'
        generalize w2 = wC at *
        go_loopw [7, 8] (fun v7 v8 wr => ∃ i : Nat, v8 = .int .i64 i ∧ i ≤ m.length ∧ Hid (OwnE enLg wr wC.heap.size 50 v7 (legsN (m.take i))) ∧ Hid (Grew wC wr)) (fun _ v8 _ => m.length - (intOf v8).toNat)
        case atStart => exact ⟨0, rfl, by omega, OwnE.nil _ _ _ _, grew_refl _⟩
        case round =>
          obtain ⟨i, rfl, hi, HO, HG⟩ := hrel
          have hi9 : i ≤ 1000 := by have := HLN.out; omega
          by_cases hlt : i < m.length
          · obtain ⟨b, o, rfl, hb, hc⟩ := (HRB.out.keep HG.out).rD3 hlt
            obtain ⟨a0, a1, a2⟩ := hc i hlt
            have HS := Lib.hid (legsN_succ m i hlt)
            have HLL : Hid ((legsN (m.take i)).length ≤ 200000) := by show _ ≤ _; rw [legsN_len, List.length_take]; omega
            have HM := Lib.hid (HMO2.out i hlt)
            have i0 : (0 : Int) ≤ (i : Int) := by omega
            have i1 : (i : Int) < (m.length : Int) := by omega
            clear hc HYES2 HMO2
            generalize legsN (m.take i) = lj at *
            generalize m.getD i (0, 0, 0) = x at *
            obtain ⟨q1, q2, q3⟩ := x
            dsimp only at a0 a1 a2
            have hq : -4611686018427387904 ≤ q3 ∧ q3 ≤ 4611686018427387904 := (isMoney_iff q3).1 HM.out
            have HCL : Hid (∀ w', Grew wr w' → (w'.cell? ⟨b, o + i * 3, none⟩ = some (.int .i64 q1) ∧ w'.cell? ⟨b, o + i * 3 + 1, none⟩ = some (.int .i64 q2) ∧ w'.cell? ⟨b, o + i * 3 + 2, none⟩ = some (.int .i64 q3))) := fun w' g => ⟨(grew_cell g (p := ⟨b, _, none⟩) hb).trans a0, (grew_cell g (p := ⟨b, _, none⟩) hb).trans a1, (grew_cell g (p := ⟨b, _, none⟩) hb).trans a2⟩
            go_upto_region 13 with fail
            have hw : IntKind.i64.wrap (-q3) = -q3 := by simp [IntKind.wrap, IntKind.bits, IntKind.signed]; omega
            have HRW : Hid (RowE enLg (wr.alloc (.cells #[.int .i64 2, .int .i64 q1, .int .i64 q2, .int .i64 q3, .int .i64 5, .int .i64 0, .int .i64 q2, .int .i64 (IntKind.i64.wrap (-q3))] 50)) (some ⟨wr.heap.size, 0, none⟩) 2 [cashN (q1, q2, q3), varN (q1, q2, q3)]) := by rw [hw]; exact rowE_two _ _ _ _ _ _ _ _ _ _ _ rfl
            clear hw
            have HVL : Hid (∀ g, u7.ownBlock = some g → wC.heap.size ≤ g) := fun g e => (World.ownsRow.lt HO.out g e).1
            have HBC : Hid (b < wC.heap.size) := HBC0.out (by omega) b o rfl
            have HVN : Hid (∀ w1 w2 : World, w1.grownBy w2 u7.ownBlock → wr.heap.size ≤ w1.heap.size → ∀ p, w2.cell? ⟨b, p, none⟩ = w1.cell? ⟨b, p, none⟩) := fun w1 w2 hg hs p => hg.cell_far ⟨b, p, none⟩ (Nat.lt_of_lt_of_le hb hs) (fun e => by have := HVL.out b e.symm; have := HBC.out; omega)
            go_region_held3 (fun w' => w'.cell? ⟨b, o + i * 3, none⟩ = some (.int .i64 q1) ∧ w'.cell? ⟨b, o + i * 3 + 1, none⟩ = some (.int .i64 q2) ∧ w'.cell? ⟨b, o + i * 3 + 2, none⟩ = some (.int .i64 q3))
              (first
                | (with_reducible exact HCL.out _ (grew_drew (grew_refl _)))
                | (with_reducible exact HCL.out _ (grew_drew (grew_alloc _ _ _)))
                | (with_reducible exact HS5.out))
              (first
                | (refine step_append_G rfl _ _ 33 50 (legV 0 0 0 0) 32 rfl Try.underlying33 info_lg rfl wC.heap.size _ lj (by rfl) (HO.out.keep (grew_drew (grew_alloc _ _ _))) ⟨wr.heap.size, 0, none⟩ 2 2 [cashN (q1, q2, q3), varN (q1, q2, q3)] (by rfl) (HRW.out.keep (grew_drew (grew_refl _))) (by have := HLL.out; unfold maxLen; omega) (by have := HLL.out; omega) (Nat.le_trans HG.out.size (grew_drew (grew_alloc _ _ _)).size) ?_; intro v5 w5 ho hb5 hgb; have HO5 := Lib.hid ho; have HG5 : Hid (Grew wC w5) := Below.trans (grew_trans HG.out (grew_drew (grew_alloc _ _ _))) hb5; have HS5 : Hid (w5.cell? ⟨b, o + i * 3, none⟩ = some (.int .i64 q1) ∧ w5.cell? ⟨b, o + i * 3 + 1, none⟩ = some (.int .i64 q2) ∧ w5.cell? ⟨b, o + i * 3 + 2, none⟩ = some (.int .i64 q3)) := ⟨(HVN.out _ _ hgb (grew_drew (grew_alloc _ _ _)).size _).trans (HCL.out _ (grew_drew (grew_alloc _ _ _))).1, (HVN.out _ _ hgb (grew_drew (grew_alloc _ _ _)).size _).trans (HCL.out _ (grew_drew (grew_alloc _ _ _))).2.1, (HVN.out _ _ hgb (grew_drew (grew_alloc _ _ _)).size _).trans (HCL.out _ (grew_drew (grew_alloc _ _ _))).2.2⟩; clear ho hb5 hgb))
            rw [← HS.out] at HO5
            go_wp2
            go_roundw
            case rel => exact ⟨i + 1, by go_num, by omega, HO5.out, HG5.out⟩
            case measure => simp only [intOf]; omega
          · obtain rfl : i = m.length := by omega
            rw [List.take_length] at HO
            have CJ := fun (B2 : Option Addr) (d2 : Nat) w' (hr : RowE enLg w' B2 (legsN m).length (legsN m)) => refJoin_any B2 _ d2 (legsN m) w' hr (by rw [legsN_len]; omega)
            obtain ⟨B2, d2, rfl, hr2, -, -, -⟩ := HO.out.form
            have C2 := CJ B2 d2 _ hr2
            clear CJ hr2 HMO2
            generalize (legsN m).length = n5 at *
            go_wp2_with (go_at_call 36; ((with_reducible refine C2.mono ?_); rintro e w7 ⟨v7, rfl, ho7, hg7⟩; have HO7 := Lib.hid ho7; have HG7 := Lib.hid hg7; clear ho7 hg7))
            exact HYES2.out _ _ (HO7.out.mono (grew_trans HGW.out HG.out).size) (grew_trans (grew_trans HGW.out HG.out) HG7.out)
      · have d0 : (netE l == 0) = false := by simpa using hz
        have HN2 := Lib.hid (HNET'.out hz)
        clear HYES' HNET' HMO HLOK hz
        generalize netE l = E at *
        go_wp2_with (go_at_call 10; ((with_reducible refine CN'.mono ?_); rintro e w2 ⟨v2, rfl, ho2, hg2⟩; have HGW := Lib.hid (grew_trans HG.out hg2); clear ho2 hg2))
        exact HN2.out _ HGW.out
end Go.Proofs.Ytlmnbafklefmcaa.NumK
namespace Go.Proofs.Ytlmnbafklefmcaa.NumK
open Go.RowKit
set_option linter.unusedVariables false

end Go.Proofs.Ytlmnbafklefmcaa.NumK
namespace Go.Proofs.Ytlmnbafklefmcaa.NumK
open Go.RowKit
set_option linter.unusedVariables false

end Go.Proofs.Ytlmnbafklefmcaa.NumK
namespace Go.Proofs.Ytlmnbafklefmcaa.NumK
open Go.RowKit
set_option linter.unusedVariables false

abbrev vDu (d : Du) : Value := .agg #[.int .i64 d.1, .int .i64 d.2.1, .int .i64 d.2.2]
def enDu : En Du := ⟨3, fun x => [.int .i64 x.1, .int .i64 x.2.1, .int .i64 x.2.2], fun _ => rfl, fun a v hv => by
  simp at hv; rcases hv with rfl | rfl | rfl <;> rfl, by decide⟩
/-- A position as it stands then, and its due; nothing beside an error. -/
def oneP (r : Rl) (p : Po) : Po := if stepM r p = 0 then (p.1, p.2.1, p.2.2.1, costP r p) else po0
def oneD (r : Rl) (p : Po) : Du := if stepM r p = 0 then dueP r p else du0

section
def OneP (p : Po) (d : Du) (n : Int) (w : World) (e : Ending) (w' : World) : Prop := e = .returned (.tuple #[vPo p, vDu d, .int .i64 n]) ∧ Grew w w'
end

end Go.Proofs.Ytlmnbafklefmcaa.NumK
namespace Go.Proofs.Ytlmnbafklefmcaa.NumK
open Go.RowKit
set_option linter.unusedVariables false

end Go.Proofs.Ytlmnbafklefmcaa.NumK
namespace Go.Proofs.Ytlmnbafklefmcaa.NumK
open Go.RowKit
set_option linter.unusedVariables false

end Go.Proofs.Ytlmnbafklefmcaa.NumK
