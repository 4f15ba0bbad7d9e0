/-
  For every roll, member, currency and positions: a margin is not below 0 and covers the loss of each scenario, and positions turned round lose what these win; rolls of more than 100 rows and more than 300 positions the statement lets by.
-/
import Derived.Test.YtmlfijapglhjfaaRG15
import Derived.Test.YtmlfijapglhjfaaRG17
import Derived.Test.YtmlfijapglhjfaaRG3
import Derived.BigQuiet
import Derived.Deep.CutBlock
import Derived.Test.YtmlfijapglhjfaaRows
import Derived.WalkKit
import Derived.ProofKit
import Derived.OpenShut
import Derived.ShutString
import Derived.ChangeOld
import Derived.Below
import Derived.Carry
namespace Go.Proofs.Ytmlfijapglhjfaa.NumK
open Go.RowKit
set_option linter.unusedVariables false

set_option maxRecDepth 100000 in
set_option maxHeartbeats 8000000 in
theorem gridCovers_walk (r : Rl) (A1 A2 A3 : Option Addr) (n1 n2 n3 c1 c2 c3 : Nat) (B : Option Addr) (n c : Nat) (who cur : Int) (l : List Po) (w : World) (h3 : In3 w r A1 A2 A3 n1 n2 n3 c1 c2 c3) (h : RowE enPo w B n l) (hk : B = none → c = 0) :
    Calls Try.prog 4 #[rlV A1 A2 A3 n1 n2 n3 c1 c2 c3, .int .i64 who, .int .i64 cur, .slice B n c] w fun e w' => e = .returned (.bool true) ∧ Grew w w' := by
  have CH := fun w' => heavy11_any A1 A2 A3 n1 n2 n3 c1 c2 c3 w'
  have CV := fun w' => wakes15_any w'
  have hH : heavyR n1 n2 n3 = false → n1 ≤ 100 ∧ n2 ≤ 100 ∧ n3 ≤ 100 := by unfold heavyR; simp
  have HHH := Lib.hid hH
  clear hH
  generalize heavyR n1 n2 n3 = HH at *
  have HR0 : Hid (OwnC (w.alloc (.cells #[.slice A1 n1 c1, .slice A2 n2 c2, .slice A3 n3 c3] 26)) w.heap.size [.slice A1 n1 c1, .slice A2 n2 c2, .slice A3 n3 c3]) := OwnC.new w [.slice A1 n1 c1, .slice A2 n2 c2, .slice A3 n3 c3] _ _ rfl
  have HG0 : Hid (Grew w (w.alloc (.cells #[.slice A1 n1 c1, .slice A2 n2 c2, .slice A3 n3 c3] 26))) := grew_alloc _ _ _
  dsimp only [rlV] at CH ⊢
  cases HH
  · have hn := HHH.out rfl
    have hn3 : n1 ≤ 1000000 ∧ n2 ≤ 1000000 ∧ n3 ≤ 1000000 := by omega
    clear HHH
    by_cases hm : n ≤ 300
    · have HLp := h.len
      have C1 := fun w' (g : Grew w w') => losses_any r A1 A2 A3 B n1 n2 n3 c1 c2 c3 n c who cur l w' (h3.rows.keep g) hn3 (h.keep g) (by omega)
      have C3 := fun w' (g : Grew w w') => margin_any r A1 A2 A3 B n1 n2 n3 c1 c2 c3 n c who cur l w' (h3.rows.keep g) hn3 (h.keep g) (by omega)
      by_cases hE : lossE r who cur l = 0
      · rw [hE] at C1
        by_cases hG : margE r who cur l = 0
        · rw [hG] at C3
          obtain ⟨k1, k2, k3⟩ := grid_covers hG
          obtain ⟨_, g2, _⟩ := lossE_iff.1 hE
          have CP := fun w' (g : Grew w w') => twinPoss_any B n c l w' (h.keep g) hk (by omega)
          have C2 := fun w' D d (g : Grew w w') (h5 : RowE enPo w' D n (l.map turnP)) => losses_any r A1 A2 A3 D n1 n2 n3 c1 c2 c3 n d who cur (l.map turnP) w' (h3.rows.keep g) hn3 h5 (by omega)
          rw [k1] at C2
          have HQ : Hid (∀ i, i < n → okQ (l.getD i po0).2.2.1 = true) := fun i hi => qsOK_iff.1 g2 _ (getD_mem l po0 i (by rw [HLp]; exact hi))
          obtain ⟨z1, _, z3⟩ := lossE_iff.1 k1
          have HZ : Hid (∀ j, j < 6 → -4611686018427387904 ≤ lossA r who cur (l.map turnP) j ∧ lossA r who cur (l.map turnP) j ≤ 4611686018427387904) := fun j hj => by
            have := lossOK_iff.1 z3 j hj
            unfold lossA; rw [if_pos k1]; rw [isMoney_iff] at this; exact this
          have HK := Lib.hid k3
          clear k1 k3 g2 z1 z3 hE hG h3 h hk
          dsimp only [rlV, v6] at C1 C2 C3
          generalize lossA r who cur (l.map turnP) = g at *
          generalize lossA r who cur l = f at *
          generalize margN r who cur l = M at *
          go_enter Try.func4, Try.ntmps4
          go_upto_region 1 with (fail)
          generalize (w.alloc (.cells #[.slice A1 n1 c1, .slice A2 n2 c2, .slice A3 n3 c3] 26)) = w0 at *
          have r0 := HR0.out.at 0 (.slice A1 n1 c1) rfl; have r1 := HR0.out.at 1 (.slice A2 n2 c2) rfl; have r2 := HR0.out.at 2 (.slice A3 n3 c3) rfl
          go_upto_region 4 with (first
            | (go_at_call 8; ((with_reducible refine (CH _).mono ?_); rintro e w1 ⟨rfl, hg⟩; have HG1 := Lib.hid (grew_trans HG0.out hg); have HR1 := Lib.hid (HR0.out.keep hg); clear hg HR0 HG0 r0 r1 r2; have r0 := HR1.out.at 0 (.slice A1 n1 c1) rfl; have r1 := HR1.out.at 1 (.slice A2 n2 c2) rfl; have r2 := HR1.out.at 2 (.slice A3 n3 c3) rfl))
            | (go_at_call 11; ((with_reducible refine (C1 _ HG1.out).mono ?_); rintro e w2 ⟨rfl, hg⟩; have HG2 := Lib.hid (grew_trans HG1.out hg); have HR2 := Lib.hid (HR1.out.keep hg); clear hg HG1 HR1 r0 r1 r2)))
          have HA3 : Hid (OwnC (w2.alloc (.cells #[.int .i64 (f 0), .int .i64 (f 1), .int .i64 (f 2), .int .i64 (f 3), .int .i64 (f 4), .int .i64 (f 5)] 31)) w2.heap.size [.int .i64 (f 0), .int .i64 (f 1), .int .i64 (f 2), .int .i64 (f 3), .int .i64 (f 4), .int .i64 (f 5)]) := OwnC.new w2 [.int .i64 (f 0), .int .i64 (f 1), .int .i64 (f 2), .int .i64 (f 3), .int .i64 (f 4), .int .i64 (f 5)] _ _ rfl
          have HR3 := Lib.hid (HR2.out.keep (grew_alloc w2 #[.int .i64 (f 0), .int .i64 (f 1), .int .i64 (f 2), .int .i64 (f 3), .int .i64 (f 4), .int .i64 (f 5)] 31))
          have HG3 := Lib.hid (grew_trans HG2.out (grew_alloc w2 #[.int .i64 (f 0), .int .i64 (f 1), .int .i64 (f 2), .int .i64 (f 3), .int .i64 (f 4), .int .i64 (f 5)] 31))
          have hab : w.heap.size < w2.heap.size := HR2.out.lt
          clear HR2 HG2
          generalize (w2.alloc (.cells #[.int .i64 (f 0), .int .i64 (f 1), .int .i64 (f 2), .int .i64 (f 3), .int .i64 (f 4), .int .i64 (f 5)] 31)) = w3 at *
          generalize w2.heap.size = ab at *
          have r0 := HR3.out.at 0 (.slice A1 n1 c1) rfl; have r1 := HR3.out.at 1 (.slice A2 n2 c2) rfl; have r2 := HR3.out.at 2 (.slice A3 n3 c3) rfl
          go_upto_region 8 with (first
            | (go_at_call 13; ((with_reducible refine (C3 _ HG3.out).mono ?_); rintro e w4 ⟨rfl, hg⟩; have HG4 := Lib.hid (grew_trans HG3.out hg); have HR4 := Lib.hid (HR3.out.keep hg); have HA4 := Lib.hid (HA3.out.keep hg); clear hg HG3 HR3 HA3 r0 r1 r2))
            | (go_at_call 10; ((with_reducible refine (CP _ HG4.out).mono ?_); rintro e w5 ⟨D, d, rfl, ho, hg⟩; have HO5 := Lib.hid ho; have HG5 := Lib.hid (grew_trans HG4.out hg); have HR5 := Lib.hid (HR4.out.keep hg); have HA5 := Lib.hid (HA4.out.keep hg); have hbs : ab < w4.heap.size := HA4.out.lt; have hws : w.heap.size ≤ w4.heap.size := HG4.out.size; clear ho hg CP HG4 HR4 HA4)))
          clear C1 C3
          generalize w4.heap.size = bs at *
          go_upto_block 1 with (fail)
          go_wp2
          go_loopw [14] (fun v wr => ∃ k : Nat, v = .int .i64 k ∧ k ≤ n ∧ Hid (OwnE enPo wr bs 46 (.slice D n d) (preL turnP l k)) ∧ Hid (OwnC wr w.heap.size [.slice A1 n1 c1, .slice A2 n2 c2, .slice A3 n3 c3]) ∧ Hid (OwnC wr ab [.int .i64 (f 0), .int .i64 (f 1), .int .i64 (f 2), .int .i64 (f 3), .int .i64 (f 4), .int .i64 (f 5)]) ∧ Hid (Grew w wr)) (fun v _ => n - (intOf v).toNat)
          case atStart => exact ⟨0, rfl, by omega, (by rw [pre_zero]; exact HO5.out), HR5.out, HA5.out, HG5.out⟩
          case round =>
            clear HO5 HR5 HA5 HG5
            obtain ⟨k, rfl, hk, HO, HR, HA, HG⟩ := hrel
            by_cases hlt : k < n
            · have hkl : k < l.length := by rw [HLp]; exact hlt
              obtain ⟨db, rfl, hdb, hds, hfz, hcl⟩ := OwnE.at0 HO.out (by rw [pre_len]; omega)
              have hx := pre_get turnP l k hkl
              have hcell := hcl k (by rw [pre_len]; exact hkl) 2 (by decide)
              rw [hx] at hcell
              have hqk := HQ.out k hlt
              rw [getD_at l po0 k hkl] at hqk
              have hq3 : -1099511627776 ≤ (l[k]).2.2.1 ∧ (l[k]).2.2.1 ≤ 1099511627776 := by simpa only [okQ, wi, Bool.and_eq_true, decide_eq_true_eq] using hqk
              have hset := HO.out.put1 (by rw [pre_len]; exact HLp.symm) k 2 (.int .i64 (-(l[k]).2.2.1)) (turnP l[k]) (by rw [pre_len]; exact hkl) (by decide) (by rw [hx]; rfl)
              rw [pre_set turnP l k hkl] at hset
              have HSET := Lib.hid hset
              have hcell2 : wr.cell? ⟨db, k * 4 + 2, none⟩ = some (.int .i64 (l[k]).2.2.1) := hcell
              have hfz2 := hfz (k * 4 + 2)
              change Hid (OwnE enPo (wr.setCell ⟨db, k * 4 + 2, none⟩ _) _ _ _ _) at HSET
              clear hcell hcl hfz hset hqk hx
              generalize (l[k]).2.2.1 = q at *
              clear hkl
              obtain ⟨q1, q2⟩ := hq3
              have i0 : (0 : Int) ≤ (k : Int) := by omega
              have i1 : (k : Int) < (n : Int) := by omega
              have HRs := Lib.hid (HR.out.other ⟨db, k * 4 + 2, none⟩ (.int .i64 (-q)) (by show db ≠ _; omega))
              have HAs := Lib.hid (HA.out.other ⟨db, k * 4 + 2, none⟩ (.int .i64 (-q)) (by show db ≠ _; omega))
              have HGs := Lib.hid (grew_set HG.out (p := ⟨db, k * 4 + 2, none⟩) (.int .i64 (-q)) (by show _ ≤ db; omega))
              clear HR HA HG HO
              go_wp2
              go_roundw
              case rel => exact ⟨k + 1, by go_num, by omega, HSET.out, HRs.out, HAs.out, HGs.out⟩
              case measure => simp only [intOf]; omega
            · obtain rfl : n = k := by omega
              have ho := HO.out
              rw [pre_all _ _ _ (Nat.le_of_eq HLp)] at ho
              have hrow := (own_form ho).1
              rw [List.length_map, HLp] at hrow
              have HP := Lib.hid hrow
              clear ho HO hrow HQ
              have r0 := HR.out.at 0 (.slice A1 n1 c1) rfl; have r1 := HR.out.at 1 (.slice A2 n2 c2) rfl; have r2 := HR.out.at 2 (.slice A3 n3 c3) rfl
              obtain ⟨wq, hwq⟩ : ∃ x, x = wr := ⟨_, rfl⟩
              subst hwq
              go_upto_region 13 with (go_at_call 11; ((with_reducible refine (C2 _ _ _ HG.out HP.out).mono ?_); rintro e w7 ⟨rfl, hg⟩; have HG7 := Lib.hid (grew_trans HG.out hg); have HA7 := Lib.hid (HA.out.keep hg); clear hg HG HA HR HP r0 r1 r2))
              have HB8 : Hid (OwnC (w7.alloc (.cells #[.int .i64 (g 0), .int .i64 (g 1), .int .i64 (g 2), .int .i64 (g 3), .int .i64 (g 4), .int .i64 (g 5)] 31)) w7.heap.size [.int .i64 (g 0), .int .i64 (g 1), .int .i64 (g 2), .int .i64 (g 3), .int .i64 (g 4), .int .i64 (g 5)]) := OwnC.new w7 [.int .i64 (g 0), .int .i64 (g 1), .int .i64 (g 2), .int .i64 (g 3), .int .i64 (g 4), .int .i64 (g 5)] _ _ rfl
              have HA8 := Lib.hid (HA7.out.keep (grew_alloc w7 #[.int .i64 (g 0), .int .i64 (g 1), .int .i64 (g 2), .int .i64 (g 3), .int .i64 (g 4), .int .i64 (g 5)] 31))
              have HG8 := Lib.hid (grew_trans HG7.out (grew_alloc w7 #[.int .i64 (g 0), .int .i64 (g 1), .int .i64 (g 2), .int .i64 (g 3), .int .i64 (g 4), .int .i64 (g 5)] 31))
              clear HG7 HA7 C2
              generalize (w7.alloc (.cells #[.int .i64 (g 0), .int .i64 (g 1), .int .i64 (g 2), .int .i64 (g 3), .int .i64 (g 4), .int .i64 (g 5)] 31)) = w8 at *
              generalize w7.heap.size = bb at *
              have hM : ¬ M < 0 := by omega
              go_upto_block 2 with (fail)
              go_wp2
              go_loopw [16] (fun v wr => ∃ j : Nat, v = .int .i64 j ∧ j ≤ 6 ∧ Hid (Grew w8 wr)) (fun v _ => 6 - (intOf v).toNat)
              case atStart => exact ⟨0, rfl, by omega, grew_refl _⟩
              case round =>
                obtain ⟨j, rfl, hj, HW⟩ := hrel
                have HA9 := Lib.hid (HA8.out.keep HW.out)
                have HB9 := Lib.hid (HB8.out.keep HW.out)
                have HG9 := Lib.hid (grew_trans HG8.out HW.out)
                by_cases hlt : j < 6
                · have i0 : (0 : Int) ≤ (j : Int) := by omega
                  have i1 : (j : Int) < 6 := by omega
                  obtain ⟨u1, u2⟩ := HK.out j hlt
                  obtain ⟨u3, u4⟩ := HZ.out j hlt
                  have aj : wr.cell? ⟨ab, j, none⟩ = some (.int .i64 (f j)) := by
                    rcases j with _ | _ | _ | _ | _ | _ | j
                    · exact HA9.out.at 0 _ rfl
                    · exact HA9.out.at 1 _ rfl
                    · exact HA9.out.at 2 _ rfl
                    · exact HA9.out.at 3 _ rfl
                    · exact HA9.out.at 4 _ rfl
                    · exact HA9.out.at 5 _ rfl
                    · omega
                  have bj : wr.cell? ⟨bb, j, none⟩ = some (.int .i64 (g j)) := by
                    rcases j with _ | _ | _ | _ | _ | _ | j
                    · exact HB9.out.at 0 _ rfl
                    · exact HB9.out.at 1 _ rfl
                    · exact HB9.out.at 2 _ rfl
                    · exact HB9.out.at 3 _ rfl
                    · exact HB9.out.at 4 _ rfl
                    · exact HB9.out.at 5 _ rfl
                    · omega
                  generalize f j = x at *
                  generalize g j = y at *
                  subst u2
                  have hd : decide (-y > M) = false := decide_eq_false (by omega)
                  have hd2 : ¬ M < -y := by omega
                  go_wp2
                  go_quiet (fail)
                  go_wp2
                  go_roundw
                  case rel => exact ⟨j + 1, by go_num, by omega, (by first | exact grew_drewN HW.out _ | exact HW.out)⟩
                  case measure => simp only [intOf]; omega
                · obtain rfl : 6 = j := by omega
                  go_wp2_with (go_at_call 17; ((with_reducible refine (CV _).mono ?_); rintro e w10 ⟨rfl, hg⟩; have HG10 := Lib.hid (grew_trans HG9.out hg); clear hg HG9  ))
                  go_ret
                  exact ⟨rfl, HG10.out⟩
        · have dG : (margE r who cur l != 0) = true := bne_iff_ne.2 hG
          clear hG h3 h hk hE
          dsimp only [rlV, v6] at C1 C3
          generalize lossA r who cur l = f at *
          generalize margN r who cur l = M at *
          generalize margE r who cur l = G at *
          go_enter Try.func4, Try.ntmps4
          go_upto_region 1 with (fail)
          generalize (w.alloc (.cells #[.slice A1 n1 c1, .slice A2 n2 c2, .slice A3 n3 c3] 26)) = w0 at *
          have r0 := HR0.out.at 0 (.slice A1 n1 c1) rfl; have r1 := HR0.out.at 1 (.slice A2 n2 c2) rfl; have r2 := HR0.out.at 2 (.slice A3 n3 c3) rfl
          go_upto_region 4 with (first
            | (go_at_call 8; ((with_reducible refine (CH _).mono ?_); rintro e w1 ⟨rfl, hg⟩; have HG1 := Lib.hid (grew_trans HG0.out hg); have HR1 := Lib.hid (HR0.out.keep hg); clear hg HR0 HG0 r0 r1 r2; have r0 := HR1.out.at 0 (.slice A1 n1 c1) rfl; have r1 := HR1.out.at 1 (.slice A2 n2 c2) rfl; have r2 := HR1.out.at 2 (.slice A3 n3 c3) rfl))
            | (go_at_call 11; ((with_reducible refine (C1 _ HG1.out).mono ?_); rintro e w2 ⟨rfl, hg⟩; have HG2 := Lib.hid (grew_trans HG1.out hg); have HR2 := Lib.hid (HR1.out.keep hg); clear hg HG1 HR1 r0 r1 r2)))
          have HR3 := Lib.hid (HR2.out.keep (grew_alloc w2 #[.int .i64 (f 0), .int .i64 (f 1), .int .i64 (f 2), .int .i64 (f 3), .int .i64 (f 4), .int .i64 (f 5)] 31))
          have HG3 := Lib.hid (grew_trans HG2.out (grew_alloc w2 #[.int .i64 (f 0), .int .i64 (f 1), .int .i64 (f 2), .int .i64 (f 3), .int .i64 (f 4), .int .i64 (f 5)] 31))
          clear HR2 HG2
          generalize (w2.alloc (.cells #[.int .i64 (f 0), .int .i64 (f 1), .int .i64 (f 2), .int .i64 (f 3), .int .i64 (f 4), .int .i64 (f 5)] 31)) = w3 at *
          have r0 := HR3.out.at 0 (.slice A1 n1 c1) rfl; have r1 := HR3.out.at 1 (.slice A2 n2 c2) rfl; have r2 := HR3.out.at 2 (.slice A3 n3 c3) rfl
          go_wp2_with (first
            | (go_at_call 13; ((with_reducible refine (C3 _ HG3.out).mono ?_); rintro e w4 ⟨rfl, hg⟩; have HG4 := Lib.hid (grew_trans HG3.out hg); clear hg HG3  r0 r1 r2 HR3))
            | (go_at_call 17; ((with_reducible refine (CV _).mono ?_); rintro e w5 ⟨rfl, hg⟩; have HG5 := Lib.hid (grew_trans HG4.out hg); clear hg HG4  )))
          go_ret
          exact ⟨rfl, HG5.out⟩
      · have dE : (lossE r who cur l != 0) = true := bne_iff_ne.2 hE
        clear h3 h hk hE
        dsimp only [rlV, v6] at C1 C3
        generalize lossA r who cur l = f at *
        generalize lossE r who cur l = E at *
        generalize margN r who cur l = M at *
        generalize margE r who cur l = G at *
        go_enter Try.func4, Try.ntmps4
        go_upto_region 1 with (fail)
        generalize (w.alloc (.cells #[.slice A1 n1 c1, .slice A2 n2 c2, .slice A3 n3 c3] 26)) = w0 at *
        have r0 := HR0.out.at 0 (.slice A1 n1 c1) rfl; have r1 := HR0.out.at 1 (.slice A2 n2 c2) rfl; have r2 := HR0.out.at 2 (.slice A3 n3 c3) rfl
        go_upto_region 4 with (first
          | (go_at_call 8; ((with_reducible refine (CH _).mono ?_); rintro e w1 ⟨rfl, hg⟩; have HG1 := Lib.hid (grew_trans HG0.out hg); have HR1 := Lib.hid (HR0.out.keep hg); clear hg HR0 HG0 r0 r1 r2; have r0 := HR1.out.at 0 (.slice A1 n1 c1) rfl; have r1 := HR1.out.at 1 (.slice A2 n2 c2) rfl; have r2 := HR1.out.at 2 (.slice A3 n3 c3) rfl))
          | (go_at_call 11; ((with_reducible refine (C1 _ HG1.out).mono ?_); rintro e w2 ⟨rfl, hg⟩; have HG2 := Lib.hid (grew_trans HG1.out hg); have HR2 := Lib.hid (HR1.out.keep hg); clear hg HG1 HR1 r0 r1 r2)))
        have HR3 := Lib.hid (HR2.out.keep (grew_alloc w2 #[.int .i64 (f 0), .int .i64 (f 1), .int .i64 (f 2), .int .i64 (f 3), .int .i64 (f 4), .int .i64 (f 5)] 31))
        have HG3 := Lib.hid (grew_trans HG2.out (grew_alloc w2 #[.int .i64 (f 0), .int .i64 (f 1), .int .i64 (f 2), .int .i64 (f 3), .int .i64 (f 4), .int .i64 (f 5)] 31))
        clear HR2 HG2
        generalize (w2.alloc (.cells #[.int .i64 (f 0), .int .i64 (f 1), .int .i64 (f 2), .int .i64 (f 3), .int .i64 (f 4), .int .i64 (f 5)] 31)) = w3 at *
        have r0 := HR3.out.at 0 (.slice A1 n1 c1) rfl; have r1 := HR3.out.at 1 (.slice A2 n2 c2) rfl; have r2 := HR3.out.at 2 (.slice A3 n3 c3) rfl
        go_wp2_with (first
          | (go_at_call 13; ((with_reducible refine (C3 _ HG3.out).mono ?_); rintro e w4 ⟨rfl, hg⟩; have HG4 := Lib.hid (grew_trans HG3.out hg); clear hg HG3  r0 r1 r2 HR3))
          | (go_at_call 17; ((with_reducible refine (CV _).mono ?_); rintro e w5 ⟨rfl, hg⟩; have HG5 := Lib.hid (grew_trans HG4.out hg); clear hg HG4  )))
        go_ret
        exact ⟨rfl, HG5.out⟩
    · have hov : 300 < n := by omega
      clear CV h3 h
      go_enter Try.func4, Try.ntmps4
      go_upto_region 1 with (fail)
      generalize (w.alloc (.cells #[.slice A1 n1 c1, .slice A2 n2 c2, .slice A3 n3 c3] 26)) = w0 at *
      have r0 := HR0.out.at 0 (.slice A1 n1 c1) rfl; have r1 := HR0.out.at 1 (.slice A2 n2 c2) rfl; have r2 := HR0.out.at 2 (.slice A3 n3 c3) rfl
      go_wp2_with (go_at_call 8; ((with_reducible refine (CH _).mono ?_); rintro e w1 ⟨rfl, hg⟩; have HG1 := Lib.hid (grew_trans HG0.out hg); have HR1 := Lib.hid (HR0.out.keep hg); clear hg HR0 HG0 r0 r1 r2; have r0 := HR1.out.at 0 (.slice A1 n1 c1) rfl; have r1 := HR1.out.at 1 (.slice A2 n2 c2) rfl; have r2 := HR1.out.at 2 (.slice A3 n3 c3) rfl))
      go_ret
      exact ⟨rfl, HG1.out⟩
  · clear CV HHH h3
    go_enter Try.func4, Try.ntmps4
    go_upto_region 1 with (fail)
    generalize (w.alloc (.cells #[.slice A1 n1 c1, .slice A2 n2 c2, .slice A3 n3 c3] 26)) = w0 at *
    have r0 := HR0.out.at 0 (.slice A1 n1 c1) rfl; have r1 := HR0.out.at 1 (.slice A2 n2 c2) rfl; have r2 := HR0.out.at 2 (.slice A3 n3 c3) rfl
    go_wp2_with (go_at_call 8; ((with_reducible refine (CH _).mono ?_); rintro e w1 ⟨rfl, hg⟩; have HG1 := Lib.hid (grew_trans HG0.out hg); have HR1 := Lib.hid (HR0.out.keep hg); clear hg HR0 HG0 r0 r1 r2; have r0 := HR1.out.at 0 (.slice A1 n1 c1) rfl; have r1 := HR1.out.at 1 (.slice A2 n2 c2) rfl; have r2 := HR1.out.at 2 (.slice A3 n3 c3) rfl))
    go_ret
    exact ⟨rfl, HG1.out⟩
end Go.Proofs.Ytmlfijapglhjfaa.NumK
namespace Go.Proofs.Ytmlfijapglhjfaa.NumK
open Go.RowKit
set_option linter.unusedVariables false

theorem gridCovers_row (w : World) {cs0 : Array Value} {r : Rl} {B : Option Addr} {n c : Nat} {l : List Po} (who cur : Int) (h0 : spRl.rd w cs0.toList r) (h3 : RowE enPo w B n l) (hk : B = none → c = 0) :
    Calls Try.prog 4 #[.agg cs0, .int .i64 who, .int .i64 cur, .slice B n c] w fun e w' => e = .returned (.bool true) ∧ Grew w w' := by
  obtain ⟨A1, A2, A3, n1, n2, n3, c1, c2, c3, e, h⟩ := roll_of h0
  rw [e]
  exact gridCovers_walk r A1 A2 A3 n1 n2 n3 c1 c2 c3 B n c who cur l w h h3 hk
end Go.Proofs.Ytmlfijapglhjfaa.NumK
namespace Go.Proofs.Ytmlfijapglhjfaa.gridCovers
open Go.ChangeShapes Go.WideShapes Go.ChangeAt Go.RowKit
set_option linter.unusedVariables false

theorem own : ownKnob Try.prog.godebug = none := by kernel_rfl
theorem laidOut : laidOutB Try.prog = true := by kernel_rfl

set_option maxRecDepth 100000 in
theorem lifted (os : Os) (started : os.Started) (H : Type) (enc : TypeId × Value → H) :
    ReturnsInHanded {} Try.checked os 4 .any (Rows.gridCoversSpec.pre6 enc Try.prog Try.f4 Rows.gridCoversRow.domain false) (Rows.gridCoversSpec.post enc Try.prog Try.f4 false true false false) := by
  refine returnsInHanded_of_change (C := Try.checked) own started (by kernel_rfl) Try.func4
    (ChangeSpec.witness6 (enc := enc) (C := Try.checked) false ⟨#[], #[.agg #[.slice none 0 0, .slice none 0 0, .slice none 0 0], .int .i64 0, .int .i64 0, .slice none 0 0], []⟩ 8 (by kernel_rfl) (by kernel_rfl) (by kernel_rfl) (by kernel_rfl)) ?_
  intro W base args ds gs before hval0 hW hcnd _
  have hval : ∀ (j : Nat) t v, Try.f4.params[j]? = some t → args[j]? = some v → Value.okWide Try.prog W .any base t v := hval0
  have hW' := hW
  obtain ⟨p, q, hA0, hV, rfl, hfz, hnd⟩ := hW
  have hA : DataW.TrodAll enc Try.prog W 0 (fun _ => true) true Try.f4.params.toList args.toList ds p := hA0
  skip
  rw [Try.params4] at hA hval
  obtain ⟨v0, vs0, d0, ds0, p0, q0, hargs, rfl, rfl, h0, r0⟩ := trodAll_cons hA
  obtain ⟨v1, vs1, d1, ds1, p1, q1, rfl, rfl, rfl, h1, r1⟩ := trodAll_cons r0
  obtain ⟨v2, vs2, d2, ds2, p2, q2, rfl, rfl, rfl, h2, r2⟩ := trodAll_cons r1
  obtain ⟨v3, vs3, d3, ds3, p3, q3, rfl, rfl, rfl, h3, r3⟩ := trodAll_cons r2
  obtain ⟨rfl, rfl, rfl⟩ := trodAll_nil r3
  obtain rfl : args = #[v0, v1, v2, v3] := by cases args; simp_all
  obtain ⟨rfl, rfl⟩ := trodVars_none hV
  have k0 := h0
  have lt0 : ∀ x ∈ p0, x.block < W.heap.size := by obtain ⟨m, hm⟩ := k0; exact DataW.trod_lt m _ _ _ hm
  obtain ⟨cs0, x0, rfl, e0⟩ := NumK.arg_struct Try.underlying26 NumK.opens_roll (hval 0 26 v0 rfl rfl) h0
  obtain ⟨a1, rfl, rfl, rfl, w1⟩ := open_int Try.underlying3 (hval 1 3 v1 rfl rfl) h1
  obtain ⟨a2, rfl, rfl, rfl, w2⟩ := open_int Try.underlying3 (hval 2 3 v2 rfl rfl) h2
  have k3 := h3
  have lt3 : ∀ x ∈ p3, x.block < W.heap.size := by obtain ⟨m, hm⟩ := k3; exact DataW.trod_lt m _ _ _ hm
  obtain ⟨A3, len3, cap3, l3, rfl, ro3, n3, c3, m3⟩ := NumK.arg_slice Try.underlying27 NumK.opens_poss (hval 3 27 v3 rfl rfl) h3
  clear hA0 hval0
  refine (NumK.gridCovers_row W a1 a2 e0 (NumK.poss_of ro3) n3).mono fun e W' ⟨he, bel⟩ => ?_
  subst he
  exact ⟨_, rfl, _, _, _, [], _, [], hW', trodAll_mk1 (shut_bool Try.underlying4 _), (trodAll_cons_mk (Below.trod laidOut (by kernel_rfl) (of_decide_eq_true (by kernel_rfl)) k0 bel lt0) (trodAll_cons_mk (shut_int Try.underlying3 w1) (trodAll_cons_mk (shut_int Try.underlying3 w2) (trodAll_cons_mk (Below.trod laidOut (by kernel_rfl) (of_decide_eq_true (by kernel_rfl)) k3 bel lt3) trodAll_mk0)))), rfl, bel.frame _, fun h => by cases h⟩

theorem over : Rows.gridCoversRow.holds Try.pinned (OpenSpec.ofChange Rows.gridCoversSpec) :=
  OpenClaim.holds_of_wide 4 Try.f4 rfl rfl rfl rfl rfl rfl rfl ⟨rfl, rfl, rfl, rfl, rfl⟩ rfl rfl rfl rfl rfl (by kernel_rfl) Try.func4 (by kernel_rfl)
    (of_decide_eq_true (by kernel_rfl)) (by unfold Func.isWrapper; first | (rw [if_pos (by decide +kernel)]; kernel_rfl) | (rw [if_neg (by decide +kernel)]; exact ⟨rfl, rfl⟩))
    (fun os started H enc _ => lifted os started H enc)

/-! ### the statement -/
theorem proved : Rows.GridCoversSaid := over
end Go.Proofs.Ytmlfijapglhjfaa.gridCovers
