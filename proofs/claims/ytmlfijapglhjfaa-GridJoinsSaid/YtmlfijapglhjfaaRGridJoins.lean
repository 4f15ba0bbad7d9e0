/-
  For every roll, member, currency and two rows of positions: together they lose in each scenario what both lose, and their margin is no greater than both; rolls of more than 100 rows, more than 300 positions, and great sums, the statement lets by.
-/
import Derived.Test.YtmlfijapglhjfaaRG15
import Derived.Test.YtmlfijapglhjfaaRG17
import Derived.Test.YtmlfijapglhjfaaRG2
import Derived.BigQuiet
import Derived.Deep.CutBlock
import Derived.Test.YtmlfijapglhjfaaRows
import Derived.WalkKit
import Derived.ProofKit
import Derived.OpenShut
import Derived.ShutString
import Derived.ChangeOld
import Derived.Below
import Derived.Carry
namespace Go.Proofs.Ytmlfijapglhjfaa.NumK
open Go.RowKit
set_option linter.unusedVariables false

set_option maxRecDepth 100000 in
set_option maxHeartbeats 8000000 in
theorem gridJoins_walk (r : Rl) (A1 A2 A3 : Option Addr) (n1 n2 n3 c1 c2 c3 : Nat) (B C : Option Addr) (n c m e : Nat) (who cur : Int) (l k : List Po) (w : World) (h3 : In3 w r A1 A2 A3 n1 n2 n3 c1 c2 c3) (h : RowE enPo w B n l) (hk : B = none → c = 0) (h' : RowE enPo w C m k) (hq : C = none → e = 0) :
    Calls Try.prog 5 #[rlV A1 A2 A3 n1 n2 n3 c1 c2 c3, .int .i64 who, .int .i64 cur, .slice B n c, .slice C m e] w fun e w' => e = .returned (.bool true) ∧ Grew w w' := by
  have CH := fun w' => heavy11_any A1 A2 A3 n1 n2 n3 c1 c2 c3 w'
  have CV := fun w' => wakes15_any w'
  have hH : heavyR n1 n2 n3 = false → n1 ≤ 100 ∧ n2 ≤ 100 ∧ n3 ≤ 100 := by unfold heavyR; simp
  have HHH := Lib.hid hH
  clear hH
  generalize heavyR n1 n2 n3 = HH at *
  have HR0 : Hid (OwnC (w.alloc (.cells #[.slice A1 n1 c1, .slice A2 n2 c2, .slice A3 n3 c3] 26)) w.heap.size [.slice A1 n1 c1, .slice A2 n2 c2, .slice A3 n3 c3]) := OwnC.new w [.slice A1 n1 c1, .slice A2 n2 c2, .slice A3 n3 c3] _ _ rfl
  have HG0 : Hid (Grew w (w.alloc (.cells #[.slice A1 n1 c1, .slice A2 n2 c2, .slice A3 n3 c3] 26))) := grew_alloc _ _ _
  dsimp only [rlV] at CH ⊢
  cases HH
  · have hn := HHH.out rfl
    have hn3 : n1 ≤ 1000000 ∧ n2 ≤ 1000000 ∧ n3 ≤ 1000000 := by omega
    clear HHH
    by_cases hm : n ≤ 300
    · by_cases hm2 : m ≤ 300
      · have HLp := h.len
        have HLq := h'.len
        have C1 := fun w' (g : Grew w w') => losses_any r A1 A2 A3 B n1 n2 n3 c1 c2 c3 n c who cur l w' (h3.rows.keep g) hn3 (h.keep g) (by omega)
        have C2 := fun w' (g : Grew w w') => losses_any r A1 A2 A3 C n1 n2 n3 c1 c2 c3 m e who cur k w' (h3.rows.keep g) hn3 (h'.keep g) (by omega)
        have C3 := fun w' (g : Grew w w') => margin_any r A1 A2 A3 B n1 n2 n3 c1 c2 c3 n c who cur l w' (h3.rows.keep g) hn3 (h.keep g) (by omega)
        have C4 := fun w' (g : Grew w w') => margin_any r A1 A2 A3 C n1 n2 n3 c1 c2 c3 m e who cur k w' (h3.rows.keep g) hn3 (h'.keep g) (by omega)
        by_cases hE1 : lossE r who cur l = 0
        · by_cases hE2 : lossE r who cur k = 0
          · by_cases hG1 : margE r who cur l = 0
            · by_cases hG2 : margE r who cur k = 0
              · by_cases hM1 : margN r who cur l ≤ 288230376151711744
                · by_cases hM2 : margN r who cur k ≤ 288230376151711744
                  · skip
                    obtain ⟨a1, a2, a3⟩ := grid_covers hG1
                    obtain ⟨b1, b2, b3⟩ := grid_covers hG2
                    have HJ := Lib.hid (grid_joins hG1 hG2 hM1 hM2)
                    have HA0 := Lib.hid a3
                    have HB0 := Lib.hid b3
                    have CP := fun w' (g : Grew w w') => twinPoss_any B n c l w' (h.keep g) hk (by omega)
                    have HKR := Lib.hid (fun w' (g : Grew w w') => h'.keep g)
                    have CL := fun w' D d (g : Grew w w') (h5 : RowE enPo w' D (n + m) (l ++ k)) => losses_any r A1 A2 A3 D n1 n2 n3 c1 c2 c3 (n + m) d who cur (l ++ k) w' (h3.rows.keep g) hn3 h5 (by omega)
                    have CM := fun w' D d (g : Grew w w') (h5 : RowE enPo w' D (n + m) (l ++ k)) => margin_any r A1 A2 A3 D n1 n2 n3 c1 c2 c3 (n + m) d who cur (l ++ k) w' (h3.rows.keep g) hn3 h5 (by omega)
                    rw [hE1] at C1
                    rw [hE2] at C2
                    rw [hG1] at C3
                    rw [hG2] at C4
                    have HLN : Hid ((l ++ k).length = n + m) := by show _ = _; rw [List.length_append, HLp, HLq]
                    dsimp only [rlV, v6] at C1 C2 C3 C4 CL CM
                    clear h3 h h' hk a1 b1 hE1 hE2 hG1 hG2 a3 b3
                    generalize lossA r who cur (l ++ k) = h9 at *
                    generalize lossE r who cur (l ++ k) = E9 at *
                    generalize margE r who cur (l ++ k) = G9 at *
                    generalize margN r who cur (l ++ k) = M9 at *
                    have HA0 : Hid (∀ j, j < 6 → lossA r who cur l j ≤ margN r who cur l) := fun j hj => (HA0.out j hj).1
                    have HB0 : Hid (∀ j, j < 6 → lossA r who cur k j ≤ margN r who cur k) := fun j hj => (HB0.out j hj).1
                    generalize lossA r who cur l = f at *
                    generalize lossA r who cur k = g at *
                    generalize margN r who cur l = M1 at *
                    generalize margN r who cur k = M2 at *
                    go_enter Try.func5, Try.ntmps5
                    go_upto_region 1 with (fail)
                    generalize (w.alloc (.cells #[.slice A1 n1 c1, .slice A2 n2 c2, .slice A3 n3 c3] 26)) = w0 at *
                    have r0 := HR0.out.at 0 (.slice A1 n1 c1) rfl; have r1 := HR0.out.at 1 (.slice A2 n2 c2) rfl; have r2 := HR0.out.at 2 (.slice A3 n3 c3) rfl
                    go_upto_region 4 with (first
                      | (go_at_call 8; ((with_reducible refine (CH _).mono ?_); rintro e w1 ⟨rfl, hg⟩; have HG1 := Lib.hid (grew_trans HG0.out hg); have HR1 := Lib.hid (HR0.out.keep hg); clear hg HR0 HG0 r0 r1 r2; have r0 := HR1.out.at 0 (.slice A1 n1 c1) rfl; have r1 := HR1.out.at 1 (.slice A2 n2 c2) rfl; have r2 := HR1.out.at 2 (.slice A3 n3 c3) rfl))
                      | (go_at_call 11; ((with_reducible refine (C1 _ HG1.out).mono ?_); rintro e w2 ⟨rfl, hg⟩; have HG2 := Lib.hid (grew_trans HG1.out hg); have HR2 := Lib.hid (HR1.out.keep hg); clear hg HG1 HR1 r0 r1 r2 C1)))
                    have HA3 : Hid (OwnC (w2.alloc (.cells #[.int .i64 (f 0), .int .i64 (f 1), .int .i64 (f 2), .int .i64 (f 3), .int .i64 (f 4), .int .i64 (f 5)] 31)) w2.heap.size [.int .i64 (f 0), .int .i64 (f 1), .int .i64 (f 2), .int .i64 (f 3), .int .i64 (f 4), .int .i64 (f 5)]) := OwnC.new w2 [.int .i64 (f 0), .int .i64 (f 1), .int .i64 (f 2), .int .i64 (f 3), .int .i64 (f 4), .int .i64 (f 5)] _ _ rfl
                    have HR3 := Lib.hid (HR2.out.keep (grew_alloc w2 #[.int .i64 (f 0), .int .i64 (f 1), .int .i64 (f 2), .int .i64 (f 3), .int .i64 (f 4), .int .i64 (f 5)] 31))
                    have HG3 := Lib.hid (grew_trans HG2.out (grew_alloc w2 #[.int .i64 (f 0), .int .i64 (f 1), .int .i64 (f 2), .int .i64 (f 3), .int .i64 (f 4), .int .i64 (f 5)] 31))
                    have hab : w.heap.size < w2.heap.size := HR2.out.lt
                    clear HR2 HG2
                    generalize (w2.alloc (.cells #[.int .i64 (f 0), .int .i64 (f 1), .int .i64 (f 2), .int .i64 (f 3), .int .i64 (f 4), .int .i64 (f 5)] 31)) = w3 at *
                    generalize w2.heap.size = ab at *
                    have r0 := HR3.out.at 0 (.slice A1 n1 c1) rfl; have r1 := HR3.out.at 1 (.slice A2 n2 c2) rfl; have r2 := HR3.out.at 2 (.slice A3 n3 c3) rfl
                    go_upto_region 5 with (go_at_call 11; ((with_reducible refine (C2 _ HG3.out).mono ?_); rintro e w4 ⟨rfl, hg⟩; have HG4 := Lib.hid (grew_trans HG3.out hg); have HR4 := Lib.hid (HR3.out.keep hg); have HA4 := Lib.hid (HA3.out.keep hg); clear hg HG3 HR3 HA3 r0 r1 r2 C2))
                    have HB5 : Hid (OwnC (w4.alloc (.cells #[.int .i64 (g 0), .int .i64 (g 1), .int .i64 (g 2), .int .i64 (g 3), .int .i64 (g 4), .int .i64 (g 5)] 31)) w4.heap.size [.int .i64 (g 0), .int .i64 (g 1), .int .i64 (g 2), .int .i64 (g 3), .int .i64 (g 4), .int .i64 (g 5)]) := OwnC.new w4 [.int .i64 (g 0), .int .i64 (g 1), .int .i64 (g 2), .int .i64 (g 3), .int .i64 (g 4), .int .i64 (g 5)] _ _ rfl
                    have HR5 := Lib.hid (HR4.out.keep (grew_alloc w4 #[.int .i64 (g 0), .int .i64 (g 1), .int .i64 (g 2), .int .i64 (g 3), .int .i64 (g 4), .int .i64 (g 5)] 31))
                    have HA5 := Lib.hid (HA4.out.keep (grew_alloc w4 #[.int .i64 (g 0), .int .i64 (g 1), .int .i64 (g 2), .int .i64 (g 3), .int .i64 (g 4), .int .i64 (g 5)] 31))
                    have HG5 := Lib.hid (grew_trans HG4.out (grew_alloc w4 #[.int .i64 (g 0), .int .i64 (g 1), .int .i64 (g 2), .int .i64 (g 3), .int .i64 (g 4), .int .i64 (g 5)] 31))
                    have hbb : ab < w4.heap.size := HA4.out.lt
                    clear HR4 HG4 HA4
                    generalize (w4.alloc (.cells #[.int .i64 (g 0), .int .i64 (g 1), .int .i64 (g 2), .int .i64 (g 3), .int .i64 (g 4), .int .i64 (g 5)] 31)) = w5 at *
                    generalize w4.heap.size = bb at *
                    have r0 := HR5.out.at 0 (.slice A1 n1 c1) rfl; have r1 := HR5.out.at 1 (.slice A2 n2 c2) rfl; have r2 := HR5.out.at 2 (.slice A3 n3 c3) rfl
                    go_upto_region 7 with (first
                      | (go_at_call 13; ((with_reducible refine (C3 _ HG5.out).mono ?_); rintro e w6 ⟨rfl, hg⟩; have HG6 := Lib.hid (grew_trans HG5.out hg); have HR6 := Lib.hid (HR5.out.keep hg); have HA6 := Lib.hid (HA5.out.keep hg); have HB6 := Lib.hid (HB5.out.keep hg); clear hg HG5 HR5 HA5 HB5 r0 r1 r2 C3; have r0 := HR6.out.at 0 (.slice A1 n1 c1) rfl; have r1 := HR6.out.at 1 (.slice A2 n2 c2) rfl; have r2 := HR6.out.at 2 (.slice A3 n3 c3) rfl))
                      | (go_at_call 13; ((with_reducible refine (C4 _ HG6.out).mono ?_); rintro e w7 ⟨rfl, hg⟩; have HG7 := Lib.hid (grew_trans HG6.out hg); have HR7 := Lib.hid (HR6.out.keep hg); have HA7 := Lib.hid (HA6.out.keep hg); have HB7 := Lib.hid (HB6.out.keep hg); clear hg HG6 HR6 HA6 HB6 r0 r1 r2 C4)))
                    have hM1' : ¬ 288230376151711744 < M1 := by omega
                    have hM2' : ¬ 288230376151711744 < M2 := by omega
                    go_upto_block 1 with (fail)
                    go_wp2
                    go_loopw [19] (fun v wr => ∃ j : Nat, v = .int .i64 j ∧ j ≤ 6 ∧ Hid (∀ i, i < j → -288230376151711744 ≤ f i ∧ -288230376151711744 ≤ g i) ∧ w7 = wr) (fun v _ => 6 - (intOf v).toNat)
                    case atStart => exact ⟨0, rfl, by omega, fun i hi => by omega, rfl⟩
                    case round =>
                      obtain ⟨j, rfl, hj, HS, rfl⟩ := hrel
                      by_cases hlt : j < 6
                      · have i0 : (0 : Int) ≤ (j : Int) := by omega
                        have i1 : (j : Int) < 6 := by omega
                        have aj : w7.cell? ⟨ab, j, none⟩ = some (.int .i64 (f j)) := by
                          rcases j with _ | _ | _ | _ | _ | _ | j
                          · exact HA7.out.at 0 _ rfl
                          · exact HA7.out.at 1 _ rfl
                          · exact HA7.out.at 2 _ rfl
                          · exact HA7.out.at 3 _ rfl
                          · exact HA7.out.at 4 _ rfl
                          · exact HA7.out.at 5 _ rfl
                          · omega
                        have bj : w7.cell? ⟨bb, j, none⟩ = some (.int .i64 (g j)) := by
                          rcases j with _ | _ | _ | _ | _ | _ | j
                          · exact HB7.out.at 0 _ rfl
                          · exact HB7.out.at 1 _ rfl
                          · exact HB7.out.at 2 _ rfl
                          · exact HB7.out.at 3 _ rfl
                          · exact HB7.out.at 4 _ rfl
                          · exact HB7.out.at 5 _ rfl
                          · omega
                        have HS2 : Hid (-288230376151711744 ≤ f j → -288230376151711744 ≤ g j → ∀ i, i < j + 1 → -288230376151711744 ≤ f i ∧ -288230376151711744 ≤ g i) := fun e1 e2 i hi => by
                          rcases Nat.lt_or_ge i j with h1 | h1
                          · exact HS.out i h1
                          · obtain rfl : i = j := by omega
                            exact ⟨e1, e2⟩
                        generalize f j = x at *
                        generalize g j = y at *
                        by_cases hx : -288230376151711744 ≤ x
                        · by_cases hy : -288230376151711744 ≤ y
                          · have HS3 := Lib.hid (HS2.out hx hy)
                            clear HS HS2
                            have ex : ¬ x < -288230376151711744 := by omega
                            have ey : ¬ y < -288230376151711744 := by omega
                            go_wp2
                            go_roundw
                            case rel => exact ⟨j + 1, by go_num, by omega, HS3.out, (by first | rfl | trivial)⟩
                            case measure => simp only [intOf]; omega
                          · clear HS HS2
                            have ex : ¬ x < -288230376151711744 := by omega
                            have ey : y < -288230376151711744 := by omega
                            clear hy
                            go_wp2_with (go_at_call 17; ((with_reducible refine (CV _).mono ?_); rintro e w8 ⟨rfl, hg⟩; have HG8 := Lib.hid (grew_trans HG7.out hg); clear hg HG7  ))
                            go_ret
                            exact ⟨rfl, HG8.out⟩
                        · clear HS HS2
                          have ex : x < -288230376151711744 := by omega
                          clear hx
                          go_wp2_with (go_at_call 17; ((with_reducible refine (CV _).mono ?_); rintro e w8 ⟨rfl, hg⟩; have HG8 := Lib.hid (grew_trans HG7.out hg); clear hg HG7  ))
                          go_ret
                          exact ⟨rfl, HG8.out⟩
                      · obtain rfl : 6 = j := by omega
                        obtain ⟨j1, j2, j3, j4⟩ := HJ.out HS.out
                        have HJ4 := Lib.hid j4
                        have HS4 := Lib.hid HS.out
                        subst j1 j2
                        clear j4 HJ HS
                        have hbs7 : bb < w7.heap.size := HB7.out.lt
                        go_upto_region 15 with (first
                          | (go_at_call 10; ((with_reducible refine (CP _ HG7.out).mono ?_); rintro e w8 ⟨D, d, rfl, ho, hg⟩; have HO8 := Lib.hid ho; have HG8 := Lib.hid (grew_trans HG7.out hg); have HR8 := Lib.hid (HR7.out.keep hg); have HA8 := Lib.hid (HA7.out.keep hg); have HB8 := Lib.hid (HB7.out.keep hg); have HSZ8 : Hid (w7.heap.size ≤ w8.heap.size) := hg.size; clear ho hg CP))
                          | (at_builtin; refine (wpList_append_E rfl _ _ 27 46 (vPo po0) 32 rfl Try.underlying27 info_po rfl w7.heap.size _ l rfl HO8.out C m e k rfl hq (HKR.out _ HG8.out) (by unfold maxLen; omega) (by omega) HSZ8.out ?_); intro v' w9 ho hb; obtain ⟨D2, d2, rfl, hrow, -⟩ := ho.form; have HP9 : Hid (RowE enPo w9 D2 (n + m) (l ++ k)) := (by rw [HLN.out] at hrow; exact hrow); have HG9 : Hid (Grew w w9) := Below.trans HG8.out (Below.mono hb HG7.out.size); have HR9 := Lib.hid (HR8.out.below hb (by omega)); have HA9 := Lib.hid (HA8.out.below hb (by omega)); have HB9 := Lib.hid (HB8.out.below hb (by omega)); clear ho hb hrow HO8 HG8 HR8 HA8 HB8 HSZ8 HG7 HR7 HA7 HB7))
                        have HLt : Hid (True) := trivial
                        generalize w7.heap.size = bs7 at *
                        have r0 := HR9.out.at 0 (.slice A1 n1 c1) rfl; have r1 := HR9.out.at 1 (.slice A2 n2 c2) rfl; have r2 := HR9.out.at 2 (.slice A3 n3 c3) rfl
                        go_upto_region 16 with (go_at_call 11; ((with_reducible refine (CL _ _ _ HG9.out HP9.out).mono ?_); rintro e w10 ⟨rfl, hg⟩; have HG10 := Lib.hid (grew_trans HG9.out hg); have HR10 := Lib.hid (HR9.out.keep hg); have HA10 := Lib.hid (HA9.out.keep hg); have HB10 := Lib.hid (HB9.out.keep hg); have HP10 := Lib.hid (HP9.out.keep hg); clear hg HG9 HR9 HA9 HB9 HP9 r0 r1 r2 CL))
                        have HC11 : Hid (OwnC (w10.alloc (.cells #[.int .i64 (h9 0), .int .i64 (h9 1), .int .i64 (h9 2), .int .i64 (h9 3), .int .i64 (h9 4), .int .i64 (h9 5)] 31)) w10.heap.size [.int .i64 (h9 0), .int .i64 (h9 1), .int .i64 (h9 2), .int .i64 (h9 3), .int .i64 (h9 4), .int .i64 (h9 5)]) := OwnC.new w10 [.int .i64 (h9 0), .int .i64 (h9 1), .int .i64 (h9 2), .int .i64 (h9 3), .int .i64 (h9 4), .int .i64 (h9 5)] _ _ rfl
                        have HR11 := Lib.hid (HR10.out.keep (grew_alloc w10 #[.int .i64 (h9 0), .int .i64 (h9 1), .int .i64 (h9 2), .int .i64 (h9 3), .int .i64 (h9 4), .int .i64 (h9 5)] 31))
                        have HA11 := Lib.hid (HA10.out.keep (grew_alloc w10 #[.int .i64 (h9 0), .int .i64 (h9 1), .int .i64 (h9 2), .int .i64 (h9 3), .int .i64 (h9 4), .int .i64 (h9 5)] 31))
                        have HB11 := Lib.hid (HB10.out.keep (grew_alloc w10 #[.int .i64 (h9 0), .int .i64 (h9 1), .int .i64 (h9 2), .int .i64 (h9 3), .int .i64 (h9 4), .int .i64 (h9 5)] 31))
                        have HP11 := Lib.hid (HP10.out.keep (grew_alloc w10 #[.int .i64 (h9 0), .int .i64 (h9 1), .int .i64 (h9 2), .int .i64 (h9 3), .int .i64 (h9 4), .int .i64 (h9 5)] 31))
                        have HG11 := Lib.hid (grew_trans HG10.out (grew_alloc w10 #[.int .i64 (h9 0), .int .i64 (h9 1), .int .i64 (h9 2), .int .i64 (h9 3), .int .i64 (h9 4), .int .i64 (h9 5)] 31))
                        clear HR10 HA10 HB10 HP10 HG10
                        generalize (w10.alloc (.cells #[.int .i64 (h9 0), .int .i64 (h9 1), .int .i64 (h9 2), .int .i64 (h9 3), .int .i64 (h9 4), .int .i64 (h9 5)] 31)) = w11 at *
                        generalize w10.heap.size = cb at *
                        have r0 := HR11.out.at 0 (.slice A1 n1 c1) rfl; have r1 := HR11.out.at 1 (.slice A2 n2 c2) rfl; have r2 := HR11.out.at 2 (.slice A3 n3 c3) rfl
                        go_upto_region 17 with (go_at_call 13; ((with_reducible refine (CM _ _ _ HG11.out HP11.out).mono ?_); rintro e w12 ⟨rfl, hg⟩; have HG12 := Lib.hid (grew_trans HG11.out hg); have HA12 := Lib.hid (HA11.out.keep hg); have HB12 := Lib.hid (HB11.out.keep hg); have HC12 := Lib.hid (HC11.out.keep hg); clear hg HG11 HA11 HB11 HC11 r0 r1 r2 CM HR11 HP11))
                        have hov : ¬ M1 + M2 < M9 := by omega
                        go_upto_block 2 with (fail)
                        go_wp2
                        go_loopw [23] (fun v wr => ∃ j : Nat, v = .int .i64 j ∧ j ≤ 6 ∧ Hid (Grew w12 wr)) (fun v _ => 6 - (intOf v).toNat)
                        case atStart => exact ⟨0, rfl, by omega, grew_refl _⟩
                        case round =>
                          obtain ⟨j, rfl, hj, HW⟩ := hrel
                          have HA9 := Lib.hid (HA12.out.keep HW.out)
                          have HB9 := Lib.hid (HB12.out.keep HW.out)
                          have HC9 := Lib.hid (HC12.out.keep HW.out)
                          have HG9 := Lib.hid (grew_trans HG12.out HW.out)
                          by_cases hlt : j < 6
                          · have i0 : (0 : Int) ≤ (j : Int) := by omega
                            have i1 : (j : Int) < 6 := by omega
                            have ej := HJ4.out j hlt
                            obtain ⟨s1, s2⟩ := HS4.out j hlt
                            have s3 := HA0.out j hlt
                            have s4 := HB0.out j hlt
                            have aj : wr.cell? ⟨ab, j, none⟩ = some (.int .i64 (f j)) := by
                              rcases j with _ | _ | _ | _ | _ | _ | j
                              · exact HA9.out.at 0 _ rfl
                              · exact HA9.out.at 1 _ rfl
                              · exact HA9.out.at 2 _ rfl
                              · exact HA9.out.at 3 _ rfl
                              · exact HA9.out.at 4 _ rfl
                              · exact HA9.out.at 5 _ rfl
                              · omega
                            have bj : wr.cell? ⟨bb, j, none⟩ = some (.int .i64 (g j)) := by
                              rcases j with _ | _ | _ | _ | _ | _ | j
                              · exact HB9.out.at 0 _ rfl
                              · exact HB9.out.at 1 _ rfl
                              · exact HB9.out.at 2 _ rfl
                              · exact HB9.out.at 3 _ rfl
                              · exact HB9.out.at 4 _ rfl
                              · exact HB9.out.at 5 _ rfl
                              · omega
                            have cj : wr.cell? ⟨cb, j, none⟩ = some (.int .i64 (h9 j)) := by
                              rcases j with _ | _ | _ | _ | _ | _ | j
                              · exact HC9.out.at 0 _ rfl
                              · exact HC9.out.at 1 _ rfl
                              · exact HC9.out.at 2 _ rfl
                              · exact HC9.out.at 3 _ rfl
                              · exact HC9.out.at 4 _ rfl
                              · exact HC9.out.at 5 _ rfl
                              · omega
                            generalize f j = x at *
                            generalize g j = y at *
                            generalize h9 j = z at *
                            subst ej
                            go_wp2
                            go_quiet (fail)
                            go_wp2
                            go_roundw
                            case rel => exact ⟨j + 1, by go_num, by omega, (by first | exact grew_drewN HW.out _ | exact HW.out)⟩
                            case measure => simp only [intOf]; omega
                          · obtain rfl : 6 = j := by omega
                            go_wp2_with (go_at_call 17; ((with_reducible refine (CV _).mono ?_); rintro e w10 ⟨rfl, hg⟩; have HG10 := Lib.hid (grew_trans HG9.out hg); clear hg HG9  ))
                            go_ret
                            exact ⟨rfl, HG10.out⟩
                  · rw [hE1] at C1
                    rw [hE2] at C2
                    rw [hG1] at C3
                    rw [hG2] at C4
                    have hM2 : 288230376151711744 < margN r who cur k := by omega
                    have hM1' : ¬ 288230376151711744 < margN r who cur l := by omega
                    clear hE1 hE2 hG1 hG2 hM1
                    dsimp only [rlV, v6] at C1 C2 C3 C4
                    clear h3 h h' hk
                    generalize lossA r who cur l = f at *
                    generalize lossA r who cur k = g at *
                    generalize lossE r who cur l = E1 at *
                    generalize lossE r who cur k = E2 at *
                    generalize margE r who cur l = G1 at *
                    generalize margE r who cur k = G2 at *
                    generalize margN r who cur l = M1 at *
                    generalize margN r who cur k = M2 at *
                    go_enter Try.func5, Try.ntmps5
                    go_upto_region 1 with (fail)
                    generalize (w.alloc (.cells #[.slice A1 n1 c1, .slice A2 n2 c2, .slice A3 n3 c3] 26)) = w0 at *
                    have r0 := HR0.out.at 0 (.slice A1 n1 c1) rfl; have r1 := HR0.out.at 1 (.slice A2 n2 c2) rfl; have r2 := HR0.out.at 2 (.slice A3 n3 c3) rfl
                    go_upto_region 4 with (first
                      | (go_at_call 8; ((with_reducible refine (CH _).mono ?_); rintro e w1 ⟨rfl, hg⟩; have HG1 := Lib.hid (grew_trans HG0.out hg); have HR1 := Lib.hid (HR0.out.keep hg); clear hg HR0 HG0 r0 r1 r2; have r0 := HR1.out.at 0 (.slice A1 n1 c1) rfl; have r1 := HR1.out.at 1 (.slice A2 n2 c2) rfl; have r2 := HR1.out.at 2 (.slice A3 n3 c3) rfl))
                      | (go_at_call 11; ((with_reducible refine (C1 _ HG1.out).mono ?_); rintro e w2 ⟨rfl, hg⟩; have HG2 := Lib.hid (grew_trans HG1.out hg); have HR2 := Lib.hid (HR1.out.keep hg); clear hg HG1 HR1 r0 r1 r2 C1)))
                    have HA3 : Hid (OwnC (w2.alloc (.cells #[.int .i64 (f 0), .int .i64 (f 1), .int .i64 (f 2), .int .i64 (f 3), .int .i64 (f 4), .int .i64 (f 5)] 31)) w2.heap.size [.int .i64 (f 0), .int .i64 (f 1), .int .i64 (f 2), .int .i64 (f 3), .int .i64 (f 4), .int .i64 (f 5)]) := OwnC.new w2 [.int .i64 (f 0), .int .i64 (f 1), .int .i64 (f 2), .int .i64 (f 3), .int .i64 (f 4), .int .i64 (f 5)] _ _ rfl
                    have HR3 := Lib.hid (HR2.out.keep (grew_alloc w2 #[.int .i64 (f 0), .int .i64 (f 1), .int .i64 (f 2), .int .i64 (f 3), .int .i64 (f 4), .int .i64 (f 5)] 31))
                    have HG3 := Lib.hid (grew_trans HG2.out (grew_alloc w2 #[.int .i64 (f 0), .int .i64 (f 1), .int .i64 (f 2), .int .i64 (f 3), .int .i64 (f 4), .int .i64 (f 5)] 31))
                    have hab : w.heap.size < w2.heap.size := HR2.out.lt
                    clear HR2 HG2
                    generalize (w2.alloc (.cells #[.int .i64 (f 0), .int .i64 (f 1), .int .i64 (f 2), .int .i64 (f 3), .int .i64 (f 4), .int .i64 (f 5)] 31)) = w3 at *
                    generalize w2.heap.size = ab at *
                    have r0 := HR3.out.at 0 (.slice A1 n1 c1) rfl; have r1 := HR3.out.at 1 (.slice A2 n2 c2) rfl; have r2 := HR3.out.at 2 (.slice A3 n3 c3) rfl
                    go_upto_region 5 with (go_at_call 11; ((with_reducible refine (C2 _ HG3.out).mono ?_); rintro e w4 ⟨rfl, hg⟩; have HG4 := Lib.hid (grew_trans HG3.out hg); have HR4 := Lib.hid (HR3.out.keep hg); have HA4 := Lib.hid (HA3.out.keep hg); clear hg HG3 HR3 HA3 r0 r1 r2 C2))
                    have HB5 : Hid (OwnC (w4.alloc (.cells #[.int .i64 (g 0), .int .i64 (g 1), .int .i64 (g 2), .int .i64 (g 3), .int .i64 (g 4), .int .i64 (g 5)] 31)) w4.heap.size [.int .i64 (g 0), .int .i64 (g 1), .int .i64 (g 2), .int .i64 (g 3), .int .i64 (g 4), .int .i64 (g 5)]) := OwnC.new w4 [.int .i64 (g 0), .int .i64 (g 1), .int .i64 (g 2), .int .i64 (g 3), .int .i64 (g 4), .int .i64 (g 5)] _ _ rfl
                    have HR5 := Lib.hid (HR4.out.keep (grew_alloc w4 #[.int .i64 (g 0), .int .i64 (g 1), .int .i64 (g 2), .int .i64 (g 3), .int .i64 (g 4), .int .i64 (g 5)] 31))
                    have HA5 := Lib.hid (HA4.out.keep (grew_alloc w4 #[.int .i64 (g 0), .int .i64 (g 1), .int .i64 (g 2), .int .i64 (g 3), .int .i64 (g 4), .int .i64 (g 5)] 31))
                    have HG5 := Lib.hid (grew_trans HG4.out (grew_alloc w4 #[.int .i64 (g 0), .int .i64 (g 1), .int .i64 (g 2), .int .i64 (g 3), .int .i64 (g 4), .int .i64 (g 5)] 31))
                    have hbb : ab < w4.heap.size := HA4.out.lt
                    clear HR4 HG4 HA4
                    generalize (w4.alloc (.cells #[.int .i64 (g 0), .int .i64 (g 1), .int .i64 (g 2), .int .i64 (g 3), .int .i64 (g 4), .int .i64 (g 5)] 31)) = w5 at *
                    generalize w4.heap.size = bb at *
                    have r0 := HR5.out.at 0 (.slice A1 n1 c1) rfl; have r1 := HR5.out.at 1 (.slice A2 n2 c2) rfl; have r2 := HR5.out.at 2 (.slice A3 n3 c3) rfl
                    go_upto_region 7 with (first
                      | (go_at_call 13; ((with_reducible refine (C3 _ HG5.out).mono ?_); rintro e w6 ⟨rfl, hg⟩; have HG6 := Lib.hid (grew_trans HG5.out hg); have HR6 := Lib.hid (HR5.out.keep hg); have HA6 := Lib.hid (HA5.out.keep hg); have HB6 := Lib.hid (HB5.out.keep hg); clear hg HG5 HR5 HA5 HB5 r0 r1 r2 C3; have r0 := HR6.out.at 0 (.slice A1 n1 c1) rfl; have r1 := HR6.out.at 1 (.slice A2 n2 c2) rfl; have r2 := HR6.out.at 2 (.slice A3 n3 c3) rfl))
                      | (go_at_call 13; ((with_reducible refine (C4 _ HG6.out).mono ?_); rintro e w7 ⟨rfl, hg⟩; have HG7 := Lib.hid (grew_trans HG6.out hg); have HR7 := Lib.hid (HR6.out.keep hg); have HA7 := Lib.hid (HA6.out.keep hg); have HB7 := Lib.hid (HB6.out.keep hg); clear hg HG6 HR6 HA6 HB6 r0 r1 r2 C4)))
                    go_wp2_with (go_at_call 17; ((with_reducible refine (CV _).mono ?_); rintro e w8 ⟨rfl, hg⟩; have HG8 := Lib.hid (grew_trans HG7.out hg); clear hg HG7  ))
                    go_ret
                    exact ⟨rfl, HG8.out⟩
                · rw [hE1] at C1
                  rw [hE2] at C2
                  rw [hG1] at C3
                  rw [hG2] at C4
                  have hM1' : 288230376151711744 < margN r who cur l := by omega
                  clear hE1 hE2 hG1 hG2 hM1
                  dsimp only [rlV, v6] at C1 C2 C3 C4
                  clear h3 h h' hk
                  generalize lossA r who cur l = f at *
                  generalize lossA r who cur k = g at *
                  generalize lossE r who cur l = E1 at *
                  generalize lossE r who cur k = E2 at *
                  generalize margE r who cur l = G1 at *
                  generalize margE r who cur k = G2 at *
                  generalize margN r who cur l = M1 at *
                  generalize margN r who cur k = M2 at *
                  go_enter Try.func5, Try.ntmps5
                  go_upto_region 1 with (fail)
                  generalize (w.alloc (.cells #[.slice A1 n1 c1, .slice A2 n2 c2, .slice A3 n3 c3] 26)) = w0 at *
                  have r0 := HR0.out.at 0 (.slice A1 n1 c1) rfl; have r1 := HR0.out.at 1 (.slice A2 n2 c2) rfl; have r2 := HR0.out.at 2 (.slice A3 n3 c3) rfl
                  go_upto_region 4 with (first
                    | (go_at_call 8; ((with_reducible refine (CH _).mono ?_); rintro e w1 ⟨rfl, hg⟩; have HG1 := Lib.hid (grew_trans HG0.out hg); have HR1 := Lib.hid (HR0.out.keep hg); clear hg HR0 HG0 r0 r1 r2; have r0 := HR1.out.at 0 (.slice A1 n1 c1) rfl; have r1 := HR1.out.at 1 (.slice A2 n2 c2) rfl; have r2 := HR1.out.at 2 (.slice A3 n3 c3) rfl))
                    | (go_at_call 11; ((with_reducible refine (C1 _ HG1.out).mono ?_); rintro e w2 ⟨rfl, hg⟩; have HG2 := Lib.hid (grew_trans HG1.out hg); have HR2 := Lib.hid (HR1.out.keep hg); clear hg HG1 HR1 r0 r1 r2 C1)))
                  have HA3 : Hid (OwnC (w2.alloc (.cells #[.int .i64 (f 0), .int .i64 (f 1), .int .i64 (f 2), .int .i64 (f 3), .int .i64 (f 4), .int .i64 (f 5)] 31)) w2.heap.size [.int .i64 (f 0), .int .i64 (f 1), .int .i64 (f 2), .int .i64 (f 3), .int .i64 (f 4), .int .i64 (f 5)]) := OwnC.new w2 [.int .i64 (f 0), .int .i64 (f 1), .int .i64 (f 2), .int .i64 (f 3), .int .i64 (f 4), .int .i64 (f 5)] _ _ rfl
                  have HR3 := Lib.hid (HR2.out.keep (grew_alloc w2 #[.int .i64 (f 0), .int .i64 (f 1), .int .i64 (f 2), .int .i64 (f 3), .int .i64 (f 4), .int .i64 (f 5)] 31))
                  have HG3 := Lib.hid (grew_trans HG2.out (grew_alloc w2 #[.int .i64 (f 0), .int .i64 (f 1), .int .i64 (f 2), .int .i64 (f 3), .int .i64 (f 4), .int .i64 (f 5)] 31))
                  have hab : w.heap.size < w2.heap.size := HR2.out.lt
                  clear HR2 HG2
                  generalize (w2.alloc (.cells #[.int .i64 (f 0), .int .i64 (f 1), .int .i64 (f 2), .int .i64 (f 3), .int .i64 (f 4), .int .i64 (f 5)] 31)) = w3 at *
                  generalize w2.heap.size = ab at *
                  have r0 := HR3.out.at 0 (.slice A1 n1 c1) rfl; have r1 := HR3.out.at 1 (.slice A2 n2 c2) rfl; have r2 := HR3.out.at 2 (.slice A3 n3 c3) rfl
                  go_upto_region 5 with (go_at_call 11; ((with_reducible refine (C2 _ HG3.out).mono ?_); rintro e w4 ⟨rfl, hg⟩; have HG4 := Lib.hid (grew_trans HG3.out hg); have HR4 := Lib.hid (HR3.out.keep hg); have HA4 := Lib.hid (HA3.out.keep hg); clear hg HG3 HR3 HA3 r0 r1 r2 C2))
                  have HB5 : Hid (OwnC (w4.alloc (.cells #[.int .i64 (g 0), .int .i64 (g 1), .int .i64 (g 2), .int .i64 (g 3), .int .i64 (g 4), .int .i64 (g 5)] 31)) w4.heap.size [.int .i64 (g 0), .int .i64 (g 1), .int .i64 (g 2), .int .i64 (g 3), .int .i64 (g 4), .int .i64 (g 5)]) := OwnC.new w4 [.int .i64 (g 0), .int .i64 (g 1), .int .i64 (g 2), .int .i64 (g 3), .int .i64 (g 4), .int .i64 (g 5)] _ _ rfl
                  have HR5 := Lib.hid (HR4.out.keep (grew_alloc w4 #[.int .i64 (g 0), .int .i64 (g 1), .int .i64 (g 2), .int .i64 (g 3), .int .i64 (g 4), .int .i64 (g 5)] 31))
                  have HA5 := Lib.hid (HA4.out.keep (grew_alloc w4 #[.int .i64 (g 0), .int .i64 (g 1), .int .i64 (g 2), .int .i64 (g 3), .int .i64 (g 4), .int .i64 (g 5)] 31))
                  have HG5 := Lib.hid (grew_trans HG4.out (grew_alloc w4 #[.int .i64 (g 0), .int .i64 (g 1), .int .i64 (g 2), .int .i64 (g 3), .int .i64 (g 4), .int .i64 (g 5)] 31))
                  have hbb : ab < w4.heap.size := HA4.out.lt
                  clear HR4 HG4 HA4
                  generalize (w4.alloc (.cells #[.int .i64 (g 0), .int .i64 (g 1), .int .i64 (g 2), .int .i64 (g 3), .int .i64 (g 4), .int .i64 (g 5)] 31)) = w5 at *
                  generalize w4.heap.size = bb at *
                  have r0 := HR5.out.at 0 (.slice A1 n1 c1) rfl; have r1 := HR5.out.at 1 (.slice A2 n2 c2) rfl; have r2 := HR5.out.at 2 (.slice A3 n3 c3) rfl
                  go_upto_region 7 with (first
                    | (go_at_call 13; ((with_reducible refine (C3 _ HG5.out).mono ?_); rintro e w6 ⟨rfl, hg⟩; have HG6 := Lib.hid (grew_trans HG5.out hg); have HR6 := Lib.hid (HR5.out.keep hg); have HA6 := Lib.hid (HA5.out.keep hg); have HB6 := Lib.hid (HB5.out.keep hg); clear hg HG5 HR5 HA5 HB5 r0 r1 r2 C3; have r0 := HR6.out.at 0 (.slice A1 n1 c1) rfl; have r1 := HR6.out.at 1 (.slice A2 n2 c2) rfl; have r2 := HR6.out.at 2 (.slice A3 n3 c3) rfl))
                    | (go_at_call 13; ((with_reducible refine (C4 _ HG6.out).mono ?_); rintro e w7 ⟨rfl, hg⟩; have HG7 := Lib.hid (grew_trans HG6.out hg); have HR7 := Lib.hid (HR6.out.keep hg); have HA7 := Lib.hid (HA6.out.keep hg); have HB7 := Lib.hid (HB6.out.keep hg); clear hg HG6 HR6 HA6 HB6 r0 r1 r2 C4)))
                  go_wp2_with (go_at_call 17; ((with_reducible refine (CV _).mono ?_); rintro e w8 ⟨rfl, hg⟩; have HG8 := Lib.hid (grew_trans HG7.out hg); clear hg HG7  ))
                  go_ret
                  exact ⟨rfl, HG8.out⟩
              · rw [hE1] at C1
                rw [hE2] at C2
                rw [hG1] at C3
                have d1 : (margE r who cur k != 0) = true := bne_iff_ne.2 hG2
                clear hE1 hE2 hG1 hG2
                dsimp only [rlV, v6] at C1 C2 C3 C4
                clear h3 h h' hk
                generalize lossA r who cur l = f at *
                generalize lossA r who cur k = g at *
                generalize lossE r who cur l = E1 at *
                generalize lossE r who cur k = E2 at *
                generalize margE r who cur l = G1 at *
                generalize margE r who cur k = G2 at *
                generalize margN r who cur l = M1 at *
                generalize margN r who cur k = M2 at *
                go_enter Try.func5, Try.ntmps5
                go_upto_region 1 with (fail)
                generalize (w.alloc (.cells #[.slice A1 n1 c1, .slice A2 n2 c2, .slice A3 n3 c3] 26)) = w0 at *
                have r0 := HR0.out.at 0 (.slice A1 n1 c1) rfl; have r1 := HR0.out.at 1 (.slice A2 n2 c2) rfl; have r2 := HR0.out.at 2 (.slice A3 n3 c3) rfl
                go_upto_region 4 with (first
                  | (go_at_call 8; ((with_reducible refine (CH _).mono ?_); rintro e w1 ⟨rfl, hg⟩; have HG1 := Lib.hid (grew_trans HG0.out hg); have HR1 := Lib.hid (HR0.out.keep hg); clear hg HR0 HG0 r0 r1 r2; have r0 := HR1.out.at 0 (.slice A1 n1 c1) rfl; have r1 := HR1.out.at 1 (.slice A2 n2 c2) rfl; have r2 := HR1.out.at 2 (.slice A3 n3 c3) rfl))
                  | (go_at_call 11; ((with_reducible refine (C1 _ HG1.out).mono ?_); rintro e w2 ⟨rfl, hg⟩; have HG2 := Lib.hid (grew_trans HG1.out hg); have HR2 := Lib.hid (HR1.out.keep hg); clear hg HG1 HR1 r0 r1 r2 C1)))
                have HA3 : Hid (OwnC (w2.alloc (.cells #[.int .i64 (f 0), .int .i64 (f 1), .int .i64 (f 2), .int .i64 (f 3), .int .i64 (f 4), .int .i64 (f 5)] 31)) w2.heap.size [.int .i64 (f 0), .int .i64 (f 1), .int .i64 (f 2), .int .i64 (f 3), .int .i64 (f 4), .int .i64 (f 5)]) := OwnC.new w2 [.int .i64 (f 0), .int .i64 (f 1), .int .i64 (f 2), .int .i64 (f 3), .int .i64 (f 4), .int .i64 (f 5)] _ _ rfl
                have HR3 := Lib.hid (HR2.out.keep (grew_alloc w2 #[.int .i64 (f 0), .int .i64 (f 1), .int .i64 (f 2), .int .i64 (f 3), .int .i64 (f 4), .int .i64 (f 5)] 31))
                have HG3 := Lib.hid (grew_trans HG2.out (grew_alloc w2 #[.int .i64 (f 0), .int .i64 (f 1), .int .i64 (f 2), .int .i64 (f 3), .int .i64 (f 4), .int .i64 (f 5)] 31))
                have hab : w.heap.size < w2.heap.size := HR2.out.lt
                clear HR2 HG2
                generalize (w2.alloc (.cells #[.int .i64 (f 0), .int .i64 (f 1), .int .i64 (f 2), .int .i64 (f 3), .int .i64 (f 4), .int .i64 (f 5)] 31)) = w3 at *
                generalize w2.heap.size = ab at *
                have r0 := HR3.out.at 0 (.slice A1 n1 c1) rfl; have r1 := HR3.out.at 1 (.slice A2 n2 c2) rfl; have r2 := HR3.out.at 2 (.slice A3 n3 c3) rfl
                go_upto_region 5 with (go_at_call 11; ((with_reducible refine (C2 _ HG3.out).mono ?_); rintro e w4 ⟨rfl, hg⟩; have HG4 := Lib.hid (grew_trans HG3.out hg); have HR4 := Lib.hid (HR3.out.keep hg); have HA4 := Lib.hid (HA3.out.keep hg); clear hg HG3 HR3 HA3 r0 r1 r2 C2))
                have HB5 : Hid (OwnC (w4.alloc (.cells #[.int .i64 (g 0), .int .i64 (g 1), .int .i64 (g 2), .int .i64 (g 3), .int .i64 (g 4), .int .i64 (g 5)] 31)) w4.heap.size [.int .i64 (g 0), .int .i64 (g 1), .int .i64 (g 2), .int .i64 (g 3), .int .i64 (g 4), .int .i64 (g 5)]) := OwnC.new w4 [.int .i64 (g 0), .int .i64 (g 1), .int .i64 (g 2), .int .i64 (g 3), .int .i64 (g 4), .int .i64 (g 5)] _ _ rfl
                have HR5 := Lib.hid (HR4.out.keep (grew_alloc w4 #[.int .i64 (g 0), .int .i64 (g 1), .int .i64 (g 2), .int .i64 (g 3), .int .i64 (g 4), .int .i64 (g 5)] 31))
                have HA5 := Lib.hid (HA4.out.keep (grew_alloc w4 #[.int .i64 (g 0), .int .i64 (g 1), .int .i64 (g 2), .int .i64 (g 3), .int .i64 (g 4), .int .i64 (g 5)] 31))
                have HG5 := Lib.hid (grew_trans HG4.out (grew_alloc w4 #[.int .i64 (g 0), .int .i64 (g 1), .int .i64 (g 2), .int .i64 (g 3), .int .i64 (g 4), .int .i64 (g 5)] 31))
                have hbb : ab < w4.heap.size := HA4.out.lt
                clear HR4 HG4 HA4
                generalize (w4.alloc (.cells #[.int .i64 (g 0), .int .i64 (g 1), .int .i64 (g 2), .int .i64 (g 3), .int .i64 (g 4), .int .i64 (g 5)] 31)) = w5 at *
                generalize w4.heap.size = bb at *
                have r0 := HR5.out.at 0 (.slice A1 n1 c1) rfl; have r1 := HR5.out.at 1 (.slice A2 n2 c2) rfl; have r2 := HR5.out.at 2 (.slice A3 n3 c3) rfl
                go_upto_region 7 with (first
                  | (go_at_call 13; ((with_reducible refine (C3 _ HG5.out).mono ?_); rintro e w6 ⟨rfl, hg⟩; have HG6 := Lib.hid (grew_trans HG5.out hg); have HR6 := Lib.hid (HR5.out.keep hg); have HA6 := Lib.hid (HA5.out.keep hg); have HB6 := Lib.hid (HB5.out.keep hg); clear hg HG5 HR5 HA5 HB5 r0 r1 r2 C3; have r0 := HR6.out.at 0 (.slice A1 n1 c1) rfl; have r1 := HR6.out.at 1 (.slice A2 n2 c2) rfl; have r2 := HR6.out.at 2 (.slice A3 n3 c3) rfl))
                  | (go_at_call 13; ((with_reducible refine (C4 _ HG6.out).mono ?_); rintro e w7 ⟨rfl, hg⟩; have HG7 := Lib.hid (grew_trans HG6.out hg); have HR7 := Lib.hid (HR6.out.keep hg); have HA7 := Lib.hid (HA6.out.keep hg); have HB7 := Lib.hid (HB6.out.keep hg); clear hg HG6 HR6 HA6 HB6 r0 r1 r2 C4)))
                go_wp2_with (go_at_call 17; ((with_reducible refine (CV _).mono ?_); rintro e w8 ⟨rfl, hg⟩; have HG8 := Lib.hid (grew_trans HG7.out hg); clear hg HG7  ))
                go_ret
                exact ⟨rfl, HG8.out⟩
            · rw [hE1] at C1
              rw [hE2] at C2
              have d1 : (margE r who cur l != 0) = true := bne_iff_ne.2 hG1
              clear hE1 hE2 hG1
              dsimp only [rlV, v6] at C1 C2 C3 C4
              clear h3 h h' hk
              generalize lossA r who cur l = f at *
              generalize lossA r who cur k = g at *
              generalize lossE r who cur l = E1 at *
              generalize lossE r who cur k = E2 at *
              generalize margE r who cur l = G1 at *
              generalize margE r who cur k = G2 at *
              generalize margN r who cur l = M1 at *
              generalize margN r who cur k = M2 at *
              go_enter Try.func5, Try.ntmps5
              go_upto_region 1 with (fail)
              generalize (w.alloc (.cells #[.slice A1 n1 c1, .slice A2 n2 c2, .slice A3 n3 c3] 26)) = w0 at *
              have r0 := HR0.out.at 0 (.slice A1 n1 c1) rfl; have r1 := HR0.out.at 1 (.slice A2 n2 c2) rfl; have r2 := HR0.out.at 2 (.slice A3 n3 c3) rfl
              go_upto_region 4 with (first
                | (go_at_call 8; ((with_reducible refine (CH _).mono ?_); rintro e w1 ⟨rfl, hg⟩; have HG1 := Lib.hid (grew_trans HG0.out hg); have HR1 := Lib.hid (HR0.out.keep hg); clear hg HR0 HG0 r0 r1 r2; have r0 := HR1.out.at 0 (.slice A1 n1 c1) rfl; have r1 := HR1.out.at 1 (.slice A2 n2 c2) rfl; have r2 := HR1.out.at 2 (.slice A3 n3 c3) rfl))
                | (go_at_call 11; ((with_reducible refine (C1 _ HG1.out).mono ?_); rintro e w2 ⟨rfl, hg⟩; have HG2 := Lib.hid (grew_trans HG1.out hg); have HR2 := Lib.hid (HR1.out.keep hg); clear hg HG1 HR1 r0 r1 r2 C1)))
              have HA3 : Hid (OwnC (w2.alloc (.cells #[.int .i64 (f 0), .int .i64 (f 1), .int .i64 (f 2), .int .i64 (f 3), .int .i64 (f 4), .int .i64 (f 5)] 31)) w2.heap.size [.int .i64 (f 0), .int .i64 (f 1), .int .i64 (f 2), .int .i64 (f 3), .int .i64 (f 4), .int .i64 (f 5)]) := OwnC.new w2 [.int .i64 (f 0), .int .i64 (f 1), .int .i64 (f 2), .int .i64 (f 3), .int .i64 (f 4), .int .i64 (f 5)] _ _ rfl
              have HR3 := Lib.hid (HR2.out.keep (grew_alloc w2 #[.int .i64 (f 0), .int .i64 (f 1), .int .i64 (f 2), .int .i64 (f 3), .int .i64 (f 4), .int .i64 (f 5)] 31))
              have HG3 := Lib.hid (grew_trans HG2.out (grew_alloc w2 #[.int .i64 (f 0), .int .i64 (f 1), .int .i64 (f 2), .int .i64 (f 3), .int .i64 (f 4), .int .i64 (f 5)] 31))
              have hab : w.heap.size < w2.heap.size := HR2.out.lt
              clear HR2 HG2
              generalize (w2.alloc (.cells #[.int .i64 (f 0), .int .i64 (f 1), .int .i64 (f 2), .int .i64 (f 3), .int .i64 (f 4), .int .i64 (f 5)] 31)) = w3 at *
              generalize w2.heap.size = ab at *
              have r0 := HR3.out.at 0 (.slice A1 n1 c1) rfl; have r1 := HR3.out.at 1 (.slice A2 n2 c2) rfl; have r2 := HR3.out.at 2 (.slice A3 n3 c3) rfl
              go_upto_region 5 with (go_at_call 11; ((with_reducible refine (C2 _ HG3.out).mono ?_); rintro e w4 ⟨rfl, hg⟩; have HG4 := Lib.hid (grew_trans HG3.out hg); have HR4 := Lib.hid (HR3.out.keep hg); have HA4 := Lib.hid (HA3.out.keep hg); clear hg HG3 HR3 HA3 r0 r1 r2 C2))
              have HB5 : Hid (OwnC (w4.alloc (.cells #[.int .i64 (g 0), .int .i64 (g 1), .int .i64 (g 2), .int .i64 (g 3), .int .i64 (g 4), .int .i64 (g 5)] 31)) w4.heap.size [.int .i64 (g 0), .int .i64 (g 1), .int .i64 (g 2), .int .i64 (g 3), .int .i64 (g 4), .int .i64 (g 5)]) := OwnC.new w4 [.int .i64 (g 0), .int .i64 (g 1), .int .i64 (g 2), .int .i64 (g 3), .int .i64 (g 4), .int .i64 (g 5)] _ _ rfl
              have HR5 := Lib.hid (HR4.out.keep (grew_alloc w4 #[.int .i64 (g 0), .int .i64 (g 1), .int .i64 (g 2), .int .i64 (g 3), .int .i64 (g 4), .int .i64 (g 5)] 31))
              have HA5 := Lib.hid (HA4.out.keep (grew_alloc w4 #[.int .i64 (g 0), .int .i64 (g 1), .int .i64 (g 2), .int .i64 (g 3), .int .i64 (g 4), .int .i64 (g 5)] 31))
              have HG5 := Lib.hid (grew_trans HG4.out (grew_alloc w4 #[.int .i64 (g 0), .int .i64 (g 1), .int .i64 (g 2), .int .i64 (g 3), .int .i64 (g 4), .int .i64 (g 5)] 31))
              have hbb : ab < w4.heap.size := HA4.out.lt
              clear HR4 HG4 HA4
              generalize (w4.alloc (.cells #[.int .i64 (g 0), .int .i64 (g 1), .int .i64 (g 2), .int .i64 (g 3), .int .i64 (g 4), .int .i64 (g 5)] 31)) = w5 at *
              generalize w4.heap.size = bb at *
              have r0 := HR5.out.at 0 (.slice A1 n1 c1) rfl; have r1 := HR5.out.at 1 (.slice A2 n2 c2) rfl; have r2 := HR5.out.at 2 (.slice A3 n3 c3) rfl
              go_upto_region 7 with (first
                | (go_at_call 13; ((with_reducible refine (C3 _ HG5.out).mono ?_); rintro e w6 ⟨rfl, hg⟩; have HG6 := Lib.hid (grew_trans HG5.out hg); have HR6 := Lib.hid (HR5.out.keep hg); have HA6 := Lib.hid (HA5.out.keep hg); have HB6 := Lib.hid (HB5.out.keep hg); clear hg HG5 HR5 HA5 HB5 r0 r1 r2 C3; have r0 := HR6.out.at 0 (.slice A1 n1 c1) rfl; have r1 := HR6.out.at 1 (.slice A2 n2 c2) rfl; have r2 := HR6.out.at 2 (.slice A3 n3 c3) rfl))
                | (go_at_call 13; ((with_reducible refine (C4 _ HG6.out).mono ?_); rintro e w7 ⟨rfl, hg⟩; have HG7 := Lib.hid (grew_trans HG6.out hg); have HR7 := Lib.hid (HR6.out.keep hg); have HA7 := Lib.hid (HA6.out.keep hg); have HB7 := Lib.hid (HB6.out.keep hg); clear hg HG6 HR6 HA6 HB6 r0 r1 r2 C4)))
              go_wp2_with (go_at_call 17; ((with_reducible refine (CV _).mono ?_); rintro e w8 ⟨rfl, hg⟩; have HG8 := Lib.hid (grew_trans HG7.out hg); clear hg HG7  ))
              go_ret
              exact ⟨rfl, HG8.out⟩
          · rw [hE1] at C1
            have d1 : (lossE r who cur k != 0) = true := bne_iff_ne.2 hE2
            clear hE1 hE2
            dsimp only [rlV, v6] at C1 C2 C3 C4
            clear h3 h h' hk
            generalize lossA r who cur l = f at *
            generalize lossA r who cur k = g at *
            generalize lossE r who cur l = E1 at *
            generalize lossE r who cur k = E2 at *
            generalize margE r who cur l = G1 at *
            generalize margE r who cur k = G2 at *
            generalize margN r who cur l = M1 at *
            generalize margN r who cur k = M2 at *
            go_enter Try.func5, Try.ntmps5
            go_upto_region 1 with (fail)
            generalize (w.alloc (.cells #[.slice A1 n1 c1, .slice A2 n2 c2, .slice A3 n3 c3] 26)) = w0 at *
            have r0 := HR0.out.at 0 (.slice A1 n1 c1) rfl; have r1 := HR0.out.at 1 (.slice A2 n2 c2) rfl; have r2 := HR0.out.at 2 (.slice A3 n3 c3) rfl
            go_upto_region 4 with (first
              | (go_at_call 8; ((with_reducible refine (CH _).mono ?_); rintro e w1 ⟨rfl, hg⟩; have HG1 := Lib.hid (grew_trans HG0.out hg); have HR1 := Lib.hid (HR0.out.keep hg); clear hg HR0 HG0 r0 r1 r2; have r0 := HR1.out.at 0 (.slice A1 n1 c1) rfl; have r1 := HR1.out.at 1 (.slice A2 n2 c2) rfl; have r2 := HR1.out.at 2 (.slice A3 n3 c3) rfl))
              | (go_at_call 11; ((with_reducible refine (C1 _ HG1.out).mono ?_); rintro e w2 ⟨rfl, hg⟩; have HG2 := Lib.hid (grew_trans HG1.out hg); have HR2 := Lib.hid (HR1.out.keep hg); clear hg HG1 HR1 r0 r1 r2 C1)))
            have HA3 : Hid (OwnC (w2.alloc (.cells #[.int .i64 (f 0), .int .i64 (f 1), .int .i64 (f 2), .int .i64 (f 3), .int .i64 (f 4), .int .i64 (f 5)] 31)) w2.heap.size [.int .i64 (f 0), .int .i64 (f 1), .int .i64 (f 2), .int .i64 (f 3), .int .i64 (f 4), .int .i64 (f 5)]) := OwnC.new w2 [.int .i64 (f 0), .int .i64 (f 1), .int .i64 (f 2), .int .i64 (f 3), .int .i64 (f 4), .int .i64 (f 5)] _ _ rfl
            have HR3 := Lib.hid (HR2.out.keep (grew_alloc w2 #[.int .i64 (f 0), .int .i64 (f 1), .int .i64 (f 2), .int .i64 (f 3), .int .i64 (f 4), .int .i64 (f 5)] 31))
            have HG3 := Lib.hid (grew_trans HG2.out (grew_alloc w2 #[.int .i64 (f 0), .int .i64 (f 1), .int .i64 (f 2), .int .i64 (f 3), .int .i64 (f 4), .int .i64 (f 5)] 31))
            have hab : w.heap.size < w2.heap.size := HR2.out.lt
            clear HR2 HG2
            generalize (w2.alloc (.cells #[.int .i64 (f 0), .int .i64 (f 1), .int .i64 (f 2), .int .i64 (f 3), .int .i64 (f 4), .int .i64 (f 5)] 31)) = w3 at *
            generalize w2.heap.size = ab at *
            have r0 := HR3.out.at 0 (.slice A1 n1 c1) rfl; have r1 := HR3.out.at 1 (.slice A2 n2 c2) rfl; have r2 := HR3.out.at 2 (.slice A3 n3 c3) rfl
            go_upto_region 5 with (go_at_call 11; ((with_reducible refine (C2 _ HG3.out).mono ?_); rintro e w4 ⟨rfl, hg⟩; have HG4 := Lib.hid (grew_trans HG3.out hg); have HR4 := Lib.hid (HR3.out.keep hg); have HA4 := Lib.hid (HA3.out.keep hg); clear hg HG3 HR3 HA3 r0 r1 r2 C2))
            have HB5 : Hid (OwnC (w4.alloc (.cells #[.int .i64 (g 0), .int .i64 (g 1), .int .i64 (g 2), .int .i64 (g 3), .int .i64 (g 4), .int .i64 (g 5)] 31)) w4.heap.size [.int .i64 (g 0), .int .i64 (g 1), .int .i64 (g 2), .int .i64 (g 3), .int .i64 (g 4), .int .i64 (g 5)]) := OwnC.new w4 [.int .i64 (g 0), .int .i64 (g 1), .int .i64 (g 2), .int .i64 (g 3), .int .i64 (g 4), .int .i64 (g 5)] _ _ rfl
            have HR5 := Lib.hid (HR4.out.keep (grew_alloc w4 #[.int .i64 (g 0), .int .i64 (g 1), .int .i64 (g 2), .int .i64 (g 3), .int .i64 (g 4), .int .i64 (g 5)] 31))
            have HA5 := Lib.hid (HA4.out.keep (grew_alloc w4 #[.int .i64 (g 0), .int .i64 (g 1), .int .i64 (g 2), .int .i64 (g 3), .int .i64 (g 4), .int .i64 (g 5)] 31))
            have HG5 := Lib.hid (grew_trans HG4.out (grew_alloc w4 #[.int .i64 (g 0), .int .i64 (g 1), .int .i64 (g 2), .int .i64 (g 3), .int .i64 (g 4), .int .i64 (g 5)] 31))
            have hbb : ab < w4.heap.size := HA4.out.lt
            clear HR4 HG4 HA4
            generalize (w4.alloc (.cells #[.int .i64 (g 0), .int .i64 (g 1), .int .i64 (g 2), .int .i64 (g 3), .int .i64 (g 4), .int .i64 (g 5)] 31)) = w5 at *
            generalize w4.heap.size = bb at *
            have r0 := HR5.out.at 0 (.slice A1 n1 c1) rfl; have r1 := HR5.out.at 1 (.slice A2 n2 c2) rfl; have r2 := HR5.out.at 2 (.slice A3 n3 c3) rfl
            go_upto_region 7 with (first
              | (go_at_call 13; ((with_reducible refine (C3 _ HG5.out).mono ?_); rintro e w6 ⟨rfl, hg⟩; have HG6 := Lib.hid (grew_trans HG5.out hg); have HR6 := Lib.hid (HR5.out.keep hg); have HA6 := Lib.hid (HA5.out.keep hg); have HB6 := Lib.hid (HB5.out.keep hg); clear hg HG5 HR5 HA5 HB5 r0 r1 r2 C3; have r0 := HR6.out.at 0 (.slice A1 n1 c1) rfl; have r1 := HR6.out.at 1 (.slice A2 n2 c2) rfl; have r2 := HR6.out.at 2 (.slice A3 n3 c3) rfl))
              | (go_at_call 13; ((with_reducible refine (C4 _ HG6.out).mono ?_); rintro e w7 ⟨rfl, hg⟩; have HG7 := Lib.hid (grew_trans HG6.out hg); have HR7 := Lib.hid (HR6.out.keep hg); have HA7 := Lib.hid (HA6.out.keep hg); have HB7 := Lib.hid (HB6.out.keep hg); clear hg HG6 HR6 HA6 HB6 r0 r1 r2 C4)))
            go_wp2_with (go_at_call 17; ((with_reducible refine (CV _).mono ?_); rintro e w8 ⟨rfl, hg⟩; have HG8 := Lib.hid (grew_trans HG7.out hg); clear hg HG7  ))
            go_ret
            exact ⟨rfl, HG8.out⟩
        · have d1 : (lossE r who cur l != 0) = true := bne_iff_ne.2 hE1
          clear hE1
          dsimp only [rlV, v6] at C1 C2 C3 C4
          clear h3 h h' hk
          generalize lossA r who cur l = f at *
          generalize lossA r who cur k = g at *
          generalize lossE r who cur l = E1 at *
          generalize lossE r who cur k = E2 at *
          generalize margE r who cur l = G1 at *
          generalize margE r who cur k = G2 at *
          generalize margN r who cur l = M1 at *
          generalize margN r who cur k = M2 at *
          go_enter Try.func5, Try.ntmps5
          go_upto_region 1 with (fail)
          generalize (w.alloc (.cells #[.slice A1 n1 c1, .slice A2 n2 c2, .slice A3 n3 c3] 26)) = w0 at *
          have r0 := HR0.out.at 0 (.slice A1 n1 c1) rfl; have r1 := HR0.out.at 1 (.slice A2 n2 c2) rfl; have r2 := HR0.out.at 2 (.slice A3 n3 c3) rfl
          go_upto_region 4 with (first
            | (go_at_call 8; ((with_reducible refine (CH _).mono ?_); rintro e w1 ⟨rfl, hg⟩; have HG1 := Lib.hid (grew_trans HG0.out hg); have HR1 := Lib.hid (HR0.out.keep hg); clear hg HR0 HG0 r0 r1 r2; have r0 := HR1.out.at 0 (.slice A1 n1 c1) rfl; have r1 := HR1.out.at 1 (.slice A2 n2 c2) rfl; have r2 := HR1.out.at 2 (.slice A3 n3 c3) rfl))
            | (go_at_call 11; ((with_reducible refine (C1 _ HG1.out).mono ?_); rintro e w2 ⟨rfl, hg⟩; have HG2 := Lib.hid (grew_trans HG1.out hg); have HR2 := Lib.hid (HR1.out.keep hg); clear hg HG1 HR1 r0 r1 r2 C1)))
          have HA3 : Hid (OwnC (w2.alloc (.cells #[.int .i64 (f 0), .int .i64 (f 1), .int .i64 (f 2), .int .i64 (f 3), .int .i64 (f 4), .int .i64 (f 5)] 31)) w2.heap.size [.int .i64 (f 0), .int .i64 (f 1), .int .i64 (f 2), .int .i64 (f 3), .int .i64 (f 4), .int .i64 (f 5)]) := OwnC.new w2 [.int .i64 (f 0), .int .i64 (f 1), .int .i64 (f 2), .int .i64 (f 3), .int .i64 (f 4), .int .i64 (f 5)] _ _ rfl
          have HR3 := Lib.hid (HR2.out.keep (grew_alloc w2 #[.int .i64 (f 0), .int .i64 (f 1), .int .i64 (f 2), .int .i64 (f 3), .int .i64 (f 4), .int .i64 (f 5)] 31))
          have HG3 := Lib.hid (grew_trans HG2.out (grew_alloc w2 #[.int .i64 (f 0), .int .i64 (f 1), .int .i64 (f 2), .int .i64 (f 3), .int .i64 (f 4), .int .i64 (f 5)] 31))
          have hab : w.heap.size < w2.heap.size := HR2.out.lt
          clear HR2 HG2
          generalize (w2.alloc (.cells #[.int .i64 (f 0), .int .i64 (f 1), .int .i64 (f 2), .int .i64 (f 3), .int .i64 (f 4), .int .i64 (f 5)] 31)) = w3 at *
          generalize w2.heap.size = ab at *
          have r0 := HR3.out.at 0 (.slice A1 n1 c1) rfl; have r1 := HR3.out.at 1 (.slice A2 n2 c2) rfl; have r2 := HR3.out.at 2 (.slice A3 n3 c3) rfl
          go_upto_region 5 with (go_at_call 11; ((with_reducible refine (C2 _ HG3.out).mono ?_); rintro e w4 ⟨rfl, hg⟩; have HG4 := Lib.hid (grew_trans HG3.out hg); have HR4 := Lib.hid (HR3.out.keep hg); have HA4 := Lib.hid (HA3.out.keep hg); clear hg HG3 HR3 HA3 r0 r1 r2 C2))
          have HB5 : Hid (OwnC (w4.alloc (.cells #[.int .i64 (g 0), .int .i64 (g 1), .int .i64 (g 2), .int .i64 (g 3), .int .i64 (g 4), .int .i64 (g 5)] 31)) w4.heap.size [.int .i64 (g 0), .int .i64 (g 1), .int .i64 (g 2), .int .i64 (g 3), .int .i64 (g 4), .int .i64 (g 5)]) := OwnC.new w4 [.int .i64 (g 0), .int .i64 (g 1), .int .i64 (g 2), .int .i64 (g 3), .int .i64 (g 4), .int .i64 (g 5)] _ _ rfl
          have HR5 := Lib.hid (HR4.out.keep (grew_alloc w4 #[.int .i64 (g 0), .int .i64 (g 1), .int .i64 (g 2), .int .i64 (g 3), .int .i64 (g 4), .int .i64 (g 5)] 31))
          have HA5 := Lib.hid (HA4.out.keep (grew_alloc w4 #[.int .i64 (g 0), .int .i64 (g 1), .int .i64 (g 2), .int .i64 (g 3), .int .i64 (g 4), .int .i64 (g 5)] 31))
          have HG5 := Lib.hid (grew_trans HG4.out (grew_alloc w4 #[.int .i64 (g 0), .int .i64 (g 1), .int .i64 (g 2), .int .i64 (g 3), .int .i64 (g 4), .int .i64 (g 5)] 31))
          have hbb : ab < w4.heap.size := HA4.out.lt
          clear HR4 HG4 HA4
          generalize (w4.alloc (.cells #[.int .i64 (g 0), .int .i64 (g 1), .int .i64 (g 2), .int .i64 (g 3), .int .i64 (g 4), .int .i64 (g 5)] 31)) = w5 at *
          generalize w4.heap.size = bb at *
          have r0 := HR5.out.at 0 (.slice A1 n1 c1) rfl; have r1 := HR5.out.at 1 (.slice A2 n2 c2) rfl; have r2 := HR5.out.at 2 (.slice A3 n3 c3) rfl
          go_upto_region 7 with (first
            | (go_at_call 13; ((with_reducible refine (C3 _ HG5.out).mono ?_); rintro e w6 ⟨rfl, hg⟩; have HG6 := Lib.hid (grew_trans HG5.out hg); have HR6 := Lib.hid (HR5.out.keep hg); have HA6 := Lib.hid (HA5.out.keep hg); have HB6 := Lib.hid (HB5.out.keep hg); clear hg HG5 HR5 HA5 HB5 r0 r1 r2 C3; have r0 := HR6.out.at 0 (.slice A1 n1 c1) rfl; have r1 := HR6.out.at 1 (.slice A2 n2 c2) rfl; have r2 := HR6.out.at 2 (.slice A3 n3 c3) rfl))
            | (go_at_call 13; ((with_reducible refine (C4 _ HG6.out).mono ?_); rintro e w7 ⟨rfl, hg⟩; have HG7 := Lib.hid (grew_trans HG6.out hg); have HR7 := Lib.hid (HR6.out.keep hg); have HA7 := Lib.hid (HA6.out.keep hg); have HB7 := Lib.hid (HB6.out.keep hg); clear hg HG6 HR6 HA6 HB6 r0 r1 r2 C4)))
          go_wp2_with (go_at_call 17; ((with_reducible refine (CV _).mono ?_); rintro e w8 ⟨rfl, hg⟩; have HG8 := Lib.hid (grew_trans HG7.out hg); clear hg HG7  ))
          go_ret
          exact ⟨rfl, HG8.out⟩
      · have hov : 300 < m := by omega
        clear CV h3 h h'
        go_enter Try.func5, Try.ntmps5
        go_upto_region 1 with (fail)
        generalize (w.alloc (.cells #[.slice A1 n1 c1, .slice A2 n2 c2, .slice A3 n3 c3] 26)) = w0 at *
        have r0 := HR0.out.at 0 (.slice A1 n1 c1) rfl; have r1 := HR0.out.at 1 (.slice A2 n2 c2) rfl; have r2 := HR0.out.at 2 (.slice A3 n3 c3) rfl
        go_wp2_with (go_at_call 8; ((with_reducible refine (CH _).mono ?_); rintro e w1 ⟨rfl, hg⟩; have HG1 := Lib.hid (grew_trans HG0.out hg); have HR1 := Lib.hid (HR0.out.keep hg); clear hg HR0 HG0 r0 r1 r2; have r0 := HR1.out.at 0 (.slice A1 n1 c1) rfl; have r1 := HR1.out.at 1 (.slice A2 n2 c2) rfl; have r2 := HR1.out.at 2 (.slice A3 n3 c3) rfl))
        go_ret
        exact ⟨rfl, HG1.out⟩
    · have hov : 300 < n := by omega
      clear CV h3 h h'
      go_enter Try.func5, Try.ntmps5
      go_upto_region 1 with (fail)
      generalize (w.alloc (.cells #[.slice A1 n1 c1, .slice A2 n2 c2, .slice A3 n3 c3] 26)) = w0 at *
      have r0 := HR0.out.at 0 (.slice A1 n1 c1) rfl; have r1 := HR0.out.at 1 (.slice A2 n2 c2) rfl; have r2 := HR0.out.at 2 (.slice A3 n3 c3) rfl
      go_wp2_with (go_at_call 8; ((with_reducible refine (CH _).mono ?_); rintro e w1 ⟨rfl, hg⟩; have HG1 := Lib.hid (grew_trans HG0.out hg); have HR1 := Lib.hid (HR0.out.keep hg); clear hg HR0 HG0 r0 r1 r2; have r0 := HR1.out.at 0 (.slice A1 n1 c1) rfl; have r1 := HR1.out.at 1 (.slice A2 n2 c2) rfl; have r2 := HR1.out.at 2 (.slice A3 n3 c3) rfl))
      go_ret
      exact ⟨rfl, HG1.out⟩
  · clear CV HHH h3
    go_enter Try.func5, Try.ntmps5
    go_upto_region 1 with (fail)
    generalize (w.alloc (.cells #[.slice A1 n1 c1, .slice A2 n2 c2, .slice A3 n3 c3] 26)) = w0 at *
    have r0 := HR0.out.at 0 (.slice A1 n1 c1) rfl; have r1 := HR0.out.at 1 (.slice A2 n2 c2) rfl; have r2 := HR0.out.at 2 (.slice A3 n3 c3) rfl
    go_wp2_with (go_at_call 8; ((with_reducible refine (CH _).mono ?_); rintro e w1 ⟨rfl, hg⟩; have HG1 := Lib.hid (grew_trans HG0.out hg); have HR1 := Lib.hid (HR0.out.keep hg); clear hg HR0 HG0 r0 r1 r2; have r0 := HR1.out.at 0 (.slice A1 n1 c1) rfl; have r1 := HR1.out.at 1 (.slice A2 n2 c2) rfl; have r2 := HR1.out.at 2 (.slice A3 n3 c3) rfl))
    go_ret
    exact ⟨rfl, HG1.out⟩
end Go.Proofs.Ytmlfijapglhjfaa.NumK
namespace Go.Proofs.Ytmlfijapglhjfaa.NumK
open Go.RowKit
set_option linter.unusedVariables false

theorem gridJoins_row (w : World) {cs0 : Array Value} {r : Rl} {B C : Option Addr} {n c m e : Nat} {l k : List Po} (who cur : Int) (h0 : spRl.rd w cs0.toList r) (h3 : RowE enPo w B n l) (hk : B = none → c = 0) (h4 : RowE enPo w C m k) (hq : C = none → e = 0) :
    Calls Try.prog 5 #[.agg cs0, .int .i64 who, .int .i64 cur, .slice B n c, .slice C m e] w fun e w' => e = .returned (.bool true) ∧ Grew w w' := by
  obtain ⟨A1, A2, A3, n1, n2, n3, c1, c2, c3, e', h⟩ := roll_of h0
  rw [e']
  exact gridJoins_walk r A1 A2 A3 n1 n2 n3 c1 c2 c3 B C n c m e who cur l k w h h3 hk h4 hq
end Go.Proofs.Ytmlfijapglhjfaa.NumK
namespace Go.Proofs.Ytmlfijapglhjfaa.gridJoins
open Go.ChangeShapes Go.WideShapes Go.ChangeAt Go.RowKit
set_option linter.unusedVariables false

theorem own : ownKnob Try.prog.godebug = none := by kernel_rfl
theorem laidOut : laidOutB Try.prog = true := by kernel_rfl

set_option maxRecDepth 100000 in
theorem lifted (os : Os) (started : os.Started) (H : Type) (enc : TypeId × Value → H) :
    ReturnsInHanded {} Try.checked os 5 .any (Rows.gridJoinsSpec.pre6 enc Try.prog Try.f5 Rows.gridJoinsRow.domain false) (Rows.gridJoinsSpec.post enc Try.prog Try.f5 false true false false) := by
  refine returnsInHanded_of_change (C := Try.checked) own started (by kernel_rfl) Try.func5
    (ChangeSpec.witness6 (enc := enc) (C := Try.checked) false ⟨#[], #[.agg #[.slice none 0 0, .slice none 0 0, .slice none 0 0], .int .i64 0, .int .i64 0, .slice none 0 0, .slice none 0 0], []⟩ 8 (by kernel_rfl) (by kernel_rfl) (by kernel_rfl) (by kernel_rfl)) ?_
  intro W base args ds gs before hval0 hW hcnd _
  have hval : ∀ (j : Nat) t v, Try.f5.params[j]? = some t → args[j]? = some v → Value.okWide Try.prog W .any base t v := hval0
  have hW' := hW
  obtain ⟨p, q, hA0, hV, rfl, hfz, hnd⟩ := hW
  have hA : DataW.TrodAll enc Try.prog W 0 (fun _ => true) true Try.f5.params.toList args.toList ds p := hA0
  skip
  rw [Try.params5] at hA hval
  obtain ⟨v0, vs0, d0, ds0, p0, q0, hargs, rfl, rfl, h0, r0⟩ := trodAll_cons hA
  obtain ⟨v1, vs1, d1, ds1, p1, q1, rfl, rfl, rfl, h1, r1⟩ := trodAll_cons r0
  obtain ⟨v2, vs2, d2, ds2, p2, q2, rfl, rfl, rfl, h2, r2⟩ := trodAll_cons r1
  obtain ⟨v3, vs3, d3, ds3, p3, q3, rfl, rfl, rfl, h3, r3⟩ := trodAll_cons r2
  obtain ⟨v4, vs4, d4, ds4, p4, q4, rfl, rfl, rfl, h4, r4⟩ := trodAll_cons r3
  obtain ⟨rfl, rfl, rfl⟩ := trodAll_nil r4
  obtain rfl : args = #[v0, v1, v2, v3, v4] := by cases args; simp_all
  obtain ⟨rfl, rfl⟩ := trodVars_none hV
  have k0 := h0
  have lt0 : ∀ x ∈ p0, x.block < W.heap.size := by obtain ⟨m, hm⟩ := k0; exact DataW.trod_lt m _ _ _ hm
  obtain ⟨cs0, x0, rfl, e0⟩ := NumK.arg_struct Try.underlying26 NumK.opens_roll (hval 0 26 v0 rfl rfl) h0
  obtain ⟨a1, rfl, rfl, rfl, w1⟩ := open_int Try.underlying3 (hval 1 3 v1 rfl rfl) h1
  obtain ⟨a2, rfl, rfl, rfl, w2⟩ := open_int Try.underlying3 (hval 2 3 v2 rfl rfl) h2
  have k3 := h3
  have lt3 : ∀ x ∈ p3, x.block < W.heap.size := by obtain ⟨m, hm⟩ := k3; exact DataW.trod_lt m _ _ _ hm
  obtain ⟨A3, len3, cap3, l3, rfl, ro3, n3, c3, m3⟩ := NumK.arg_slice Try.underlying27 NumK.opens_poss (hval 3 27 v3 rfl rfl) h3
  have k4 := h4
  have lt4 : ∀ x ∈ p4, x.block < W.heap.size := by obtain ⟨m, hm⟩ := k4; exact DataW.trod_lt m _ _ _ hm
  obtain ⟨A4, len4, cap4, l4, rfl, ro4, n4, c4, m4⟩ := NumK.arg_slice Try.underlying27 NumK.opens_poss (hval 4 27 v4 rfl rfl) h4
  clear hA0 hval0
  refine (NumK.gridJoins_row W a1 a2 e0 (NumK.poss_of ro3) n3 (NumK.poss_of ro4) n4).mono fun e W' ⟨he, bel⟩ => ?_
  subst he
  exact ⟨_, rfl, _, _, _, [], _, [], hW', trodAll_mk1 (shut_bool Try.underlying4 _), (trodAll_cons_mk (Below.trod laidOut (by kernel_rfl) (of_decide_eq_true (by kernel_rfl)) k0 bel lt0) (trodAll_cons_mk (shut_int Try.underlying3 w1) (trodAll_cons_mk (shut_int Try.underlying3 w2) (trodAll_cons_mk (Below.trod laidOut (by kernel_rfl) (of_decide_eq_true (by kernel_rfl)) k3 bel lt3) (trodAll_cons_mk (Below.trod laidOut (by kernel_rfl) (of_decide_eq_true (by kernel_rfl)) k4 bel lt4) trodAll_mk0))))), rfl, bel.frame _, fun h => by cases h⟩

theorem over : Rows.gridJoinsRow.holds Try.pinned (OpenSpec.ofChange Rows.gridJoinsSpec) :=
  OpenClaim.holds_of_wide 5 Try.f5 rfl rfl rfl rfl rfl rfl rfl ⟨rfl, rfl, rfl, rfl, rfl⟩ rfl rfl rfl rfl rfl (by kernel_rfl) Try.func5 (by kernel_rfl)
    (of_decide_eq_true (by kernel_rfl)) (by unfold Func.isWrapper; first | (rw [if_pos (by decide +kernel)]; kernel_rfl) | (rw [if_neg (by decide +kernel)]; exact ⟨rfl, rfl⟩))
    (fun os started H enc _ => lifted os started H enc)

/-! ### the statement -/
theorem proved : Rows.GridJoinsSaid := over
end Go.Proofs.Ytmlfijapglhjfaa.gridJoins
