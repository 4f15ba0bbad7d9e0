/-
  For every state, member, asset and units from 1 to 2^20: collateral that comes adds its value to the cover, or one more, and other covers stay, where all is told; states with long rows the statement lets by.
-/
import Derived.Test.YtckdbbjeifindaaRG14
import Derived.Test.YtckdbbjeifindaaRG15
import Derived.Test.YtckdbbjeifindaaRG18
import Derived.Test.YtckdbbjeifindaaRows
import Derived.WalkKit
import Derived.ProofKit
import Derived.OpenShut
import Derived.ShutString
import Derived.ChangeOld
import Derived.Below
import Derived.Carry
namespace Go.Proofs.Ytckdbbjeifindaa.NumK
open Go.RowKit
set_option linter.unusedVariables false

/-- What the law asks of both covers, where they are told. -/
theorem more_law {ok : Bool} {b : Int} {r : Rl} {l : List Pg} {who a u z c : Int} {x : As} (hc : changeE l who a u = 0) (hu : 1 ≤ u ∧ u ≤ 1048576) (hx : x ∈ r.2.2) (ha : x.1 = a) (h1 : covE ok b r z c l = 0) (h2 : covE ok b r z c (changeL l who a u) = 0) :
    (0 ≤ valueN x u ∧ valueN x u ≤ 1125899906842624) ∧ (z = who → x.2.1 = c → covN ok b r z c (changeL l who a u) - covN ok b r z c l = valueN x u ∨ covN ok b r z c (changeL l who a u) - covN ok b r z c l = valueN x u + 1) ∧ (¬ (z = who ∧ x.2.1 = c) → covN ok b r z c (changeL l who a u) - covN ok b r z c l = 0) := by
  have hr := (covE_iff.1 h1).2.1
  obtain ⟨g1, g2, g3, g4⟩ := cover_more_law hc hu hr hx (show noAs x = a from ha) z c
  have e1 : valueN x u = valueV x u := by unfold valueN; rw [if_pos g1]
  have e2 : covN ok b r z c (changeL l who a u) - covN ok b r z c l = covS r z c (changeL l who a u) - covS r z c l := by
    unfold covN; rw [if_pos h1, if_pos h2]; omega
  rw [e1, e2]
  exact ⟨g2, fun hz hcc => g3 ⟨hz, hcc.symm⟩, fun hn => g4 (fun hh => hn ⟨hh.1, hh.2.symm⟩)⟩
theorem cov_bound {ok : Bool} {b : Int} {r : Rl} {z c : Int} {l : List Pg} (h : covE ok b r z c l = 0) : -4611686018427387904 ≤ covN ok b r z c l ∧ covN ok b r z c l ≤ 4611686018427387904 := by
  have := (covE_iff.1 h).2.2.2.2
  unfold covN; rw [if_pos h]
  exact (isMoney_iff _).1 this

set_option maxRecDepth 100000 in
set_option maxHeartbeats 16000000 in
theorem coverMore_walk (t1 t2 t3 nx last : Int) (A1 A2 A3 E1 E2 L P Q1 Q2 Q3 : Option Addr) (n1 n2 n3 c1 c2 c3 m1 m2 k1 k2 nl cl np cp u1 v1 u2 v2 u3 v3 : Nat) (lg : List Lg) (r : Rl) (l : List Pg) (w1 a1 u : Int) (w : World)
    (h : RowE enLg w L nl lg) (h3 : Rows3 w r A1 A2 A3 n1 n2 n3) (hp : RowE enPg w P np l) (hP : P = none → cp = 0) (hnc : np ≤ cp) (hcm : cp ≤ 9223372036854775807) :
    Calls Try.prog 6 #[stV t1 t2 t3 nx last A1 A2 A3 E1 E2 L P Q1 Q2 Q3 n1 n2 n3 c1 c2 c3 m1 m2 k1 k2 nl cl np cp u1 v1 u2 v2 u3 v3, .int .i64 w1, .int .i64 a1, .int .i64 u] w fun e w' => e = .returned (.bool true) ∧ Grew w w' := by
  have HLG := Lib.hid h
  have HR3 := Lib.hid h3
  have HPG := Lib.hid hp
  have HL3 := Lib.hid h3.h.len
  have HLP := Lib.hid hp.len
  have CW := fun w => wakes16_any w
  have CH := fun w => heavy16_any t1 t2 t3 nx last A1 A2 A3 E1 E2 L P Q1 Q2 Q3 n1 n2 n3 c1 c2 c3 m1 m2 k1 k2 nl cl np cp u1 v1 u2 v2 u3 v3 w
  have HHN := Lib.hid (@heavyS_no n1 n2 n3 m1 m2 nl np u1 u2 u3)
  generalize heavyS n1 n2 n3 m1 m2 nl np u1 u2 u3 = HV at *
  clear h h3 hp
  dsimp only [stV] at *
  have HX0 : Hid (OwnC (w.alloc (.cells #[.int .i64 t1, .int .i64 t2, .int .i64 t3, .slice A1 n1 c1, .slice A2 n2 c2, .slice A3 n3 c3, .int .i64 nx, .slice E1 m1 k1, .slice E2 m2 k2, .int .i64 last, .slice L nl cl, .slice P np cp, .slice Q1 u1 v1, .slice Q2 u2 v2, .slice Q3 u3 v3] 60)) w.heap.size [.int .i64 t1, .int .i64 t2, .int .i64 t3, .slice A1 n1 c1, .slice A2 n2 c2, .slice A3 n3 c3, .int .i64 nx, .slice E1 m1 k1, .slice E2 m2 k2, .int .i64 last, .slice L nl cl, .slice P np cp, .slice Q1 u1 v1, .slice Q2 u2 v2, .slice Q3 u3 v3]) := OwnC.new w [.int .i64 t1, .int .i64 t2, .int .i64 t3, .slice A1 n1 c1, .slice A2 n2 c2, .slice A3 n3 c3, .int .i64 nx, .slice E1 m1 k1, .slice E2 m2 k2, .int .i64 last, .slice L nl cl, .slice P np cp, .slice Q1 u1 v1, .slice Q2 u2 v2, .slice Q3 u3 v3] _ _ rfl
  have HG0 : Hid (Grew w (w.alloc (.cells #[.int .i64 t1, .int .i64 t2, .int .i64 t3, .slice A1 n1 c1, .slice A2 n2 c2, .slice A3 n3 c3, .int .i64 nx, .slice E1 m1 k1, .slice E2 m2 k2, .int .i64 last, .slice L nl cl, .slice P np cp, .slice Q1 u1 v1, .slice Q2 u2 v2, .slice Q3 u3 v3] 60))) := grew_alloc _ _ _
  go_enter Try.func6, Try.ntmps6
  go_upto_region 1 with (fail)
  generalize (w.alloc (.cells #[.int .i64 t1, .int .i64 t2, .int .i64 t3, .slice A1 n1 c1, .slice A2 n2 c2, .slice A3 n3 c3, .int .i64 nx, .slice E1 m1 k1, .slice E2 m2 k2, .int .i64 last, .slice L nl cl, .slice P np cp, .slice Q1 u1 v1, .slice Q2 u2 v2, .slice Q3 u3 v3] 60)) = w0 at *
  generalize hN : w.heap.size = N at *
  clear hN
  have a0 := HX0.out.at 0 (.int .i64 t1) rfl; have a1 := HX0.out.at 1 (.int .i64 t2) rfl; have a2 := HX0.out.at 2 (.int .i64 t3) rfl; have a3 := HX0.out.at 3 (.slice A1 n1 c1) rfl; have a4 := HX0.out.at 4 (.slice A2 n2 c2) rfl; have a5 := HX0.out.at 5 (.slice A3 n3 c3) rfl; have a6 := HX0.out.at 6 (.int .i64 nx) rfl; have a7 := HX0.out.at 7 (.slice E1 m1 k1) rfl; have a8 := HX0.out.at 8 (.slice E2 m2 k2) rfl; have a9 := HX0.out.at 9 (.int .i64 last) rfl; have a10 := HX0.out.at 10 (.slice L nl cl) rfl; have a11 := HX0.out.at 11 (.slice P np cp) rfl; have a12 := HX0.out.at 12 (.slice Q1 u1 v1) rfl; have a13 := HX0.out.at 13 (.slice Q2 u2 v2) rfl; have a14 := HX0.out.at 14 (.slice Q3 u3 v3) rfl
  cases HV
  · obtain ⟨⟨g1, g2, g3⟩, ⟨g4, g5⟩, g6, g7, g8, g9, g10⟩ := HHN.out rfl
    clear HHN
    by_cases hu1 : u < 1
    · go_wp2_with (go_at_call 18; ((with_reducible refine (CH _).mono ?_); rintro e wa ⟨rfl, hg⟩; have HG1 := Lib.hid (grew_trans HG0.out hg); clear hg CH HX0 HG0 a0 a1 a2 a3 a4 a5 a6 a7 a8 a9 a10 a11 a12 a13 a14))
      go_ret
      exact ⟨rfl, HG1.out⟩
    · by_cases hu2 : u > 1048576
      · go_wp2_with (go_at_call 18; ((with_reducible refine (CH _).mono ?_); rintro e wa ⟨rfl, hg⟩; have HG1 := Lib.hid (grew_trans HG0.out hg); clear hg CH HX0 HG0 a0 a1 a2 a3 a4 a5 a6 a7 a8 a9 a10 a11 a12 a13 a14))
        go_ret
        exact ⟨rfl, HG1.out⟩
      · go_upto_region 3 with (go_at_call 18; ((with_reducible refine (CH _).mono ?_); rintro e wa ⟨rfl, hg⟩; have HX1 := Lib.hid (HX0.out.keep hg); have HG1 := Lib.hid (grew_trans HG0.out hg); clear hg CH HX0 HG0 a0 a1 a2 a3 a4 a5 a6 a7 a8 a9 a10 a11 a12 a13 a14))
        have C2 := fun w' (g : Grew w w') => change_any P np cp l w1 a1 u w' (HPG.out.keep g) hP hnc hcm (by omega)
        have b11 := HX1.out.at 11 (.slice P np cp) rfl
        go_upto_region 4 with (go_at_call 14; ((with_reducible refine (C2 _ HG1.out).mono ?_); rintro e w2 ⟨vp, rfl, ho, hg⟩; have HO2 := Lib.hid ho; have HX2 := Lib.hid (HX1.out.keep hg); have HG2 := Lib.hid (grew_trans HG1.out hg); clear hg ho C2 HX1 HG1 b11))
        by_cases hce : changeE l w1 a1 u = 0
        · obtain ⟨AP, dp, rfl, hrp, -⟩ := HO2.out.form
          have HRP := Lib.hid hrp
          have hcl := change_len l w1 a1 u
          have hll := HLP.out
          obtain ⟨_, hpk, _⟩ := changeE_ok.1 hce
          have hpk2 := (okPK_iff _ _).1 hpk
          have HLAW := Lib.hid (fun x (hx : x ∈ r.2.2) (ha : x.1 = a1) z c h1 h2 => @more_law (ledgerB last lg) (ofL lg (2, z, c)) r l w1 a1 u z c x hce (by omega) hx ha h1 h2)
          have HBD := Lib.hid (fun l z c => @cov_bound (ledgerB last lg) (ofL lg (2, z, c)) r z c l)
          have HC1 := Lib.hid (fun z c w' (g : Grew w w') => cof_any last L P A1 A2 A3 nl cl np cp n1 n2 n3 c1 c2 c3 lg r l z c w' (HLG.out.keep g) (by omega) (HR3.out.keep g) (by omega) (HPG.out.keep g) (by omega))
          have HC2 := Lib.hid (fun z c w' (g : Grew w w') (g2 : Grew w2 w') => cof_any last L AP A1 A2 A3 nl cl (changeL l w1 a1 u).length dp n1 n2 n3 c1 c2 c3 lg r (changeL l w1 a1 u) z c w' (HLG.out.keep g) (by omega) (HR3.out.keep g) (by omega) (HRP.out.keep g2) (by omega))
          rw [hce]
          clear hrp HRP HO2 hpk hce
          generalize (changeL l w1 a1 u).length = pl at *
          generalize changeL l w1 a1 u = PL at *
          dsimp only [ldV, rlV] at HC1 HC2
          have q1 : IntKind.i64.wrap (w1 + 1) = w1 + 1 := by rw [IntKind.wrap_i64]; omega
          go_wp2
          go_loopw [11] (fun v11 wr => ∃ i : Nat, v11 = .int .i64 i ∧ i ≤ n3 ∧ Hid (Grew w2 wr)) (fun v11 _ => n3 - (intOf v11).toNat)
          case atStart => exact ⟨0, rfl, by omega, grew_refl _⟩
          case round =>
            obtain ⟨i, rfl, hi, HGR⟩ := hrel
            have HXR := Lib.hid (HX2.out.keep HGR.out)
            have b5 := HXR.out.at 5 (.slice A3 n3 c3) rfl
            by_cases hlt : i < n3
            · obtain ⟨ab, ao, rfl, hb, hcs⟩ := (HR3.out.keep (grew_trans HG2.out HGR.out)).h.as hlt
              obtain ⟨y0, y1, y2, y3⟩ := hcs i hlt
              have HAB := Lib.hid hb
              clear hcs hb
              have hmem : r.2.2.getD i as0 ∈ r.2.2 := by rw [getD_at r.2.2 as0 i (by have := HL3.out; omega)]; exact List.getElem_mem _
              have HLX := Lib.hid (fun ha z c h1 h2 => HLAW.out (r.2.2.getD i as0) hmem ha z c h1 h2)
              have CV := fun w => value_any (r.2.2.getD i as0) u w
              clear hmem
              have i0 : (0 : Int) ≤ (i : Int) := by omega
              have i1 : (i : Int) < (n3 : Int) := by omega
              generalize valueN (r.2.2.getD i as0) u = VN at *
              generalize valueE (r.2.2.getD i as0) u = VE at *
              generalize r.2.2.getD i as0 = x at *
              obtain ⟨s1, s2, s3, s4⟩ := x
              dsimp only [vAs] at y0 y1 y2 y3 HLX CV
              by_cases hs : s1 = a1
              · have HLX2 := Lib.hid (HLX.out hs)
                have HY : Hid (∀ w', Grew wr w' → w'.cell? ⟨ab, ao + i * 4, none⟩ = some (.int .i64 s1) ∧ w'.cell? ⟨ab, ao + i * 4 + 1, none⟩ = some (.int .i64 s2) ∧ w'.cell? ⟨ab, ao + i * 4 + 2, none⟩ = some (.int .i64 s3) ∧ w'.cell? ⟨ab, ao + i * 4 + 3, none⟩ = some (.int .i64 s4)) := fun w' g => ⟨(grew_cell g (p := ⟨ab, _, none⟩) HAB.out).trans y0, (grew_cell g (p := ⟨ab, _, none⟩) HAB.out).trans y1, (grew_cell g (p := ⟨ab, _, none⟩) HAB.out).trans y2, (grew_cell g (p := ⟨ab, _, none⟩) HAB.out).trans y3⟩
                have hs2 := hs.symm
                subst hs2
                go_upto_region 10 with (fail)
                clear y0 y1 y2 y3 HLX HLAW b5
                go_wp2
                generalize wr = wA at *
                go_loopw [12] (fun v12 wr => ∃ c : Nat, v12 = .int .i64 c ∧ c ≤ 3 ∧ Hid (Grew wA wr)) (fun v12 _ => 3 - (intOf v12).toNat)
                case atStart => exact ⟨0, rfl, by omega, grew_refl _⟩
                case round =>
                  obtain ⟨c, rfl, hc, HGc⟩ := hrel
                  by_cases hc3 : c < 3
                  · have j0 : (c : Int) < 3 := by omega
                    go_wp2
                    generalize wr = wB at *
                    go_loopw [13] (fun v13 wr => ∃ z : Int, v13 = .int .i64 z ∧ w1 ≤ z ∧ z ≤ w1 + 2 ∧ Hid (Grew wA wr)) (fun v13 _ => (w1 + 2 - intOf v13).toNat)
                    case atStart => exact ⟨w1, rfl, by omega, by omega, HGc.out⟩
                    case round =>
                      clear HGc
                      obtain ⟨z, rfl, hz1, hz2, HGz⟩ := hrel
                      by_cases hz : z ≤ w1 + 1
                      · have q2 : IntKind.i64.wrap (z + 1) = z + 1 := by rw [IntKind.wrap_i64]; omega
                        have C1 := HC1.out z (c : Int)
                        have C2 := HC2.out z (c : Int)
                        have HL9 := Lib.hid (HLX2.out z (c : Int))
                        have HB1 := Lib.hid (HBD.out l z (c : Int))
                        have HB2 := Lib.hid (HBD.out PL z (c : Int))
                        generalize covE (ledgerB last lg) (ofL lg (2, z, (c : Int))) r z (c : Int) l = F1 at *
                        generalize covN (ledgerB last lg) (ofL lg (2, z, (c : Int))) r z (c : Int) l = N1 at *
                        generalize covE (ledgerB last lg) (ofL lg (2, z, (c : Int))) r z (c : Int) PL = F2 at *
                        generalize covN (ledgerB last lg) (ofL lg (2, z, (c : Int))) r z (c : Int) PL = N2 at *
                        have HGW := Lib.hid (grew_trans (grew_trans HG2.out HGR.out) HGz.out)
                        have HG2W := Lib.hid (grew_trans HGR.out HGz.out)
                        have HX3 := Lib.hid (HXR.out.keep HGz.out)
                        have b3 := HX3.out.at 3 _ rfl; have b4 := HX3.out.at 4 _ rfl; have b5 := HX3.out.at 5 _ rfl; have b9 := HX3.out.at 9 _ rfl; have b10 := HX3.out.at 10 _ rfl; have b11 := HX3.out.at 11 _ rfl
                        go_upto_region 17 with (go_at_call 19; ((with_reducible refine (C1 _ HGW.out).mono ?_); rintro e w4 ⟨rfl, hg⟩; have HX4 := Lib.hid (HX3.out.keep hg); have HGz4 := Lib.hid (grew_trans HGz.out hg); have HGW4 := Lib.hid (grew_trans HGW.out hg); have HG2W4 := Lib.hid (grew_trans HG2W.out hg); clear hg C1 HX3 b3 b4 b5 b9 b10 b11))
                        have b3 := HX4.out.at 3 _ rfl; have b4 := HX4.out.at 4 _ rfl; have b5 := HX4.out.at 5 _ rfl; have b9 := HX4.out.at 9 _ rfl; have b10 := HX4.out.at 10 _ rfl
                        go_upto_region 18 with (go_at_call 19; ((with_reducible refine (C2 _ HGW4.out HG2W4.out).mono ?_); rintro e w5 ⟨rfl, hg⟩; have HX5 := Lib.hid (HX4.out.keep hg); have HGz5 := Lib.hid (grew_trans HGz4.out hg); clear hg C2 HX4 HGW4 HG2W4 HGz4 b3 b4 b5 b9 b10))
                        have b5 := HX5.out.at 5 _ rfl
                        obtain ⟨y0, y1, y2, y3⟩ := HY.out _ HGz5.out
                        go_upto_region 19 with (go_at_call 7; ((with_reducible refine (CV _).mono ?_); rintro e w6 ⟨rfl, hg⟩; have HX6 := Lib.hid (HX5.out.keep hg); have HGz6 := Lib.hid (grew_trans HGz5.out hg); clear hg HX5 HGz5 b5 y0 y1 y2 y3))
                        have b5 := HX6.out.at 5 _ rfl
                        have y1 := (HY.out _ HGz6.out).2.1
                        by_cases h1 : F1 = 0
                        · subst h1
                          by_cases h2 : F2 = 0
                          · subst h2
                            obtain ⟨⟨l1, l2⟩, l3, l4⟩ := HL9.out rfl rfl
                            have hb1 := HB1.out rfl
                            have hb2 := HB2.out rfl
                            have k2 : IntKind.i64.wrap (VN + 1) = VN + 1 := by rw [IntKind.wrap_i64]; omega
                            have k3 : ¬ VN + 1 = VN := by omega
                            clear HL9 HB1 HB2
                            by_cases hzw : z = w1
                            · have hzs := hzw.symm
                              subst hzs
                              by_cases hcs : (c : Int) = s2
                              · subst hcs
                                rcases l3 rfl rfl with hd | hd
                                · have k1 : IntKind.i64.wrap (N2 - N1) = VN := by rw [IntKind.wrap_i64]; omega
                                  clear l3 l4 hd hb1 hb2 l1 l2
                                  go_wp2
                                  go_roundw
                                  case rel => exact ⟨w1 + 1, by go_num, by omega, by omega, HGz6.out⟩
                                  case measure => simp only [intOf]; omega
                                · have k1 : IntKind.i64.wrap (N2 - N1) = VN + 1 := by rw [IntKind.wrap_i64]; omega
                                  clear l3 l4 hd hb1 hb2 l1 l2
                                  go_wp2
                                  go_roundw
                                  case rel => exact ⟨w1 + 1, by go_num, by omega, by omega, HGz6.out⟩
                                  case measure => simp only [intOf]; omega
                              · have hd := l4 (fun hh => hcs hh.2.symm)
                                have k1 : IntKind.i64.wrap (N2 - N1) = 0 := by rw [IntKind.wrap_i64]; omega
                                clear l3 l4 hd hb1 hb2 l1 l2
                                go_wp2
                                go_roundw
                                case rel => exact ⟨w1 + 1, by go_num, by omega, by omega, HGz6.out⟩
                                case measure => simp only [intOf]; omega
                            · have hd := l4 (fun hh => hzw hh.1)
                              have k1 : IntKind.i64.wrap (N2 - N1) = 0 := by rw [IntKind.wrap_i64]; omega
                              clear l3 l4 hd hb1 hb2 l1 l2
                              go_wp2
                              go_roundw
                              case rel => exact ⟨z + 1, by go_num, by omega, by omega, HGz6.out⟩
                              case measure => simp only [intOf]; omega
                          · clear HL9 HB1 HB2
                            go_wp2
                            go_roundw
                            case rel => exact ⟨z + 1, by go_num, by omega, by omega, HGz6.out⟩
                            case measure => simp only [intOf]; omega
                        · clear HL9 HB1 HB2
                          go_wp2
                          go_roundw
                          case rel => exact ⟨z + 1, by go_num, by omega, by omega, HGz6.out⟩
                          case measure => simp only [intOf]; omega
                      · go_wp2
                        go_roundw
                        case rel => exact ⟨c + 1, by go_num, by omega, HGz.out⟩
                        case measure => simp only [intOf]; omega
                  · go_wp2
                    go_roundw
                    case rel => exact ⟨i + 1, by go_num, by omega, grew_trans HGR.out HGc.out⟩
                    case measure => simp only [intOf]; omega
              · clear HLX HLAW
                go_wp2
                go_roundw
                case rel => exact ⟨i + 1, by go_num, by omega, HGR.out⟩
                case measure => simp only [intOf]; omega
            · have HGW := Lib.hid (grew_trans HG2.out HGR.out)
              clear HLAW HC1 HC2
              go_wp2_with (go_at_call 17; ((with_reducible refine (CW _).mono ?_); rintro e wz ⟨rfl, hg⟩; have HGZ := Lib.hid (grew_trans HGW.out hg); clear hg CW))
              go_ret
              exact ⟨rfl, HGZ.out⟩
        · generalize changeE l w1 a1 u = ce at *
          go_wp2_with (go_at_call 17; ((with_reducible refine (CW _).mono ?_); rintro e wz ⟨rfl, hg⟩; have HGZ := Lib.hid (grew_trans HG2.out hg); clear hg CW))
          go_ret
          exact ⟨rfl, HGZ.out⟩
  · go_wp2_with (go_at_call 18; ((with_reducible refine (CH _).mono ?_); rintro e wa ⟨rfl, hg⟩; have HG1 := Lib.hid (grew_trans HG0.out hg); clear hg CH HX0 HG0 a0 a1 a2 a3 a4 a5 a6 a7 a8 a9 a10 a11 a12 a13 a14))
    go_ret
    exact ⟨rfl, HG1.out⟩
end Go.Proofs.Ytckdbbjeifindaa.NumK
namespace Go.Proofs.Ytckdbbjeifindaa.NumK
open Go.RowKit
set_option linter.unusedVariables false

theorem coverMore_row (w : World) {cs0 : Array Value} {s} (w1 a1 u : Int) (h0 : spSt.rd w cs0.toList s) :
    Calls Try.prog 6 #[.agg cs0, .int .i64 w1, .int .i64 a1, .int .i64 u] w fun e w' => e = .returned (.bool true) ∧ Grew w w' := by
  obtain ⟨A1, A2, A3, E1, E2, L, P, Q1, Q2, Q3, n1, n2, n3, c1, c2, c3, m1, m2, k1, k2, nl, cl, np, cp, u1, v1, u2, v2, u3, v3, e, h⟩ := state_of h0
  rw [e]
  exact coverMore_walk _ _ _ _ _ A1 A2 A3 E1 E2 L P Q1 Q2 Q3 n1 n2 n3 c1 c2 c3 m1 m2 k1 k2 nl cl np cp u1 v1 u2 v2 u3 v3 _ _ _ w1 a1 u w h.l h.r.rows h.p h.pk h.pl.1 h.pl.2
end Go.Proofs.Ytckdbbjeifindaa.NumK
namespace Go.Proofs.Ytckdbbjeifindaa.coverMore
open Go.ChangeShapes Go.WideShapes Go.ChangeAt Go.RowKit
set_option linter.unusedVariables false

theorem own : ownKnob Try.prog.godebug = none := by kernel_rfl
theorem laidOut : laidOutB Try.prog = true := by kernel_rfl

set_option maxRecDepth 100000 in
theorem lifted (os : Os) (started : os.Started) (H : Type) (enc : TypeId × Value → H) :
    ReturnsInHanded {} Try.checked os 6 .any (Rows.coverMoreSpec.pre6 enc Try.prog Try.f6 Rows.coverMoreRow.domain false) (Rows.coverMoreSpec.post enc Try.prog Try.f6 false true false false) := by
  refine returnsInHanded_of_change (C := Try.checked) own started (by kernel_rfl) Try.func6
    (ChangeSpec.witness6 (enc := enc) (C := Try.checked) false ⟨#[], #[.agg #[.int .i64 0, .int .i64 0, .int .i64 0, .slice none 0 0, .slice none 0 0, .slice none 0 0, .int .i64 0, .slice none 0 0, .slice none 0 0, .int .i64 0, .slice none 0 0, .slice none 0 0, .slice none 0 0, .slice none 0 0, .slice none 0 0], .int .i64 0, .int .i64 0, .int .i64 0], []⟩ 8 (by kernel_rfl) (by kernel_rfl) (by kernel_rfl) (by kernel_rfl)) ?_
  intro W base args ds gs before hval0 hW hcnd _
  have hval : ∀ (j : Nat) t v, Try.f6.params[j]? = some t → args[j]? = some v → Value.okWide Try.prog W .any base t v := hval0
  have hW' := hW
  obtain ⟨p, q, hA0, hV, rfl, hfz, hnd⟩ := hW
  have hA : DataW.TrodAll enc Try.prog W 0 (fun _ => true) true Try.f6.params.toList args.toList ds p := hA0
  skip
  rw [Try.params6] at hA hval
  obtain ⟨v0, vs0, d0, ds0, p0, q0, hargs, rfl, rfl, h0, r0⟩ := trodAll_cons hA
  obtain ⟨v1, vs1, d1, ds1, p1, q1, rfl, rfl, rfl, h1, r1⟩ := trodAll_cons r0
  obtain ⟨v2, vs2, d2, ds2, p2, q2, rfl, rfl, rfl, h2, r2⟩ := trodAll_cons r1
  obtain ⟨v3, vs3, d3, ds3, p3, q3, rfl, rfl, rfl, h3, r3⟩ := trodAll_cons r2
  obtain ⟨rfl, rfl, rfl⟩ := trodAll_nil r3
  obtain rfl : args = #[v0, v1, v2, v3] := by cases args; simp_all
  obtain ⟨rfl, rfl⟩ := trodVars_none hV
  have k0 := h0
  have lt0 : ∀ x ∈ p0, x.block < W.heap.size := by obtain ⟨m, hm⟩ := k0; exact DataW.trod_lt m _ _ _ hm
  obtain ⟨cs0, x0, rfl, e0⟩ := NumK.arg_struct Try.underlying60 NumK.opens_state (hval 0 60 v0 rfl rfl) h0
  obtain ⟨a1, rfl, rfl, rfl, w1⟩ := open_int Try.underlying3 (hval 1 3 v1 rfl rfl) h1
  obtain ⟨a2, rfl, rfl, rfl, w2⟩ := open_int Try.underlying3 (hval 2 3 v2 rfl rfl) h2
  obtain ⟨a3, rfl, rfl, rfl, w3⟩ := open_int Try.underlying3 (hval 3 3 v3 rfl rfl) h3
  clear hA0 hval0
  refine (NumK.coverMore_row W a1 a2 a3 e0).mono fun e W' ⟨he, bel⟩ => ?_
  subst he
  exact ⟨_, rfl, _, _, _, [], _, [], hW', trodAll_mk1 (shut_bool Try.underlying4 _), (trodAll_cons_mk (Below.trod laidOut (by kernel_rfl) (of_decide_eq_true (by kernel_rfl)) k0 bel lt0) (trodAll_cons_mk (shut_int Try.underlying3 w1) (trodAll_cons_mk (shut_int Try.underlying3 w2) (trodAll_cons_mk (shut_int Try.underlying3 w3) trodAll_mk0)))), rfl, bel.frame _, fun h => by cases h⟩

theorem over : Rows.coverMoreRow.holds Try.pinned (OpenSpec.ofChange Rows.coverMoreSpec) :=
  OpenClaim.holds_of_wide 6 Try.f6 rfl rfl rfl rfl rfl rfl rfl ⟨rfl, rfl, rfl, rfl, rfl⟩ rfl rfl rfl rfl rfl (by kernel_rfl) Try.func6 (by kernel_rfl)
    (of_decide_eq_true (by kernel_rfl)) (by unfold Func.isWrapper; first | (rw [if_pos (by decide +kernel)]; kernel_rfl) | (rw [if_neg (by decide +kernel)]; exact ⟨rfl, rfl⟩))
    (fun os started H enc _ => lifted os started H enc)

/-! ### the statement -/
theorem proved : Rows.CoverMoreSaid := over
end Go.Proofs.Ytckdbbjeifindaa.coverMore
