/- The law EntryMany. -/
import Derived.Test.YtmbhkeppikaeaaaEnForm
namespace Go.Proofs.Ytmbhkeppikaeaaa.NumK
open Go.RowKit

set_option maxRecDepth 100000 in
set_option maxHeartbeats 8000000 in
theorem entryMany_walk (A A2 : Option Addr) (n c n2 c2 : Nat) (l m : List Lg) (w : World) (h : RowE enLg w A n l) (hA : A = none → c = 0) (hn : n ≤ 9223372036854775807) (h2 : RowE enLg w A2 n2 m) (hA2 : A2 = none → c2 = 0) (hn2 : n2 ≤ 9223372036854775807) :
    Calls Try.prog 8 #[.slice A n c, .slice A2 n2 c2] w fun e w' => e = .returned (.bool true) ∧ Grew w w' := by
  by_cases hbig : (300 : Int) < (n : Int)
  · go_enter Try.func8, Try.ntmps8
    go_wp2
    go_ret
    exact ⟨rfl, grew_refl _⟩
  · by_cases hbig2 : (300 : Int) < (n2 : Int)
    · go_enter Try.func8, Try.ntmps8
      go_wp2
      go_ret
      exact ⟨rfl, grew_refl _⟩
    · have HI := Lib.hid h
      have HIM := Lib.hid h2
      have HA2 := Lib.hid hA2
      have HN : n ≤ 300 := by omega
      have HN2 : n2 ≤ 300 := by omega
      have CT := fun w (h : RowE enLg w A n l) => twinLegs_any A n c l w h hA (by omega)
      have CC1 := fun w (h : RowE enLg w A n l) => check_any A n c l w h (by omega)
      have CC2 := fun w (h : RowE enLg w A2 n2 m) => check_any A2 n2 c2 m w h (by omega)
      have CC3 := fun A3 c3 w (h : RowE enLg w A3 (n + n2) (l ++ m)) => check_any A3 (n + n2) c3 (l ++ m) w h (by omega)
      have CJ1 := fun w (h : RowE enLg w A n l) => join_form A n c l w h (by omega)
      have CJ2 := fun w (h : RowE enLg w A2 n2 m) => join_form A2 n2 c2 m w h (by omega)
      have CY := fun A3 c3 w (h : RowE enLg w A3 (n + n2) (l ++ m)) => join_form A3 (n + n2) c3 (l ++ m) w h (by omega)
      have hl1 := joinL_len l
      have hl2 := joinL_len m
      have hl3 := joinL_len (l ++ m)
      have CX := fun A3 c3 w (h : RowE enLg w A3 ((joinL l).length + (joinL m).length) (joinL l ++ joinL m)) => join_form A3 _ c3 (joinL l ++ joinL m) w h (by omega)
      have CL := fun A1 A2 c1 c2 w (h : RowE enLg w A1 (joinL (l ++ m)).length (joinL (l ++ m))) (h2 : RowE enLg w A2 (joinL (l ++ m)).length (joinL (l ++ m))) => legs_yes A1 A2 _ _ c1 c2 (joinL (l ++ m)) w h h2 (by omega)
      have WK := fun w => wakes09_any w
      have HLL : Hid (l.length + n2 ≤ 600) := by show _ ≤ _; rw [h.len]; omega
      have HLA : Hid ((l ++ m).length = n + n2) := by show _ = _; rw [List.length_append, h.len, h2.len]
      have HLX : Hid ((joinL l ++ joinL m).length = (joinL l).length + (joinL m).length) := by show _ = _; rw [List.length_append]
      have HJJ : Hid ((joinL l).length + (joinL m).length ≤ 216) := by show _ ≤ _; omega
      have HJX : Hid (joinE l = 0 → joinE m = 0 → joinE (joinL l ++ joinL m) = joinE (l ++ m) ∧ joinL (joinL l ++ joinL m) = joinL (l ++ m)) := fun h1 h2 => join_append h1 h2
      have HCA : Hid (checkE l = 0 → checkE m = 0 → n + n2 ≤ 64 → checkE (l ++ m) = 0) := fun h1 h2 h3 => check_append h1 h2 (by rw [HLA.out]; exact h3)
      clear h h2 hA hA2 hn hn2 hl1 hl2 hl3
      generalize checkE (l ++ m) = CKA at *
      generalize checkE l = CKL at *
      generalize checkE m = CKM at *
      generalize joinE (joinL l ++ joinL m) = XE at *
      generalize joinL (joinL l ++ joinL m) = XL at *
      generalize joinE (l ++ m) = AE at *
      generalize joinL (l ++ m) = AL at *
      generalize joinE l = JE at *
      generalize joinE m = ME at *
      generalize hNJ : (joinL l).length = NJ at *
      generalize hNM : (joinL m).length = NM at *
      generalize joinL l = JL at *
      generalize joinL m = JM at *
      have HNJ := Lib.hid hNJ
      have HNM := Lib.hid hNM
      rw [← hNJ] at HJJ
      clear hNJ hNM
      by_cases k1 : CKL = 0
      · by_cases k2 : CKM = 0
        · by_cases k3 : n + n2 ≤ 64
          · have hk := HCA.out k1 k2 k3
            subst k1 k2 hk
            clear HCA
            by_cases j1 : JE = 0
            · by_cases j2 : ME = 0
              · obtain ⟨rfl, rfl⟩ := HJX.out j1 j2
                subst j1 j2
                clear HJX
                go_enter Try.func8, Try.ntmps8
                go_wp2_with (first
                        | (go_at_call 9; ((with_reducible refine (CT _ HI.out).mono ?_); rintro e w1 ⟨v1, rfl, ho, hg⟩; have HO1 := Lib.hid ho; have G1 := Lib.hid hg; have HIM1 := Lib.hid (HIM.out.keep hg); clear ho hg))
                        | (at_builtin; refine (wpList_append_E rfl _ _ 22 40 (legV 0 0 0 0) 32 rfl Try.underlying22 info_lg rfl w.heap.size _ _ rfl HO1.out _ n2 c2 m rfl HA2.out HIM1.out (by have := HLL.out; unfold maxLen; omega) (by have := HLL.out; omega) G1.out.size ?_); intro v2 w2 hv hb2; obtain ⟨A3, c3, rfl, hm3⟩ := Mine.of hv; rw [HLA.out] at hm3 ⊢; have H2 := Lib.hid hm3; have GK := Lib.hid (grew_below G1.out hb2 (Nat.le_refl _)); have G2K := Lib.hid (grew_refl w2); clear hv hb2 hm3)
                        | (go_at_call 10; ((with_reducible refine (CC1 _ (HI.out.keep GK.out)).mono ?_); rintro e w3 ⟨rfl, hg⟩; have GK := Lib.hid (grew_trans GK.out hg); have G2K := Lib.hid (grew_trans G2K.out hg); clear hg))
                        | (go_at_call 10; ((with_reducible refine (CC2 _ (HIM.out.keep GK.out)).mono ?_); rintro e w4 ⟨rfl, hg⟩; have GK := Lib.hid (grew_trans GK.out hg); have G2K := Lib.hid (grew_trans G2K.out hg); clear hg))
                        | (go_at_call 10; ((with_reducible refine (CC3 _ _ _ (H2.out.row.keep G2K.out)).mono ?_); rintro e w5 ⟨rfl, hg⟩; have GK := Lib.hid (grew_trans GK.out hg); have G2K := Lib.hid (grew_trans G2K.out hg); clear hg))
                        | (go_at_call 12; ((with_reducible refine (CJ1 _ (HI.out.keep GK.out)).mono ?_); rintro e w6 ⟨A6, c6, rfl, hm, hg⟩; have H6 := Lib.hid hm; have HB6 := Lib.hid G2K.out.size; have HBW := Lib.hid GK.out.size; have HB66 := Lib.hid hg.size; have GK := Lib.hid (grew_trans GK.out hg); have G2K := Lib.hid (grew_trans G2K.out hg); clear hm hg))
                        | (go_at_call 12; ((with_reducible refine (CJ2 _ (HIM.out.keep GK.out)).mono ?_); rintro e w7 ⟨A7, c7, rfl, hm, hg⟩; have H7 := Lib.hid hm; have H67 := Lib.hid (H6.out.keep hg); have HB67 := Lib.hid (Nat.le_trans HB66.out hg.size); have GK := Lib.hid (grew_trans GK.out hg); have G2K := Lib.hid (grew_trans G2K.out hg); clear hm hg))
                        | (at_builtin; refine (wpList_append_E rfl _ _ 22 40 (legV 0 0 0 0) 32 rfl Try.underlying22 info_lg rfl _ _ _ rfl H67.out.own _ NM c7 JM rfl H7.out.nil H7.out.row (by have := HJJ.out; unfold maxLen; omega) (by have := HJJ.out; omega) HB67.out ?_); intro v8 w8 hv hb8; obtain ⟨A8, c8, rfl, hm8⟩ := Mine.of hv; rw [HLX.out] at hm8 ⊢; have H8 := Lib.hid hm8; have GK := Lib.hid (grew_below GK.out hb8 HBW.out); have G2K := Lib.hid (grew_below G2K.out hb8 HB6.out); clear hv hb8 hm8)
                        | (go_at_call 12; ((with_reducible refine (CX _ _ _ H8.out.row).mono ?_); rintro e w9 ⟨A9, c9, rfl, hm, hg⟩; have H9 := Lib.hid hm; have GK := Lib.hid (grew_trans GK.out hg); have G2K := Lib.hid (grew_trans G2K.out hg); clear hm hg))
                        | (go_at_call 12; ((with_reducible refine (CY _ _ _ (H2.out.row.keep G2K.out)).mono ?_); rintro e w10 ⟨A10, c10, rfl, hm, hg⟩; have H10 := Lib.hid hm; have H9' := Lib.hid (H9.out.keep hg); have GK := Lib.hid (grew_trans GK.out hg); have G2K := Lib.hid (grew_trans G2K.out hg); clear hm hg))
                        | (go_at_call 14; ((with_reducible refine (CL _ _ _ _ _ H9'.out.row H10.out.row).mono ?_); rintro e w11 ⟨rfl, hg⟩; have GK := Lib.hid (grew_trans GK.out hg); clear hg))
                        | (go_at_call 16; ((with_reducible refine (WK _).mono ?_); rintro e w12 ⟨rfl, hg⟩; have GK := Lib.hid (grew_trans GK.out hg); clear hg)))
                go_ret
                exact ⟨rfl, GK.out⟩
              · have d8 : (ME != 0) = true := by simpa using j2
                subst j1
                clear HJX j2
                go_enter Try.func8, Try.ntmps8
                go_wp2_with (first
                        | (go_at_call 9; ((with_reducible refine (CT _ HI.out).mono ?_); rintro e w1 ⟨v1, rfl, ho, hg⟩; have HO1 := Lib.hid ho; have G1 := Lib.hid hg; have HIM1 := Lib.hid (HIM.out.keep hg); clear ho hg))
                        | (at_builtin; refine (wpList_append_E rfl _ _ 22 40 (legV 0 0 0 0) 32 rfl Try.underlying22 info_lg rfl w.heap.size _ _ rfl HO1.out _ n2 c2 m rfl HA2.out HIM1.out (by have := HLL.out; unfold maxLen; omega) (by have := HLL.out; omega) G1.out.size ?_); intro v2 w2 hv hb2; obtain ⟨A3, c3, rfl, hm3⟩ := Mine.of hv; rw [HLA.out] at hm3 ⊢; have H2 := Lib.hid hm3; have GK := Lib.hid (grew_below G1.out hb2 (Nat.le_refl _)); have G2K := Lib.hid (grew_refl w2); clear hv hb2 hm3)
                        | (go_at_call 10; ((with_reducible refine (CC1 _ (HI.out.keep GK.out)).mono ?_); rintro e w3 ⟨rfl, hg⟩; have GK := Lib.hid (grew_trans GK.out hg); have G2K := Lib.hid (grew_trans G2K.out hg); clear hg))
                        | (go_at_call 10; ((with_reducible refine (CC2 _ (HIM.out.keep GK.out)).mono ?_); rintro e w4 ⟨rfl, hg⟩; have GK := Lib.hid (grew_trans GK.out hg); have G2K := Lib.hid (grew_trans G2K.out hg); clear hg))
                        | (go_at_call 10; ((with_reducible refine (CC3 _ _ _ (H2.out.row.keep G2K.out)).mono ?_); rintro e w5 ⟨rfl, hg⟩; have GK := Lib.hid (grew_trans GK.out hg); have G2K := Lib.hid (grew_trans G2K.out hg); clear hg))
                        | (go_at_call 12; ((with_reducible refine (CJ1 _ (HI.out.keep GK.out)).mono ?_); rintro e w6 ⟨A6, c6, rfl, hm, hg⟩; have H6 := Lib.hid hm; have HB6 := Lib.hid G2K.out.size; have HBW := Lib.hid GK.out.size; have HB66 := Lib.hid hg.size; have GK := Lib.hid (grew_trans GK.out hg); have G2K := Lib.hid (grew_trans G2K.out hg); clear hm hg))
                        | (go_at_call 12; ((with_reducible refine (CJ2 _ (HIM.out.keep GK.out)).mono ?_); rintro e w7 ⟨A7, c7, rfl, hm, hg⟩; have H7 := Lib.hid hm; have H67 := Lib.hid (H6.out.keep hg); have HB67 := Lib.hid (Nat.le_trans HB66.out hg.size); have GK := Lib.hid (grew_trans GK.out hg); have G2K := Lib.hid (grew_trans G2K.out hg); clear hm hg))
                        | (at_builtin; refine (wpList_append_E rfl _ _ 22 40 (legV 0 0 0 0) 32 rfl Try.underlying22 info_lg rfl _ _ _ rfl H67.out.own _ NM c7 JM rfl H7.out.nil H7.out.row (by have := HJJ.out; unfold maxLen; omega) (by have := HJJ.out; omega) HB67.out ?_); intro v8 w8 hv hb8; obtain ⟨A8, c8, rfl, hm8⟩ := Mine.of hv; rw [HLX.out] at hm8 ⊢; have H8 := Lib.hid hm8; have GK := Lib.hid (grew_below GK.out hb8 HBW.out); have G2K := Lib.hid (grew_below G2K.out hb8 HB6.out); clear hv hb8 hm8)
                        | (go_at_call 12; ((with_reducible refine (CX _ _ _ H8.out.row).mono ?_); rintro e w9 ⟨A9, c9, rfl, hm, hg⟩; have H9 := Lib.hid hm; have GK := Lib.hid (grew_trans GK.out hg); have G2K := Lib.hid (grew_trans G2K.out hg); clear hm hg))
                        | (go_at_call 12; ((with_reducible refine (CY _ _ _ (H2.out.row.keep G2K.out)).mono ?_); rintro e w10 ⟨A10, c10, rfl, hm, hg⟩; have H10 := Lib.hid hm; have H9' := Lib.hid (H9.out.keep hg); have GK := Lib.hid (grew_trans GK.out hg); have G2K := Lib.hid (grew_trans G2K.out hg); clear hm hg))
                        | (go_at_call 14; ((with_reducible refine (CL _ _ _ _ _ H9'.out.row H10.out.row).mono ?_); rintro e w11 ⟨rfl, hg⟩; have GK := Lib.hid (grew_trans GK.out hg); clear hg))
                        | (go_at_call 16; ((with_reducible refine (WK _).mono ?_); rintro e w12 ⟨rfl, hg⟩; have GK := Lib.hid (grew_trans GK.out hg); clear hg)))
                go_ret
                exact ⟨rfl, GK.out⟩
            · have d8 : (JE != 0) = true := by simpa using j1
              clear HJX j1
              go_enter Try.func8, Try.ntmps8
              go_wp2_with (first
                      | (go_at_call 9; ((with_reducible refine (CT _ HI.out).mono ?_); rintro e w1 ⟨v1, rfl, ho, hg⟩; have HO1 := Lib.hid ho; have G1 := Lib.hid hg; have HIM1 := Lib.hid (HIM.out.keep hg); clear ho hg))
                      | (at_builtin; refine (wpList_append_E rfl _ _ 22 40 (legV 0 0 0 0) 32 rfl Try.underlying22 info_lg rfl w.heap.size _ _ rfl HO1.out _ n2 c2 m rfl HA2.out HIM1.out (by have := HLL.out; unfold maxLen; omega) (by have := HLL.out; omega) G1.out.size ?_); intro v2 w2 hv hb2; obtain ⟨A3, c3, rfl, hm3⟩ := Mine.of hv; rw [HLA.out] at hm3 ⊢; have H2 := Lib.hid hm3; have GK := Lib.hid (grew_below G1.out hb2 (Nat.le_refl _)); have G2K := Lib.hid (grew_refl w2); clear hv hb2 hm3)
                      | (go_at_call 10; ((with_reducible refine (CC1 _ (HI.out.keep GK.out)).mono ?_); rintro e w3 ⟨rfl, hg⟩; have GK := Lib.hid (grew_trans GK.out hg); have G2K := Lib.hid (grew_trans G2K.out hg); clear hg))
                      | (go_at_call 10; ((with_reducible refine (CC2 _ (HIM.out.keep GK.out)).mono ?_); rintro e w4 ⟨rfl, hg⟩; have GK := Lib.hid (grew_trans GK.out hg); have G2K := Lib.hid (grew_trans G2K.out hg); clear hg))
                      | (go_at_call 10; ((with_reducible refine (CC3 _ _ _ (H2.out.row.keep G2K.out)).mono ?_); rintro e w5 ⟨rfl, hg⟩; have GK := Lib.hid (grew_trans GK.out hg); have G2K := Lib.hid (grew_trans G2K.out hg); clear hg))
                      | (go_at_call 12; ((with_reducible refine (CJ1 _ (HI.out.keep GK.out)).mono ?_); rintro e w6 ⟨A6, c6, rfl, hm, hg⟩; have H6 := Lib.hid hm; have HB6 := Lib.hid G2K.out.size; have HBW := Lib.hid GK.out.size; have HB66 := Lib.hid hg.size; have GK := Lib.hid (grew_trans GK.out hg); have G2K := Lib.hid (grew_trans G2K.out hg); clear hm hg))
                      | (go_at_call 12; ((with_reducible refine (CJ2 _ (HIM.out.keep GK.out)).mono ?_); rintro e w7 ⟨A7, c7, rfl, hm, hg⟩; have H7 := Lib.hid hm; have H67 := Lib.hid (H6.out.keep hg); have HB67 := Lib.hid (Nat.le_trans HB66.out hg.size); have GK := Lib.hid (grew_trans GK.out hg); have G2K := Lib.hid (grew_trans G2K.out hg); clear hm hg))
                      | (at_builtin; refine (wpList_append_E rfl _ _ 22 40 (legV 0 0 0 0) 32 rfl Try.underlying22 info_lg rfl _ _ _ rfl H67.out.own _ NM c7 JM rfl H7.out.nil H7.out.row (by have := HJJ.out; unfold maxLen; omega) (by have := HJJ.out; omega) HB67.out ?_); intro v8 w8 hv hb8; obtain ⟨A8, c8, rfl, hm8⟩ := Mine.of hv; rw [HLX.out] at hm8 ⊢; have H8 := Lib.hid hm8; have GK := Lib.hid (grew_below GK.out hb8 HBW.out); have G2K := Lib.hid (grew_below G2K.out hb8 HB6.out); clear hv hb8 hm8)
                      | (go_at_call 12; ((with_reducible refine (CX _ _ _ H8.out.row).mono ?_); rintro e w9 ⟨A9, c9, rfl, hm, hg⟩; have H9 := Lib.hid hm; have GK := Lib.hid (grew_trans GK.out hg); have G2K := Lib.hid (grew_trans G2K.out hg); clear hm hg))
                      | (go_at_call 12; ((with_reducible refine (CY _ _ _ (H2.out.row.keep G2K.out)).mono ?_); rintro e w10 ⟨A10, c10, rfl, hm, hg⟩; have H10 := Lib.hid hm; have H9' := Lib.hid (H9.out.keep hg); have GK := Lib.hid (grew_trans GK.out hg); have G2K := Lib.hid (grew_trans G2K.out hg); clear hm hg))
                      | (go_at_call 14; ((with_reducible refine (CL _ _ _ _ _ H9'.out.row H10.out.row).mono ?_); rintro e w11 ⟨rfl, hg⟩; have GK := Lib.hid (grew_trans GK.out hg); clear hg))
                      | (go_at_call 16; ((with_reducible refine (WK _).mono ?_); rintro e w12 ⟨rfl, hg⟩; have GK := Lib.hid (grew_trans GK.out hg); clear hg)))
              go_ret
              exact ⟨rfl, GK.out⟩
          · subst k1 k2
            clear HCA
            by_cases j1 : JE = 0
            · by_cases j2 : ME = 0
              · obtain ⟨rfl, rfl⟩ := HJX.out j1 j2
                subst j1 j2
                clear HJX
                go_enter Try.func8, Try.ntmps8
                go_wp2_with (first
                        | (go_at_call 9; ((with_reducible refine (CT _ HI.out).mono ?_); rintro e w1 ⟨v1, rfl, ho, hg⟩; have HO1 := Lib.hid ho; have G1 := Lib.hid hg; have HIM1 := Lib.hid (HIM.out.keep hg); clear ho hg))
                        | (at_builtin; refine (wpList_append_E rfl _ _ 22 40 (legV 0 0 0 0) 32 rfl Try.underlying22 info_lg rfl w.heap.size _ _ rfl HO1.out _ n2 c2 m rfl HA2.out HIM1.out (by have := HLL.out; unfold maxLen; omega) (by have := HLL.out; omega) G1.out.size ?_); intro v2 w2 hv hb2; obtain ⟨A3, c3, rfl, hm3⟩ := Mine.of hv; rw [HLA.out] at hm3 ⊢; have H2 := Lib.hid hm3; have GK := Lib.hid (grew_below G1.out hb2 (Nat.le_refl _)); have G2K := Lib.hid (grew_refl w2); clear hv hb2 hm3)
                        | (go_at_call 10; ((with_reducible refine (CC1 _ (HI.out.keep GK.out)).mono ?_); rintro e w3 ⟨rfl, hg⟩; have GK := Lib.hid (grew_trans GK.out hg); have G2K := Lib.hid (grew_trans G2K.out hg); clear hg))
                        | (go_at_call 10; ((with_reducible refine (CC2 _ (HIM.out.keep GK.out)).mono ?_); rintro e w4 ⟨rfl, hg⟩; have GK := Lib.hid (grew_trans GK.out hg); have G2K := Lib.hid (grew_trans G2K.out hg); clear hg))
                        | (go_at_call 10; ((with_reducible refine (CC3 _ _ _ (H2.out.row.keep G2K.out)).mono ?_); rintro e w5 ⟨rfl, hg⟩; have GK := Lib.hid (grew_trans GK.out hg); have G2K := Lib.hid (grew_trans G2K.out hg); clear hg))
                        | (go_at_call 12; ((with_reducible refine (CJ1 _ (HI.out.keep GK.out)).mono ?_); rintro e w6 ⟨A6, c6, rfl, hm, hg⟩; have H6 := Lib.hid hm; have HB6 := Lib.hid G2K.out.size; have HBW := Lib.hid GK.out.size; have HB66 := Lib.hid hg.size; have GK := Lib.hid (grew_trans GK.out hg); have G2K := Lib.hid (grew_trans G2K.out hg); clear hm hg))
                        | (go_at_call 12; ((with_reducible refine (CJ2 _ (HIM.out.keep GK.out)).mono ?_); rintro e w7 ⟨A7, c7, rfl, hm, hg⟩; have H7 := Lib.hid hm; have H67 := Lib.hid (H6.out.keep hg); have HB67 := Lib.hid (Nat.le_trans HB66.out hg.size); have GK := Lib.hid (grew_trans GK.out hg); have G2K := Lib.hid (grew_trans G2K.out hg); clear hm hg))
                        | (at_builtin; refine (wpList_append_E rfl _ _ 22 40 (legV 0 0 0 0) 32 rfl Try.underlying22 info_lg rfl _ _ _ rfl H67.out.own _ NM c7 JM rfl H7.out.nil H7.out.row (by have := HJJ.out; unfold maxLen; omega) (by have := HJJ.out; omega) HB67.out ?_); intro v8 w8 hv hb8; obtain ⟨A8, c8, rfl, hm8⟩ := Mine.of hv; rw [HLX.out] at hm8 ⊢; have H8 := Lib.hid hm8; have GK := Lib.hid (grew_below GK.out hb8 HBW.out); have G2K := Lib.hid (grew_below G2K.out hb8 HB6.out); clear hv hb8 hm8)
                        | (go_at_call 12; ((with_reducible refine (CX _ _ _ H8.out.row).mono ?_); rintro e w9 ⟨A9, c9, rfl, hm, hg⟩; have H9 := Lib.hid hm; have GK := Lib.hid (grew_trans GK.out hg); have G2K := Lib.hid (grew_trans G2K.out hg); clear hm hg))
                        | (go_at_call 12; ((with_reducible refine (CY _ _ _ (H2.out.row.keep G2K.out)).mono ?_); rintro e w10 ⟨A10, c10, rfl, hm, hg⟩; have H10 := Lib.hid hm; have H9' := Lib.hid (H9.out.keep hg); have GK := Lib.hid (grew_trans GK.out hg); have G2K := Lib.hid (grew_trans G2K.out hg); clear hm hg))
                        | (go_at_call 14; ((with_reducible refine (CL _ _ _ _ _ H9'.out.row H10.out.row).mono ?_); rintro e w11 ⟨rfl, hg⟩; have GK := Lib.hid (grew_trans GK.out hg); clear hg))
                        | (go_at_call 16; ((with_reducible refine (WK _).mono ?_); rintro e w12 ⟨rfl, hg⟩; have GK := Lib.hid (grew_trans GK.out hg); clear hg)))
                go_ret
                exact ⟨rfl, GK.out⟩
              · have d8 : (ME != 0) = true := by simpa using j2
                subst j1
                clear HJX j2
                go_enter Try.func8, Try.ntmps8
                go_wp2_with (first
                        | (go_at_call 9; ((with_reducible refine (CT _ HI.out).mono ?_); rintro e w1 ⟨v1, rfl, ho, hg⟩; have HO1 := Lib.hid ho; have G1 := Lib.hid hg; have HIM1 := Lib.hid (HIM.out.keep hg); clear ho hg))
                        | (at_builtin; refine (wpList_append_E rfl _ _ 22 40 (legV 0 0 0 0) 32 rfl Try.underlying22 info_lg rfl w.heap.size _ _ rfl HO1.out _ n2 c2 m rfl HA2.out HIM1.out (by have := HLL.out; unfold maxLen; omega) (by have := HLL.out; omega) G1.out.size ?_); intro v2 w2 hv hb2; obtain ⟨A3, c3, rfl, hm3⟩ := Mine.of hv; rw [HLA.out] at hm3 ⊢; have H2 := Lib.hid hm3; have GK := Lib.hid (grew_below G1.out hb2 (Nat.le_refl _)); have G2K := Lib.hid (grew_refl w2); clear hv hb2 hm3)
                        | (go_at_call 10; ((with_reducible refine (CC1 _ (HI.out.keep GK.out)).mono ?_); rintro e w3 ⟨rfl, hg⟩; have GK := Lib.hid (grew_trans GK.out hg); have G2K := Lib.hid (grew_trans G2K.out hg); clear hg))
                        | (go_at_call 10; ((with_reducible refine (CC2 _ (HIM.out.keep GK.out)).mono ?_); rintro e w4 ⟨rfl, hg⟩; have GK := Lib.hid (grew_trans GK.out hg); have G2K := Lib.hid (grew_trans G2K.out hg); clear hg))
                        | (go_at_call 10; ((with_reducible refine (CC3 _ _ _ (H2.out.row.keep G2K.out)).mono ?_); rintro e w5 ⟨rfl, hg⟩; have GK := Lib.hid (grew_trans GK.out hg); have G2K := Lib.hid (grew_trans G2K.out hg); clear hg))
                        | (go_at_call 12; ((with_reducible refine (CJ1 _ (HI.out.keep GK.out)).mono ?_); rintro e w6 ⟨A6, c6, rfl, hm, hg⟩; have H6 := Lib.hid hm; have HB6 := Lib.hid G2K.out.size; have HBW := Lib.hid GK.out.size; have HB66 := Lib.hid hg.size; have GK := Lib.hid (grew_trans GK.out hg); have G2K := Lib.hid (grew_trans G2K.out hg); clear hm hg))
                        | (go_at_call 12; ((with_reducible refine (CJ2 _ (HIM.out.keep GK.out)).mono ?_); rintro e w7 ⟨A7, c7, rfl, hm, hg⟩; have H7 := Lib.hid hm; have H67 := Lib.hid (H6.out.keep hg); have HB67 := Lib.hid (Nat.le_trans HB66.out hg.size); have GK := Lib.hid (grew_trans GK.out hg); have G2K := Lib.hid (grew_trans G2K.out hg); clear hm hg))
                        | (at_builtin; refine (wpList_append_E rfl _ _ 22 40 (legV 0 0 0 0) 32 rfl Try.underlying22 info_lg rfl _ _ _ rfl H67.out.own _ NM c7 JM rfl H7.out.nil H7.out.row (by have := HJJ.out; unfold maxLen; omega) (by have := HJJ.out; omega) HB67.out ?_); intro v8 w8 hv hb8; obtain ⟨A8, c8, rfl, hm8⟩ := Mine.of hv; rw [HLX.out] at hm8 ⊢; have H8 := Lib.hid hm8; have GK := Lib.hid (grew_below GK.out hb8 HBW.out); have G2K := Lib.hid (grew_below G2K.out hb8 HB6.out); clear hv hb8 hm8)
                        | (go_at_call 12; ((with_reducible refine (CX _ _ _ H8.out.row).mono ?_); rintro e w9 ⟨A9, c9, rfl, hm, hg⟩; have H9 := Lib.hid hm; have GK := Lib.hid (grew_trans GK.out hg); have G2K := Lib.hid (grew_trans G2K.out hg); clear hm hg))
                        | (go_at_call 12; ((with_reducible refine (CY _ _ _ (H2.out.row.keep G2K.out)).mono ?_); rintro e w10 ⟨A10, c10, rfl, hm, hg⟩; have H10 := Lib.hid hm; have H9' := Lib.hid (H9.out.keep hg); have GK := Lib.hid (grew_trans GK.out hg); have G2K := Lib.hid (grew_trans G2K.out hg); clear hm hg))
                        | (go_at_call 14; ((with_reducible refine (CL _ _ _ _ _ H9'.out.row H10.out.row).mono ?_); rintro e w11 ⟨rfl, hg⟩; have GK := Lib.hid (grew_trans GK.out hg); clear hg))
                        | (go_at_call 16; ((with_reducible refine (WK _).mono ?_); rintro e w12 ⟨rfl, hg⟩; have GK := Lib.hid (grew_trans GK.out hg); clear hg)))
                go_ret
                exact ⟨rfl, GK.out⟩
            · have d8 : (JE != 0) = true := by simpa using j1
              clear HJX j1
              go_enter Try.func8, Try.ntmps8
              go_wp2_with (first
                      | (go_at_call 9; ((with_reducible refine (CT _ HI.out).mono ?_); rintro e w1 ⟨v1, rfl, ho, hg⟩; have HO1 := Lib.hid ho; have G1 := Lib.hid hg; have HIM1 := Lib.hid (HIM.out.keep hg); clear ho hg))
                      | (at_builtin; refine (wpList_append_E rfl _ _ 22 40 (legV 0 0 0 0) 32 rfl Try.underlying22 info_lg rfl w.heap.size _ _ rfl HO1.out _ n2 c2 m rfl HA2.out HIM1.out (by have := HLL.out; unfold maxLen; omega) (by have := HLL.out; omega) G1.out.size ?_); intro v2 w2 hv hb2; obtain ⟨A3, c3, rfl, hm3⟩ := Mine.of hv; rw [HLA.out] at hm3 ⊢; have H2 := Lib.hid hm3; have GK := Lib.hid (grew_below G1.out hb2 (Nat.le_refl _)); have G2K := Lib.hid (grew_refl w2); clear hv hb2 hm3)
                      | (go_at_call 10; ((with_reducible refine (CC1 _ (HI.out.keep GK.out)).mono ?_); rintro e w3 ⟨rfl, hg⟩; have GK := Lib.hid (grew_trans GK.out hg); have G2K := Lib.hid (grew_trans G2K.out hg); clear hg))
                      | (go_at_call 10; ((with_reducible refine (CC2 _ (HIM.out.keep GK.out)).mono ?_); rintro e w4 ⟨rfl, hg⟩; have GK := Lib.hid (grew_trans GK.out hg); have G2K := Lib.hid (grew_trans G2K.out hg); clear hg))
                      | (go_at_call 10; ((with_reducible refine (CC3 _ _ _ (H2.out.row.keep G2K.out)).mono ?_); rintro e w5 ⟨rfl, hg⟩; have GK := Lib.hid (grew_trans GK.out hg); have G2K := Lib.hid (grew_trans G2K.out hg); clear hg))
                      | (go_at_call 12; ((with_reducible refine (CJ1 _ (HI.out.keep GK.out)).mono ?_); rintro e w6 ⟨A6, c6, rfl, hm, hg⟩; have H6 := Lib.hid hm; have HB6 := Lib.hid G2K.out.size; have HBW := Lib.hid GK.out.size; have HB66 := Lib.hid hg.size; have GK := Lib.hid (grew_trans GK.out hg); have G2K := Lib.hid (grew_trans G2K.out hg); clear hm hg))
                      | (go_at_call 12; ((with_reducible refine (CJ2 _ (HIM.out.keep GK.out)).mono ?_); rintro e w7 ⟨A7, c7, rfl, hm, hg⟩; have H7 := Lib.hid hm; have H67 := Lib.hid (H6.out.keep hg); have HB67 := Lib.hid (Nat.le_trans HB66.out hg.size); have GK := Lib.hid (grew_trans GK.out hg); have G2K := Lib.hid (grew_trans G2K.out hg); clear hm hg))
                      | (at_builtin; refine (wpList_append_E rfl _ _ 22 40 (legV 0 0 0 0) 32 rfl Try.underlying22 info_lg rfl _ _ _ rfl H67.out.own _ NM c7 JM rfl H7.out.nil H7.out.row (by have := HJJ.out; unfold maxLen; omega) (by have := HJJ.out; omega) HB67.out ?_); intro v8 w8 hv hb8; obtain ⟨A8, c8, rfl, hm8⟩ := Mine.of hv; rw [HLX.out] at hm8 ⊢; have H8 := Lib.hid hm8; have GK := Lib.hid (grew_below GK.out hb8 HBW.out); have G2K := Lib.hid (grew_below G2K.out hb8 HB6.out); clear hv hb8 hm8)
                      | (go_at_call 12; ((with_reducible refine (CX _ _ _ H8.out.row).mono ?_); rintro e w9 ⟨A9, c9, rfl, hm, hg⟩; have H9 := Lib.hid hm; have GK := Lib.hid (grew_trans GK.out hg); have G2K := Lib.hid (grew_trans G2K.out hg); clear hm hg))
                      | (go_at_call 12; ((with_reducible refine (CY _ _ _ (H2.out.row.keep G2K.out)).mono ?_); rintro e w10 ⟨A10, c10, rfl, hm, hg⟩; have H10 := Lib.hid hm; have H9' := Lib.hid (H9.out.keep hg); have GK := Lib.hid (grew_trans GK.out hg); have G2K := Lib.hid (grew_trans G2K.out hg); clear hm hg))
                      | (go_at_call 14; ((with_reducible refine (CL _ _ _ _ _ H9'.out.row H10.out.row).mono ?_); rintro e w11 ⟨rfl, hg⟩; have GK := Lib.hid (grew_trans GK.out hg); clear hg))
                      | (go_at_call 16; ((with_reducible refine (WK _).mono ?_); rintro e w12 ⟨rfl, hg⟩; have GK := Lib.hid (grew_trans GK.out hg); clear hg)))
              go_ret
              exact ⟨rfl, GK.out⟩
        · have d1 : (CKM == 0) = false := by simpa using k2
          subst k1
          clear HCA k2
          by_cases j1 : JE = 0
          · by_cases j2 : ME = 0
            · obtain ⟨rfl, rfl⟩ := HJX.out j1 j2
              subst j1 j2
              clear HJX
              go_enter Try.func8, Try.ntmps8
              go_wp2_with (first
                      | (go_at_call 9; ((with_reducible refine (CT _ HI.out).mono ?_); rintro e w1 ⟨v1, rfl, ho, hg⟩; have HO1 := Lib.hid ho; have G1 := Lib.hid hg; have HIM1 := Lib.hid (HIM.out.keep hg); clear ho hg))
                      | (at_builtin; refine (wpList_append_E rfl _ _ 22 40 (legV 0 0 0 0) 32 rfl Try.underlying22 info_lg rfl w.heap.size _ _ rfl HO1.out _ n2 c2 m rfl HA2.out HIM1.out (by have := HLL.out; unfold maxLen; omega) (by have := HLL.out; omega) G1.out.size ?_); intro v2 w2 hv hb2; obtain ⟨A3, c3, rfl, hm3⟩ := Mine.of hv; rw [HLA.out] at hm3 ⊢; have H2 := Lib.hid hm3; have GK := Lib.hid (grew_below G1.out hb2 (Nat.le_refl _)); have G2K := Lib.hid (grew_refl w2); clear hv hb2 hm3)
                      | (go_at_call 10; ((with_reducible refine (CC1 _ (HI.out.keep GK.out)).mono ?_); rintro e w3 ⟨rfl, hg⟩; have GK := Lib.hid (grew_trans GK.out hg); have G2K := Lib.hid (grew_trans G2K.out hg); clear hg))
                      | (go_at_call 10; ((with_reducible refine (CC2 _ (HIM.out.keep GK.out)).mono ?_); rintro e w4 ⟨rfl, hg⟩; have GK := Lib.hid (grew_trans GK.out hg); have G2K := Lib.hid (grew_trans G2K.out hg); clear hg))
                      | (go_at_call 10; ((with_reducible refine (CC3 _ _ _ (H2.out.row.keep G2K.out)).mono ?_); rintro e w5 ⟨rfl, hg⟩; have GK := Lib.hid (grew_trans GK.out hg); have G2K := Lib.hid (grew_trans G2K.out hg); clear hg))
                      | (go_at_call 12; ((with_reducible refine (CJ1 _ (HI.out.keep GK.out)).mono ?_); rintro e w6 ⟨A6, c6, rfl, hm, hg⟩; have H6 := Lib.hid hm; have HB6 := Lib.hid G2K.out.size; have HBW := Lib.hid GK.out.size; have HB66 := Lib.hid hg.size; have GK := Lib.hid (grew_trans GK.out hg); have G2K := Lib.hid (grew_trans G2K.out hg); clear hm hg))
                      | (go_at_call 12; ((with_reducible refine (CJ2 _ (HIM.out.keep GK.out)).mono ?_); rintro e w7 ⟨A7, c7, rfl, hm, hg⟩; have H7 := Lib.hid hm; have H67 := Lib.hid (H6.out.keep hg); have HB67 := Lib.hid (Nat.le_trans HB66.out hg.size); have GK := Lib.hid (grew_trans GK.out hg); have G2K := Lib.hid (grew_trans G2K.out hg); clear hm hg))
                      | (at_builtin; refine (wpList_append_E rfl _ _ 22 40 (legV 0 0 0 0) 32 rfl Try.underlying22 info_lg rfl _ _ _ rfl H67.out.own _ NM c7 JM rfl H7.out.nil H7.out.row (by have := HJJ.out; unfold maxLen; omega) (by have := HJJ.out; omega) HB67.out ?_); intro v8 w8 hv hb8; obtain ⟨A8, c8, rfl, hm8⟩ := Mine.of hv; rw [HLX.out] at hm8 ⊢; have H8 := Lib.hid hm8; have GK := Lib.hid (grew_below GK.out hb8 HBW.out); have G2K := Lib.hid (grew_below G2K.out hb8 HB6.out); clear hv hb8 hm8)
                      | (go_at_call 12; ((with_reducible refine (CX _ _ _ H8.out.row).mono ?_); rintro e w9 ⟨A9, c9, rfl, hm, hg⟩; have H9 := Lib.hid hm; have GK := Lib.hid (grew_trans GK.out hg); have G2K := Lib.hid (grew_trans G2K.out hg); clear hm hg))
                      | (go_at_call 12; ((with_reducible refine (CY _ _ _ (H2.out.row.keep G2K.out)).mono ?_); rintro e w10 ⟨A10, c10, rfl, hm, hg⟩; have H10 := Lib.hid hm; have H9' := Lib.hid (H9.out.keep hg); have GK := Lib.hid (grew_trans GK.out hg); have G2K := Lib.hid (grew_trans G2K.out hg); clear hm hg))
                      | (go_at_call 14; ((with_reducible refine (CL _ _ _ _ _ H9'.out.row H10.out.row).mono ?_); rintro e w11 ⟨rfl, hg⟩; have GK := Lib.hid (grew_trans GK.out hg); clear hg))
                      | (go_at_call 16; ((with_reducible refine (WK _).mono ?_); rintro e w12 ⟨rfl, hg⟩; have GK := Lib.hid (grew_trans GK.out hg); clear hg)))
              go_ret
              exact ⟨rfl, GK.out⟩
            · have d8 : (ME != 0) = true := by simpa using j2
              subst j1
              clear HJX j2
              go_enter Try.func8, Try.ntmps8
              go_wp2_with (first
                      | (go_at_call 9; ((with_reducible refine (CT _ HI.out).mono ?_); rintro e w1 ⟨v1, rfl, ho, hg⟩; have HO1 := Lib.hid ho; have G1 := Lib.hid hg; have HIM1 := Lib.hid (HIM.out.keep hg); clear ho hg))
                      | (at_builtin; refine (wpList_append_E rfl _ _ 22 40 (legV 0 0 0 0) 32 rfl Try.underlying22 info_lg rfl w.heap.size _ _ rfl HO1.out _ n2 c2 m rfl HA2.out HIM1.out (by have := HLL.out; unfold maxLen; omega) (by have := HLL.out; omega) G1.out.size ?_); intro v2 w2 hv hb2; obtain ⟨A3, c3, rfl, hm3⟩ := Mine.of hv; rw [HLA.out] at hm3 ⊢; have H2 := Lib.hid hm3; have GK := Lib.hid (grew_below G1.out hb2 (Nat.le_refl _)); have G2K := Lib.hid (grew_refl w2); clear hv hb2 hm3)
                      | (go_at_call 10; ((with_reducible refine (CC1 _ (HI.out.keep GK.out)).mono ?_); rintro e w3 ⟨rfl, hg⟩; have GK := Lib.hid (grew_trans GK.out hg); have G2K := Lib.hid (grew_trans G2K.out hg); clear hg))
                      | (go_at_call 10; ((with_reducible refine (CC2 _ (HIM.out.keep GK.out)).mono ?_); rintro e w4 ⟨rfl, hg⟩; have GK := Lib.hid (grew_trans GK.out hg); have G2K := Lib.hid (grew_trans G2K.out hg); clear hg))
                      | (go_at_call 10; ((with_reducible refine (CC3 _ _ _ (H2.out.row.keep G2K.out)).mono ?_); rintro e w5 ⟨rfl, hg⟩; have GK := Lib.hid (grew_trans GK.out hg); have G2K := Lib.hid (grew_trans G2K.out hg); clear hg))
                      | (go_at_call 12; ((with_reducible refine (CJ1 _ (HI.out.keep GK.out)).mono ?_); rintro e w6 ⟨A6, c6, rfl, hm, hg⟩; have H6 := Lib.hid hm; have HB6 := Lib.hid G2K.out.size; have HBW := Lib.hid GK.out.size; have HB66 := Lib.hid hg.size; have GK := Lib.hid (grew_trans GK.out hg); have G2K := Lib.hid (grew_trans G2K.out hg); clear hm hg))
                      | (go_at_call 12; ((with_reducible refine (CJ2 _ (HIM.out.keep GK.out)).mono ?_); rintro e w7 ⟨A7, c7, rfl, hm, hg⟩; have H7 := Lib.hid hm; have H67 := Lib.hid (H6.out.keep hg); have HB67 := Lib.hid (Nat.le_trans HB66.out hg.size); have GK := Lib.hid (grew_trans GK.out hg); have G2K := Lib.hid (grew_trans G2K.out hg); clear hm hg))
                      | (at_builtin; refine (wpList_append_E rfl _ _ 22 40 (legV 0 0 0 0) 32 rfl Try.underlying22 info_lg rfl _ _ _ rfl H67.out.own _ NM c7 JM rfl H7.out.nil H7.out.row (by have := HJJ.out; unfold maxLen; omega) (by have := HJJ.out; omega) HB67.out ?_); intro v8 w8 hv hb8; obtain ⟨A8, c8, rfl, hm8⟩ := Mine.of hv; rw [HLX.out] at hm8 ⊢; have H8 := Lib.hid hm8; have GK := Lib.hid (grew_below GK.out hb8 HBW.out); have G2K := Lib.hid (grew_below G2K.out hb8 HB6.out); clear hv hb8 hm8)
                      | (go_at_call 12; ((with_reducible refine (CX _ _ _ H8.out.row).mono ?_); rintro e w9 ⟨A9, c9, rfl, hm, hg⟩; have H9 := Lib.hid hm; have GK := Lib.hid (grew_trans GK.out hg); have G2K := Lib.hid (grew_trans G2K.out hg); clear hm hg))
                      | (go_at_call 12; ((with_reducible refine (CY _ _ _ (H2.out.row.keep G2K.out)).mono ?_); rintro e w10 ⟨A10, c10, rfl, hm, hg⟩; have H10 := Lib.hid hm; have H9' := Lib.hid (H9.out.keep hg); have GK := Lib.hid (grew_trans GK.out hg); have G2K := Lib.hid (grew_trans G2K.out hg); clear hm hg))
                      | (go_at_call 14; ((with_reducible refine (CL _ _ _ _ _ H9'.out.row H10.out.row).mono ?_); rintro e w11 ⟨rfl, hg⟩; have GK := Lib.hid (grew_trans GK.out hg); clear hg))
                      | (go_at_call 16; ((with_reducible refine (WK _).mono ?_); rintro e w12 ⟨rfl, hg⟩; have GK := Lib.hid (grew_trans GK.out hg); clear hg)))
              go_ret
              exact ⟨rfl, GK.out⟩
          · have d8 : (JE != 0) = true := by simpa using j1
            clear HJX j1
            go_enter Try.func8, Try.ntmps8
            go_wp2_with (first
                    | (go_at_call 9; ((with_reducible refine (CT _ HI.out).mono ?_); rintro e w1 ⟨v1, rfl, ho, hg⟩; have HO1 := Lib.hid ho; have G1 := Lib.hid hg; have HIM1 := Lib.hid (HIM.out.keep hg); clear ho hg))
                    | (at_builtin; refine (wpList_append_E rfl _ _ 22 40 (legV 0 0 0 0) 32 rfl Try.underlying22 info_lg rfl w.heap.size _ _ rfl HO1.out _ n2 c2 m rfl HA2.out HIM1.out (by have := HLL.out; unfold maxLen; omega) (by have := HLL.out; omega) G1.out.size ?_); intro v2 w2 hv hb2; obtain ⟨A3, c3, rfl, hm3⟩ := Mine.of hv; rw [HLA.out] at hm3 ⊢; have H2 := Lib.hid hm3; have GK := Lib.hid (grew_below G1.out hb2 (Nat.le_refl _)); have G2K := Lib.hid (grew_refl w2); clear hv hb2 hm3)
                    | (go_at_call 10; ((with_reducible refine (CC1 _ (HI.out.keep GK.out)).mono ?_); rintro e w3 ⟨rfl, hg⟩; have GK := Lib.hid (grew_trans GK.out hg); have G2K := Lib.hid (grew_trans G2K.out hg); clear hg))
                    | (go_at_call 10; ((with_reducible refine (CC2 _ (HIM.out.keep GK.out)).mono ?_); rintro e w4 ⟨rfl, hg⟩; have GK := Lib.hid (grew_trans GK.out hg); have G2K := Lib.hid (grew_trans G2K.out hg); clear hg))
                    | (go_at_call 10; ((with_reducible refine (CC3 _ _ _ (H2.out.row.keep G2K.out)).mono ?_); rintro e w5 ⟨rfl, hg⟩; have GK := Lib.hid (grew_trans GK.out hg); have G2K := Lib.hid (grew_trans G2K.out hg); clear hg))
                    | (go_at_call 12; ((with_reducible refine (CJ1 _ (HI.out.keep GK.out)).mono ?_); rintro e w6 ⟨A6, c6, rfl, hm, hg⟩; have H6 := Lib.hid hm; have HB6 := Lib.hid G2K.out.size; have HBW := Lib.hid GK.out.size; have HB66 := Lib.hid hg.size; have GK := Lib.hid (grew_trans GK.out hg); have G2K := Lib.hid (grew_trans G2K.out hg); clear hm hg))
                    | (go_at_call 12; ((with_reducible refine (CJ2 _ (HIM.out.keep GK.out)).mono ?_); rintro e w7 ⟨A7, c7, rfl, hm, hg⟩; have H7 := Lib.hid hm; have H67 := Lib.hid (H6.out.keep hg); have HB67 := Lib.hid (Nat.le_trans HB66.out hg.size); have GK := Lib.hid (grew_trans GK.out hg); have G2K := Lib.hid (grew_trans G2K.out hg); clear hm hg))
                    | (at_builtin; refine (wpList_append_E rfl _ _ 22 40 (legV 0 0 0 0) 32 rfl Try.underlying22 info_lg rfl _ _ _ rfl H67.out.own _ NM c7 JM rfl H7.out.nil H7.out.row (by have := HJJ.out; unfold maxLen; omega) (by have := HJJ.out; omega) HB67.out ?_); intro v8 w8 hv hb8; obtain ⟨A8, c8, rfl, hm8⟩ := Mine.of hv; rw [HLX.out] at hm8 ⊢; have H8 := Lib.hid hm8; have GK := Lib.hid (grew_below GK.out hb8 HBW.out); have G2K := Lib.hid (grew_below G2K.out hb8 HB6.out); clear hv hb8 hm8)
                    | (go_at_call 12; ((with_reducible refine (CX _ _ _ H8.out.row).mono ?_); rintro e w9 ⟨A9, c9, rfl, hm, hg⟩; have H9 := Lib.hid hm; have GK := Lib.hid (grew_trans GK.out hg); have G2K := Lib.hid (grew_trans G2K.out hg); clear hm hg))
                    | (go_at_call 12; ((with_reducible refine (CY _ _ _ (H2.out.row.keep G2K.out)).mono ?_); rintro e w10 ⟨A10, c10, rfl, hm, hg⟩; have H10 := Lib.hid hm; have H9' := Lib.hid (H9.out.keep hg); have GK := Lib.hid (grew_trans GK.out hg); have G2K := Lib.hid (grew_trans G2K.out hg); clear hm hg))
                    | (go_at_call 14; ((with_reducible refine (CL _ _ _ _ _ H9'.out.row H10.out.row).mono ?_); rintro e w11 ⟨rfl, hg⟩; have GK := Lib.hid (grew_trans GK.out hg); clear hg))
                    | (go_at_call 16; ((with_reducible refine (WK _).mono ?_); rintro e w12 ⟨rfl, hg⟩; have GK := Lib.hid (grew_trans GK.out hg); clear hg)))
            go_ret
            exact ⟨rfl, GK.out⟩
      · have d1 : (CKL == 0) = false := by simpa using k1
        clear HCA k1
        by_cases j1 : JE = 0
        · by_cases j2 : ME = 0
          · obtain ⟨rfl, rfl⟩ := HJX.out j1 j2
            subst j1 j2
            clear HJX
            go_enter Try.func8, Try.ntmps8
            go_wp2_with (first
                    | (go_at_call 9; ((with_reducible refine (CT _ HI.out).mono ?_); rintro e w1 ⟨v1, rfl, ho, hg⟩; have HO1 := Lib.hid ho; have G1 := Lib.hid hg; have HIM1 := Lib.hid (HIM.out.keep hg); clear ho hg))
                    | (at_builtin; refine (wpList_append_E rfl _ _ 22 40 (legV 0 0 0 0) 32 rfl Try.underlying22 info_lg rfl w.heap.size _ _ rfl HO1.out _ n2 c2 m rfl HA2.out HIM1.out (by have := HLL.out; unfold maxLen; omega) (by have := HLL.out; omega) G1.out.size ?_); intro v2 w2 hv hb2; obtain ⟨A3, c3, rfl, hm3⟩ := Mine.of hv; rw [HLA.out] at hm3 ⊢; have H2 := Lib.hid hm3; have GK := Lib.hid (grew_below G1.out hb2 (Nat.le_refl _)); have G2K := Lib.hid (grew_refl w2); clear hv hb2 hm3)
                    | (go_at_call 10; ((with_reducible refine (CC1 _ (HI.out.keep GK.out)).mono ?_); rintro e w3 ⟨rfl, hg⟩; have GK := Lib.hid (grew_trans GK.out hg); have G2K := Lib.hid (grew_trans G2K.out hg); clear hg))
                    | (go_at_call 10; ((with_reducible refine (CC2 _ (HIM.out.keep GK.out)).mono ?_); rintro e w4 ⟨rfl, hg⟩; have GK := Lib.hid (grew_trans GK.out hg); have G2K := Lib.hid (grew_trans G2K.out hg); clear hg))
                    | (go_at_call 10; ((with_reducible refine (CC3 _ _ _ (H2.out.row.keep G2K.out)).mono ?_); rintro e w5 ⟨rfl, hg⟩; have GK := Lib.hid (grew_trans GK.out hg); have G2K := Lib.hid (grew_trans G2K.out hg); clear hg))
                    | (go_at_call 12; ((with_reducible refine (CJ1 _ (HI.out.keep GK.out)).mono ?_); rintro e w6 ⟨A6, c6, rfl, hm, hg⟩; have H6 := Lib.hid hm; have HB6 := Lib.hid G2K.out.size; have HBW := Lib.hid GK.out.size; have HB66 := Lib.hid hg.size; have GK := Lib.hid (grew_trans GK.out hg); have G2K := Lib.hid (grew_trans G2K.out hg); clear hm hg))
                    | (go_at_call 12; ((with_reducible refine (CJ2 _ (HIM.out.keep GK.out)).mono ?_); rintro e w7 ⟨A7, c7, rfl, hm, hg⟩; have H7 := Lib.hid hm; have H67 := Lib.hid (H6.out.keep hg); have HB67 := Lib.hid (Nat.le_trans HB66.out hg.size); have GK := Lib.hid (grew_trans GK.out hg); have G2K := Lib.hid (grew_trans G2K.out hg); clear hm hg))
                    | (at_builtin; refine (wpList_append_E rfl _ _ 22 40 (legV 0 0 0 0) 32 rfl Try.underlying22 info_lg rfl _ _ _ rfl H67.out.own _ NM c7 JM rfl H7.out.nil H7.out.row (by have := HJJ.out; unfold maxLen; omega) (by have := HJJ.out; omega) HB67.out ?_); intro v8 w8 hv hb8; obtain ⟨A8, c8, rfl, hm8⟩ := Mine.of hv; rw [HLX.out] at hm8 ⊢; have H8 := Lib.hid hm8; have GK := Lib.hid (grew_below GK.out hb8 HBW.out); have G2K := Lib.hid (grew_below G2K.out hb8 HB6.out); clear hv hb8 hm8)
                    | (go_at_call 12; ((with_reducible refine (CX _ _ _ H8.out.row).mono ?_); rintro e w9 ⟨A9, c9, rfl, hm, hg⟩; have H9 := Lib.hid hm; have GK := Lib.hid (grew_trans GK.out hg); have G2K := Lib.hid (grew_trans G2K.out hg); clear hm hg))
                    | (go_at_call 12; ((with_reducible refine (CY _ _ _ (H2.out.row.keep G2K.out)).mono ?_); rintro e w10 ⟨A10, c10, rfl, hm, hg⟩; have H10 := Lib.hid hm; have H9' := Lib.hid (H9.out.keep hg); have GK := Lib.hid (grew_trans GK.out hg); have G2K := Lib.hid (grew_trans G2K.out hg); clear hm hg))
                    | (go_at_call 14; ((with_reducible refine (CL _ _ _ _ _ H9'.out.row H10.out.row).mono ?_); rintro e w11 ⟨rfl, hg⟩; have GK := Lib.hid (grew_trans GK.out hg); clear hg))
                    | (go_at_call 16; ((with_reducible refine (WK _).mono ?_); rintro e w12 ⟨rfl, hg⟩; have GK := Lib.hid (grew_trans GK.out hg); clear hg)))
            go_ret
            exact ⟨rfl, GK.out⟩
          · have d8 : (ME != 0) = true := by simpa using j2
            subst j1
            clear HJX j2
            go_enter Try.func8, Try.ntmps8
            go_wp2_with (first
                    | (go_at_call 9; ((with_reducible refine (CT _ HI.out).mono ?_); rintro e w1 ⟨v1, rfl, ho, hg⟩; have HO1 := Lib.hid ho; have G1 := Lib.hid hg; have HIM1 := Lib.hid (HIM.out.keep hg); clear ho hg))
                    | (at_builtin; refine (wpList_append_E rfl _ _ 22 40 (legV 0 0 0 0) 32 rfl Try.underlying22 info_lg rfl w.heap.size _ _ rfl HO1.out _ n2 c2 m rfl HA2.out HIM1.out (by have := HLL.out; unfold maxLen; omega) (by have := HLL.out; omega) G1.out.size ?_); intro v2 w2 hv hb2; obtain ⟨A3, c3, rfl, hm3⟩ := Mine.of hv; rw [HLA.out] at hm3 ⊢; have H2 := Lib.hid hm3; have GK := Lib.hid (grew_below G1.out hb2 (Nat.le_refl _)); have G2K := Lib.hid (grew_refl w2); clear hv hb2 hm3)
                    | (go_at_call 10; ((with_reducible refine (CC1 _ (HI.out.keep GK.out)).mono ?_); rintro e w3 ⟨rfl, hg⟩; have GK := Lib.hid (grew_trans GK.out hg); have G2K := Lib.hid (grew_trans G2K.out hg); clear hg))
                    | (go_at_call 10; ((with_reducible refine (CC2 _ (HIM.out.keep GK.out)).mono ?_); rintro e w4 ⟨rfl, hg⟩; have GK := Lib.hid (grew_trans GK.out hg); have G2K := Lib.hid (grew_trans G2K.out hg); clear hg))
                    | (go_at_call 10; ((with_reducible refine (CC3 _ _ _ (H2.out.row.keep G2K.out)).mono ?_); rintro e w5 ⟨rfl, hg⟩; have GK := Lib.hid (grew_trans GK.out hg); have G2K := Lib.hid (grew_trans G2K.out hg); clear hg))
                    | (go_at_call 12; ((with_reducible refine (CJ1 _ (HI.out.keep GK.out)).mono ?_); rintro e w6 ⟨A6, c6, rfl, hm, hg⟩; have H6 := Lib.hid hm; have HB6 := Lib.hid G2K.out.size; have HBW := Lib.hid GK.out.size; have HB66 := Lib.hid hg.size; have GK := Lib.hid (grew_trans GK.out hg); have G2K := Lib.hid (grew_trans G2K.out hg); clear hm hg))
                    | (go_at_call 12; ((with_reducible refine (CJ2 _ (HIM.out.keep GK.out)).mono ?_); rintro e w7 ⟨A7, c7, rfl, hm, hg⟩; have H7 := Lib.hid hm; have H67 := Lib.hid (H6.out.keep hg); have HB67 := Lib.hid (Nat.le_trans HB66.out hg.size); have GK := Lib.hid (grew_trans GK.out hg); have G2K := Lib.hid (grew_trans G2K.out hg); clear hm hg))
                    | (at_builtin; refine (wpList_append_E rfl _ _ 22 40 (legV 0 0 0 0) 32 rfl Try.underlying22 info_lg rfl _ _ _ rfl H67.out.own _ NM c7 JM rfl H7.out.nil H7.out.row (by have := HJJ.out; unfold maxLen; omega) (by have := HJJ.out; omega) HB67.out ?_); intro v8 w8 hv hb8; obtain ⟨A8, c8, rfl, hm8⟩ := Mine.of hv; rw [HLX.out] at hm8 ⊢; have H8 := Lib.hid hm8; have GK := Lib.hid (grew_below GK.out hb8 HBW.out); have G2K := Lib.hid (grew_below G2K.out hb8 HB6.out); clear hv hb8 hm8)
                    | (go_at_call 12; ((with_reducible refine (CX _ _ _ H8.out.row).mono ?_); rintro e w9 ⟨A9, c9, rfl, hm, hg⟩; have H9 := Lib.hid hm; have GK := Lib.hid (grew_trans GK.out hg); have G2K := Lib.hid (grew_trans G2K.out hg); clear hm hg))
                    | (go_at_call 12; ((with_reducible refine (CY _ _ _ (H2.out.row.keep G2K.out)).mono ?_); rintro e w10 ⟨A10, c10, rfl, hm, hg⟩; have H10 := Lib.hid hm; have H9' := Lib.hid (H9.out.keep hg); have GK := Lib.hid (grew_trans GK.out hg); have G2K := Lib.hid (grew_trans G2K.out hg); clear hm hg))
                    | (go_at_call 14; ((with_reducible refine (CL _ _ _ _ _ H9'.out.row H10.out.row).mono ?_); rintro e w11 ⟨rfl, hg⟩; have GK := Lib.hid (grew_trans GK.out hg); clear hg))
                    | (go_at_call 16; ((with_reducible refine (WK _).mono ?_); rintro e w12 ⟨rfl, hg⟩; have GK := Lib.hid (grew_trans GK.out hg); clear hg)))
            go_ret
            exact ⟨rfl, GK.out⟩
        · have d8 : (JE != 0) = true := by simpa using j1
          clear HJX j1
          go_enter Try.func8, Try.ntmps8
          go_wp2_with (first
                  | (go_at_call 9; ((with_reducible refine (CT _ HI.out).mono ?_); rintro e w1 ⟨v1, rfl, ho, hg⟩; have HO1 := Lib.hid ho; have G1 := Lib.hid hg; have HIM1 := Lib.hid (HIM.out.keep hg); clear ho hg))
                  | (at_builtin; refine (wpList_append_E rfl _ _ 22 40 (legV 0 0 0 0) 32 rfl Try.underlying22 info_lg rfl w.heap.size _ _ rfl HO1.out _ n2 c2 m rfl HA2.out HIM1.out (by have := HLL.out; unfold maxLen; omega) (by have := HLL.out; omega) G1.out.size ?_); intro v2 w2 hv hb2; obtain ⟨A3, c3, rfl, hm3⟩ := Mine.of hv; rw [HLA.out] at hm3 ⊢; have H2 := Lib.hid hm3; have GK := Lib.hid (grew_below G1.out hb2 (Nat.le_refl _)); have G2K := Lib.hid (grew_refl w2); clear hv hb2 hm3)
                  | (go_at_call 10; ((with_reducible refine (CC1 _ (HI.out.keep GK.out)).mono ?_); rintro e w3 ⟨rfl, hg⟩; have GK := Lib.hid (grew_trans GK.out hg); have G2K := Lib.hid (grew_trans G2K.out hg); clear hg))
                  | (go_at_call 10; ((with_reducible refine (CC2 _ (HIM.out.keep GK.out)).mono ?_); rintro e w4 ⟨rfl, hg⟩; have GK := Lib.hid (grew_trans GK.out hg); have G2K := Lib.hid (grew_trans G2K.out hg); clear hg))
                  | (go_at_call 10; ((with_reducible refine (CC3 _ _ _ (H2.out.row.keep G2K.out)).mono ?_); rintro e w5 ⟨rfl, hg⟩; have GK := Lib.hid (grew_trans GK.out hg); have G2K := Lib.hid (grew_trans G2K.out hg); clear hg))
                  | (go_at_call 12; ((with_reducible refine (CJ1 _ (HI.out.keep GK.out)).mono ?_); rintro e w6 ⟨A6, c6, rfl, hm, hg⟩; have H6 := Lib.hid hm; have HB6 := Lib.hid G2K.out.size; have HBW := Lib.hid GK.out.size; have HB66 := Lib.hid hg.size; have GK := Lib.hid (grew_trans GK.out hg); have G2K := Lib.hid (grew_trans G2K.out hg); clear hm hg))
                  | (go_at_call 12; ((with_reducible refine (CJ2 _ (HIM.out.keep GK.out)).mono ?_); rintro e w7 ⟨A7, c7, rfl, hm, hg⟩; have H7 := Lib.hid hm; have H67 := Lib.hid (H6.out.keep hg); have HB67 := Lib.hid (Nat.le_trans HB66.out hg.size); have GK := Lib.hid (grew_trans GK.out hg); have G2K := Lib.hid (grew_trans G2K.out hg); clear hm hg))
                  | (at_builtin; refine (wpList_append_E rfl _ _ 22 40 (legV 0 0 0 0) 32 rfl Try.underlying22 info_lg rfl _ _ _ rfl H67.out.own _ NM c7 JM rfl H7.out.nil H7.out.row (by have := HJJ.out; unfold maxLen; omega) (by have := HJJ.out; omega) HB67.out ?_); intro v8 w8 hv hb8; obtain ⟨A8, c8, rfl, hm8⟩ := Mine.of hv; rw [HLX.out] at hm8 ⊢; have H8 := Lib.hid hm8; have GK := Lib.hid (grew_below GK.out hb8 HBW.out); have G2K := Lib.hid (grew_below G2K.out hb8 HB6.out); clear hv hb8 hm8)
                  | (go_at_call 12; ((with_reducible refine (CX _ _ _ H8.out.row).mono ?_); rintro e w9 ⟨A9, c9, rfl, hm, hg⟩; have H9 := Lib.hid hm; have GK := Lib.hid (grew_trans GK.out hg); have G2K := Lib.hid (grew_trans G2K.out hg); clear hm hg))
                  | (go_at_call 12; ((with_reducible refine (CY _ _ _ (H2.out.row.keep G2K.out)).mono ?_); rintro e w10 ⟨A10, c10, rfl, hm, hg⟩; have H10 := Lib.hid hm; have H9' := Lib.hid (H9.out.keep hg); have GK := Lib.hid (grew_trans GK.out hg); have G2K := Lib.hid (grew_trans G2K.out hg); clear hm hg))
                  | (go_at_call 14; ((with_reducible refine (CL _ _ _ _ _ H9'.out.row H10.out.row).mono ?_); rintro e w11 ⟨rfl, hg⟩; have GK := Lib.hid (grew_trans GK.out hg); clear hg))
                  | (go_at_call 16; ((with_reducible refine (WK _).mono ?_); rintro e w12 ⟨rfl, hg⟩; have GK := Lib.hid (grew_trans GK.out hg); clear hg)))
          go_ret
          exact ⟨rfl, GK.out⟩
end Go.Proofs.Ytmbhkeppikaeaaa.NumK
