/- The law EntryJoins. -/
import Derived.Test.YtmbhkeppikaeaaaEnForm
import Derived.Deep.CutBlock
namespace Go.Proofs.Ytmbhkeppikaeaaa.NumK
open Go.RowKit

theorem join_rev (l : List Lg) : joinE l.reverse = joinE l ∧ joinL l.reverse = joinL l := join_congr (may_reverse l) (sumA_reverse l)
theorem rev_snoc (l : List Lg) (j : Nat) (h : j < l.length) : l.reverse.take (j + 1) = l.reverse.take j ++ [l.getD (l.length - 1 - j) lg0] := by
  rw [take_snoc l.reverse j lg0 (by rw [List.length_reverse]; exact h)]
  congr 2
  rw [List.getD_eq_getElem?_getD, List.getD_eq_getElem?_getD, List.getElem?_reverse h]

set_option maxRecDepth 100000 in
set_option maxHeartbeats 4000000 in
theorem entryJoins_walk (A : Option Addr) (n c : Nat) (l : List Lg) (w : World) (h : RowE enLg w A n l) (hn : n ≤ 9223372036854775807) :
    Calls Try.prog 5 #[.slice A n c] w fun e w' => e = .returned (.bool true) ∧ Grew w w' := by
  by_cases hbig : (300 : Int) < (n : Int)
  · go_enter Try.func5, Try.ntmps5
    go_wp2
    go_ret
    exact ⟨rfl, grew_refl _⟩
  · have HI := Lib.hid h
    have HL := Lib.hid h.len
    have HN : n ≤ 300 := by omega
    have hjl := joinL_len l
    have CJ := fun w (h : RowE enLg w A n l) => join_form A n c l w h (by omega)
    have CJ2 := fun A1 c1 w (h : RowE enLg w A1 n l.reverse) => join_form A1 n c1 l.reverse w h (by omega)
    rw [(join_rev l).1, (join_rev l).2] at CJ2
    have CL := fun A1 A2 c1 c2 w (h : RowE enLg w A1 (joinL l).length (joinL l)) (h2 : RowE enLg w A2 (joinL l).length (joinL l)) => legs_yes A1 A2 _ _ c1 c2 (joinL l) w h h2 (by omega)
    have WK := fun w => wakes09_any w
    have HREV : Hid (∀ j, j < n → l.reverse.take (j + 1) = l.reverse.take j ++ [l.getD (n - 1 - j) lg0]) := fun j hj => by
      have := rev_snoc l j (by rw [HL.out]; exact hj)
      rw [this, HL.out]
    have HRL : Hid (l.reverse.length = n) := by show _ = _; rw [List.length_reverse, HL.out]
    generalize hR : l.reverse = R at *
    have CC := fun w (h : RowE enLg w A n l) => check_any A n c l w h (by omega)
    have CC2 := fun A1 c1 w (h : RowE enLg w A1 (joinL l).length (joinL l)) => check_any A1 _ c1 (joinL l) w h (by omega)
    have HAG : Hid (joinE l = 0 → joinE (joinL l) = 0 ∧ joinL (joinL l) = joinL l) := fun h => join_again h
    have CJ3 := fun A1 c1 w (h : RowE enLg w A1 (joinL l).length (joinL l)) => join_form A1 _ c1 (joinL l) w h (by omega)
    have HCK : Hid (joinE l = 0 → checkE l = 0 → (joinL l).length ≠ 0 → (joinL l).length ≤ 64 → checkE (joinL l) = 0) := fun h1 h2 h3 h4 => check_joined h1 h2 h3 h4
    clear h hn hR hjl
    generalize checkE (joinL l) = CKJ at *
    generalize checkE l = CKL at *
    generalize joinE (joinL l) = JE2 at *
    generalize joinL (joinL l) = JL2 at *
    generalize joinE l = JE at *
    generalize hNJ : (joinL l).length = NJ at *
    generalize joinL l = JL at *
    go_enter Try.func5, Try.ntmps5
    go_wp2_with (go_at_call 12; ((with_reducible refine (CJ _ HI.out).mono ?_); rintro e w1 ⟨A1, c1, rfl, hm, hg⟩; have H1 := Lib.hid hm; have G1 := Lib.hid hg; clear hm hg))
    go_loopw [5, 6] (fun v5 v6 wr => ∃ (j : Nat) (i : Int), v6 = .int .i64 i ∧ Hid (i = (n : Int) - 1 - j) ∧ -1 ≤ i ∧ i < n ∧ j ≤ n ∧ Hid (OwnE enLg wr w1.heap.size 40 v5 (R.take j)) ∧ Hid (Grew w1 wr)) (fun _ v6 _ => (intOf v6 + 1).toNat)
    case atStart => exact ⟨0, n - 1, by go_num, by show _ = _; omega, by omega, by omega, by omega, OwnE.nil enLg _ _ _, grew_refl _⟩
    case round =>
      obtain ⟨j, i, rfl, HIJ, i0, i1, hj, HO, HG⟩ := hrel
      by_cases hlt : 0 ≤ i
      · obtain ⟨q, rfl⟩ := Int.eq_ofNat_of_zero_le hlt
        have hq : q = n - 1 - j := by have := HIJ.out; omega
        have hjn : j < n := by have := HIJ.out; omega
        obtain ⟨b, o, rfl, hb, a1, a2, a3, a4⟩ := (HI.out.keep (grew_trans G1.out HG.out)).lg (show q < n by omega)
        have HT := HREV.out j hjn
        rw [← hq] at HT
        have HT2 := Lib.hid HT
        have HOL : Hid ((R.take j).length ≤ 300) := by show _ ≤ _; rw [List.length_take]; omega
        have HSZ : Hid (w1.heap.size ≤ wr.heap.size) := HG.out.size
        clear HT hq hb
        generalize l.getD q lg0 = x at *
        rcases x with ⟨⟨x1, x2, x3⟩, x4⟩
        dsimp only at a1 a2 a3 a4
        go_wp2_with (at_builtin; refine (wpList_append_E rfl _ _ 22 40 (legV 0 0 0 0) 32 rfl Try.underlying22 info_lg rfl w1.heap.size _ _ rfl (HO.out.keep (grew_alloc _ _ _)) _ 1 1 [((x1, x2, x3), x4)] rfl (by intro h; cases h) (rowL_one _ _ _ _ _ _ _ rfl) (by have := HOL.out; unfold maxLen; omega) (by have := HOL.out; omega) (Nat.le_trans HSZ.out (grew_alloc wr _ _).size) ?_); intro v6 w6 hv hb6; rw [← HT2.out] at hv; have HV6 := Lib.hid hv; have HG6 : Hid (Grew w1 w6) := Below.trans (grew_trans HG.out (grew_alloc _ _ _)) hb6; clear hv hb6)
        go_roundw
        case rel => exact ⟨j + 1, (q : Int) - 1, by go_num, by have := HIJ.out; show _ = _; omega, by omega, by omega, by omega, HV6.out, HG6.out⟩
        case measure => simp only [intOf]; omega
      · have hjn : j = n := by have := HIJ.out; omega
        subst hjn
        rw [List.take_of_length_le (by rw [HRL.out]; exact Nat.le_refl _)] at HO
        obtain ⟨A2, c2, rfl, hm2⟩ := Mine.of HO.out
        rw [HRL.out] at hm2 ⊢
        have H2 := Lib.hid hm2
        have HW1 := Lib.hid (H1.out.keep HG.out)
        have GW := Lib.hid (grew_trans G1.out HG.out)
        clear hm2 HO HIJ HREV i0 i1
        by_cases he : JE = 0
        · obtain ⟨rfl, rfl⟩ := HAG.out he
          have HCK2 := Lib.hid (HCK.out he)
          subst he
          rw [hNJ] at CJ3
          clear HAG HCK hNJ
          by_cases k1 : CKL = 0
          · by_cases k2 : NJ = 0
            · subst k1 k2
              clear HCK2
              go_wp2_with (first
                        | (go_at_call 12; ((with_reducible refine (CJ2 _ _ _ H2.out.row).mono ?_); rintro e w3 ⟨A3, c3, rfl, hm, hg⟩; have H3 := Lib.hid hm; have HW3 := Lib.hid (HW1.out.keep hg); have G3 := Lib.hid (grew_trans GW.out hg); clear hm hg))
                        | (go_at_call 14; ((with_reducible refine (CL _ _ _ _ _ HW3.out.row H3.out.row).mono ?_); rintro e w4 ⟨rfl, hg⟩; have HW4 := Lib.hid (HW3.out.keep hg); have G4 := Lib.hid (grew_trans G3.out hg); clear hg))
                        | (go_at_call 16; ((with_reducible refine (WK _).mono ?_); rintro e w9 ⟨rfl, hg⟩; have G9 := Lib.hid (grew_trans G7.out hg); clear hg))
                        | (go_at_call 12; ((with_reducible refine (CJ3 _ _ _ HW4.out.row).mono ?_); rintro e w5 ⟨A5, c5, rfl, hm, hg⟩; have H5 := Lib.hid hm; have HW5 := Lib.hid (HW4.out.keep hg); have G5 := Lib.hid (grew_trans G4.out hg); clear hm hg))
                        | (go_at_call 14; ((with_reducible refine (CL _ _ _ _ _ H5.out.row HW5.out.row).mono ?_); rintro e w6 ⟨rfl, hg⟩; have HW6 := Lib.hid (HW5.out.keep hg); have G6 := Lib.hid (grew_trans G5.out hg); clear hg))
                        | (go_at_call 10; ((with_reducible refine (CC _ (HI.out.keep G6.out)).mono ?_); rintro e w7 ⟨rfl, hg⟩; have HW7 := Lib.hid (HW6.out.keep hg); have G7 := Lib.hid (grew_trans G6.out hg); clear hg))
                        | (go_at_call 10; ((with_reducible refine (CC2 _ _ _ HW7.out.row).mono ?_); rintro e w8 ⟨rfl, hg⟩; have G8 := Lib.hid (grew_trans G7.out hg); clear hg)))
              go_ret
              exact ⟨rfl, G9.out⟩
            · by_cases k3 : 64 < NJ
              · have d2 : ((NJ : Int) == 0) = false := by simp; omega
                have d3 : (64 : Int) < (NJ : Int) := by omega
                subst k1
                clear HCK2 k2
                go_wp2_with (first
                          | (go_at_call 12; ((with_reducible refine (CJ2 _ _ _ H2.out.row).mono ?_); rintro e w3 ⟨A3, c3, rfl, hm, hg⟩; have H3 := Lib.hid hm; have HW3 := Lib.hid (HW1.out.keep hg); have G3 := Lib.hid (grew_trans GW.out hg); clear hm hg))
                          | (go_at_call 14; ((with_reducible refine (CL _ _ _ _ _ HW3.out.row H3.out.row).mono ?_); rintro e w4 ⟨rfl, hg⟩; have HW4 := Lib.hid (HW3.out.keep hg); have G4 := Lib.hid (grew_trans G3.out hg); clear hg))
                          | (go_at_call 16; ((with_reducible refine (WK _).mono ?_); rintro e w9 ⟨rfl, hg⟩; have G9 := Lib.hid (grew_trans G7.out hg); clear hg))
                          | (go_at_call 12; ((with_reducible refine (CJ3 _ _ _ HW4.out.row).mono ?_); rintro e w5 ⟨A5, c5, rfl, hm, hg⟩; have H5 := Lib.hid hm; have HW5 := Lib.hid (HW4.out.keep hg); have G5 := Lib.hid (grew_trans G4.out hg); clear hm hg))
                          | (go_at_call 14; ((with_reducible refine (CL _ _ _ _ _ H5.out.row HW5.out.row).mono ?_); rintro e w6 ⟨rfl, hg⟩; have HW6 := Lib.hid (HW5.out.keep hg); have G6 := Lib.hid (grew_trans G5.out hg); clear hg))
                          | (go_at_call 10; ((with_reducible refine (CC _ (HI.out.keep G6.out)).mono ?_); rintro e w7 ⟨rfl, hg⟩; have HW7 := Lib.hid (HW6.out.keep hg); have G7 := Lib.hid (grew_trans G6.out hg); clear hg))
                          | (go_at_call 10; ((with_reducible refine (CC2 _ _ _ HW7.out.row).mono ?_); rintro e w8 ⟨rfl, hg⟩; have G8 := Lib.hid (grew_trans G7.out hg); clear hg)))
                go_ret
                exact ⟨rfl, G9.out⟩
              · have hck : CKJ = 0 := HCK2.out k1 k2 (by omega)
                have d2 : ((NJ : Int) == 0) = false := by simp; omega
                have d3 : ¬ (64 : Int) < (NJ : Int) := by omega
                subst k1 hck
                clear HCK2 k2 k3
                go_wp2_with (first
                          | (go_at_call 12; ((with_reducible refine (CJ2 _ _ _ H2.out.row).mono ?_); rintro e w3 ⟨A3, c3, rfl, hm, hg⟩; have H3 := Lib.hid hm; have HW3 := Lib.hid (HW1.out.keep hg); have G3 := Lib.hid (grew_trans GW.out hg); clear hm hg))
                          | (go_at_call 14; ((with_reducible refine (CL _ _ _ _ _ HW3.out.row H3.out.row).mono ?_); rintro e w4 ⟨rfl, hg⟩; have HW4 := Lib.hid (HW3.out.keep hg); have G4 := Lib.hid (grew_trans G3.out hg); clear hg))
                          | (go_at_call 16; ((with_reducible refine (WK _).mono ?_); rintro e w9 ⟨rfl, hg⟩; have G9 := Lib.hid (grew_trans G8.out hg); clear hg))
                          | (go_at_call 12; ((with_reducible refine (CJ3 _ _ _ HW4.out.row).mono ?_); rintro e w5 ⟨A5, c5, rfl, hm, hg⟩; have H5 := Lib.hid hm; have HW5 := Lib.hid (HW4.out.keep hg); have G5 := Lib.hid (grew_trans G4.out hg); clear hm hg))
                          | (go_at_call 14; ((with_reducible refine (CL _ _ _ _ _ H5.out.row HW5.out.row).mono ?_); rintro e w6 ⟨rfl, hg⟩; have HW6 := Lib.hid (HW5.out.keep hg); have G6 := Lib.hid (grew_trans G5.out hg); clear hg))
                          | (go_at_call 10; ((with_reducible refine (CC _ (HI.out.keep G6.out)).mono ?_); rintro e w7 ⟨rfl, hg⟩; have HW7 := Lib.hid (HW6.out.keep hg); have G7 := Lib.hid (grew_trans G6.out hg); clear hg))
                          | (go_at_call 10; ((with_reducible refine (CC2 _ _ _ HW7.out.row).mono ?_); rintro e w8 ⟨rfl, hg⟩; have G8 := Lib.hid (grew_trans G7.out hg); clear hg)))
                go_ret
                exact ⟨rfl, G9.out⟩
          · have d1 : (CKL != 0) = true := by simpa using k1
            clear HCK2 k1
            go_wp2_with (first
                      | (go_at_call 12; ((with_reducible refine (CJ2 _ _ _ H2.out.row).mono ?_); rintro e w3 ⟨A3, c3, rfl, hm, hg⟩; have H3 := Lib.hid hm; have HW3 := Lib.hid (HW1.out.keep hg); have G3 := Lib.hid (grew_trans GW.out hg); clear hm hg))
                      | (go_at_call 14; ((with_reducible refine (CL _ _ _ _ _ HW3.out.row H3.out.row).mono ?_); rintro e w4 ⟨rfl, hg⟩; have HW4 := Lib.hid (HW3.out.keep hg); have G4 := Lib.hid (grew_trans G3.out hg); clear hg))
                      | (go_at_call 16; ((with_reducible refine (WK _).mono ?_); rintro e w9 ⟨rfl, hg⟩; have G9 := Lib.hid (grew_trans G7.out hg); clear hg))
                      | (go_at_call 12; ((with_reducible refine (CJ3 _ _ _ HW4.out.row).mono ?_); rintro e w5 ⟨A5, c5, rfl, hm, hg⟩; have H5 := Lib.hid hm; have HW5 := Lib.hid (HW4.out.keep hg); have G5 := Lib.hid (grew_trans G4.out hg); clear hm hg))
                      | (go_at_call 14; ((with_reducible refine (CL _ _ _ _ _ H5.out.row HW5.out.row).mono ?_); rintro e w6 ⟨rfl, hg⟩; have HW6 := Lib.hid (HW5.out.keep hg); have G6 := Lib.hid (grew_trans G5.out hg); clear hg))
                      | (go_at_call 10; ((with_reducible refine (CC _ (HI.out.keep G6.out)).mono ?_); rintro e w7 ⟨rfl, hg⟩; have HW7 := Lib.hid (HW6.out.keep hg); have G7 := Lib.hid (grew_trans G6.out hg); clear hg))
                      | (go_at_call 10; ((with_reducible refine (CC2 _ _ _ HW7.out.row).mono ?_); rintro e w8 ⟨rfl, hg⟩; have G8 := Lib.hid (grew_trans G7.out hg); clear hg)))
            go_ret
            exact ⟨rfl, G9.out⟩
        · have d1 : (JE != 0) = true := by simpa using he
          clear HAG HCK he
          go_wp2_with (first
                    | (go_at_call 12; ((with_reducible refine (CJ2 _ _ _ H2.out.row).mono ?_); rintro e w3 ⟨A3, c3, rfl, hm, hg⟩; have H3 := Lib.hid hm; have HW3 := Lib.hid (HW1.out.keep hg); have G3 := Lib.hid (grew_trans GW.out hg); clear hm hg))
                    | (go_at_call 14; ((with_reducible refine (CL _ _ _ _ _ HW3.out.row H3.out.row).mono ?_); rintro e w4 ⟨rfl, hg⟩; have HW4 := Lib.hid (HW3.out.keep hg); have G4 := Lib.hid (grew_trans G3.out hg); clear hg))
                    | (go_at_call 16; ((with_reducible refine (WK _).mono ?_); rintro e w9 ⟨rfl, hg⟩; have G9 := Lib.hid (grew_trans G4.out hg); clear hg))
                    | (go_at_call 12; ((with_reducible refine (CJ3 _ _ _ HW4.out.row).mono ?_); rintro e w5 ⟨A5, c5, rfl, hm, hg⟩; have H5 := Lib.hid hm; have HW5 := Lib.hid (HW4.out.keep hg); have G5 := Lib.hid (grew_trans G4.out hg); clear hm hg))
                    | (go_at_call 14; ((with_reducible refine (CL _ _ _ _ _ H5.out.row HW5.out.row).mono ?_); rintro e w6 ⟨rfl, hg⟩; have HW6 := Lib.hid (HW5.out.keep hg); have G6 := Lib.hid (grew_trans G5.out hg); clear hg))
                    | (go_at_call 10; ((with_reducible refine (CC _ (HI.out.keep G6.out)).mono ?_); rintro e w7 ⟨rfl, hg⟩; have HW7 := Lib.hid (HW6.out.keep hg); have G7 := Lib.hid (grew_trans G6.out hg); clear hg))
                    | (go_at_call 10; ((with_reducible refine (CC2 _ _ _ HW7.out.row).mono ?_); rintro e w8 ⟨rfl, hg⟩; have G8 := Lib.hid (grew_trans G7.out hg); clear hg)))
          go_ret
          exact ⟨rfl, G9.out⟩
end Go.Proofs.Ytmbhkeppikaeaaa.NumK
