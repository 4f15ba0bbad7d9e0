/- entry.Join. -/
import Derived.Test.YtmbhkeppikaeaaaJoinM
import Derived.Test.YtmbhkeppikaeaaaMapW
import Derived.Test.YtmbhkeppikaeaaaLegD
import Derived.Test.YtmbhkeppikaeaaaPlus
import Derived.Test.YtmbhkeppikaeaaaAcC
namespace Go.Proofs.Ytmbhkeppikaeaaa.NumK
open Go.RowKit Go.Maps

theorem keep4_map {w1 w2 : World} {B M : Nat} {a b c d : Value} (g : w1.grownBy w2 (some M)) (hne : B ≠ M) (h : w1.cell? ⟨B, 0, none⟩ = some a ∧ w1.cell? ⟨B, 1, none⟩ = some b ∧ w1.cell? ⟨B, 2, none⟩ = some c ∧ w1.cell? ⟨B, 3, none⟩ = some d) :
    w2.cell? ⟨B, 0, none⟩ = some a ∧ w2.cell? ⟨B, 1, none⟩ = some b ∧ w2.cell? ⟨B, 2, none⟩ = some c ∧ w2.cell? ⟨B, 3, none⟩ = some d := by
  have hn : some B ≠ some M := fun e => hne (by simpa using e)
  exact ⟨g.cell h.1 hn, g.cell h.2.1 hn, g.cell h.2.2.1 hn, g.cell h.2.2.2 hn⟩
theorem grew_map {w w1 w2 : World} {M : Nat} (h : Grew w w1) (g : w1.grownBy w2 (some M)) (hM : w.heap.size ≤ M) : Grew w w2 :=
  Below.grown h g h.size fun k hk => by cases hk; exact hM

set_option maxRecDepth 100000 in
set_option maxHeartbeats 4000000 in
theorem join_any (A : Option Addr) (n c : Nat) (l : List Lg) (w : World) (h : RowE enLg w A n l) (hn : n ≤ 1000000) :
    Calls Try.prog 12 #[.slice A n c] w fun e w' => ∃ v, e = .returned (.tuple #[v, .int .i64 (joinE l)]) ∧ OwnE enLg w' w.heap.size 40 v (joinL l) ∧ Grew w w' := by
  have HI := Lib.hid h
  have HL := Lib.hid h.len
  have CR := fun w (h : RowE enLg w A n l) => legsRight_any A n c l w h (by omega)
  clear h
  by_cases hm : mayL l = true
  · rw [hm] at CR
    have HM := Lib.hid hm
    have HYES := Lib.hid (join_yes hm)
    have HNO := Lib.hid (join_no hm)
    have hmm := @run_makeMap Try.prog
    clear hm
    have HJL : Hid (joinL l = if joinE l = 0 then joinF (sumA l) 108 else []) := rfl
    generalize joinE l = JE at *
    go_enter Try.func12, Try.ntmps12
    go_wp2_with (go_at_call 22; ((with_reducible refine (CR _ HI.out).mono ?_); rintro e w1 ⟨rfl, hg⟩; have HG1 := Lib.hid hg; clear hg CR))
    have HM0 := Lib.hid (MapS.new w1)
    have HG2 : Hid (Grew w (w1.alloc (.map #[] 0))) := grew_trans HG1.out ((Below.refl _ _).alloc (Nat.le_refl _) _)
    have HWM : Hid (w.heap.size ≤ w1.heap.size) := HG1.out.size
    clear hmm HG1
    generalize w1.heap.size = M at *
    generalize w1.alloc (.map #[] 0) = w2 at *
    go_loopw [18] (fun v18 wr => ∃ j : Nat, v18 = .int .i64 j ∧ j ≤ n ∧ Hid (MapS wr M j (sumA (l.take j))) ∧ Hid (Grew w wr)) (fun v18 _ => n - (intOf v18).toNat)
    case atStart => exact ⟨0, rfl, by omega, HM0.out, HG2.out⟩
    case round =>
      clear HM0 HG2
      obtain ⟨j, rfl, hj, HS, HG⟩ := hrel
      by_cases hlt : j < n
      · have hjl : j < l.length := by rw [HL.out]; exact hlt
        obtain ⟨b, o, rfl, hb, a1, a2, a3, a4⟩ := (HI.out.keep HG.out).lg hlt
        have hok := okL_parts (may_at' l j hjl HM.out)
        have hsn := fun a => sumA_snoc l j hjl a
        have hwa := fun a => sumA_wide (l.take j) a (may_take' l j HM.out) (by rw [List.length_take]; omega)
        have hwb := fun a => sumA_wide (l.take (j + 1)) a (may_take' l (j + 1) HM.out) (by rw [List.length_take]; omega)
        generalize l.getD j lg0 = x at *
        have hia : inAc x.1 := right_inAc hok.1
        have hx : sumA (l.take (j + 1)) x.1 = sumA (l.take j) x.1 + x.2 := by rw [hsn]; simp
        have CP := fun w => plus_any (sumA (l.take j) x.1) x.2 w (hwa x.1) (by omega) (by rw [← hx]; exact hwb x.1)
        have HPUT : Hid (∀ w', MapS w' M j (sumA (l.take j)) → ∃ w3, (Instr.mapUpdate 46 (.map (some M)) (acV x.1.1 x.1.2.1 x.1.2.2) (.agg #[.int .i64 (hi64 (sumA (l.take j) x.1 + x.2)), .int .u64 (lo64 (sumA (l.take j) x.1 + x.2))])).run Try.prog w' = .ok () w3 ∧ MapS w3 M (j + 1) (sumA (l.take (j + 1))) ∧ w'.grownBy w3 (some M)) :=
          fun w' h => h.put x.1 hia _ (by unfold maxLen; omega) hx (fun a' hne => by rw [hsn, if_neg (Ne.symm hne)]; simp)
        have hlk := fun w' (h : MapS w' M j (sumA (l.take j))) => h.look x.1 hia
        have HSD : Hid (∀ w', Grew (wr.alloc (.cells #[.int .i64 x.1.1, .int .i64 x.1.2.1, .int .i64 x.1.2.2, .int .i64 x.2] 40)).drew w' → MapS w' M j (sumA (l.take j)) ∧ Grew w w') :=
          fun w' g => ⟨(HS.out.keep (grew_drew (grew_alloc _ _ _))).keep g, grew_trans HG.out (grew_trans (grew_drew (grew_alloc _ _ _)) g)⟩
        have HNE : Hid (wr.heap.size ≠ M) := by have := HS.out.lt; show _ ≠ _; omega
        have i1 : (j : Int) < (n : Int) := by omega
        have i0 : (0 : Int) ≤ (j : Int) := by omega
        unfold acV at HPUT hlk
        clear hsn hwa hwb hok hia hx hb
        generalize hi64 (sumA (l.take j) x.1) = s1 at *
        generalize lo64 (sumA (l.take j) x.1) = s2 at *
        generalize hi64 (sumA (l.take j) x.1 + x.2) = r1 at *
        generalize lo64 (sumA (l.take j) x.1 + x.2) = r2 at *
        generalize x.1.1 = q1 at *
        generalize x.1.2.1 = q2 at *
        generalize x.1.2.2 = q3 at *
        generalize x.2 = q4 at *
        have h0 : ((wr.alloc (.cells #[.int .i64 q1, .int .i64 q2, .int .i64 q3, .int .i64 q4] 40)).cell? ⟨wr.heap.size, 0, none⟩ = some (.int .i64 q1) ∧ (wr.alloc (.cells #[.int .i64 q1, .int .i64 q2, .int .i64 q3, .int .i64 q4] 40)).cell? ⟨wr.heap.size, 1, none⟩ = some (.int .i64 q2) ∧ (wr.alloc (.cells #[.int .i64 q1, .int .i64 q2, .int .i64 q3, .int .i64 q4] 40)).cell? ⟨wr.heap.size, 2, none⟩ = some (.int .i64 q3) ∧ (wr.alloc (.cells #[.int .i64 q1, .int .i64 q2, .int .i64 q3, .int .i64 q4] 40)).cell? ⟨wr.heap.size, 3, none⟩ = some (.int .i64 q4))
            ∧ wr.heap.size < (wr.alloc (.cells #[.int .i64 q1, .int .i64 q2, .int .i64 q3, .int .i64 q4] 40)).heap.size := ⟨⟨by simp, by simp, by simp, by simp⟩, by simp⟩
        go_wp2
        generalize wr.alloc (.cells #[.int .i64 q1, .int .i64 q2, .int .i64 q3, .int .i64 q4] 40) = w0 at h0 HSD ⊢
        obtain ⟨hc0, hw0⟩ := h0
        have HW0 := Lib.hid hw0
        have hl0 := hlk _ (HSD.out _ (grew_refl _)).1
        clear hw0 HS HG a1 a2 a3 a4 hlk
        go_region_held3 (fun w' => w'.cell? ⟨wr.heap.size, 0, none⟩ = some (.int .i64 q1) ∧ w'.cell? ⟨wr.heap.size, 1, none⟩ = some (.int .i64 q2) ∧ w'.cell? ⟨wr.heap.size, 2, none⟩ = some (.int .i64 q3) ∧ w'.cell? ⟨wr.heap.size, 3, none⟩ = some (.int .i64 q4))
          (first
            | (with_reducible exact keep4 (grew_drew (grew_refl _)) HW0.out hc0)
            | (with_reducible exact keep4 (grew_trans (grew_drew (grew_refl _)) hg2) HW0.out hc0)
            | (with_reducible exact keep4_map hg3 HNE.out (keep4 (grew_trans (grew_drew (grew_refl _)) hg2) HW0.out hc0))
            | (trace_state; fail))
          ((go_at_call 26; refine (CP _).mono ?_; rintro e w2 ⟨rfl, hg2⟩; have HP2 := Lib.hid (HSD.out w2 hg2); obtain ⟨w3, hput, hm3, hg3⟩ := HPUT.out w2 HP2.out.1; have HM3 := Lib.hid hm3; clear hm3))
        have HG3 := Lib.hid (grew_map HP2.out.2 hg3 HWM.out)
        clear HSD HPUT CP hl0 hput hg3 HP2 hg2 hc0 HW0
        go_wp2
        go_roundw
        case rel => exact ⟨j + 1, by go_num, by omega, HM3.out, HG3.out⟩
        case measure => simp only [intOf]; omega
      · obtain rfl : j = n := by omega
        rw [List.take_of_length_le (by rw [HL.out]; exact Nat.le_refl _)] at HS
        have CA : ∀ (w : World) (N : Nat), w.heap.size = N → Calls Try.prog 27 #[.slice (some ⟨N, 0, none⟩) 6 6] (w.alloc (.cells #[.int .i64 1, .int .i64 2, .int .i64 3, .int .i64 4, .int .i64 5, .int .i64 6] 3)) fun e w' => ∃ A c, e = .returned (.slice A 108 c) ∧ RowE enAc w' A 108 allK ∧ Grew w w' := by
          intro w N hN
          refine (aall_any (some ⟨N, 0, none⟩) 6 6 [1, 2, 3, 4, 5, 6] _ (ints6' w 1 2 3 4 5 6 _ N hN) (by omega)).mono ?_
          rintro e w' ⟨v, rfl, ho, hg⟩
          obtain ⟨A, c, rfl, hr, _⟩ := ho.form
          have hl : (allL [1, 2, 3, 4, 5, 6]).length = 108 := allK_len
          rw [hl] at hr ⊢
          exact ⟨A, c, rfl, hr, own_back hg⟩
        go_wp2_with (go_at_call 27; ((with_reducible refine (CA _ _ rfl).mono ?_); rintro e w4 ⟨A2, c2, rfl, hr, hg⟩; have HR := Lib.hid hr; have HS4 := Lib.hid (HS.out.keep hg); have HG4 := Lib.hid (grew_trans HG.out hg); clear hr hg CA))
        clear HS HG
        go_loopw [7, 36] (fun v7 v36 wr => ∃ k : Nat, v36 = .int .i64 k ∧ k ≤ 108 ∧ Hid (OwnE enLg wr w4.heap.size 40 v7 (joinF (sumA l) k)) ∧ Hid (∀ i, i < k → isMoney (sumA l (allK.getD i ac0)) = true) ∧ Hid (Grew w4 wr)) (fun _ v36 _ => 108 - (intOf v36).toNat)
        case atStart => exact ⟨0, rfl, by omega, OwnE.nil enLg _ _ _, (by intro i hi; omega), grew_refl _⟩
        case round =>
          obtain ⟨k, rfl, hk, HO, HK, HG⟩ := hrel
          by_cases hlt : k < 108
          · obtain ⟨b, o, rfl, hb, a1, a2, a3⟩ := (HR.out.keep HG.out).ac hlt
            have hra : rightA (allK.getD k ac0).1 (allK.getD k ac0).2.1 (allK.getD k ac0).2.2 = true := allK_right _ (allK_getD k hlt)
            have hia : inAc (allK.getD k ac0) := right_inAc hra
            have CI := fun w => wint_any (sumA l (allK.getD k ac0)) w
            have hJ := joinF_succ (sumA l) k hlt
            have hJN := joinF_len (sumA l) k
            have hno := HNO.out k hlt
            have hkk : isMoney (sumA l (allK.getD k ac0)) = true → ∀ i, i < k + 1 → isMoney (sumA l (allK.getD i ac0)) = true := fun h i hi => by
              rcases Nat.lt_or_ge i k with h1 | h1
              · exact HK.out i h1
              · obtain rfl : i = k := by omega
                exact h
            have hlook := ((HS4.out.keep HG.out).keep (grew_alloc wr #[.int .i64 (allK.getD k ac0).1, .int .i64 (allK.getD k ac0).2.1, .int .i64 (allK.getD k ac0).2.2] 35)).look (allK.getD k ac0) hia
            have i1 : (k : Int) < 108 := by omega
            have i0 : (0 : Int) ≤ (k : Int) := by omega
            change wr.cell? ⟨b, o + k * 3, none⟩ = some (.int .i64 (allK.getD k ac0).1) at a1
            change wr.cell? ⟨b, o + k * 3 + 1, none⟩ = some (.int .i64 (allK.getD k ac0).2.1) at a2
            change wr.cell? ⟨b, o + k * 3 + 2, none⟩ = some (.int .i64 (allK.getD k ac0).2.2) at a3
            clear hra hia hb HK
            unfold acV at hlook
            generalize allK.getD k ac0 = y at *
            generalize hs : sumA l y = s at *
            have HJ := Lib.hid hJ
            have HJN := Lib.hid hJN
            have HNO1 := Lib.hid hno
            have HKK := Lib.hid hkk
            have HSS := Lib.hid hs
            clear hJ hJN hno hkk hs HNO
            rcases y with ⟨y1, y2, y3⟩
            dsimp only at a1 a2 a3 hlook
            by_cases hm : isMoney s = true
            · rw [capV_in hm, capE_in hm] at CI
              have HKK2 := Lib.hid (HKK.out hm)
              clear HNO1 HKK
              have hsb := (isMoney_iff s).1 hm
              clear hm
              by_cases h0 : s = 0
              · have HJ0 : Hid (joinF (sumA l) (k + 1) = joinF (sumA l) k) := by show _ = _; rw [HJ.out, if_pos h0, List.append_nil]
                rw [← HJ0.out] at HO
                subst h0
                clear HJ HJ0
                go_wp2_with (go_at_call 28; ((with_reducible refine (CI _).mono ?_); rintro e w5 ⟨rfl, hg⟩; have HG5 := Lib.hid (own_back hg); clear hg))
                go_roundw
                case rel => exact ⟨k + 1, by go_num, by omega, HO.out.keep HG5.out, HKK2.out, grew_trans HG.out HG5.out⟩
                case measure => simp only [intOf]; omega
              · have HJ1 : Hid (joinF (sumA l) (k + 1) = joinF (sumA l) k ++ [((y1, y2, y3), s)]) := by show _ = _; rw [HJ.out, if_neg h0]
                have d0 : (s != 0) = true := by simpa using h0
                obtain ⟨b1, b2⟩ := hsb
                have HLW : Hid (w4.heap.size ≤ wr.heap.size) := HG.out.size
                clear HJ h0
                go_wp2_with (first
                  | (go_at_call 28; ((with_reducible refine (CI _).mono ?_); rintro e w5 ⟨rfl, hg⟩; have d1 := own_cell hg 0; have d2 := own_cell hg 1; have d3 := own_cell hg 2; have HG5 := Lib.hid (own_back hg); clear hg))
                  | (at_builtin; refine (wpList_append_E rfl _ _ 22 40 (legV 0 0 0 0) 32 rfl Try.underlying22 info_lg rfl w4.heap.size _ _ rfl ((HO.out.keep HG5.out).keep (grew_alloc _ _ _)) _ 1 1 [((y1, y2, y3), s)] rfl (by intro h; cases h) (rowL_one _ _ _ _ _ _ _ rfl) (by have := HJN.out; unfold maxLen; omega) (by have := HJN.out; omega) (Nat.le_trans (Nat.le_trans HLW.out HG5.out.size) (grew_alloc w5 _ _).size) ?_); intro v6 w6 hv hb6; rw [← HJ1.out] at hv; have HV6 := Lib.hid hv; have HG6 : Hid (Grew w4 w6) := Below.trans (grew_trans HG.out (grew_trans HG5.out (grew_alloc _ _ _))) hb6; clear hv hb6))
                go_roundw
                case rel => exact ⟨k + 1, by go_num, by omega, HV6.out, HKK2.out, HG6.out⟩
                case measure => simp only [intOf]; omega
            · rw [Bool.not_eq_true] at hm
              rw [capV_out hm, capE_out hm] at CI
              have HE1 := Lib.hid (HNO1.out hm)
              have HJ0 : Hid (joinL l = []) := by show _ = _; rw [HJL.out, HE1.out]; rfl
              clear hm HNO1 HKK HJ
              go_wp2_with (go_at_call 28; ((with_reducible refine (CI _).mono ?_); rintro e w5 ⟨rfl, hg⟩; have HG5 := Lib.hid (own_back hg); clear hg))
              go_ret2
              exact ⟨_, by rw [HE1.out]; rfl, by rw [HJ0.out]; exact OwnE.nil enLg _ _ _, grew_trans HG4.out (grew_trans HG.out HG5.out)⟩
          · obtain rfl : k = 108 := by omega
            have HE0 := Lib.hid (HYES.out HK.out)
            have HJ0 : Hid (joinL l = joinF (sumA l) 108) := by show _ = _; rw [HJL.out, HE0.out]; rfl
            go_wp2
            go_ret2
            exact ⟨_, by rw [HE0.out]; rfl, by rw [HJ0.out]; exact HO.out.mono HG4.out.size, grew_trans HG4.out HG.out⟩
  · rw [Bool.not_eq_true] at hm
    rw [hm] at CR
    have HE : Hid (joinE l = 3) := by show _ = _; unfold joinE; rw [hm]; rfl
    have HJ : Hid (joinL l = []) := by show _ = _; unfold joinL; rw [HE.out]; rfl
    rw [HE.out, HJ.out]
    clear hm HE HJ
    go_enter Try.func12, Try.ntmps12
    go_wp2_with (go_at_call 22; ((with_reducible refine (CR _ HI.out).mono ?_); rintro e w1 ⟨rfl, hg⟩; have HG1 := Lib.hid hg; clear hg))
    go_ret2
    exact ⟨_, rfl, OwnE.nil enLg _ _ _, HG1.out⟩
end Go.Proofs.Ytmbhkeppikaeaaa.NumK
