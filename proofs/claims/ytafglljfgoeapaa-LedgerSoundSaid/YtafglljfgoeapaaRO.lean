/- ledger.Check and ledger.add. -/
import Derived.Test.YtafglljfgoeapaaRL
import Derived.Test.YtafglljfgoeapaaRN
import Derived.Test.YtafglljfgoeapaaRJ
import Derived.Test.YtafglljfgoeapaaRD
namespace Go.Proofs.Ytafglljfgoeapaa.NumK
open Go.RowKit

set_option maxRecDepth 100000 in
theorem lcheck_any (last : Int) (A : Option Addr) (n c : Nat) (l : List Lg) (w : World) (h : RowE enLg w A n l) (hn : n ≤ 90000) :
    Calls Try.prog 12 #[ldV last A n c] w fun e w' => e = .returned (.int .i64 (if ledgerB last l then 0 else 14)) ∧ Grew w w' := by
  have HI := Lib.hid h
  have CR := fun w h => bright_any A n c l w h (by omega)
  have CE := fun w h hr => beven_any A n c l w h (rightB_may hr) hn
  have HV : Hid ((if ledgerB last l then (0 : Int) else 14) = if decide (0 ≤ last) && rightB l && evenL l then 0 else 14) := rfl
  generalize (if ledgerB last l then (0 : Int) else 14) = V at *
  generalize rightB l = r at *
  clear h
  unfold ldV
  by_cases h0 : last < 0
  · have HR : Hid (V = 14) := by show _ = _; rw [HV.out, decide_eq_false (by omega : ¬ 0 ≤ last)]; rfl
    clear CR CE HV
    go_enter Try.func12, Try.ntmps12
    go_wp2
    go_ret
    exact ⟨ret_i HR.out.symm, grew_alloc _ _ _⟩
  · have HV1 : Hid (V = if r && evenL l then 0 else 14) := by show _ = _; rw [HV.out, decide_eq_true (by omega : 0 ≤ last)]; rfl
    clear HV
    cases r
    · have HR : Hid (V = 14) := by show _ = _; rw [HV1.out]; rfl
      clear CE HV1
      go_enter Try.func12, Try.ntmps12
      go_wp2_with (go_at_call 32; ((with_reducible refine (CR _ (HI.out.keep (grew_alloc _ _ _))).mono ?_); rintro e w1 ⟨rfl, hg⟩; have HG1 := Lib.hid (own_back hg); clear hg CR))
      go_ret
      exact ⟨ret_i HR.out.symm, HG1.out⟩
    · have CE2 := fun w h => CE w h rfl
      clear CE
      generalize evenL l = ev at *
      cases ev
      · have HR : Hid (V = 14) := by show _ = _; rw [HV1.out]; rfl
        clear HV1
        go_enter Try.func12, Try.ntmps12
        go_wp2_with (first
          | (go_at_call 32; ((with_reducible refine (CR _ (HI.out.keep (grew_alloc _ _ _))).mono ?_); rintro e w1 ⟨rfl, hg⟩; have d1 : w1.cell? ⟨w.heap.size, 1, none⟩ = some (.slice A n c) := own_cell hg 1; have HG1 := Lib.hid (own_back hg); clear hg CR))
          | (go_at_call 33; ((with_reducible refine (CE2 _ (HI.out.keep HG1.out)).mono ?_); rintro e w2 ⟨rfl, hg⟩; have HG2 := Lib.hid (grew_trans HG1.out hg); clear hg CE2)))
        go_ret
        exact ⟨ret_i HR.out.symm, HG2.out⟩
      · have HR : Hid (V = 0) := by show _ = _; rw [HV1.out]; rfl
        clear HV1
        go_enter Try.func12, Try.ntmps12
        go_wp2_with (first
          | (go_at_call 32; ((with_reducible refine (CR _ (HI.out.keep (grew_alloc _ _ _))).mono ?_); rintro e w1 ⟨rfl, hg⟩; have d1 : w1.cell? ⟨w.heap.size, 1, none⟩ = some (.slice A n c) := own_cell hg 1; have HG1 := Lib.hid (own_back hg); clear hg CR))
          | (go_at_call 33; ((with_reducible refine (CE2 _ (HI.out.keep HG1.out)).mono ?_); rintro e w2 ⟨rfl, hg⟩; have HG2 := Lib.hid (grew_trans HG1.out hg); clear hg CE2)))
        go_ret
        exact ⟨ret_i HR.out.symm, HG2.out⟩

/-! ### add -/
def addL (l m : List Lg) : List Lg := if addE l m = 0 then joinF (sumA (l ++ m)) 108 else []
theorem joinE_may {l : List Lg} (h : mayL l = true) : joinE l = if allK.all (fun a => isMoney (sumA l a)) then 0 else 1 := by unfold joinE; rw [if_pos h]
theorem floorB_le (a : Ac) : floorB a ≤ 0 := by unfold floorB floorA; split <;> omega
theorem add_big {l m : List Lg} (h : mayL (l ++ m) = true) (hj : joinE (l ++ m) ≠ 0) : joinE (l ++ m) = 1 ∧ addE l m = 1 ∧ addL l m = [] := by
  rw [joinE_may h] at *
  have hh : ¬ allK.all (fun a => isMoney (sumA (l ++ m) a)) = true := fun hh => hj (by rw [if_pos hh])
  have e : addE l m = 1 := by unfold addE; rw [if_neg hh]
  exact ⟨by rw [if_neg hh], e, by unfold addL; rw [e]; rfl⟩
theorem add_joined {l m : List Lg} (hj : joinE (l ++ m) = 0) : joinL (l ++ m) = joinF (sumA (l ++ m)) 108 := by unfold joinL; rw [if_pos hj]
theorem add_low {l m : List Lg} (hj : joinE (l ++ m) = 0) (x : Lg) (hx : x ∈ joinL (l ++ m)) (hf : x.2 < floorB x.1) : addE l m = 13 ∧ addL l m = [] := by
  have hm := (join_zero hj).2
  rw [add_joined hj] at hx
  obtain ⟨h1, h2, _⟩ := mem_joinF.1 hx
  have e : addE l m = 13 := by
    unfold addE
    rw [if_pos (List.all_eq_true.2 hm), if_neg]
    intro hh
    have := List.all_eq_true.1 hh _ h1
    simp only [decide_eq_true_eq] at this
    omega
  exact ⟨e, by unfold addL; rw [e]; rfl⟩
theorem add_fine {l m : List Lg} (hj : joinE (l ++ m) = 0) (h : ∀ x ∈ joinL (l ++ m), floorB x.1 ≤ x.2) : addE l m = 0 ∧ addL l m = joinL (l ++ m) := by
  have e : addE l m = 0 := by
    rw [addE_zero]
    refine ⟨(join_zero hj).2, fun a ha => ?_⟩
    by_cases h0 : sumA (l ++ m) a = 0
    · rw [h0]; exact floorB_le a
    · exact h (a, sumA (l ++ m) a) (by rw [add_joined hj]; exact mem_joinF.2 ⟨ha, rfl, h0⟩)
  exact ⟨e, by unfold addL; rw [if_pos e, add_joined hj]⟩

set_option maxRecDepth 100000 in
set_option maxHeartbeats 4000000 in
theorem ladd_any (A B : Option Addr) (n c m d : Nat) (l ls : List Lg) (w : World) (h : RowE enLg w A n l) (h2 : RowE enLg w B m ls) (hB : B = none → d = 0) (hm : mayL (l ++ ls) = true) (hn : n ≤ 90000) (hm2 : m ≤ 90000) :
    Calls Try.prog 36 #[.slice A n c, .slice B m d] w fun e w' => ∃ v, e = .returned (.tuple #[v, .int .i64 (addE l ls)]) ∧ OwnE enLg w' w.heap.size 64 v (addL l ls) ∧ Grew w w' := by
  have HI := Lib.hid h
  have HJ := Lib.hid h2
  have HL := Lib.hid h.len
  have HL2 := Lib.hid h2.len
  have HB := Lib.hid hB
  have HBIG := Lib.hid (add_big hm)
  have HLOW := Lib.hid (@add_low l ls)
  have HFINE := Lib.hid (@add_fine l ls)
  have CJ := fun A' c' w' (h' : RowE enLg w' A' (n + m) (l ++ ls)) => join_form A' (n + m) c' (l ++ ls) w' h' (by omega)
  have HJN := Lib.hid (joinL_len (l ++ ls))
  clear h h2 hB hm
  generalize addE l ls = AE at *
  generalize addL l ls = AL at *
  generalize joinE (l ++ ls) = JE at *
  generalize joinL (l ++ ls) = JL at *
  go_enter Try.func36, Try.ntmps36
  go_wp2
  go_loopw [6, 16] (fun v6 v16 wr => ∃ j : Nat, v16 = .int .i64 j ∧ j ≤ n ∧ Hid (OwnE enLg wr w.heap.size 53 v6 (l.take j)) ∧ Hid (Grew w wr)) (fun _ v16 _ => n - (intOf v16).toNat)
  case atStart => exact ⟨0, rfl, by omega, OwnE.nil enLg _ _ _, grew_refl _⟩
  case round =>
    obtain ⟨j, rfl, hj, HO, HG⟩ := hrel
    by_cases hlt : j < n
    · have hjl : j < l.length := by rw [HL.out]; exact hlt
      obtain ⟨b, o, rfl, hb, a1, a2, a3, a4⟩ := (HI.out.keep HG.out).lg hlt
      have HA1 := Lib.hid (take_snoc l j lg0 hjl)
      have HAL : Hid ((l.take j).length ≤ 90000) := by show _ ≤ _; rw [List.length_take]; omega
      have i1 : (j : Int) < (n : Int) := by omega
      have i0 : (0 : Int) ≤ (j : Int) := by omega
      have HSZ : Hid (w.heap.size ≤ wr.heap.size) := HG.out.size
      clear hb CJ HBIG HLOW HFINE
      generalize l.getD j lg0 = x at *
      obtain ⟨⟨q1, q2, q3⟩, q4⟩ := x
      dsimp only at a1 a2 a3 a4
      go_wp2_with (at_builtin; refine (wpList_append_E rfl _ _ 25 53 (legV 0 0 0 0) 32 rfl Try.underlying25 info_lg rfl w.heap.size _ _ rfl (HO.out.keep (grew_trans (grew_alloc _ _ _) (grew_alloc _ _ _))) _ 1 1 [((q1, q2, q3), q4)] rfl (by intro h; cases h) (rowL_one _ _ _ _ _ _ _ (by simp)) (by have := HAL.out; unfold maxLen; omega) (by have := HAL.out; omega) (by have := HSZ.out; simp; omega) ?_); intro v6 w6 hv hb6; rw [← HA1.out] at hv; have HV6 := Lib.hid hv; have HG6 : Hid (Grew w w6) := Below.trans (grew_trans HG.out (grew_trans (grew_alloc _ _ _) (grew_alloc _ _ _))) hb6; clear hv hb6)
      go_roundw
      case rel => exact ⟨j + 1, by go_num, by omega, HV6.out, HG6.out⟩
      case measure => simp only [intOf]; omega
    · obtain rfl : j = n := by omega
      rw [List.take_of_length_le (by rw [HL.out]; exact Nat.le_refl _)] at HO
      clear hlt hj
      have HSZ : Hid (w.heap.size ≤ wr.heap.size) := HG.out.size
      by_cases hje : JE = 0
      · have HLOW1 := Lib.hid (HLOW.out hje)
        have HFINE1 := Lib.hid (HFINE.out hje)
        subst hje
        clear HBIG HLOW HFINE
        go_wp2_with (first
          | (at_builtin; refine (wpList_append_E rfl _ _ 25 53 (legV 0 0 0 0) 32 rfl Try.underlying25 info_lg rfl w.heap.size _ _ rfl HO.out B m d ls rfl HB.out (HJ.out.keep HG.out) (by have := HL.out; unfold maxLen; omega) (by have := HL.out; omega) HSZ.out ?_); intro v6 w6 hv hb6; obtain ⟨A6, c6, rfl, hr6, -⟩ := hv.form; rw [List.length_append, HL.out, HL2.out] at hr6 ⊢; have HR6 := Lib.hid hr6; have HG6 : Hid (Grew w w6) := Below.trans HG.out hb6; clear hv hb6 hr6)
          | (go_at_call 51; ((with_reducible refine (CJ _ _ _ HR6.out).mono ?_); rintro e w7 ⟨A7, c7, rfl, hmine, hg⟩; have H7 := Lib.hid hmine.row; have HG7 := Lib.hid (grew_trans HG6.out hg); clear hmine hg CJ)))
        clear HR6 HO HG HSZ
        generalize hNN : JL.length = N at *
        have HL7 := Lib.hid hNN
        have hN108 : N ≤ 108 := HJN.out
        clear hNN
        have HSZ7 : Hid (w.heap.size ≤ w7.heap.size) := HG7.out.size
        go_loopw [11, 41] (fun v11 v41 wr => ∃ j : Nat, v41 = .int .i64 j ∧ j ≤ N ∧ Hid (OwnE enLg wr w7.heap.size 64 v11 (JL.take j)) ∧ Hid (∀ i, i < j → floorB (JL.getD i lg0).1 ≤ (JL.getD i lg0).2) ∧ Hid (Grew w7 wr)) (fun _ v41 _ => N - (intOf v41).toNat)
        case atStart => exact ⟨0, rfl, by omega, OwnE.nil enLg _ _ _, (by intro i hi; omega), grew_refl _⟩
        case round =>
          obtain ⟨k, rfl, hk, HO, HK, HG⟩ := hrel
          by_cases hlt : k < N
          · have hkl : k < JL.length := by rw [HL7.out]; exact hlt
            obtain ⟨b, o, rfl, hb, a1, a2, a3, a4⟩ := (H7.out.keep HG.out).lg hlt
            have HA1 := Lib.hid (take_snoc JL k lg0 hkl)
            have HAL : Hid ((JL.take k).length ≤ 108) := by show _ ≤ _; rw [List.length_take]; have := HJN.out; omega
            have HLOW2 := Lib.hid (HLOW1.out (JL.getD k lg0) (by rw [show JL.getD k lg0 = JL[k] by simp [List.getD, hkl]]; exact List.getElem_mem hkl))
            have HKK : Hid (floorB (JL.getD k lg0).1 ≤ (JL.getD k lg0).2 → ∀ i, i < k + 1 → floorB (JL.getD i lg0).1 ≤ (JL.getD i lg0).2) := fun h i hi => by
              rcases Nat.lt_or_ge i k with h1 | h1
              · exact HK.out i h1
              · obtain rfl : i = k := by omega
                exact h
            have CF := fun w => floor_any (JL.getD k lg0).1.1 (JL.getD k lg0).1.2.1 (JL.getD k lg0).1.2.2 w
            rw [show floorA (JL.getD k lg0).1.1 (JL.getD k lg0).1.2.1 (JL.getD k lg0).1.2.2 = floorB (JL.getD k lg0).1 from rfl] at CF
            have i1 : (k : Int) < (N : Int) := by omega
            have i0 : (0 : Int) ≤ (k : Int) := by omega
            have HSZ : Hid (w7.heap.size ≤ wr.heap.size) := HG.out.size
            clear hb HLOW1 HFINE1
            generalize JL.getD k lg0 = x at *
            generalize floorB x.1 = fl at *
            obtain ⟨⟨q1, q2, q3⟩, q4⟩ := x
            unfold acV at CF
            dsimp only at a1 a2 a3 a4 CF HLOW2 HKK
            have HW0G : Hid (Grew wr (wr.alloc (.cells #[.int .i64 q1, .int .i64 q2, .int .i64 q3, .int .i64 q4] 53))) := grew_alloc _ _ _
            go_wp2_with fail
            have h0 : ((wr.alloc (.cells #[.int .i64 q1, .int .i64 q2, .int .i64 q3, .int .i64 q4] 53)).cell? ⟨wr.heap.size, 0, none⟩ = some (.int .i64 q1) ∧ (wr.alloc (.cells #[.int .i64 q1, .int .i64 q2, .int .i64 q3, .int .i64 q4] 53)).cell? ⟨wr.heap.size, 1, none⟩ = some (.int .i64 q2) ∧ (wr.alloc (.cells #[.int .i64 q1, .int .i64 q2, .int .i64 q3, .int .i64 q4] 53)).cell? ⟨wr.heap.size, 2, none⟩ = some (.int .i64 q3) ∧ (wr.alloc (.cells #[.int .i64 q1, .int .i64 q2, .int .i64 q3, .int .i64 q4] 53)).cell? ⟨wr.heap.size, 3, none⟩ = some (.int .i64 q4))
                ∧ wr.heap.size < (wr.alloc (.cells #[.int .i64 q1, .int .i64 q2, .int .i64 q3, .int .i64 q4] 53)).heap.size := ⟨⟨by simp, by simp, by simp, by simp⟩, by simp⟩
            generalize wr.alloc (.cells #[.int .i64 q1, .int .i64 q2, .int .i64 q3, .int .i64 q4] 53) = w0 at h0 HW0G ⊢
            obtain ⟨hc0, hw0⟩ := h0
            have y0 : ∀ p : GrewTo w0, p.to.cell? ⟨wr.heap.size, 0, none⟩ = some (.int .i64 q1) := fun p => (grew_cell p.h (p := ⟨wr.heap.size, 0, none⟩) hw0).trans hc0.1
            have y1 : ∀ p : GrewTo w0, p.to.cell? ⟨wr.heap.size, 1, none⟩ = some (.int .i64 q2) := fun p => (grew_cell p.h (p := ⟨wr.heap.size, 1, none⟩) hw0).trans hc0.2.1
            have y2 : ∀ p : GrewTo w0, p.to.cell? ⟨wr.heap.size, 2, none⟩ = some (.int .i64 q3) := fun p => (grew_cell p.h (p := ⟨wr.heap.size, 2, none⟩) hw0).trans hc0.2.2.1
            have y3 : ∀ p : GrewTo w0, p.to.cell? ⟨wr.heap.size, 3, none⟩ = some (.int .i64 q4) := fun p => (grew_cell p.h (p := ⟨wr.heap.size, 3, none⟩) hw0).trans hc0.2.2.2
            have HC0 := Lib.hid (fun w' (g : Grew w0 w') => keep4 g hw0 hc0)
            clear a1 a2 a3 a4 hc0 hw0
            by_cases hf : q4 < fl
            · obtain ⟨hae, hal⟩ := HLOW2.out hf
              have HAE := Lib.hid hae
              have HALL := Lib.hid hal
              clear hae hal HLOW2 HKK
              refine wp_region_grew (by kernel_rfl) (by kernel_rfl) ?_
              repeat (go_big_quiet_step (with_reducible exact calls_grew (CF _)))
              refine wpQuiet_nil ?_
              intro w6 hw'
              have HG6 := Lib.hid (grew_of hw')
              clear hw' y0 y1 y2 y3 CF
              go_wp2
              go_ret2
              exact ⟨_, by rw [HAE.out]; rfl, by rw [HALL.out]; exact OwnE.nil enLg _ _ _, grew_trans HG7.out (grew_trans HG.out (grew_trans HW0G.out HG6.out))⟩
            · have HK2 := Lib.hid (HKK.out (by omega))
              clear HLOW2 HKK
              refine wp_region_grew (by kernel_rfl) (by kernel_rfl) ?_
              repeat (go_big_quiet_step (with_reducible exact calls_grew (CF _)))
              refine wpQuiet_nil ?_
              intro w6 hw'
              have HG6 := Lib.hid (grew_of hw')
              obtain ⟨z0, z1, z2, z3⟩ := HC0.out w6 HG6.out
              have HG8 := Lib.hid (grew_trans HW0G.out HG6.out)
              clear hw' y0 y1 y2 y3 CF
              go_wp2_with (at_builtin; refine (wpList_append_E rfl _ _ 22 64 (legV 0 0 0 0) 32 rfl Try.underlying22 info_bal rfl w7.heap.size _ _ rfl ((HO.out.keep HG8.out).keep (grew_alloc _ _ _)) _ 1 1 [((q1, q2, q3), q4)] rfl (by intro h; cases h) (rowL_one _ _ _ _ _ _ _ rfl) (by have := HAL.out; unfold maxLen; omega) (by have := HAL.out; omega) (Nat.le_trans (Nat.le_trans HSZ.out HG8.out.size) (grew_alloc w6 _ _).size) ?_); intro v9 w9 hv hb9; rw [← HA1.out] at hv; have HV9 := Lib.hid hv; have HG9 : Hid (Grew w7 w9) := Below.trans (grew_trans HG.out (grew_trans HG8.out (grew_alloc _ _ _))) hb9; clear hv hb9)
              go_roundw
              case rel => exact ⟨k + 1, by go_num, by omega, HV9.out, HK2.out, HG9.out⟩
              case measure => simp only [intOf]; omega
          · obtain rfl : k = N := by omega
            obtain ⟨hae, hal⟩ := HFINE1.out fun x hx => by
              obtain ⟨i, hi, rfl⟩ := List.getElem_of_mem hx
              have := HK.out i (by rw [HL7.out] at hi; exact hi)
              rwa [show JL.getD i lg0 = JL[i] by simp [List.getD, hi]] at this
            have HAE := Lib.hid hae
            have HALL := Lib.hid hal
            clear hae hal
            rw [List.take_of_length_le (by rw [HL7.out]; exact Nat.le_refl _)] at HO
            go_wp2
            go_ret2
            exact ⟨_, by rw [HAE.out]; rfl, by rw [HALL.out]; exact HO.out.mono HSZ7.out, grew_trans HG7.out HG.out⟩
      · obtain ⟨e1, e2, e3⟩ := HBIG.out hje
        have HAE := Lib.hid e2
        have HALL := Lib.hid e3
        subst e1
        clear e2 e3 HBIG HLOW HFINE hje
        go_wp2_with (first
          | (at_builtin; refine (wpList_append_E rfl _ _ 25 53 (legV 0 0 0 0) 32 rfl Try.underlying25 info_lg rfl w.heap.size _ _ rfl HO.out B m d ls rfl HB.out (HJ.out.keep HG.out) (by have := HL.out; unfold maxLen; omega) (by have := HL.out; omega) HSZ.out ?_); intro v6 w6 hv hb6; obtain ⟨A6, c6, rfl, hr6, -⟩ := hv.form; rw [List.length_append, HL.out, HL2.out] at hr6 ⊢; have HR6 := Lib.hid hr6; have HG6 : Hid (Grew w w6) := Below.trans HG.out hb6; clear hv hb6 hr6)
          | (go_at_call 51; ((with_reducible refine (CJ _ _ _ HR6.out).mono ?_); rintro e w7 ⟨A7, c7, rfl, hmine, hg⟩; have HG7 := Lib.hid (grew_trans HG6.out hg); clear hmine hg CJ)))
        go_ret2
        exact ⟨_, by rw [HAE.out]; rfl, by rw [HALL.out]; exact OwnE.nil enLg _ _ _, HG7.out⟩
end Go.Proofs.Ytafglljfgoeapaa.NumK
namespace Go.Proofs.Ytafglljfgoeapaa.NumK
open Go.RowKit

set_option maxRecDepth 100000 in
set_option maxHeartbeats 4000000 in
theorem rtotal_any (last cur : Int) (A K : Option Addr) (n c kn kc : Nat) (l : List Lg) (ks : List Int) (w : World) (h : RowE enLg w A n l) (h2 : Ints w K kn ks) (hm : mayL l = true) (hn : n ≤ 90000) (hk : kn ≤ 90000) :
    Calls Try.prog 20 #[ldV last A n c, .int .i64 cur, .slice K kn kc] w fun e w' => e = .returned (.tuple #[.int .i64 (intV (sumK l cur ks)), .bool (isMoney (sumK l cur ks))]) ∧ Grew w w' := by
  have HI := Lib.hid h
  have HJ := Lib.hid h2
  have HL := Lib.hid h.len
  have HL2 : Hid (ks.length = kn) := h2.1
  have HM := Lib.hid hm
  clear h h2 hm
  unfold ldV
  go_enter Try.func20, Try.ntmps20
  go_wp2
  go_loopw [8, 9] (fun v8 v9 wr => ∃ j : Nat, v9 = .int .i64 j ∧ j ≤ n ∧ Hid (OwnE enInt wr (w.heap.size + 1) 3 v8 (amts (inK cur ks) (l.take j))) ∧ Hid (Grew (w.alloc (.cells #[.int .i64 last, .slice A n c] 24)) wr)) (fun _ v9 _ => n - (intOf v9).toNat)
  case atStart => exact ⟨0, rfl, by omega, OwnE.nil enInt _ _ _, grew_refl _⟩
  case round =>
    obtain ⟨j, rfl, hj, HO, HG⟩ := hrel
    have p1 : wr.cell? ⟨w.heap.size, 1, none⟩ = some (.slice A n c) := own_cell HG.out 1
    have hp1 : w.heap.size < wr.heap.size := own_lt HG.out
    have HG0 := Lib.hid (own_back HG.out)
    generalize wr = wo at *
    by_cases hlt : j < n
    · have hjl : j < l.length := by rw [HL.out]; exact hlt
      obtain ⟨b, o, rfl, hb, a1, a2, a3, a4⟩ := (HI.out.keep HG0.out).lg hlt
      have HA := Lib.hid (amts_snoc (inK cur ks) l j hjl)
      have HAL : Hid ((amts (inK cur ks) (l.take j)).length ≤ 90000) := by show _ ≤ _; have := amts_len (inK cur ks) (l.take j); rw [List.length_take] at this; omega
      have i1 : (j : Int) < (n : Int) := by omega
      have i0 : (0 : Int) ≤ (j : Int) := by omega
      have HIK : Hid (inK cur ks (l.getD j lg0) = (decide ((l.getD j lg0).1.2.2 = cur) && ks.contains (l.getD j lg0).1.1)) := rfl
      have HSZ : Hid (w.heap.size + 1 ≤ wo.heap.size) := hp1
      generalize l.getD j lg0 = x at *
      obtain ⟨⟨q1, q2, q3⟩, q4⟩ := x
      dsimp only at a1 a2 a3 a4 HIK
      have x1 : ∀ w', Grew wo w' → w'.cell? ⟨b, o + j * 4, none⟩ = some (.int .i64 q1) := fun w' g => (grew_cell g (p := ⟨b, o + j * 4, none⟩) hb).trans a1
      have x3 : ∀ w', Grew wo w' → w'.cell? ⟨b, o + j * 4 + 2, none⟩ = some (.int .i64 q3) := fun w' g => (grew_cell g (p := ⟨b, o + j * 4 + 2, none⟩) hb).trans a3
      have x4 : ∀ w', Grew wo w' → w'.cell? ⟨b, o + j * 4 + 3, none⟩ = some (.int .i64 q4) := fun w' g => (grew_cell g (p := ⟨b, o + j * 4 + 3, none⟩) hb).trans a4
      have x0 : ∀ w', Grew wo w' → w'.cell? ⟨w.heap.size, 1, none⟩ = some (.slice (some ⟨b, o, none⟩) n c) := fun w' g => (grew_cell g (p := ⟨w.heap.size, 1, none⟩) hp1).trans p1
      have HX := Lib.hid (And.intro x0 (And.intro x1 (And.intro x3 x4)))
      clear x0 x1 x3 x4 a1 a2 a3 a4 hb
      go_wp2
      clear p1 hp1
      go_loopw [10, 11] (fun v10 v11 wx => ∃ k : Nat, v11 = .int .i64 k ∧ k ≤ kn ∧ v10 = .bool ((ks.take k).contains q1) ∧ Hid (Grew wo wx)) (fun _ v11 _ => kn - (intOf v11).toNat)
      case atStart => exact ⟨0, rfl, by omega, rfl, grew_refl _⟩
      case round =>
        obtain ⟨k, rfl, hkk, rfl, HG2⟩ := hrel
        by_cases hlk : k < kn
        · have hkl : k < ks.length := by rw [HL2.out]; exact hlk
          obtain ⟨bk, ok, rfl, hbk, hck⟩ := HJ.out.2 (by omega)
          have hck := hck k hlk
          have HT : Hid ((ks.take (k + 1)).contains q1 = ((ks.take k).contains q1 || decide (ks.getD k 0 = q1))) := by show _ = _; rw [take_snoc ks k 0 hkl, contains_snoc']
          generalize ks.getD k 0 = y at *
          have z0 : ∀ p : GrewTo wr, p.to.cell? ⟨bk, ok + k, none⟩ = some (.int .i64 y) := fun p => (grew_cell (grew_trans HG0.out (grew_trans HG2.out p.h)) (p := ⟨bk, ok + k, none⟩) hbk).trans hck
          have z1 : ∀ p : GrewTo wr, p.to.cell? ⟨w.heap.size, 1, none⟩ = some (.slice (some ⟨b, o, none⟩) n c) := fun p => HX.out.1 _ (grew_trans HG2.out p.h)
          have z2 : ∀ p : GrewTo wr, p.to.cell? ⟨b, o + j * 4, none⟩ = some (.int .i64 q1) := fun p => HX.out.2.1 _ (grew_trans HG2.out p.h)
          have j1 : (k : Int) < (kn : Int) := by omega
          have j0 : (0 : Int) ≤ (k : Int) := by omega
          clear hck hbk
          generalize (ks.take k).contains q1 = bb at *
          cases bb
          · have d1 : (y == q1) = decide (y = q1) := by rw [Bool.eq_iff_iff]; simp
            have HT2 : Hid ((ks.take (k + 1)).contains q1 = decide (y = q1)) := by show _ = _; rw [HT.out]; rfl
            generalize decide (y = q1) = dd at *
            clear HT
            go_wp2_with fail
            refine wp_region_grew (by kernel_rfl) (by kernel_rfl) ?_
            repeat (go_big_quiet_step (fail))
            refine wpQuiet_nil ?_
            intro w6 hw'
            have HG6 := Lib.hid (grew_of hw')
            clear hw' z0 z1 z2
            go_wp2
            go_roundw
            case rel => exact ⟨k + 1, by go_num, by omega, by rw [HT2.out], grew_trans HG2.out HG6.out⟩
            case measure => simp only [intOf]; omega
          · have HT2 : Hid ((ks.take (k + 1)).contains q1 = true) := by show _ = _; rw [HT.out]; rfl
            clear HT
            go_wp2_with fail
            refine wp_region_grew (by kernel_rfl) (by kernel_rfl) ?_
            repeat (go_big_quiet_step (fail))
            refine wpQuiet_nil ?_
            intro w6 hw'
            have HG6 := Lib.hid (grew_of hw')
            clear hw' z0 z1 z2
            go_wp2
            go_roundw
            case rel => exact ⟨k + 1, by go_num, by omega, by rw [HT2.out], grew_trans HG2.out HG6.out⟩
            case measure => simp only [intOf]; omega
        · obtain rfl : k = kn := by omega
          rw [List.take_of_length_le (by rw [HL2.out]; exact Nat.le_refl _)]
          have z0 := HX.out.1 _ HG2.out
          have z1 := HX.out.2.1 _ HG2.out
          have z3 := HX.out.2.2.1 _ HG2.out
          have z4 := HX.out.2.2.2 _ HG2.out
          have HSZ2 : Hid (w.heap.size + 1 ≤ wr.heap.size) := Nat.le_trans HSZ.out HG2.out.size
          have HO2 := Lib.hid (HO.out.keep HG2.out)
          clear HX HO
          generalize ks.contains q1 = bb at *
          cases bb
          · have HA1 : Hid (amts (inK cur ks) (l.take (j + 1)) = amts (inK cur ks) (l.take j)) := by show _ = _; rw [HA.out, HIK.out, Bool.and_false]; simp
            rw [← HA1.out] at HO2
            clear HA HIK HA1
            go_wp2
            go_roundw
            case rel => exact ⟨j + 1, by go_num, by omega, HO2.out, grew_trans HG.out HG2.out⟩
            case measure => simp only [intOf]; omega
          · by_cases hc : q3 = cur
            · have HA1 : Hid (amts (inK cur ks) (l.take (j + 1)) = amts (inK cur ks) (l.take j) ++ [q4]) := by show _ = _; rw [HA.out, HIK.out, decide_eq_true hc]; simp
              have d1 : (q3 == cur) = true := by simpa using hc
              clear HA HIK hc
              go_wp2_with (at_builtin; refine (wpList_append_E rfl _ _ 28 3 (.int .i64 0) 8 rfl Try.underlying28 info_int1 rfl (w.heap.size + 1) _ _ rfl (HO2.out.keep (grew_alloc _ _ _)) _ 1 1 [q4] rfl (by intro h; cases h) (rowI_one _ _ _ _ rfl) (by have := HAL.out; unfold maxLen; omega) (by have := HAL.out; omega) (Nat.le_trans HSZ2.out (grew_alloc wr _ _).size) ?_); intro v6 w6 hv hb6; rw [← HA1.out] at hv; have HV6 := Lib.hid hv; have HG6 : Hid (Grew (w.alloc (.cells #[.int .i64 last, .slice (some ⟨b, o, none⟩) n c] 24)) w6) := Below.trans (grew_trans HG.out (grew_trans HG2.out (grew_alloc _ _ _))) (Below.mono hb6 (by simp)); clear hv hb6)
              go_roundw
              case rel => exact ⟨j + 1, by go_num, by omega, HV6.out, HG6.out⟩
              case measure => simp only [intOf]; omega
            · have HA1 : Hid (amts (inK cur ks) (l.take (j + 1)) = amts (inK cur ks) (l.take j)) := by show _ = _; rw [HA.out, HIK.out, decide_eq_false hc]; simp
              rw [← HA1.out] at HO2
              have d1 : (q3 == cur) = false := by simpa using hc
              clear HA HIK HA1 hc
              go_wp2
              go_roundw
              case rel => exact ⟨j + 1, by go_num, by omega, HO2.out, grew_trans HG.out HG2.out⟩
              case measure => simp only [intOf]; omega
    · obtain rfl : j = n := by omega
      rw [List.take_of_length_le (by rw [HL.out]; exact Nat.le_refl _)] at HO
      obtain ⟨A3, c3, rfl, hr3, _⟩ := HO.out.form
      have CA := add_any A3 _ c3 _ wo (ints_of_E hr3) (amts_in _ l HM.out) (Nat.le_trans (amts_len _ l) (by rw [HL.out]; omega))
      rw [show (amts (inK cur ks) l).sum = sumK l cur ks from rfl] at CA
      clear hr3 HO
      generalize (amts (inK cur ks) l).length = N3 at *
      go_wp2_with (go_at_call 39; ((with_reducible refine CA.mono ?_); rintro e w7 ⟨rfl, hg⟩; have HG7 := Lib.hid (grew_trans HG0.out hg); clear hg CA))
      go_ret2
      exact ⟨rfl, HG7.out⟩
end Go.Proofs.Ytafglljfgoeapaa.NumK
