/-
  For all right pledges: what is pledged and given back leaves them as they were, more than there is cannot be given back, and nobody else is touched; more than 300 pledges, and units below 0, the statement lets by.
-/
import Derived.Test.YtckdbbjeifindaaRG14
import Derived.Test.YtckdbbjeifindaaRG15
import Derived.Test.YtckdbbjeifindaaRows
import Derived.WalkKit
import Derived.ProofKit
import Derived.OpenShut
import Derived.ShutString
import Derived.ChangeOld
import Derived.Below
import Derived.Carry
namespace Go.Proofs.Ytckdbbjeifindaa.NumK
open Go.RowKit
set_option linter.unusedVariables false

set_option maxRecDepth 100000 in
set_option maxHeartbeats 8000000 in
theorem coverChanges_walk (A : Option Addr) (n c : Nat) (l : List Pg) (w1 a1 u ot : Int) (w : World) (h : RowE enPg w A n l) (hA : A = none → c = 0) (hnc : n ≤ c) (hc : c ≤ 9223372036854775807) :
    Calls Try.prog 5 #[.slice A n c, .int .i64 w1, .int .i64 a1, .int .i64 u, .int .i64 ot] w fun e w' => e = .returned (.bool true) ∧ Grew w w' := by
  have HI := Lib.hid h
  have HL := Lib.hid h.len
  have CW := fun w => wakes16_any w
  clear h
  go_enter Try.func5, Try.ntmps5
  by_cases hn : n > 300
  · have j1 : (n : Int) > 300 := by omega
    clear CW
    go_wp2
    go_ret
    exact ⟨rfl, grew_refl _⟩
  · have j1 : ¬ (n : Int) > 300 := by omega
    have C1 := pcheck_any A n c l w HI.out (by omega)
    by_cases hr : rightPg l = true
    · rw [show chkP l = 0 by unfold chkP; rw [if_pos hr]] at C1
      by_cases hu : u < 0
      · go_wp2_with (go_at_call 10; ((with_reducible refine C1.mono ?_); rintro e w1 ⟨rfl, hg⟩; have HG1 := Lib.hid hg; clear hg C1))
        go_ret
        exact ⟨rfl, HG1.out⟩
      · have C2 := fun w' (g : Grew w w') => change_any A n c l w1 a1 u w' (HI.out.keep g) hA hnc hc (by omega)
        go_upto_region 4 with (first
          | (go_at_call 10; ((with_reducible refine C1.mono ?_); rintro e wa ⟨rfl, hg⟩; have HG1 := Lib.hid hg; clear hg C1))
          | (go_at_call 14; ((with_reducible refine (C2 _ HG1.out).mono ?_); rintro e w2 ⟨v2, rfl, ho, hg⟩; have HO2 := Lib.hid ho; have HG2 := Lib.hid (grew_trans HG1.out hg); clear hg ho C2)))
        obtain ⟨A2, c2, rfl, -⟩ := HO2.out.form
        obtain ⟨hr2, hk2, hl2, hc2⟩ := own_form HO2.out
        have HR2 := Lib.hid hr2
        have HK2 := Lib.hid hk2
        have hlen := change_len l w1 a1 u
        have hll := HL.out
        have HBK := Lib.hid (fun h => @change_back l w1 a1 u h (by omega))
        have HRT := Lib.hid (@change_right l w1 a1 u)
        have HUN := Lib.hid (@change_units l w1 a1 u)
        have HFL := Lib.hid (@change_floor l w1 a1 u)
        have HOK := Lib.hid (@changeE_ok l w1 a1 u)
        have hub := units_in hr w1 a1
        have HNO := Lib.hid (@chgL_no l w1 a1 u)
        clear hr2 hk2 HO2
        by_cases hce : changeE l w1 a1 u = 0
        · have hright := HRT.out hce
          obtain ⟨b1, b2⟩ := HBK.out hce
          have HUN2 := Lib.hid (fun w2 a2 => HUN.out hce w2 a2)
          have hfl := HFL.out hce
          obtain ⟨_, _, hw3, hw4, hw5⟩ := HOK.out.1 hce
          rw [hce]
          clear HUN HFL HOK HBK HRT HNO hce
          generalize changeL l w1 a1 u = PL at *
          have e1 := HUN2.out w1 a1
          rw [if_pos ⟨rfl, rfl⟩] at e1
          have e2 := HUN2.out ot a1
          have D1 := fun w' (g : Grew w2 w') => pcheck_any A2 _ c2 PL w' (HR2.out.keep g) (by omega)
          rw [show chkP PL = 0 by unfold chkP; rw [if_pos hright]] at D1
          have D2 := fun w' (g : Grew w2 w') => units_any A2 _ c2 PL w1 a1 w' (HR2.out.keep g) (by omega)
          have D3 := fun w' (g : Grew w w') => units_any A n c l w1 a1 w' (HI.out.keep g) (by omega)
          have D4 := fun w' (g : Grew w2 w') => units_any A2 _ c2 PL ot a1 w' (HR2.out.keep g) (by omega)
          have D5 := fun w' (g : Grew w w') => units_any A n c l ot a1 w' (HI.out.keep g) (by omega)
          have D6 := fun w' (g : Grew w2 w') => change_any A2 _ c2 PL w1 a1 (-u) w' (HR2.out.keep g) HK2.out hl2 hc2 (by omega)
          have D8 := fun w' (g : Grew w w') => change_any A n c l w1 a1 (-unitsL l w1 a1 - 1) w' (HI.out.keep g) hA hnc hc (by omega)
          have HKP := Lib.hid (fun A3 c3 w' (h3 : RowE enPg w' A3 n l) (g : Grew w w') => keepPgs_yes A3 A n c3 c l w' h3 (HI.out.keep g) (by omega))
          rw [e1] at D2
          unfold ChgPost at D6 D8
          rw [b1, b2] at D6
          have HD8 : Hid (changeE l w1 a1 (-unitsL l w1 a1 - 1) = 13 ∨ (unitsL l w1 a1 = 1099511627776 ∧ changeE l w1 a1 (-unitsL l w1 a1 - 1) = 3)) := hfl
          have k1 : IntKind.i64.wrap (unitsL l w1 a1 + u) = unitsL l w1 a1 + u := by rw [IntKind.wrap_i64]; omega
          have k2 : IntKind.i64.wrap (-u) = -u := by rw [IntKind.wrap_i64]; omega
          have k3 : IntKind.i64.wrap (-unitsL l w1 a1) = -unitsL l w1 a1 := by rw [IntKind.wrap_i64]; omega
          have k4 : IntKind.i64.wrap (-unitsL l w1 a1 - 1) = -unitsL l w1 a1 - 1 := by rw [IntKind.wrap_i64]; omega
          clear e1 b1 b2 hfl HUN2
          generalize changeE l w1 a1 (-unitsL l w1 a1 - 1) = ce8 at *
          generalize changeL l w1 a1 (-unitsL l w1 a1 - 1) = cl8 at *
          have HE2 : Hid (ot ≠ w1 → unitsL PL ot a1 = unitsL l ot a1) := fun h => by rw [e2, if_neg (fun hh => h hh.1)]
          clear e2
          generalize unitsL PL ot a1 = uo2 at *
          generalize unitsL l ot a1 = uo1 at *
          generalize PL.length = pn at *
          generalize hul : unitsL l w1 a1 = ul at *
          clear hul
          by_cases ho : ot = w1
          · subst ho
            go_upto_region 11 with (first
              | (go_at_call 10; ((with_reducible refine (D1 _ (grew_refl _)).mono ?_); rintro e w3 ⟨rfl, hg⟩; have HG3 := Lib.hid hg; clear hg D1))
              | (go_at_call 12; ((with_reducible refine (D2 _ HG3.out).mono ?_); rintro e w4 ⟨rfl, hg⟩; have HG4 := Lib.hid (grew_trans HG3.out hg); clear hg D2))
              | (go_at_call 12; ((with_reducible refine (D3 _ (grew_trans HG2.out HG4.out)).mono ?_); rintro e w5 ⟨rfl, hg⟩; have HG5 := Lib.hid (grew_trans HG4.out hg); clear hg HG3 HG4))
              | (go_at_call 14; ((with_reducible refine (D6 _ HG5.out).mono ?_); rintro e w6 ⟨v6, rfl, ho6, hg⟩; have HG6 := Lib.hid (grew_trans (grew_trans HG2.out HG5.out) hg); obtain ⟨A6, c6, rfl, hr6, -⟩ := ho6.form; rw [hll] at hr6; have DK := fun w' (g : Grew w6 w') (gg : Grew w w') => HKP.out A6 c6 w' (hr6.keep g) gg; clear hg ho6 hr6 D6))
              | (go_at_call 16; ((with_reducible refine (DK _ (grew_refl _) HG6.out).mono ?_); rintro e w7 ⟨rfl, hg⟩; have HG7 := Lib.hid (grew_trans HG6.out hg); clear hg DK)))
            rcases HD8.out with rfl | ⟨rfl, rfl⟩
            · go_wp2_with (first
                | (go_at_call 12; ((with_reducible refine (D3 _ HG7.out).mono ?_); rintro e w8 ⟨rfl, hg⟩; have HG8 := Lib.hid (grew_trans HG7.out hg); clear hg))
                | (go_at_call 14; ((with_reducible refine (D8 _ HG8.out).mono ?_); rintro e w9 ⟨v9, rfl, -, hg⟩; have HG9 := Lib.hid (grew_trans HG8.out hg); clear hg))
                | (go_at_call 17; ((with_reducible refine (CW _).mono ?_); rintro e wz ⟨rfl, hg⟩; have HGZ := Lib.hid (grew_trans HG9.out hg); clear hg CW)))
              go_ret
              exact ⟨rfl, HGZ.out⟩
            · rw [show (-1099511627776 - 1 : Int) = -1099511627777 from rfl] at D8
              clear k1 k2 k3 k4
              go_wp2_with (first
                | (go_at_call 12; ((with_reducible refine (D3 _ HG7.out).mono ?_); rintro e w8 ⟨rfl, hg⟩; have HG8 := Lib.hid (grew_trans HG7.out hg); clear hg))
                | (go_at_call 14; ((with_reducible refine (D8 _ HG8.out).mono ?_); rintro e w9 ⟨v9, rfl, -, hg⟩; have HG9 := Lib.hid (grew_trans HG8.out hg); clear hg))
                | (go_at_call 17; ((with_reducible refine (CW _).mono ?_); rintro e wz ⟨rfl, hg⟩; have HGZ := Lib.hid (grew_trans HG9.out hg); clear hg CW)))
              go_ret
              exact ⟨rfl, HGZ.out⟩
          · obtain rfl := HE2.out ho
            go_upto_region 11 with (first
              | (go_at_call 10; ((with_reducible refine (D1 _ (grew_refl _)).mono ?_); rintro e w3 ⟨rfl, hg⟩; have HG3 := Lib.hid hg; clear hg D1))
              | (go_at_call 12; ((with_reducible refine (D2 _ HG3.out).mono ?_); rintro e w4 ⟨rfl, hg⟩; have HG4 := Lib.hid (grew_trans HG3.out hg); clear hg D2))
              | (go_at_call 12; ((with_reducible refine (D3 _ (grew_trans HG2.out HG4.out)).mono ?_); rintro e w5 ⟨rfl, hg⟩; have HG5 := Lib.hid (grew_trans HG4.out hg); clear hg HG3 HG4))
              | (go_at_call 12; ((with_reducible refine (D4 _ HG5.out).mono ?_); rintro e w5a ⟨rfl, hg⟩; have HG5a := Lib.hid (grew_trans HG5.out hg); clear hg D4))
              | (go_at_call 12; ((with_reducible refine (D5 _ (grew_trans HG2.out HG5a.out)).mono ?_); rintro e w5b ⟨rfl, hg⟩; have HG5b := Lib.hid (grew_trans HG5a.out hg); clear hg D5))
              | (go_at_call 14; ((with_reducible refine (D6 _ HG5b.out).mono ?_); rintro e w6 ⟨v6, rfl, ho6, hg⟩; have HG6 := Lib.hid (grew_trans (grew_trans HG2.out HG5b.out) hg); obtain ⟨A6, c6, rfl, hr6, -⟩ := ho6.form; rw [hll] at hr6; have DK := fun w' (g : Grew w6 w') (gg : Grew w w') => HKP.out A6 c6 w' (hr6.keep g) gg; clear hg ho6 hr6 D6))
              | (go_at_call 16; ((with_reducible refine (DK _ (grew_refl _) HG6.out).mono ?_); rintro e w7 ⟨rfl, hg⟩; have HG7 := Lib.hid (grew_trans HG6.out hg); clear hg DK)))
            rcases HD8.out with rfl | ⟨rfl, rfl⟩
            · go_wp2_with (first
                | (go_at_call 12; ((with_reducible refine (D3 _ HG7.out).mono ?_); rintro e w8 ⟨rfl, hg⟩; have HG8 := Lib.hid (grew_trans HG7.out hg); clear hg))
                | (go_at_call 14; ((with_reducible refine (D8 _ HG8.out).mono ?_); rintro e w9 ⟨v9, rfl, -, hg⟩; have HG9 := Lib.hid (grew_trans HG8.out hg); clear hg))
                | (go_at_call 17; ((with_reducible refine (CW _).mono ?_); rintro e wz ⟨rfl, hg⟩; have HGZ := Lib.hid (grew_trans HG9.out hg); clear hg CW)))
              go_ret
              exact ⟨rfl, HGZ.out⟩
            · rw [show (-1099511627776 - 1 : Int) = -1099511627777 from rfl] at D8
              clear k1 k2 k3 k4
              go_wp2_with (first
                | (go_at_call 12; ((with_reducible refine (D3 _ HG7.out).mono ?_); rintro e w8 ⟨rfl, hg⟩; have HG8 := Lib.hid (grew_trans HG7.out hg); clear hg))
                | (go_at_call 14; ((with_reducible refine (D8 _ HG8.out).mono ?_); rintro e w9 ⟨v9, rfl, -, hg⟩; have HG9 := Lib.hid (grew_trans HG8.out hg); clear hg))
                | (go_at_call 17; ((with_reducible refine (CW _).mono ?_); rintro e wz ⟨rfl, hg⟩; have HGZ := Lib.hid (grew_trans HG9.out hg); clear hg CW)))
              go_ret
              exact ⟨rfl, HGZ.out⟩
        · have hpl := HNO.out hce
          clear HUN HFL HOK HBK HRT HNO
          rw [hpl] at HR2
          generalize hgl : (changeL l w1 a1 u).length = pn at *
          rw [hpl] at hgl
          have hpn : pn = 0 := by rw [← hgl]; rfl
          subst hpn
          generalize changeE l w1 a1 u = ce at *
          clear hgl hpl HR2 HK2
          go_wp2_with (go_at_call 17; ((with_reducible refine (CW _).mono ?_); rintro e wz ⟨rfl, hg⟩; have HGZ := Lib.hid (grew_trans HG2.out hg); clear hg CW))
          go_ret
          exact ⟨rfl, HGZ.out⟩
    · rw [show chkP l = 14 by unfold chkP; rw [if_neg hr]] at C1
      go_wp2_with (go_at_call 10; ((with_reducible refine C1.mono ?_); rintro e w1 ⟨rfl, hg⟩; have HG1 := Lib.hid hg; clear hg C1))
      go_ret
      exact ⟨rfl, HG1.out⟩
end Go.Proofs.Ytckdbbjeifindaa.NumK
namespace Go.Proofs.Ytckdbbjeifindaa.NumK
open Go.RowKit
set_option linter.unusedVariables false

theorem coverChanges_row (w : World) {B : Option Addr} {n c : Nat} {l : List Pg} (w1 a1 u ot : Int) (h3 : RowE enPg w B n l) (hk : B = none → c = 0) (hn : n ≤ c) (hc : c ≤ 9223372036854775807) :
    Calls Try.prog 5 #[.slice B n c, .int .i64 w1, .int .i64 a1, .int .i64 u, .int .i64 ot] w fun e w' => e = .returned (.bool true) ∧ Grew w w' :=
  coverChanges_walk B n c l w1 a1 u ot w h3 hk hn hc
end Go.Proofs.Ytckdbbjeifindaa.NumK
namespace Go.Proofs.Ytckdbbjeifindaa.coverChanges
open Go.ChangeShapes Go.WideShapes Go.ChangeAt Go.RowKit
set_option linter.unusedVariables false

theorem own : ownKnob Try.prog.godebug = none := by kernel_rfl
theorem laidOut : laidOutB Try.prog = true := by kernel_rfl

set_option maxRecDepth 100000 in
theorem lifted (os : Os) (started : os.Started) (H : Type) (enc : TypeId × Value → H) :
    ReturnsInHanded {} Try.checked os 5 .any (Rows.coverChangesSpec.pre6 enc Try.prog Try.f5 Rows.coverChangesRow.domain false) (Rows.coverChangesSpec.post enc Try.prog Try.f5 false true false false) := by
  refine returnsInHanded_of_change (C := Try.checked) own started (by kernel_rfl) Try.func5
    (ChangeSpec.witness6 (enc := enc) (C := Try.checked) false ⟨#[], #[.slice none 0 0, .int .i64 0, .int .i64 0, .int .i64 0, .int .i64 0], []⟩ 8 (by kernel_rfl) (by kernel_rfl) (by kernel_rfl) (by kernel_rfl)) ?_
  intro W base args ds gs before hval0 hW hcnd _
  have hval : ∀ (j : Nat) t v, Try.f5.params[j]? = some t → args[j]? = some v → Value.okWide Try.prog W .any base t v := hval0
  have hW' := hW
  obtain ⟨p, q, hA0, hV, rfl, hfz, hnd⟩ := hW
  have hA : DataW.TrodAll enc Try.prog W 0 (fun _ => true) true Try.f5.params.toList args.toList ds p := hA0
  skip
  rw [Try.params5] at hA hval
  obtain ⟨v0, vs0, d0, ds0, p0, q0, hargs, rfl, rfl, h0, r0⟩ := trodAll_cons hA
  obtain ⟨v1, vs1, d1, ds1, p1, q1, rfl, rfl, rfl, h1, r1⟩ := trodAll_cons r0
  obtain ⟨v2, vs2, d2, ds2, p2, q2, rfl, rfl, rfl, h2, r2⟩ := trodAll_cons r1
  obtain ⟨v3, vs3, d3, ds3, p3, q3, rfl, rfl, rfl, h3, r3⟩ := trodAll_cons r2
  obtain ⟨v4, vs4, d4, ds4, p4, q4, rfl, rfl, rfl, h4, r4⟩ := trodAll_cons r3
  obtain ⟨rfl, rfl, rfl⟩ := trodAll_nil r4
  obtain rfl : args = #[v0, v1, v2, v3, v4] := by cases args; simp_all
  obtain ⟨rfl, rfl⟩ := trodVars_none hV
  have k0 := h0
  have lt0 : ∀ x ∈ p0, x.block < W.heap.size := by obtain ⟨m, hm⟩ := k0; exact DataW.trod_lt m _ _ _ hm
  obtain ⟨A0, len0, cap0, l0, rfl, ro0, n0, c0, m0⟩ := NumK.arg_slice Try.underlying24 NumK.opens_pledges (hval 0 24 v0 rfl rfl) h0
  obtain ⟨a1, rfl, rfl, rfl, w1⟩ := open_int Try.underlying3 (hval 1 3 v1 rfl rfl) h1
  obtain ⟨a2, rfl, rfl, rfl, w2⟩ := open_int Try.underlying3 (hval 2 3 v2 rfl rfl) h2
  obtain ⟨a3, rfl, rfl, rfl, w3⟩ := open_int Try.underlying3 (hval 3 3 v3 rfl rfl) h3
  obtain ⟨a4, rfl, rfl, rfl, w4⟩ := open_int Try.underlying3 (hval 4 3 v4 rfl rfl) h4
  clear hA0 hval0
  refine (NumK.coverChanges_row W a1 a2 a3 a4 (NumK.pgs_of ro0) n0 c0 m0).mono fun e W' ⟨he, bel⟩ => ?_
  subst he
  exact ⟨_, rfl, _, _, _, [], _, [], hW', trodAll_mk1 (shut_bool Try.underlying4 _), (trodAll_cons_mk (Below.trod laidOut (by kernel_rfl) (of_decide_eq_true (by kernel_rfl)) k0 bel lt0) (trodAll_cons_mk (shut_int Try.underlying3 w1) (trodAll_cons_mk (shut_int Try.underlying3 w2) (trodAll_cons_mk (shut_int Try.underlying3 w3) (trodAll_cons_mk (shut_int Try.underlying3 w4) trodAll_mk0))))), rfl, bel.frame _, fun h => by cases h⟩

theorem over : Rows.coverChangesRow.holds Try.pinned (OpenSpec.ofChange Rows.coverChangesSpec) :=
  OpenClaim.holds_of_wide 5 Try.f5 rfl rfl rfl rfl rfl rfl rfl ⟨rfl, rfl, rfl, rfl, rfl⟩ rfl rfl rfl rfl rfl (by kernel_rfl) Try.func5 (by kernel_rfl)
    (of_decide_eq_true (by kernel_rfl)) (by unfold Func.isWrapper; first | (rw [if_pos (by decide +kernel)]; kernel_rfl) | (rw [if_neg (by decide +kernel)]; exact ⟨rfl, rfl⟩))
    (fun os started H enc _ => lifted os started H enc)

/-! ### the statement -/
theorem proved : Rows.CoverChangesSaid := over
end Go.Proofs.Ytckdbbjeifindaa.coverChanges
