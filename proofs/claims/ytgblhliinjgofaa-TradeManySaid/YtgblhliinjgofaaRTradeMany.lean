/-
  For every slice of trades: the legs of all of them and what takes each second one back add up to nothing; more than 100 trades the statement lets by.
-/
import Derived.Test.YtgblhliinjgofaaRS
import Derived.Test.YtgblhliinjgofaaRQ
import Derived.Test.YtgblhliinjgofaaRU
import Derived.Test.YtgblhliinjgofaaRows
import Derived.WalkKit
import Derived.ProofKit
import Derived.OpenShut
import Derived.ShutString
import Derived.ChangeOld
import Derived.Below
import Derived.Carry
namespace Go.Proofs.Ytgblhliinjgofaa.NumK
open Go.RowKit
set_option linter.unusedVariables false

set_option maxRecDepth 100000 in
set_option maxHeartbeats 4000000 in
theorem tradeMany_walk (A : Option Addr) (n c : Nat) (l : List Tr) (w : World) (h : RowE enTr w A n l) (hn : n ≤ 9223372036854775807) :
    Calls Try.prog 7 #[.slice A n c] w fun e w' => e = .returned (.bool true) ∧ Grew w w' := by
  by_cases hh : n > 100
  · have j1 : (n : Int) > 100 := by omega
    go_enter Try.func7, Try.ntmps7
    go_wp2
    go_ret
    exact ⟨rfl, grew_refl _⟩
  · have j1 : ¬ (n : Int) > 100 := by omega
    have HI := Lib.hid h
    have CW := fun w => wakes12_any w
    clear h
    go_enter Try.func7, Try.ntmps7
    go_wp2
    go_loopw [3, 4] (fun va vi wr => ∃ j : Nat, vi = .int .i64 j ∧ j ≤ n ∧ Hid (OwnFl wr w.heap.size va (j * 4)) ∧ Hid (Grew w wr)) (fun _ vi _ => n - (intOf vi).toNat)
    case atStart => exact ⟨0, rfl, by omega, ⟨[], OwnE.nil _ _ _ _, Nat.zero_le _, FlatL.nil⟩, grew_refl _⟩
    case round =>
      obtain ⟨j, rfl, hj, HO, HG⟩ := hrel
      by_cases hlt : j < n
      · obtain ⟨b, o, rfl, hb, hc⟩ := HI.out.tr hlt
        obtain ⟨c0, c1, c2, c3, c4, c5, c6⟩ := (hc j hlt).keep HG.out hb
        have HCP : Hid (∀ w', Grew w w' → CTr w' b (o + j * 7) (l.getD j tr0)) := fun w' g => (hc j hlt).keep g hb
        clear hc hb
        have CL := fun w => legs12_any (l.getD j tr0) w
        have CU := fun w => undo12_any (l.getD j tr0) w
        have i0 : (0 : Int) ≤ (j : Int) := by omega
        have i1 : (j : Int) < (n : Int) := by omega
        generalize l.getD j tr0 = t at *
        have HLN := Lib.hid (legs_len t)
        obtain ⟨pl, ho, hlen, hfl⟩ := HO.out
        have HO1 := Lib.hid ho
        have HLE := Lib.hid hlen
        have HFL := Lib.hid hfl
        clear ho hlen hfl HO
        have hpar : j % 2 = 0 ∨ j % 2 = 1 := by omega
        obtain ⟨⟨q1, q2, q3, q4, q5, q6⟩, q7⟩ := t
        dsimp only at c0 c1 c2 c3 c4 c5 c6
        dsimp only [vTr] at CL CU
        rcases hpar with hp | hp
        · have hp2 : (j : Int).tmod 2 = 0 := by rw [Int.tmod_eq_emod_of_nonneg (by omega)]; omega
          go_wp2_with (first
            | (go_at_call 13; ((with_reducible refine (CL _).mono ?_); rintro e w1 ⟨A1, d1, rfl, ho, hg⟩; have HR1 := Lib.hid (own_form ho); have HO2 := Lib.hid (HO1.out.keep hg); have HG1 : Hid (Grew w w1) := grew_trans HG.out hg; clear ho hg CL))
            | (at_builtin; refine (wpList_append_E (E := enPo) rfl _ _ 34 48 (vPo po0) 32 rfl Try.underlying34 info_po rfl w.heap.size _ pl rfl HO2.out A1 _ d1 (legsT ((q1, q2, q3, q4, q5, q6), q7) false) rfl HR1.out.2.1 HR1.out.1 (by have := HLN.out false; have := HLE.out; unfold maxLen; omega) (by have := HLN.out false; have := HLE.out; omega) HG1.out.size ?_); intro v2 w2 ho hb; have HO3 := Lib.hid ho; have HG2 : Hid (Grew w w2) := HG1.out.trans hb; have HF3 := Lib.hid (HFL.out.legs ((q1, q2, q3, q4, q5, q6), q7) false); have HLE3 : Hid ((pl ++ legsT ((q1, q2, q3, q4, q5, q6), q7) false).length ≤ j * 4 + 2) := (by show _ ≤ _; rw [List.length_append]; have := HLN.out false; have := HLE.out; omega); obtain ⟨c0, c1, c2, c3, c4, c5, c6⟩ := HCP.out _ HG2.out; dsimp only at c0 c1 c2 c3 c4 c5 c6; clear ho hb)
            | (go_at_call 14; ((with_reducible refine (CU _).mono ?_); rintro e w3 ⟨A3, d3, rfl, ho, hg⟩; have HR3 := Lib.hid (own_form ho); have HO4 := Lib.hid (HO3.out.keep hg); have HG3 : Hid (Grew w w3) := grew_trans HG2.out hg; clear ho hg CU))
            | (at_builtin; refine (wpList_append_E (E := enPo) rfl _ _ 34 48 (vPo po0) 32 rfl Try.underlying34 info_po rfl w.heap.size _ (pl ++ legsT ((q1, q2, q3, q4, q5, q6), q7) false) rfl HO4.out A3 _ d3 (legsT ((q1, q2, q3, q4, q5, q6), q7) true) rfl HR3.out.2.1 HR3.out.1 (by have := HLN.out true; have := HLE3.out; unfold maxLen; omega) (by have := HLN.out true; have := HLE3.out; omega) HG3.out.size ?_); intro v4 w4 ho hb; have HO5 := Lib.hid ho; have HG4 : Hid (Grew w w4) := HG3.out.trans hb; have HF5 := Lib.hid (HF3.out.legs ((q1, q2, q3, q4, q5, q6), q7) true); clear ho hb))
          go_roundw
          case rel => exact ⟨j + 1, by go_num, by omega, ⟨_, HO5.out, (by rw [List.length_append]; have := HLN.out true; have := HLE3.out; omega), HF5.out⟩, HG4.out⟩
          case measure => simp only [intOf]; omega
        · have hp2 : (j : Int).tmod 2 = 1 := by rw [Int.tmod_eq_emod_of_nonneg (by omega)]; omega
          go_wp2_with (first
            | (go_at_call 13; ((with_reducible refine (CL _).mono ?_); rintro e w1 ⟨A1, d1, rfl, ho, hg⟩; have HR1 := Lib.hid (own_form ho); have HO2 := Lib.hid (HO1.out.keep hg); have HG1 : Hid (Grew w w1) := grew_trans HG.out hg; clear ho hg CL))
            | (at_builtin; refine (wpList_append_E (E := enPo) rfl _ _ 34 48 (vPo po0) 32 rfl Try.underlying34 info_po rfl w.heap.size _ pl rfl HO2.out A1 _ d1 (legsT ((q1, q2, q3, q4, q5, q6), q7) false) rfl HR1.out.2.1 HR1.out.1 (by have := HLN.out false; have := HLE.out; unfold maxLen; omega) (by have := HLN.out false; have := HLE.out; omega) HG1.out.size ?_); intro v2 w2 ho hb; have HO3 := Lib.hid ho; have HG2 : Hid (Grew w w2) := HG1.out.trans hb; have HF3 := Lib.hid (HFL.out.legs ((q1, q2, q3, q4, q5, q6), q7) false); have HLE3 : Hid ((pl ++ legsT ((q1, q2, q3, q4, q5, q6), q7) false).length ≤ j * 4 + 2) := (by show _ ≤ _; rw [List.length_append]; have := HLN.out false; have := HLE.out; omega); obtain ⟨c0, c1, c2, c3, c4, c5, c6⟩ := HCP.out _ HG2.out; dsimp only at c0 c1 c2 c3 c4 c5 c6; clear ho hb))
          go_roundw
          case rel => exact ⟨j + 1, by go_num, by omega, ⟨_, HO3.out, (by have := HLE3.out; omega), HF3.out⟩, HG2.out⟩
          case measure => simp only [intOf]; omega
      · obtain rfl : j = n := by omega
        obtain ⟨pl, ho, hlen, hfl⟩ := HO.out
        obtain ⟨A3, c3, rfl, hr3, -, -, -⟩ := ho.form
        have CS := psumP_any A3 pl.length c3 pl wr hr3 (by omega)
        unfold SumPost at CS
        obtain ⟨z1, z2, z3⟩ := hfl.sum
        rw [z1, z2, z3] at CS
        clear hr3 ho hfl HO z1 z2 z3
        go_wp2_with (first
          | (go_at_call 19; ((with_reducible refine CS.mono ?_); rintro e w1 ⟨rfl, hg⟩; have HG1 := Lib.hid (grew_trans HG.out hg); clear hg CS))
          | (go_at_call 18; ((with_reducible refine (CW _).mono ?_); rintro e w3 ⟨rfl, hg⟩; have HG3 := Lib.hid (grew_trans HG1.out hg); clear hg)))
        go_ret
        exact ⟨rfl, HG3.out⟩
end Go.Proofs.Ytgblhliinjgofaa.NumK
namespace Go.Proofs.Ytgblhliinjgofaa.tradeMany
open Go.ChangeShapes Go.WideShapes Go.ChangeAt Go.RowKit
set_option linter.unusedVariables false

theorem own : ownKnob Try.prog.godebug = none := by kernel_rfl
theorem laidOut : laidOutB Try.prog = true := by kernel_rfl

set_option maxRecDepth 100000 in
theorem lifted (os : Os) (started : os.Started) (H : Type) (enc : TypeId × Value → H) :
    ReturnsInHanded {} Try.checked os 7 .any (Rows.tradeManySpec.pre6 enc Try.prog Try.f7 Rows.tradeManyRow.domain false) (Rows.tradeManySpec.post enc Try.prog Try.f7 false true false false) := by
  refine returnsInHanded_of_change (C := Try.checked) own started (by kernel_rfl) Try.func7
    (ChangeSpec.witness6 (enc := enc) (C := Try.checked) false ⟨#[], #[.slice none 0 0], []⟩ 8 (by kernel_rfl) (by kernel_rfl) (by kernel_rfl) (by kernel_rfl)) ?_
  intro W base args ds gs before hval0 hW hcnd _
  have hval : ∀ (j : Nat) t v, Try.f7.params[j]? = some t → args[j]? = some v → Value.okWide Try.prog W .any base t v := hval0
  have hW' := hW
  obtain ⟨p, q, hA0, hV, rfl, hfz, hnd⟩ := hW
  have hA : DataW.TrodAll enc Try.prog W 0 (fun _ => true) true Try.f7.params.toList args.toList ds p := hA0
  skip
  rw [Try.params7] at hA hval
  obtain ⟨v0, vs0, d0, ds0, p0, q0, hargs, rfl, rfl, h0, r0⟩ := trodAll_cons hA
  obtain ⟨rfl, rfl, rfl⟩ := trodAll_nil r0
  obtain rfl : args = #[v0] := by cases args; simp_all
  obtain ⟨rfl, rfl⟩ := trodVars_none hV
  have k0 := h0
  have lt0 : ∀ x ∈ p0, x.block < W.heap.size := by obtain ⟨m, hm⟩ := k0; exact DataW.trod_lt m _ _ _ hm
  obtain ⟨A0, len0, cap0, l0, rfl, ro0, n0, c0, m0⟩ := NumK.arg_slice Try.underlying59 NumK.opens_trades (hval 0 59 v0 rfl rfl) h0
  clear hA0 hval0
  refine (NumK.tradeMany_walk A0 len0 cap0 l0 W (NumK.trs_of ro0) (by omega)).mono fun e W' ⟨he, bel⟩ => ?_
  subst he
  exact ⟨_, rfl, _, _, _, [], _, [], hW', trodAll_mk1 (shut_bool Try.underlying4 _), (trodAll_cons_mk (Below.trod laidOut (by kernel_rfl) (of_decide_eq_true (by kernel_rfl)) k0 bel lt0) trodAll_mk0), rfl, bel.frame _, fun h => by cases h⟩

theorem over : Rows.tradeManyRow.holds Try.pinned (OpenSpec.ofChange Rows.tradeManySpec) :=
  OpenClaim.holds_of_wide 7 Try.f7 rfl rfl rfl rfl rfl rfl rfl ⟨rfl, rfl, rfl, rfl, rfl⟩ rfl rfl rfl rfl rfl (by kernel_rfl) Try.func7 (by kernel_rfl)
    (of_decide_eq_true (by kernel_rfl)) (by unfold Func.isWrapper; first | (rw [if_pos (by decide +kernel)]; kernel_rfl) | (rw [if_neg (by decide +kernel)]; exact ⟨rfl, rfl⟩))
    (fun os started H enc _ => lifted os started H enc)

/-! ### the statement -/
theorem proved : Rows.TradeManySaid := over
end Go.Proofs.Ytgblhliinjgofaa.tradeMany
