/-
  For every trade: its legs are two or none, add up to nothing, and with what takes them back each member has nothing.
-/
import Derived.Test.YtgblhliinjgofaaRS
import Derived.Test.YtgblhliinjgofaaRQ
import Derived.Test.YtgblhliinjgofaaRU
import Derived.Test.YtgblhliinjgofaaRA
import Derived.Deep.RegionHeld3
import Derived.Deep.CutBlock
import Derived.BigQuiet
import Derived.Test.YtgblhliinjgofaaRows
import Derived.WalkKit
import Derived.ProofKit
import Derived.OpenShut
import Derived.ShutString
import Derived.ChangeOld
import Derived.Below
import Derived.Carry
namespace Go.Proofs.Ytgblhliinjgofaa.NumK
open Go.RowKit
set_option linter.unusedVariables false

theorem flat_len (t : Tr) : ((legsT t false).length = 0 ∧ (legsT t true).length = 0 ∧ sizedT t = false) ∨ ((legsT t false).length = 2 ∧ (legsT t true).length = 2 ∧ sizedT t = true) := by
  cases h : sizedT t with
  | false => exact Or.inl ⟨by rw [legs_no h]; rfl, by rw [legs_no h]; rfl, rfl⟩
  | true => exact Or.inr ⟨by rw [legs_yes h]; rfl, by rw [legs_yes h]; rfl, rfl⟩
theorem flat_at (t : Tr) (h : sizedT t = true) (j : Nat) (hj : j < 2) : ∃ x1 x3 x4, (legsT t false).getD j po0 = (x1, t.1.2.2.2.1, x3, x4) ∧ (legsT t true).getD j po0 = (x1, t.1.2.2.2.1, -x3, -x4) := by
  rw [legs_yes h, legs_yes h]
  match j, hj with
  | 0, _ => exact ⟨_, _, _, rfl, by simp [twoL, Int.neg_mul]⟩
  | 1, _ => exact ⟨_, _, _, rfl, by simp [twoL, Int.neg_mul]⟩

set_option maxRecDepth 100000 in
set_option maxHeartbeats 8000000 in
theorem tradeFlat_walk (t : Tr) (w : World) :
    Calls Try.prog 5 #[vTr t] w fun e w' => e = .returned (.bool true) ∧ Grew w w' := by
  have CW := fun w => wakes12_any w
  have CL := fun w => legs12_any t w
  have CU := fun w => undo12_any t w
  have HFS := Lib.hid (FlatL.nil.legs t false)
  rw [List.nil_append] at HFS
  have HLN := Lib.hid (flat_len t)
  have HAT := Lib.hid (flat_at t)
  have HSI := Lib.hid (sizedT_iff t)
  obtain ⟨⟨q1, q2, q3, q4, q5, q6⟩, q7⟩ := t
  dsimp only [vTr] at CL CU ⊢
  dsimp only at HAT HSI
  unfold LegsPost at CL CU
  generalize legsT ((q1, q2, q3, q4, q5, q6), q7) false = lf at *
  generalize legsT ((q1, q2, q3, q4, q5, q6), q7) true = lu at *
  generalize sizedT ((q1, q2, q3, q4, q5, q6), q7) = SZ at *
  go_enter Try.func5, Try.ntmps5
  go_upto_region 1 with fail
  have HG0 : Hid (Grew w (w.alloc (.cells #[.int .i64 q1, .int .i64 q2, .int .i64 q3, .int .i64 q4, .int .i64 q5, .int .i64 q6, .bool q7] 28))) := grew_alloc _ _ _
  have HX0 : Hid (OwnC (w.alloc (.cells #[.int .i64 q1, .int .i64 q2, .int .i64 q3, .int .i64 q4, .int .i64 q5, .int .i64 q6, .bool q7] 28)) w.heap.size [.int .i64 q1, .int .i64 q2, .int .i64 q3, .int .i64 q4, .int .i64 q5, .int .i64 q6, .bool q7]) := OwnC.new w [.int .i64 q1, .int .i64 q2, .int .i64 q3, .int .i64 q4, .int .i64 q5, .int .i64 q6, .bool q7] _ _ rfl
  generalize w.alloc (.cells #[.int .i64 q1, .int .i64 q2, .int .i64 q3, .int .i64 q4, .int .i64 q5, .int .i64 q6, .bool q7] 28) = w0 at *
  have HK : Hid (∀ w', Grew w0 w' → (w'.cell? ⟨w.heap.size, 0, none⟩ = some (.int .i64 q1) ∧ w'.cell? ⟨w.heap.size, 1, none⟩ = some (.int .i64 q2) ∧ w'.cell? ⟨w.heap.size, 2, none⟩ = some (.int .i64 q3) ∧ w'.cell? ⟨w.heap.size, 3, none⟩ = some (.int .i64 q4) ∧ w'.cell? ⟨w.heap.size, 4, none⟩ = some (.int .i64 q5) ∧ w'.cell? ⟨w.heap.size, 5, none⟩ = some (.int .i64 q6) ∧ w'.cell? ⟨w.heap.size, 6, none⟩ = some (.bool q7))) := fun w' g => ⟨(HX0.out.keep g).at 0 _ rfl, (HX0.out.keep g).at 1 _ rfl, (HX0.out.keep g).at 2 _ rfl, (HX0.out.keep g).at 3 _ rfl, (HX0.out.keep g).at 4 _ rfl, (HX0.out.keep g).at 5 _ rfl, (HX0.out.keep g).at 6 _ rfl⟩
  go_region_held3 (fun w' => w'.cell? ⟨w.heap.size, 0, none⟩ = some (.int .i64 q1) ∧ w'.cell? ⟨w.heap.size, 1, none⟩ = some (.int .i64 q2) ∧ w'.cell? ⟨w.heap.size, 2, none⟩ = some (.int .i64 q3) ∧ w'.cell? ⟨w.heap.size, 3, none⟩ = some (.int .i64 q4) ∧ w'.cell? ⟨w.heap.size, 4, none⟩ = some (.int .i64 q5) ∧ w'.cell? ⟨w.heap.size, 5, none⟩ = some (.int .i64 q6) ∧ w'.cell? ⟨w.heap.size, 6, none⟩ = some (.bool q7))
    (first
      | (with_reducible exact HK.out _ (grew_drew (grew_refl _)))
      | (with_reducible exact HK.out _ HG2.out)
      | (with_reducible exact HK.out _ HG1.out))
    (first
      | (go_at_call 13; ((with_reducible refine (CL _).mono ?_); rintro e w1 ⟨A1, d1, rfl, ho, hg⟩; have HG1 : Hid (Grew w0 w1) := grew_trans (grew_drew (grew_refl _)) hg; have HR1 := Lib.hid (own_form ho); clear ho hg CL))
      | (go_at_call 14; ((with_reducible refine (CU _).mono ?_); rintro e w2 ⟨A2, d2, rfl, ho, hg⟩; have HG2 : Hid (Grew w0 w2) := grew_trans HG1.out hg; have HR2 := Lib.hid (own_form ho); have HR1b := Lib.hid (HR1.out.1.keep hg); clear ho hg CU)))

  have HGA : Hid (Grew w w2) := grew_trans HG0.out HG2.out
  have HX2 := Lib.hid (HX0.out.keep HG2.out)
  obtain ⟨z1, z2, z3⟩ := HFS.out.sum
  have CS := fun w' (g : Grew w2 w') => psumP_any A1 lf.length d1 lf w' (HR1b.out.keep g) (by rcases HLN.out with h | h <;> omega)
  unfold SumPost at CS
  rw [z1, z2, z3] at CS
  have HA1 := Lib.hid HR1b.out
  have HA2 := Lib.hid HR2.out.1
  clear HK HG0 HG1 HG2 HX0 HR1 HR2 HR1b HFS z1 z2 z3
  rcases HLN.out with ⟨e1, e2, hs⟩ | ⟨e1, e2, hs⟩
  · subst hs
    rw [e1] at CS ⊢
    rw [e2]
    have HNO : Hid (¬ ((1 ≤ q5 ∧ q5 ≤ 1048576) ∧ 1 ≤ q6 ∧ q6 ≤ 1073741824)) := fun h => by have := HSI.out.2 h; cases this
    clear HLN HSI HAT HA1 HA2 e1 e2
    go_upto_region 5 with (go_at_call 19; ((with_reducible refine (CS _ (grew_refl _)).mono ?_); rintro e w3 ⟨rfl, hg⟩; have HG3 := Lib.hid (grew_trans HGA.out hg); have HX3 := Lib.hid (HX2.out.keep hg); clear hg CS))
    go_wp2
    go_loopw [8] (fun vi wr => vi = .int .i64 0 ∧ Hid (Grew w3 wr)) (fun vi _ => 1)
    case atStart => exact ⟨rfl, grew_refl _⟩
    case round =>
      obtain ⟨rfl, HGR⟩ := hrel
      have HGL := Lib.hid (grew_trans HG3.out HGR.out)
      have HXL := Lib.hid (HX3.out.keep HGR.out)
      have t4 : wr.cell? ⟨w.heap.size, 4, none⟩ = some (.int .i64 q5) := HXL.out.at 4 _ rfl
      have t5 : wr.cell? ⟨w.heap.size, 5, none⟩ = some (.int .i64 q6) := HXL.out.at 5 _ rfl
      by_cases b1 : 1 ≤ q5
      · by_cases b2 : q5 ≤ 1048576
        · by_cases b3 : 1 ≤ q6
          · have b4 : ¬ q6 ≤ 1073741824 := fun h => HNO.out ⟨⟨b1, b2⟩, b3, h⟩
            go_wp2_with (go_at_call 18; ((with_reducible refine (CW _).mono ?_); rintro e w9 ⟨rfl, hg⟩; have HG9 := Lib.hid (grew_trans HGL.out hg); clear hg))
            go_ret
            exact ⟨rfl, HG9.out⟩
          ·
            go_wp2_with (go_at_call 18; ((with_reducible refine (CW _).mono ?_); rintro e w9 ⟨rfl, hg⟩; have HG9 := Lib.hid (grew_trans HGL.out hg); clear hg))
            go_ret
            exact ⟨rfl, HG9.out⟩
        ·
          go_wp2_with (go_at_call 18; ((with_reducible refine (CW _).mono ?_); rintro e w9 ⟨rfl, hg⟩; have HG9 := Lib.hid (grew_trans HGL.out hg); clear hg))
          go_ret
          exact ⟨rfl, HG9.out⟩
      ·
        go_wp2_with (go_at_call 18; ((with_reducible refine (CW _).mono ?_); rintro e w9 ⟨rfl, hg⟩; have HG9 := Lib.hid (grew_trans HGL.out hg); clear hg))
        go_ret
        exact ⟨rfl, HG9.out⟩
  · subst hs
    rw [e1] at CS HA1 ⊢
    rw [e2] at HA2 ⊢
    obtain ⟨⟨b1, b2⟩, b3, b4⟩ := HSI.out.1 rfl
    have HAT2 : Hid (∀ j, j < 2 → ∃ x1 x3 x4, lf.getD j po0 = (x1, q4, x3, x4) ∧ lu.getD j po0 = (x1, q4, -x3, -x4)) := fun j hj => HAT.out rfl j hj
    clear HLN HSI HAT e1 e2
    go_upto_region 5 with (go_at_call 19; ((with_reducible refine (CS _ (grew_refl _)).mono ?_); rintro e w3 ⟨rfl, hg⟩; have HG3 := Lib.hid (grew_trans HGA.out hg); have HX3 := Lib.hid (HX2.out.keep hg); have HA1 := Lib.hid (HA1.out.keep hg); have HA2 := Lib.hid (HA2.out.keep hg); clear hg CS))
    go_wp2
    go_loopw [8] (fun vi wr => ∃ j : Nat, vi = .int .i64 j ∧ j ≤ 2 ∧ Hid (Grew w3 wr)) (fun vi _ => 2 - (intOf vi).toNat)
    case atStart => exact ⟨0, rfl, by omega, grew_refl _⟩
    case round =>
      obtain ⟨j, rfl, hj, HGR⟩ := hrel
      have HGL := Lib.hid (grew_trans HG3.out HGR.out)
      have HXL := Lib.hid (HX3.out.keep HGR.out)
      by_cases hlt : j < 2
      · obtain ⟨g1, o1, rfl, hb1, hc1⟩ := (HA1.out.keep HGR.out).po hlt
        obtain ⟨g2, o2, rfl, hb2, hc2⟩ := (HA2.out.keep HGR.out).po hlt
        obtain ⟨u0, u1, u2, u3⟩ := hc1 j hlt
        obtain ⟨v0, v1, v2, v3⟩ := hc2 j hlt
        obtain ⟨x1, x3, x4, f1, f2⟩ := HAT2.out j hlt
        rw [f1] at u0 u1 u2 u3
        rw [f2] at v0 v1 v2 v3
        dsimp only at u0 u1 u2 u3 v0 v1 v2 v3
        have t3 : wr.cell? ⟨w.heap.size, 3, none⟩ = some (.int .i64 q4) := HXL.out.at 3 _ rfl
        have i0 : (0 : Int) ≤ (j : Int) := by omega
        have i1 : (j : Int) < 2 := by omega
        have k0 : (x1 != x1) = false := by simp
        have k1 : (q4 != q4) = false := by simp
        have k3 : IntKind.i64.wrap (x3 + -x3) = 0 := by rw [Int.add_right_neg]; rfl
        have k4 : IntKind.i64.wrap (x4 + -x4) = 0 := by rw [Int.add_right_neg]; rfl
        clear hc1 hc2 hb1 hb2 f1 f2 HAT2 HA1 HA2 HX3 HX2
        go_upto_region 8 with fail
        go_quiet (fail)
        go_wp2
        go_roundw
        case rel => exact ⟨j + 1, by go_num, by omega, grew_drewN HGR.out _⟩
        case measure => simp only [intOf]; omega
      · obtain rfl : j = 2 := by omega
        have t4 : wr.cell? ⟨w.heap.size, 4, none⟩ = some (.int .i64 q5) := HXL.out.at 4 _ rfl
        have t5 : wr.cell? ⟨w.heap.size, 5, none⟩ = some (.int .i64 q6) := HXL.out.at 5 _ rfl
        go_wp2_with (go_at_call 18; ((with_reducible refine (CW _).mono ?_); rintro e w9 ⟨rfl, hg⟩; have HG9 := Lib.hid (grew_trans HGL.out hg); clear hg))
        go_ret
        exact ⟨rfl, HG9.out⟩
end Go.Proofs.Ytgblhliinjgofaa.NumK
namespace Go.Proofs.Ytgblhliinjgofaa.NumK
open Go.RowKit
set_option linter.unusedVariables false

theorem tradeFlat_row (w : World) {cs0 : Array Value} {t : Tr} (h0 : spTr.rd w cs0.toList t) :
    Calls Try.prog 5 #[.agg cs0] w fun e w' => e = .returned (.bool true) ∧ Grew w w' := by
  rw [tr_of h0]
  exact tradeFlat_walk t w
end Go.Proofs.Ytgblhliinjgofaa.NumK
namespace Go.Proofs.Ytgblhliinjgofaa.tradeFlat
open Go.ChangeShapes Go.WideShapes Go.ChangeAt Go.RowKit
set_option linter.unusedVariables false

theorem own : ownKnob Try.prog.godebug = none := by kernel_rfl
theorem laidOut : laidOutB Try.prog = true := by kernel_rfl

set_option maxRecDepth 100000 in
theorem lifted (os : Os) (started : os.Started) (H : Type) (enc : TypeId × Value → H) :
    ReturnsInHanded {} Try.checked os 5 .any (Rows.tradeFlatSpec.pre6 enc Try.prog Try.f5 Rows.tradeFlatRow.domain false) (Rows.tradeFlatSpec.post enc Try.prog Try.f5 false true false false) := by
  refine returnsInHanded_of_change (C := Try.checked) own started (by kernel_rfl) Try.func5
    (ChangeSpec.witness6 (enc := enc) (C := Try.checked) false ⟨#[], #[.agg #[.int .i64 0, .int .i64 0, .int .i64 0, .int .i64 0, .int .i64 0, .int .i64 0, .bool false]], []⟩ 8 (by kernel_rfl) (by kernel_rfl) (by kernel_rfl) (by kernel_rfl)) ?_
  intro W base args ds gs before hval0 hW hcnd _
  have hval : ∀ (j : Nat) t v, Try.f5.params[j]? = some t → args[j]? = some v → Value.okWide Try.prog W .any base t v := hval0
  have hW' := hW
  obtain ⟨p, q, hA0, hV, rfl, hfz, hnd⟩ := hW
  have hA : DataW.TrodAll enc Try.prog W 0 (fun _ => true) true Try.f5.params.toList args.toList ds p := hA0
  skip
  rw [Try.params5] at hA hval
  obtain ⟨v0, vs0, d0, ds0, p0, q0, hargs, rfl, rfl, h0, r0⟩ := trodAll_cons hA
  obtain ⟨rfl, rfl, rfl⟩ := trodAll_nil r0
  obtain rfl : args = #[v0] := by cases args; simp_all
  obtain ⟨rfl, rfl⟩ := trodVars_none hV
  have k0 := h0
  have lt0 : ∀ x ∈ p0, x.block < W.heap.size := by obtain ⟨m, hm⟩ := k0; exact DataW.trod_lt m _ _ _ hm
  obtain ⟨cs0, x0, rfl, e0⟩ := NumK.arg_struct Try.underlying28 NumK.opens_trade (hval 0 28 v0 rfl rfl) h0
  clear hA0 hval0
  refine (NumK.tradeFlat_row W e0).mono fun e W' ⟨he, bel⟩ => ?_
  subst he
  exact ⟨_, rfl, _, _, _, [], _, [], hW', trodAll_mk1 (shut_bool Try.underlying4 _), (trodAll_cons_mk (Below.trod laidOut (by kernel_rfl) (of_decide_eq_true (by kernel_rfl)) k0 bel lt0) trodAll_mk0), rfl, bel.frame _, fun h => by cases h⟩

theorem over : Rows.tradeFlatRow.holds Try.pinned (OpenSpec.ofChange Rows.tradeFlatSpec) :=
  OpenClaim.holds_of_wide 5 Try.f5 rfl rfl rfl rfl rfl rfl rfl ⟨rfl, rfl, rfl, rfl, rfl⟩ rfl rfl rfl rfl rfl (by kernel_rfl) Try.func5 (by kernel_rfl)
    (of_decide_eq_true (by kernel_rfl)) (by unfold Func.isWrapper; first | (rw [if_pos (by decide +kernel)]; kernel_rfl) | (rw [if_neg (by decide +kernel)]; exact ⟨rfl, rfl⟩))
    (fun os started H enc _ => lifted os started H enc)

/-! ### the statement -/
theorem proved : Rows.TradeFlatSaid := over
end Go.Proofs.Ytgblhliinjgofaa.tradeFlat
