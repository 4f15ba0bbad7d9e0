/-
  For every instrument, key, multiplier and price: the price that was told counts ahead of the last one, there is none just where both are none, and who has nothing wins nothing.
-/
import Derived.Test.YtlbfljkhlkjcbaaRG17
import Derived.Test.YtlbfljkhlkjcbaaRows
import Derived.WalkKit
import Derived.ProofKit
import Derived.OpenShut
import Derived.ShutString
import Derived.ChangeOld
import Derived.Below
import Derived.Carry
namespace Go.Proofs.Ytlbfljkhlkjcbaa.NumK
open Go.RowKit
set_option linter.unusedVariables false

theorem none_worth (k1 k2 m k : Int) : worthN (k1, k2, 0, 0) m k = 0 ∧ worthE (k1, k2, 0, 0) m k = if 1 ≤ m ∧ m ≤ 1024 ∧ 0 ≤ k ∧ k ≤ 1073741824 then 0 else 3 := by
  have hv : worthV (k1, k2, 0, 0) m k = 0 := by simp [worthV]
  have hm : mayW (k1, k2, 0, 0) m k = decide (1 ≤ m ∧ m ≤ 1024 ∧ 0 ≤ k ∧ k ≤ 1073741824) := by
    simp only [mayW]
    have e1 : okQ 0 = true := by decide
    have e2 : isMoney 0 = true := by decide
    rw [e1, e2]
    simp [wi, Bool.decide_and, Bool.and_assoc]
  have h0 : isMoney 0 = true := by decide
  by_cases h : 1 ≤ m ∧ m ≤ 1024 ∧ 0 ≤ k ∧ k ≤ 1073741824
  · have e : worthE (k1, k2, 0, 0) m k = 0 := by unfold worthE; rw [hm, hv, h0]; simp [h]
    refine ⟨?_, by rw [e, if_pos h]⟩
    unfold worthN; rw [e, hv]; rfl
  · have e : worthE (k1, k2, 0, 0) m k = 3 := by unfold worthE; rw [hm]; simp [h]
    refine ⟨?_, by rw [e, if_neg h]⟩
    unfold worthN; rw [e]; rfl

set_option maxRecDepth 100000 in
set_option maxHeartbeats 4000000 in
theorem markPrices_walk (i : In) (k1 k2 m k : Int) (w : World) : Calls Try.prog 7 #[vIn i, vKy (k1, k2), .int .i64 m, .int .i64 k] w fun e w' => e = .returned (.bool true) ∧ Grew w w' := by
  have CP := fun w => price_any i w
  have CW := fun w => worth_any (k1, k2, 0, 0) m k w
  have CV := fun w => wakes14_any w
  obtain ⟨h1, h2⟩ := none_worth k1 k2 m k
  rw [h1, h2] at CW
  clear h1 h2
  have HN : Hid (priceI i = if i.1.2.2.2.2.1 = 0 then i.1.2.2.2.2.2 else i.1.2.2.2.2.1) := rfl
  have HE : Hid (priceE i = if i.1.2.2.2.2.1 = 0 ∧ i.1.2.2.2.2.2 = 0 then 20 else 0) := rfl
  generalize priceI i = N at *
  generalize priceE i = E at *
  obtain ⟨⟨q1, q2, q3, q4, q5, q6⟩, ⟨q7, q8, q9, q10, q11, q12⟩⟩ := i
  dsimp only [vIn, vPo, vKy] at HN HE CP CW ⊢
  have HX0 : Hid (OwnC ((w.alloc (.cells #[.int .i64 q1, .int .i64 q2, .int .i64 q3, .int .i64 q4, .int .i64 q5, .int .i64 q6, .int .i64 q7, .int .i64 q8, .int .i64 q9, .int .i64 q10, .int .i64 q11, .int .i64 q12] 37)).alloc (.cells #[.int .i64 k1, .int .i64 k2] 32)) w.heap.size [.int .i64 q1, .int .i64 q2, .int .i64 q3, .int .i64 q4, .int .i64 q5, .int .i64 q6, .int .i64 q7, .int .i64 q8, .int .i64 q9, .int .i64 q10, .int .i64 q11, .int .i64 q12]) := (OwnC.new w _ _ _ rfl).keep (grew_alloc _ _ _)
  have HY0 : Hid (OwnC ((w.alloc (.cells #[.int .i64 q1, .int .i64 q2, .int .i64 q3, .int .i64 q4, .int .i64 q5, .int .i64 q6, .int .i64 q7, .int .i64 q8, .int .i64 q9, .int .i64 q10, .int .i64 q11, .int .i64 q12] 37)).alloc (.cells #[.int .i64 k1, .int .i64 k2] 32)) (w.heap.size + 1) [.int .i64 k1, .int .i64 k2]) := OwnC.new _ [.int .i64 k1, .int .i64 k2] _ _ (by simp)
  have HG0 : Hid (Grew w ((w.alloc (.cells #[.int .i64 q1, .int .i64 q2, .int .i64 q3, .int .i64 q4, .int .i64 q5, .int .i64 q6, .int .i64 q7, .int .i64 q8, .int .i64 q9, .int .i64 q10, .int .i64 q11, .int .i64 q12] 37)).alloc (.cells #[.int .i64 k1, .int .i64 k2] 32))) := grew_trans (grew_alloc _ _ _) (grew_alloc _ _ _)
  have HP : ((q5 != 0) = true ∧ (q5 == 0) = false) ∧ E = 0 ∧ N = q5 ∨ q5 = 0 ∧ ((q6 != 0) = true ∧ (q6 == 0) = false) ∧ E = 0 ∧ N = q6 ∨ q5 = 0 ∧ q6 = 0 ∧ E = 20 ∧ N = 0 := by
    have hn := HN.out; have he := HE.out
    by_cases h1 : q5 = 0
    · by_cases h2 : q6 = 0
      · right; right; rw [if_pos ⟨h1, h2⟩] at he; rw [if_pos h1] at hn; exact ⟨h1, h2, he, hn.trans h2⟩
      · right; left; rw [if_neg (fun h => h2 h.2)] at he; rw [if_pos h1] at hn; exact ⟨h1, ⟨bne_iff_ne.2 h2, beq_false_of_ne h2⟩, he, hn⟩
    · left; rw [if_neg (fun h => h1 h.1)] at he; rw [if_neg h1] at hn; exact ⟨⟨bne_iff_ne.2 h1, beq_false_of_ne h1⟩, he, hn⟩
  have HM : Hid (∀ h : (1 ≤ m ∧ m ≤ 1024 ∧ 0 ≤ k ∧ k ≤ 1073741824), (if 1 ≤ m ∧ m ≤ 1024 ∧ 0 ≤ k ∧ k ≤ 1073741824 then (0 : Int) else 3) = 0) := fun h => if_pos h
  have HM2 : Hid (∀ h : ¬ (1 ≤ m ∧ m ≤ 1024 ∧ 0 ≤ k ∧ k ≤ 1073741824), (if 1 ≤ m ∧ m ≤ 1024 ∧ 0 ≤ k ∧ k ≤ 1073741824 then (0 : Int) else 3) = 3) := fun h => if_neg h
  generalize (if 1 ≤ m ∧ m ≤ 1024 ∧ 0 ≤ k ∧ k ≤ 1073741824 then (0 : Int) else 3) = W at *
  have HC : ¬ 1 ≤ m ∧ W = 3 ∨ 1 ≤ m ∧ ¬ m ≤ 1024 ∧ W = 3 ∨ 1 ≤ m ∧ m ≤ 1024 ∧ ¬ 0 ≤ k ∧ W = 3 ∨ 1 ≤ m ∧ m ≤ 1024 ∧ 0 ≤ k ∧ ¬ k ≤ 1073741824 ∧ W = 3 ∨ 1 ≤ m ∧ m ≤ 1024 ∧ 0 ≤ k ∧ k ≤ 1073741824 ∧ W = 0 := by
    have hm := HM.out; have hm2 := HM2.out
    by_cases h1 : 1 ≤ m
    · by_cases h2 : m ≤ 1024
      · by_cases h3 : 0 ≤ k
        · by_cases h4 : k ≤ 1073741824
          · exact .inr (.inr (.inr (.inr ⟨h1, h2, h3, h4, hm ⟨h1, h2, h3, h4⟩⟩)))
          · exact .inr (.inr (.inr (.inl ⟨h1, h2, h3, h4, hm2 fun h => h4 h.2.2.2⟩)))
        · exact .inr (.inr (.inl ⟨h1, h2, h3, hm2 fun h => h3 h.2.2.1⟩))
      · exact .inr (.inl ⟨h1, h2, hm2 fun h => h2 h.2.1⟩)
    · exact .inl ⟨h1, hm2 fun h => h1 h.1⟩
  clear HN HE HM HM2
  rcases HP with ⟨⟨d1, d1'⟩, rfl, rfl⟩ | ⟨rfl, ⟨d2, d2'⟩, rfl, rfl⟩ | ⟨rfl, rfl, rfl, rfl⟩
  all_goals
    (rcases HC with ⟨h1, rfl⟩ | ⟨h1, h2, rfl⟩ | ⟨h1, h2, h3, rfl⟩ | ⟨h1, h2, h3, h4, rfl⟩ | ⟨h1, h2, h3, h4, rfl⟩
     all_goals
       (go_enter Try.func7, Try.ntmps7
        go_wp2_with (first
          | (go_at_call 13; ((with_reducible refine (CP _).mono ?_); rintro e w1 ⟨rfl, hg⟩; have HG1 := Lib.hid (grew_trans HG0.out hg); have HX1 := Lib.hid (HX0.out.keep hg); have HY1 := Lib.hid (HY0.out.keep hg); have x4 := HX1.out.at 4 _ rfl; have x5 := HX1.out.at 5 _ rfl; have y0 := HY1.out.at 0 _ rfl; have y1 := HY1.out.at 1 _ rfl; clear hg HX0 HY0 HG0))
          | (go_at_call 10; ((with_reducible refine (CW _).mono ?_); rintro e w2 ⟨rfl, hg⟩; have HG2 := Lib.hid (grew_trans HG1.out hg); clear hg))
          | (go_at_call 24; ((with_reducible refine (CV _).mono ?_); rintro e w3 ⟨rfl, hg⟩; have HG3 := Lib.hid (grew_trans HG2.out hg); clear hg)))
        go_ret
        first
          | exact ⟨rfl, HG3.out⟩
          | exact ⟨by show Ending.returned (.bool (!decide (k ≤ 1073741824))) = _; rw [decide_eq_false (by omega)]; rfl, HG3.out⟩))
end Go.Proofs.Ytlbfljkhlkjcbaa.NumK
namespace Go.Proofs.Ytlbfljkhlkjcbaa.NumK
open Go.RowKit
set_option linter.unusedVariables false

theorem markPrices_row (w : World) {cs0 cs1 : Array Value} {i : In} {y : Int × Int} (m k : Int) (h0 : spIn.rd w cs0.toList i) (h1 : spKey.rd w cs1.toList y) :
    Calls Try.prog 7 #[.agg cs0, .agg cs1, .int .i64 m, .int .i64 k] w fun e w' => e = .returned (.bool true) ∧ Grew w w' := by
  rw [inst_of h0, key_of h1]
  exact markPrices_walk i y.1 y.2 m k w
end Go.Proofs.Ytlbfljkhlkjcbaa.NumK
namespace Go.Proofs.Ytlbfljkhlkjcbaa.markPrices
open Go.ChangeShapes Go.WideShapes Go.ChangeAt Go.RowKit
set_option linter.unusedVariables false

theorem own : ownKnob Try.prog.godebug = none := by kernel_rfl
theorem laidOut : laidOutB Try.prog = true := by kernel_rfl

set_option maxRecDepth 100000 in
theorem lifted (os : Os) (started : os.Started) (H : Type) (enc : TypeId × Value → H) :
    ReturnsInHanded {} Try.checked os 7 .any (Rows.markPricesSpec.pre6 enc Try.prog Try.f7 Rows.markPricesRow.domain false) (Rows.markPricesSpec.post enc Try.prog Try.f7 false true false false) := by
  refine returnsInHanded_of_change (C := Try.checked) own started (by kernel_rfl) Try.func7
    (ChangeSpec.witness6 (enc := enc) (C := Try.checked) false ⟨#[], #[.agg #[.int .i64 0, .int .i64 0, .int .i64 0, .int .i64 0, .int .i64 0, .int .i64 0, .int .i64 0, .int .i64 0, .int .i64 0, .int .i64 0, .int .i64 0, .int .i64 0], .agg #[.int .i64 0, .int .i64 0], .int .i64 0, .int .i64 0], []⟩ 8 (by kernel_rfl) (by kernel_rfl) (by kernel_rfl) (by kernel_rfl)) ?_
  intro W base args ds gs before hval0 hW hcnd _
  have hval : ∀ (j : Nat) t v, Try.f7.params[j]? = some t → args[j]? = some v → Value.okWide Try.prog W .any base t v := hval0
  have hW' := hW
  obtain ⟨p, q, hA0, hV, rfl, hfz, hnd⟩ := hW
  have hA : DataW.TrodAll enc Try.prog W 0 (fun _ => true) true Try.f7.params.toList args.toList ds p := hA0
  skip
  rw [Try.params7] at hA hval
  obtain ⟨v0, vs0, d0, ds0, p0, q0, hargs, rfl, rfl, h0, r0⟩ := trodAll_cons hA
  obtain ⟨v1, vs1, d1, ds1, p1, q1, rfl, rfl, rfl, h1, r1⟩ := trodAll_cons r0
  obtain ⟨v2, vs2, d2, ds2, p2, q2, rfl, rfl, rfl, h2, r2⟩ := trodAll_cons r1
  obtain ⟨v3, vs3, d3, ds3, p3, q3, rfl, rfl, rfl, h3, r3⟩ := trodAll_cons r2
  obtain ⟨rfl, rfl, rfl⟩ := trodAll_nil r3
  obtain rfl : args = #[v0, v1, v2, v3] := by cases args; simp_all
  obtain ⟨rfl, rfl⟩ := trodVars_none hV
  have k0 := h0
  have lt0 : ∀ x ∈ p0, x.block < W.heap.size := by obtain ⟨m, hm⟩ := k0; exact DataW.trod_lt m _ _ _ hm
  obtain ⟨cs0, x0, rfl, e0⟩ := NumK.arg_struct Try.underlying37 NumK.opens_inst (hval 0 37 v0 rfl rfl) h0
  have k1 := h1
  have lt1 : ∀ x ∈ p1, x.block < W.heap.size := by obtain ⟨m, hm⟩ := k1; exact DataW.trod_lt m _ _ _ hm
  obtain ⟨cs1, x1, rfl, e1⟩ := NumK.arg_struct Try.underlying32 NumK.opens_key (hval 1 32 v1 rfl rfl) h1
  obtain ⟨a2, rfl, rfl, rfl, w2⟩ := open_int Try.underlying3 (hval 2 3 v2 rfl rfl) h2
  obtain ⟨a3, rfl, rfl, rfl, w3⟩ := open_int Try.underlying3 (hval 3 3 v3 rfl rfl) h3
  clear hA0 hval0
  refine (NumK.markPrices_row W a2 a3 e0 e1).mono fun e W' ⟨he, bel⟩ => ?_
  subst he
  exact ⟨_, rfl, _, _, _, [], _, [], hW', trodAll_mk1 (shut_bool Try.underlying4 _), (trodAll_cons_mk (Below.trod laidOut (by kernel_rfl) (of_decide_eq_true (by kernel_rfl)) k0 bel lt0) (trodAll_cons_mk (Below.trod laidOut (by kernel_rfl) (of_decide_eq_true (by kernel_rfl)) k1 bel lt1) (trodAll_cons_mk (shut_int Try.underlying3 w2) (trodAll_cons_mk (shut_int Try.underlying3 w3) trodAll_mk0)))), rfl, bel.frame _, fun h => by cases h⟩

theorem over : Rows.markPricesRow.holds Try.pinned (OpenSpec.ofChange Rows.markPricesSpec) :=
  OpenClaim.holds_of_wide 7 Try.f7 rfl rfl rfl rfl rfl rfl rfl ⟨rfl, rfl, rfl, rfl, rfl⟩ rfl rfl rfl rfl rfl (by kernel_rfl) Try.func7 (by kernel_rfl)
    (of_decide_eq_true (by kernel_rfl)) (by unfold Func.isWrapper; first | (rw [if_pos (by decide +kernel)]; kernel_rfl) | (rw [if_neg (by decide +kernel)]; exact ⟨rfl, rfl⟩))
    (fun os started H enc _ => lifted os started H enc)

/-! ### the statement -/
theorem proved : Rows.MarkPricesSaid := over
end Go.Proofs.Ytlbfljkhlkjcbaa.markPrices
