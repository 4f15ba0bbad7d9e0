/-
  For every position, multiplier and two prices: what is won from one price to the next, and from that to a third, is what is won in both together, and turned round it is lost; greater quantities than 2^20 the statement lets by.
-/
import Derived.Test.YtlbfljkhlkjcbaaRG17
import Derived.Test.YtlbfljkhlkjcbaaRows
import Derived.WalkKit
import Derived.ProofKit
import Derived.OpenShut
import Derived.ShutString
import Derived.ChangeOld
import Derived.Below
import Derived.Carry
namespace Go.Proofs.Ytlbfljkhlkjcbaa.NumK
open Go.RowKit
set_option linter.unusedVariables false

theorem money_abs {x : Int} (h : x.natAbs ≤ 4611686018427387904) : isMoney x = true := by rw [isMoney_iff]; omega
theorem abs_money {x : Int} (h : isMoney x = true) : x.natAbs ≤ 4611686018427387904 := by rw [isMoney_iff] at h; omega
theorem may_iff (p : Po) (m k : Int) : mayW p m k = true ↔ ((-1099511627776 ≤ p.2.2.1 ∧ p.2.2.1 ≤ 1099511627776) ∧ isMoney p.2.2.2 = true ∧ (1 ≤ m ∧ m ≤ 1024) ∧ 0 ≤ k ∧ k ≤ 1073741824) := by
  simp [mayW, okQ, wi, and_assoc]
theorem worth_of {p : Po} {m k : Int} (h : mayW p m k = true) (h2 : isMoney (worthV p m k) = true) : worthE p m k = 0 ∧ worthN p m k = worthV p m k := by
  have e : worthE p m k = 0 := by rw [worthE_may h, if_pos h2]
  exact ⟨e, by unfold worthN; rw [if_pos e]⟩
theorem worth_ok {p : Po} {m k : Int} (h : worthE p m k = 0) : mayW p m k = true ∧ isMoney (worthV p m k) = true ∧ worthN p m k = worthV p m k := by
  have hn : worthN p m k = worthV p m k := by unfold worthN; rw [if_pos h]
  unfold worthE at h
  split at h
  · next hm =>
    split at h
    · next h2 => exact ⟨hm, h2, hn⟩
    · exact absurd h (by decide)
  · exact absurd h (by decide)
/-- From price to price, where the quantity is not great. -/
theorem mmmsteps_all {q1 q2 q3 q4 m a b : Int} (h : worthE (q1, q2, q3, q4) m a = 0) (h1 : q3.natAbs ≤ 1048576) (h2 : 0 ≤ b ∧ b ≤ 1073741824) :
    (q3 * a).natAbs ≤ 1125899906842624 ∧ worthE (q1, q2, q3, q3 * a) m b = 0 ∧ worthE (q1, q2, -q3, -q4) m a = 0 ∧ worthN (q1, q2, -q3, -q4) m a = -worthN (q1, q2, q3, q4) m a ∧
    (worthE (q1, q2, q3, q4) m b = 0 → worthN (q1, q2, q3, q4) m a + worthN (q1, q2, q3, q3 * a) m b = worthN (q1, q2, q3, q4) m b) ∧
    (worthN (q1, q2, q3, q4) m a).natAbs ≤ 4611686018427387904 ∧ (worthE (q1, q2, q3, q4) m b = 0 → (worthN (q1, q2, q3, q4) m b).natAbs ≤ 4611686018427387904) ∧ q4.natAbs ≤ 4611686018427387904 := by
  obtain ⟨k1, k2, k3⟩ := worth_ok h
  have hk := (may_iff _ _ _).1 k1
  dsimp only at hk
  obtain ⟨⟨g1, g2⟩, g3, ⟨g4, g5⟩, g6, g7⟩ := hk
  have hc : (q3 * a).natAbs ≤ 1048576 * 1073741824 := mul_abs h1 (by omega)
  have hd : (q3 * (b - a)).natAbs ≤ 1048576 * 1073741824 := mul_abs h1 (by omega)
  have hv : (m * (q3 * (b - a))).natAbs ≤ 1024 * (1048576 * 1073741824) := mul_abs (by omega) hd
  have e1 : worthV (q1, q2, q3, q3 * a) m b = m * (q3 * (b - a)) := by
    show m * (q3 * b - q3 * a) = _
    rw [← Int.mul_sub q3 b a]
  have m2 : mayW (q1, q2, q3, q3 * a) m b = true := (may_iff _ _ _).2 ⟨⟨g1, g2⟩, money_abs (by show (q3 * a).natAbs ≤ _; omega), ⟨g4, g5⟩, h2⟩
  obtain ⟨w1, w2⟩ := worth_of m2 (by rw [e1]; exact money_abs (by omega))
  have e2 : worthV (q1, q2, -q3, -q4) m a = -worthV (q1, q2, q3, q4) m a := worth_turn (q1, q2, q3, q4) m a
  have m3 : mayW (q1, q2, -q3, -q4) m a = true := (may_iff _ _ _).2 ⟨⟨by show _ ≤ -q3; omega, by show -q3 ≤ _; omega⟩, money_abs (by have := abs_money g3; show (-q4).natAbs ≤ _; omega), ⟨g4, g5⟩, g6, g7⟩
  obtain ⟨w3, w4⟩ := worth_of m3 (by rw [e2]; exact money_abs (by have := abs_money k2; omega))
  refine ⟨by omega, w1, w3, by rw [w4, e2, k3], fun hz => ?_, by rw [k3]; exact abs_money k2, fun hz => by rw [(worth_ok hz).2.2]; exact abs_money (worth_ok hz).2.1, abs_money g3⟩
  rw [k3, w2, (worth_ok hz).2.2]
  exact worth_steps (q1, q2, q3, q4) m a b

set_option maxRecDepth 100000 in
set_option maxHeartbeats 4000000 in
theorem markSteps_walk (p : Po) (m a b : Int) (w : World) : Calls Try.prog 4 #[vPo p, .int .i64 m, .int .i64 a, .int .i64 b] w fun e w' => e = .returned (.bool true) ∧ Grew w w' := by
  obtain ⟨q1, q2, q3, q4⟩ := p
  have CV := fun w => wakes14_any w
  have C1 := fun w => worth_any (q1, q2, q3, q4) m a w
  have HX0 : Hid (OwnC (w.alloc (.cells #[.int .i64 q1, .int .i64 q2, .int .i64 q3, .int .i64 q4] 34)) w.heap.size [.int .i64 q1, .int .i64 q2, .int .i64 q3, .int .i64 q4]) := OwnC.new w [.int .i64 q1, .int .i64 q2, .int .i64 q3, .int .i64 q4] _ _ rfl
  dsimp only [vPo] at C1 ⊢
  by_cases h0 : worthE (q1, q2, q3, q4) m a = 0
  · by_cases hq : q3.natAbs ≤ 1048576
    · by_cases hb : 0 ≤ b ∧ b ≤ 1073741824
      · obtain ⟨s1, s2, s3, s4, s5, s6, s7, s8⟩ := mmmsteps_all h0 hq hb
        have ha := ((may_iff _ _ _).1 (worth_ok h0).1).2.2.2
        have C2 := fun w => worth_any (q1, q2, q3, q3 * a) m b w
        have C3 := fun w => worth_any (q1, q2, q3, q4) m b w
        have C4 := fun w => worth_any (q1, q2, -q3, -q4) m a w
        dsimp only [vPo] at C2 C3 C4
        rw [s2] at C2
        rw [s3, s4] at C4
        rw [h0] at C1
        clear s2 s3 s4 h0
        have hw : wrap64 (q3 * a) = q3 * a := by unfold wrap64; omega
        generalize worthN (q1, q2, q3, q4) m a = X at *
        generalize worthN (q1, q2, q3, q3 * a) m b = Y at *
        generalize worthN (q1, q2, q3, q4) m b = Z at *
        generalize worthE (q1, q2, q3, q4) m b = E at *
        rw [← hw] at C2
        clear s1 hw
        have x1 : -4611686018427387904 ≤ X ∧ X ≤ 4611686018427387904 := by omega
        have x4 : -4611686018427387904 ≤ q4 ∧ q4 ≤ 4611686018427387904 := by omega
        have x3 : -1048576 ≤ q3 ∧ q3 ≤ 1048576 := by omega
        obtain ⟨x1, x2⟩ := x1
        obtain ⟨x3, x3'⟩ := x3
        obtain ⟨x4, x4'⟩ := x4
        obtain ⟨b1, b2⟩ := hb
        obtain ⟨a1, a2⟩ := ha
        clear hq s6 s8
        by_cases hE : E = 0
        · subst hE
          have hs := s5 rfl
          have hz := s7 rfl
          have z1 : -4611686018427387904 ≤ Z ∧ Z ≤ 4611686018427387904 := by omega
          obtain ⟨z1, z2⟩ := z1
          clear s5 s7 hz
          go_enter Try.func4, Try.ntmps4
          go_wp2_with (first
            | (go_at_call 10; ((with_reducible refine (C1 _).mono ?_); rintro e w1 ⟨rfl, hg⟩; have HX1 := Lib.hid (HX0.out.keep hg); have HG1 := Lib.hid (grew_trans (grew_alloc _ _ _) hg); clear hg HX0; have hl := HX1.out.lt; have p0 := HX1.out.at 0 (.int .i64 q1) rfl; have p1 := HX1.out.at 1 (.int .i64 q2) rfl; have p2 := HX1.out.at 2 (.int .i64 q3) rfl; have p3 := HX1.out.at 3 (.int .i64 q4) rfl))
            | (go_at_call 10; ((with_reducible refine (C2 _).mono ?_); rintro e w2 ⟨rfl, hg⟩; have HX2 := Lib.hid ((HX1.out.keep (grew_alloc _ _ _)).keep hg); have HG2 := Lib.hid (grew_trans (grew_trans HG1.out (grew_alloc _ _ _)) hg); clear hg HX1 p0 p1 p2 p3; have p0 := HX2.out.at 0 (.int .i64 q1) rfl; have p1 := HX2.out.at 1 (.int .i64 q2) rfl; have p2 := HX2.out.at 2 (.int .i64 q3) rfl; have p3 := HX2.out.at 3 (.int .i64 q4) rfl))
            | (go_at_call 10; ((with_reducible refine (C3 _).mono ?_); rintro e w3 ⟨rfl, hg⟩; have HX3 := Lib.hid (HX2.out.keep hg); have HG3 := Lib.hid (grew_trans HG2.out hg); clear hg HX2 p0 p1 p2 p3; have p0 := HX3.out.at 0 (.int .i64 q1) rfl; have p1 := HX3.out.at 1 (.int .i64 q2) rfl; have p2 := HX3.out.at 2 (.int .i64 q3) rfl; have p3 := HX3.out.at 3 (.int .i64 q4) rfl))
            | (go_at_call 10; ((with_reducible refine (C4 _).mono ?_); rintro e w4 ⟨rfl, hg⟩; have HG4 := Lib.hid (grew_trans (grew_trans HG3.out (grew_alloc _ _ _)) hg); clear hg HX3 p0 p1 p2 p3))
            | (go_at_call 24; ((with_reducible refine (CV _).mono ?_); rintro e w5 ⟨rfl, hg⟩; have HG5 := Lib.hid (grew_trans HG4.out hg); clear hg)))
          go_ret
          exact ⟨rfl, HG5.out⟩
        · have d1 : (E == 0) = false := beq_false_of_ne hE
          clear s5 s7 hE
          go_enter Try.func4, Try.ntmps4
          go_wp2_with (first
            | (go_at_call 10; ((with_reducible refine (C1 _).mono ?_); rintro e w1 ⟨rfl, hg⟩; have HX1 := Lib.hid (HX0.out.keep hg); have HG1 := Lib.hid (grew_trans (grew_alloc _ _ _) hg); clear hg HX0; have hl := HX1.out.lt; have p0 := HX1.out.at 0 (.int .i64 q1) rfl; have p1 := HX1.out.at 1 (.int .i64 q2) rfl; have p2 := HX1.out.at 2 (.int .i64 q3) rfl; have p3 := HX1.out.at 3 (.int .i64 q4) rfl))
            | (go_at_call 10; ((with_reducible refine (C2 _).mono ?_); rintro e w2 ⟨rfl, hg⟩; have HX2 := Lib.hid ((HX1.out.keep (grew_alloc _ _ _)).keep hg); have HG2 := Lib.hid (grew_trans (grew_trans HG1.out (grew_alloc _ _ _)) hg); clear hg HX1 p0 p1 p2 p3; have p0 := HX2.out.at 0 (.int .i64 q1) rfl; have p1 := HX2.out.at 1 (.int .i64 q2) rfl; have p2 := HX2.out.at 2 (.int .i64 q3) rfl; have p3 := HX2.out.at 3 (.int .i64 q4) rfl))
            | (go_at_call 10; ((with_reducible refine (C3 _).mono ?_); rintro e w3 ⟨rfl, hg⟩; have HX3 := Lib.hid (HX2.out.keep hg); have HG3 := Lib.hid (grew_trans HG2.out hg); clear hg HX2 p0 p1 p2 p3; have p0 := HX3.out.at 0 (.int .i64 q1) rfl; have p1 := HX3.out.at 1 (.int .i64 q2) rfl; have p2 := HX3.out.at 2 (.int .i64 q3) rfl; have p3 := HX3.out.at 3 (.int .i64 q4) rfl))
            | (go_at_call 10; ((with_reducible refine (C4 _).mono ?_); rintro e w4 ⟨rfl, hg⟩; have HG4 := Lib.hid (grew_trans (grew_trans HG3.out (grew_alloc _ _ _)) hg); clear hg HX3 p0 p1 p2 p3))
            | (go_at_call 24; ((with_reducible refine (CV _).mono ?_); rintro e w5 ⟨rfl, hg⟩; have HG5 := Lib.hid (grew_trans HG4.out hg); clear hg)))
          go_ret
          exact ⟨rfl, HG5.out⟩
      · have ha := ((may_iff _ _ _).1 (worth_ok h0).1).2.2.2
        rw [h0] at C1
        clear h0
        generalize worthN (q1, q2, q3, q4) m a = X at *
        have x3 : -1048576 ≤ q3 ∧ q3 ≤ 1048576 := by omega
        obtain ⟨x3, x3'⟩ := x3
        obtain ⟨a1, a2⟩ := ha
        clear hq
        by_cases b1 : 0 ≤ b
        · have b2 : ¬ b ≤ 1073741824 := fun h => hb ⟨b1, h⟩
          clear hb
          go_enter Try.func4, Try.ntmps4
          go_wp2_with (first
            | (go_at_call 10; ((with_reducible refine (C1 _).mono ?_); rintro e w1 ⟨rfl, hg⟩; have HX1 := Lib.hid (HX0.out.keep hg); have HG1 := Lib.hid (grew_trans (grew_alloc _ _ _) hg); clear hg HX0; have hl := HX1.out.lt; have p0 := HX1.out.at 0 (.int .i64 q1) rfl; have p1 := HX1.out.at 1 (.int .i64 q2) rfl; have p2 := HX1.out.at 2 (.int .i64 q3) rfl; have p3 := HX1.out.at 3 (.int .i64 q4) rfl))
            | (go_at_call 24; ((with_reducible refine (CV _).mono ?_); rintro e w5 ⟨rfl, hg⟩; have HG5 := Lib.hid (grew_trans HG1.out hg); clear hg)))
          go_ret
          exact ⟨rfl, HG5.out⟩
        · clear hb
          go_enter Try.func4, Try.ntmps4
          go_wp2_with (first
            | (go_at_call 10; ((with_reducible refine (C1 _).mono ?_); rintro e w1 ⟨rfl, hg⟩; have HX1 := Lib.hid (HX0.out.keep hg); have HG1 := Lib.hid (grew_trans (grew_alloc _ _ _) hg); clear hg HX0; have hl := HX1.out.lt; have p0 := HX1.out.at 0 (.int .i64 q1) rfl; have p1 := HX1.out.at 1 (.int .i64 q2) rfl; have p2 := HX1.out.at 2 (.int .i64 q3) rfl; have p3 := HX1.out.at 3 (.int .i64 q4) rfl))
            | (go_at_call 24; ((with_reducible refine (CV _).mono ?_); rintro e w5 ⟨rfl, hg⟩; have HG5 := Lib.hid (grew_trans HG1.out hg); clear hg)))
          go_ret
          exact ⟨rfl, HG5.out⟩
    · rw [h0] at C1
      clear h0
      generalize worthN (q1, q2, q3, q4) m a = X at *
      by_cases x3 : q3 ≤ 1048576
      · have x4 : q3 < -1048576 := by omega
        clear hq
        go_enter Try.func4, Try.ntmps4
        go_wp2_with (first
          | (go_at_call 10; ((with_reducible refine (C1 _).mono ?_); rintro e w1 ⟨rfl, hg⟩; have HX1 := Lib.hid (HX0.out.keep hg); have HG1 := Lib.hid (grew_trans (grew_alloc _ _ _) hg); clear hg HX0; have hl := HX1.out.lt; have p0 := HX1.out.at 0 (.int .i64 q1) rfl; have p1 := HX1.out.at 1 (.int .i64 q2) rfl; have p2 := HX1.out.at 2 (.int .i64 q3) rfl; have p3 := HX1.out.at 3 (.int .i64 q4) rfl))
          | (go_at_call 24; ((with_reducible refine (CV _).mono ?_); rintro e w5 ⟨rfl, hg⟩; have HG5 := Lib.hid (grew_trans HG1.out hg); clear hg)))
        go_ret
        exact ⟨rfl, HG5.out⟩
      · clear hq
        go_enter Try.func4, Try.ntmps4
        go_wp2_with (first
          | (go_at_call 10; ((with_reducible refine (C1 _).mono ?_); rintro e w1 ⟨rfl, hg⟩; have HX1 := Lib.hid (HX0.out.keep hg); have HG1 := Lib.hid (grew_trans (grew_alloc _ _ _) hg); clear hg HX0; have hl := HX1.out.lt; have p0 := HX1.out.at 0 (.int .i64 q1) rfl; have p1 := HX1.out.at 1 (.int .i64 q2) rfl; have p2 := HX1.out.at 2 (.int .i64 q3) rfl; have p3 := HX1.out.at 3 (.int .i64 q4) rfl))
          | (go_at_call 24; ((with_reducible refine (CV _).mono ?_); rintro e w5 ⟨rfl, hg⟩; have HG5 := Lib.hid (grew_trans HG1.out hg); clear hg)))
        go_ret
        exact ⟨rfl, HG5.out⟩
  · have d0 : (worthE (q1, q2, q3, q4) m a != 0) = true := bne_iff_ne.2 h0
    clear h0
    generalize worthE (q1, q2, q3, q4) m a = E at *
    generalize worthN (q1, q2, q3, q4) m a = X at *
    go_enter Try.func4, Try.ntmps4
    go_wp2_with (first
      | (go_at_call 10; ((with_reducible refine (C1 _).mono ?_); rintro e w1 ⟨rfl, hg⟩; have HX1 := Lib.hid (HX0.out.keep hg); have HG1 := Lib.hid (grew_trans (grew_alloc _ _ _) hg); clear hg HX0; have hl := HX1.out.lt; have p0 := HX1.out.at 0 (.int .i64 q1) rfl; have p1 := HX1.out.at 1 (.int .i64 q2) rfl; have p2 := HX1.out.at 2 (.int .i64 q3) rfl; have p3 := HX1.out.at 3 (.int .i64 q4) rfl))
      | (go_at_call 24; ((with_reducible refine (CV _).mono ?_); rintro e w5 ⟨rfl, hg⟩; have HG5 := Lib.hid (grew_trans HG1.out hg); clear hg)))
    go_ret
    exact ⟨rfl, HG5.out⟩
end Go.Proofs.Ytlbfljkhlkjcbaa.NumK
namespace Go.Proofs.Ytlbfljkhlkjcbaa.NumK
open Go.RowKit
set_option linter.unusedVariables false

theorem markSteps_row (w : World) {cs0 : Array Value} {p : Po} (m a b : Int) (h0 : spPo.rd w cs0.toList p) :
    Calls Try.prog 4 #[.agg cs0, .int .i64 m, .int .i64 a, .int .i64 b] w fun e w' => e = .returned (.bool true) ∧ Grew w w' := by
  rw [po_of h0]
  exact markSteps_walk p m a b w
end Go.Proofs.Ytlbfljkhlkjcbaa.NumK
namespace Go.Proofs.Ytlbfljkhlkjcbaa.markSteps
open Go.ChangeShapes Go.WideShapes Go.ChangeAt Go.RowKit
set_option linter.unusedVariables false

theorem own : ownKnob Try.prog.godebug = none := by kernel_rfl
theorem laidOut : laidOutB Try.prog = true := by kernel_rfl

set_option maxRecDepth 100000 in
theorem lifted (os : Os) (started : os.Started) (H : Type) (enc : TypeId × Value → H) :
    ReturnsInHanded {} Try.checked os 4 .any (Rows.markStepsSpec.pre6 enc Try.prog Try.f4 Rows.markStepsRow.domain false) (Rows.markStepsSpec.post enc Try.prog Try.f4 false true false false) := by
  refine returnsInHanded_of_change (C := Try.checked) own started (by kernel_rfl) Try.func4
    (ChangeSpec.witness6 (enc := enc) (C := Try.checked) false ⟨#[], #[.agg #[.int .i64 0, .int .i64 0, .int .i64 0, .int .i64 0], .int .i64 0, .int .i64 0, .int .i64 0], []⟩ 8 (by kernel_rfl) (by kernel_rfl) (by kernel_rfl) (by kernel_rfl)) ?_
  intro W base args ds gs before hval0 hW hcnd _
  have hval : ∀ (j : Nat) t v, Try.f4.params[j]? = some t → args[j]? = some v → Value.okWide Try.prog W .any base t v := hval0
  have hW' := hW
  obtain ⟨p, q, hA0, hV, rfl, hfz, hnd⟩ := hW
  have hA : DataW.TrodAll enc Try.prog W 0 (fun _ => true) true Try.f4.params.toList args.toList ds p := hA0
  skip
  rw [Try.params4] at hA hval
  obtain ⟨v0, vs0, d0, ds0, p0, q0, hargs, rfl, rfl, h0, r0⟩ := trodAll_cons hA
  obtain ⟨v1, vs1, d1, ds1, p1, q1, rfl, rfl, rfl, h1, r1⟩ := trodAll_cons r0
  obtain ⟨v2, vs2, d2, ds2, p2, q2, rfl, rfl, rfl, h2, r2⟩ := trodAll_cons r1
  obtain ⟨v3, vs3, d3, ds3, p3, q3, rfl, rfl, rfl, h3, r3⟩ := trodAll_cons r2
  obtain ⟨rfl, rfl, rfl⟩ := trodAll_nil r3
  obtain rfl : args = #[v0, v1, v2, v3] := by cases args; simp_all
  obtain ⟨rfl, rfl⟩ := trodVars_none hV
  have k0 := h0
  have lt0 : ∀ x ∈ p0, x.block < W.heap.size := by obtain ⟨m, hm⟩ := k0; exact DataW.trod_lt m _ _ _ hm
  obtain ⟨cs0, x0, rfl, e0⟩ := NumK.arg_struct Try.underlying34 NumK.opens_pos (hval 0 34 v0 rfl rfl) h0
  obtain ⟨a1, rfl, rfl, rfl, w1⟩ := open_int Try.underlying3 (hval 1 3 v1 rfl rfl) h1
  obtain ⟨a2, rfl, rfl, rfl, w2⟩ := open_int Try.underlying3 (hval 2 3 v2 rfl rfl) h2
  obtain ⟨a3, rfl, rfl, rfl, w3⟩ := open_int Try.underlying3 (hval 3 3 v3 rfl rfl) h3
  clear hA0 hval0
  refine (NumK.markSteps_row W a1 a2 a3 e0).mono fun e W' ⟨he, bel⟩ => ?_
  subst he
  exact ⟨_, rfl, _, _, _, [], _, [], hW', trodAll_mk1 (shut_bool Try.underlying4 _), (trodAll_cons_mk (Below.trod laidOut (by kernel_rfl) (of_decide_eq_true (by kernel_rfl)) k0 bel lt0) (trodAll_cons_mk (shut_int Try.underlying3 w1) (trodAll_cons_mk (shut_int Try.underlying3 w2) (trodAll_cons_mk (shut_int Try.underlying3 w3) trodAll_mk0)))), rfl, bel.frame _, fun h => by cases h⟩

theorem over : Rows.markStepsRow.holds Try.pinned (OpenSpec.ofChange Rows.markStepsSpec) :=
  OpenClaim.holds_of_wide 4 Try.f4 rfl rfl rfl rfl rfl rfl rfl ⟨rfl, rfl, rfl, rfl, rfl⟩ rfl rfl rfl rfl rfl (by kernel_rfl) Try.func4 (by kernel_rfl)
    (of_decide_eq_true (by kernel_rfl)) (by unfold Func.isWrapper; first | (rw [if_pos (by decide +kernel)]; kernel_rfl) | (rw [if_neg (by decide +kernel)]; exact ⟨rfl, rfl⟩))
    (fun os started H enc _ => lifted os started H enc)

/-! ### the statement -/
theorem proved : Rows.MarkStepsSaid := over
end Go.Proofs.Ytlbfljkhlkjcbaa.markSteps
