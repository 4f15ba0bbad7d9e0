/-
  For every asset and numbers of units: a value is from 0 to units times price, grows with the units, the price and a lesser cut, and two parts are worth no more than both together, and less by one at most; more than 2^30 units, and values that are not told, the statement lets by.
-/
import Derived.Test.YtckdbbjeifindaaRG14
import Derived.Deep.RegionHeld3
import Derived.Test.YtckdbbjeifindaaRG15
import Derived.Test.YtckdbbjeifindaaRows
import Derived.WalkKit
import Derived.ProofKit
import Derived.OpenShut
import Derived.ShutString
import Derived.ChangeOld
import Derived.Below
import Derived.Carry
namespace Go.Proofs.Ytckdbbjeifindaa.NumK
open Go.RowKit
set_option linter.unusedVariables false

/-- What the law asks of the values, where they are told. -/
theorem values_law {x : As} {n m : Int} (h1 : valueE x n = 0) (h2 : valueE x m = 0) (hn : n ≤ 1073741824) (hm : m ≤ 1073741824) :
    (valueE x (n + m) = 0 ∧ (0 ≤ n ∧ 0 ≤ m) ∧ (0 ≤ n * x.2.2.1 ∧ n * x.2.2.1 ≤ 1152921504606846976)) ∧ (0 ≤ valueN x n ∧ valueN x n ≤ n * x.2.2.1) ∧ (0 ≤ valueN x m ∧ valueN x m ≤ 1152921504606846976) ∧
    (valueN x n + valueN x m ≤ valueN x (n + m) ∧ valueN x (n + m) ≤ valueN x n + valueN x m + 1) ∧ (n ≤ m → valueN x n ≤ valueN x m) := by
  obtain ⟨a1, a2, a3⟩ := valueE_ok.1 h1
  obtain ⟨b1, b2, b3⟩ := valueE_ok.1 h2
  have h3 : valueE x (n + m) = 0 := valueE_ok.2 ⟨a1, by omega, Int.le_trans (value_small a1 (by omega) (by omega)) (by decide)⟩
  have e1 : valueN x n = valueV x n := by unfold valueN; rw [if_pos h1]
  have e2 : valueN x m = valueV x m := by unfold valueN; rw [if_pos h2]
  have e3 : valueN x (n + m) = valueV x (n + m) := by unfold valueN; rw [if_pos h3]
  rw [e1, e2, e3]
  obtain ⟨_, _, p3, _⟩ := (okAs_iff x).1 a1
  have k : ∀ z : Int, 0 ≤ z → z ≤ 1073741824 → 0 ≤ z * x.2.2.1 ∧ z * x.2.2.1 ≤ 1152921504606846976 := fun z z0 z1 => ⟨Int.mul_nonneg z0 (by omega), by
    have := Int.le_trans (Int.mul_le_mul_of_nonneg_right z1 (by omega : 0 ≤ x.2.2.1)) (Int.mul_le_mul_of_nonneg_left p3.2 (by decide : (0 : Int) ≤ 1073741824))
    omega⟩
  have hvm := value_le a1 b2.1
  have := (k m b2.1 hm).2
  exact ⟨⟨h3, ⟨a2.1, b2.1⟩, k n a2.1 hn⟩, ⟨value_nonneg a1 a2.1, value_le a1 a2.1⟩, ⟨value_nonneg a1 b2.1, by omega⟩, value_parts x n m, fun h => value_units a1 h⟩
/-- A better asset. -/
theorem values_terms {x : As} {n p c : Int} (h1 : valueE x n = 0) (h2 : valueE (x.1, x.2.1, max x.2.2.1 p, min x.2.2.2 c) n = 0) : valueN x n ≤ valueN (x.1, x.2.1, max x.2.2.1 p, min x.2.2.2 c) n := by
  obtain ⟨a1, a2, a3⟩ := valueE_ok.1 h1
  obtain ⟨b1, b2, b3⟩ := valueE_ok.1 h2
  unfold valueN
  rw [if_pos h1, if_pos h2]
  exact value_terms a1 b1 a2.1 (by simp only; omega) (by simp only; omega)

set_option maxRecDepth 100000 in
set_option maxHeartbeats 8000000 in
theorem coverValues_walk (x : As) (n m p c : Int) (w : World) :
    Calls Try.prog 4 #[vAs x, .int .i64 n, .int .i64 m, .int .i64 p, .int .i64 c] w fun e w' => e = .returned (.bool true) ∧ Grew w w' := by
  have C1 := fun w => value_any x n w
  have C2 := fun w => value_any x m w
  have C3 := fun w => value_any x (n + m) w
  have C4 := fun w => value_any (x.1, x.2.1, max x.2.2.1 p, min x.2.2.2 c) n w
  have CW := fun w => wakes16_any w
  have HLAW := Lib.hid (@values_law x n m)
  have HTRM := Lib.hid (@values_terms x n p c)
  generalize valueN x n = N1 at *
  generalize valueE x n = E1 at *
  generalize valueN x m = N2 at *
  generalize valueE x m = E2 at *
  generalize valueN x (n + m) = N3 at *
  generalize valueE x (n + m) = E3 at *
  generalize valueN (x.1, x.2.1, max x.2.2.1 p, min x.2.2.2 c) n = N4 at *
  generalize valueE (x.1, x.2.1, max x.2.2.1 p, min x.2.2.2 c) n = E4 at *
  obtain ⟨q1, q2, q3, q4⟩ := x
  dsimp only [vAs] at *
  rw [show max q3 p = if q3 < p then p else q3 by omega, show min q4 c = if c < q4 then c else q4 by omega] at C4
  have HX0 : Hid (OwnC (w.alloc (.cells #[.int .i64 q1, .int .i64 q2, .int .i64 q3, .int .i64 q4] 23)) w.heap.size [.int .i64 q1, .int .i64 q2, .int .i64 q3, .int .i64 q4]) := OwnC.new w [.int .i64 q1, .int .i64 q2, .int .i64 q3, .int .i64 q4] _ _ rfl
  have HG0 : Hid (Grew w (w.alloc (.cells #[.int .i64 q1, .int .i64 q2, .int .i64 q3, .int .i64 q4] 23))) := grew_alloc _ _ _
  go_enter Try.func4, Try.ntmps4
  go_upto_region 1 with (fail)
  generalize w.alloc (.cells #[.int .i64 q1, .int .i64 q2, .int .i64 q3, .int .i64 q4] 23) = w0 at *
  have HWN : Hid (w.heap.size = w.heap.size) := rfl
  generalize hN : w.heap.size = N at *
  clear HWN
  have x0 := HX0.out.at 0 (.int .i64 q1) rfl; have x1 := HX0.out.at 1 (.int .i64 q2) rfl; have x2 := HX0.out.at 2 (.int .i64 q3) rfl; have x3 := HX0.out.at 3 (.int .i64 q4) rfl
  go_upto_region 2 with (go_at_call 7; ((with_reducible refine (C1 _).mono ?_); rintro e wa ⟨rfl, hg⟩; have HX1 := Lib.hid (HX0.out.keep hg); have HG1 := Lib.hid (grew_trans HG0.out hg); clear hg C1 HX0 HG0 x0 x1 x2 x3))
  have x0 := HX1.out.at 0 (.int .i64 q1) rfl; have x1 := HX1.out.at 1 (.int .i64 q2) rfl; have x2 := HX1.out.at 2 (.int .i64 q3) rfl; have x3 := HX1.out.at 3 (.int .i64 q4) rfl
  go_upto_region 3 with (go_at_call 7; ((with_reducible refine (C2 _).mono ?_); rintro e wb ⟨rfl, hg⟩; have HX2 := Lib.hid (HX1.out.keep hg); have HG2 := Lib.hid (grew_trans HG1.out hg); clear hg C2 HX1 HG1 x0 x1 x2 x3))
  by_cases hc : E1 = 0 ∧ E2 = 0 ∧ n ≤ 1073741824 ∧ m ≤ 1073741824
  · obtain ⟨rfl, rfl, hn, hm⟩ := hc
    obtain ⟨⟨rfl, ⟨k1, k2⟩, k3, k4⟩, ⟨l1, l2⟩, ⟨l3, l4⟩, ⟨l5, l6⟩, l7⟩ := HLAW.out rfl rfl hn hm
    have j1 : ¬ n > 1073741824 := by omega
    have j2 : ¬ m > 1073741824 := by omega
    have j3 : IntKind.i64.wrap (n + m) = n + m := by rw [IntKind.wrap_i64]; omega
    have j4 : ¬ N1 < 0 := by omega
    have j5 : IntKind.i64.wrap (n * q3) = n * q3 := by rw [IntKind.wrap_i64]; omega
    have j6 : ¬ N1 > n * q3 := by omega
    have j7 : IntKind.i64.wrap (N1 + N2) = N1 + N2 := by rw [IntKind.wrap_i64]; omega
    have j8 : ¬ N3 < N1 + N2 := by omega
    have j9 : IntKind.i64.wrap (N1 + N2 + 1) = N1 + N2 + 1 := by rw [IntKind.wrap_i64]; omega
    have j10 : ¬ N3 > N1 + N2 + 1 := by omega
    have HTR2 := Lib.hid (HTRM.out rfl)
    have hord : (n ≤ m ∧ ¬ N1 > N2) ∨ ¬ n ≤ m := by
      by_cases h : n ≤ m
      · exact .inl ⟨h, by have := l7 h; omega⟩
      · exact .inr h
    clear HLAW HTRM l1 l2 l3 l4 l5 l6 l7 k1 k2 k3 k4 hn hm

    have x0 := HX2.out.at 0 (.int .i64 q1) rfl; have x1 := HX2.out.at 1 (.int .i64 q2) rfl; have x2 := HX2.out.at 2 (.int .i64 q3) rfl; have x3 := HX2.out.at 3 (.int .i64 q4) rfl
    go_upto_region 6 with (go_at_call 7; ((with_reducible refine (C3 _).mono ?_); rintro e wc ⟨rfl, hg⟩; have HX3 := Lib.hid (HX2.out.keep hg); have HG3 := Lib.hid (grew_trans HG2.out hg); clear hg C3 HX2 HG2 x0 x1 x2 x3))
    have x0 := HX3.out.at 0 (.int .i64 q1) rfl; have x1 := HX3.out.at 1 (.int .i64 q2) rfl; have x2 := HX3.out.at 2 (.int .i64 q3) rfl; have x3 := HX3.out.at 3 (.int .i64 q4) rfl
    have HB4 : Hid (OwnC (wc.alloc (.cells #[.int .i64 q1, .int .i64 q2, .int .i64 q3, .int .i64 q4] 23)) wc.heap.size [.int .i64 q1, .int .i64 q2, .int .i64 q3, .int .i64 q4]) := OwnC.new wc [.int .i64 q1, .int .i64 q2, .int .i64 q3, .int .i64 q4] _ _ rfl
    have HX4 := Lib.hid (HX3.out.keep (grew_alloc wc #[.int .i64 q1, .int .i64 q2, .int .i64 q3, .int .i64 q4] 23))
    have HG4 := Lib.hid (grew_trans HG3.out (grew_alloc wc #[.int .i64 q1, .int .i64 q2, .int .i64 q3, .int .i64 q4] 23))
    have HNB : Hid (N ≠ wc.heap.size) := by have := HX3.out.lt; show _ ≠ _; omega
    have HNW : Hid (w.heap.size ≤ wc.heap.size) := HG3.out.size
    rcases hord with ⟨o1, o2⟩ | o1
    · go_upto_region 9 with (fail)
      generalize wc.alloc (.cells #[.int .i64 q1, .int .i64 q2, .int .i64 q3, .int .i64 q4] 23) = w4 at *
      generalize wc.heap.size = NB at *
      clear x0 x1 x2 x3 HX3 HG3
      have x2 := HX4.out.at 2 (.int .i64 q3) rfl; have x3 := HX4.out.at 3 (.int .i64 q4) rfl
      have b2 := HB4.out.at 2 (.int .i64 q3) rfl; have b3 := HB4.out.at 3 (.int .i64 q4) rfl
      have f2 := HB4.out.fr 2 (by simp); have f3 := HB4.out.fr 3 (by simp)
      go_region
      refine end_eq (P := Exit.then _ _ Exit.normal _) ?_
      intro w6 hw6
      have hmx : max q3 p = if q3 < p then p else q3 := by omega
      have hmn : min q4 c = if c < q4 then c else q4 := by omega
      have HB6 : Hid (OwnC w6 NB [.int .i64 q1, .int .i64 q2, .int .i64 (if q3 < p then p else q3), .int .i64 (if c < q4 then c else q4)]) := by
        show OwnC _ _ _
        rw [hw6]
        first
          | exact ((HB4.out.set 2 (.int .i64 (if q3 < p then p else q3)) (by simp)).set 3 (.int .i64 (if c < q4 then c else q4)) (by simp)).drew
          | (rw [← hmx, ← hmn]; exact ((HB4.out.set 2 (.int .i64 (max q3 p)) (by simp)).set 3 (.int .i64 (min q4 c)) (by simp)).drew)
      clear hmx hmn
      have HG6 : Hid (Grew w w6) := by rw [hw6]; exact grew_drew (grew_set (grew_set HG4.out (p := ⟨NB, 2, none⟩) _ HNW.out) (p := ⟨NB, 3, none⟩) _ HNW.out)
      clear hw6 HB4 HX4 HG4 x2 x3 b2 b3 f2 f3
      apply_assumption
      generalize (if q3 < p then p else q3) = PM at *
      generalize (if c < q4 then c else q4) = CM at *
      have y0 := HB6.out.at 0 (.int .i64 q1) rfl; have y1 := HB6.out.at 1 (.int .i64 q2) rfl; have y2 := HB6.out.at 2 (.int .i64 PM) rfl; have y3 := HB6.out.at 3 (.int .i64 CM) rfl
      by_cases hE : E4 = 0
      · subst hE
        have hge := HTR2.out rfl
        have j11 : N4 ≥ N1 := by omega
        clear HTR2 hge
        go_wp2_with (first
          | (go_at_call 7; ((with_reducible refine (C4 _).mono ?_); rintro e w7 ⟨rfl, hg⟩; have HG7 := Lib.hid (grew_trans HG6.out hg); clear hg C4))
          | (go_at_call 17; ((with_reducible refine (CW _).mono ?_); rintro e w8 ⟨rfl, hg⟩; have HG8 := Lib.hid (grew_trans HG7.out hg); clear hg CW)))
        go_ret
        exact ⟨rfl, HG8.out⟩
      · clear HTR2
        go_wp2_with (first
          | (go_at_call 7; ((with_reducible refine (C4 _).mono ?_); rintro e w7 ⟨rfl, hg⟩; have HG7 := Lib.hid (grew_trans HG6.out hg); clear hg C4))
          | (go_at_call 17; ((with_reducible refine (CW _).mono ?_); rintro e w8 ⟨rfl, hg⟩; have HG8 := Lib.hid (grew_trans HG7.out hg); clear hg CW)))
        go_ret
        exact ⟨rfl, HG8.out⟩
    · go_upto_region 9 with (fail)
      generalize wc.alloc (.cells #[.int .i64 q1, .int .i64 q2, .int .i64 q3, .int .i64 q4] 23) = w4 at *
      generalize wc.heap.size = NB at *
      clear x0 x1 x2 x3 HX3 HG3
      have x2 := HX4.out.at 2 (.int .i64 q3) rfl; have x3 := HX4.out.at 3 (.int .i64 q4) rfl
      have b2 := HB4.out.at 2 (.int .i64 q3) rfl; have b3 := HB4.out.at 3 (.int .i64 q4) rfl
      have f2 := HB4.out.fr 2 (by simp); have f3 := HB4.out.fr 3 (by simp)
      go_region
      refine end_eq (P := Exit.then _ _ Exit.normal _) ?_
      intro w6 hw6
      have hmx : max q3 p = if q3 < p then p else q3 := by omega
      have hmn : min q4 c = if c < q4 then c else q4 := by omega
      have HB6 : Hid (OwnC w6 NB [.int .i64 q1, .int .i64 q2, .int .i64 (if q3 < p then p else q3), .int .i64 (if c < q4 then c else q4)]) := by
        show OwnC _ _ _
        rw [hw6]
        first
          | exact ((HB4.out.set 2 (.int .i64 (if q3 < p then p else q3)) (by simp)).set 3 (.int .i64 (if c < q4 then c else q4)) (by simp)).drew
          | (rw [← hmx, ← hmn]; exact ((HB4.out.set 2 (.int .i64 (max q3 p)) (by simp)).set 3 (.int .i64 (min q4 c)) (by simp)).drew)
      clear hmx hmn
      have HG6 : Hid (Grew w w6) := by rw [hw6]; exact grew_drew (grew_set (grew_set HG4.out (p := ⟨NB, 2, none⟩) _ HNW.out) (p := ⟨NB, 3, none⟩) _ HNW.out)
      clear hw6 HB4 HX4 HG4 x2 x3 b2 b3 f2 f3
      apply_assumption
      generalize (if q3 < p then p else q3) = PM at *
      generalize (if c < q4 then c else q4) = CM at *
      have y0 := HB6.out.at 0 (.int .i64 q1) rfl; have y1 := HB6.out.at 1 (.int .i64 q2) rfl; have y2 := HB6.out.at 2 (.int .i64 PM) rfl; have y3 := HB6.out.at 3 (.int .i64 CM) rfl
      by_cases hE : E4 = 0
      · subst hE
        have hge := HTR2.out rfl
        have j11 : N4 ≥ N1 := by omega
        clear HTR2 hge
        go_wp2_with (first
          | (go_at_call 7; ((with_reducible refine (C4 _).mono ?_); rintro e w7 ⟨rfl, hg⟩; have HG7 := Lib.hid (grew_trans HG6.out hg); clear hg C4))
          | (go_at_call 17; ((with_reducible refine (CW _).mono ?_); rintro e w8 ⟨rfl, hg⟩; have HG8 := Lib.hid (grew_trans HG7.out hg); clear hg CW)))
        go_ret
        exact ⟨rfl, HG8.out⟩
      · clear HTR2
        go_wp2_with (first
          | (go_at_call 7; ((with_reducible refine (C4 _).mono ?_); rintro e w7 ⟨rfl, hg⟩; have HG7 := Lib.hid (grew_trans HG6.out hg); clear hg C4))
          | (go_at_call 17; ((with_reducible refine (CW _).mono ?_); rintro e w8 ⟨rfl, hg⟩; have HG8 := Lib.hid (grew_trans HG7.out hg); clear hg CW)))
        go_ret
        exact ⟨rfl, HG8.out⟩
  · have H : (E1 = 0 ∧ E2 = 0 ∧ n ≤ 1073741824 ∧ ¬ m ≤ 1073741824) ∨ (E1 = 0 ∧ E2 = 0 ∧ ¬ n ≤ 1073741824) ∨ (E1 = 0 ∧ ¬ E2 = 0) ∨ ¬ E1 = 0 := by omega
    clear HLAW HTRM hc C3 C4 HX2
    rcases H with ⟨rfl, rfl, h1, h2⟩ | ⟨rfl, rfl, h1⟩ | ⟨rfl, h1⟩ | h1
    · have j1 : ¬ n > 1073741824 := by omega
      have j2 : m > 1073741824 := by omega
      go_wp2_with (go_at_call 17; ((with_reducible refine (CW _).mono ?_); rintro e wz ⟨rfl, hg⟩; have HGZ := Lib.hid (grew_trans HG2.out hg); clear hg CW))
      go_ret
      exact ⟨rfl, HGZ.out⟩
    · have j1 : n > 1073741824 := by omega
      go_wp2_with (go_at_call 17; ((with_reducible refine (CW _).mono ?_); rintro e wz ⟨rfl, hg⟩; have HGZ := Lib.hid (grew_trans HG2.out hg); clear hg CW))
      go_ret
      exact ⟨rfl, HGZ.out⟩
    · go_wp2_with (go_at_call 17; ((with_reducible refine (CW _).mono ?_); rintro e wz ⟨rfl, hg⟩; have HGZ := Lib.hid (grew_trans HG2.out hg); clear hg CW))
      go_ret
      exact ⟨rfl, HGZ.out⟩
    · go_wp2_with (go_at_call 17; ((with_reducible refine (CW _).mono ?_); rintro e wz ⟨rfl, hg⟩; have HGZ := Lib.hid (grew_trans HG2.out hg); clear hg CW))
      go_ret
      exact ⟨rfl, HGZ.out⟩
end Go.Proofs.Ytckdbbjeifindaa.NumK
namespace Go.Proofs.Ytckdbbjeifindaa.NumK
open Go.RowKit
set_option linter.unusedVariables false

theorem coverValues_row (w : World) {cs0 : Array Value} {x : As} (n m p c : Int) (h0 : spAs.rd w cs0.toList x) :
    Calls Try.prog 4 #[.agg cs0, .int .i64 n, .int .i64 m, .int .i64 p, .int .i64 c] w fun e w' => e = .returned (.bool true) ∧ Grew w w' := by
  rw [asset_of h0]
  exact coverValues_walk x n m p c w
end Go.Proofs.Ytckdbbjeifindaa.NumK
namespace Go.Proofs.Ytckdbbjeifindaa.coverValues
open Go.ChangeShapes Go.WideShapes Go.ChangeAt Go.RowKit
set_option linter.unusedVariables false

theorem own : ownKnob Try.prog.godebug = none := by kernel_rfl
theorem laidOut : laidOutB Try.prog = true := by kernel_rfl

set_option maxRecDepth 100000 in
theorem lifted (os : Os) (started : os.Started) (H : Type) (enc : TypeId × Value → H) :
    ReturnsInHanded {} Try.checked os 4 .any (Rows.coverValuesSpec.pre6 enc Try.prog Try.f4 Rows.coverValuesRow.domain false) (Rows.coverValuesSpec.post enc Try.prog Try.f4 false true false false) := by
  refine returnsInHanded_of_change (C := Try.checked) own started (by kernel_rfl) Try.func4
    (ChangeSpec.witness6 (enc := enc) (C := Try.checked) false ⟨#[], #[.agg #[.int .i64 0, .int .i64 0, .int .i64 0, .int .i64 0], .int .i64 0, .int .i64 0, .int .i64 0, .int .i64 0], []⟩ 8 (by kernel_rfl) (by kernel_rfl) (by kernel_rfl) (by kernel_rfl)) ?_
  intro W base args ds gs before hval0 hW hcnd _
  have hval : ∀ (j : Nat) t v, Try.f4.params[j]? = some t → args[j]? = some v → Value.okWide Try.prog W .any base t v := hval0
  have hW' := hW
  obtain ⟨p, q, hA0, hV, rfl, hfz, hnd⟩ := hW
  have hA : DataW.TrodAll enc Try.prog W 0 (fun _ => true) true Try.f4.params.toList args.toList ds p := hA0
  skip
  rw [Try.params4] at hA hval
  obtain ⟨v0, vs0, d0, ds0, p0, q0, hargs, rfl, rfl, h0, r0⟩ := trodAll_cons hA
  obtain ⟨v1, vs1, d1, ds1, p1, q1, rfl, rfl, rfl, h1, r1⟩ := trodAll_cons r0
  obtain ⟨v2, vs2, d2, ds2, p2, q2, rfl, rfl, rfl, h2, r2⟩ := trodAll_cons r1
  obtain ⟨v3, vs3, d3, ds3, p3, q3, rfl, rfl, rfl, h3, r3⟩ := trodAll_cons r2
  obtain ⟨v4, vs4, d4, ds4, p4, q4, rfl, rfl, rfl, h4, r4⟩ := trodAll_cons r3
  obtain ⟨rfl, rfl, rfl⟩ := trodAll_nil r4
  obtain rfl : args = #[v0, v1, v2, v3, v4] := by cases args; simp_all
  obtain ⟨rfl, rfl⟩ := trodVars_none hV
  have k0 := h0
  have lt0 : ∀ x ∈ p0, x.block < W.heap.size := by obtain ⟨m, hm⟩ := k0; exact DataW.trod_lt m _ _ _ hm
  obtain ⟨cs0, x0, rfl, e0⟩ := NumK.arg_struct Try.underlying23 NumK.opens_asset (hval 0 23 v0 rfl rfl) h0
  obtain ⟨a1, rfl, rfl, rfl, w1⟩ := open_int Try.underlying3 (hval 1 3 v1 rfl rfl) h1
  obtain ⟨a2, rfl, rfl, rfl, w2⟩ := open_int Try.underlying3 (hval 2 3 v2 rfl rfl) h2
  obtain ⟨a3, rfl, rfl, rfl, w3⟩ := open_int Try.underlying3 (hval 3 3 v3 rfl rfl) h3
  obtain ⟨a4, rfl, rfl, rfl, w4⟩ := open_int Try.underlying3 (hval 4 3 v4 rfl rfl) h4
  clear hA0 hval0
  refine (NumK.coverValues_row W a1 a2 a3 a4 e0).mono fun e W' ⟨he, bel⟩ => ?_
  subst he
  exact ⟨_, rfl, _, _, _, [], _, [], hW', trodAll_mk1 (shut_bool Try.underlying4 _), (trodAll_cons_mk (Below.trod laidOut (by kernel_rfl) (of_decide_eq_true (by kernel_rfl)) k0 bel lt0) (trodAll_cons_mk (shut_int Try.underlying3 w1) (trodAll_cons_mk (shut_int Try.underlying3 w2) (trodAll_cons_mk (shut_int Try.underlying3 w3) (trodAll_cons_mk (shut_int Try.underlying3 w4) trodAll_mk0))))), rfl, bel.frame _, fun h => by cases h⟩

theorem over : Rows.coverValuesRow.holds Try.pinned (OpenSpec.ofChange Rows.coverValuesSpec) :=
  OpenClaim.holds_of_wide 4 Try.f4 rfl rfl rfl rfl rfl rfl rfl ⟨rfl, rfl, rfl, rfl, rfl⟩ rfl rfl rfl rfl rfl (by kernel_rfl) Try.func4 (by kernel_rfl)
    (of_decide_eq_true (by kernel_rfl)) (by unfold Func.isWrapper; first | (rw [if_pos (by decide +kernel)]; kernel_rfl) | (rw [if_neg (by decide +kernel)]; exact ⟨rfl, rfl⟩))
    (fun os started H enc _ => lifted os started H enc)

/-! ### the statement -/
theorem proved : Rows.CoverValuesSaid := over
end Go.Proofs.Ytckdbbjeifindaa.coverValues
