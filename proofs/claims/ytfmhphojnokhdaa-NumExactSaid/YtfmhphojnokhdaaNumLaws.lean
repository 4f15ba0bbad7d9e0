/- The walks of stage 1's laws over the contracts of num. -/
import Derived.Test.YtfmhphojnokhdaaNumB
namespace Go.Proofs.Ytfmhphojnokhdaa.NumK
open Go.RowKit

theorem sum3_at (a b c v e : Int) (h1 : sumV [a, b, c] = v) (h2 : sumE [a, b, c] = e) (w : World) :
    Calls Try.prog 10 #[.slice (some ⟨w.heap.size, 0, none⟩) 3 3] (w.alloc (.cells #[.int .i64 a, .int .i64 b, .int .i64 c] 3)) fun r w' => r = .returned (.tuple #[.int .i64 v, .int .i64 e]) ∧ Grew (w.alloc (.cells #[.int .i64 a, .int .i64 b, .int .i64 c] 3)) w' := by
  subst h1 h2; exact sum_any _ 3 3 [a, b, c] _ (ints3' w a b c 3 _ rfl) (by omega)
theorem sum2_at (a b v e : Int) (h1 : sumV [a, b] = v) (h2 : sumE [a, b] = e) (w : World) :
    Calls Try.prog 10 #[.slice (some ⟨w.heap.size, 0, none⟩) 2 2] (w.alloc (.cells #[.int .i64 a, .int .i64 b] 3)) fun r w' => r = .returned (.tuple #[.int .i64 v, .int .i64 e]) ∧ Grew (w.alloc (.cells #[.int .i64 a, .int .i64 b] 3)) w' := by
  subst h1 h2; exact sum_any _ 2 2 [a, b] _ (ints2' w a b 3 _ rfl) (by omega)
theorem sum0_at (w : World) :
    Calls Try.prog 10 #[.slice none 0 0] w fun r w' => r = .returned (.tuple #[.int .i64 0, .int .i64 0]) ∧ Grew w w' :=
  sum_any none 0 0 [] w (ints0 w none) (by omega)
theorem right0_at (w : World) :
    Calls Try.prog 8 #[.slice none 0 0] w fun r w' => r = .returned (.bool true) ∧ w = w' :=
  right_any none 0 0 [] w (ints0 w none) (by omega)
theorem less_at (a b v e : Int) (h1 : sumV [a, -b] = v) (h2 : sumE [a, -b] = e) (ha : -9223372036854775808 ≤ a ∧ a ≤ 9223372036854775807) (hb : -9223372036854775808 ≤ b ∧ b ≤ 9223372036854775807) (w : World) :
    Calls Try.prog 13 #[.int .i64 a, .int .i64 b] w fun r w' => r = .returned (.tuple #[.int .i64 v, .int .i64 e]) ∧ Grew w w' := by
  subst h1 h2; exact less_any a b w ha hb
theorem times_at (a b v e : Int) (h1 : mulV a b = v) (h2 : mulE a b = e) (w : World) :
    Calls Try.prog 14 #[.int .i64 a, .int .i64 b] w fun r w' => r = .returned (.tuple #[.int .i64 v, .int .i64 e]) ∧ Grew w w' := by
  subst h1 h2; exact times_any a b w
theorem quo_at (a b q r : Int) (ha : isMoney a = true) (hb : isMoney b = true) (h0 : b ≠ 0) (h1 : a.fdiv b = q) (h2 : a.fmod b = r) (w : World) :
    Calls Try.prog 16 #[.int .i64 a, .int .i64 b] w fun e w' => e = .returned (.tuple #[.int .i64 q, .int .i64 r, .int .i64 0]) ∧ Grew w w' := by
  subst h1 h2; exact quo_right a b w ha hb h0

set_option maxHeartbeats 1000000 in
theorem numEnds_walk (w : World) :
    Calls Try.prog 7 #[] w fun e w' => e = .returned (.bool true) ∧ Grew w w' := by
  have c1 := sum3_at 4611686018427387904 (-1) 1 4611686018427387904 0 (by decide) (by decide)
  have c2 := sum2_at 4611686018427387904 1 0 1 (by decide) (by decide)
  have c3 := less_at (-4611686018427387904) 0 (-4611686018427387904) 0 (by decide) (by decide) (by omega) (by omega)
  have c4 := less_at (-4611686018427387904) 1 0 1 (by decide) (by decide) (by omega) (by omega)
  have c5 := times_at 2147483648 2147483648 4611686018427387904 0 (by decide) (by decide)
  have c6 := times_at 2147483648 2147483649 0 1 (by decide) (by decide)
  have c7 := times_at (-2147483648) 2147483648 (-4611686018427387904) 0 (by decide) (by decide)
  have c8 := quo_at (-4611686018427387904) (-1) 4611686018427387904 0 (by decide) (by decide) (by decide) (by decide) (by decide)
  have c9 := fun w => quo_wrong 4611686018427387905 1 w (by decide)
  have c10 := fun w => quo_zero 5 w (by decide)
  go_enter Try.func7, Try.ntmps7
  go_wp2_with (first
    | (go_at_call 10; ((with_reducible refine (c1 _).mono ?_); rintro e w1 ⟨rfl, hg1⟩))
    | (go_at_call 10; ((with_reducible refine (c2 _).mono ?_); rintro e w2 ⟨rfl, hg2⟩))
    | (go_at_call 10; ((with_reducible refine (sum0_at _).mono ?_); rintro e w11 ⟨rfl, hg11⟩))
    | (go_at_call 13; ((with_reducible refine (c3 _).mono ?_); rintro e w3 ⟨rfl, hg3⟩))
    | (go_at_call 13; ((with_reducible refine (c4 _).mono ?_); rintro e w4 ⟨rfl, hg4⟩))
    | (go_at_call 14; ((with_reducible refine (c5 _).mono ?_); rintro e w5 ⟨rfl, hg5⟩))
    | (go_at_call 14; ((with_reducible refine (c6 _).mono ?_); rintro e w6 ⟨rfl, hg6⟩))
    | (go_at_call 14; ((with_reducible refine (c7 _).mono ?_); rintro e w7 ⟨rfl, hg7⟩))
    | (go_at_call 16; ((with_reducible refine (c8 _).mono ?_); rintro e w8 ⟨rfl, hg8⟩))
    | (go_at_call 16; ((with_reducible refine (c9 _).mono ?_); rintro e w9 ⟨rfl, hg9⟩))
    | (go_at_call 16; ((with_reducible refine (c10 _).mono ?_); rintro e w10 ⟨rfl, hg10⟩))
    | (go_at_call 8; ((with_reducible refine (right0_at _).mono ?_); rintro e w' ⟨rfl, rfl⟩))
    | (go_at_call 19; ((with_reducible refine (wakes_any _).mono ?_); rintro e w12 ⟨rfl, hg12⟩)))
  go_ret
  refine ⟨rfl, ?_⟩
  refine grew_trans (grew_alloc _ _ _) (grew_trans hg1 (grew_trans (grew_alloc _ _ _) (grew_trans hg2 ?_)))
  exact grew_trans hg3 (grew_trans hg4 (grew_trans hg5 (grew_trans hg6 (grew_trans hg7 (grew_trans hg8 (grew_trans hg9 (grew_trans hg10 (grew_trans hg11 hg12))))))))

set_option maxHeartbeats 1000000 in
theorem numBack_wrong (a b : Int) (w : World) (h : [a, b].all isMoney = false) :
    Calls Try.prog 5 #[.int .i64 a, .int .i64 b] w fun e w' => e = .returned (.bool true) ∧ Grew w w' := by
  have c := fun w => quo_wrong a b w h
  clear h
  go_enter Try.func5, Try.ntmps5
  go_wp2_with (first
    | (go_at_call 16; ((with_reducible refine (c _).mono ?_); rintro e w1 ⟨rfl, hg1⟩))
    | (go_at_call 19; ((with_reducible refine (wakes_any _).mono ?_); rintro e w2 ⟨rfl, hg2⟩)))
  go_ret
  exact ⟨rfl, grew_trans hg1 hg2⟩

set_option maxHeartbeats 1000000 in
theorem numBack_zero (a : Int) (w : World) (h : isMoney a = true) :
    Calls Try.prog 5 #[.int .i64 a, .int .i64 0] w fun e w' => e = .returned (.bool true) ∧ Grew w w' := by
  have c := fun w => quo_zero a w h
  clear h
  go_enter Try.func5, Try.ntmps5
  go_wp2_with (first
    | (go_at_call 16; ((with_reducible refine (c _).mono ?_); rintro e w1 ⟨rfl, hg1⟩))
    | (go_at_call 19; ((with_reducible refine (wakes_any _).mono ?_); rintro e w2 ⟨rfl, hg2⟩)))
  go_ret
  exact ⟨rfl, grew_trans hg1 hg2⟩

set_option maxHeartbeats 1000000 in
theorem numBack_right (a b : Int) (w : World) (ha : isMoney a = true) (hb : isMoney b = true) (h0 : b ≠ 0) :
    Calls Try.prog 5 #[.int .i64 a, .int .i64 b] w fun e w' => e = .returned (.bool true) ∧ Grew w w' := by
  have c := quo_at a b _ _ ha hb h0 rfl rfl
  obtain ⟨f1, f2, f3, f4, f5⟩ := floor_facts a b h0
  have c2 : isMoney (a * b) = true → ∀ w, Calls Try.prog 16 #[.int .i64 (a * b), .int .i64 b] w fun e w' => e = .returned (.tuple #[.int .i64 a, .int .i64 0, .int .i64 0]) ∧ Grew w w' := fun hm => by
    have f := floor_unique (a * b) b a 0 (by omega) (fun _ => by omega) (fun _ => by omega) h0
    exact quo_at (a * b) b a 0 hm hb h0 f.1 f.2
  have hr : [a, b].all isMoney = true := by simp [ha, hb]
  generalize a.fdiv b = q at *
  generalize a.fmod b = r at *
  have b1 := (isMoney_iff a).1 ha
  have b2 := (isMoney_iff b).1 hb
  have g1 : q * b = a - r := by omega
  have g2 : -4611686018427387904 ≤ r ∧ r ≤ 4611686018427387904 := by omega
  obtain ⟨a1, a2⟩ := b1
  obtain ⟨b1, b2⟩ := b2
  obtain ⟨r1, r2⟩ := g2
  have d5 : (wrap64 (wrap64 (a - r) + r) != a) = false := by
    have e : wrap64 (wrap64 (a - r) + r) = a := by unfold wrap64; omega
    rw [e]; simp
  by_cases hm : isMoney (a * b) = true
  · have c3 := c2 hm
    have c4 := times_at a b (a * b) 0 (by rw [mulV_in hr, capV_in hm]) (by rw [mulE_in hr, capE_in hm])
    generalize a * b = p at *
    clear c2 hm ha hb f1 hr
    by_cases s : b < 0
    · have t1 := f3 s
      have d1 : decide (0 < b) = false := by simp; omega
      have d2 : decide (b < 0) = true := by simp; omega
      have d3 : decide (0 < r) = false := by simp; omega
      have d4 : decide (r ≤ b) = false := by simp; omega
      clear f2 f3 f4 f5 t1
      go_enter Try.func5, Try.ntmps5
      go_wp2_with (first
        | (go_at_call 16; ((with_reducible refine (c _).mono ?_); rintro e w1 ⟨rfl, hg1⟩))
        | (go_at_call 16; ((with_reducible refine (c3 _).mono ?_); rintro e w2 ⟨rfl, hg2⟩))
        | (go_at_call 14; ((with_reducible refine (c4 _).mono ?_); rintro e w3 ⟨rfl, hg3⟩))
        | (go_at_call 19; ((with_reducible refine (wakes_any _).mono ?_); rintro e w4 ⟨rfl, hg4⟩)))
      go_ret
      exact ⟨rfl, grew_trans hg1 (grew_trans hg3 (grew_trans hg2 hg4))⟩
    · have t1 := f2 (by omega)
      have d1 : decide (0 < b) = true := by simp; omega
      have d2 : decide (b < 0) = false := by simp; omega
      have d3 : decide (r < 0) = false := by simp; omega
      have d4 : decide (b ≤ r) = false := by simp; omega
      clear f2 f3 f4 f5 t1
      go_enter Try.func5, Try.ntmps5
      go_wp2_with (first
        | (go_at_call 16; ((with_reducible refine (c _).mono ?_); rintro e w1 ⟨rfl, hg1⟩))
        | (go_at_call 16; ((with_reducible refine (c3 _).mono ?_); rintro e w2 ⟨rfl, hg2⟩))
        | (go_at_call 14; ((with_reducible refine (c4 _).mono ?_); rintro e w3 ⟨rfl, hg3⟩))
        | (go_at_call 19; ((with_reducible refine (wakes_any _).mono ?_); rintro e w4 ⟨rfl, hg4⟩)))
      go_ret
      exact ⟨rfl, grew_trans hg1 (grew_trans hg3 (grew_trans hg2 hg4))⟩
  · simp only [Bool.not_eq_true] at hm
    have c4 := times_at a b 0 1 (by rw [mulV_in hr, capV_out hm]) (by rw [mulE_in hr, capE_out hm])
    generalize a * b = p at *
    clear c2 hm ha hb f1 hr
    by_cases s : b < 0
    · have t1 := f3 s
      have d1 : decide (0 < b) = false := by simp; omega
      have d2 : decide (b < 0) = true := by simp; omega
      have d3 : decide (0 < r) = false := by simp; omega
      have d4 : decide (r ≤ b) = false := by simp; omega
      clear f2 f3 f4 f5 t1
      go_enter Try.func5, Try.ntmps5
      go_wp2_with (first
        | (go_at_call 16; ((with_reducible refine (c _).mono ?_); rintro e w1 ⟨rfl, hg1⟩))
        | (go_at_call 14; ((with_reducible refine (c4 _).mono ?_); rintro e w3 ⟨rfl, hg3⟩))
        | (go_at_call 19; ((with_reducible refine (wakes_any _).mono ?_); rintro e w4 ⟨rfl, hg4⟩)))
      go_ret
      exact ⟨rfl, grew_trans hg1 (grew_trans hg3 hg4)⟩
    · have t1 := f2 (by omega)
      have d1 : decide (0 < b) = true := by simp; omega
      have d2 : decide (b < 0) = false := by simp; omega
      have d3 : decide (r < 0) = false := by simp; omega
      have d4 : decide (b ≤ r) = false := by simp; omega
      clear f2 f3 f4 f5 t1
      go_enter Try.func5, Try.ntmps5
      go_wp2_with (first
        | (go_at_call 16; ((with_reducible refine (c _).mono ?_); rintro e w1 ⟨rfl, hg1⟩))
        | (go_at_call 14; ((with_reducible refine (c4 _).mono ?_); rintro e w3 ⟨rfl, hg3⟩))
        | (go_at_call 19; ((with_reducible refine (wakes_any _).mono ?_); rintro e w4 ⟨rfl, hg4⟩)))
      go_ret
      exact ⟨rfl, grew_trans hg1 (grew_trans hg3 hg4)⟩

theorem numBack_walk (a b : Int) (w : World) :
    Calls Try.prog 5 #[.int .i64 a, .int .i64 b] w fun e w' => e = .returned (.bool true) ∧ Grew w w' := by
  by_cases ha : isMoney a = true
  · by_cases hb : isMoney b = true
    · by_cases h0 : b = 0
      · subst h0; exact numBack_zero a w ha
      · exact numBack_right a b w ha hb h0
    · exact numBack_wrong a b w (by simp only [Bool.not_eq_true] at hb; simp [hb])
  · exact numBack_wrong a b w (by simp only [Bool.not_eq_true] at ha; simp [ha])
end Go.Proofs.Ytfmhphojnokhdaa.NumK
