/- The walk of NumExact over the contracts of num and of the reference. -/
import Derived.Test.YtfmhphojnokhdaaNumSums
import Derived.Test.YtfmhphojnokhdaaRef01D
namespace Go.Proofs.Ytfmhphojnokhdaa.NumK
open Go.RowKit

theorem capV_int (x : Int) : capV x = intV x := rfl
theorem capE_ok (x : Int) : (capE x == 0) = isMoney x := by unfold capE; cases h : isMoney x <;> simp
theorem capE_arg (x : Int) : (capE x == 3) = false := by unfold capE; cases h : isMoney x <;> simp

set_option maxRecDepth 100000 in
set_option maxHeartbeats 4000000 in
theorem numExact_small (A : Option Addr) (n c : Nat) (l : List Int) (a b lo hi : Int) (w : World) (hl : Ints w A n l) (hb : ∀ z ∈ l, -9223372036854775808 ≤ z ∧ z ≤ 9223372036854775807) (hn : n ≤ 2000)
    (ba : -9223372036854775808 ≤ a ∧ a ≤ 9223372036854775807) (bb : -9223372036854775808 ≤ b ∧ b ≤ 9223372036854775807) :
    Calls Try.prog 3 #[.slice A n c, .int .i64 a, .int .i64 b, .int .i64 lo, .int .i64 hi] w fun e w' => e = .returned (.bool true) ∧ Grew w w' := by
  have HL := Lib.hid hl
  have c1 := right_any A n c l w hl (by omega)
  have c2 := all_any A n c l w hl (by omega)
  have c3 := sum_any A n c l w hl (by omega)
  have c4 := fun w' (g : Grew w w') => add_any A n c l w' (hl.keep g) hb (by omega)
  have c5 := fun w' (g : Grew w w') => all_any A n c l w' (hl.keep g) (by omega)
  have C4 := Lib.hid c4
  have C5 := Lib.hid c5
  have BA := Lib.hid ba
  have BB := Lib.hid bb
  clear hl hb c4 c5 ba bb
  go_enter Try.func3, Try.ntmps3
  go_upto_region 7 with (first
    | (go_at_call 8; ((with_reducible refine c1.mono ?_); rintro e w' ⟨rfl, rfl⟩))
    | (go_at_call 9; ((with_reducible refine c2.mono ?_); rintro e w' ⟨rfl, rfl⟩))
    | (go_at_call 10; ((with_reducible refine c3.mono ?_); rintro e w1 ⟨rfl, hg1⟩))
    | (go_at_call 11; ((with_reducible refine (C4.out _ hg1).mono ?_); rintro e w2 ⟨rfl, hg2⟩)))
  go_cut [11, 12, 13, 14, 71] (fun s11 s12 s13 s14 s71 wx => s71 = .bool false ∧ w2 = wx)
  case first =>
    by_cases hall : l.all isMoney = true
    · have e1 := sumV_in hall
      have e2 := sumE_in hall
      by_cases hm : isMoney l.sum = true
      · have e3 := intV_in hm
        rw [capV_in hm] at e1
        rw [capE_in hm] at e2
        rw [hall] at C5
        clear hall
        go_wp2_with (go_at_call 9; ((with_reducible refine (C5.out _ (grew_trans hg1 hg2)).mono ?_); rintro e w' ⟨rfl, rfl⟩))
        go_meet
        case rel => exact ⟨rfl, rfl⟩
      · simp only [Bool.not_eq_true] at hm
        have e3 := intV_out hm
        rw [capV_out hm] at e1
        rw [capE_out hm] at e2
        rw [hall] at C5
        clear hall
        go_wp2_with (go_at_call 9; ((with_reducible refine (C5.out _ (grew_trans hg1 hg2)).mono ?_); rintro e w' ⟨rfl, rfl⟩))
        go_meet
        case rel => exact ⟨rfl, rfl⟩
    · simp only [Bool.not_eq_true] at hall
      have e1 := sumV_out hall
      have e2 := sumE_out hall
      rw [hall] at C5
      clear hall
      go_wp2_with (go_at_call 9; ((with_reducible refine (C5.out _ (grew_trans hg1 hg2)).mono ?_); rintro e w' ⟨rfl, rfl⟩))
      go_meet
      case rel => exact ⟨rfl, rfl⟩
  case rest =>
    obtain ⟨rfl, rfl⟩ := hcut
    by_cases hm : isMoney a = true ∧ isMoney b = true
    · obtain ⟨ma, mb⟩ := hm
      have r1 := fun w => refRight_any a w
      have r2 := fun w => refRight_any b w
      rw [ma] at r1
      rw [mb] at r2
      have na := (isMoney_iff a).1 ma
      have nb := (isMoney_iff b).1 mb
      have h2 : [a, -b].all isMoney = true := by simp [isMoney]; omega
      have h3 : [a, b].all isMoney = true := by simp [ma, mb]
      have k1 := fun w => less_at a b _ _ (sumV_in h2) (sumE_in h2) BA.out BB.out w
      have k2 := fun w : World => add_any (some ⟨w.heap.size, 0, none⟩) 2 2 [a, -b] _ (ints2' w a (-b) 3 _ rfl) (by intro z hz; simp at hz; omega) (by omega)
      have k3 := fun w => times_at a b _ _ (mulV_in h3) (mulE_in h3) w
      have k4 := fun w => mul_any a b w ma mb
      have q1 := capE_ok [a, -b].sum
      have q2 := capE_arg [a, -b].sum
      have q3 := capE_ok (a * b)
      have q4 := capE_arg (a * b)
      simp only [capV_int] at k1 k3
      generalize [a, -b].sum = S at *
      generalize a * b = P at *
      generalize capE S = eS at *
      generalize intV S = vS at *
      generalize isMoney S = mS at *
      generalize capE P = eP at *
      generalize intV P = vP at *
      generalize isMoney P = mP at *
      obtain ⟨nb1, nb2⟩ := nb
      clear h2 h3 na
      go_upto_region 14 with (first | (go_at_call 12; ((with_reducible refine (r1 _).mono ?_); rintro e w' ⟨rfl, rfl⟩)) | (go_at_call 12; ((with_reducible refine (r2 _).mono ?_); rintro e w' ⟨rfl, rfl⟩)) | (go_at_call 13; ((with_reducible refine (k1 _).mono ?_); rintro e w3 ⟨rfl, hg3⟩)) | (go_at_call 11; ((with_reducible refine (k2 _).mono ?_); rintro e w4 ⟨rfl, hg4⟩)))
      go_cut [11, 12, 13, 14, 111] (fun s11 s12 s13 s14 s wx => s = .bool false ∧ w4 = wx)
      case first =>
        go_wp2_with fail
        all_goals
          go_meet
          go_light
          case rel =>
            refine ⟨congrArg Value.bool ?_, rfl⟩
            first | rfl | simp_all
      case rest =>
        obtain ⟨rfl, rfl⟩ := hcut
        go_upto_region 19 with (first | (go_at_call 14; ((with_reducible refine (k3 _).mono ?_); rintro e w5 ⟨rfl, hg5⟩)) | (go_at_call 15; ((with_reducible refine (k4 _).mono ?_); rintro e w6 ⟨rfl, hg6⟩)))
        go_cut [11, 12, 13, 14, 143] (fun s11 s12 s13 s14 s wx => s = .bool false ∧ w6 = wx)
        case first =>
          go_wp2_with fail
          all_goals
            go_meet
            go_light
            case rel =>
              refine ⟨congrArg Value.bool ?_, rfl⟩
              first | rfl | simp_all
        case rest =>
          obtain ⟨rfl, rfl⟩ := hcut
          by_cases hb0 : b = 0
          · subst hb0
            have k5 := fun w => quo_zero a w ma
            clear ma mb
            go_upto_region 28 with (first | (go_at_call 16; ((with_reducible refine (k5 _).mono ?_); rintro e w7 ⟨rfl, hg7⟩)))
            by_cases z1 : hi < a <;> by_cases z2 : lo < (if hi < a then hi else a)
            all_goals
              have z3 : (max lo (min a hi) == (if lo < (if hi < a then hi else a) then (if hi < a then hi else a) else lo)) = true := by
                have : max lo (min a hi) = (if lo < (if hi < a then hi else a) then (if hi < a then hi else a) else lo) := by split <;> split <;> omega
                rw [this]; simp
              simp only [z1, if_true, if_false] at z2 z3
              go_wp2_with (first | (go_at_call 18; ((with_reducible refine (part_any _ _ _ _).mono ?_); rintro e w' ⟨rfl, rfl⟩)) | (go_at_call 19; ((with_reducible refine (wakes_any _).mono ?_); rintro e w9 ⟨rfl, hg9⟩)))
              go_ret
              exact ⟨rfl, grew_trans hg1 (grew_trans hg2 (grew_trans hg3 (grew_trans (grew_alloc _ _ _) (grew_trans hg4 (grew_trans hg5 (grew_trans hg6 (grew_trans hg7 hg9)))))))⟩
          · have k5 := quo_at a b _ _ ma mb hb0 rfl rfl
            have k6 := fun w => floor_any a b w ma mb hb0
            have hb1 : (b == 0) = false := by simpa using hb0
            generalize a.fdiv b = fq at *
            generalize a.fmod b = fr at *
            clear ma mb
            go_upto_region 28 with (first | (go_at_call 16; ((with_reducible refine (k5 _).mono ?_); rintro e w7 ⟨rfl, hg7⟩)) | (go_at_call 17; ((with_reducible refine (k6 _).mono ?_); rintro e w8 ⟨rfl, hg8⟩)))
            by_cases z1 : hi < a <;> by_cases z2 : lo < (if hi < a then hi else a)
            all_goals
              have z3 : (max lo (min a hi) == (if lo < (if hi < a then hi else a) then (if hi < a then hi else a) else lo)) = true := by
                have : max lo (min a hi) = (if lo < (if hi < a then hi else a) then (if hi < a then hi else a) else lo) := by split <;> split <;> omega
                rw [this]; simp
              simp only [z1, if_true, if_false] at z2 z3
              go_wp2_with (first | (go_at_call 18; ((with_reducible refine (part_any _ _ _ _).mono ?_); rintro e w' ⟨rfl, rfl⟩)) | (go_at_call 19; ((with_reducible refine (wakes_any _).mono ?_); rintro e w9 ⟨rfl, hg9⟩)))
              go_ret
              exact ⟨rfl, grew_trans hg1 (grew_trans hg2 (grew_trans hg3 (grew_trans (grew_alloc _ _ _) (grew_trans hg4 (grew_trans hg5 (grew_trans hg6 (grew_trans hg7 (grew_trans hg8 hg9))))))))⟩
    · have h2 : [a, -b].all isMoney = false := by
        rw [← Bool.not_eq_true]; simp only [List.all_cons, List.all_nil, Bool.and_eq_true, isMoney_iff] at *; omega
      have h3 : [a, b].all isMoney = false := by rw [← Bool.not_eq_true]; simpa using hm
      have k1 := fun w => less_at a b _ _ (sumV_out h2) (sumE_out h2) BA.out BB.out w
      have k3 := fun w => times_at a b _ _ (mulV_out h3) (mulE_out h3) w
      have k5 := fun w => quo_wrong a b w h3
      have r1 := fun w => refRight_any a w
      have r2 := fun w => refRight_any b w
      clear h2 h3
      by_cases ma : isMoney a = true
      · have mb : isMoney b = false := by rw [← Bool.not_eq_true]; exact fun h => hm ⟨ma, h⟩
        rw [ma] at r1
        rw [mb] at r2
        clear hm ma mb
        go_upto_region 28 with (first | (go_at_call 12; ((with_reducible refine (r1 _).mono ?_); rintro e w' ⟨rfl, rfl⟩)) | (go_at_call 12; ((with_reducible refine (r2 _).mono ?_); rintro e w' ⟨rfl, rfl⟩)) | (go_at_call 13; ((with_reducible refine (k1 _).mono ?_); rintro e w3 ⟨rfl, hg3⟩)) | (go_at_call 14; ((with_reducible refine (k3 _).mono ?_); rintro e w5 ⟨rfl, hg5⟩)) | (go_at_call 16; ((with_reducible refine (k5 _).mono ?_); rintro e w7 ⟨rfl, hg7⟩)))
        by_cases z1 : hi < a <;> by_cases z2 : lo < (if hi < a then hi else a)
        all_goals
          have z3 : (max lo (min a hi) == (if lo < (if hi < a then hi else a) then (if hi < a then hi else a) else lo)) = true := by
            have : max lo (min a hi) = (if lo < (if hi < a then hi else a) then (if hi < a then hi else a) else lo) := by split <;> split <;> omega
            rw [this]; simp
          simp only [z1, if_true, if_false] at z2 z3
          go_wp2_with (first | (go_at_call 18; ((with_reducible refine (part_any _ _ _ _).mono ?_); rintro e w' ⟨rfl, rfl⟩)) | (go_at_call 19; ((with_reducible refine (wakes_any _).mono ?_); rintro e w9 ⟨rfl, hg9⟩)))
          go_ret
          exact ⟨rfl, grew_trans hg1 (grew_trans hg2 (grew_trans hg3 (grew_trans hg5 (grew_trans hg7 hg9))))⟩
      · simp only [Bool.not_eq_true] at ma
        rw [ma] at r1
        clear hm ma r2
        go_upto_region 28 with (first | (go_at_call 12; ((with_reducible refine (r1 _).mono ?_); rintro e w' ⟨rfl, rfl⟩)) | (go_at_call 13; ((with_reducible refine (k1 _).mono ?_); rintro e w3 ⟨rfl, hg3⟩)) | (go_at_call 14; ((with_reducible refine (k3 _).mono ?_); rintro e w5 ⟨rfl, hg5⟩)) | (go_at_call 16; ((with_reducible refine (k5 _).mono ?_); rintro e w7 ⟨rfl, hg7⟩)))
        by_cases z1 : hi < a <;> by_cases z2 : lo < (if hi < a then hi else a)
        all_goals
          have z3 : (max lo (min a hi) == (if lo < (if hi < a then hi else a) then (if hi < a then hi else a) else lo)) = true := by
            have : max lo (min a hi) = (if lo < (if hi < a then hi else a) then (if hi < a then hi else a) else lo) := by split <;> split <;> omega
            rw [this]; simp
          simp only [z1, if_true, if_false] at z2 z3
          go_wp2_with (first | (go_at_call 18; ((with_reducible refine (part_any _ _ _ _).mono ?_); rintro e w' ⟨rfl, rfl⟩)) | (go_at_call 19; ((with_reducible refine (wakes_any _).mono ?_); rintro e w9 ⟨rfl, hg9⟩)))
          go_ret
          exact ⟨rfl, grew_trans hg1 (grew_trans hg2 (grew_trans hg3 (grew_trans hg5 (grew_trans hg7 hg9))))⟩

set_option maxRecDepth 100000 in
theorem numExact_big (A : Option Addr) (n c : Nat) (a b lo hi : Int) (w : World) (hn : n ≤ 9223372036854775807) (h : 2000 < n) :
    Calls Try.prog 3 #[.slice A n c, .int .i64 a, .int .i64 b, .int .i64 lo, .int .i64 hi] w fun e w' => e = .returned (.bool true) ∧ Grew w w' := by
  have d1 : decide (2000 < (n : Int)) = true := by simp; omega
  clear h
  go_enter Try.func3, Try.ntmps3
  go_wp2
  go_ret
  exact ⟨rfl, grew_refl _⟩

theorem numExact_walk (A : Option Addr) (n c : Nat) (l : List Int) (a b lo hi : Int) (w : World) (hl : Ints w A n l) (hb : ∀ z ∈ l, -9223372036854775808 ≤ z ∧ z ≤ 9223372036854775807) (hn : n ≤ 9223372036854775807)
    (ba : -9223372036854775808 ≤ a ∧ a ≤ 9223372036854775807) (bb : -9223372036854775808 ≤ b ∧ b ≤ 9223372036854775807) :
    Calls Try.prog 3 #[.slice A n c, .int .i64 a, .int .i64 b, .int .i64 lo, .int .i64 hi] w fun e w' => e = .returned (.bool true) ∧ Grew w w' := by
  by_cases h : n ≤ 2000
  · exact numExact_small A n c l a b lo hi w hl hb h ba bb
  · exact numExact_big A n c a b lo hi w hn (by omega)
end Go.Proofs.Ytfmhphojnokhdaa.NumK
