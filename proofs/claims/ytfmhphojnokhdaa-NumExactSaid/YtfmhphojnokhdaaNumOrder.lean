/- The walk of NumOrder over the contracts of num. -/
import Derived.Test.YtfmhphojnokhdaaNumLaws
import Derived.Deep.DeepCutAuto
import Derived.Deep.Light
namespace Go.Proofs.Ytfmhphojnokhdaa.NumK
open Go.RowKit

theorem dec_same {p q : Prop} [Decidable p] [Decidable q] (h : p ↔ q) : (!decide p == decide q) = false := by
  have e : decide p = decide q := decide_eq_decide.2 h
  rw [e]; cases decide q <;> rfl

theorem sumIn2 {a c : Int} (h : sumE [a, c] = 0) : sumV [a, c] = a + c := by
  unfold sumE at h
  unfold sumV
  split at h
  · rename_i hm
    rw [if_pos hm]
    unfold capE at h
    unfold capV
    split at h
    · rename_i hq; rw [if_pos hq]; simp
    · omega
  · omega
theorem mulIn {a c : Int} (h : mulE a c = 0) : mulV a c = a * c := by
  unfold mulE at h
  unfold mulV
  split at h
  · rename_i hm
    rw [if_pos hm]
    unfold capE at h
    unfold capV
    split at h
    · rename_i hq; rw [if_pos hq]
    · omega
  · omega

set_option maxRecDepth 100000 in
set_option maxHeartbeats 1000000 in
theorem numOrder_walk (a b c lo hi : Int) (w : World) :
    Calls Try.prog 6 #[.int .i64 a, .int .i64 b, .int .i64 c, .int .i64 lo, .int .i64 hi] w fun e w' => e = .returned (.bool true) ∧ Grew w w' := by
  have c1 := sum2_at a c _ _ rfl rfl
  have c2 := sum2_at b c _ _ rfl rfl
  have c3 := times_at a c _ _ rfl rfl
  have c4 := times_at b c _ _ rfl rfl
  have h1 : sumE [a, c] = 0 → sumV [a, c] = a + c := sumIn2
  have h2 : sumE [b, c] = 0 → sumV [b, c] = b + c := sumIn2
  have h3 : mulE a c = 0 → mulV a c = a * c := mulIn
  have h4 : mulE b c = 0 → mulV b c = b * c := mulIn
  have h5 : 0 < c → (a < b ↔ a * c < b * c) := fun h => (Int.mul_lt_mul_right h).symm
  generalize sumE [a, c] = e1 at *
  generalize sumE [b, c] = e2 at *
  generalize sumV [a, c] = v1 at *
  generalize sumV [b, c] = v2 at *
  generalize mulE a c = e3 at *
  generalize mulE b c = e4 at *
  generalize mulV a c = v3 at *
  generalize mulV b c = v4 at *
  generalize a * c = p3 at *
  generalize b * c = p4 at *
  have H1 := Lib.hid h1
  have H2 := Lib.hid h2
  have H3 := Lib.hid h3
  have H4 := Lib.hid h4
  have H5 := Lib.hid h5
  clear h1 h2 h3 h4 h5
  go_enter Try.func6, Try.ntmps6
  go_upto_region 3 with (first
    | (go_at_call 10; ((with_reducible refine (c1 _).mono ?_); rintro e w1 ⟨rfl, hg1⟩))
    | (go_at_call 10; ((with_reducible refine (c2 _).mono ?_); rintro e w2 ⟨rfl, hg2⟩))
    | (go_at_call 14; ((with_reducible refine (c3 _).mono ?_); rintro e w3 ⟨rfl, hg3⟩))
    | (go_at_call 14; ((with_reducible refine (c4 _).mono ?_); rintro e w4 ⟨rfl, hg4⟩))
    | (go_at_call 18; ((with_reducible refine (part_any _ _ _ _).mono ?_); rintro e w5 ⟨rfl, rfl⟩))
    | (go_at_call 19; ((with_reducible refine (wakes_any _).mono ?_); rintro e w6 ⟨rfl, hg6⟩)))
  go_cut [12, 14, 44] (fun s12 s14 s44 wx => s44 = .bool false ∧ w2 = wx)
  case first =>
    go_wp2_with fail
    all_goals
      go_meet
      go_light
      case rel =>
        refine ⟨congrArg Value.bool ?_, rfl⟩
        first
          | rfl
          | (have q1 := H1.out (by assumption); have q2 := H2.out (by assumption); exact dec_same (p := a < b) (q := v1 < v2) (by omega))
  case rest =>
    obtain ⟨rfl, rfl⟩ := hcut
    go_upto_region 7 with (first
    | (go_at_call 10; ((with_reducible refine (c1 _).mono ?_); rintro e w1 ⟨rfl, hg1⟩))
    | (go_at_call 10; ((with_reducible refine (c2 _).mono ?_); rintro e w2 ⟨rfl, hg2⟩))
    | (go_at_call 14; ((with_reducible refine (c3 _).mono ?_); rintro e w3 ⟨rfl, hg3⟩))
    | (go_at_call 14; ((with_reducible refine (c4 _).mono ?_); rintro e w4 ⟨rfl, hg4⟩))
    | (go_at_call 18; ((with_reducible refine (part_any _ _ _ _).mono ?_); rintro e w5 ⟨rfl, rfl⟩))
    | (go_at_call 19; ((with_reducible refine (wakes_any _).mono ?_); rintro e w6 ⟨rfl, hg6⟩)))
    go_cut [12, 14, 75] (fun s12 s14 s75 wx => s75 = .bool false ∧ w4 = wx)
    case first =>
      go_wp2_with fail
      all_goals
        go_meet
        go_light
        case rel =>
          refine ⟨congrArg Value.bool ?_, rfl⟩
          first
            | rfl
            | (have q1 := H3.out (by assumption); have q2 := H4.out (by assumption); have q3 := H5.out (by assumption); exact dec_same (p := a < b) (q := v3 < v4) (by omega))
    case rest =>
      obtain ⟨rfl, rfl⟩ := hcut
      go_upto_region 10 with (first
    | (go_at_call 10; ((with_reducible refine (c1 _).mono ?_); rintro e w1 ⟨rfl, hg1⟩))
    | (go_at_call 10; ((with_reducible refine (c2 _).mono ?_); rintro e w2 ⟨rfl, hg2⟩))
    | (go_at_call 14; ((with_reducible refine (c3 _).mono ?_); rintro e w3 ⟨rfl, hg3⟩))
    | (go_at_call 14; ((with_reducible refine (c4 _).mono ?_); rintro e w4 ⟨rfl, hg4⟩))
    | (go_at_call 18; ((with_reducible refine (part_any _ _ _ _).mono ?_); rintro e w5 ⟨rfl, rfl⟩))
    | (go_at_call 19; ((with_reducible refine (wakes_any _).mono ?_); rintro e w6 ⟨rfl, hg6⟩)))
      go_cut [107] (fun s107 wx => s107 = .bool false ∧ w4 = wx)
      case first =>
        go_wp2_with fail
        all_goals
          go_meet
          go_light
          case rel =>
            refine ⟨congrArg Value.bool ?_, rfl⟩
            first
              | rfl
              | (simp; omega)
      case rest =>
        obtain ⟨rfl, rfl⟩ := hcut
        have d1 : (max lo (min (max lo (min a hi)) hi) == max lo (min a hi)) = true := by
          have : max lo (min (max lo (min a hi)) hi) = max lo (min a hi) := by omega
          rw [this]; simp
        go_wp2_with (first
          | (go_at_call 18; ((with_reducible refine (part_any _ _ _ _).mono ?_); rintro e w5 ⟨rfl, rfl⟩))
          | (go_at_call 19; ((with_reducible refine (wakes_any _).mono ?_); rintro e w6 ⟨rfl, hg6⟩)))
        go_ret
        exact ⟨rfl, grew_trans (grew_alloc _ _ _) (grew_trans hg1 (grew_trans (grew_alloc _ _ _) (grew_trans hg2 (grew_trans hg3 (grew_trans hg4 hg6)))))⟩
end Go.Proofs.Ytfmhphojnokhdaa.NumK
