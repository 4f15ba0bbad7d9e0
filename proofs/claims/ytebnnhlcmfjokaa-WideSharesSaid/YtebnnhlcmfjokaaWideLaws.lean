/- The walks of stage 2's laws over plain numbers. -/
import Derived.Test.YtebnnhlcmfjokaaWakes02
import Derived.Deep.RegionHeld3
import Derived.Deep.RegionWith
namespace Go.Proofs.Ytebnnhlcmfjokaa.NumK
open Go.RowKit

theorem wqV_eq {x n q : Int} (hn : 0 < n) (h : x / n = q) (m : isMoney q = true) : wqV x n = q := by simp [wqV, hn, h, capV, m]
theorem wqE_eq {x n q : Int} (hn : 0 < n) (h : x / n = q) (m : isMoney q = true) : wqE x n = 0 := by simp [wqE, hn, h, capE, m]
theorem shares_facts (a b c : Int) (a0 : 0 ≤ a) (a1 : a ≤ 4611686018427387904) (c0 : 1 ≤ c) (b0 : 0 ≤ b) (b1 : b ≤ c) :
    ∃ x y, wqV (a * b) c = x ∧ wqE (a * b) c = 0 ∧ wqV (a * (c - b)) c = y ∧ wqE (a * (c - b)) c = 0 ∧ 0 ≤ x ∧ 0 ≤ y ∧ x + y ≤ a ∧ a - 1 ≤ x + y := by
  have q1 := Int.mul_ediv_add_emod (a * b) c
  have q2 := Int.emod_nonneg (a * b) (show c ≠ 0 by omega)
  have q3 := Int.emod_lt_of_pos (a * b) (show 0 < c by omega)
  have r1 := Int.mul_ediv_add_emod (a * (c - b)) c
  have r2 := Int.emod_nonneg (a * (c - b)) (show c ≠ 0 by omega)
  have r3 := Int.emod_lt_of_pos (a * (c - b)) (show 0 < c by omega)
  have x0 : 0 ≤ a * b / c := Int.ediv_nonneg (Int.mul_nonneg a0 b0) (by omega)
  have y0 : 0 ≤ a * (c - b) / c := Int.ediv_nonneg (Int.mul_nonneg a0 (by omega)) (by omega)
  have e : a * (c - b) = a * c - a * b := Int.mul_sub a c b
  obtain ⟨x, hx⟩ : ∃ x, a * b / c = x := ⟨_, rfl⟩
  obtain ⟨y, hy⟩ : ∃ y, a * (c - b) / c = y := ⟨_, rfl⟩
  rw [hx] at q1 x0
  rw [hy] at r1 y0
  generalize a * b % c = s at *
  generalize a * (c - b) % c = t at *
  have k : c * (a - (x + y)) = s + t := by rw [Int.mul_sub, Int.mul_add, Int.mul_comm c a]; omega
  have d0 : 0 ≤ a - (x + y) := by
    rcases Int.lt_or_le (a - (x + y)) 0 with h | h
    · have := Int.mul_neg_of_pos_of_neg (show 0 < c by omega) h
      omega
    · exact h
  have d1 : a - (x + y) ≤ 1 := by
    rcases Int.lt_or_le 1 (a - (x + y)) with h | h
    · have := Int.mul_le_mul_of_nonneg_left (show 2 ≤ a - (x + y) by omega) (show 0 ≤ c by omega)
      omega
    · exact h
  have mx : isMoney x = true := by rw [isMoney_iff]; omega
  have my : isMoney y = true := by rw [isMoney_iff]; omega
  exact ⟨x, y, wqV_eq (by omega) hx mx, wqE_eq (by omega) hx mx, wqV_eq (by omega) hy my, wqE_eq (by omega) hy my, x0, y0, by omega, by omega⟩

set_option maxHeartbeats 1000000 in
theorem wideShares_walk (a b c : Int) (w : World) (ba : -9223372036854775808 ≤ a ∧ a ≤ 9223372036854775807) (bb : -9223372036854775808 ≤ b ∧ b ≤ 9223372036854775807) (bc : -9223372036854775808 ≤ c ∧ c ≤ 9223372036854775807) :
    Calls Try.prog 8 #[.int .i64 a, .int .i64 b, .int .i64 c] w fun e w' => e = .returned (.bool true) ∧ Grew w w' := by
  by_cases h : 0 ≤ a ∧ a ≤ 4611686018427387904 ∧ 1 ≤ c ∧ c ≤ 4611686018427387904 ∧ 0 ≤ b ∧ b ≤ c
  · obtain ⟨h1, h2, h3, h4, h5, h6⟩ := h
    obtain ⟨x, y, e1, e2, e3, e4, x0, y0, z1, z2⟩ := shares_facts a b c h1 h2 h3 h5 h6
    have C1 := fun w => wshare_any a b c w ba bb bc.2
    have C2 := fun w => wshare_any a (c - b) c w ba (by omega) bc.2
    rw [e1, e2] at C1
    rw [e3, e4] at C2
    clear e1 e2 e3 e4
    go_enter Try.func8, Try.ntmps8
    go_wp2_with (first
      | (go_at_call 21; ((with_reducible refine (C1 _).mono ?_); rintro e w1 ⟨rfl, hg1⟩))
      | (go_at_call 21; ((with_reducible refine (C2 _).mono ?_); rintro e w2 ⟨rfl, hg2⟩))
      | (go_at_call 22; ((with_reducible refine (wakes02_any _).mono ?_); rintro e w3 ⟨rfl, hg3⟩)))
    go_ret
    exact ⟨rfl, grew_trans hg1 (grew_trans hg2 hg3)⟩
  · go_enter Try.func8, Try.ntmps8
    go_upto_region 1 with fail
    go_cut [33] (fun s wx => s = .bool true ∧ w = wx)
    case first =>
      go_wp2_with fail
      all_goals
        go_meet
        go_light
        case rel =>
          refine ⟨congrArg Value.bool ?_, rfl⟩
          first | rfl | (simp; omega)
    case rest =>
      obtain ⟨rfl, rfl⟩ := hcut
      go_wp2_with (go_at_call 22; ((with_reducible refine (wakes02_any _).mono ?_); rintro e w3 ⟨rfl, hg3⟩))
      go_ret
      exact ⟨rfl, hg3⟩


/-- The block that was laid behind a world's end stands as it was. -/
theorem own_at {w w1 : World} {v0 v1 : Value} {t : TypeId} (h : Grew (w.alloc (.cells #[v0, v1] t)) w1) : w1.cell? ⟨w.heap.size, 0, none⟩ = some v0 ∧ w1.cell? ⟨w.heap.size, 1, none⟩ = some v1 ∧ w.heap.size < w1.heap.size :=
  ⟨(own_first h).1, (own_first h).2.1, (own_first h).2.2.2.2⟩

set_option maxRecDepth 100000 in
set_option maxHeartbeats 2000000 in
theorem wideParts_walk (a b c : Int) (w : World) (ba : -9223372036854775808 ≤ a ∧ a ≤ 9223372036854775807) (bb : -9223372036854775808 ≤ b ∧ b ≤ 9223372036854775807) (bc : -9223372036854775808 ≤ c ∧ c ≤ 9223372036854775807) :
    Calls Try.prog 5 #[.int .i64 a, .int .i64 b, .int .i64 c] w fun e w' => e = .returned (.bool true) ∧ Grew w w' := by
  have C1 := fun w => wtimes_any a b w ba bb
  have C2 := fun w => wtimes_any b a w bb ba
  have S1 := same_any (a * b) (b * a)
  rw [show decide (a * b = b * a) = true from decide_eq_true (Int.mul_comm a b)] at S1
  have BA := Lib.hid ba
  have BB := Lib.hid bb
  have BC := Lib.hid bc
  clear ba bb bc
  go_enter Try.func5, Try.ntmps5
  go_upto_region 3 with (first
    | (go_at_call 13; ((with_reducible refine (C1 _).mono ?_); rintro e w1 ⟨rfl, hg1⟩))
    | (go_at_call 13; ((with_reducible refine (C2 _).mono ?_); rintro e w2 ⟨rfl, hg2⟩))
    | (go_at_call 10; ((with_reducible refine (S1 _).mono ?_); rintro e w3 ⟨rfl, hg3⟩)))
  have G3 := Lib.hid (grew_trans hg1 (grew_trans hg2 hg3))
  clear hg1 hg2 hg3
  go_cut [32] (fun s wx => s = .bool (decide (-2305843009213693952 < b ∧ b < 2305843009213693952 ∧ -2305843009213693952 < c ∧ c < 2305843009213693952)) ∧ w3 = wx)
  case first =>
    go_wp2_with fail
    all_goals
      go_meet
      go_light
      case rel =>
        refine ⟨congrArg Value.bool ?_, rfl⟩
        first
          | (rw [eq_comm, decide_eq_false_iff_not]; omega)
          | (rw [eq_comm, decide_eq_true_iff]; omega)
          | (apply decide_eq_decide.2; omega)
  case rest =>
    obtain ⟨rfl, rfl⟩ := hcut
    go_upto_if 32 with fail
    go_cut [6] (fun s6 wx => s6 = .bool false ∧ Hid (Grew w wx))
    case first =>
      by_cases hP : -2305843009213693952 < b ∧ b < 2305843009213693952 ∧ -2305843009213693952 < c ∧ c < 2305843009213693952
      · have dP : decide (-2305843009213693952 < b ∧ b < 2305843009213693952 ∧ -2305843009213693952 < c ∧ c < 2305843009213693952) = true := decide_eq_true hP
        obtain ⟨p1, p2, p3, p4⟩ := hP
        rw [dP]
        have C4 := fun w => wtimes_any a c w BA.out BC.out
        have C5 : ∀ w, Calls Try.prog 13 #[.int .i64 a, .int .i64 (IntKind.i64.wrap (b + c))] w fun e w' => e = .returned (.agg #[.int .i64 (hi64 (a * (b + c))), .int .u64 (lo64 (a * (b + c)))]) ∧ Grew w w' := by
          rw [IntWalk.i64_in (b + c) (by omega)]
          exact fun w => wtimes_any a (b + c) w BA.out (by omega)
        have CS := wsum2_at (a * b) (a * c) (a * (b + c)) _ _ (isWide_mul a b BA.out BB.out) (isWide_mul a c BA.out BC.out) (Int.mul_add a b c).symm (wsV_in (isWide_mul a (b + c) BA.out (by omega))) (wideE_in (isWide_mul a (b + c) BA.out (by omega)))
        have S2 := same_any (a * (b + c)) (a * (b + c))
        rw [show decide (a * (b + c) = a * (b + c)) = true from decide_eq_true rfl] at S2
        clear dP S1 C2
        generalize a * b = x1 at *
        generalize a * c = x2 at *
        generalize a * (b + c) = x3 at *
        go_upto_region 5 with (first
          | (go_at_call 13; ((with_reducible refine (C1 _).mono ?_); rintro e w4 ⟨rfl, hg4⟩))
          | (go_at_call 13; ((with_reducible refine (C4 _).mono ?_); rintro e w5 ⟨rfl, hg5⟩))
          | (go_at_call 23; ((with_reducible refine (CS _).mono ?_); rintro e w6 ⟨rfl, hg6⟩)))
        have q0 : (w6.alloc (.cells #[.int .i64 (hi64 x3), .int .u64 (lo64 x3)] 24)).cell? ⟨w6.heap.size, 0, none⟩ = some (.int .i64 (hi64 x3)) ∧ (w6.alloc (.cells #[.int .i64 (hi64 x3), .int .u64 (lo64 x3)] 24)).cell? ⟨w6.heap.size, 1, none⟩ = some (.int .u64 (lo64 x3)) ∧ w6.heap.size < (w6.alloc (.cells #[.int .i64 (hi64 x3), .int .u64 (lo64 x3)] 24)).heap.size ∧ Grew w6 (w6.alloc (.cells #[.int .i64 (hi64 x3), .int .u64 (lo64 x3)] 24)) := ⟨by simp, by simp, by simp, grew_alloc _ _ _⟩
        generalize w6.alloc (.cells #[.int .i64 (hi64 x3), .int .u64 (lo64 x3)] 24) = wq at q0 ⊢
        obtain ⟨q1, q2, q3, q4⟩ := q0
        go_region_held3 (fun w' => w'.cell? ⟨w6.heap.size, 0, none⟩ = some (.int .i64 (hi64 x3)) ∧ w'.cell? ⟨w6.heap.size, 1, none⟩ = some (.int .u64 (lo64 x3)) ∧ w6.heap.size < w'.heap.size ∧ Grew w6 w')
          (first
            | (exact keep2 (grew_drew (grew_refl _)) q1 q2 q3 q4)
            | (exact keep2 (grew_trans (grew_drew (grew_refl _)) hg8) q1 q2 q3 q4)
            | (exact keep2 (grew_trans (grew_drew (grew_refl _)) (grew_trans hg8 hg9)) q1 q2 q3 q4))
          (first
            | (go_at_call 13; refine (C5 _).mono ?_; rintro e w8 ⟨rfl, hg8⟩)
            | (go_at_call 10; refine (S2 _).mono ?_; rintro e w9 ⟨rfl, hg9⟩))
        rename_i hS
        go_wp2_with fail
        go_meet
        case rel => exact ⟨rfl, grew_trans G3.out (grew_trans hg4 (grew_trans hg5 (grew_trans (grew_alloc _ _ _) (grew_trans hg6 hS.2.2.2))))⟩
      · have dP : decide (-2305843009213693952 < b ∧ b < 2305843009213693952 ∧ -2305843009213693952 < c ∧ c < 2305843009213693952) = false := decide_eq_false hP
        rw [dP]
        clear dP hP
        go_wp2_with fail
        go_meet
        case rel => exact ⟨rfl, G3⟩
    case rest =>
      obtain ⟨rfl, G4⟩ := hcut
      clear G3
      go_upto_region 7 with fail
      go_cut [61] (fun s wx => s = .bool (decide (-4611686018427387904 < a ∧ a < 4611686018427387904)) ∧ wc = wx)
      case first =>
        go_wp2_with fail
        all_goals
          go_meet
          go_light
          case rel =>
            refine ⟨congrArg Value.bool ?_, rfl⟩
            first
              | (rw [eq_comm, decide_eq_false_iff_not]; omega)
              | (apply decide_eq_decide.2; omega)
      case rest =>
        obtain ⟨rfl, rfl⟩ := hcut
        by_cases hQ : -4611686018427387904 < a ∧ a < 4611686018427387904
        · have dQ : decide (-4611686018427387904 < a ∧ a < 4611686018427387904) = true := decide_eq_true hQ
          obtain ⟨p1, p2⟩ := hQ
          rw [dQ]
          have C6 := fun w => wtimes_any (-a) b w (by omega) BB.out
          have CS := wsum2_at (a * b) (-a * b) 0 0 0 (isWide_mul a b BA.out BB.out) (isWide_mul (-a) b (by omega) BB.out) (by rw [Int.neg_mul]; omega) rfl rfl
          rw [show hi64 0 = 0 from rfl, show lo64 0 = 0 from rfl] at CS
          clear dQ S1 C2
          generalize a * b = x1 at *
          generalize -a * b = x2 at *
          go_wp2_with (first
            | (go_at_call 13; ((with_reducible refine (C1 _).mono ?_); rintro e w4 ⟨rfl, hg4⟩))
            | (go_at_call 13; ((with_reducible refine (C6 _).mono ?_); rintro e w5 ⟨rfl, hg5⟩))
            | (go_at_call 23; ((with_reducible refine (CS _).mono ?_); rintro e w6 ⟨rfl, hg6⟩))
            | (go_at_call 22; ((with_reducible refine (wakes02_any _).mono ?_); rintro e w7 ⟨rfl, hg7⟩)))
          go_ret
          exact ⟨rfl, grew_trans G4.out (grew_trans hg4 (grew_trans hg5 (grew_trans (grew_alloc _ _ _) (grew_trans hg6 (grew_trans (grew_alloc _ _ _) hg7)))))⟩
        · have dQ : decide (-4611686018427387904 < a ∧ a < 4611686018427387904) = false := decide_eq_false hQ
          rw [dQ]
          clear dQ hQ
          go_wp2_with (go_at_call 22; ((with_reducible refine (wakes02_any _).mono ?_); rintro e w7 ⟨rfl, hg7⟩))
          go_ret
          exact ⟨rfl, grew_trans G4.out hg7⟩
end Go.Proofs.Ytebnnhlcmfjokaa.NumK
