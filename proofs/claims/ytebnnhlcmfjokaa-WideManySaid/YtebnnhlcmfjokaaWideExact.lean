/- The walk of WideExact. -/
import Derived.Test.YtebnnhlcmfjokaaWideBack
import Derived.Test.YtebnnhlcmfjokaaRef01C
import Derived.Test.YtebnnhlcmfjokaaRefLess
import Derived.Test.YtebnnhlcmfjokaaRefQuo
namespace Go.Proofs.Ytebnnhlcmfjokaa.NumK
open Go.RowKit

theorem keep4 {wa w1 w2 : World} {N : Nat} {v0 v1 u0 u1 : Value} (hN : N + 1 < wa.heap.size)
    (h : w1.cell? ⟨N, 0, none⟩ = some v0 ∧ w1.cell? ⟨N, 1, none⟩ = some v1 ∧ w1.cell? ⟨N + 1, 0, none⟩ = some u0 ∧ w1.cell? ⟨N + 1, 1, none⟩ = some u1 ∧ Grew wa w1) (g : Grew w1 w2) :
    w2.cell? ⟨N, 0, none⟩ = some v0 ∧ w2.cell? ⟨N, 1, none⟩ = some v1 ∧ w2.cell? ⟨N + 1, 0, none⟩ = some u0 ∧ w2.cell? ⟨N + 1, 1, none⟩ = some u1 ∧ Grew wa w2 :=
  have hs := h.2.2.2.2.size
  ⟨(grew_cell g (p := ⟨N, 0, none⟩) (by show N < _; omega)).trans h.1, (grew_cell g (p := ⟨N, 1, none⟩) (by show N < _; omega)).trans h.2.1,
    (grew_cell g (p := ⟨N + 1, 0, none⟩) (by show N + 1 < _; omega)).trans h.2.2.1, (grew_cell g (p := ⟨N + 1, 1, none⟩) (by show N + 1 < _; omega)).trans h.2.2.2.1, grew_trans h.2.2.2.2 g⟩

theorem quo_ways (x n : Int) : (wqB x n = true ∧ wqE x n = 0) ∨ (wqB x n = false ∧ wqE x n = 1 ∧ decide (n < 1) = false) ∨ (wqB x n = false ∧ wqE x n = 2 ∧ decide (n < 1) = true) := by
  by_cases h : 0 < n
  · cases hm : isMoney (x / n)
    · exact Or.inr (Or.inl ⟨by simp [wqB, hm], by simp [wqE, h, capE, hm], by simp; omega⟩)
    · exact Or.inl ⟨by simp [wqB, h, hm], by simp [wqE, h, capE, hm]⟩
  · exact Or.inr (Or.inr ⟨by simp [wqB, h], by simp [wqE, h], by simp; omega⟩)
theorem int_ways (x : Int) : (isMoney x = true ∧ capE x = 0) ∨ (isMoney x = false ∧ capE x = 1) := by
  cases h : isMoney x
  · exact Or.inr ⟨rfl, capE_out h⟩
  · exact Or.inl ⟨rfl, capE_in h⟩

set_option maxRecDepth 100000 in
set_option maxHeartbeats 8000000 in
theorem wideExact_walk (a b c x y : Int) (w : World) (ba : -9223372036854775808 ≤ a ∧ a ≤ 9223372036854775807) (bb : -9223372036854775808 ≤ b ∧ b ≤ 9223372036854775807) (bc : -9223372036854775808 ≤ c ∧ c ≤ 9223372036854775807) (hy : isWide y = true) :
    Calls Try.prog 3 #[.int .i64 a, .int .i64 b, .int .i64 c, .agg #[.int .i64 (hi64 x), .int .u64 (lo64 x)], .agg #[.int .i64 (hi64 y), .int .u64 (lo64 y)]] w fun e w' => e = .returned (.bool true) ∧ Grew w w' := by
  have c1 := fun w => wof_any a w ba
  have c2 := fun w => of_any a w ba
  have c3 := fun w => same_any a a w
  have c4 := fun w => wtimes_any a b w ba bb
  have c5 := fun w => refTimes_any a b w ba bb
  have c6 := fun w => same_any (a * b) (a * b) w
  have c7 := fun w => wless_any x y w
  have c8 := fun w => refLess_any x y w
  have c9 := fun w => wint_any y w
  have c10 := fun w => refInt_any y w
  have c11 := fun w => wquo_any y c w hy bc.2
  have c12 := fun w => refQuo_any y c w hy bc.2
  have c13 := fun w => wshare_any a b c w ba bb bc.2
  have c14 := fun w => refQuo_any (a * b) c w (isWide_mul a b ba bb) bc.2
  rw [show decide (a = a) = true from decide_eq_true rfl] at c3
  rw [show decide (a * b = a * b) = true from decide_eq_true rfl] at c6
  rw [show intV y = capV y from rfl] at c10
  have E1 := Lib.hid (int_ways y)
  have E2 := Lib.hid (quo_ways y c)
  have E3 := Lib.hid (quo_ways (a * b) c)
  generalize capV y = iv at *
  generalize capE y = ie at *
  generalize isMoney y = ib at *
  generalize wqV y c = qv at *
  generalize wqR y c = qr at *
  generalize wqE y c = qe at *
  generalize wqB y c = qb at *
  generalize wqV (a * b) c = sv at *
  generalize wqR (a * b) c = sr at *
  generalize wqE (a * b) c = se at *
  generalize wqB (a * b) c = sb at *
  generalize hi64 (a * b) = ph at *
  generalize lo64 (a * b) = pl at *
  generalize hi64 a = ah at *
  generalize lo64 a = al at *
  generalize hi64 x = xh at *
  generalize lo64 x = xl at *
  generalize hi64 y = yh at *
  generalize lo64 y = yl at *
  generalize decide (x < y) = lt at *
  clear ba bb bc hy
  go_enter Try.func3, Try.ntmps3
  go_upto_region 1 with fail
  have q0 : ((w.alloc (.cells #[.int .i64 xh, .int .u64 xl] 24)).alloc (.cells #[.int .i64 yh, .int .u64 yl] 24)).cell? ⟨w.heap.size, 0, none⟩ = some (.int .i64 xh) ∧ ((w.alloc (.cells #[.int .i64 xh, .int .u64 xl] 24)).alloc (.cells #[.int .i64 yh, .int .u64 yl] 24)).cell? ⟨w.heap.size, 1, none⟩ = some (.int .u64 xl)
      ∧ ((w.alloc (.cells #[.int .i64 xh, .int .u64 xl] 24)).alloc (.cells #[.int .i64 yh, .int .u64 yl] 24)).cell? ⟨w.heap.size + 1, 0, none⟩ = some (.int .i64 yh) ∧ ((w.alloc (.cells #[.int .i64 xh, .int .u64 xl] 24)).alloc (.cells #[.int .i64 yh, .int .u64 yl] 24)).cell? ⟨w.heap.size + 1, 1, none⟩ = some (.int .u64 yl)
      ∧ Grew w ((w.alloc (.cells #[.int .i64 xh, .int .u64 xl] 24)).alloc (.cells #[.int .i64 yh, .int .u64 yl] 24)) ∧ w.heap.size + 1 < ((w.alloc (.cells #[.int .i64 xh, .int .u64 xl] 24)).alloc (.cells #[.int .i64 yh, .int .u64 yl] 24)).heap.size := by
    have k := own_at (grew_alloc (w.alloc (.cells #[.int .i64 xh, .int .u64 xl] 24)) #[.int .i64 yh, .int .u64 yl] 24)
    exact ⟨k.1, k.2.1, by simp, by simp, grew_trans (grew_alloc _ _ _) (grew_alloc _ _ _), by simp⟩
  generalize (w.alloc (.cells #[.int .i64 xh, .int .u64 xl] 24)).alloc (.cells #[.int .i64 yh, .int .u64 yl] 24) = wa at q0 ⊢
  obtain ⟨r1, r2, r3, r4, r5, r6⟩ := q0
  go_region_held3 (fun w' => w'.cell? ⟨w.heap.size, 0, none⟩ = some (.int .i64 xh) ∧ w'.cell? ⟨w.heap.size, 1, none⟩ = some (.int .u64 xl) ∧ w'.cell? ⟨w.heap.size + 1, 0, none⟩ = some (.int .i64 yh) ∧ w'.cell? ⟨w.heap.size + 1, 1, none⟩ = some (.int .u64 yl) ∧ Grew wa w')
    (first
      | (exact keep4 r6 ⟨r1, r2, r3, r4, grew_refl _⟩ (grew_drew (grew_refl _)))
      | (exact keep4 r6 (by assumption) hg1)
      | (exact keep4 r6 (by assumption) hg2)
      | (exact keep4 r6 (by assumption) hg3)
      | (exact keep4 r6 (by assumption) hg4)
      | (exact keep4 r6 (by assumption) hg5)
      | (exact keep4 r6 (by assumption) hg6)
      | (exact keep4 r6 (by assumption) hg7)
      | (exact keep4 r6 (by assumption) hg8))
    (first
      | (go_at_call 11; ((with_reducible refine (c1 _).mono ?_); rintro e w1 ⟨rfl, hg1⟩))
      | (go_at_call 12; ((with_reducible refine (c2 _).mono ?_); rintro e w2 ⟨rfl, hg2⟩))
      | (go_at_call 10; ((with_reducible refine (c3 _).mono ?_); rintro e w3 ⟨rfl, hg3⟩))
      | (go_at_call 13; ((with_reducible refine (c4 _).mono ?_); rintro e w4 ⟨rfl, hg4⟩))
      | (go_at_call 14; ((with_reducible refine (c5 _).mono ?_); rintro e w5 ⟨rfl, hg5⟩))
      | (go_at_call 10; ((with_reducible refine (c6 _).mono ?_); rintro e w6 ⟨rfl, hg6⟩))
      | (go_at_call 15; ((with_reducible refine (c7 _).mono ?_); rintro e w7 ⟨rfl, hg7⟩))
      | (go_at_call 16; ((with_reducible refine (c8 _).mono ?_); rintro e w8 ⟨rfl, hg8⟩)))
  rename_i hS
  clear hg1 hg2 hg3 hg4 hg5 hg6 hg7 hg8 c1 c2 c3 c4 c6 c7 c8 r1 r2 r3 r4
  obtain ⟨r1, r2, r3, r4, r7⟩ := id hS
  go_upto_region 5 with (first
    | (go_at_call 17; ((with_reducible refine (c9 _).mono ?_); rintro e w9 ⟨rfl, hg9⟩; have hS9 := keep4 r6 hS hg9; have hS9' := id hS9; obtain ⟨m1, m2, m3, m4, m5⟩ := hS9'))
    | (go_at_call 18; ((with_reducible refine (c10 _).mono ?_); rintro e w10 ⟨rfl, hg10⟩)))
  have hS10 := keep4 r6 hS9 hg10
  clear r1 r2 r3 r4 r7 m1 m2 m3 m4 m5 hS hS9 hg9 hg10 c9 c10
  go_cut [11, 12, 13, 14, 70] (fun s11 s12 s13 s14 s70 wx => s70 = .bool false ∧ w10 = wx)
  case first =>
    rcases E1.out with ⟨rfl, rfl⟩ | ⟨rfl, rfl⟩
    all_goals
      go_wp2_with fail
      go_meet
      case rel => exact ⟨rfl, rfl⟩
  case rest =>
    obtain ⟨rfl, rfl⟩ := hcut
    obtain ⟨r1, r2, r3, r4, r7⟩ := id hS10
    go_upto_region 9 with (first
      | (go_at_call 19; ((with_reducible refine (c11 _).mono ?_); rintro e w11 ⟨rfl, hg11⟩; have hS11 := keep4 r6 hS10 hg11; have hS11' := id hS11; obtain ⟨m1, m2, m3, m4, m5⟩ := hS11'))
      | (go_at_call 20; ((with_reducible refine (c12 _).mono ?_); rintro e w12 ⟨rfl, hg12⟩)))
    have hS12 := keep4 r6 hS11 hg12
    clear r1 r2 r3 r4 r7 m1 m2 m3 m4 m5 hS10 hS11 hg11 hg12 c11 c12
    go_cut [12, 14, 15, 16, 17, 18, 109] (fun s12 s14 s15 s16 s17 s18 s109 wx => s109 = .bool false ∧ w12 = wx)
    case first =>
      rcases E2.out with ⟨rfl, rfl⟩ | ⟨rfl, rfl, hc⟩ | ⟨rfl, rfl, hc⟩
      all_goals
        go_wp2_with fail
        go_meet
        case rel => exact ⟨rfl, rfl⟩
    case rest =>
      obtain ⟨rfl, rfl⟩ := hcut
      have r7 := hS12.2.2.2.2
      clear hS12
      go_upto_region 13 with (first
        | (go_at_call 21; ((with_reducible refine (c13 _).mono ?_); rintro e w13 ⟨rfl, hg13⟩))
        | (go_at_call 14; ((with_reducible refine (c5 _).mono ?_); rintro e w14 ⟨rfl, hg14⟩))
        | (go_at_call 20; ((with_reducible refine (c14 _).mono ?_); rintro e w15 ⟨rfl, hg15⟩)))
      rcases E3.out with ⟨rfl, rfl⟩ | ⟨rfl, rfl, hc⟩ | ⟨rfl, rfl, hc⟩
      all_goals
        go_wp2_with (go_at_call 22; ((with_reducible refine (wakes02_any _).mono ?_); rintro e w16 ⟨rfl, hg16⟩))
        go_ret
        exact ⟨rfl, grew_trans r5 (grew_trans r7 (grew_trans hg13 (grew_trans hg14 (grew_trans hg15 hg16))))⟩
end Go.Proofs.Ytebnnhlcmfjokaa.NumK
