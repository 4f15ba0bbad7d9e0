/- Contracts of package wide: Times. -/
import Derived.Test.YtkkemmfghjgmeaaWide1
namespace Go.Proofs.Ytkkemmfghjgmeaa.NumK
open Go.RowKit

theorem and_m1 (b : Int) (h : -9223372036854775808 ≤ b ∧ b ≤ 9223372036854775807) : bits .and .i64 (-1) b = b := by
  have e1 : (BitVec.ofInt 64 (-1)) = BitVec.allOnes 64 := by decide
  show IntKind.i64.wrap ((BitVec.ofInt 64 (-1) &&& BitVec.ofInt 64 b).toNat : Int) = b
  rw [e1, BitVec.allOnes_and, BitVec.toNat_ofInt, IntKind.wrap_i64]
  omega
theorem and_zero (b : Int) : bits .and .i64 0 b = 0 := by
  show IntKind.i64.wrap ((BitVec.ofInt 64 0 &&& BitVec.ofInt 64 b).toNat : Int) = 0
  have e1 : (BitVec.ofInt 64 0) = 0#64 := by decide
  rw [e1, BitVec.zero_and]; rfl

theorem times_parts (a b : Int) (ha : -9223372036854775808 ≤ a ∧ a ≤ 9223372036854775807) (hb : -9223372036854775808 ≤ b ∧ b ≤ 9223372036854775807) :
    ∃ x y : Nat, IntKind.u64.wrap a = x ∧ IntKind.u64.wrap b = y ∧ x < 18446744073709551616 ∧ y < 18446744073709551616 ∧ ((x * y % 18446744073709551616 : Nat) : Int) = lo64 (a * b) ∧
      (a < 0 → b < 0 → ((x * y / 18446744073709551616 : Nat) : Int) = hi64 (a * b) + b + a + 18446744073709551616) ∧
      (a < 0 → ¬ b < 0 → ((x * y / 18446744073709551616 : Nat) : Int) = hi64 (a * b) + b) ∧
      (¬ a < 0 → b < 0 → ((x * y / 18446744073709551616 : Nat) : Int) = hi64 (a * b) + a) ∧
      (¬ a < 0 → ¬ b < 0 → ((x * y / 18446744073709551616 : Nat) : Int) = hi64 (a * b)) := by
  refine ⟨(IntKind.u64.wrap a).toNat, (IntKind.u64.wrap b).toNat, by rw [IntKind.wrap_u64]; omega, by rw [IntKind.wrap_u64]; omega, by rw [IntKind.wrap_u64]; omega, by rw [IntKind.wrap_u64]; omega, ?_⟩
  rw [IntKind.wrap_u64, IntKind.wrap_u64]
  obtain ⟨x, hx⟩ : ∃ x : Nat, (a % 18446744073709551616).toNat = x := ⟨_, rfl⟩
  obtain ⟨y, hy⟩ : ∃ x : Nat, (b % 18446744073709551616).toNat = x := ⟨_, rfl⟩
  rw [hx, hy]
  have hP : ((x * y : Nat) : Int) = (x : Int) * (y : Int) := Int.natCast_mul x y
  unfold hi64 lo64
  by_cases c1 : a < 0 <;> by_cases c2 : b < 0
  · have e1 : (x : Int) = a + 18446744073709551616 := by omega
    have e2 : (y : Int) = b + 18446744073709551616 := by omega
    rw [e1, e2, Int.add_mul, Int.mul_add, Int.mul_add] at hP
    generalize x * y = P at *
    generalize a * b = p at *
    omega
  · have e1 : (x : Int) = a + 18446744073709551616 := by omega
    have e2 : (y : Int) = b := by omega
    rw [e1, e2, Int.add_mul] at hP
    generalize x * y = P at *
    generalize a * b = p at *
    omega
  · have e1 : (x : Int) = a := by omega
    have e2 : (y : Int) = b + 18446744073709551616 := by omega
    rw [e1, e2, Int.mul_add] at hP
    generalize x * y = P at *
    generalize a * b = p at *
    omega
  · have e1 : (x : Int) = a := by omega
    have e2 : (y : Int) = b := by omega
    rw [e1, e2] at hP
    generalize x * y = P at *
    generalize a * b = p at *
    omega

set_option maxHeartbeats 1000000 in
theorem wtimes_any (a b : Int) (w : World) (ha : -9223372036854775808 ≤ a ∧ a ≤ 9223372036854775807) (hb : -9223372036854775808 ≤ b ∧ b ≤ 9223372036854775807) :
    Calls Try.prog 43 #[.int .i64 a, .int .i64 b] w fun e w' => e = .returned (.agg #[.int .i64 (hi64 (a * b)), .int .u64 (lo64 (a * b))]) ∧ Grew w w' := by
  obtain ⟨x, y, h1, h2, h3, h4, h5, q1, q2, q3, q4⟩ := times_parts a b ha hb
  have M := mul64_any x y h3 h4
  have C1 := fun w => sign_any a w ha
  have C2 := fun w => sign_any b w hb
  have HB : Hid (isWide (a * b) = true) := by
    obtain ⟨t1, t2, t3⟩ := times_arith a b ha hb
    show isWide (a * b) = true
    rw [isWide_iff]
    generalize a * b = p at *
    generalize a.natAbs * b.natAbs = P at *
    omega
  rw [h5] at M
  generalize ((x * y / 18446744073709551616 : Nat) : Int) = hp at *
  clear h3 h4 h5
  by_cases c1 : a < 0 <;> by_cases c2 : b < 0
  · have s1 : sgn a = -1 := sgn_neg c1
    have s2 : sgn b = -1 := sgn_neg c2
    rw [s1] at C1
    rw [s2] at C2
    have l1 : bits .and .i64 (-1) b = b := and_m1 b hb
    have l2 : bits .and .i64 (-1) a = a := and_m1 a ha
    have L := Lib.hid (q1 c1 c2)
    clear q1 q2 q3 q4 s1 s2 c1 c2
    go_enter Try.func43, Try.ntmps43
    go_wp2_with (first
      | (go_at_call 32; ((with_reducible refine (M _).mono ?_); rintro e w' ⟨rfl, rfl⟩))
      | (go_at_call 51; ((with_reducible refine (C1 _).mono ?_); rintro e w' ⟨rfl, rfl⟩))
      | (go_at_call 51; ((with_reducible refine (C2 _).mono ?_); rintro e w' ⟨rfl, rfl⟩)))
    exact bodyPost_ret (v := .agg #[.int .i64 (wrap64 (wrap64 (wrap64 hp - b) - a)), .int .u64 (lo64 (a * b))]) (by simp [results, Try.results43, go_sem]) rfl ⟨ret_wv (by have l := L.out; have h := hi_bounds _ HB.out; unfold wrap64; omega) rfl, grew_alloc _ _ _⟩
  · have s1 : sgn a = -1 := sgn_neg c1
    have s2 : sgn b = 0 := sgn_pos c2
    rw [s1] at C1
    rw [s2] at C2
    have l1 : bits .and .i64 (-1) b = b := and_m1 b hb
    have l2 : bits .and .i64 (0) a = 0 := and_zero a
    have L := Lib.hid (q2 c1 c2)
    clear q1 q2 q3 q4 s1 s2 c1 c2
    go_enter Try.func43, Try.ntmps43
    go_wp2_with (first
      | (go_at_call 32; ((with_reducible refine (M _).mono ?_); rintro e w' ⟨rfl, rfl⟩))
      | (go_at_call 51; ((with_reducible refine (C1 _).mono ?_); rintro e w' ⟨rfl, rfl⟩))
      | (go_at_call 51; ((with_reducible refine (C2 _).mono ?_); rintro e w' ⟨rfl, rfl⟩)))
    exact bodyPost_ret (v := .agg #[.int .i64 (wrap64 (wrap64 (wrap64 hp - b))), .int .u64 (lo64 (a * b))]) (by simp [results, Try.results43, go_sem]) rfl ⟨ret_wv (by have l := L.out; have h := hi_bounds _ HB.out; unfold wrap64; omega) rfl, grew_alloc _ _ _⟩
  · have s1 : sgn a = 0 := sgn_pos c1
    have s2 : sgn b = -1 := sgn_neg c2
    rw [s1] at C1
    rw [s2] at C2
    have l1 : bits .and .i64 (0) b = 0 := and_zero b
    have l2 : bits .and .i64 (-1) a = a := and_m1 a ha
    have L := Lib.hid (q3 c1 c2)
    clear q1 q2 q3 q4 s1 s2 c1 c2
    go_enter Try.func43, Try.ntmps43
    go_wp2_with (first
      | (go_at_call 32; ((with_reducible refine (M _).mono ?_); rintro e w' ⟨rfl, rfl⟩))
      | (go_at_call 51; ((with_reducible refine (C1 _).mono ?_); rintro e w' ⟨rfl, rfl⟩))
      | (go_at_call 51; ((with_reducible refine (C2 _).mono ?_); rintro e w' ⟨rfl, rfl⟩)))
    exact bodyPost_ret (v := .agg #[.int .i64 (wrap64 (wrap64 (wrap64 hp) - a)), .int .u64 (lo64 (a * b))]) (by simp [results, Try.results43, go_sem]) rfl ⟨ret_wv (by have l := L.out; have h := hi_bounds _ HB.out; unfold wrap64; omega) rfl, grew_alloc _ _ _⟩
  · have s1 : sgn a = 0 := sgn_pos c1
    have s2 : sgn b = 0 := sgn_pos c2
    rw [s1] at C1
    rw [s2] at C2
    have l1 : bits .and .i64 (0) b = 0 := and_zero b
    have l2 : bits .and .i64 (0) a = 0 := and_zero a
    have L := Lib.hid (q4 c1 c2)
    clear q1 q2 q3 q4 s1 s2 c1 c2
    go_enter Try.func43, Try.ntmps43
    go_wp2_with (first
      | (go_at_call 32; ((with_reducible refine (M _).mono ?_); rintro e w' ⟨rfl, rfl⟩))
      | (go_at_call 51; ((with_reducible refine (C1 _).mono ?_); rintro e w' ⟨rfl, rfl⟩))
      | (go_at_call 51; ((with_reducible refine (C2 _).mono ?_); rintro e w' ⟨rfl, rfl⟩)))
    exact bodyPost_ret (v := .agg #[.int .i64 (wrap64 (wrap64 (wrap64 hp))), .int .u64 (lo64 (a * b))]) (by simp [results, Try.results43, go_sem]) rfl ⟨ret_wv (by have l := L.out; have h := hi_bounds _ HB.out; unfold wrap64; omega) rfl, grew_alloc _ _ _⟩
end Go.Proofs.Ytkkemmfghjgmeaa.NumK
