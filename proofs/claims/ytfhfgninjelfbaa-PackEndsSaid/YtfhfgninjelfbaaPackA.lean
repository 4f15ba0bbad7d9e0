/- pack: fold, unfold, mayStand. -/
import Derived.Test.YtfhfgninjelfbaaBytes
import Derived.Test.YtfhfgninjelfbaaPackMath
import Derived.Test.YtfhfgninjelfbaaWide0
namespace Go.Proofs.Ytfhfgninjelfbaa.NumK
open Go.RowKit

theorem and1 (z : Nat) : bits .and .u64 (z : Int) 1 = ((z % 2 : Nat) : Int) := by
  have hm : (BitVec.ofInt 64 1).toNat = 2 ^ 1 - 1 := by decide
  have key : (BitVec.ofInt 64 (z : Int) &&& BitVec.ofInt 64 1).toNat = z % 2 := by
    rw [BitVec.toNat_and, BitVec.toNat_ofInt, hm, Nat.and_two_pow_sub_one_eq_mod]
    omega
  show IntKind.u64.wrap ((BitVec.ofInt 64 (z : Int) &&& BitVec.ofInt 64 1).toNat : Nat) = _
  rw [key, IntKind.wrap_u64]
  omega
theorem not_i64 (x : Int) (h0 : 0 ≤ x) (h1 : x ≤ 9223372036854775807) : bits .xor .i64 (-1) x = -x - 1 := by
  have e1 : BitVec.ofInt 64 (-1) = BitVec.allOnes 64 := by decide
  have e2 : (BitVec.ofInt 64 x).toNat = x.toNat := by rw [BitVec.toNat_ofInt]; omega
  show IntKind.i64.wrap ((BitVec.ofInt 64 (-1) ^^^ BitVec.ofInt 64 x).toNat : Nat) = _
  rw [e1, BitVec.xor_comm, BitVec.xor_allOnes, BitVec.toNat_not, e2, IntKind.wrap_i64]
  omega

theorem zig_lo {n : Int} (h : 0 ≤ n) : n * 2 = ((zig n : Nat) : Int) := by unfold zig; split <;> omega
theorem zig_not {n : Int} (h : n < 0) (h1 : -9223372036854775808 ≤ n) : bits .xor .u64 IntKind.u64.max (IntKind.u64.wrap (IntKind.u64.wrap n * 2)) = ((zig n : Nat) : Int) := by
  have e : IntKind.u64.wrap (IntKind.u64.wrap n * 2) = 18446744073709551616 + 2 * n := by rw [IntKind.wrap_u64, IntKind.wrap_u64]; omega
  rw [e, not_u64 _ (by omega) (by omega)]
  unfold zig; split <;> omega

theorem fold_any (n : Int) (h1 : -9223372036854775808 ≤ n) (h2 : n ≤ 9223372036854775807) (w : World) :
    Calls Try.prog 44 #[.int .i64 n] w fun e w' => e = .returned (.int .u64 (zig n)) ∧ w = w' := by
  by_cases h : n < 0
  · have HZ := Lib.hid (zig_not h h1)
    go_enter Try.func44, Try.ntmps44
    go_wp2
    go_ret
    exact ⟨ret_i HZ.out, rfl⟩
  · have HZ := Lib.hid (zig_lo (n := n) (by omega))
    go_enter Try.func44, Try.ntmps44
    go_wp2
    go_ret
    exact ⟨ret_i HZ.out, rfl⟩

theorem unfold_any (z : Nat) (h : z < 18446744073709551616) (w : World) :
    Calls Try.prog 38 #[.int .u64 z] w fun e w' => e = .returned (.int .i64 (zag z)) ∧ w = w' := by
  have ha := and1 z
  have hx := not_i64 ((z : Int) / 2) (by omega) (by omega)
  by_cases c : z % 2 = 1
  · rw [c] at ha
    have HZ : Hid (-((z : Int) / 2) - 1 = zag z) := by show _ = _; unfold zag; rw [if_pos c]; omega
    clear c
    go_enter Try.func38, Try.ntmps38
    go_wp2
    go_ret
    exact ⟨ret_i HZ.out, rfl⟩
  · have c2 : z % 2 = 0 := by omega
    rw [c2] at ha
    have HZ : Hid ((z : Int) / 2 = zag z) := by show _ = _; unfold zag; rw [if_neg c]; omega
    clear c c2
    go_enter Try.func38, Try.ntmps38
    go_wp2
    go_ret
    exact ⟨ret_i HZ.out, rfl⟩

def mayB (i g : Nat) (b : Bool) : Bool := (decide (i ≤ 8) || (decide (i = 9) && decide (g ≤ 1)) || (decide (10 ≤ i) && decide (g = 0))) && (!b || decide (g ≠ 0) || decide (i = 0))
theorem stand (i g : Nat) (hg : g < 128) : (IntKind.u64.wrap ((g : Int) * 2 ^ min (7 * i) 64) / 2 ^ min (7 * i) 64 == (g : Int)) = (decide (i ≤ 8) || (decide (i = 9) && decide (g ≤ 1)) || (decide (10 ≤ i) && decide (g = 0))) := by
  by_cases c : i ≤ 8
  · have hm : min (7 * i) 64 = 7 * i := by omega
    have hp : (2 : Int) ^ (7 * i) = ((2 ^ (7 * i) : Nat) : Int) := by simp
    have hp2 : 2 ^ (7 * i) ≤ 2 ^ 56 := Nat.pow_le_pow_right (by decide) (by omega)
    have hp3 : 0 < 2 ^ (7 * i) := Nat.two_pow_pos _
    rw [hm, hp]
    generalize 2 ^ (7 * i) = k at *
    have hk : g * k ≤ 127 * 2 ^ 56 := Nat.mul_le_mul (by omega) hp2
    have hw : IntKind.u64.wrap ((g : Int) * (k : Int)) = (g : Int) * k := by
      rw [IntKind.wrap_u64, ← Int.natCast_mul]; omega
    rw [hw, Int.mul_ediv_cancel _ (by omega)]
    simp [c]
  · by_cases c9 : i = 9
    · subst c9
      have hw : IntKind.u64.wrap ((g : Int) * 2 ^ min (7 * 9) 64) / 2 ^ min (7 * 9) 64 = (g : Int) % 2 := by
        have e : min (7 * 9) 64 = 63 := by decide
        rw [e, IntKind.wrap_u64]
        show (g : Int) * 9223372036854775808 % 18446744073709551616 / 9223372036854775808 = _
        omega
      rw [hw, Bool.eq_iff_iff]
      simp
      omega
    · have hw : IntKind.u64.wrap ((g : Int) * 2 ^ min (7 * i) 64) / 2 ^ min (7 * i) 64 = 0 := by
        have e : min (7 * i) 64 = 64 := by omega
        rw [e, IntKind.wrap_u64]
        show (g : Int) * 18446744073709551616 % 18446744073709551616 / 18446744073709551616 = _
        omega
      rw [hw, Bool.eq_iff_iff]
      simp [c, c9]
      omega

theorem mayStand_any (i g : Nat) (b : Bool) (hi : i ≤ 1000000000000000000) (hg : g < 128) (w : World) :
    Calls Try.prog 36 #[.int .u64 g, .int .i64 (7 * i : Nat), .bool b] w fun e w' => e = .returned (.bool (mayB i g b)) ∧ w = w' := by
  have hS := stand i g hg
  have hb : (7 * i : Nat) ≤ 7000000000000000000 := by omega
  have HM : Hid (mayB i g b = ((decide (i ≤ 8) || (decide (i = 9) && decide (g ≤ 1)) || (decide (10 ≤ i) && decide (g = 0))) && (!b || decide (g ≠ 0) || decide (i = 0)))) := rfl
  have HI : Hid (decide (i = 0) = ((7 * i : Nat) == (0 : Int))) := by show _ = _; rw [Bool.eq_iff_iff]; simp; omega
  generalize (decide (i ≤ 8) || (decide (i = 9) && decide (g ≤ 1)) || (decide (10 ≤ i) && decide (g = 0))) = st at *
  generalize mayB i g b = r at *
  generalize 7 * i = s at *
  clear hi
  cases st with
  | false =>
    have hS2 : (IntKind.u64.wrap ((g : Int) * 2 ^ min s 64) / 2 ^ min s 64 != (g : Int)) = true := by rw [bne, hS]; rfl
    clear hS
    go_enter Try.func36, Try.ntmps36
    go_wp2
    go_ret
    exact ⟨ret_b (by rw [HM.out]; rfl), rfl⟩
  | true =>
    have hS2 : (IntKind.u64.wrap ((g : Int) * 2 ^ min s 64) / 2 ^ min s 64 != (g : Int)) = false := by rw [bne, hS]; rfl
    clear hS
    cases b with
    | false =>
      go_enter Try.func36, Try.ntmps36
      go_wp2
      go_ret
      exact ⟨ret_b (by rw [HM.out]; simp), rfl⟩
    | true =>
      by_cases h0 : g = 0
      · subst h0
        go_enter Try.func36, Try.ntmps36
        go_wp2
        go_ret
        exact ⟨ret_b (by rw [HM.out, HI.out]; simp), rfl⟩
      · have h0' : ((g : Int) != 0) = true := by simp; omega
        go_enter Try.func36, Try.ntmps36
        go_wp2
        go_ret
        exact ⟨ret_b (by rw [HM.out]; simp [h0]), rfl⟩
end Go.Proofs.Ytfhfgninjelfbaa.NumK
