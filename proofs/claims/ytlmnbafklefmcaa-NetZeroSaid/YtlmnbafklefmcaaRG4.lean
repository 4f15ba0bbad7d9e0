/- The contracts of math/bits.Len64, LeadingZeros64 and Div64. -/
import Derived.Test.YtlmnbafklefmcaaRG2
import Derived.Lib.BitFns
import Derived.Deep.QuietTactic
import Derived.BigQuiet
import Derived.Deep.DeepCutAuto
import Derived.Deep.Light
import Derived.Deep.CutBlock
import Derived.Test.YtlmnbafklefmcaaRG1
import Derived.Deep.AppendLies
import Derived.Maps.Own
import Derived.Maps.Views
import Derived.DeepKeys4
import Derived.WideKeyEntry
import Derived.RangeFuncSeq
import Derived.RangeFuncGives
import Derived.Sort.MapsRangeIn
import Derived.WalkKit
import Derived.OwnWalkIn
import Derived.TacticsInMore
import Derived.RegionIn
import Derived.LoopNIn
import Derived.LoopIn
import Derived.Shelf.SlSortCmp.WholeK
import Derived.Ground.SlsfProg
namespace Go.Proofs.Ytlmnbafklefmcaa.NumK
open Go.RowKit

end Go.Proofs.Ytlmnbafklefmcaa.NumK
namespace Go.Proofs.Ytlmnbafklefmcaa.NumK
open Go.RowKit

/-- y1 and y0 are the halves of what divides, u the rest so far, d the next digit, q and r the guess: q is not below the digit that is looked for. -/
def Dig (y1 y0 u d q r : Int) : Prop := q * y1 + r = u ∧ u * 4294967296 + d < (q + 1) * (y1 * 4294967296 + y0) ∧ 0 ≤ r ∧ 0 ≤ q ∧ q ≤ 4294967297

theorem dig_start (y1 y0 u d q : Int) (h1 : 2147483648 ≤ y1) (h3 : 0 ≤ y0) (h4 : y0 < 4294967296) (h5 : 0 ≤ u) (h6 : u < y1 * 4294967296 + y0) (h8 : d < 4294967296) (hq : q = u / y1) :
    Dig y1 y0 u d q (u - q * y1) ∧ u - q * y1 < y1 := by
  have e1 := Int.mul_ediv_add_emod u y1
  have e2 := Int.emod_nonneg u (show y1 ≠ 0 by omega)
  have e3 := Int.emod_lt_of_pos u (show 0 < y1 by omega)
  have e4 : 0 ≤ q := by rw [hq]; exact Int.ediv_nonneg h5 (by omega)
  rw [← hq, Int.mul_comm] at e1
  have e5 : q ≤ 4294967297 := by
    rcases Int.lt_or_le 4294967297 q with h | h
    · have : 4294967298 * y1 ≤ q * y1 := Int.mul_le_mul_of_nonneg_right h (by omega)
      omega
    · exact h
  have e6 : (q + 1) * (y1 * 4294967296 + y0) = q * y1 * 4294967296 + y1 * 4294967296 + (q + 1) * y0 := by grind
  have e7 : 0 ≤ (q + 1) * y0 := Int.mul_nonneg (by omega) h3
  refine ⟨⟨by omega, ?_, by omega, e4, e5⟩, by omega⟩
  rw [e6]
  generalize (q + 1) * y0 = A at *
  generalize q * y1 = B at *
  omega

/-! ### shifts and masks of 64 bits -/
theorem maskI (x : Int) (h0 : 0 ≤ x) (h1 : x < 18446744073709551616) : bits .and .u64 x 4294967295 = x % 4294967296 := by
  obtain ⟨a, rfl⟩ := Int.eq_ofNat_of_zero_le h0
  have h := bits_and_u64_nat a 4294967295 (by omega) (by omega)
  have e : a &&& 4294967295 = a % 4294967296 := Nat.and_two_pow_sub_one_eq_mod a 32
  rw [e] at h
  exact h

theorem or_shift (a b s : Nat) (hb : b < 2 ^ s) (ha : a * 2 ^ s < 18446744073709551616) (hb2 : b < 18446744073709551616) : bits .or .u64 ((a * 2 ^ s : Nat) : Int) (b : Int) = ((a * 2 ^ s + b : Nat) : Int) := by
  have h := bits_or_u64_nat (a * 2 ^ s) b ha hb2
  rw [h, ← Nat.shiftLeft_eq, ← Nat.shiftLeft_add_eq_or_of_lt hb]
end Go.Proofs.Ytlmnbafklefmcaa.NumK
namespace Go.Proofs.Ytlmnbafklefmcaa.NumK
open Go.RowKit

theorem pow_nat (s : Nat) : ((2 : Int) ^ s) = ((2 ^ s : Nat) : Int) := by simp

theorem scaled (hi lo y s : Int) (h0 : 0 ≤ hi) (h1 : hi < y) (l0 : 0 ≤ lo) (l1 : lo ≤ 18446744073709551615) (s0 : 0 ≤ s) (s1 : s ≤ 63) (p0 : 2 ^ (63 - s).toNat ≤ y) (p1 : y < 2 ^ (64 - s).toNat) :
    ∃ Y H B U L y1 y0 d1 d0 : Int, IntKind.u64.wrap (y * 2 ^ s.toNat) = Y ∧ IntKind.u64.wrap (hi * 2 ^ s.toNat) = H ∧ lo / 2 ^ (64 - s).toNat = B ∧ bits .or .u64 H B = U ∧ IntKind.u64.wrap (lo * 2 ^ s.toNat) = L
      ∧ Y / 4294967296 = y1 ∧ bits .and .u64 Y 4294967295 = y0 ∧ L / 4294967296 = d1 ∧ bits .and .u64 L 4294967295 = d0
      ∧ Y = y1 * 4294967296 + y0 ∧ 2147483648 ≤ y1 ∧ y1 < 4294967296 ∧ 0 ≤ y0 ∧ y0 < 4294967296 ∧ 0 ≤ d1 ∧ d1 < 4294967296 ∧ 0 ≤ d0 ∧ d0 < 4294967296 ∧ 0 ≤ U ∧ U < Y
      ∧ (0 ≤ H ∧ H < 18446744073709551616) ∧ (0 ≤ B ∧ B < 18446744073709551616) ∧ (0 ≤ L ∧ L < 18446744073709551616)
      ∧ U * 18446744073709551616 + (d1 * 4294967296 + d0) = (hi * 18446744073709551616 + lo) * 2 ^ s.toNat ∧ Y = y * 2 ^ s.toNat := by
  obtain ⟨k, rfl⟩ := Int.eq_ofNat_of_zero_le s0
  have k1 : k ≤ 63 := by omega
  have t1 : ((k : Int)).toNat = k := by omega
  have t2 : (64 - (k : Int)).toNat = 64 - k := by omega
  have t3 : (63 - (k : Int)).toNat = 63 - k := by omega
  rw [t2] at p1
  rw [t3] at p0
  rw [t1, t2]
  have hST : (2 : Int) ^ k * 2 ^ (64 - k) = 18446744073709551616 := by
    rw [← Int.pow_add, show k + (64 - k) = 64 by omega]; rfl
  have hSV : (2 : Int) ^ k * 2 ^ (63 - k) = 9223372036854775808 := by
    rw [← Int.pow_add, show k + (63 - k) = 63 by omega]; rfl
  have hS : (0 : Int) < 2 ^ k := Int.pow_pos (by omega)
  have hT : (0 : Int) < 2 ^ (64 - k) := Int.pow_pos (by omega)
  obtain ⟨a, rfl⟩ := Int.eq_ofNat_of_zero_le h0
  obtain ⟨l, rfl⟩ := Int.eq_ofNat_of_zero_le l0
  have hB0 : 0 ≤ (l : Int) / 2 ^ (64 - k) := Int.ediv_nonneg (by omega) (by omega)
  have hB1 : (l : Int) / 2 ^ (64 - k) < 2 ^ k := by
    apply Int.ediv_lt_of_lt_mul hT
    rw [hST]; omega
  obtain ⟨b, hb⟩ := Int.eq_ofNat_of_zero_le hB0
  have hY1 : y * 2 ^ k < 18446744073709551616 := by
    have := Int.mul_lt_mul_of_pos_right p1 hS
    rw [Int.mul_comm (2 ^ (64 - k)), hST] at this; exact this
  have hY0 : 9223372036854775808 ≤ y * 2 ^ k := by
    have := Int.mul_le_mul_of_nonneg_right p0 (Int.le_of_lt hS)
    rw [Int.mul_comm (2 ^ (63 - k)), hSV] at this; exact this
  have hU : (a : Int) * 2 ^ k + 2 ^ k ≤ y * 2 ^ k := by
    have := Int.mul_le_mul_of_nonneg_right (show (a : Int) + 1 ≤ y by omega) (Int.le_of_lt hS)
    rw [Int.add_mul, Int.one_mul] at this; exact this
  have hA0 : 0 ≤ (a : Int) * 2 ^ k := Int.mul_nonneg (by omega) (by omega)
  have hwY : IntKind.u64.wrap (y * 2 ^ k) = y * 2 ^ k := by rw [IntKind.wrap_u64]; omega
  have hwH : IntKind.u64.wrap ((a : Int) * 2 ^ k) = (a : Int) * 2 ^ k := by rw [IntKind.wrap_u64]; omega
  have hl := Int.mul_ediv_add_emod (l : Int) (2 ^ (64 - k))
  have hl0 := Int.emod_nonneg (l : Int) (show (2 : Int) ^ (64 - k) ≠ 0 by omega)
  have hl1 := Int.emod_lt_of_pos (l : Int) hT
  have hL0 : 0 ≤ (l : Int) % 2 ^ (64 - k) * 2 ^ k := Int.mul_nonneg hl0 (by omega)
  have hL1 : (l : Int) % 2 ^ (64 - k) * 2 ^ k < 18446744073709551616 := by
    have := Int.mul_lt_mul_of_pos_right hl1 hS
    rw [Int.mul_comm (2 ^ (64 - k)), hST] at this; exact this
  have hL : (l : Int) * 2 ^ k = (l : Int) / 2 ^ (64 - k) * 18446744073709551616 + (l : Int) % 2 ^ (64 - k) * 2 ^ k := by
    have e : ((2 : Int) ^ (64 - k) * ((l : Int) / 2 ^ (64 - k)) + (l : Int) % 2 ^ (64 - k)) * 2 ^ k = (l : Int) / 2 ^ (64 - k) * (2 ^ k * 2 ^ (64 - k)) + (l : Int) % 2 ^ (64 - k) * 2 ^ k := by grind
    rw [hl, hST] at e
    exact e
  have hwL : IntKind.u64.wrap ((l : Int) * 2 ^ k) = (l : Int) % 2 ^ (64 - k) * 2 ^ k := by rw [IntKind.wrap_u64, hL]; omega
  have hO : bits .or .u64 ((a : Int) * 2 ^ k) (l / 2 ^ (64 - k)) = (a : Int) * 2 ^ k + (l : Int) / 2 ^ (64 - k) := by
    have hA1 : (a : Int) * 2 ^ k < 18446744073709551616 := by omega
    rw [hb]
    rw [pow_nat, ← Int.natCast_mul] at hA1
    have hA2 : a * 2 ^ k < 18446744073709551616 := by omega
    have hB2 : b < 2 ^ k := by rw [hb, pow_nat] at hB1; omega
    have hB3 : b < 18446744073709551616 := by
      have : (2 : Nat) ^ k ≤ 2 ^ 63 := Nat.pow_le_pow_right (by omega) k1
      omega
    have := or_shift a b k hB2 hA2 hB3
    rw [pow_nat, ← Int.natCast_mul, this, Int.natCast_add]
  rw [hwY, hwH, hwL]
  have hmY := maskI (y * 2 ^ k) (by omega) (by omega)
  have hmL := maskI ((l : Int) % 2 ^ (64 - k) * 2 ^ k) (by omega) (by omega)
  have hN : ((a : Int) * 2 ^ k + (l : Int) / 2 ^ (64 - k)) * 18446744073709551616 + (l : Int) % 2 ^ (64 - k) * 2 ^ k = (a * 18446744073709551616 + l) * 2 ^ k := by
    rw [Int.add_mul, Int.add_mul (a * 18446744073709551616), hL]
    have : (a : Int) * 2 ^ k * 18446744073709551616 = a * 18446744073709551616 * 2 ^ k := by grind
    omega
  refine ⟨_, _, _, _, _, _, _, _, _, rfl, rfl, rfl, hO, rfl, rfl, hmY, rfl, hmL, ?_⟩
  generalize (a : Int) * 2 ^ k = A at *
  generalize (l : Int) % 2 ^ (64 - k) * 2 ^ k = L at *
  generalize (l : Int) / 2 ^ (64 - k) = B at *
  generalize y * 2 ^ k = Y at *
  generalize (a * 18446744073709551616 + l : Int) * 2 ^ k = N at *
  have hSb : (2 : Int) ^ k ≤ 9223372036854775808 := by
    have : (2 : Int) ^ k * 1 ≤ 2 ^ k * 2 ^ (63 - k) := Int.mul_le_mul_of_nonneg_left (by have : (0 : Int) < 2 ^ (63 - k) := Int.pow_pos (by omega); omega) (by omega)
    omega
  generalize (2 : Int) ^ k = S at *
  refine ⟨by omega, by omega, by omega, by omega, by omega, by omega, by omega, by omega, by omega, by omega, by omega, ⟨by omega, by omega⟩, ⟨by omega, by omega⟩, ⟨by omega, by omega⟩, by omega, rfl⟩

theorem digit (Y y1 y0 u d : Int) (f1 : Y = y1 * 4294967296 + y0) (f2 : 2147483648 ≤ y1) (f3 : y1 < 4294967296) (f4 : 0 ≤ y0) (f5 : y0 < 4294967296) (f6 : 0 ≤ d) (f7 : d < 4294967296) (f10 : 0 ≤ u) (f11 : u < Y) :
    ∃ q m q2 V a1 a2 a3 : Int, IntKind.u64.wrap (u.tdiv y1) = q ∧ IntKind.u64.wrap (q * y1) = m ∧ Dig y1 y0 u d q (u - m) ∧ 0 ≤ q ∧ q ≤ 4294967297 ∧ 0 ≤ m ∧ m ≤ u ∧ u - m < y1
      ∧ (u * 4294967296 + d) / (y1 * 4294967296 + y0) = q2 ∧ 0 ≤ q2 ∧ q2 < 4294967296 ∧ IntKind.u64.wrap (u * 4294967296) = a1 ∧ IntKind.u64.wrap (a1 + d) = a2 ∧ IntKind.u64.wrap (q2 * Y) = a3 ∧ IntKind.u64.wrap (a2 - a3) = V
      ∧ 0 ≤ V ∧ V < Y ∧ u * 4294967296 + d = q2 * Y + V := by
  obtain ⟨dg, dr⟩ := dig_start y1 y0 u d (u / y1) f2 f4 f5 f10 (by omega) f7 rfl
  obtain ⟨a1, a2, a3, a4, a5⟩ := id dg
  have m0 : 0 ≤ u / y1 * y1 := Int.mul_nonneg a4 (by omega)
  have e1 : IntKind.u64.wrap (u.tdiv y1) = u / y1 := by rw [Int.tdiv_eq_ediv_of_nonneg f10, IntKind.wrap_u64]; omega
  have e2 : IntKind.u64.wrap (u / y1 * y1) = u / y1 * y1 := by
    generalize u / y1 * y1 = M at *
    rw [IntKind.wrap_u64]; omega
  rw [← f1]
  have n0 : 0 ≤ (u * 4294967296 + d) / Y := Int.ediv_nonneg (by omega) (by omega)
  have n1 : (u * 4294967296 + d) / Y < 4294967296 := Int.ediv_lt_of_lt_mul (by omega) (by omega)
  have n2 := Int.mul_ediv_add_emod (u * 4294967296 + d) Y
  have n3 := Int.emod_nonneg (u * 4294967296 + d) (show Y ≠ 0 by omega)
  have n4 := Int.emod_lt_of_pos (u * 4294967296 + d) (show 0 < Y by omega)
  rw [Int.mul_comm] at n2
  refine ⟨_, _, _, (u * 4294967296 + d) % Y, _, _, _, e1, e2, dg, a4, a5, m0, by omega, dr, rfl, n0, n1, rfl, rfl, rfl, ?_, n3, n4, n2.symm⟩
  generalize (u * 4294967296 + d) / Y * Y = A at *
  generalize (u * 4294967296 + d) % Y = B at *
  rw [IntKind.wrap_u64, IntKind.wrap_u64, IntKind.wrap_u64, IntKind.wrap_u64]
  omega

end Go.Proofs.Ytlmnbafklefmcaa.NumK
namespace Go.Proofs.Ytlmnbafklefmcaa.NumK
open Go.RowKit

end Go.Proofs.Ytlmnbafklefmcaa.NumK
namespace Go.Proofs.Ytlmnbafklefmcaa.NumK
open Go.RowKit
theorem grew_every {w : World} {S : World → Prop} (h : ∀ w', Grew w w' → S w') : ∀ p : GrewTo w, S p.to := fun p => h p.to p.h
theorem calls_every {P : Program} {f : FuncId} {args : Array Value} {w : World} {p : GrewTo w} {v : Value}
    (h : ∀ w', Grew w w' → Calls P f args w' fun e w'' => e = .returned v ∧ Grew w' w'') : Calls P f args p.to fun e w'' => e = .returned v ∧ ∃ q : GrewTo w, w'' = q.to := calls_grew (h p.to p.h)
end Go.Proofs.Ytlmnbafklefmcaa.NumK
namespace Go.Proofs.Ytlmnbafklefmcaa.NumK
open Go.RowKit

theorem money_any (n : Int) (w : World) :
    Calls Try.prog 46 #[.int .i64 n] w fun e w' => e = .returned (.tuple #[.int .i64 (capV n), .int .i64 (capE n)]) ∧ Grew w w' := by
  by_cases h : isMoney n = true
  · have hr : [n].all isMoney = true := by simp [h]
    have H := Lib.hid h
    have C := (right_any (some ⟨w.heap.size, 0, none⟩) 1 1 [n] _ (ints1 w n 3) (by omega))
    rw [hr] at C
    clear hr h
    go_enter Try.func46, Try.ntmps46
    go_wp2_with (go_at_call 40; refine C.mono ?_; rintro e w' ⟨rfl, rfl⟩)
    go_ret2
    exact ⟨ret2 (capV_in H.out).symm (capE_in H.out).symm, grew_alloc _ _ _⟩
  · simp only [Bool.not_eq_true] at h
    have hr : [n].all isMoney = false := by simp [h]
    have H := Lib.hid h
    have C := (right_any (some ⟨w.heap.size, 0, none⟩) 1 1 [n] _ (ints1 w n 3) (by omega))
    rw [hr] at C
    clear hr h
    go_enter Try.func46, Try.ntmps46
    go_wp2_with (go_at_call 40; refine C.mono ?_; rintro e w' ⟨rfl, rfl⟩)
    go_ret2
    exact ⟨ret2 (capV_out H.out).symm (capE_out H.out).symm, grew_alloc _ _ _⟩

/-! ### Sum -/
def up (zs : List Int) : Int := (zs.map (· / 2147483648)).sum
def lo (zs : List Int) : Int := (zs.map (· % 2147483648)).sum

theorem up_succ (zs : List Int) (k : Nat) (h : k < zs.length) : up (zs.take (k + 1)) = up (zs.take k) + zs.getD k 0 / 2147483648 := by
  unfold up
  rw [List.take_succ_eq_append_getElem h, List.map_append, List.sum_append]
  simp [List.getD, List.getElem?_eq_getElem h]
theorem lo_succ (zs : List Int) (k : Nat) (h : k < zs.length) : lo (zs.take (k + 1)) = lo (zs.take k) + zs.getD k 0 % 2147483648 := by
  unfold lo
  rw [List.take_succ_eq_append_getElem h, List.map_append, List.sum_append]
  simp [List.getD, List.getElem?_eq_getElem h]
theorem up_lo (zs : List Int) : up zs * 2147483648 + lo zs = zs.sum := by
  induction zs with
  | nil => rfl
  | cons z zs ih => simp only [up, lo, List.map_cons, List.sum_cons] at *; omega
theorem lo_bd (zs : List Int) : 0 ≤ lo zs ∧ lo zs ≤ zs.length * 2147483648 := by
  induction zs with
  | nil => simp [lo]
  | cons z zs ih => simp only [lo, List.map_cons, List.sum_cons, List.length_cons] at *; omega
theorem up_bd (zs : List Int) (h : zs.all isMoney = true) : -(zs.length * 2147483648) ≤ up zs ∧ up zs ≤ zs.length * 2147483648 := by
  induction zs with
  | nil => simp [up]
  | cons z zs ih =>
    simp only [List.all_cons, Bool.and_eq_true, isMoney_iff] at h
    have := ih h.2
    simp only [up, List.map_cons, List.sum_cons, List.length_cons] at *; omega

def sumV (zs : List Int) : Int := if zs.all isMoney then capV zs.sum else 0
def sumE (zs : List Int) : Int := if zs.all isMoney then capE zs.sum else 3
theorem sumV_in {zs : List Int} (h : zs.all isMoney = true) : sumV zs = capV zs.sum := by simp only [sumV, h, if_true]
theorem sumE_in {zs : List Int} (h : zs.all isMoney = true) : sumE zs = capE zs.sum := by simp only [sumE, h, if_true]
theorem sumV_out {zs : List Int} (h : zs.all isMoney = false) : sumV zs = 0 := by simp [sumV, h]
theorem sumE_out {zs : List Int} (h : zs.all isMoney = false) : sumE zs = 3 := by simp [sumE, h]

theorem sum_wrong (A : Option Addr) (n c : Nat) (zs : List Int) (w : World) (hz : Ints w A n zs) (hn : n ≤ 9223372036854775807) (h : zs.all isMoney = false) :
    Calls Try.prog 25 #[.slice A n c] w fun e w' => e = .returned (.tuple #[.int .i64 (sumV zs), .int .i64 (sumE zs)]) ∧ Grew w w' := by
  have C := right_any A n c zs w hz hn
  rw [h] at C
  have H := Lib.hid h
  clear h hz
  go_enter Try.func25, Try.ntmps25
  go_wp2_with (go_at_call 40; refine C.mono ?_; rintro e w' ⟨rfl, rfl⟩)
  go_ret2
  exact ⟨ret2 (sumV_out H.out).symm (sumE_out H.out).symm, grew_refl _⟩

set_option maxHeartbeats 1000000 in
theorem sum_right (A : Option Addr) (n c : Nat) (zs : List Int) (w : World) (hz : Ints w A n zs) (hn : n ≤ 1000000) (h : zs.all isMoney = true) :
    Calls Try.prog 25 #[.slice A n c] w fun e w' => e = .returned (.tuple #[.int .i64 (sumV zs), .int .i64 (sumE zs)]) ∧ Grew w w' := by
  have C := right_any A n c zs w hz (by omega)
  rw [h] at C
  have H := Lib.hid h
  have HZ : Hid (Ints w A n zs) := hz
  clear h hz
  go_enter Try.func25, Try.ntmps25
  go_wp2_with (go_at_call 40; refine C.mono ?_; rintro e w' ⟨rfl, rfl⟩)
  go_loop [4, 5, 13] (fun u l i => ∃ k : Nat, k ≤ n ∧ i = .int .i64 k ∧ u = .int .i64 (up (zs.take k)) ∧ l = .int .i64 (lo (zs.take k))) (fun _ _ i => n - (intOf i).toNat)
  case atStart => exact ⟨0, Nat.zero_le _, rfl, rfl, rfl⟩
  case round =>
    obtain ⟨k, hk, rfl, rfl, rfl⟩ := hrel
    have hlen := HZ.out.1
    have b1 := up_bd (zs.take k) (by rw [List.all_eq_true]; intro x hx; exact (List.all_eq_true.1 H.out) x (List.mem_of_mem_take hx))
    have b2 := lo_bd (zs.take k)
    have hlk : (zs.take k).length = k := by simp; omega
    rw [hlk] at b1 b2
    by_cases hlt : k < n
    · obtain ⟨b, o, rfl, _, hc⟩ := HZ.out.2 (by omega)
      have hcell := hc k hlt
      have hu := up_succ zs k (by omega)
      have hl := lo_succ zs k (by omega)
      have hm : isMoney (zs.getD k 0) = true := (List.all_eq_true.1 H.out) _ (by rw [List.getD_eq_getElem?_getD, List.getElem?_eq_getElem (by omega)]; exact List.getElem_mem _)
      rw [isMoney_iff] at hm
      obtain ⟨hm1, hm2⟩ := hm
      obtain ⟨b3, b4⟩ := b1
      obtain ⟨b5, b6⟩ := b2
      generalize zs.getD k 0 = y at *
      generalize up (zs.take k) = U at *
      generalize lo (zs.take k) = L at *
      have HU := Lib.hid hu
      have HL := Lib.hid hl
      have k31 := mask31 y
      clear hu hl hc hlen hlk
      go_wp2
      go_round
      case rel => exact ⟨k + 1, by omega, by go_num, by rw [HU.out], by rw [HL.out]⟩
      case measure => simp [intOf]; omega
    · have : k = n := by omega
      subst this
      have ht : zs.take k = zs := List.take_of_length_le (by omega)
      rw [ht] at b1 b2 ⊢
      have hs := up_lo zs
      have HS : Hid (zs.sum = (up zs + lo zs / 2147483648) * 2147483648 + lo zs % 2147483648) := by show zs.sum = _; omega
      clear hs ht hlk hlen hlt
      have e1 : sumV zs = capV zs.sum := sumV_in H.out
      have e2 : sumE zs = capE zs.sum := sumE_in H.out
      have E1 := Lib.hid e1
      have E2 := Lib.hid e2
      clear e1 e2
      generalize up zs = U at *
      generalize lo zs = L at *
      obtain ⟨b3, b4⟩ := b1
      obtain ⟨b5, b6⟩ := b2
      have m31 := mask31 L
      have q0 : 0 ≤ L / 2147483648 := by omega
      have q1 : L / 2147483648 ≤ 1000000 := by omega
      have r0 : 0 ≤ L % 2147483648 := by omega
      have r1 : L % 2147483648 < 2147483648 := by omega
      by_cases c1 : U + L / 2147483648 < -2147483648
      · have hf : isMoney zs.sum = false := by rw [← Bool.not_eq_true, isMoney_iff]; have := HS.out; omega
        have HF := Lib.hid hf
        clear hf
        go_wp2
        go_ret2
        exact ⟨ret2 (E1.out.trans (capV_out HF.out)).symm (E2.out.trans (capE_out HF.out)).symm, grew_refl _⟩
      · by_cases c2 : 2147483648 < U + L / 2147483648
        · have hf : isMoney zs.sum = false := by rw [← Bool.not_eq_true, isMoney_iff]; have := HS.out; omega
          have HF := Lib.hid hf
          clear hf
          go_wp2
          go_ret2
          exact ⟨ret2 (E1.out.trans (capV_out HF.out)).symm (E2.out.trans (capE_out HF.out)).symm, grew_refl _⟩
        · go_wp2_with (go_at_call 46; refine (money_any _ _).mono ?_; rintro e w' ⟨rfl, hg⟩)
          go_ret2
          have hs := HS.out
          exact ⟨ret2 (by rw [E1.out, hs]) (by rw [E2.out, hs]), hg⟩

theorem sum_any (A : Option Addr) (n c : Nat) (zs : List Int) (w : World) (hz : Ints w A n zs) (hn : n ≤ 1000000) :
    Calls Try.prog 25 #[.slice A n c] w fun e w' => e = .returned (.tuple #[.int .i64 (sumV zs), .int .i64 (sumE zs)]) ∧ Grew w w' := by
  by_cases h : zs.all isMoney = true
  · exact sum_right A n c zs w hz hn h
  · exact sum_wrong A n c zs w hz (by omega) (by simpa using h)

end Go.Proofs.Ytlmnbafklefmcaa.NumK
namespace Go.Proofs.Ytlmnbafklefmcaa.NumK
open Go.RowKit
set_option linter.unusedVariables false

def enInt : En Int := ⟨1, fun n => [.int .i64 n], fun _ => rfl, fun n v hv => by simp at hv; rw [hv]; rfl, by decide⟩
theorem info_int1 : (Try.prog.info? 3).map (fun i => (i.zero, i.size, i.bytes)) = some (some (.int .i64 0), 1, 8) := by kernel_rfl
theorem ints_of_E {w : World} {A : Option Addr} {n : Nat} {l : List Int} (h : RowE enInt w A n l) : Ints w A n l := by
  refine ⟨h.len, fun hn => ?_⟩
  obtain ⟨b, o, e, hb, hc⟩ := h.at hn
  refine ⟨b, o, e, hb, fun j hj => ?_⟩
  have hj2 : j < l.length := by rw [h.len]; exact hj
  have := hc j hj2 0 (by decide)
  rw [show o + j * enInt.size + 0 = o + j by show o + j * 1 + 0 = _; omega] at this
  rw [this]
  simp [enInt, List.getD, hj2]

end Go.Proofs.Ytlmnbafklefmcaa.NumK
namespace Go.Proofs.Ytlmnbafklefmcaa.NumK
open Go.RowKit
set_option linter.unusedVariables false

structure Two {α β : Type} (E : En α) (F : En β) (w : World) (base : Nat) (s t : TypeId) (va vb : Value) (la : List α) (lb : List β) : Prop where
  a : OwnE E w base s va la
  b : OwnE F w base t vb lb
  ne : ∀ g, va.ownBlock = some g → vb.ownBlock ≠ some g

section
variable {α β : Type} {E : En α} {F : En β} {w w' : World} {base : Nat} {s t : TypeId} {va vb : Value} {la : List α} {lb : List β}
theorem Two.nil (E : En α) (F : En β) (w : World) (base : Nat) (s t : TypeId) : Two E F w base s t (.slice none 0 0) (.slice none 0 0) [] [] := ⟨OwnE.nil _ _ _ _, OwnE.nil _ _ _ _, fun g h => by cases h⟩
theorem Two.keep (h : Two E F w base s t va vb la lb) (g : Grew w w') : Two E F w' base s t va vb la lb := ⟨h.a.keep g, h.b.keep g, h.ne⟩
theorem Two.grown (h : Two E F w base s t va vb la lb) {x : List α} {v' : Value} (ho : OwnE E w' base s v' x) (hg : w.grownBy w' va.ownBlock) (hat : ∀ g, v'.ownBlock = some g → va.ownBlock = some g ∨ g = w.heap.size) : Two E F w' base s t v' vb x lb := by
  refine ⟨ho, World.ownsRow.kept h.b hg ?_, fun g h1 h2 => ?_⟩
  · cases hv : vb.ownBlock with
    | none => exact Or.inl rfl
    | some g => exact Or.inr fun e => h.ne g e.symm hv
  · rcases hat g h1 with h3 | h3
    · exact h.ne g h3 h2
    · have := (World.ownsRow.lt h.b g h2).2
      omega
theorem Two.below (h : Two E F w base s t va vb la lb) (hg : w.grownBy w' va.ownBlock) (hb : base ≤ w.heap.size) : Below base w w' := (Below.refl base w).grown hg hb fun k hk => (World.ownsRow.lt h.a k hk).1

/-- What one element in a block gives an append. -/
theorem news_one {N : Nat} {x : α} (h : RowE E w (some ⟨N, 0, none⟩) 1 [x]) : ∀ j u, (E.cs x)[j]? = some u → w.cell? ((⟨N, 0, none⟩ : Addr).add j) = some u := by
  intro j u hu
  obtain ⟨b, o, he, hb, hc⟩ := h.at (by omega)
  cases he
  have hj : j < E.size := by
    rw [← E.len x]
    rcases Nat.lt_or_ge j (E.cs x).length with h1 | h1
    · exact h1
    · rw [List.getElem?_eq_none h1] at hu; cases hu
  have := hc 0 (by simp) j hj
  rw [addr_add, ← hu]
  simpa using this
end

section
variable {α β : Type} {E : En α} {F : En β} {w : World} {base : Nat} {s t : TypeId} {va vb : Value} {la : List α} {lb : List β} {ops : Array Oper} {rest : List Oper} {o : Oper} {a : Act} {Q : Exit → Act → World → Prop} {K : Act → World → Prop} {X : Prop}
end
/-- A row in another block than the one that was appended to. -/
theorem RowE.grown {α : Type} {E : En α} {w w' : World} {N n : Nat} {l : List α} {row : Option Nat} (h : RowE E w (some ⟨N, 0, none⟩) n l) (g : w.grownBy w' row) (hne : some N ≠ row) : RowE E w' (some ⟨N, 0, none⟩) n l := by
  refine ⟨h.len, fun hn => ?_⟩
  obtain ⟨b, o, e, hb, hc⟩ := h.at hn
  cases e
  exact ⟨N, 0, rfl, Nat.lt_of_lt_of_le hb g.size, fun j hj => ⟨_, rfl, fun i hi => (g.cell_far ⟨N, _, none⟩ hb hne).trans (hc j hj i hi)⟩⟩
theorem Two.far {α β : Type} {E : En α} {F : En β} {w : World} {base : Nat} {s t : TypeId} {va vb : Value} {la : List α} {lb : List β} (h : Two E F w base s t va vb la lb) {N : Nat} (hN : w.heap.size ≤ N) : some N ≠ va.ownBlock ∧ some N ≠ vb.ownBlock :=
  ⟨fun e => by have := (World.ownsRow.lt h.a N e.symm).2; omega, fun e => by have := (World.ownsRow.lt h.b N e.symm).2; omega⟩
/-- One element in a block made now. -/
theorem RowE.one1 {α : Type} (E : En α) (w : World) (x : α) (t : TypeId) (cs : Array Value) (N : Nat) (hN : N = w.heap.size) (hc : cs = (E.cs x).toArray) : RowE E (w.alloc (.cells cs t)) (some ⟨N, 0, none⟩) 1 [x] := by
  subst hN; subst hc
  refine ⟨rfl, fun _ => ⟨_, _, rfl, by simp, fun j hj => ⟨_, rfl, fun i hi => ?_⟩⟩⟩
  have hj : j < 1 := hj
  obtain rfl : j = 0 := by omega
  show World.cell? _ ⟨_, 0 + 0 * E.size + i, none⟩ = _
  rw [Nat.zero_mul, Nat.zero_add, World.cell?_alloc_at _ _ _ _ rfl]
  simp
end Go.Proofs.Ytlmnbafklefmcaa.NumK
namespace Go.Proofs.Ytlmnbafklefmcaa.NumK
open Go.RowKit
set_option linter.unusedVariables false

structure Fam {κ α : Type} (E : En α) (w : World) (base : Nat) (t : TypeId) (v : κ → Value) (rows : κ → List α) : Prop where
  own : ∀ k, OwnE E w base t (v k) (rows k)
  ne : ∀ k k', k ≠ k' → ∀ g, (v k).ownBlock = some g → (v k').ownBlock ≠ some g

def upd {κ β : Type} [DecidableEq κ] (f : κ → β) (k : κ) (x : β) : κ → β := fun i => if i = k then x else f i
theorem upd_at {κ β : Type} [DecidableEq κ] (f : κ → β) (k : κ) (x : β) : upd f k x k = x := if_pos rfl
theorem upd_ne {κ β : Type} [DecidableEq κ] (f : κ → β) {k i : κ} (x : β) (h : i ≠ k) : upd f k x i = f i := if_neg h

section
variable {κ α : Type} {E : En α} {w w' : World} {base : Nat} {t : TypeId} {v : κ → Value} {rows : κ → List α}
theorem Fam.nil (E : En α) (w : World) (base : Nat) (t : TypeId) : Fam (κ := κ) E w base t (fun _ => .slice none 0 0) (fun _ => []) := ⟨fun _ => OwnE.nil _ _ _ _, fun _ _ _ g h => by cases h⟩
theorem Fam.keep (h : Fam E w base t v rows) (g : Grew w w') : Fam E w' base t v rows := ⟨fun k => (h.own k).keep g, h.ne⟩
theorem Fam.mono {b2 : Nat} (h : Fam E w base t v rows) (hb : b2 ≤ base) : Fam E w b2 t v rows := ⟨fun k => (h.own k).mono hb, h.ne⟩
theorem Fam.congr {r2 : κ → List α} (h : Fam E w base t v rows) (e : ∀ k, rows k = r2 k) : Fam E w base t v r2 := ⟨fun k => e k ▸ h.own k, h.ne⟩
theorem Fam.kept (h : Fam E w base t v rows) {b : Nat} (hg : w.grownBy w' (some b)) (hb : ∀ k, (v k).ownBlock ≠ some b) : Fam E w' base t v rows :=
  ⟨fun k => World.ownsRow.kept (h.own k) hg (Or.inr (hb k)), h.ne⟩
theorem Fam.below (h : Fam E w base t v rows) (k : κ) (hg : w.grownBy w' (v k).ownBlock) (hb : base ≤ w.heap.size) : Below base w w' := (Below.refl base w).grown hg hb fun i hi => (World.ownsRow.lt (h.own k) i hi).1
theorem Fam.lt (h : Fam E w base t v rows) (k : κ) {g : Nat} (hg : (v k).ownBlock = some g) : base ≤ g ∧ g < w.heap.size := World.ownsRow.lt (h.own k) g hg
end
section
variable {κ α : Type} [DecidableEq κ] {E : En α} {w w' : World} {base : Nat} {t : TypeId} {v : κ → Value} {rows : κ → List α}
theorem Fam.grown (h : Fam E w base t v rows) (k : κ) {x : List α} {v' : Value} (ho : OwnE E w' base t v' x) (hg : w.grownBy w' (v k).ownBlock) (hat : ∀ g, v'.ownBlock = some g → (v k).ownBlock = some g ∨ g = w.heap.size) :
    Fam E w' base t (upd v k v') (upd rows k x) := by
  have hk : ∀ i, i ≠ k → ∀ g, v'.ownBlock = some g → (v i).ownBlock ≠ some g := fun i hi g h1 h2 => by
    rcases hat g h1 with h3 | h3
    · exact h.ne i k hi g h2 h3
    · have := (World.ownsRow.lt (h.own i) g h2).2; omega
  refine ⟨fun i => ?_, fun i j hij g h1 h2 => ?_⟩
  · by_cases e : i = k
    · subst e; rw [upd_at, upd_at]; exact ho
    · rw [upd_ne _ _ e, upd_ne _ _ e]
      refine World.ownsRow.kept (h.own i) hg ?_
      cases hv : (v i).ownBlock with
      | none => exact Or.inl rfl
      | some g => exact Or.inr fun e2 => h.ne i k e g hv e2.symm
  · by_cases e1 : i = k
    · subst e1
      rw [upd_at] at h1
      rw [upd_ne _ _ (Ne.symm hij)] at h2
      exact hk j (Ne.symm hij) g h1 h2
    · rw [upd_ne _ _ e1] at h1
      by_cases e2 : j = k
      · subst e2
        rw [upd_at] at h2
        exact hk i e1 g h2 h1
      · rw [upd_ne _ _ e2] at h2
        exact h.ne i j hij g h1 h2
end

section
variable {κ α : Type} [DecidableEq κ] {E : En α} {w : World} {base : Nat} {t : TypeId} {v : κ → Value} {rows : κ → List α} {ops : Array Oper} {rest : List Oper} {o : Oper} {a : Act} {Q : Exit → Act → World → Prop} {K : Act → World → Prop} {X : Prop}
end
/-- A cell of a block that no row of the family lies in. -/
theorem Fam.far {κ α : Type} {E : En α} {w w' : World} {base : Nat} {t : TypeId} {v : κ → Value} {rows : κ → List α} (h : Fam E w base t v rows) {k : κ} (hg : w.grownBy w' (v k).ownBlock) {b : Nat} (hb : b < w.heap.size) (hne : b < base) (i : Nat) :
    w'.cell? ⟨b, i, none⟩ = w.cell? ⟨b, i, none⟩ ∧ w'.frozen? ⟨b, i, none⟩ = w.frozen? ⟨b, i, none⟩ := by
  have hn : some b ≠ (v k).ownBlock := fun e => by have := (World.ownsRow.lt (h.own k) b e.symm).1; omega
  exact ⟨hg.cell_far ⟨b, i, none⟩ hb hn, hg.frozen_far ⟨b, i, none⟩ hb hn⟩
end Go.Proofs.Ytlmnbafklefmcaa.NumK
namespace Go.Proofs.Ytlmnbafklefmcaa.NumK
open Go.RowKit Go.Maps
set_option linter.unusedVariables false

/-- A slice value: none, or its block, its length, its capacity. -/
abbrev Sv := Option (Nat × Nat × Nat)
def vSv : Sv → Value
  | none => .slice none 0 0
  | some (g, n, c) => .slice (some ⟨g, 0, none⟩) n c
def dSv : Sv → DataW Unit
  | none => .lit (.bool false)
  | some (g, n, c) => .agg [.lit (.int .i64 g), .lit (.int .i64 n), .lit (.int .i64 c)]
def readSv (v : Value) : Option (DataW Unit × List MemPlace) :=
  match v with
  | .slice none 0 0 => some (dSv none, [])
  | .slice (some ⟨g, 0, none⟩) n c => some (dSv (some (g, n, c)), [])
  | _ => none
theorem readSv_mk (s : Sv) : readSv (vSv s) = some (dSv s, []) := by
  rcases s with _ | ⟨g, n, c⟩ <;> rfl
theorem dSv_inj {s t : Sv} (h : dSv s = dSv t) : s = t := by
  rcases s with _ | ⟨g, n, c⟩ <;> rcases t with _ | ⟨g', n', c'⟩
  · rfl
  · unfold dSv at h; cases h
  · unfold dSv at h; cases h
  · simp only [dSv, DataW.agg.injEq, List.cons.injEq, DataW.lit.injEq, Lit.int.injEq, true_and, and_true, Int.natCast_inj] at h
    obtain ⟨rfl, rfl, rfl⟩ := h
    rfl
theorem readSv_inv {v : Value} {s : Sv} {ps : List MemPlace} (h : readSv v = some (dSv s, ps)) : v = vSv s := by
  unfold readSv at h
  split at h
  · simp only [Option.some.injEq, Prod.mk.injEq] at h
    rw [← dSv_inj h.1]; rfl
  · simp only [Option.some.injEq, Prod.mk.injEq] at h
    rw [← dSv_inj h.1]; rfl
  · cases h
theorem OwnE.sv {α : Type} {E : En α} {w : World} {base : Nat} {t : TypeId} {v : Value} {l : List α} (h : OwnE E w base t v l) : ∃ s, v = vSv s := by
  obtain ⟨_, h⟩ := h
  rcases h with ⟨rfl, _⟩ | ⟨g, cap, cur, rfl, _⟩
  · exact ⟨none, rfl⟩
  · exact ⟨some (g, l.length, cap), rfl⟩

theorem grownBy_set {w : World} {b : Nat} {es : Array MapEntry} {clock : Nat} (hb : w.heap[b]? = some (.map es clock)) (o : Obj) : w.grownBy (ChangeMaps.setBlock w b o) (some b) :=
  ⟨rfl, rfl, rfl, by simp [ChangeMaps.setBlock], fun i _ hi => ChangeMaps.heap_setBlock_other hb _ (fun e => hi (by rw [e]))⟩

/-- The entry with some stamp is where that stamp is. -/
theorem stamp_at {l : Array MapEntry} (hn : (l.toList.map (·.born)).Nodup) {j : Nat} {e0 : MapEntry} (h : l.toList[j]? = some e0) : l.findIdx? (fun e => ((e.born : Nat) : Int) == ((e0.born : Nat) : Int)) = some j := by
  rw [WideElems.findIdx_arr]
  exact WideElems.findIdx_born hn h

end Go.Proofs.Ytlmnbafklefmcaa.NumK
namespace Go.Proofs.Ytlmnbafklefmcaa.NumK
open Go.RowKit Go.Maps
set_option linter.unusedVariables false
def okDk (k : Dk) : Bool := (decide (-9223372036854775808 ≤ k.1) && decide (k.1 ≤ 9223372036854775807)) && (decide (-9223372036854775808 ≤ k.2) && decide (k.2 ≤ 9223372036854775807))
theorem okDk_iff (k : Dk) : okDk k = true ↔ (-9223372036854775808 ≤ k.1 ∧ k.1 ≤ 9223372036854775807) ∧ (-9223372036854775808 ≤ k.2 ∧ k.2 ≤ 9223372036854775807) := by unfold okDk; simp
def vDk (k : Dk) : Value := .agg #[.int .i64 k.1, .int .i64 k.2, .int .i64 0]
theorem vDk_inj {k k' : Dk} (h : vDk k = vDk k') : k = k' := by
  have t := congrArg (fun v => match v with | Value.agg a => a.toList | _ => []) h
  simp [vDk] at t
  exact Prod.ext t.1 t.2
/-! ### keys -/
theorem laidDk : laidOutB Try.prog = true := by kernel_rfl
theorem keyedDk : Keyed Try.prog 42 := Keyed.of_law (deep_law_laid laidDk (m := 4) (by decide) (by decide +kernel) (by kernel_rfl) (by kernel_rfl))
theorem cellsDk : Try.prog.cellsOf 42 = 3 := by kernel_rfl
theorem cellsIntD : Try.prog.cellsOf 3 = 1 := by kernel_rfl
theorem keyTypeDk : Try.prog.keyType 42 = true := by decide +kernel
theorem someTypesD : 1 ≤ Try.prog.types.size := by decide +kernel
theorem lits_dk (d : Nat) (k : Dk) (h : okDk k = true) : Try.prog.keyLits (d + 2) 42 [.int .i64 k.1, .int .i64 k.2, .int .i64 0] = some [.int .i64 k.1, .int .i64 k.2, .int .i64 0] := by
  have h := (okDk_iff k).1 h
  have w1 : (Lit.int .i64 k.1).wf = true := WalkArith.wf_i64 ⟨by omega, by omega⟩
  have w2 : (Lit.int .i64 k.2).wf = true := WalkArith.wf_i64 ⟨by omega, by omega⟩
  have w3 : (Lit.int .i64 0).wf = true := by decide
  simp [Program.keyLits, Try.underlying42, Try.underlying3, cellsDk, cellsIntD, w1, w2, w3]
theorem key_dk (k : Dk) (h : okDk k = true) : ∃ kl, keyOf Try.prog 42 (vDk k) = some kl := by
  have h9 := someTypesD
  obtain ⟨d, hd⟩ : ∃ d, Try.prog.types.size + 1 = d + 2 := ⟨Try.prog.types.size - 1, by omega⟩
  have hf : (vDk k).formed Try.prog 42 = true := by simp [Value.formed, Try.underlying42, cellsDk, vDk]
  have hc : (vDk k).cells.toList = [.int .i64 k.1, .int .i64 k.2, .int .i64 0] := rfl
  unfold keyOf
  simp only [Try.underlying42, keyTypeDk, hf, Bool.and_self, if_true]
  rw [hc, hd, lits_dk d k h]
  exact ⟨_, rfl⟩

/-! ### the map -/
/-- A block is a map of at most n entries that holds at each key what g says. -/
def MapD (w : World) (b n : Nat) (g : Dk → Sv) : Prop :=
  ∃ D : DataW Unit, w.ownsMap Try.prog 42 readSv b n D ∧ IsMap D ∧ (∀ k, okDk k = true → ∀ kl, keyOf Try.prog 42 (vDk k) = some kl → D.atKey kl (dSv none) = dSv (g k)) ∧
    ∀ kl, has D kl = true → ∃ k, okDk k = true ∧ keyOf Try.prog 42 (vDk k) = some kl ∧ g k ≠ none
theorem zeroSvI (w : World) : (zeroValue 52).run Try.prog w = .ok (.slice none 0 0) w := by kernel_rfl
/-- What a map is hangs on its block alone. -/
theorem MapD.same {w w' : World} {b n : Nat} {g : Dk → Sv} (h : MapD w b n g) (hb : w'.heap[b]? = w.heap[b]?) : MapD w' b n g := by
  obtain ⟨D, ⟨es, clock, he, F, hs, hD⟩, h2, h3, h4⟩ := h
  exact ⟨D, ⟨es, clock, hb.trans he, F, hs, hD⟩, h2, h3, h4⟩
theorem MapD.lt {w : World} {b n : Nat} {g : Dk → Sv} (h : MapD w b n g) : b < w.heap.size := by
  obtain ⟨D, h1, _⟩ := h
  exact h1.lt
theorem MapD.keep {w w' : World} {b n : Nat} {g : Dk → Sv} (h : MapD w b n g) (hg : Grew w w') : MapD w' b n g := h.same (hg.block b h.lt)
theorem MapD.kept {w w' : World} {b n : Nat} {g : Dk → Sv} {row : Option Nat} (h : MapD w b n g) (hg : w.grownBy w' row) (hne : some b ≠ row) : MapD w' b n g := h.same (hg.block b h.lt hne)
theorem MapD.new (w : World) : MapD (w.alloc (.map #[] 0)) w.heap.size 0 (fun _ => none) := by
  refine ⟨.map [], World.ownsMap_made _ _ _ _, isMap_empty, fun k _ kl _ => ?_, fun kl h => ?_⟩
  · simp [DataW.atKey]
  · rw [has_eq] at h; simp at h
/-- 'm[k]'. -/
theorem MapD.look {w : World} {b n : Nat} {g : Dk → Sv} (h : MapD w b n g) (k : Dk) (hk : okDk k = true) :
    (Instr.lookup 51 (.map (some b)) (vDk k) false).run Try.prog w = .ok (vSv (g k)) w := by
  obtain ⟨D, h1, h2, h3, -⟩ := h
  obtain ⟨kl, hkl⟩ := key_dk k hk
  obtain ⟨v, ps, hrun, hv⟩ := h1.lookup keyedDk Try.underlying51 (zeroSvI w) (readSv_mk none) hkl
  rw [h3 k hk kl hkl] at hv
  rw [hrun, readSv_inv hv]

/-- What finding the entry of a key leaves: a stamp by which it is written. -/
structure FoundD (w1 : World) (b n : Nat) (g : Dk → Sv) (k : Dk) (st : Nat) : Prop where
  store : ∀ (w2 : World) (s : Sv), s ≠ none → w2.heap[b]? = w1.heap[b]? → ∃ w3, (Instr.entryStore 51 (.map (some b)) (.int .i64 st) (vSv s)).run Try.prog w2 = .ok () w3 ∧ MapD w3 b (n + 1) (upd g k s) ∧ w2.grownBy w3 (some b)

/-- 'm[k] = f(m[k])', up to what f is told: the entry is found, or made. -/
theorem MapD.entry {w : World} {b n : Nat} {g : Dk → Sv} (h : MapD w b n g) (k : Dk) (hk : okDk k = true) (hn : n < maxLen) :
    ∃ (st : Nat) (w1 : World), (Instr.mapEntry 51 (.map (some b)) (vDk k)).run Try.prog w = .ok (.tuple #[vSv (g k), .int .i64 st]) w1 ∧ w.grownBy w1 (some b) ∧ FoundD w1 b n g k st := by
  have HLOOK := h.look k hk
  obtain ⟨D, k1, k2, k3, k4⟩ := h
  obtain ⟨kl, hkl⟩ := key_dk k hk
  have hput : ∀ (s : Sv), s ≠ none → ∃ w', (Instr.mapUpdate 51 (.map (some b)) (vDk k) (vSv s)).run Try.prog w = .ok () w' ∧ MapD w' b (n + 1) (upd g k s) := fun s hs0 => by
    obtain ⟨w', hrun, ho, hg⟩ := k1.update keyedDk Try.underlying51 hn hkl (readSv_mk s)
    refine ⟨w', hrun, _, ho, k2.put _ _, fun k' hk' kl' hkl' => ?_, fun kl' hh => ?_⟩
    rotate_left
    · by_cases e : kl' = kl
      · subst e; exact ⟨k, hk, hkl, by rw [upd_at]; exact hs0⟩
      · rw [has_put_other e] at hh
        obtain ⟨k', a1, a2, a3⟩ := k4 kl' hh
        refine ⟨k', a1, a2, ?_⟩
        rw [upd_ne _ _ (fun e2 => e (by subst e2; rw [hkl] at a2; exact (Option.some.inj a2).symm))]
        exact a3
    by_cases e : k' = k
    · subst e
      rw [hkl] at hkl'
      cases hkl'
      rw [atKey_put_same k2 (keyedDk.key hkl), upd_at]
    · have hne : kl' ≠ kl := fun e2 => by
        subst e2
        have := keyedDk.inj hkl' hkl
        exact e (vDk_inj this)
      rw [atKey_put_other hne, k3 k' hk' kl' hkl', upd_ne _ _ e]
  obtain ⟨es, clock, hb, F, hs, hD⟩ := k1
  obtain ⟨s1, s2, -⟩ := F.stamped
  have ht : Try.prog.underlying 51 = some (.map 42 52) := Try.underlying51
  rcases keyedDk.find w hkl es.toList F.keys with ⟨f1, f2⟩ | ⟨j, e0, f1, f2, f3⟩
  · have hz : vSv (g k) = .slice none 0 0 := by
      have : (Instr.lookup 51 (.map (some b)) (vDk k) false).run Try.prog w = .ok (.slice none 0 0) w := by
        simp [Instr.lookup, run_underlying ht, MapKept.run_getObj_map hb, keyedDk.check w _ hkl, f1, Result.andThen]
      rw [this] at HLOOK
      simpa using HLOOK.symm
    refine ⟨clock, ChangeMaps.setBlock w b (.map (es.push ⟨vDk k, .slice none 0 0, clock⟩) (clock + 1)), ?_, grownBy_set hb _, ⟨fun w2 s hs0 h2 => ?_⟩⟩
    · rw [hz]
      simp [Instr.mapEntry, run_underlying ht, MapKept.run_getObj_map hb, keyedDk.check w false hkl, f1, MapKept.run_setObj_map _ hb, Result.andThen, ChangeMaps.setBlock, goInt]
    · rw [ChangeMaps.heap_setBlock_same hb] at h2
      obtain ⟨w', hrun, hm⟩ := hput s hs0
      have hrun2 : (Instr.mapUpdate 51 (.map (some b)) (vDk k) (vSv s)).run Try.prog w = .ok () (ChangeMaps.setBlock w b (.map (es.push ⟨vDk k, vSv s, clock⟩) (clock + 1))) := by
        simp [Instr.mapUpdate, run_underlying ht, MapKept.run_getObj_map hb, keyedDk.check w false hkl, f1, MapKept.run_setObj_map _ hb, Result.andThen, ChangeMaps.setBlock]
      rw [hrun2] at hrun
      obtain rfl : ChangeMaps.setBlock w b (.map (es.push ⟨vDk k, vSv s, clock⟩) (clock + 1)) = w' := by simpa using hrun
      have hix : (es.push ⟨vDk k, .slice none 0 0, clock⟩).findIdx? (fun e => ((e.born : Nat) : Int) == ((clock : Nat) : Int)) = some es.size := by
        refine stamp_at (e0 := ⟨vDk k, .slice none 0 0, clock⟩) ?_ (by simp)
        rw [Array.toList_push, List.map_append]
        refine List.nodup_append.2 ⟨s2, by simp, fun a ha c hc e1 => ?_⟩
        obtain ⟨x, hx, rfl⟩ := List.mem_map.1 ha
        have hlt := s1 x hx
        simp only [List.map_cons, List.map_nil, List.mem_singleton] at hc
        omega
      have hmod : (es.push ⟨vDk k, .slice none 0 0, clock⟩).modify es.size (fun e => { e with val := vSv s }) = es.push ⟨vDk k, vSv s, clock⟩ := by
        apply Array.ext'
        rw [Array.toList_modify, Array.toList_push, Array.toList_push, ← Array.length_toList, WideElems.modify_last]
      refine ⟨ChangeMaps.setBlock w2 b (.map (es.push ⟨vDk k, vSv s, clock⟩) (clock + 1)), ?_, hm.same ?_, grownBy_set h2 _⟩
      · simp [Instr.entryStore, MapKept.run_getObj_map h2, asInt, asIntOf, hix, hmod, MapKept.run_setObj_map _ h2, Result.andThen, ChangeMaps.setBlock]
      · rw [ChangeMaps.heap_setBlock_same h2, ChangeMaps.heap_setBlock_same hb]
  · have hj : es[j]? = some e0 := by simpa using f2
    have hz : vSv (g k) = e0.val := by
      have : (Instr.lookup 51 (.map (some b)) (vDk k) false).run Try.prog w = .ok e0.val w := by
        simp [Instr.lookup, run_underlying ht, MapKept.run_getObj_map hb, keyedDk.check w _ hkl, f1, Result.andThen]
      rw [this] at HLOOK
      simpa using HLOOK.symm
    have hsame : es.modify j (fun e => { e with key := vDk k }) = es := by
      apply Array.ext'
      rw [Array.toList_modify, ChangeMaps.modify_eq_set _ _ _ _ f2]
      have : ({ e0 with key := vDk k } : MapEntry) = e0 := by rw [← f3]
      rw [this]
      exact WideElems.set_self _ _ _ f2
    refine ⟨e0.born, ChangeMaps.setBlock w b (.map es clock), ?_, grownBy_set hb _, ⟨fun w2 s hs0 h2 => ?_⟩⟩
    · rw [hz]
      simp [Instr.mapEntry, run_underlying ht, MapKept.run_getObj_map hb, keyedDk.check w false hkl, f1, hj, f3, keyedDk.stays w hkl, hsame, MapKept.run_setObj_map _ hb, Result.andThen, ChangeMaps.setBlock, goInt]
    · rw [ChangeMaps.heap_setBlock_same hb] at h2
      obtain ⟨w', hrun, hm⟩ := hput s hs0
      have hrun2 : (Instr.mapUpdate 51 (.map (some b)) (vDk k) (vSv s)).run Try.prog w = .ok () (ChangeMaps.setBlock w b (.map (es.modify j (fun e => { e with key := vDk k, val := vSv s })) clock)) := by
        simp [Instr.mapUpdate, run_underlying ht, MapKept.run_getObj_map hb, keyedDk.check w false hkl, f1, hj, f3, keyedDk.stays w hkl, MapKept.run_setObj_map _ hb, Result.andThen, ChangeMaps.setBlock]
      rw [hrun2] at hrun
      obtain rfl : ChangeMaps.setBlock w b (.map (es.modify j (fun e => { e with key := vDk k, val := vSv s })) clock) = w' := by simpa using hrun
      have hix := stamp_at s2 f2
      have hmod : es.modify j (fun e => { e with val := vSv s }) = es.modify j (fun e => { e with key := vDk k, val := vSv s }) := by
        apply Array.ext'
        rw [Array.toList_modify, Array.toList_modify, ChangeMaps.modify_eq_set _ _ _ _ f2, ChangeMaps.modify_eq_set _ _ _ _ f2, ← f3]
      refine ⟨ChangeMaps.setBlock w2 b (.map (es.modify j (fun e => { e with key := vDk k, val := vSv s })) clock), ?_, hm.same ?_, grownBy_set h2 _⟩
      · simp [Instr.entryStore, MapKept.run_getObj_map h2, asInt, asIntOf, hix, hmod, MapKept.run_setObj_map _ h2, Result.andThen, ChangeMaps.setBlock]
      · rw [ChangeMaps.heap_setBlock_same h2, ChangeMaps.heap_setBlock_same hb]
/-- A key is in the map where its slice is not nil. -/
theorem MapD.range {w : World} {b n : Nat} {g : Dk → Sv} (h : MapD w b n g) : ∃ D : DataW Unit, w.ownsMap Try.prog 42 readSv b n D ∧
    (∀ k, okDk k = true → ∀ kl, keyOf Try.prog 42 (vDk k) = some kl → (has D kl = true ↔ g k ≠ none)) ∧
    ∀ (key : Value) kl, keyOf Try.prog 42 key = some kl → has D kl = true → ∃ k, okDk k = true ∧ key = vDk k ∧ g k ≠ none := by
  obtain ⟨D, k1, k2, k3, k4⟩ := h
  refine ⟨D, k1, fun k hk kl hkl => ⟨fun hh => ?_, fun hg => ?_⟩, fun key kl hkl hh => ?_⟩
  · obtain ⟨k', a1, a2, a3⟩ := k4 kl hh
    have := keyedDk.inj hkl a2
    rw [vDk_inj this]; exact a3
  · cases hb : has D kl with
    | true => rfl
    | false =>
      have h1 := atKey_of_not_has hb (dSv none)
      rw [k3 k hk kl hkl] at h1
      exact absurd (dSv_inj h1) hg
  · obtain ⟨k', a1, a2, a3⟩ := k4 kl hh
    exact ⟨k', a1, keyedDk.inj hkl a2, a3⟩
end Go.Proofs.Ytlmnbafklefmcaa.NumK
namespace Go.Proofs.Ytlmnbafklefmcaa.NumK
open Go.RowKit Go.Maps
set_option linter.unusedVariables false

theorem keyStr {key : Value} {kl : Lit} (h : keyOf Try.prog 42 key = some kl) : ∃ bs, kl = .string bs := by
  unfold keyOf at h
  simp only [Try.underlying42] at h
  split at h
  · obtain ⟨ls, -, rfl⟩ := Option.map_eq_some_iff.1 h
    exact ⟨_, rfl⟩
  · cases h

/-- No key twice; a key has come where the map has it and it is no longer to come. -/
def CollK (D0 : DataW Unit) (left : Lit → Bool) (ss : List Dk) : Prop :=
  ss.Nodup ∧ (∀ k ∈ ss, okDk k = true) ∧ ∀ k, okDk k = true → ∀ kl, keyOf Try.prog 42 (vDk k) = some kl → (k ∈ ss ↔ (has D0 kl = true ∧ left kl = false))
theorem CollK.start (D0 : DataW Unit) : CollK D0 (has D0) [] := ⟨List.nodup_nil, fun k h => absurd h (by simp), fun k _ kl _ => by cases has D0 kl <;> simp⟩
theorem CollK.step {D0 : DataW Unit} {left : Lit → Bool} {ss : List Dk} (h : CollK D0 left ss) {k : Dk} (hk : okDk k = true) {kl : Lit} (hkl : keyOf Try.prog 42 (vDk k) = some kl) (hlk : left kl = true) (hh : has D0 kl = true) :
    CollK D0 (fun z => left z && !z.sameKey kl) (ss ++ [k]) := by
  obtain ⟨h1, h2, h3⟩ := h
  have hnew : k ∉ ss := fun hx => by have := ((h3 k hk kl hkl).1 hx).2; rw [hlk] at this; cases this
  obtain ⟨bs, rfl⟩ := keyStr hkl
  refine ⟨List.nodup_append.2 ⟨h1, by simp, fun a ha b hb => by simp at hb; subst hb; exact fun e => hnew (e ▸ ha)⟩, fun y hy => ?_, fun y hy yl hyl => ?_⟩
  · rcases List.mem_append.1 hy with hy | hy
    · exact h2 y hy
    · simp at hy; subst hy; exact hk
  · by_cases e : y = k
    · subst e
      rw [hkl] at hyl
      cases hyl
      simp [hh, Lit.sameKey]
    · have hne : yl ≠ .string bs := fun e2 => e (vDk_inj (keyedDk.inj hyl (by rw [e2]; exact hkl)))
      have e5 := sameKey_ne hne
      simp [h3 y hy yl hyl, e, e5]

/-- What the keys are that come of a map. -/
def KeysD (g : Dk → Sv) (ks : List Dk) : Prop := ks.Nodup ∧ ∀ k, k ∈ ks ↔ (okDk k = true ∧ g k ≠ none)

set_option maxRecDepth 100000 in
set_option maxHeartbeats 2000000 in
theorem dkeys1_in (F : Fence) (n : Nat) (h10 : F.fn 43) (hro : F.round = none) (hn : 1 ≤ n) (l Bm b nn : Nat) (g : Dk → Sv) (J : List Dk → World → Prop)
    (hY : ∀ pre x W, J pre W → pre.length < nn → YieldAt F (n - 1) Try.prog l #[vDk x] W fun e W' => e = .returned (.bool true) ∧ J (pre ++ [x]) W' ∧ KeepsWalks W W')
    (W : World) (hJ : AbidesFrom W.heap.size J) (hm : W.cell? ⟨Bm, 0, none⟩ = some (.map (some b))) (hown : MapD W b nn g) (h0 : J [] W) :
    CallsIn F n Try.prog 43 #[.func (.yield l) #[] #[], .pointer (some ⟨Bm, 0, none⟩)] W fun e W' => (∃ v, e = .returned v) ∧ ∃ ks : List Dk, KeysD g ks ∧ J ks W' := by
  obtain ⟨D, hD, hiff, hinv⟩ := hown.range
  have hsz := hD.size_le
  clear hown
  refine callsIn_of_wp Try.func43 rfl h10 ?_ hro
  simp only [Try.ntmps43, List.size_toArray, List.length_cons, List.length_nil, Nat.reduceAdd, Nat.reduceSub, Array.replicate_succ, Array.replicate_zero, List.push_toArray, List.append_toArray, List.nil_append, List.cons_append]
  gi_wp2_with (first
    | (gi_at_range; refine wpListIn_range_own _ rfl _ 51 rfl 42 52 keyedDk Try.underlying51 readSv b nn _ rfl hD ?_; intro w0 hrg0 hg0 hs0)
    | gi_in)
  go_frame
  gi_loopw [3] (fun _ wr => ∃ (left : Lit → Bool) (cnt : Nat) (ss : List Dk), wr.ranges Try.prog 42 readSv b W.heap.size nn D left cnt ∧ ss.length + cnt ≤ Maps.size D ∧ CollK D left ss ∧ J ss wr)
    (fun _ wr => wr.rangeLeft b W.heap.size)
  case atStart =>
    exact ⟨_, _, [], hrg0, by simp, CollK.start D, hJ [] W w0 none h0 hg0 (fun r e => by cases e)⟩
  case round =>
    obtain ⟨left, cnt, ss, hrg, hcs, hC, hJs⟩ := hrel
    gi_wp2_with (first
      | (gi_at_next; refine wpListIn_next_ranges _ rfl _ rfl 42 keyedDk readSv (fun v : Value => v) (fun v : Value => v) (fun key kl hk => ⟨key, rfl⟩) (fun v _ _ => ⟨v, rfl⟩) b W.heap.size nn _ _ _ rfl hrg ?_ ?_)
      | gi_in)
    · intro hc0 hl0
      gi_wp2
      go_end0
      exact ⟨⟨_, rfl⟩, ss, ⟨hC.1, fun k => ⟨fun hk => ⟨hC.2.1 k hk, by
          obtain ⟨kl, hkl⟩ := key_dk k (hC.2.1 k hk)
          exact (hiff k (hC.2.1 k hk) kl hkl).1 ((hC.2.2 k (hC.2.1 k hk) kl hkl).1 hk).1⟩, fun ⟨hk, hg⟩ => by
          obtain ⟨kl, hkl⟩ := key_dk k hk
          exact (hC.2.2 k hk kl hkl).2 ⟨(hiff k hk kl hkl).2 hg, hl0 kl⟩⟩⟩, hJs⟩
    · intro x c kl yd yp w2 cnt2 hkey hlk hv hat hrg2 hlt hg2 hs2 hen
      have hh : has D kl = true := has_true_of_atKey hat
      obtain ⟨k, hk, rfl, hgk⟩ := hinv x kl hkey hh
      have hJ2 : J ss w2 := hJ ss wr w2 (some W.heap.size) hJs hg2 (fun r e => by cases e; exact ⟨Nat.le_refl _, hrg.iter_walk⟩)
      have hg3 : w2.grownBy (w2.alloc (.cells #[.int .i64 k.1, .int .i64 k.2, .int .i64 0] 42)) none := ⟨rfl, rfl, rfl, by simp, fun i hi _ => Below.heap_alloc w2 _ i hi⟩
      have hJ3 := hJ ss w2 _ none hJ2 hg3 (fun r e => by cases e)
      have hrg3 := hrg2.of_walks (KeepsWalks.alloc w2 (.cells #[.int .i64 k.1, .int .i64 k.2, .int .i64 0] 42))
      obtain ⟨fn, tmps, assign, body, hy, hR⟩ := hY ss k _ hJ3 (by omega)
      dsimp only [vDk] at hy hen
      clear hs2
      gi_wp2
      refine hR.mono ?_
      rintro e W3 ⟨rfl, hJ4, hk4⟩
      gi_wp2
      have hrg4 := hrg3.of_walks hk4
      go_roundw
      case rel => exact ⟨_, cnt2, ss ++ [k], hrg4, by simp; omega, hC.step hk hkey hlk hh, hJ4⟩
      case measure => rw [hrg4.left_eq, hrg.left_eq]; exact hlt
end Go.Proofs.Ytlmnbafklefmcaa.NumK
namespace Go.Proofs
open Go.Shelf
def Try.sortD_ren : Go.Shelf.Ren := ⟨fun | 6 => 42 | 15 => 62 | 14 => 61 | 28 => 79 | 29 => 80 | 20 => 71 | 21 => 72 | 22 => 73 | 23 => 74 | 24 => 75 | 25 => 76 | 26 => 77 | 27 => 78 | 46 => 83 | 47 => 84 | 48 => 85 | 49 => 86 | 50 => 87 | 57 => 88 | n => n, fun | 22 => 22 | 24 => 42 | 25 => 57 | 3 => 3 | 39 => 44 | 0 => 0 | 53 => 113 | 55 => 79 | 4 => 4 | 46 => 107 | 45 => 106 | 50 => 60 | 5 => 5 | 9 => 9 | 66 => 116 | 70 => 120 | 76 => 122 | 77 => 99 | n => n, fun | n => n⟩
theorem Try.sortD : Go.Proofs.SlLaysF0.n6 Try.prog Try.sortD_ren := {
  mixed := by kernel_rfl
  f6 := ⟨Try.f42.name, by decide, Try.func42.trans (congrArg some (by kernel_rfl))⟩
  f14 := ⟨Try.f61.name, by decide, Try.func61.trans (congrArg some (by kernel_rfl))⟩
  f15 := Try.func62.trans (congrArg some (by kernel_rfl))
  f20 := ⟨Try.f71.name, by decide, Try.func71.trans (congrArg some (by kernel_rfl))⟩
  f21 := ⟨Try.f72.name, by decide, Try.func72.trans (congrArg some (by kernel_rfl))⟩
  f22 := ⟨Try.f73.name, by decide, Try.func73.trans (congrArg some (by kernel_rfl))⟩
  f23 := ⟨Try.f74.name, by decide, Try.func74.trans (congrArg some (by kernel_rfl))⟩
  f24 := ⟨Try.f75.name, by decide, Try.func75.trans (congrArg some (by kernel_rfl))⟩
  f25 := ⟨Try.f76.name, by decide, Try.func76.trans (congrArg some (by kernel_rfl))⟩
  f26 := ⟨Try.f77.name, by decide, Try.func77.trans (congrArg some (by kernel_rfl))⟩
  f27 := ⟨Try.f78.name, by decide, Try.func78.trans (congrArg some (by kernel_rfl))⟩
  f28 := Try.func79.trans (congrArg some (by kernel_rfl))
  f29 := Try.func80.trans (congrArg some (by kernel_rfl))
  f46 := ⟨Try.f83.name, by decide, Try.func83.trans (congrArg some (by kernel_rfl))⟩
  f47 := Try.func84.trans (congrArg some (by kernel_rfl))
  f48 := Try.func85.trans (congrArg some (by kernel_rfl))
  f49 := ⟨Try.f86.name, by decide, Try.func86.trans (congrArg some (by kernel_rfl))⟩
  f50 := ⟨Try.f87.name, by decide, Try.func87.trans (congrArg some (by kernel_rfl))⟩
  f57 := ⟨Try.f88.name, by decide, Try.func88.trans (congrArg some (by kernel_rfl))⟩
  t0 := Try.underlying0
  a0 := Try.isAgg0
  z0 := Try.sizeOf0
  v0 := Try.zeroValue0
  t3 := Try.underlying3
  a3 := Try.isAgg3
  z3 := Try.sizeOf3
  v3 := Try.zeroValue3
  t4 := Try.underlying4
  a4 := Try.isAgg4
  z4 := Try.sizeOf4
  v4 := Try.zeroValue4
  t5 := Try.underlying5
  a5 := Try.isAgg5
  z5 := Try.sizeOf5
  v5 := Try.zeroValue5
  t9 := Try.underlying9
  a9 := Try.isAgg9
  z9 := Try.sizeOf9
  v9 := Try.zeroValue9
  t22 := Try.underlying22
  a22 := Try.isAgg22
  z22 := Try.sizeOf22
  v22 := Try.zeroValue22
  t25 := Try.underlying57
  a25 := Try.isAgg57
  z25 := Try.sizeOf57
  v25 := Try.zeroValue57
  t39 := Try.underlying44
  a39 := Try.isAgg44
  z39 := Try.sizeOf44
  v39 := Try.zeroValue44
  t45 := Try.underlying106
  a45 := Try.isAgg106
  z45 := Try.sizeOf106
  v45 := Try.zeroValue106
  t46 := Try.underlying107
  a46 := Try.isAgg107
  z46 := Try.sizeOf107
  v46 := Try.zeroValue107
  t50 := Try.underlying60
  a50 := Try.isAgg60
  z50 := Try.sizeOf60
  v50 := Try.zeroValue60
  t53 := Try.underlying113
  a53 := Try.isAgg113
  z53 := Try.sizeOf113
  v53 := Try.zeroValue113
  t55 := Try.underlying79
  a55 := Try.isAgg79
  z55 := Try.sizeOf79
  v55 := Try.zeroValue79
  t66 := Try.underlying116
  a66 := Try.isAgg116
  z66 := Try.sizeOf116
  v66 := Try.zeroValue116
  t70 := Try.underlying120
  a70 := Try.isAgg120
  z70 := Try.sizeOf120
  v70 := Try.zeroValue120
  t76 := Try.underlying122
  a76 := Try.isAgg122
  z76 := Try.sizeOf122
  v76 := Try.zeroValue122
  t77 := Try.underlying99
  a77 := Try.isAgg99
  z77 := Try.sizeOf99
  v77 := Try.zeroValue99 }
end Go.Proofs
namespace Go.Proofs.Ytlmnbafklefmcaa.NumK
open Go.RowKit Go.Maps
set_option linter.unusedVariables false

section
variable {κ α : Type} [DecidableEq κ] {E : En α} {w : World} {base : Nat} {t : TypeId} {v : κ → Value} {rows : κ → List α} {ops : Array Oper} {rest : List Oper} {o : Oper} {a : Act} {Q : Exit → Act → World → Prop}
/-- One more in the row of a key, in a plain region. -/
theorem wpList_fam (key : κ) (hgd : o.guard = none) (p q : Operand) (T : TypeId) (z : Value) (by' : Nat)
    (ho : o.op = .call { callee := .builtin .append, args := #[p, q], argTypes := #[T, T] })
    (hT : Try.prog.underlying T = some (.slice t)) (hi : (Try.prog.info? t).map (fun i => (i.zero, i.size, i.bytes)) = some (some z, E.size, by')) (hz : z.cells.size = E.size)
    (h : Fam E w base t v rows) (hs : a.eval p = v key) (N : Nat) (x : α) (hx : a.eval q = .slice (some ⟨N, 0, none⟩) 1 1) (hR : RowE E w (some ⟨N, 0, none⟩) 1 [x])
    (hm : (rows key).length + 1 ≤ maxLen) (hlim : ((rows key).length + 1) * by' ≤ 140737488355328) (hbase : base ≤ w.heap.size)
    (k : ∀ v' w', Fam E w' base t (upd v key v') (upd rows key (rows key ++ [x])) → Below base w w' → w.grownBy w' (v key).ownBlock → wpList Try.prog ops Q rest (a.put o.dst v') w') : wpList Try.prog ops Q (o :: rest) a w := by
  obtain ⟨i, hi, hz0, hz1, hz2⟩ := info_parts hi
  refine wpList_append_lies w hgd p q T ho base t i z E.size by' hT hi hz0 hz1 hz2 hz E.pos (v key) (rows key).length _ hs (h.own key) ⟨N, 0, none⟩ 1 1 (E.cs x) hx (by rw [E.len, Nat.one_mul]) (news_one hR) (E.one x) (by omega) hm hlim hbase _ rfl fun g cap w' h2 h3 h4 h5 => k _ w' (h.grown key ?_ h3 fun g' hg' => ?_) (h.below key h3 hbase) h3
  · show w'.ownsRow base t E.size _ (rows key ++ [x]).length ((rows key ++ [x]).flatMap E.cs)
    rw [List.length_append, List.flatMap_append]
    simpa using h2
  · have : g = g' := by simpa [Value.ownBlock] using hg'
    subst this
    exact h4
end

theorem upd_vSv {κ : Type} [DecidableEq κ] (g : κ → Sv) (k : κ) (s : Sv) : upd (fun k => vSv (g k)) k (vSv s) = fun i => vSv (upd g k s i) := by
  funext i
  unfold upd
  split <;> rfl
theorem Fam.cong2 {κ α : Type} {E : En α} {w : World} {base : Nat} {t : TypeId} {v v2 : κ → Value} {rows r2 : κ → List α} (h : Fam E w base t v rows) (e1 : v = v2) (e2 : ∀ k, rows k = r2 k) : Fam E w base t v2 r2 := e1 ▸ h.congr e2

end Go.Proofs.Ytlmnbafklefmcaa.NumK
namespace Go.Proofs.Ytlmnbafklefmcaa.NumK
set_option linter.unusedVariables false

def okN (k : Nat) (last d : Dn) : Bool := decide (k = 0) || decide (ltK (keyD last) (keyD d))
def stN (k : Nat) (last : Dn) (s : Bool × Dn) (d : Dn) : Bool × Dn := if (okN k last d && (!s.1 || decide (ltK (keyD d) (keyD s.2)))) = true then (true, d) else s
def fdN (k : Nat) (last : Dn) (l : List Dn) : Bool × Dn := l.foldl (stN k last) (false, (0, 0, 0))
theorem fd_succ (k : Nat) (last : Dn) (l : List Dn) (j : Nat) (h : j < l.length) : fdN k last (l.take (j + 1)) = stN k last (fdN k last (l.take j)) (l.getD j (0, 0, 0)) := by
  unfold fdN
  rw [List.take_succ_eq_append_getElem h, List.foldl_append, List.foldl_cons, List.foldl_nil]
  simp [List.getD, h]
def SpN (k : Nat) (last : Dn) (l : List Dn) (s : Bool × Dn) : Prop := (s.1 = true → s.2 ∈ l ∧ okN k last s.2 = true ∧ ∀ d ∈ l, okN k last d = true → ¬ ltK (keyD d) (keyD s.2)) ∧ (s.1 = false → ∀ d ∈ l, okN k last d = false)
theorem sp_step {k : Nat} {last : Dn} {l : List Dn} {s : Bool × Dn} (ih : SpN k last l s) (d : Dn) : SpN k last (l ++ [d]) (stN k last s d) := by
  obtain ⟨f, x⟩ := s
  unfold SpN at ih
  dsimp only at ih
  unfold stN
  by_cases h : (okN k last d && (!f || decide (ltK (keyD d) (keyD x)))) = true
  · rw [if_pos h]
    simp only [Bool.and_eq_true, Bool.or_eq_true, Bool.not_eq_true', decide_eq_true_eq] at h
    refine ⟨fun _ => ⟨by simp, h.1, fun y hy hok => ?_⟩, fun hh => by cases hh⟩
    rcases List.mem_append.1 hy with hy | hy
    · rcases h.2 with hf | hlt
      · have := ih.2 hf y hy; rw [this] at hok; cases hok
      · cases f with
        | false => have := ih.2 rfl y hy; rw [this] at hok; cases hok
        | true =>
          have := (ih.1 rfl).2.2 y hy hok
          intro hc; exact this (ltK_trans hc hlt)
    · obtain rfl := List.mem_singleton.1 hy
      exact ltK_irr _
  · rw [if_neg h]
    have h2 : okN k last d = true → f = true ∧ ¬ ltK (keyD d) (keyD x) := by
      intro hok
      rw [hok] at h
      simp only [Bool.true_and, Bool.or_eq_true, Bool.not_eq_true', decide_eq_true_eq, not_or] at h
      exact ⟨by simpa using h.1, h.2⟩
    refine ⟨fun hf => ?_, fun hf y hy => ?_⟩
    · obtain ⟨g1, g2, g3⟩ := ih.1 hf
      refine ⟨List.mem_append_left _ g1, g2, fun y hy hok => ?_⟩
      rcases List.mem_append.1 hy with hy | hy
      · exact g3 y hy hok
      · obtain rfl := List.mem_singleton.1 hy
        exact (h2 hok).2
    · have hf : f = false := hf
      rcases List.mem_append.1 hy with hy | hy
      · exact ih.2 hf y hy
      · obtain rfl := List.mem_singleton.1 hy
        cases hok : okN k last y
        · rfl
        · have := (h2 hok).1; rw [hf] at this; cases this
theorem sp_fold {k : Nat} {last : Dn} : ∀ (l m : List Dn) (s : Bool × Dn), SpN k last m s → SpN k last (m ++ l) (l.foldl (stN k last) s)
  | [], m, s, h => by rw [List.append_nil]; exact h
  | d :: l, m, s, h => by
    have := sp_fold l (m ++ [d]) _ (sp_step h d)
    rw [List.append_assoc] at this
    exact this
theorem fd_spec (k : Nat) (last : Dn) (l : List Dn) : SpN k last l (fdN k last l) :=
  sp_fold l [] (false, (0, 0, 0)) ⟨fun h => (by cases h), fun _ d hd => (by cases hd)⟩
theorem rise_at {l : List Dk} (h : l.Pairwise ltK) {i j : Nat} (hij : i < j) (hj : j < l.length) : ltK (l.getD i (0, 0)) (l.getD j (0, 0)) := by
  have := List.pairwise_iff_getElem.1 h i j (by omega) hj hij
  simpa [List.getD, hj, show i < l.length by omega] using this
/-- What is found is the key at k, if there is one. -/
theorem fd_key {l : List Dn} {k : Nat} {last : Dn} (hl : k ≠ 0 → k - 1 < (keysD l).length ∧ keyD last = (keysD l).getD (k - 1) (0, 0)) :
    (k < (keysD l).length → (fdN k last l).1 = true ∧ (fdN k last l).2 ∈ l ∧ keyD (fdN k last l).2 = (keysD l).getD k (0, 0)) ∧ ((keysD l).length ≤ k → (fdN k last l).1 = false) := by
  have hr := rise_keysD l
  have hin : ∀ d ∈ l, ∃ i, i < (keysD l).length ∧ keyD d = (keysD l).getD i (0, 0) := fun d hd => by
    obtain ⟨i, hi, e⟩ := List.getElem_of_mem ((mem_keys l (keyD d)).2 ⟨d, hd, rfl⟩)
    exact ⟨i, hi, by simp [List.getD, hi, e]⟩
  have hok : ∀ d i, i < (keysD l).length → keyD d = (keysD l).getD i (0, 0) → (okN k last d = true ↔ k ≤ i) := by
    intro d i hi e
    unfold okN
    rw [Bool.or_eq_true, decide_eq_true_eq, decide_eq_true_eq]
    by_cases h0 : k = 0
    · subst h0; exact ⟨fun _ => Nat.zero_le _, fun _ => Or.inl rfl⟩
    · obtain ⟨g1, g2⟩ := hl h0
      rw [g2, e]
      constructor
      · rintro (h | h)
        · exact absurd h h0
        · rcases Nat.lt_or_ge (k - 1) i with h2 | h2
          · omega
          · rcases Nat.lt_or_ge i (k - 1) with h3 | h3
            · exact absurd (ltK_trans h (rise_at hr h3 g1)) (ltK_irr _)
            · obtain rfl : i = k - 1 := by omega
              exact absurd h (ltK_irr _)
      · intro h
        exact Or.inr (rise_at hr (by omega) hi)
  obtain ⟨s1, s2⟩ := fd_spec k last l
  constructor
  · intro hk
    obtain ⟨d, hd, e⟩ := (mem_keys l ((keysD l).getD k (0, 0))).1 (by simp [List.getD, hk])
    have hf : (fdN k last l).1 = true := by
      cases h : (fdN k last l).1
      · have := s2 h d hd
        rw [(hok d k hk e).2 (Nat.le_refl _)] at this; cases this
      · rfl
    obtain ⟨g1, g2, g3⟩ := s1 hf
    refine ⟨hf, g1, ?_⟩
    obtain ⟨i, hi, ei⟩ := hin _ g1
    have hki := (hok _ i hi ei).1 g2
    have h4 := g3 d hd ((hok d k hk e).2 (Nat.le_refl _))
    rw [e, ei] at h4
    rcases Nat.lt_or_ge k i with h5 | h5
    · exact absurd (rise_at hr h5 hi) h4
    · obtain rfl : i = k := by omega
      exact ei
  · intro hk
    cases h : (fdN k last l).1
    · rfl
    · obtain ⟨g1, g2, _⟩ := s1 h
      obtain ⟨i, hi, ei⟩ := hin _ g1
      have := (hok _ i hi ei).1 g2
      omega
/-- What is told up to a key. -/
def netK (l : List Dn) (k : Nat) : List Dn := ((keysD l).take k).filterMap (netO l)
theorem netK_all (l : List Dn) : netK l (keysD l).length = netF l := by unfold netK netF; rw [List.take_length]
end Go.Proofs.Ytlmnbafklefmcaa.NumK
namespace Go.Proofs.Ytlmnbafklefmcaa.NumK
open Go.RowKit

def rightsOf (l : List Ac) : List Ac := l.filter fun a => rightA a.1 a.2.1 a.2.2
def refWhos (k : Int) (n : Nat) : List Ac := (List.range n).flatMap fun i : Nat => rightsOf (whoAcs k i)
theorem refWhos_succ (k : Int) (n : Nat) : refWhos k (n + 1) = refWhos k n ++ rightsOf (whoAcs k n) := by
  unfold refWhos
  rw [List.range_succ, List.flatMap_append]; simp
theorem refWhos_len (k : Int) (n : Nat) : (refWhos k n).length ≤ n * 3 := by
  induction n with
  | zero => simp [refWhos]
  | succ n ih =>
    rw [refWhos_succ, List.length_append]
    have : (rightsOf (whoAcs k n)).length ≤ 3 := by unfold rightsOf; exact Nat.le_trans (List.length_filter_le _ _) (by simp [whoAcs])
    omega
theorem contains_snoc (l : List Int) (y k : Int) : (l ++ [y]).contains k = (l.contains k || decide (y = k)) := by
  rw [Bool.eq_iff_iff]
  simp only [List.contains_iff_mem, List.mem_append, List.mem_singleton, Bool.or_eq_true, decide_eq_true_eq]
  constructor
  · rintro (h | h)
    · exact Or.inl h
    · exact Or.inr h.symm
  · rintro (h | h)
    · exact Or.inl h
    · exact Or.inr h.symm
theorem refWhos_17 (j : Nat) (hj : j < 6) : refWhos ((j : Int) + 1) 17 = kindL ((j : Int) + 1) := by
  have : j = 0 ∨ j = 1 ∨ j = 2 ∨ j = 3 ∨ j = 4 ∨ j = 5 := by omega
  rcases this with rfl | rfl | rfl | rfl | rfl | rfl <;> decide +kernel

set_option maxRecDepth 100000 in
set_option maxHeartbeats 2000000 in
theorem r8all_any (A : Option Addr) (n c : Nat) (kinds : List Int) (w : World) (h : Ints w A n kinds) (hn : n ≤ 9223372036854775807) :
    Calls Try.prog 58 #[.slice A n c] w fun e w' => ∃ v', e = .returned v' ∧ OwnE enAc w' w.heap.size 48 v' (allL kinds) ∧ Grew w w' := by
  have HI := Lib.hid h
  have HLn := Lib.hid h.1
  clear h
  go_enter Try.func58, Try.ntmps58
  go_wp2
  go_loopw [3, 4] (fun v3 v4 wr => ∃ j : Nat, v4 = .int .i64 ((j : Int) + 1) ∧ j ≤ 6 ∧ Hid (OwnE enAc wr w.heap.size 48 v3 (allTo kinds j)) ∧ Hid (Grew w wr)) (fun _ v4 _ => 7 - (intOf v4).toNat)
  case atStart => exact ⟨0, rfl, by omega, OwnE.nil enAc _ _ _, grew_refl _⟩
  case round =>
    obtain ⟨j, rfl, hj, HO, HG⟩ := hrel
    by_cases hlt : j < 6
    · have HT : Hid (allTo kinds (j + 1) = allTo kinds j ++ (if kinds.contains ((j : Int) + 1) then kindL ((j : Int) + 1) else [])) := allTo_succ kinds j
      have HK17 := Lib.hid (refWhos_17 j hlt)
      have HL : Hid ((allTo kinds j).length ≤ 288) := by show _ ≤ _; have := allTo_len kinds j; omega
      have HJ := Lib.hid hj
      obtain ⟨k, hk⟩ : ∃ k : Int, k = (j : Int) + 1 := ⟨_, rfl⟩
      have HKJ := Lib.hid hk
      have k1 : 1 ≤ k ∧ k ≤ 6 := by omega
      obtain ⟨k1, k6⟩ := k1
      rw [← hk] at HT HK17 ⊢
      clear hk hj
      go_wp2
      -- is the kind one of kinds
      go_loopw [5, 6] (fun v5 v6 wx => ∃ (i : Nat) (bb : Bool), v6 = .int .i64 i ∧ i ≤ n ∧ v5 = .bool bb ∧ Hid (bb = (kinds.take i).contains k) ∧ Hid (OwnE enAc wx w.heap.size 48 u3 (allTo kinds j)) ∧ Hid (Grew w wx)) (fun _ v6 _ => n - (intOf v6).toNat)
      case atStart => exact ⟨0, false, rfl, by omega, rfl, by show _ = _; simp, HO.out, HG.out⟩
      case round =>
        obtain ⟨i, bb, rfl, hi, rfl, HB, HO, HG⟩ := hrel
        by_cases hin : i < n
        · obtain ⟨b, o, rfl, hb, hc⟩ := (HI.out.keep HG.out).2 (by omega)
          have c1 := hc i hin
          have HTS : Hid ((kinds.take (i + 1)).contains k = ((kinds.take i).contains k || decide (kinds.getD i 0 = k))) := by
            show _ = _
            rw [take_snoc kinds i 0 (by rw [HLn.out]; exact hin), contains_snoc]
          have i1 : (i : Int) < (n : Int) := by omega
          clear hc
          generalize kinds.getD i 0 = y at *
          rw [← HB.out] at HTS
          clear HB
          cases bb
          · go_wp2
            go_roundw
            case rel => exact ⟨i + 1, _, by go_num, by omega, rfl, by show _ = _; rw [HTS.out, Bool.eq_iff_iff]; simp, HO, HG⟩
            case measure => simp only [intOf]; omega
          · go_wp2
            go_roundw
            case rel => exact ⟨i + 1, _, by go_num, by omega, rfl, by show _ = _; rw [HTS.out, Bool.eq_iff_iff]; simp, HO, HG⟩
            case measure => simp only [intOf]; omega
        · obtain rfl : i = n := by omega
          have hbb : bb = kinds.contains k := by rw [HB.out, List.take_of_length_le (by rw [HLn.out]; exact Nat.le_refl _)]
          rw [← hbb] at HT
          clear hbb HB
          cases bb
          · have he : allTo kinds (j + 1) = allTo kinds j := by rw [HT.out]; simp
            rw [← he] at HO
            clear HT he
            go_wp2
            go_loopw [3, 7] (fun v3 v7 wx => v7 = .int .i64 0 ∧ Hid (OwnE enAc wx w.heap.size 48 v3 (allTo kinds (j + 1))) ∧ Hid (Grew w wx)) (fun _ _ _ => 0)
            case atStart => exact ⟨rfl, HO, HG⟩
            case round =>
              obtain ⟨rfl, HO, HG⟩ := hrel
              go_wp2
              go_roundw
              case rel => exact ⟨j + 1, by rw [HKJ.out]; go_num, by omega, HO, HG⟩
              case measure => simp only [intOf]; rw [HKJ.out]; omega
          · rw [if_pos rfl, ← HK17.out] at HT
            go_wp2
            go_loopw [3, 7] (fun v3 v7 wx => ∃ m : Nat, v7 = .int .i64 m ∧ m ≤ 17 ∧ Hid (OwnE enAc wx w.heap.size 48 v3 (allTo kinds j ++ refWhos k m)) ∧ Hid (Grew w wx)) (fun _ v7 _ => 17 - (intOf v7).toNat)
            case atStart => exact ⟨0, rfl, by omega, by show OwnE _ _ _ _ _ _; simpa [refWhos] using HO.out, HG.out⟩
            case round =>
              obtain ⟨m, rfl, hm, HO, HG⟩ := hrel
              by_cases hm17 : m < 17
              · have HMS := Lib.hid (refWhos_succ k m)
                have HML := Lib.hid (refWhos_len k m)
                go_wp2
                go_loopw [3, 8] (fun v3 v8 wx => ∃ q : Nat, v8 = .int .i64 q ∧ q ≤ 3 ∧ Hid (OwnE enAc wx w.heap.size 48 v3 (allTo kinds j ++ refWhos k m ++ rightsOf ((whoAcs k m).take q))) ∧ Hid (Grew w wx)) (fun _ v8 _ => 3 - (intOf v8).toNat)
                case atStart => exact ⟨0, rfl, by omega, by show OwnE _ _ _ _ _ _; simpa [rightsOf] using HO.out, HG⟩
                case round =>
                  obtain ⟨q, rfl, hq, HO, HG⟩ := hrel
                  by_cases hq3 : q < 3
                  · have HQ : Hid (rightsOf ((whoAcs k m).take (q + 1)) = rightsOf ((whoAcs k m).take q) ++ rightsOf [(k, (m : Int), (q : Int))]) := by
                      show _ = _
                      unfold rightsOf
                      rw [← List.filter_append]
                      congr 1
                      match q, hq3 with
                      | 0, _ => rfl
                      | 1, _ => rfl
                      | 2, _ => rfl
                    have HQL : Hid ((allTo kinds j ++ refWhos k m ++ rightsOf ((whoAcs k m).take q)).length ≤ 1000) := by
                      show _ ≤ _
                      rw [List.length_append, List.length_append]
                      have h1 := HL.out
                      have h2 := HML.out
                      have h3 : (rightsOf ((whoAcs k m).take q)).length ≤ 3 := by unfold rightsOf; exact Nat.le_trans (List.length_filter_le _ _) (by rw [List.length_take]; omega)
                      omega
                    have CR := r8right_any k m q
                    have HRS : Hid (rightsOf [(k, (m : Int), (q : Int))] = if rightA k m q then [(k, (m : Int), (q : Int))] else []) := by
                      show _ = _
                      unfold rightsOf
                      rw [List.filter_cons, List.filter_nil]
                    unfold acV at CR
                    clear HML hlt hm hin hi
                    generalize rightA k m q = rb at *
                    cases rb
                    · have he : rightsOf ((whoAcs k m).take (q + 1)) = rightsOf ((whoAcs k m).take q) := by rw [HQ.out, HRS.out]; simp
                      rw [← he] at HO
                      clear he HRS HQ HQL HMS
                      go_wp2_with (go_at_call 35; ((with_reducible refine (CR _).mono ?_); rintro e w1 ⟨rfl, hg⟩; have HG1 := Lib.hid hg; clear hg))
                      go_roundw
                      case rel => exact ⟨q + 1, by go_num, by omega, HO.out.keep (own_back HG1.out), grew_trans HG.out (own_back HG1.out)⟩
                      case measure => simp only [intOf]; omega
                    · rw [HRS.out, if_pos rfl] at HQ
                      have HT2 : Hid (allTo kinds j ++ refWhos k m ++ rightsOf ((whoAcs k m).take (q + 1)) = allTo kinds j ++ refWhos k m ++ rightsOf ((whoAcs k m).take q) ++ [(k, (m : Int), (q : Int))]) := by
                        show _ = _; rw [HQ.out, List.append_assoc _ _ [_]]
                      clear HRS HQ HMS
                      go_wp2_with (first
                        | (go_at_call 35; ((with_reducible refine (CR _).mono ?_); rintro e w1 ⟨rfl, hg⟩; have d0 : w1.cell? ⟨wr.heap.size, 0, none⟩ = some (.int .i64 k) := own_cell hg 0; have d1 : w1.cell? ⟨wr.heap.size, 1, none⟩ = some (.int .i64 m) := own_cell hg 1; have d2 : w1.cell? ⟨wr.heap.size, 2, none⟩ = some (.int .i64 q) := own_cell hg 2; have HG1 := Lib.hid (own_back hg); have HB1 := Lib.hid (Nat.le_trans HG.out.size HG1.out.size); clear hg))
                        | (at_builtin; refine (wpList_append_E rfl _ _ 90 48 (acV 0 0 0) 24 rfl Try.underlying90 info_ac rfl w.heap.size _ _ rfl ((HO.out.keep HG1.out).keep (grew_alloc _ _ _)) _ 1 1 [(k, (m : Int), (q : Int))] rfl (by intro h; cases h) (rowE_one _ _ _ _ _ _ (by simp)) (by have := HQL.out; unfold maxLen; omega) (by have := HQL.out; omega) (by have := HB1.out; simp; omega) ?_); intro v5 w5 hv hb5; rw [← HT2.out] at hv; have HV5 := Lib.hid hv; have HG5 : Hid (Grew w w5) := Below.trans (grew_trans HG.out HG1.out) ((Below.mono (grew_alloc _ _ _) HB1.out).trans hb5); clear hv hb5))
                      go_roundw
                      case rel => exact ⟨q + 1, by go_num, by omega, HV5, HG5⟩
                      case measure => simp only [intOf]; omega
                  · obtain rfl : q = 3 := by omega
                    have he : allTo kinds j ++ refWhos k (m + 1) = allTo kinds j ++ refWhos k m ++ rightsOf ((whoAcs k m).take 3) := by
                      rw [HMS.out, ← List.append_assoc]; rfl
                    rw [← he] at HO
                    clear he HMS HML
                    go_wp2
                    go_roundw
                    case rel => exact ⟨m + 1, by go_num, by omega, HO, HG⟩
                    case measure => simp only [intOf]; omega
              · obtain rfl : m = 17 := by omega
                rw [← HT.out] at HO
                clear HT
                go_wp2
                go_roundw
                case rel => exact ⟨j + 1, by rw [HKJ.out]; go_num, by omega, HO, HG⟩
                case measure => simp only [intOf]; rw [HKJ.out]; omega
    · obtain rfl : j = 6 := by omega
      go_wp2
      go_ret
      exact ⟨_, rfl, HO.out, HG.out⟩
end Go.Proofs.Ytlmnbafklefmcaa.NumK
namespace Go.Proofs.Ytlmnbafklefmcaa.NumK
open Go.RowKit

/-! ### products -/
def mulV (a b : Int) : Int := if [a, b].all isMoney then capV (a * b) else 0
def mulE (a b : Int) : Int := if [a, b].all isMoney then capE (a * b) else 3
end Go.Proofs.Ytlmnbafklefmcaa.NumK
