/- The contracts of math/bits.Len64, LeadingZeros64 and Div64. -/
import Derived.Test.YtckdbbjeifindaaRG2
import Derived.Lib.BitFns
import Derived.Deep.QuietTactic
import Derived.BigQuiet
import Derived.Deep.DeepCutAuto
import Derived.Deep.Light
import Derived.Deep.CutBlock
import Derived.Test.YtckdbbjeifindaaRG1
import Derived.Deep.AppendLies
namespace Go.Proofs.Ytckdbbjeifindaa.NumK
open Go.RowKit

theorem tab8 (i : Int) (h0 : 0 ≤ i) (h1 : i < 256) (h : i.toNat < Lib.len8tab.size) : ((Lib.len8tab[i.toNat].toNat : Nat) : Int) = (Lib.bitLen i.toNat : Int) ∧ Lib.bitLen i.toNat ≤ 8 := by
  refine ⟨?_, Lib.bitLen_le8' i h0 (by omega)⟩
  rw [← Lib.len8_of i h0 (by omega)]
  unfold Lib.len8
  rw [getElem?_pos Lib.len8tab i.toNat h]
  rfl

theorem fin8 (k L B : Nat) (z : Int) (hz : z = k) (hk : k ≤ 56) (l : L ≤ 8) (s : B = k + L) : wrap64 (z + wrap64 (L : Int)) = (B : Int) := by
  subst hz s
  unfold wrap64
  omega
theorem fin0 (L : Nat) (l : L ≤ 8) : wrap64 (wrap64 (L : Int)) = (L : Int) := by
  unfold wrap64
  omega

set_option maxHeartbeats 4000000 in
set_option maxRecDepth 100000 in
theorem len64_any (x : Int) (w : World) (h0 : 0 ≤ x) (h1 : x ≤ 18446744073709551615) :
    Calls Try.prog 76 #[.int .u64 x] w fun e w' => e = .returned (.int .i64 (Lib.bitLen x.toNat)) ∧ w = w' := by
  have hs : ((Lib.len8tab.size : Nat) : Int) = 256 := by rw [Lib.len8tab_size]; rfl
  go_enter Try.func76, Try.ntmps76
  go_wp2
  all_goals (go_ret; refine ⟨congrArg Ending.returned (congrArg (Value.int IntKind.i64) ?_), rfl⟩)
  all_goals first
    | (obtain ⟨e, l⟩ := tab8 (x / 4294967296 / 65536 / 256) (by omega) (by omega) (by rw [Lib.len8tab_size]; omega)
       simp only [e]
       have e2 : (x / 4294967296 / 65536 / 256).toNat = x.toNat / 72057594037927936 := by omega
       rw [e2] at l ⊢
       exact fin8 56 _ _ _ rfl (by omega) l (Lib.bitLen_shift56 x.toNat (by omega) (by omega)))
    | (obtain ⟨e, l⟩ := tab8 (x / 4294967296 / 65536) (by omega) (by omega) (by rw [Lib.len8tab_size]; omega)
       simp only [e]
       have e2 : (x / 4294967296 / 65536).toNat = x.toNat / 281474976710656 := by omega
       rw [e2] at l ⊢
       exact fin8 48 _ _ _ rfl (by omega) l (Lib.bitLen_shift48 x.toNat (by omega) (by omega)))
    | (obtain ⟨e, l⟩ := tab8 (x / 4294967296 / 256) (by omega) (by omega) (by rw [Lib.len8tab_size]; omega)
       simp only [e]
       have e2 : (x / 4294967296 / 256).toNat = x.toNat / 1099511627776 := by omega
       rw [e2] at l ⊢
       exact fin8 40 _ _ _ rfl (by omega) l (Lib.bitLen_shift40 x.toNat (by omega) (by omega)))
    | (obtain ⟨e, l⟩ := tab8 (x / 4294967296) (by omega) (by omega) (by rw [Lib.len8tab_size]; omega)
       simp only [e]
       have e2 : (x / 4294967296).toNat = x.toNat / 4294967296 := by omega
       rw [e2] at l ⊢
       exact fin8 32 _ _ _ rfl (by omega) l (Lib.bitLen_shift32 x.toNat (by omega) (by omega)))
    | (obtain ⟨e, l⟩ := tab8 (x / 65536 / 256) (by omega) (by omega) (by rw [Lib.len8tab_size]; omega)
       simp only [e]
       have e2 : (x / 65536 / 256).toNat = x.toNat / 16777216 := by omega
       rw [e2] at l ⊢
       exact fin8 24 _ _ _ rfl (by omega) l (Lib.bitLen_shift24 x.toNat (by omega) (by omega)))
    | (obtain ⟨e, l⟩ := tab8 (x / 65536) (by omega) (by omega) (by rw [Lib.len8tab_size]; omega)
       simp only [e]
       have e2 : (x / 65536).toNat = x.toNat / 65536 := by omega
       rw [e2] at l ⊢
       exact fin8 16 _ _ _ rfl (by omega) l (Lib.bitLen_shift16 x.toNat (by omega) (by omega)))
    | (obtain ⟨e, l⟩ := tab8 (x / 256) (by omega) (by omega) (by rw [Lib.len8tab_size]; omega)
       simp only [e]
       have e2 : (x / 256).toNat = x.toNat / 256 := by omega
       rw [e2] at l ⊢
       exact fin8 8 _ _ _ rfl (by omega) l (Lib.bitLen_shift8 x.toNat (by omega) (by omega)))
    | (obtain ⟨e, l⟩ := tab8 x (by omega) (by omega) (by rw [Lib.len8tab_size]; omega)
       simp only [e]
       exact fin0 _ l)

theorem lz64_any (x : Int) (w : World) (h0 : 0 ≤ x) (h1 : x ≤ 18446744073709551615) :
    Calls Try.prog 68 #[.int .u64 x] w fun e w' => e = .returned (.int .i64 (64 - (Lib.bitLen x.toNat : Int))) ∧ w = w' := by
  have C := fun w => len64_any x w h0 h1
  have l := Lib.bitLen_le x.toNat 64 (by omega) (by omega)
  generalize Lib.bitLen x.toNat = L at *
  go_enter Try.func68, Try.ntmps68
  go_wp2_with (go_at_call 76; ((with_reducible refine (C _).mono ?_); rintro e w' ⟨rfl, rfl⟩))
  go_ret
  exact ⟨rfl, rfl⟩
end Go.Proofs.Ytckdbbjeifindaa.NumK
namespace Go.Proofs.Ytckdbbjeifindaa.NumK
open Go.RowKit

/-- y1 and y0 are the halves of what divides, u the rest so far, d the next digit, q and r the guess: q is not below the digit that is looked for. -/
def Dig (y1 y0 u d q r : Int) : Prop := q * y1 + r = u ∧ u * 4294967296 + d < (q + 1) * (y1 * 4294967296 + y0) ∧ 0 ≤ r ∧ 0 ≤ q ∧ q ≤ 4294967297

theorem dig_start (y1 y0 u d q : Int) (h1 : 2147483648 ≤ y1) (h3 : 0 ≤ y0) (h4 : y0 < 4294967296) (h5 : 0 ≤ u) (h6 : u < y1 * 4294967296 + y0) (h8 : d < 4294967296) (hq : q = u / y1) :
    Dig y1 y0 u d q (u - q * y1) ∧ u - q * y1 < y1 := by
  have e1 := Int.mul_ediv_add_emod u y1
  have e2 := Int.emod_nonneg u (show y1 ≠ 0 by omega)
  have e3 := Int.emod_lt_of_pos u (show 0 < y1 by omega)
  have e4 : 0 ≤ q := by rw [hq]; exact Int.ediv_nonneg h5 (by omega)
  rw [← hq, Int.mul_comm] at e1
  have e5 : q ≤ 4294967297 := by
    rcases Int.lt_or_le 4294967297 q with h | h
    · have : 4294967298 * y1 ≤ q * y1 := Int.mul_le_mul_of_nonneg_right h (by omega)
      omega
    · exact h
  have e6 : (q + 1) * (y1 * 4294967296 + y0) = q * y1 * 4294967296 + y1 * 4294967296 + (q + 1) * y0 := by grind
  have e7 : 0 ≤ (q + 1) * y0 := Int.mul_nonneg (by omega) h3
  refine ⟨⟨by omega, ?_, by omega, e4, e5⟩, by omega⟩
  rw [e6]
  generalize (q + 1) * y0 = A at *
  generalize q * y1 = B at *
  omega

theorem dig_pos (y1 y0 u d q r p : Int) (h3 : 0 ≤ d) (D : Dig y1 y0 u d q r) (hp : p = q * y0) (h : 4294967296 ≤ q ∨ 4294967296 * r + d < p) : 1 ≤ q := by
  obtain ⟨_, _, d3, d4, _⟩ := D
  rcases h with h | h
  · omega
  · rcases Int.lt_or_le q 1 with c | c
    · have : q = 0 := by omega
      subst this
      omega
    · exact c

theorem dig_next (y1 y0 u d q r p : Int) (h1 : 0 ≤ y1) (h0 : 0 ≤ u) (h5 : u < y1 * 4294967296 + y0) (h8 : d < 4294967296) (h6 : 0 ≤ d) (D : Dig y1 y0 u d q r) (hp : p = q * y0) (h : 4294967296 ≤ q ∨ 4294967296 * r + d < p) : Dig y1 y0 u d (q - 1) (r + y1) := by
  have hq := dig_pos y1 y0 u d q r p h6 D hp h
  obtain ⟨d1, d2, d3, d4, d5⟩ := D
  refine ⟨by rw [Int.sub_mul]; omega, ?_, by omega, by omega, by omega⟩
  have e : q - 1 + 1 = q := by omega
  rw [e]
  rcases h with h | h
  · have h9 : 4294967296 * (y1 * 4294967296 + y0) ≤ q * (y1 * 4294967296 + y0) := Int.mul_le_mul_of_nonneg_right h (by omega)
    omega
  · have e6 : q * (y1 * 4294967296 + y0) = q * y1 * 4294967296 + p := by rw [hp]; grind
    rw [e6]
    generalize q * y1 = B at *
    omega

theorem dig_quit (y1 y0 u d q r : Int) (h0 : 0 ≤ u) (h5 : u < y1 * 4294967296 + y0) (D : Dig y1 y0 u d q r) (h : q * (y1 * 4294967296 + y0) ≤ u * 4294967296 + d) :
    q = (u * 4294967296 + d) / (y1 * 4294967296 + y0) ∧ u * 4294967296 + d - q * (y1 * 4294967296 + y0) = (u * 4294967296 + d) % (y1 * 4294967296 + y0) := by
  obtain ⟨_, d2, _⟩ := D
  generalize y1 * 4294967296 + y0 = Y at *
  generalize u * 4294967296 + d = N at *
  rw [Int.add_mul] at d2
  have := (Int.ediv_emod_unique (a := N) (b := Y) (r := N - q * Y) (q := q) (by omega)).2 ⟨by rw [Int.mul_comm]; omega, by omega, by omega⟩
  exact ⟨this.1.symm, this.2.symm⟩

theorem dig_exit (y1 y0 u d q r p : Int) (h0 : 0 ≤ u) (h5 : u < y1 * 4294967296 + y0) (D : Dig y1 y0 u d q r) (hp : p = q * y0) (h : p ≤ 4294967296 * r + d) :
    q = (u * 4294967296 + d) / (y1 * 4294967296 + y0) ∧ u * 4294967296 + d - q * (y1 * 4294967296 + y0) = (u * 4294967296 + d) % (y1 * 4294967296 + y0) := by
  refine dig_quit y1 y0 u d q r h0 h5 D ?_
  obtain ⟨d1, _⟩ := D
  have e6 : q * (y1 * 4294967296 + y0) = q * y1 * 4294967296 + p := by rw [hp]; grind
  rw [e6]
  generalize q * y1 = B at *
  omega

theorem dig_break (y1 y0 u d q r : Int) (h0 : 0 ≤ u) (h3 : 0 ≤ y0) (h4 : y0 < 4294967296) (h6 : 0 ≤ d) (h5 : u < y1 * 4294967296 + y0) (D : Dig y1 y0 u d q r) (hq : q ≤ 4294967296) (h : 4294967296 ≤ r) :
    q = (u * 4294967296 + d) / (y1 * 4294967296 + y0) ∧ u * 4294967296 + d - q * (y1 * 4294967296 + y0) = (u * 4294967296 + d) % (y1 * 4294967296 + y0) := by
  refine dig_exit y1 y0 u d q r (q * y0) h0 h5 D rfl ?_
  obtain ⟨_, _, _, d4, _⟩ := D
  have : q * y0 ≤ 4294967296 * 4294967295 := Int.mul_le_mul hq (by omega) h3 (by omega)
  omega

/-! ### shifts and masks of 64 bits -/
theorem maskI (x : Int) (h0 : 0 ≤ x) (h1 : x < 18446744073709551616) : bits .and .u64 x 4294967295 = x % 4294967296 := by
  obtain ⟨a, rfl⟩ := Int.eq_ofNat_of_zero_le h0
  have h := bits_and_u64_nat a 4294967295 (by omega) (by omega)
  have e : a &&& 4294967295 = a % 4294967296 := Nat.and_two_pow_sub_one_eq_mod a 32
  rw [e] at h
  exact h

theorem or_shift (a b s : Nat) (hb : b < 2 ^ s) (ha : a * 2 ^ s < 18446744073709551616) (hb2 : b < 18446744073709551616) : bits .or .u64 ((a * 2 ^ s : Nat) : Int) (b : Int) = ((a * 2 ^ s + b : Nat) : Int) := by
  have h := bits_or_u64_nat (a * 2 ^ s) b ha hb2
  rw [h, ← Nat.shiftLeft_eq, ← Nat.shiftLeft_add_eq_or_of_lt hb]
end Go.Proofs.Ytckdbbjeifindaa.NumK
namespace Go.Proofs.Ytckdbbjeifindaa.NumK
open Go.RowKit

theorem pow_nat (s : Nat) : ((2 : Int) ^ s) = ((2 ^ s : Nat) : Int) := by simp

theorem scaled (hi lo y s : Int) (h0 : 0 ≤ hi) (h1 : hi < y) (l0 : 0 ≤ lo) (l1 : lo ≤ 18446744073709551615) (s0 : 0 ≤ s) (s1 : s ≤ 63) (p0 : 2 ^ (63 - s).toNat ≤ y) (p1 : y < 2 ^ (64 - s).toNat) :
    ∃ Y H B U L y1 y0 d1 d0 : Int, IntKind.u64.wrap (y * 2 ^ s.toNat) = Y ∧ IntKind.u64.wrap (hi * 2 ^ s.toNat) = H ∧ lo / 2 ^ (64 - s).toNat = B ∧ bits .or .u64 H B = U ∧ IntKind.u64.wrap (lo * 2 ^ s.toNat) = L
      ∧ Y / 4294967296 = y1 ∧ bits .and .u64 Y 4294967295 = y0 ∧ L / 4294967296 = d1 ∧ bits .and .u64 L 4294967295 = d0
      ∧ Y = y1 * 4294967296 + y0 ∧ 2147483648 ≤ y1 ∧ y1 < 4294967296 ∧ 0 ≤ y0 ∧ y0 < 4294967296 ∧ 0 ≤ d1 ∧ d1 < 4294967296 ∧ 0 ≤ d0 ∧ d0 < 4294967296 ∧ 0 ≤ U ∧ U < Y
      ∧ (0 ≤ H ∧ H < 18446744073709551616) ∧ (0 ≤ B ∧ B < 18446744073709551616) ∧ (0 ≤ L ∧ L < 18446744073709551616)
      ∧ U * 18446744073709551616 + (d1 * 4294967296 + d0) = (hi * 18446744073709551616 + lo) * 2 ^ s.toNat ∧ Y = y * 2 ^ s.toNat := by
  obtain ⟨k, rfl⟩ := Int.eq_ofNat_of_zero_le s0
  have k1 : k ≤ 63 := by omega
  have t1 : ((k : Int)).toNat = k := by omega
  have t2 : (64 - (k : Int)).toNat = 64 - k := by omega
  have t3 : (63 - (k : Int)).toNat = 63 - k := by omega
  rw [t2] at p1
  rw [t3] at p0
  rw [t1, t2]
  have hST : (2 : Int) ^ k * 2 ^ (64 - k) = 18446744073709551616 := by
    rw [← Int.pow_add, show k + (64 - k) = 64 by omega]; rfl
  have hSV : (2 : Int) ^ k * 2 ^ (63 - k) = 9223372036854775808 := by
    rw [← Int.pow_add, show k + (63 - k) = 63 by omega]; rfl
  have hS : (0 : Int) < 2 ^ k := Int.pow_pos (by omega)
  have hT : (0 : Int) < 2 ^ (64 - k) := Int.pow_pos (by omega)
  obtain ⟨a, rfl⟩ := Int.eq_ofNat_of_zero_le h0
  obtain ⟨l, rfl⟩ := Int.eq_ofNat_of_zero_le l0
  have hB0 : 0 ≤ (l : Int) / 2 ^ (64 - k) := Int.ediv_nonneg (by omega) (by omega)
  have hB1 : (l : Int) / 2 ^ (64 - k) < 2 ^ k := by
    apply Int.ediv_lt_of_lt_mul hT
    rw [hST]; omega
  obtain ⟨b, hb⟩ := Int.eq_ofNat_of_zero_le hB0
  have hY1 : y * 2 ^ k < 18446744073709551616 := by
    have := Int.mul_lt_mul_of_pos_right p1 hS
    rw [Int.mul_comm (2 ^ (64 - k)), hST] at this; exact this
  have hY0 : 9223372036854775808 ≤ y * 2 ^ k := by
    have := Int.mul_le_mul_of_nonneg_right p0 (Int.le_of_lt hS)
    rw [Int.mul_comm (2 ^ (63 - k)), hSV] at this; exact this
  have hU : (a : Int) * 2 ^ k + 2 ^ k ≤ y * 2 ^ k := by
    have := Int.mul_le_mul_of_nonneg_right (show (a : Int) + 1 ≤ y by omega) (Int.le_of_lt hS)
    rw [Int.add_mul, Int.one_mul] at this; exact this
  have hA0 : 0 ≤ (a : Int) * 2 ^ k := Int.mul_nonneg (by omega) (by omega)
  have hwY : IntKind.u64.wrap (y * 2 ^ k) = y * 2 ^ k := by rw [IntKind.wrap_u64]; omega
  have hwH : IntKind.u64.wrap ((a : Int) * 2 ^ k) = (a : Int) * 2 ^ k := by rw [IntKind.wrap_u64]; omega
  have hl := Int.mul_ediv_add_emod (l : Int) (2 ^ (64 - k))
  have hl0 := Int.emod_nonneg (l : Int) (show (2 : Int) ^ (64 - k) ≠ 0 by omega)
  have hl1 := Int.emod_lt_of_pos (l : Int) hT
  have hL0 : 0 ≤ (l : Int) % 2 ^ (64 - k) * 2 ^ k := Int.mul_nonneg hl0 (by omega)
  have hL1 : (l : Int) % 2 ^ (64 - k) * 2 ^ k < 18446744073709551616 := by
    have := Int.mul_lt_mul_of_pos_right hl1 hS
    rw [Int.mul_comm (2 ^ (64 - k)), hST] at this; exact this
  have hL : (l : Int) * 2 ^ k = (l : Int) / 2 ^ (64 - k) * 18446744073709551616 + (l : Int) % 2 ^ (64 - k) * 2 ^ k := by
    have e : ((2 : Int) ^ (64 - k) * ((l : Int) / 2 ^ (64 - k)) + (l : Int) % 2 ^ (64 - k)) * 2 ^ k = (l : Int) / 2 ^ (64 - k) * (2 ^ k * 2 ^ (64 - k)) + (l : Int) % 2 ^ (64 - k) * 2 ^ k := by grind
    rw [hl, hST] at e
    exact e
  have hwL : IntKind.u64.wrap ((l : Int) * 2 ^ k) = (l : Int) % 2 ^ (64 - k) * 2 ^ k := by rw [IntKind.wrap_u64, hL]; omega
  have hO : bits .or .u64 ((a : Int) * 2 ^ k) (l / 2 ^ (64 - k)) = (a : Int) * 2 ^ k + (l : Int) / 2 ^ (64 - k) := by
    have hA1 : (a : Int) * 2 ^ k < 18446744073709551616 := by omega
    rw [hb]
    rw [pow_nat, ← Int.natCast_mul] at hA1
    have hA2 : a * 2 ^ k < 18446744073709551616 := by omega
    have hB2 : b < 2 ^ k := by rw [hb, pow_nat] at hB1; omega
    have hB3 : b < 18446744073709551616 := by
      have : (2 : Nat) ^ k ≤ 2 ^ 63 := Nat.pow_le_pow_right (by omega) k1
      omega
    have := or_shift a b k hB2 hA2 hB3
    rw [pow_nat, ← Int.natCast_mul, this, Int.natCast_add]
  rw [hwY, hwH, hwL]
  have hmY := maskI (y * 2 ^ k) (by omega) (by omega)
  have hmL := maskI ((l : Int) % 2 ^ (64 - k) * 2 ^ k) (by omega) (by omega)
  have hN : ((a : Int) * 2 ^ k + (l : Int) / 2 ^ (64 - k)) * 18446744073709551616 + (l : Int) % 2 ^ (64 - k) * 2 ^ k = (a * 18446744073709551616 + l) * 2 ^ k := by
    rw [Int.add_mul, Int.add_mul (a * 18446744073709551616), hL]
    have : (a : Int) * 2 ^ k * 18446744073709551616 = a * 18446744073709551616 * 2 ^ k := by grind
    omega
  refine ⟨_, _, _, _, _, _, _, _, _, rfl, rfl, rfl, hO, rfl, rfl, hmY, rfl, hmL, ?_⟩
  generalize (a : Int) * 2 ^ k = A at *
  generalize (l : Int) % 2 ^ (64 - k) * 2 ^ k = L at *
  generalize (l : Int) / 2 ^ (64 - k) = B at *
  generalize y * 2 ^ k = Y at *
  generalize (a * 18446744073709551616 + l : Int) * 2 ^ k = N at *
  have hSb : (2 : Int) ^ k ≤ 9223372036854775808 := by
    have : (2 : Int) ^ k * 1 ≤ 2 ^ k * 2 ^ (63 - k) := Int.mul_le_mul_of_nonneg_left (by have : (0 : Int) < 2 ^ (63 - k) := Int.pow_pos (by omega); omega) (by omega)
    omega
  generalize (2 : Int) ^ k = S at *
  refine ⟨by omega, by omega, by omega, by omega, by omega, by omega, by omega, by omega, by omega, by omega, by omega, ⟨by omega, by omega⟩, ⟨by omega, by omega⟩, ⟨by omega, by omega⟩, by omega, rfl⟩

theorem digit (Y y1 y0 u d : Int) (f1 : Y = y1 * 4294967296 + y0) (f2 : 2147483648 ≤ y1) (f3 : y1 < 4294967296) (f4 : 0 ≤ y0) (f5 : y0 < 4294967296) (f6 : 0 ≤ d) (f7 : d < 4294967296) (f10 : 0 ≤ u) (f11 : u < Y) :
    ∃ q m q2 V a1 a2 a3 : Int, IntKind.u64.wrap (u.tdiv y1) = q ∧ IntKind.u64.wrap (q * y1) = m ∧ Dig y1 y0 u d q (u - m) ∧ 0 ≤ q ∧ q ≤ 4294967297 ∧ 0 ≤ m ∧ m ≤ u ∧ u - m < y1
      ∧ (u * 4294967296 + d) / (y1 * 4294967296 + y0) = q2 ∧ 0 ≤ q2 ∧ q2 < 4294967296 ∧ IntKind.u64.wrap (u * 4294967296) = a1 ∧ IntKind.u64.wrap (a1 + d) = a2 ∧ IntKind.u64.wrap (q2 * Y) = a3 ∧ IntKind.u64.wrap (a2 - a3) = V
      ∧ 0 ≤ V ∧ V < Y ∧ u * 4294967296 + d = q2 * Y + V := by
  obtain ⟨dg, dr⟩ := dig_start y1 y0 u d (u / y1) f2 f4 f5 f10 (by omega) f7 rfl
  obtain ⟨a1, a2, a3, a4, a5⟩ := id dg
  have m0 : 0 ≤ u / y1 * y1 := Int.mul_nonneg a4 (by omega)
  have e1 : IntKind.u64.wrap (u.tdiv y1) = u / y1 := by rw [Int.tdiv_eq_ediv_of_nonneg f10, IntKind.wrap_u64]; omega
  have e2 : IntKind.u64.wrap (u / y1 * y1) = u / y1 * y1 := by
    generalize u / y1 * y1 = M at *
    rw [IntKind.wrap_u64]; omega
  rw [← f1]
  have n0 : 0 ≤ (u * 4294967296 + d) / Y := Int.ediv_nonneg (by omega) (by omega)
  have n1 : (u * 4294967296 + d) / Y < 4294967296 := Int.ediv_lt_of_lt_mul (by omega) (by omega)
  have n2 := Int.mul_ediv_add_emod (u * 4294967296 + d) Y
  have n3 := Int.emod_nonneg (u * 4294967296 + d) (show Y ≠ 0 by omega)
  have n4 := Int.emod_lt_of_pos (u * 4294967296 + d) (show 0 < Y by omega)
  rw [Int.mul_comm] at n2
  refine ⟨_, _, _, (u * 4294967296 + d) % Y, _, _, _, e1, e2, dg, a4, a5, m0, by omega, dr, rfl, n0, n1, rfl, rfl, rfl, ?_, n3, n4, n2.symm⟩
  generalize (u * 4294967296 + d) / Y * Y = A at *
  generalize (u * 4294967296 + d) % Y = B at *
  rw [IntKind.wrap_u64, IntKind.wrap_u64, IntKind.wrap_u64, IntKind.wrap_u64]
  omega

theorem scaled_quo (N y S Q R : Int) (hS : 0 < S) (h : N * S = Q * (y * S) + R) (h0 : 0 ≤ R) (h1 : R < y * S) (hy : 0 < y) : N / y = Q ∧ N % y = R / S := by
  have e : R = (N - Q * y) * S := by grind
  have e2 : R / S = N - Q * y := by rw [e]; exact Int.mul_ediv_cancel _ (by omega)
  have b0 : 0 ≤ N - Q * y := by
    rw [e] at h0
    exact Int.nonneg_of_mul_nonneg_left h0 hS
  have b1 : N - Q * y < y := by
    rw [e] at h1
    exact Int.lt_of_mul_lt_mul_right h1 (by omega)
  rw [e2]
  exact (Int.ediv_emod_unique hy).2 ⟨by rw [Int.mul_comm]; omega, b0, b1⟩
end Go.Proofs.Ytckdbbjeifindaa.NumK
namespace Go.Proofs.Ytckdbbjeifindaa.NumK
open Go.RowKit

set_option maxHeartbeats 1000000 in
set_option maxRecDepth 100000 in
theorem div64_zero (lo y : Int) (w : World) (h1 : 0 < y) (h2 : y ≤ 18446744073709551615) (l0 : 0 ≤ lo) (l1 : lo ≤ 18446744073709551615) :
    Calls Try.prog 52 #[.int .u64 0, .int .u64 lo, .int .u64 y] w fun e w' => e = .returned (.tuple #[.int .u64 (lo / y), .int .u64 (lo % y)]) ∧ Grew w w' := by
  have e1 : lo.tdiv y = lo / y := Int.tdiv_eq_ediv_of_nonneg l0
  have e2 : lo.tmod y = lo % y := Int.tmod_eq_emod_of_nonneg l0
  have b1 : 0 ≤ lo / y := Int.ediv_nonneg l0 (by omega)
  have b2 : lo / y ≤ lo := Int.ediv_le_self y l0
  have b3 : 0 ≤ lo % y := Int.emod_nonneg lo (by omega)
  have b4 : lo % y < y := Int.emod_lt_of_pos lo h1
  have y0 : (y == 0) = false := by simp; omega
  have e3 : IntKind.u64.wrap (lo.tdiv y) = lo / y := by rw [e1, IntKind.wrap_u64]; omega
  go_enter Try.func52, Try.ntmps52
  go_wp2
  go_quiet (fail)
  go_wp2
  exact bodyPost_ret (v := .tuple #[.int .u64 (lo / y), .int .u64 (lo % y)]) (by simp [results, Try.results52, go_sem]) rfl ⟨rfl, grew_drewN (grew_refl _) _⟩

set_option maxHeartbeats 2000000 in
set_option maxRecDepth 100000 in
theorem div64_far (hi lo y s : Int) (w : World) (h0 : 0 < hi) (h1 : hi < y) (l0 : 0 ≤ lo) (l1 : lo ≤ 18446744073709551615) (s0 : 0 ≤ s) (s1 : s ≤ 63) (p0 : 2 ^ (63 - s).toNat ≤ y) (p1 : y < 2 ^ (64 - s).toNat)
   (C : ∀ w, Calls Try.prog 68 #[.int .u64 y] w fun e w' => e = .returned (.int .i64 s) ∧ w = w') :
    Calls Try.prog 52 #[.int .u64 hi, .int .u64 lo, .int .u64 y] w fun e w' => e = .returned (.tuple #[.int .u64 ((hi * 18446744073709551616 + lo) / y), .int .u64 ((hi * 18446744073709551616 + lo) % y)]) ∧ Grew w w' := by
  obtain ⟨Y, H, B, U, L, y1, y0, d1, d0, eY, eH, eB, eO, eL, eY1, eY0, eL1, eL0, f1, f2, f3, f4, f5, f6, f7, f8, f9, f10, f11, ⟨g1, g2⟩, ⟨g3, g4⟩, ⟨g5, g6⟩, f12, f13⟩ := scaled hi lo y s (by omega) h1 l0 l1 s0 s1 p0 p1
  clear p0 p1
  obtain ⟨q, m, q2, V, a1, a2, a3, k1, k2, k3, k4, k5, k6, k7, k8, k9, k10, k11, k12, k13, k14, k15, k16, k17, k18⟩ := digit Y y1 y0 U d1 f1 f2 f3 f4 f5 f6 f7 f10 f11
  obtain ⟨q', m', q3, R, b1, b2, b3, j1, j2, j3, j4, j5, j6, j7, j8, j9, j10, j11, j12, j13, j14, j15, j16, j17, j18⟩ := digit Y y1 y0 V d0 f1 f2 f3 f4 f5 f8 f9 k16 k17
  have fin := scaled_quo (hi * 18446744073709551616 + lo) y (2 ^ s.toNat) (q2 * 4294967296 + q3) R (Int.pow_pos (by omega)) (by
    rw [← f12, ← f13, Int.add_mul]
    have : q2 * 4294967296 * Y = q2 * Y * 4294967296 := by grind
    rw [this]
    generalize q2 * Y = X1 at *
    generalize q3 * Y = X2 at *
    omega) j16 (by rw [← f13]; exact j17) (by omega)
  have FIN := Lib.hid fin
  have huA : U < y1 * 4294967296 + y0 := by omega
  have huB : V < y1 * 4294967296 + y0 := by omega
  have gU : U < 18446744073709551616 := by omega
  have gV : V < 18446744073709551616 := by omega
  have gR : R < 18446744073709551616 := by omega
  have K3 := Lib.hid k3
  have J3 := Lib.hid j3
  clear f12 f13 fin k3 j3 k18 j18 f11 f1
  go_enter Try.func52, Try.ntmps52
  go_upto_block 0 with (first | (go_at_call 68; ((with_reducible refine (C _).mono ?_); rintro e w' ⟨rfl, rfl⟩)))
  go_cut [15] (fun s15 wx => s15 = .int .u64 q2 ∧ w = wx)
  case first =>
    go_wp2_with fail
    go_loop [15, 16] (fun a b => ∃ g r : Int, a = .int .u64 g ∧ b = .int .u64 r ∧ Hid (Dig y1 y0 U d1 g r) ∧ 0 ≤ r ∧ r < 4294967296 ∧ 0 ≤ g ∧ g ≤ 4294967297) (fun a _ => (intOf a).toNat)
    case atStart => exact ⟨q, U - m, rfl, rfl, K3, by omega, by omega, by omega, by omega⟩
    case round =>
      obtain ⟨g, r, rfl, rfl, DD, r0, r1, g0, g1⟩ := hrel
      obtain ⟨p, hp⟩ : ∃ p, p = g * y0 := ⟨_, rfl⟩
      have ln := fun h => dig_next y1 y0 U d1 g r p (by omega) (by omega) huA (by omega) (by omega) DD.out hp h
      have lp := dig_pos y1 y0 U d1 g r p (by omega) DD.out hp
      have lx := dig_exit y1 y0 U d1 g r p (by omega) huA DD.out hp
      rw [k9] at lx
      have lb := dig_break y1 y0 U d1 (g - 1) (r + y1) (by omega) f4 f5 (by omega) huA
      rw [k9] at lb
      by_cases c1 : 4294967296 ≤ g
      · have hg := lp (Or.inl c1)
        have DN := Lib.hid (ln (Or.inl c1))
        clear ln lp lx hp
        by_cases c3 : 4294967296 ≤ r + y1
        · have E := Lib.hid (lb DN.out (by omega) c3)
          clear lb
          go_wp2_with fail
          go_meet
          case rel => exact ⟨by rw [E.out.1], rfl⟩
        · clear lb
          go_wp2_with fail
          go_round
          case rel => exact ⟨g - 1, r + y1, rfl, rfl, DN, by omega, by omega, by omega, by omega⟩
          case measure => simp [intOf]; omega
      · have ep : IntKind.u64.wrap (g * y0) = p := by
          have e1 : g * y0 ≤ 4294967295 * 4294967295 := Int.mul_le_mul (by omega) (by omega) f4 (by omega)
          have e2 : 0 ≤ g * y0 := Int.mul_nonneg g0 f4
          rw [hp, IntKind.wrap_u64]; omega
        by_cases c2 : 4294967296 * r + d1 < p
        · have hg := lp (Or.inr c2)
          have DN := Lib.hid (ln (Or.inr c2))
          clear ln lp lx hp
          by_cases c3 : 4294967296 ≤ r + y1
          · have E := Lib.hid (lb DN.out (by omega) c3)
            clear lb
            go_wp2_with fail
            go_meet
            case rel => exact ⟨by rw [E.out.1], rfl⟩
          · clear lb
            go_wp2_with fail
            go_round
            case rel => exact ⟨g - 1, r + y1, rfl, rfl, DN, by omega, by omega, by omega, by omega⟩
            case measure => simp [intOf]; omega
        · have E := Lib.hid (lx (by omega))
          clear ln lp lx hp lb
          go_wp2_with fail
          go_meet
          case rel => exact ⟨by rw [E.out.1], rfl⟩
  case rest =>
    obtain ⟨rfl, rfl⟩ := hcut
    go_upto_block 2 with fail
    go_cut [18] (fun s18 wx => s18 = .int .u64 q3 ∧ w = wx)
    case first =>
      go_wp2_with fail
      go_loop [18, 16] (fun a b => ∃ g r : Int, a = .int .u64 g ∧ b = .int .u64 r ∧ Hid (Dig y1 y0 V d0 g r) ∧ 0 ≤ r ∧ r < 4294967296 ∧ 0 ≤ g ∧ g ≤ 4294967297) (fun a _ => (intOf a).toNat)
      case atStart => exact ⟨q', V - m', rfl, rfl, J3, by omega, by omega, by omega, by omega⟩
      case round =>
        obtain ⟨g, r, rfl, rfl, DD, r0, r1, g0, g1⟩ := hrel
        obtain ⟨p, hp⟩ : ∃ p, p = g * y0 := ⟨_, rfl⟩
        have ln := fun h => dig_next y1 y0 V d0 g r p (by omega) (by omega) huB (by omega) (by omega) DD.out hp h
        have lp := dig_pos y1 y0 V d0 g r p (by omega) DD.out hp
        have lx := dig_exit y1 y0 V d0 g r p (by omega) huB DD.out hp
        rw [j9] at lx
        have lb := dig_break y1 y0 V d0 (g - 1) (r + y1) (by omega) f4 f5 (by omega) huB
        rw [j9] at lb
        by_cases c1 : 4294967296 ≤ g
        · have hg := lp (Or.inl c1)
          have DN := Lib.hid (ln (Or.inl c1))
          clear ln lp lx hp
          by_cases c3 : 4294967296 ≤ r + y1
          · have E := Lib.hid (lb DN.out (by omega) c3)
            clear lb
            go_wp2_with fail
            go_meet
            case rel => exact ⟨by rw [E.out.1], rfl⟩
          · clear lb
            go_wp2_with fail
            go_round
            case rel => exact ⟨g - 1, r + y1, rfl, rfl, DN, by omega, by omega, by omega, by omega⟩
            case measure => simp [intOf]; omega
        · have ep : IntKind.u64.wrap (g * y0) = p := by
            have e1 : g * y0 ≤ 4294967295 * 4294967295 := Int.mul_le_mul (by omega) (by omega) f4 (by omega)
            have e2 : 0 ≤ g * y0 := Int.mul_nonneg g0 f4
            rw [hp, IntKind.wrap_u64]; omega
          by_cases c2 : 4294967296 * r + d0 < p
          · have hg := lp (Or.inr c2)
            have DN := Lib.hid (ln (Or.inr c2))
            clear ln lp lx hp
            by_cases c3 : 4294967296 ≤ r + y1
            · have E := Lib.hid (lb DN.out (by omega) c3)
              clear lb
              go_wp2_with fail
              go_meet
              case rel => exact ⟨by rw [E.out.1], rfl⟩
            · clear lb
              go_wp2_with fail
              go_round
              case rel => exact ⟨g - 1, r + y1, rfl, rfl, DN, by omega, by omega, by omega, by omega⟩
              case measure => simp [intOf]; omega
          · have E := Lib.hid (lx (by omega))
            clear ln lp lx hp lb
            go_wp2_with fail
            go_meet
            case rel => exact ⟨by rw [E.out.1], rfl⟩
    case rest =>
      obtain ⟨rfl, rfl⟩ := hcut
      go_wp2_with fail
      exact bodyPost_ret (v := .tuple #[.int .u64 (q2 * 4294967296 + q3), .int .u64 (R / 2 ^ s.toNat)]) (by simp [results, Try.results52, go_sem]) rfl ⟨by rw [FIN.out.1, FIN.out.2], grew_refl _⟩

theorem bitLen_both (x : Nat) (h0 : 0 < x) (h1 : x < 18446744073709551616) : 1 ≤ Lib.bitLen x ∧ Lib.bitLen x ≤ 64 ∧ 2 ^ (Lib.bitLen x - 1) ≤ x ∧ x < 2 ^ Lib.bitLen x := by
  have a := Lib.bitLen_le x 64 (by omega) h1
  have b := Lib.bitLen_half x (by omega) h1
  refine ⟨by omega, a, ?_, ?_⟩
  · rcases Nat.lt_or_ge x (2 ^ (Lib.bitLen x - 1)) with c | c
    · have := Lib.bitLen_le x (Lib.bitLen x - 1) (by omega) c
      omega
    · exact c
  · rcases Nat.lt_or_ge x (2 ^ Lib.bitLen x) with c | c
    · exact c
    · have e := Lib.bitLen_shift (Lib.bitLen x) x c h1
      have p : 0 < x / 2 ^ Lib.bitLen x := Nat.div_pos c (Nat.two_pow_pos _)
      have q : x / 2 ^ Lib.bitLen x < 2 ^ 64 := Nat.lt_of_le_of_lt (Nat.div_le_self _ _) h1
      have := Lib.bitLen_half (x / 2 ^ Lib.bitLen x) (by omega) q
      omega

theorem div64_any (hi lo y : Int) (w : World) (h0 : 0 ≤ hi) (h1 : hi < y) (h2 : y ≤ 18446744073709551615) (l0 : 0 ≤ lo) (l1 : lo ≤ 18446744073709551615) :
    Calls Try.prog 52 #[.int .u64 hi, .int .u64 lo, .int .u64 y] w fun e w' => e = .returned (.tuple #[.int .u64 ((hi * 18446744073709551616 + lo) / y), .int .u64 ((hi * 18446744073709551616 + lo) % y)]) ∧ Grew w w' := by
  by_cases c : hi = 0
  · subst c
    have e : (0 * 18446744073709551616 + lo : Int) = lo := by omega
    rw [e]
    exact div64_zero lo y w h1 h2 l0 l1
  · obtain ⟨a1, a2, a3, a4⟩ := bitLen_both y.toNat (by omega) (by omega)
    have C := fun w => lz64_any y w (by omega) h2
    have e1 : (63 - (64 - (Lib.bitLen y.toNat : Int))).toNat = Lib.bitLen y.toNat - 1 := by omega
    have e2 : (64 - (64 - (Lib.bitLen y.toNat : Int))).toNat = Lib.bitLen y.toNat := by omega
    exact div64_far hi lo y (64 - (Lib.bitLen y.toNat : Int)) w (by omega) h1 l0 l1 (by omega) (by omega) (by rw [e1, pow_nat]; omega) (by rw [e2, pow_nat]; omega) C
end Go.Proofs.Ytckdbbjeifindaa.NumK
namespace Go.Proofs.Ytckdbbjeifindaa.NumK
open Go.RowKit
theorem grew_every {w : World} {S : World → Prop} (h : ∀ w', Grew w w' → S w') : ∀ p : GrewTo w, S p.to := fun p => h p.to p.h
theorem calls_every {P : Program} {f : FuncId} {args : Array Value} {w : World} {p : GrewTo w} {v : Value}
    (h : ∀ w', Grew w w' → Calls P f args w' fun e w'' => e = .returned v ∧ Grew w' w'') : Calls P f args p.to fun e w'' => e = .returned v ∧ ∃ q : GrewTo w, w'' = q.to := calls_grew (h p.to p.h)
end Go.Proofs.Ytckdbbjeifindaa.NumK
namespace Go.Proofs.Ytckdbbjeifindaa.NumK
open Go.RowKit
set_option linter.unusedVariables false

structure Two {α β : Type} (E : En α) (F : En β) (w : World) (base : Nat) (s t : TypeId) (va vb : Value) (la : List α) (lb : List β) : Prop where
  a : OwnE E w base s va la
  b : OwnE F w base t vb lb
  ne : ∀ g, va.ownBlock = some g → vb.ownBlock ≠ some g

section
variable {α β : Type} {E : En α} {F : En β} {w w' : World} {base : Nat} {s t : TypeId} {va vb : Value} {la : List α} {lb : List β}
theorem Two.nil (E : En α) (F : En β) (w : World) (base : Nat) (s t : TypeId) : Two E F w base s t (.slice none 0 0) (.slice none 0 0) [] [] := ⟨OwnE.nil _ _ _ _, OwnE.nil _ _ _ _, fun g h => by cases h⟩
theorem Two.keep (h : Two E F w base s t va vb la lb) (g : Grew w w') : Two E F w' base s t va vb la lb := ⟨h.a.keep g, h.b.keep g, h.ne⟩
theorem Two.grown (h : Two E F w base s t va vb la lb) {x : List α} {v' : Value} (ho : OwnE E w' base s v' x) (hg : w.grownBy w' va.ownBlock) (hat : ∀ g, v'.ownBlock = some g → va.ownBlock = some g ∨ g = w.heap.size) : Two E F w' base s t v' vb x lb := by
  refine ⟨ho, World.ownsRow.kept h.b hg ?_, fun g h1 h2 => ?_⟩
  · cases hv : vb.ownBlock with
    | none => exact Or.inl rfl
    | some g => exact Or.inr fun e => h.ne g e.symm hv
  · rcases hat g h1 with h3 | h3
    · exact h.ne g h3 h2
    · have := (World.ownsRow.lt h.b g h2).2
      omega
theorem Two.below (h : Two E F w base s t va vb la lb) (hg : w.grownBy w' va.ownBlock) (hb : base ≤ w.heap.size) : Below base w w' := (Below.refl base w).grown hg hb fun k hk => (World.ownsRow.lt h.a k hk).1

end

section
variable {α β : Type} {E : En α} {F : En β} {w : World} {base : Nat} {s t : TypeId} {va vb : Value} {la : List α} {lb : List β} {ops : Array Oper} {rest : List Oper} {o : Oper} {a : Act} {Q : Exit → Act → World → Prop} {K : Act → World → Prop} {X : Prop}
end
/-- A row in another block than the one that was appended to. -/
theorem RowE.grown {α : Type} {E : En α} {w w' : World} {N n : Nat} {l : List α} {row : Option Nat} (h : RowE E w (some ⟨N, 0, none⟩) n l) (g : w.grownBy w' row) (hne : some N ≠ row) : RowE E w' (some ⟨N, 0, none⟩) n l := by
  refine ⟨h.len, fun hn => ?_⟩
  obtain ⟨b, o, e, hb, hc⟩ := h.at hn
  cases e
  exact ⟨N, 0, rfl, Nat.lt_of_lt_of_le hb g.size, fun j hj => ⟨_, rfl, fun i hi => (g.cell_far ⟨N, _, none⟩ hb hne).trans (hc j hj i hi)⟩⟩
theorem Two.far {α β : Type} {E : En α} {F : En β} {w : World} {base : Nat} {s t : TypeId} {va vb : Value} {la : List α} {lb : List β} (h : Two E F w base s t va vb la lb) {N : Nat} (hN : w.heap.size ≤ N) : some N ≠ va.ownBlock ∧ some N ≠ vb.ownBlock :=
  ⟨fun e => by have := (World.ownsRow.lt h.a N e.symm).2; omega, fun e => by have := (World.ownsRow.lt h.b N e.symm).2; omega⟩
end Go.Proofs.Ytckdbbjeifindaa.NumK
namespace Go.Proofs.Ytckdbbjeifindaa.NumK
open Go.RowKit
set_option linter.unusedVariables false

structure Fam {κ α : Type} (E : En α) (w : World) (base : Nat) (t : TypeId) (v : κ → Value) (rows : κ → List α) : Prop where
  own : ∀ k, OwnE E w base t (v k) (rows k)
  ne : ∀ k k', k ≠ k' → ∀ g, (v k).ownBlock = some g → (v k').ownBlock ≠ some g

def upd {κ β : Type} [DecidableEq κ] (f : κ → β) (k : κ) (x : β) : κ → β := fun i => if i = k then x else f i
theorem upd_at {κ β : Type} [DecidableEq κ] (f : κ → β) (k : κ) (x : β) : upd f k x k = x := if_pos rfl
theorem upd_ne {κ β : Type} [DecidableEq κ] (f : κ → β) {k i : κ} (x : β) (h : i ≠ k) : upd f k x i = f i := if_neg h

section
variable {κ α : Type} {E : En α} {w w' : World} {base : Nat} {t : TypeId} {v : κ → Value} {rows : κ → List α}
theorem Fam.nil (E : En α) (w : World) (base : Nat) (t : TypeId) : Fam (κ := κ) E w base t (fun _ => .slice none 0 0) (fun _ => []) := ⟨fun _ => OwnE.nil _ _ _ _, fun _ _ _ g h => by cases h⟩
theorem Fam.keep (h : Fam E w base t v rows) (g : Grew w w') : Fam E w' base t v rows := ⟨fun k => (h.own k).keep g, h.ne⟩
theorem Fam.mono {b2 : Nat} (h : Fam E w base t v rows) (hb : b2 ≤ base) : Fam E w b2 t v rows := ⟨fun k => (h.own k).mono hb, h.ne⟩
theorem Fam.congr {r2 : κ → List α} (h : Fam E w base t v rows) (e : ∀ k, rows k = r2 k) : Fam E w base t v r2 := ⟨fun k => e k ▸ h.own k, h.ne⟩
theorem Fam.kept (h : Fam E w base t v rows) {b : Nat} (hg : w.grownBy w' (some b)) (hb : ∀ k, (v k).ownBlock ≠ some b) : Fam E w' base t v rows :=
  ⟨fun k => World.ownsRow.kept (h.own k) hg (Or.inr (hb k)), h.ne⟩
theorem Fam.below (h : Fam E w base t v rows) (k : κ) (hg : w.grownBy w' (v k).ownBlock) (hb : base ≤ w.heap.size) : Below base w w' := (Below.refl base w).grown hg hb fun i hi => (World.ownsRow.lt (h.own k) i hi).1
theorem Fam.lt (h : Fam E w base t v rows) (k : κ) {g : Nat} (hg : (v k).ownBlock = some g) : base ≤ g ∧ g < w.heap.size := World.ownsRow.lt (h.own k) g hg
end
section
variable {κ α : Type} [DecidableEq κ] {E : En α} {w w' : World} {base : Nat} {t : TypeId} {v : κ → Value} {rows : κ → List α}
theorem Fam.grown (h : Fam E w base t v rows) (k : κ) {x : List α} {v' : Value} (ho : OwnE E w' base t v' x) (hg : w.grownBy w' (v k).ownBlock) (hat : ∀ g, v'.ownBlock = some g → (v k).ownBlock = some g ∨ g = w.heap.size) :
    Fam E w' base t (upd v k v') (upd rows k x) := by
  have hk : ∀ i, i ≠ k → ∀ g, v'.ownBlock = some g → (v i).ownBlock ≠ some g := fun i hi g h1 h2 => by
    rcases hat g h1 with h3 | h3
    · exact h.ne i k hi g h2 h3
    · have := (World.ownsRow.lt (h.own i) g h2).2; omega
  refine ⟨fun i => ?_, fun i j hij g h1 h2 => ?_⟩
  · by_cases e : i = k
    · subst e; rw [upd_at, upd_at]; exact ho
    · rw [upd_ne _ _ e, upd_ne _ _ e]
      refine World.ownsRow.kept (h.own i) hg ?_
      cases hv : (v i).ownBlock with
      | none => exact Or.inl rfl
      | some g => exact Or.inr fun e2 => h.ne i k e g hv e2.symm
  · by_cases e1 : i = k
    · subst e1
      rw [upd_at] at h1
      rw [upd_ne _ _ (Ne.symm hij)] at h2
      exact hk j (Ne.symm hij) g h1 h2
    · rw [upd_ne _ _ e1] at h1
      by_cases e2 : j = k
      · subst e2
        rw [upd_at] at h2
        exact hk i e1 g h2 h1
      · rw [upd_ne _ _ e2] at h2
        exact h.ne i j hij g h1 h2
end

section
variable {κ α : Type} [DecidableEq κ] {E : En α} {w : World} {base : Nat} {t : TypeId} {v : κ → Value} {rows : κ → List α} {ops : Array Oper} {rest : List Oper} {o : Oper} {a : Act} {Q : Exit → Act → World → Prop} {K : Act → World → Prop} {X : Prop}
end
/-- A cell of a block that no row of the family lies in. -/
theorem Fam.far {κ α : Type} {E : En α} {w w' : World} {base : Nat} {t : TypeId} {v : κ → Value} {rows : κ → List α} (h : Fam E w base t v rows) {k : κ} (hg : w.grownBy w' (v k).ownBlock) {b : Nat} (hb : b < w.heap.size) (hne : b < base) (i : Nat) :
    w'.cell? ⟨b, i, none⟩ = w.cell? ⟨b, i, none⟩ ∧ w'.frozen? ⟨b, i, none⟩ = w.frozen? ⟨b, i, none⟩ := by
  have hn : some b ≠ (v k).ownBlock := fun e => by have := (World.ownsRow.lt (h.own k) b e.symm).1; omega
  exact ⟨hg.cell_far ⟨b, i, none⟩ hb hn, hg.frozen_far ⟨b, i, none⟩ hb hn⟩
end Go.Proofs.Ytckdbbjeifindaa.NumK
namespace Go.Proofs.Ytckdbbjeifindaa.NumK
open Go.RowKit
set_option linter.unusedVariables false

def enInt : En Int := ⟨1, fun n => [.int .i64 n], fun _ => rfl, fun n v hv => by simp at hv; rw [hv]; rfl, by decide⟩
theorem info_int1 : (Try.prog.info? 3).map (fun i => (i.zero, i.size, i.bytes)) = some (some (.int .i64 0), 1, 8) := by kernel_rfl
theorem ints_of_E {w : World} {A : Option Addr} {n : Nat} {l : List Int} (h : RowE enInt w A n l) : Ints w A n l := by
  refine ⟨h.len, fun hn => ?_⟩
  obtain ⟨b, o, e, hb, hc⟩ := h.at hn
  refine ⟨b, o, e, hb, fun j hj => ?_⟩
  have hj2 : j < l.length := by rw [h.len]; exact hj
  have := hc j hj2 0 (by decide)
  rw [show o + j * enInt.size + 0 = o + j by show o + j * 1 + 0 = _; omega] at this
  rw [this]
  simp [enInt, List.getD, hj2]

end Go.Proofs.Ytckdbbjeifindaa.NumK
