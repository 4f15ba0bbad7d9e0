/- A digit of a long division, in numbers; shifts and masks of 64 bits. -/
import Derived.Test.YtkkemmfghjgmeaaWide0
namespace Go.Proofs.Ytkkemmfghjgmeaa.NumK
open Go.RowKit

/-- y1 and y0 are the halves of what divides, u the rest so far, d the next digit, q and r the guess: q is not below the digit that is looked for. -/
def Dig (y1 y0 u d q r : Int) : Prop := q * y1 + r = u ∧ u * 4294967296 + d < (q + 1) * (y1 * 4294967296 + y0) ∧ 0 ≤ r ∧ 0 ≤ q ∧ q ≤ 4294967297

theorem dig_start (y1 y0 u d q : Int) (h1 : 2147483648 ≤ y1) (h3 : 0 ≤ y0) (h4 : y0 < 4294967296) (h5 : 0 ≤ u) (h6 : u < y1 * 4294967296 + y0) (h8 : d < 4294967296) (hq : q = u / y1) :
    Dig y1 y0 u d q (u - q * y1) ∧ u - q * y1 < y1 := by
  have e1 := Int.mul_ediv_add_emod u y1
  have e2 := Int.emod_nonneg u (show y1 ≠ 0 by omega)
  have e3 := Int.emod_lt_of_pos u (show 0 < y1 by omega)
  have e4 : 0 ≤ q := by rw [hq]; exact Int.ediv_nonneg h5 (by omega)
  rw [← hq, Int.mul_comm] at e1
  have e5 : q ≤ 4294967297 := by
    rcases Int.lt_or_le 4294967297 q with h | h
    · have : 4294967298 * y1 ≤ q * y1 := Int.mul_le_mul_of_nonneg_right h (by omega)
      omega
    · exact h
  have e6 : (q + 1) * (y1 * 4294967296 + y0) = q * y1 * 4294967296 + y1 * 4294967296 + (q + 1) * y0 := by grind
  have e7 : 0 ≤ (q + 1) * y0 := Int.mul_nonneg (by omega) h3
  refine ⟨⟨by omega, ?_, by omega, e4, e5⟩, by omega⟩
  rw [e6]
  generalize (q + 1) * y0 = A at *
  generalize q * y1 = B at *
  omega

theorem dig_pos (y1 y0 u d q r p : Int) (h3 : 0 ≤ d) (D : Dig y1 y0 u d q r) (hp : p = q * y0) (h : 4294967296 ≤ q ∨ 4294967296 * r + d < p) : 1 ≤ q := by
  obtain ⟨_, _, d3, d4, _⟩ := D
  rcases h with h | h
  · omega
  · rcases Int.lt_or_le q 1 with c | c
    · have : q = 0 := by omega
      subst this
      omega
    · exact c

theorem dig_next (y1 y0 u d q r p : Int) (h1 : 0 ≤ y1) (h0 : 0 ≤ u) (h5 : u < y1 * 4294967296 + y0) (h8 : d < 4294967296) (h6 : 0 ≤ d) (D : Dig y1 y0 u d q r) (hp : p = q * y0) (h : 4294967296 ≤ q ∨ 4294967296 * r + d < p) : Dig y1 y0 u d (q - 1) (r + y1) := by
  have hq := dig_pos y1 y0 u d q r p h6 D hp h
  obtain ⟨d1, d2, d3, d4, d5⟩ := D
  refine ⟨by rw [Int.sub_mul]; omega, ?_, by omega, by omega, by omega⟩
  have e : q - 1 + 1 = q := by omega
  rw [e]
  rcases h with h | h
  · have h9 : 4294967296 * (y1 * 4294967296 + y0) ≤ q * (y1 * 4294967296 + y0) := Int.mul_le_mul_of_nonneg_right h (by omega)
    omega
  · have e6 : q * (y1 * 4294967296 + y0) = q * y1 * 4294967296 + p := by rw [hp]; grind
    rw [e6]
    generalize q * y1 = B at *
    omega

theorem dig_quit (y1 y0 u d q r : Int) (h0 : 0 ≤ u) (h5 : u < y1 * 4294967296 + y0) (D : Dig y1 y0 u d q r) (h : q * (y1 * 4294967296 + y0) ≤ u * 4294967296 + d) :
    q = (u * 4294967296 + d) / (y1 * 4294967296 + y0) ∧ u * 4294967296 + d - q * (y1 * 4294967296 + y0) = (u * 4294967296 + d) % (y1 * 4294967296 + y0) := by
  obtain ⟨_, d2, _⟩ := D
  generalize y1 * 4294967296 + y0 = Y at *
  generalize u * 4294967296 + d = N at *
  rw [Int.add_mul] at d2
  have := (Int.ediv_emod_unique (a := N) (b := Y) (r := N - q * Y) (q := q) (by omega)).2 ⟨by rw [Int.mul_comm]; omega, by omega, by omega⟩
  exact ⟨this.1.symm, this.2.symm⟩

theorem dig_exit (y1 y0 u d q r p : Int) (h0 : 0 ≤ u) (h5 : u < y1 * 4294967296 + y0) (D : Dig y1 y0 u d q r) (hp : p = q * y0) (h : p ≤ 4294967296 * r + d) :
    q = (u * 4294967296 + d) / (y1 * 4294967296 + y0) ∧ u * 4294967296 + d - q * (y1 * 4294967296 + y0) = (u * 4294967296 + d) % (y1 * 4294967296 + y0) := by
  refine dig_quit y1 y0 u d q r h0 h5 D ?_
  obtain ⟨d1, _⟩ := D
  have e6 : q * (y1 * 4294967296 + y0) = q * y1 * 4294967296 + p := by rw [hp]; grind
  rw [e6]
  generalize q * y1 = B at *
  omega

theorem dig_break (y1 y0 u d q r : Int) (h0 : 0 ≤ u) (h3 : 0 ≤ y0) (h4 : y0 < 4294967296) (h6 : 0 ≤ d) (h5 : u < y1 * 4294967296 + y0) (D : Dig y1 y0 u d q r) (hq : q ≤ 4294967296) (h : 4294967296 ≤ r) :
    q = (u * 4294967296 + d) / (y1 * 4294967296 + y0) ∧ u * 4294967296 + d - q * (y1 * 4294967296 + y0) = (u * 4294967296 + d) % (y1 * 4294967296 + y0) := by
  refine dig_exit y1 y0 u d q r (q * y0) h0 h5 D rfl ?_
  obtain ⟨_, _, _, d4, _⟩ := D
  have : q * y0 ≤ 4294967296 * 4294967295 := Int.mul_le_mul hq (by omega) h3 (by omega)
  omega

/-! ### shifts and masks of 64 bits -/
theorem maskI (x : Int) (h0 : 0 ≤ x) (h1 : x < 18446744073709551616) : bits .and .u64 x 4294967295 = x % 4294967296 := by
  obtain ⟨a, rfl⟩ := Int.eq_ofNat_of_zero_le h0
  have h := bits_and_u64_nat a 4294967295 (by omega) (by omega)
  have e : a &&& 4294967295 = a % 4294967296 := Nat.and_two_pow_sub_one_eq_mod a 32
  rw [e] at h
  exact h

theorem or_shift (a b s : Nat) (hb : b < 2 ^ s) (ha : a * 2 ^ s < 18446744073709551616) (hb2 : b < 18446744073709551616) : bits .or .u64 ((a * 2 ^ s : Nat) : Int) (b : Int) = ((a * 2 ^ s + b : Nat) : Int) := by
  have h := bits_or_u64_nat (a * 2 ^ s) b ha hb2
  rw [h, ← Nat.shiftLeft_eq, ← Nat.shiftLeft_add_eq_or_of_lt hb]
end Go.Proofs.Ytkkemmfghjgmeaa.NumK
