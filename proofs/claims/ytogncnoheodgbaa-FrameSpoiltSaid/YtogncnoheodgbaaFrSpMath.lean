/- A frame of which some bytes in a row are turned: what becomes of its bytes, and that it is none any more. -/
import Derived.Test.YtogncnoheodgbaaFrameE
namespace Go.Proofs.Ytogncnoheodgbaa.NumK
open Go.RowKit

theorem add_xor (b n k : Nat) (h : b < 2 ^ k) : b + 2 ^ k * n = b ^^^ (n * 2 ^ k) := by
  apply Nat.eq_of_testBit_eq
  intro j
  rw [Nat.testBit_xor, Nat.add_comm, Nat.testBit_two_pow_mul_add _ h, Nat.testBit_mul_two_pow]
  by_cases hj : j < k
  · have h8 : ¬ k ≤ j := by omega
    simp [hj, h8]
  · have : b.testBit j = false := Nat.testBit_lt_two_pow (Nat.lt_of_lt_of_le h (Nat.pow_le_pow_right (by omega) (by omega)))
    rw [this]; simp [hj]; omega
theorem p256 (i : Nat) : 256 ^ i = 2 ^ (8 * i) := by rw [show (256 : Nat) = 2 ^ 8 from rfl, ← Nat.pow_mul]
/-- One byte more. -/
theorem mod_more (X i : Nat) : X % 256 ^ (i + 1) = X % 256 ^ i + 256 ^ i * (UInt8.ofNat (X / 256 ^ i)).toNat := by
  rw [u8_ofNat_mod, Nat.pow_succ, Nat.mod_mul]
theorem mod_more_xor (X i k : Nat) : (X % 256 ^ (i + 1)) * 2 ^ (8 * k) = (X % 256 ^ i) * 2 ^ (8 * k) ^^^ (UInt8.ofNat (X / 256 ^ i)).toNat * 2 ^ (8 * (k + i)) := by
  rw [mod_more, p256, add_xor _ _ (8 * i) (Nat.mod_lt _ (Nat.two_pow_pos _)), ← Nat.shiftLeft_eq, Nat.shiftLeft_xor_distrib, Nat.shiftLeft_eq, Nat.shiftLeft_eq, Nat.mul_assoc, ← Nat.pow_add, show 8 * i + 8 * k = 8 * (k + i) by omega]
theorem turned_more (X i : Nat) : decide (X % 256 ^ (i + 1) ≠ 0) = (decide (X % 256 ^ i ≠ 0) || ((((UInt8.ofNat (X / 256 ^ i)).toNat : Nat) : Int) != 0)) := by
  rw [mod_more]
  have hp : 0 < 256 ^ i := Nat.pow_pos (by omega)
  generalize (UInt8.ofNat (X / 256 ^ i)).toNat = c
  generalize X % 256 ^ i = y
  generalize 256 ^ i = p at *
  by_cases h1 : y = 0
  · by_cases h2 : c = 0
    · simp [h1, h2]
    · have : p * c ≠ 0 := by
        intro e
        rcases Nat.mul_eq_zero.1 e with e | e <;> omega
      simp [h1, h2, this]
  · simp [h1]

/-- The bytes lst are those of F but for i bytes from k on, which have taken on those of X. -/
def Chg (F lst : List UInt8) (off k i X : Nat) : Prop :=
  lst.length = F.length ∧ lst.getD 0 0 = F.getD 0 0 ∧ (lst.drop 13).take 8 = (F.drop 13).take 8 ∧ leN (msgB lst) = leN (msgB F) ^^^ ((X % 256 ^ i) * 2 ^ (8 * (k - off)))
theorem Chg.zero (F : List UInt8) (off k X : Nat) : Chg F F off k 0 X := ⟨rfl, rfl, rfl, by simp [Nat.mod_one]⟩
def Part (off j n : Nat) : Prop := (off = 1 ∧ 1 ≤ j ∧ j < 13) ∨ (off = 5 ∧ 21 ≤ j ∧ j < n)
theorem take_set_ge (l : List UInt8) (i n : Nat) (v : UInt8) (h : n ≤ i) : (l.set i v).take n = l.take n := by
  rw [List.take_set, List.set_eq_of_length_le (by simp; omega)]
theorem msgB_set (l : List UInt8) (off j : Nat) (v : UInt8) (h21 : 21 ≤ l.length) (hp : Part off j l.length) : msgB (l.set j v) = (msgB l).set (j - off) v ∧ (msgB l).getD (j - off) 0 = l.getD j 0 ∧ j - off < (msgB l).length ∧ ((l.set j v).drop 13).take 8 = (l.drop 13).take 8 ∧ (l.set j v).getD 0 0 = l.getD 0 0 := by
  have hl : (msgB l).length = l.length - 5 := by simp [msgB]; omega
  have hA : ((l.drop 1).take 16).length = 16 := by simp; omega
  rcases hp with ⟨rfl, h1, h2⟩ | ⟨rfl, h1, h2⟩
  · refine ⟨?_, ?_, by omega, ?_, ?_⟩
    · unfold msgB
      rw [List.drop_set, if_neg (by omega), List.drop_set, if_pos (by omega), List.take_set, List.set_append_left _ _ (by omega)]
    · unfold msgB
      simp only [List.getD_eq_getElem?_getD]
      rw [List.getElem?_append_left (by omega), List.getElem?_take, if_pos (by omega), List.getElem?_drop, show 1 + (j - 1) = j by omega]
    · rw [List.drop_set, if_pos (by omega)]
    · simp only [List.getD_eq_getElem?_getD]
      rw [List.getElem?_set_ne (by omega)]
  · refine ⟨?_, ?_, by omega, ?_, ?_⟩
    · unfold msgB
      rw [List.drop_set, if_neg (by omega), List.drop_set, if_neg (by omega), take_set_ge _ _ _ _ (by omega), List.set_append_right _ _ (by omega), hA, show j - 5 - 16 = j - 21 by omega]
    · unfold msgB
      simp only [List.getD_eq_getElem?_getD]
      rw [List.getElem?_append_right (by omega), hA, List.getElem?_drop, show 21 + (j - 5 - 16) = j by omega]
    · rw [List.drop_set, if_neg (by omega), take_set_ge _ _ _ _ (by omega)]
    · simp only [List.getD_eq_getElem?_getD]
      rw [List.getElem?_set_ne (by omega)]
theorem Chg.step {F lst : List UInt8} {off k i X : Nat} (h : Chg F lst off k i X) (h21 : 21 ≤ F.length) (hk : off ≤ k) (hp : Part off (k + i) F.length) :
    Chg F (lst.set (k + i) (lst.getD (k + i) 0 ^^^ UInt8.ofNat (X / 256 ^ i))) off k (i + 1) X := by
  obtain ⟨h1, h2, h3, h4⟩ := h
  obtain ⟨e1, e2, e3, e4, e5⟩ := msgB_set lst off (k + i) (lst.getD (k + i) 0 ^^^ UInt8.ofNat (X / 256 ^ i)) (by omega) (by rw [h1]; exact hp)
  refine ⟨by rw [List.length_set]; exact h1, by rw [e5]; exact h2, by rw [e4]; exact h3, ?_⟩
  rw [e1, ← e2, leN_set _ _ _ e3, h4, Nat.xor_assoc, mod_more_xor, show k + i - off = k - off + i by omega]

theorem spoilt_none {gen no : Nat} {l lst : List UInt8} {off k m B S : Nat} (hg : gen ≤ 1099511627776) (hn : no ≤ 2147483647) (hp : l.length ≤ 65536) (h : Chg (frameB gen no l) lst off k m (B * 2 ^ S)) (hpt : Part off k (frameB gen no l).length) (hB : B < 4294967296) (hS : S < 8) (hm : 0 < m) (ht : (B * 2 ^ S) % 256 ^ m ≠ 0) : frs lst = none := by
  obtain ⟨h1, h2, h3, h4⟩ := h
  cases e : frs lst with
  | none => rfl
  | some x =>
    exfalso
    obtain ⟨g, mm, s⟩ := x
    obtain ⟨a1, _, _, _, _, a5, a6⟩ := frs_some e
    have hf := (frs_frame gen no l [] hg hn hp).1
    rw [List.append_nil] at hf
    obtain ⟨b1, _, _, _, _, b5, b6⟩ := frs_some hf
    have hFl := frameB_len gen no l
    have t4 : ∀ x : List UInt8, (x.drop 13).take 4 = ((x.drop 13).take 8).take 4 := fun x => by rw [List.take_take]; rfl
    have d4 : ∀ x : List UInt8, (x.drop 17).take 4 = ((x.drop 13).take 8).drop 4 := fun x => by rw [List.drop_take, List.drop_drop]
    have hs : s = l.length := by rw [← a5, ← b5, t4, t4, h3]
    subst hs
    have m1 : (lst.drop 1).take 16 ++ (lst.drop 21).take l.length = msgB lst := by
      unfold msgB; rw [List.take_of_length_le (l := lst.drop 21) (by simp; omega)]
    have m2 : ((frameB gen no l).drop 1).take 16 ++ ((frameB gen no l).drop 21).take l.length = msgB (frameB gen no l) := by
      unfold msgB; rw [List.take_of_length_le (l := (frameB gen no l).drop 21) (by simp; omega)]
    rw [m1, d4, h3, ← d4, b6, m2] at a6
    obtain ⟨_, _, e3, _⟩ := msgB_set (frameB gen no l) off k 0 (by omega) hpt
    have hlen : (msgB lst).length = (msgB (frameB gen no l)).length := by simp [msgB]; omega
    have hX : (B * 2 ^ S) % 256 ^ m = (B % 2 ^ (8 * m - S)) * 2 ^ S := by
      rw [p256, show 8 * m = (8 * m - S) + S by omega, Nat.pow_add, Nat.mul_mod_mul_right, show 8 * m - S + S - S = 8 * m - S by omega]
    rw [hX] at ht h4
    refine crc_burst (msgB (frameB gen no l)) (msgB lst) (B % 2 ^ (8 * m - S)) (S + 8 * (k - off)) hlen (Nat.lt_of_le_of_lt (Nat.mod_le _ _) hB) (fun h0 => ht (by rw [h0, Nat.zero_mul])) (by omega) ?_ a6.symm
    rw [h4, Nat.mul_assoc, ← Nat.pow_add]
end Go.Proofs.Ytogncnoheodgbaa.NumK
