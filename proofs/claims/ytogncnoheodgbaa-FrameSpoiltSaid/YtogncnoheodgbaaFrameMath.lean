/- The register of CRC-32 as a number, numbers as bytes, frames as lists of bytes. -/
import Derived.Test.YtogncnoheodgbaaBytes
namespace Go.Proofs.Ytogncnoheodgbaa.NumK
open Go.RowKit

/-! ### the register -/
def poly : Nat := 3988292384
def stp (c : Nat) : Nat := c / 2 ^^^ (if c % 2 = 1 then poly else 0)
def stps : Nat → Nat → Nat
  | 0, c => c
  | n + 1, c => stps n (stp c)
def shB (r : Nat) (b : UInt8) : Nat := stps 8 (r ^^^ b.toNat)
def crcF (r : Nat) (l : List UInt8) : Nat := l.foldl shB r
def crc (l : List UInt8) : Nat := crcF 4294967295 l ^^^ 4294967295

theorem stp_xor (a b : Nat) : stp (a ^^^ b) = stp a ^^^ stp b := by
  unfold stp
  have h1 : (a ^^^ b) / 2 = a / 2 ^^^ b / 2 := by
    have := Nat.shiftRight_xor_distrib (a := a) (b := b) (i := 1)
    simpa [Nat.shiftRight_eq_div_pow] using this
  have h2 : (a ^^^ b) % 2 = (a % 2 + b % 2) % 2 := by
    have := Nat.xor_mod_two_pow (a := a) (b := b) (n := 1)
    rw [Nat.pow_one] at this
    rw [this]
    have ha : a % 2 = 0 ∨ a % 2 = 1 := by omega
    have hb : b % 2 = 0 ∨ b % 2 = 1 := by omega
    rcases ha with ha | ha <;> rcases hb with hb | hb <;> rw [ha, hb] <;> rfl
  rw [h1, h2]
  have ha : a % 2 = 0 ∨ a % 2 = 1 := by omega
  have hb : b % 2 = 0 ∨ b % 2 = 1 := by omega
  rcases ha with ha | ha <;> rcases hb with hb | hb <;> simp [ha, hb]
  · rw [Nat.xor_assoc]
  · rw [Nat.xor_assoc, Nat.xor_assoc, Nat.xor_comm poly]
  · rw [Nat.xor_assoc, Nat.xor_comm poly, Nat.xor_assoc, Nat.xor_self, Nat.xor_zero]
theorem xor_zero_eq {a b : Nat} (h : a ^^^ b = 0) : a = b := by
  have := congrArg (· ^^^ b) h
  simpa [Nat.xor_assoc] using this
theorem stps_xor (n a b : Nat) : stps n (a ^^^ b) = stps n a ^^^ stps n b := by
  induction n generalizing a b with
  | zero => rfl
  | succ n ih => unfold stps; rw [stp_xor, ih]
theorem stps_add (m n a : Nat) : stps (m + n) a = stps n (stps m a) := by
  induction m generalizing a with
  | zero => rw [Nat.zero_add]; rfl
  | succ m ih => rw [Nat.succ_add]; show stps (m + n) (stp a) = stps n (stps m (stp a)); exact ih _
theorem stps_succ (n a : Nat) : stps (n + 1) a = stp (stps n a) := by
  rw [stps_add]; rfl
theorem stps_mul (n y : Nat) : stps n (y * 2 ^ n) = y := by
  induction n with
  | zero => simp [stps]
  | succ n ih =>
    unfold stps
    have : stp (y * 2 ^ (n + 1)) = y * 2 ^ n := by
      unfold stp
      rw [Nat.pow_succ, ← Nat.mul_assoc]
      simp
    rw [this, ih]
theorem stp_lt {c : Nat} (h : c < 4294967296) : stp c < 4294967296 := by
  unfold stp
  refine Nat.xor_lt_two_pow (n := 32) (by omega) ?_
  split <;> decide
theorem stps_lt {c : Nat} (h : c < 4294967296) (n : Nat) : stps n c < 4294967296 := by
  induction n generalizing c with
  | zero => exact h
  | succ n ih => exact ih (stp_lt h)
theorem stp_pos {c : Nat} (h : c < 4294967296) (h0 : c ≠ 0) : stp c ≠ 0 := by
  unfold stp
  intro e
  have e2 := xor_zero_eq e
  split at e2
  · have : c / 2 < 2147483648 := by omega
    rw [e2] at this
    exact absurd this (by decide)
  · omega
theorem stps_pos {c : Nat} (h : c < 4294967296) (h0 : c ≠ 0) (n : Nat) : stps n c ≠ 0 := by
  induction n generalizing c with
  | zero => exact h0
  | succ n ih => exact ih (stp_lt h) (stp_pos h h0)
theorem shB_lt {r : Nat} (h : r < 4294967296) (b : UInt8) : shB r b < 4294967296 := stps_lt (Nat.xor_lt_two_pow (n := 32) h (by have := b.toNat_lt; omega)) 8
theorem crcF_lt {r : Nat} (h : r < 4294967296) (l : List UInt8) : crcF r l < 4294967296 := by
  induction l generalizing r with
  | nil => exact h
  | cons b l ih => exact ih (shB_lt h b)
theorem crc_lt (l : List UInt8) : crc l < 4294967296 := Nat.xor_lt_two_pow (n := 32) (crcF_lt (by omega) l) (by omega)
theorem crcF_append (r : Nat) (l m : List UInt8) : crcF r (l ++ m) = crcF (crcF r l) m := by unfold crcF; rw [List.foldl_append]
theorem crcF_snoc (r : Nat) (l : List UInt8) (c : UInt8) : crcF r (l ++ [c]) = shB (crcF r l) c := by unfold crcF; rw [List.foldl_append]; rfl

/-! ### the whole as one number -/
def leN : List UInt8 → Nat
  | [] => 0
  | b :: l => b.toNat + 256 * leN l
theorem low_xor (b n : Nat) (h : b < 256) : b + 256 * n = b ^^^ (n * 2 ^ 8) := by
  apply Nat.eq_of_testBit_eq
  intro j
  rw [Nat.testBit_xor, Nat.add_comm, show 256 * n = 2 ^ 8 * n from rfl, Nat.testBit_two_pow_mul_add _ (show b < 2 ^ 8 from h), Nat.testBit_mul_two_pow]
  by_cases hj : j < 8
  · have h8 : ¬ 8 ≤ j := by omega
    simp [hj, h8]
  · have : b.testBit j = false := Nat.testBit_lt_two_pow (Nat.lt_of_lt_of_le h (show 2 ^ 8 ≤ 2 ^ j from Nat.pow_le_pow_right (by omega) (by omega)))
    rw [this]; simp [hj]; omega
theorem crcF_le (l : List UInt8) (r : Nat) : crcF r l = stps (8 * l.length) (r ^^^ leN l) := by
  induction l generalizing r with
  | nil => simp [crcF, leN, stps]
  | cons b l ih =>
    have : crcF r (b :: l) = crcF (shB r b) l := rfl
    rw [this, ih, List.length_cons, show 8 * (l.length + 1) = 8 + 8 * l.length by omega, stps_add]
    congr 1
    have : leN (b :: l) = b.toNat + 256 * leN l := rfl
    rw [this, low_xor _ _ b.toNat_lt, ← Nat.xor_assoc, stps_xor, stps_mul]
    rfl
theorem leN_set (l : List UInt8) (k : Nat) (c : UInt8) (hk : k < l.length) : leN (l.set k (l.getD k 0 ^^^ c)) = leN l ^^^ (c.toNat * 2 ^ (8 * k)) := by
  induction l generalizing k with
  | nil => simp at hk
  | cons b l ih =>
    cases k with
    | zero =>
      simp only [List.set_cons_zero, List.getD_cons_zero, leN, Nat.mul_zero, Nat.pow_zero, Nat.mul_one]
      rw [low_xor _ _ (UInt8.toNat_lt _), low_xor _ _ b.toNat_lt, UInt8.toNat_xor, Nat.xor_assoc, Nat.xor_assoc, Nat.xor_comm c.toNat]
    | succ k =>
      simp only [List.set_cons_succ, List.getD_cons_succ, leN]
      rw [ih k (by simpa using hk), low_xor _ _ b.toNat_lt, low_xor _ _ b.toNat_lt, Nat.xor_assoc]
      congr 1
      rw [← Nat.shiftLeft_eq, ← Nat.shiftLeft_eq, Nat.shiftLeft_xor_distrib]
      simp only [Nat.shiftLeft_eq]
      rw [Nat.mul_assoc, ← Nat.pow_add, show 8 * k + 8 = 8 * (k + 1) by omega]
/-- A difference of 32 bits in a row tells. -/
theorem crc_burst (l m : List UInt8) (B j : Nat) (hl : m.length = l.length) (hB : B < 4294967296) (h0 : B ≠ 0) (hj : j ≤ 8 * l.length) (h : leN m = leN l ^^^ (B * 2 ^ j)) : crc m ≠ crc l := by
  unfold crc
  intro e
  have e1 : crcF 4294967295 m = crcF 4294967295 l := by
    have := congrArg (· ^^^ 4294967295) e
    simpa [Nat.xor_assoc] using this
  rw [crcF_le, crcF_le, h, hl, ← Nat.xor_assoc, stps_xor] at e1
  have e2 : stps (8 * l.length) (B * 2 ^ j) = 0 := by
    have := congrArg (stps (8 * l.length) (4294967295 ^^^ leN l) ^^^ ·) e1
    simpa [← Nat.xor_assoc] using this
  obtain ⟨d, hd⟩ : ∃ d, 8 * l.length = j + d := ⟨8 * l.length - j, by omega⟩
  rw [hd, stps_add, stps_mul] at e2
  exact stps_pos hB h0 d e2

/-! ### numbers as bytes, the highest first -/
def be : Nat → Nat → List UInt8
  | _, 0 => []
  | n, k + 1 => UInt8.ofNat (n / 256 ^ k) :: be n k
def numF (r : Nat) (l : List UInt8) : Nat := l.foldl (fun n c => n * 256 + c.toNat) r
def num (l : List UInt8) : Nat := numF 0 l
theorem be_len (n k : Nat) : (be n k).length = k := by
  induction k with
  | zero => rfl
  | succ k ih => simp [be, ih]
theorem numF_snoc (r : Nat) (l : List UInt8) (c : UInt8) : numF r (l ++ [c]) = numF r l * 256 + c.toNat := by unfold numF; rw [List.foldl_append]; rfl
theorem num_lt (l : List UInt8) : num l < 256 ^ l.length := by
  have : ∀ (l : List UInt8) (r : Nat), numF r l < (r + 1) * 256 ^ l.length := by
    intro l
    induction l with
    | nil => intro r; simp [numF]
    | cons b l ih =>
      intro r
      have h := ih (r * 256 + b.toNat)
      have hb := b.toNat_lt
      rw [List.length_cons, Nat.pow_succ]
      refine Nat.lt_of_lt_of_le h ?_
      rw [Nat.mul_comm (256 ^ _) 256, ← Nat.mul_assoc]
      exact Nat.mul_le_mul_right _ (by omega)
  have := this l 0
  simpa [num] using this
theorem u8_ofNat_mod (n : Nat) : (UInt8.ofNat n).toNat = n % 256 := by simp
theorem numF_be (r n k : Nat) : numF r (be n k) = r * 256 ^ k + n % 256 ^ k := by
  induction k generalizing r with
  | zero => simp [be, numF, Nat.mod_one]
  | succ k ih =>
    have : numF r (be n (k + 1)) = numF (r * 256 + (UInt8.ofNat (n / 256 ^ k)).toNat) (be n k) := rfl
    rw [this, ih, u8_ofNat_mod, Nat.add_mul, Nat.pow_succ, Nat.mod_mul, Nat.mul_comm (256 ^ k) 256, ← Nat.mul_assoc, Nat.mul_comm (n / 256 ^ k % 256), Nat.add_assoc, Nat.add_comm (256 ^ k * _)]
theorem num_be {n k : Nat} (h : n < 256 ^ k) : num (be n k) = n := by
  unfold num
  rw [numF_be, Nat.mod_eq_of_lt h]; omega

/-! ### frames -/
def headB (gen no n : Nat) : List UInt8 := be gen 8 ++ be no 4 ++ be n 4
def frameB (gen no : Nat) (p : List UInt8) : List UInt8 := 195 :: headB gen no p.length ++ be (crc (headB gen no p.length ++ p)) 4 ++ p
theorem headB_len (gen no n : Nat) : (headB gen no n).length = 16 := by simp [headB, be_len]
theorem frameB_len (gen no : Nat) (p : List UInt8) : (frameB gen no p).length = p.length + 21 := by simp [frameB, headB_len, be_len]; omega

/-- The generation, number, length of the payload of the frame that bytes begin with. -/
def frs (b : List UInt8) : Option (Nat × Nat × Nat) :=
  if b.length < 21 ∨ b.getD 0 0 ≠ 195 then none else
  if 1099511627776 < num ((b.drop 1).take 8) ∨ 2147483647 < num ((b.drop 9).take 4) ∨ 65536 < num ((b.drop 13).take 4) then none else
  if b.length < 21 + num ((b.drop 13).take 4) ∨ num ((b.drop 17).take 4) ≠ crc ((b.drop 1).take 16 ++ (b.drop 21).take (num ((b.drop 13).take 4))) then none else
  some (num ((b.drop 1).take 8), num ((b.drop 9).take 4), num ((b.drop 13).take 4))

theorem take_drop_mid (a m z : List UInt8) (i n : Nat) (ha : a.length = i) (hm : m.length = n) : ((a ++ (m ++ z)).drop i).take n = m := by
  subst ha; subst hm; simp
theorem frs_frame (gen no : Nat) (p more : List UInt8) (hg : gen ≤ 1099511627776) (hn : no ≤ 2147483647) (hp : p.length ≤ 65536) :
    frs (frameB gen no p ++ more) = some (gen, no, p.length) ∧ ((frameB gen no p ++ more).drop 21).take p.length = p := by
  have hl := frameB_len gen no p
  have hc := crc_lt (headB gen no p.length ++ p)
  have e0 : frameB gen no p ++ more = [195] ++ (be gen 8 ++ (be no 4 ++ (be p.length 4 ++ (be (crc (headB gen no p.length ++ p)) 4 ++ (p ++ more))))) := by
    simp [frameB, headB, List.append_assoc]
  have d1 : ((frameB gen no p ++ more).drop 1).take 8 = be gen 8 := by rw [e0]; exact take_drop_mid _ _ _ 1 8 rfl (be_len _ _)
  have d2 : ((frameB gen no p ++ more).drop 9).take 4 = be no 4 := by
    rw [e0, ← List.append_assoc]; exact take_drop_mid _ _ _ 9 4 (by simp [be_len]) (be_len _ _)
  have d3 : ((frameB gen no p ++ more).drop 13).take 4 = be p.length 4 := by
    rw [e0, ← List.append_assoc, ← List.append_assoc]; exact take_drop_mid _ _ _ 13 4 (by simp [be_len]) (be_len _ _)
  have d4 : ((frameB gen no p ++ more).drop 17).take 4 = be (crc (headB gen no p.length ++ p)) 4 := by
    rw [e0, ← List.append_assoc, ← List.append_assoc, ← List.append_assoc]; exact take_drop_mid _ _ _ 17 4 (by simp [be_len]) (be_len _ _)
  have d5 : ((frameB gen no p ++ more).drop 21).take p.length = p := by
    rw [e0, ← List.append_assoc, ← List.append_assoc, ← List.append_assoc, ← List.append_assoc]; exact take_drop_mid _ _ _ 21 _ (by simp [be_len]) rfl
  have d6 : ((frameB gen no p ++ more).drop 1).take 16 = headB gen no p.length := by
    have e1 : frameB gen no p ++ more = [195] ++ (headB gen no p.length ++ (be (crc (headB gen no p.length ++ p)) 4 ++ (p ++ more))) := by simp [frameB, List.append_assoc]
    rw [e1]; exact take_drop_mid _ _ _ 1 16 rfl (headB_len _ _ _)
  refine ⟨?_, d5⟩
  unfold frs
  have l0 : ¬ ((frameB gen no p ++ more).length < 21 ∨ (frameB gen no p ++ more).getD 0 0 ≠ 195) := by
    rw [List.length_append, hl, not_or]
    refine ⟨by omega, ?_⟩
    rw [e0]; simp
  rw [if_neg l0, d1, d2, d3, d4, num_be (by omega), num_be (by omega), num_be (by omega), num_be (by omega), d5, d6]
  rw [if_neg (by omega), if_neg (by rw [List.length_append, hl]; omega)]

theorem frs_some {b : List UInt8} {g m s : Nat} (h : frs b = some (g, m, s)) : 21 + s ≤ b.length ∧ b.getD 0 0 = 195 ∧ g ≤ 1099511627776 ∧ m ≤ 2147483647 ∧ s ≤ 65536 ∧ num ((b.drop 13).take 4) = s ∧ num ((b.drop 17).take 4) = crc ((b.drop 1).take 16 ++ (b.drop 21).take s) := by
  unfold frs at h
  split at h
  · cases h
  · split at h
    · cases h
    · split at h
      · cases h
      · rename_i h1 h2 h3
        simp only [Option.some.injEq, Prod.mk.injEq] at h
        obtain ⟨rfl, rfl, rfl⟩ := h
        simp only [not_or] at h1 h2 h3
        refine ⟨by omega, by simpa using h1.2, by omega, by omega, by omega, rfl, by simpa using h3.2⟩
theorem frs_cut (gen no : Nat) (p : List UInt8) (hg : gen ≤ 1099511627776) (hn : no ≤ 2147483647) (hp : p.length ≤ 65536) (k : Nat) (hk : k < p.length + 21) : frs ((frameB gen no p).take k) = none := by
  cases e : frs ((frameB gen no p).take k) with
  | none => rfl
  | some x =>
    obtain ⟨g, m, s⟩ := x
    obtain ⟨h1, _, _, _, _, h5, _⟩ := frs_some e
    have hf := (frs_frame gen no p [] hg hn hp).1
    rw [List.append_nil] at hf
    have h6 := (frs_some hf).2.2.2.2.2.1
    have hl : (List.take k (frameB gen no p)).length = k := by rw [List.length_take, frameB_len]; omega
    rw [hl] at h1
    have e2 : (((frameB gen no p).take k).drop 13).take 4 = ((frameB gen no p).drop 13).take 4 := by
      rw [List.drop_take, List.take_take]
      congr 1
      omega
    rw [e2, h6] at h5
    omega
theorem frameB_inj {gen no gen2 no2 : Nat} {p q : List UInt8} (hg : gen ≤ 1099511627776) (hn : no ≤ 2147483647) (hp : p.length ≤ 65536) (hg2 : gen2 ≤ 1099511627776) (hn2 : no2 ≤ 2147483647) (hq : q.length ≤ 65536)
    (h : frameB gen no p = frameB gen2 no2 q) : gen = gen2 ∧ no = no2 ∧ p = q := by
  have h1 := frs_frame gen no p [] hg hn hp
  have h2 := frs_frame gen2 no2 q [] hg2 hn2 hq
  rw [h, h2.1] at h1
  simp only [Option.some.injEq, Prod.mk.injEq] at h1
  refine ⟨h1.1.1.symm, h1.1.2.1.symm, ?_⟩
  rw [← h1.2, ← h1.1.2.2, h2.2]
theorem frame_parts (gen no : Nat) (l : List UInt8) : ([195] ++ be gen 8 ++ be no 4 ++ be l.length 4 ++ be (crc (headB gen no l.length ++ l)) 4) ++ l = frameB gen no l := by
  simp [frameB, headB, List.append_assoc]
theorem head_drop (gen no n : Nat) : ([195] ++ be gen 8 ++ be no 4 ++ be n 4 : List UInt8).drop 1 = headB gen no n := by
  simp [headB, List.append_assoc]
end Go.Proofs.Ytogncnoheodgbaa.NumK
