/- The register of CRC-32 as a number, numbers as bytes, frames as lists of bytes. -/
import Derived.Test.YthnhhhfjgbgpgaaRGrd
namespace Go.Proofs.Ythnhhhfjgbgpgaa.NumK
open Go.RowKit

/-! ### the register -/
def poly : Nat := 3988292384
def stp (c : Nat) : Nat := c / 2 ^^^ (if c % 2 = 1 then poly else 0)
def stps : Nat → Nat → Nat
  | 0, c => c
  | n + 1, c => stps n (stp c)
def shB (r : Nat) (b : UInt8) : Nat := stps 8 (r ^^^ b.toNat)
def crcF (r : Nat) (l : List UInt8) : Nat := l.foldl shB r
def crc (l : List UInt8) : Nat := crcF 4294967295 l ^^^ 4294967295

theorem stp_xor (a b : Nat) : stp (a ^^^ b) = stp a ^^^ stp b := by
  unfold stp
  have h1 : (a ^^^ b) / 2 = a / 2 ^^^ b / 2 := by
    have := Nat.shiftRight_xor_distrib (a := a) (b := b) (i := 1)
    simpa [Nat.shiftRight_eq_div_pow] using this
  have h2 : (a ^^^ b) % 2 = (a % 2 + b % 2) % 2 := by
    have := Nat.xor_mod_two_pow (a := a) (b := b) (n := 1)
    rw [Nat.pow_one] at this
    rw [this]
    have ha : a % 2 = 0 ∨ a % 2 = 1 := by omega
    have hb : b % 2 = 0 ∨ b % 2 = 1 := by omega
    rcases ha with ha | ha <;> rcases hb with hb | hb <;> rw [ha, hb] <;> rfl
  rw [h1, h2]
  have ha : a % 2 = 0 ∨ a % 2 = 1 := by omega
  have hb : b % 2 = 0 ∨ b % 2 = 1 := by omega
  rcases ha with ha | ha <;> rcases hb with hb | hb <;> simp [ha, hb]
  · rw [Nat.xor_assoc]
  · rw [Nat.xor_assoc, Nat.xor_assoc, Nat.xor_comm poly]
  · rw [Nat.xor_assoc, Nat.xor_comm poly, Nat.xor_assoc, Nat.xor_self, Nat.xor_zero]
theorem xor_zero_eq {a b : Nat} (h : a ^^^ b = 0) : a = b := by
  have := congrArg (· ^^^ b) h
  simpa [Nat.xor_assoc] using this
theorem stps_xor (n a b : Nat) : stps n (a ^^^ b) = stps n a ^^^ stps n b := by
  induction n generalizing a b with
  | zero => rfl
  | succ n ih => unfold stps; rw [stp_xor, ih]
theorem stps_add (m n a : Nat) : stps (m + n) a = stps n (stps m a) := by
  induction m generalizing a with
  | zero => rw [Nat.zero_add]; rfl
  | succ m ih => rw [Nat.succ_add]; show stps (m + n) (stp a) = stps n (stps m (stp a)); exact ih _
theorem stps_succ (n a : Nat) : stps (n + 1) a = stp (stps n a) := by
  rw [stps_add]; rfl
theorem stps_mul (n y : Nat) : stps n (y * 2 ^ n) = y := by
  induction n with
  | zero => simp [stps]
  | succ n ih =>
    unfold stps
    have : stp (y * 2 ^ (n + 1)) = y * 2 ^ n := by
      unfold stp
      rw [Nat.pow_succ, ← Nat.mul_assoc]
      simp
    rw [this, ih]
theorem stp_lt {c : Nat} (h : c < 4294967296) : stp c < 4294967296 := by
  unfold stp
  refine Nat.xor_lt_two_pow (n := 32) (by omega) ?_
  split <;> decide
theorem stps_lt {c : Nat} (h : c < 4294967296) (n : Nat) : stps n c < 4294967296 := by
  induction n generalizing c with
  | zero => exact h
  | succ n ih => exact ih (stp_lt h)
theorem stp_pos {c : Nat} (h : c < 4294967296) (h0 : c ≠ 0) : stp c ≠ 0 := by
  unfold stp
  intro e
  have e2 := xor_zero_eq e
  split at e2
  · have : c / 2 < 2147483648 := by omega
    rw [e2] at this
    exact absurd this (by decide)
  · omega
theorem stps_pos {c : Nat} (h : c < 4294967296) (h0 : c ≠ 0) (n : Nat) : stps n c ≠ 0 := by
  induction n generalizing c with
  | zero => exact h0
  | succ n ih => exact ih (stp_lt h) (stp_pos h h0)
theorem shB_lt {r : Nat} (h : r < 4294967296) (b : UInt8) : shB r b < 4294967296 := stps_lt (Nat.xor_lt_two_pow (n := 32) h (by have := b.toNat_lt; omega)) 8
theorem crcF_lt {r : Nat} (h : r < 4294967296) (l : List UInt8) : crcF r l < 4294967296 := by
  induction l generalizing r with
  | nil => exact h
  | cons b l ih => exact ih (shB_lt h b)
theorem crc_lt (l : List UInt8) : crc l < 4294967296 := Nat.xor_lt_two_pow (n := 32) (crcF_lt (by omega) l) (by omega)
theorem crcF_append (r : Nat) (l m : List UInt8) : crcF r (l ++ m) = crcF (crcF r l) m := by unfold crcF; rw [List.foldl_append]
theorem crcF_snoc (r : Nat) (l : List UInt8) (c : UInt8) : crcF r (l ++ [c]) = shB (crcF r l) c := by unfold crcF; rw [List.foldl_append]; rfl

/-! ### the whole as one number -/
def leN : List UInt8 → Nat
  | [] => 0
  | b :: l => b.toNat + 256 * leN l
theorem low_xor (b n : Nat) (h : b < 256) : b + 256 * n = b ^^^ (n * 2 ^ 8) := by
  apply Nat.eq_of_testBit_eq
  intro j
  rw [Nat.testBit_xor, Nat.add_comm, show 256 * n = 2 ^ 8 * n from rfl, Nat.testBit_two_pow_mul_add _ (show b < 2 ^ 8 from h), Nat.testBit_mul_two_pow]
  by_cases hj : j < 8
  · have h8 : ¬ 8 ≤ j := by omega
    simp [hj, h8]
  · have : b.testBit j = false := Nat.testBit_lt_two_pow (Nat.lt_of_lt_of_le h (show 2 ^ 8 ≤ 2 ^ j from Nat.pow_le_pow_right (by omega) (by omega)))
    rw [this]; simp [hj]; omega
theorem crcF_le (l : List UInt8) (r : Nat) : crcF r l = stps (8 * l.length) (r ^^^ leN l) := by
  induction l generalizing r with
  | nil => simp [crcF, leN, stps]
  | cons b l ih =>
    have : crcF r (b :: l) = crcF (shB r b) l := rfl
    rw [this, ih, List.length_cons, show 8 * (l.length + 1) = 8 + 8 * l.length by omega, stps_add]
    congr 1
    have : leN (b :: l) = b.toNat + 256 * leN l := rfl
    rw [this, low_xor _ _ b.toNat_lt, ← Nat.xor_assoc, stps_xor, stps_mul]
    rfl
theorem leN_set (l : List UInt8) (k : Nat) (c : UInt8) (hk : k < l.length) : leN (l.set k (l.getD k 0 ^^^ c)) = leN l ^^^ (c.toNat * 2 ^ (8 * k)) := by
  induction l generalizing k with
  | nil => simp at hk
  | cons b l ih =>
    cases k with
    | zero =>
      simp only [List.set_cons_zero, List.getD_cons_zero, leN, Nat.mul_zero, Nat.pow_zero, Nat.mul_one]
      rw [low_xor _ _ (UInt8.toNat_lt _), low_xor _ _ b.toNat_lt, UInt8.toNat_xor, Nat.xor_assoc, Nat.xor_assoc, Nat.xor_comm c.toNat]
    | succ k =>
      simp only [List.set_cons_succ, List.getD_cons_succ, leN]
      rw [ih k (by simpa using hk), low_xor _ _ b.toNat_lt, low_xor _ _ b.toNat_lt, Nat.xor_assoc]
      congr 1
      rw [← Nat.shiftLeft_eq, ← Nat.shiftLeft_eq, Nat.shiftLeft_xor_distrib]
      simp only [Nat.shiftLeft_eq]
      rw [Nat.mul_assoc, ← Nat.pow_add, show 8 * k + 8 = 8 * (k + 1) by omega]
/-- A difference of 32 bits in a row tells. -/
theorem crc_burst (l m : List UInt8) (B j : Nat) (hl : m.length = l.length) (hB : B < 4294967296) (h0 : B ≠ 0) (hj : j ≤ 8 * l.length) (h : leN m = leN l ^^^ (B * 2 ^ j)) : crc m ≠ crc l := by
  unfold crc
  intro e
  have e1 : crcF 4294967295 m = crcF 4294967295 l := by
    have := congrArg (· ^^^ 4294967295) e
    simpa [Nat.xor_assoc] using this
  rw [crcF_le, crcF_le, h, hl, ← Nat.xor_assoc, stps_xor] at e1
  have e2 : stps (8 * l.length) (B * 2 ^ j) = 0 := by
    have := congrArg (stps (8 * l.length) (4294967295 ^^^ leN l) ^^^ ·) e1
    simpa [← Nat.xor_assoc] using this
  obtain ⟨d, hd⟩ : ∃ d, 8 * l.length = j + d := ⟨8 * l.length - j, by omega⟩
  rw [hd, stps_add, stps_mul] at e2
  exact stps_pos hB h0 d e2

/-! ### numbers as bytes, the highest first -/
def be : Nat → Nat → List UInt8
  | _, 0 => []
  | n, k + 1 => UInt8.ofNat (n / 256 ^ k) :: be n k
def numF (r : Nat) (l : List UInt8) : Nat := l.foldl (fun n c => n * 256 + c.toNat) r
def num (l : List UInt8) : Nat := numF 0 l
theorem be_len (n k : Nat) : (be n k).length = k := by
  induction k with
  | zero => rfl
  | succ k ih => simp [be, ih]
theorem numF_snoc (r : Nat) (l : List UInt8) (c : UInt8) : numF r (l ++ [c]) = numF r l * 256 + c.toNat := by unfold numF; rw [List.foldl_append]; rfl
theorem num_lt (l : List UInt8) : num l < 256 ^ l.length := by
  have : ∀ (l : List UInt8) (r : Nat), numF r l < (r + 1) * 256 ^ l.length := by
    intro l
    induction l with
    | nil => intro r; simp [numF]
    | cons b l ih =>
      intro r
      have h := ih (r * 256 + b.toNat)
      have hb := b.toNat_lt
      rw [List.length_cons, Nat.pow_succ]
      refine Nat.lt_of_lt_of_le h ?_
      rw [Nat.mul_comm (256 ^ _) 256, ← Nat.mul_assoc]
      exact Nat.mul_le_mul_right _ (by omega)
  have := this l 0
  simpa [num] using this
theorem u8_ofNat_mod (n : Nat) : (UInt8.ofNat n).toNat = n % 256 := by simp
theorem numF_be (r n k : Nat) : numF r (be n k) = r * 256 ^ k + n % 256 ^ k := by
  induction k generalizing r with
  | zero => simp [be, numF, Nat.mod_one]
  | succ k ih =>
    have : numF r (be n (k + 1)) = numF (r * 256 + (UInt8.ofNat (n / 256 ^ k)).toNat) (be n k) := rfl
    rw [this, ih, u8_ofNat_mod, Nat.add_mul, Nat.pow_succ, Nat.mod_mul, Nat.mul_comm (256 ^ k) 256, ← Nat.mul_assoc, Nat.mul_comm (n / 256 ^ k % 256), Nat.add_assoc, Nat.add_comm (256 ^ k * _)]
theorem num_be {n k : Nat} (h : n < 256 ^ k) : num (be n k) = n := by
  unfold num
  rw [numF_be, Nat.mod_eq_of_lt h]; omega

/-! ### frames -/
def headB (gen no n : Nat) : List UInt8 := be gen 8 ++ be no 4 ++ be n 4
def frameB (gen no : Nat) (p : List UInt8) : List UInt8 := 195 :: headB gen no p.length ++ be (crc (headB gen no p.length ++ p)) 4 ++ p
theorem headB_len (gen no n : Nat) : (headB gen no n).length = 16 := by simp [headB, be_len]
theorem frameB_len (gen no : Nat) (p : List UInt8) : (frameB gen no p).length = p.length + 21 := by simp [frameB, headB_len, be_len]; omega

/-- The generation, number, length of the payload of the frame that bytes begin with. -/
def frs (b : List UInt8) : Option (Nat × Nat × Nat) :=
  if b.length < 21 ∨ b.getD 0 0 ≠ 195 then none else
  if 1099511627776 < num ((b.drop 1).take 8) ∨ 2147483647 < num ((b.drop 9).take 4) ∨ 65536 < num ((b.drop 13).take 4) then none else
  if b.length < 21 + num ((b.drop 13).take 4) ∨ num ((b.drop 17).take 4) ≠ crc ((b.drop 1).take 16 ++ (b.drop 21).take (num ((b.drop 13).take 4))) then none else
  some (num ((b.drop 1).take 8), num ((b.drop 9).take 4), num ((b.drop 13).take 4))

theorem take_drop_mid (a m z : List UInt8) (i n : Nat) (ha : a.length = i) (hm : m.length = n) : ((a ++ (m ++ z)).drop i).take n = m := by
  subst ha; subst hm; simp
theorem frs_frame (gen no : Nat) (p more : List UInt8) (hg : gen ≤ 1099511627776) (hn : no ≤ 2147483647) (hp : p.length ≤ 65536) :
    frs (frameB gen no p ++ more) = some (gen, no, p.length) ∧ ((frameB gen no p ++ more).drop 21).take p.length = p := by
  have hl := frameB_len gen no p
  have hc := crc_lt (headB gen no p.length ++ p)
  have e0 : frameB gen no p ++ more = [195] ++ (be gen 8 ++ (be no 4 ++ (be p.length 4 ++ (be (crc (headB gen no p.length ++ p)) 4 ++ (p ++ more))))) := by
    simp [frameB, headB, List.append_assoc]
  have d1 : ((frameB gen no p ++ more).drop 1).take 8 = be gen 8 := by rw [e0]; exact take_drop_mid _ _ _ 1 8 rfl (be_len _ _)
  have d2 : ((frameB gen no p ++ more).drop 9).take 4 = be no 4 := by
    rw [e0, ← List.append_assoc]; exact take_drop_mid _ _ _ 9 4 (by simp [be_len]) (be_len _ _)
  have d3 : ((frameB gen no p ++ more).drop 13).take 4 = be p.length 4 := by
    rw [e0, ← List.append_assoc, ← List.append_assoc]; exact take_drop_mid _ _ _ 13 4 (by simp [be_len]) (be_len _ _)
  have d4 : ((frameB gen no p ++ more).drop 17).take 4 = be (crc (headB gen no p.length ++ p)) 4 := by
    rw [e0, ← List.append_assoc, ← List.append_assoc, ← List.append_assoc]; exact take_drop_mid _ _ _ 17 4 (by simp [be_len]) (be_len _ _)
  have d5 : ((frameB gen no p ++ more).drop 21).take p.length = p := by
    rw [e0, ← List.append_assoc, ← List.append_assoc, ← List.append_assoc, ← List.append_assoc]; exact take_drop_mid _ _ _ 21 _ (by simp [be_len]) rfl
  have d6 : ((frameB gen no p ++ more).drop 1).take 16 = headB gen no p.length := by
    have e1 : frameB gen no p ++ more = [195] ++ (headB gen no p.length ++ (be (crc (headB gen no p.length ++ p)) 4 ++ (p ++ more))) := by simp [frameB, List.append_assoc]
    rw [e1]; exact take_drop_mid _ _ _ 1 16 rfl (headB_len _ _ _)
  refine ⟨?_, d5⟩
  unfold frs
  have l0 : ¬ ((frameB gen no p ++ more).length < 21 ∨ (frameB gen no p ++ more).getD 0 0 ≠ 195) := by
    rw [List.length_append, hl, not_or]
    refine ⟨by omega, ?_⟩
    rw [e0]; simp
  rw [if_neg l0, d1, d2, d3, d4, num_be (by omega), num_be (by omega), num_be (by omega), num_be (by omega), d5, d6]
  rw [if_neg (by omega), if_neg (by rw [List.length_append, hl]; omega)]

theorem frs_some {b : List UInt8} {g m s : Nat} (h : frs b = some (g, m, s)) : 21 + s ≤ b.length ∧ b.getD 0 0 = 195 ∧ g ≤ 1099511627776 ∧ m ≤ 2147483647 ∧ s ≤ 65536 ∧ num ((b.drop 13).take 4) = s ∧ num ((b.drop 17).take 4) = crc ((b.drop 1).take 16 ++ (b.drop 21).take s) := by
  unfold frs at h
  split at h
  · cases h
  · split at h
    · cases h
    · split at h
      · cases h
      · rename_i h1 h2 h3
        simp only [Option.some.injEq, Prod.mk.injEq] at h
        obtain ⟨rfl, rfl, rfl⟩ := h
        simp only [not_or] at h1 h2 h3
        refine ⟨by omega, by simpa using h1.2, by omega, by omega, by omega, rfl, by simpa using h3.2⟩
theorem frs_cut (gen no : Nat) (p : List UInt8) (hg : gen ≤ 1099511627776) (hn : no ≤ 2147483647) (hp : p.length ≤ 65536) (k : Nat) (hk : k < p.length + 21) : frs ((frameB gen no p).take k) = none := by
  cases e : frs ((frameB gen no p).take k) with
  | none => rfl
  | some x =>
    obtain ⟨g, m, s⟩ := x
    obtain ⟨h1, _, _, _, _, h5, _⟩ := frs_some e
    have hf := (frs_frame gen no p [] hg hn hp).1
    rw [List.append_nil] at hf
    have h6 := (frs_some hf).2.2.2.2.2.1
    have hl : (List.take k (frameB gen no p)).length = k := by rw [List.length_take, frameB_len]; omega
    rw [hl] at h1
    have e2 : (((frameB gen no p).take k).drop 13).take 4 = ((frameB gen no p).drop 13).take 4 := by
      rw [List.drop_take, List.take_take]
      congr 1
      omega
    rw [e2, h6] at h5
    omega
theorem frameB_inj {gen no gen2 no2 : Nat} {p q : List UInt8} (hg : gen ≤ 1099511627776) (hn : no ≤ 2147483647) (hp : p.length ≤ 65536) (hg2 : gen2 ≤ 1099511627776) (hn2 : no2 ≤ 2147483647) (hq : q.length ≤ 65536)
    (h : frameB gen no p = frameB gen2 no2 q) : gen = gen2 ∧ no = no2 ∧ p = q := by
  have h1 := frs_frame gen no p [] hg hn hp
  have h2 := frs_frame gen2 no2 q [] hg2 hn2 hq
  rw [h, h2.1] at h1
  simp only [Option.some.injEq, Prod.mk.injEq] at h1
  refine ⟨h1.1.1.symm, h1.1.2.1.symm, ?_⟩
  rw [← h1.2, ← h1.1.2.2, h2.2]
theorem frame_parts (gen no : Nat) (l : List UInt8) : ([195] ++ be gen 8 ++ be no 4 ++ be l.length 4 ++ be (crc (headB gen no l.length ++ l)) 4) ++ l = frameB gen no l := by
  simp [frameB, headB, List.append_assoc]
theorem head_drop (gen no n : Nat) : ([195] ++ be gen 8 ++ be no 4 ++ be n 4 : List UInt8).drop 1 = headB gen no n := by
  simp [headB, List.append_assoc]
end Go.Proofs.Ythnhhhfjgbgpgaa.NumK
namespace Go.Proofs.Ythnhhhfjgbgpgaa.NumK
open Go.RowKit

abbrev Blk := List UInt8
def blk0 : Blk := List.replicate 64 0
def blkOf (b : UInt8) : Blk := List.replicate 64 b
/-- What is synced, what is written and not synced, the power, what is armed, whether the power went by it. -/
structure DS where
  safe : List Blk
  opn : List (Nat × Blk)
  off : Bool
  armed : Nat
  cut : Bool

def dNew (n : Nat) : DS := ⟨List.replicate n blk0, [], false, 0, false⟩
def seeL (b : Blk) (l : List (Nat × Blk)) (at' : Nat) : Blk := l.foldl (fun b w => if w.1 = at' then w.2 else b) b
def DS.see (s : DS) (at' : Nat) : Blk := seeL (s.safe.getD at' blk0) s.opn at'
def DS.has (s : DS) (at' : Int) : Prop := 0 ≤ at' ∧ at' < s.safe.length
instance (s : DS) (at' : Int) : Decidable (s.has at') := by unfold DS.has; infer_instance
def dRead (s : DS) (at' : Int) : Blk × Int := if s.off then (blk0, 7) else if s.has at' then (s.see at'.toNat, 0) else (blk0, 3)
/-- Is this write or sync the last one? -/
def dLast (s : DS) : Bool × DS := if s.armed = 0 then (false, s) else if s.armed = 1 then (true, { s with armed := 0, off := true, cut := true }) else (false, { s with armed := s.armed - 1 })
def dWrite (s : DS) (at' : Int) (b : Blk) : Int × DS :=
  if s.off then (7, s) else if s.has at' then (if (dLast s).1 then 7 else 0, { (dLast s).2 with opn := s.opn ++ [(at'.toNat, b)] }) else (3, s)
def applyL (safe : List Blk) (l : List (Nat × Blk)) : List Blk := l.foldl (fun a w => a.set w.1 w.2) safe
def dSync (s : DS) : Int × DS := if s.off then (7, s) else if (dLast s).1 then (7, (dLast s).2) else (0, { (dLast s).2 with safe := applyL s.safe s.opn, opn := [] })
def dArm (s : DS) (n : Int) : DS := if s.off then s else { s with armed := n.toNat }
/-- How many bytes of the k-th open write stay. -/
def stay (picks : List Int) (k : Nat) : Nat := if (picks.getD k 0) % 66 = 65 then 64 else ((picks.getD k 0) % 66 - 1).toNat
def mixB (old new : Blk) (m : Nat) : Blk := new.take m ++ old.drop m
def crashL (picks : List Int) : Nat → List Blk → List (Nat × Blk) → List Blk
  | _, safe, [] => safe
  | k, safe, w :: r => crashL picks (k + 1) (safe.set w.1 (mixB (safe.getD w.1 blk0) w.2 (stay picks k))) r
def dCrash (s : DS) (picks : List Int) : DS := ⟨crashL picks 0 s.safe s.opn, [], true, 0, false⟩
def dStart (s : DS) : DS := if s.cut then { dCrash s [] with off := false } else { s with off := false }

/-! ### what is a disk at all -/
def DS.ok (s : DS) : Prop := (∀ b ∈ s.safe, b.length = 64) ∧ ∀ w ∈ s.opn, w.1 < s.safe.length ∧ w.2.length = 64
theorem applyL_len (safe : List Blk) (l : List (Nat × Blk)) : (applyL safe l).length = safe.length := by
  unfold applyL
  induction l generalizing safe with
  | nil => rfl
  | cons w r ih => rw [List.foldl_cons, ih, List.length_set]
theorem crashL_len (picks : List Int) (k : Nat) (safe : List Blk) (l : List (Nat × Blk)) : (crashL picks k safe l).length = safe.length := by
  induction l generalizing k safe with
  | nil => rfl
  | cons w r ih => rw [crashL, ih, List.length_set]
theorem crashL_snoc (picks : List Int) (k : Nat) (safe : List Blk) (l : List (Nat × Blk)) (w : Nat × Blk) : crashL picks k safe (l ++ [w]) = (crashL picks k safe l).set w.1 (mixB ((crashL picks k safe l).getD w.1 blk0) w.2 (stay picks (k + l.length))) := by
  induction l generalizing k safe with
  | nil => rfl
  | cons x r ih =>
    rw [List.cons_append, crashL, crashL, ih, List.length_cons, show k + 1 + r.length = k + (r.length + 1) by omega]
theorem applyL_snoc (safe : List Blk) (l : List (Nat × Blk)) (w : Nat × Blk) : applyL safe (l ++ [w]) = (applyL safe l).set w.1 w.2 := by
  unfold applyL; rw [List.foldl_append]; rfl
theorem seeL_snoc (b : Blk) (l : List (Nat × Blk)) (w : Nat × Blk) (at' : Nat) : seeL b (l ++ [w]) at' = if w.1 = at' then w.2 else seeL b l at' := by
  unfold seeL; rw [List.foldl_append]; rfl
theorem getD_set_ne {l : List Blk} {i j : Nat} {v : Blk} (h : i ≠ j) : (l.set i v).getD j blk0 = l.getD j blk0 := by
  simp only [List.getD_eq_getElem?_getD]; rw [List.getElem?_set_ne h]
theorem getD_set_eq {l : List Blk} {i : Nat} {v : Blk} (h : i < l.length) : (l.set i v).getD i blk0 = v := by
  simp only [List.getD_eq_getElem?_getD]; rw [List.getElem?_set_self h]; rfl
/-- Synced is as seen. -/
theorem applyL_see (safe : List Blk) (l : List (Nat × Blk)) (at' : Nat) (ha : at' < safe.length) : (applyL safe l).getD at' blk0 = seeL (safe.getD at' blk0) l at' := by
  unfold applyL seeL
  induction l generalizing safe with
  | nil => rfl
  | cons w r ih =>
    rw [List.foldl_cons, List.foldl_cons, ih _ (by rw [List.length_set]; exact ha)]
    by_cases h : w.1 = at'
    · subst h; rw [getD_set_eq ha, if_pos rfl]
    · rw [getD_set_ne h, if_neg h]
/-- What was not written since stays. -/
theorem crashL_other (picks : List Int) (k : Nat) (safe : List Blk) (l : List (Nat × Blk)) (at' : Nat) (h : ∀ w ∈ l, w.1 ≠ at') : (crashL picks k safe l).getD at' blk0 = safe.getD at' blk0 := by
  induction l generalizing k safe with
  | nil => rfl
  | cons w r ih => rw [crashL, ih _ _ (fun x hx => h x (by simp [hx])), getD_set_ne (h w (by simp))]
/-- Without picks nothing stays. -/
theorem crashL_none (k : Nat) (safe : List Blk) (l : List (Nat × Blk)) (h : ∀ w ∈ l, w.1 < safe.length) : crashL [] k safe l = safe := by
  induction l generalizing k safe with
  | nil => rfl
  | cons w r ih =>
    have hw := h w (by simp)
    have e : safe.set w.1 (mixB (safe.getD w.1 blk0) w.2 (stay [] k)) = safe := by
      have : mixB (safe.getD w.1 blk0) w.2 (stay [] k) = safe[w.1] := by simp [mixB, stay, List.getD, hw]
      rw [this]; exact List.set_getElem_self hw
    rw [crashL, e]
    exact ih _ _ (fun x hx => h x (by simp [hx]))
theorem mixB_len {a b : Blk} {m : Nat} (ha : a.length = 64) (hb : b.length = 64) : (mixB a b m).length = 64 := by
  simp [mixB]; omega
theorem mixB_mem {a b : Blk} {m : Nat} {x : UInt8} (h : x ∈ mixB a b m) : x ∈ a ∨ x ∈ b := by
  unfold mixB at h
  rcases List.mem_append.1 h with h | h
  · exact Or.inr (List.mem_of_mem_take h)
  · exact Or.inl (List.mem_of_mem_drop h)
theorem mixB_all {a b : Blk} (ha : a.length = 64) (hb : b.length = 64) : mixB a b 64 = b := by
  unfold mixB; rw [List.take_of_length_le (by omega), List.drop_of_length_le (by omega), List.append_nil]
theorem stay_all (picks : List Int) (k : Nat) (h : picks.getD k 0 = 65) : stay picks k = 64 := by unfold stay; rw [h]; rfl
end Go.Proofs.Ythnhhhfjgbgpgaa.NumK
namespace Go.Proofs.Ythnhhhfjgbgpgaa.NumK
open Go.RowKit

/-! ### a block of a row -/
def markG (g : Nat) : UInt8 := UInt8.ofNat (1 + g % 255)
theorem markG_ne (g : Nat) : markG g ≠ 0 := by
  unfold markG
  intro h
  have := congrArg UInt8.toNat h
  have hlt : 1 + g % 255 < 256 := by omega
  rw [u8_ofNat_mod, Nat.mod_eq_of_lt hlt] at this
  simp at this
/-- How many blocks so many bytes need. -/
def nbk (n : Nat) : Nat := (n + 61) / 62
def innerB (x : Blk) : List UInt8 := (x.drop 1).take 62
def cut62 (b : List UInt8) (k : Nat) : List UInt8 := (List.range 62).map (fun i => b.getD (62 * k + i) 0)
def rowBlk (g : Nat) (b : List UInt8) (k : Nat) : Blk := markG g :: (cut62 b k ++ [markG g])
theorem cut62_len (b : List UInt8) (k : Nat) : (cut62 b k).length = 62 := by simp [cut62]
theorem rowBlk_len (g : Nat) (b : List UInt8) (k : Nat) : (rowBlk g b k).length = 64 := by simp [rowBlk, cut62_len]
theorem inner_rowBlk (g : Nat) (b : List UInt8) (k : Nat) : innerB (rowBlk g b k) = cut62 b k := by
  unfold innerB rowBlk
  rw [List.drop_succ_cons, List.drop_zero, List.take_append_of_le_length (by rw [cut62_len]; omega), List.take_of_length_le (by rw [cut62_len]; omega)]
theorem rowBlk_first (g : Nat) (b : List UInt8) (k : Nat) : (rowBlk g b k).getD 0 0 = markG g := rfl
theorem rowBlk_last (g : Nat) (b : List UInt8) (k : Nat) : (rowBlk g b k).getD 63 0 = markG g := by
  unfold rowBlk
  simp [List.getD_eq_getElem?_getD, cut62_len]

/-- The insides of some blocks, one after the other. -/
def joinF (f : Nat → Blk) (at' : Nat) : Nat → List UInt8
  | 0 => []
  | n + 1 => joinF f at' n ++ innerB (f (at' + n))
theorem joinF_congr {f f2 : Nat → Blk} {at' at2 n : Nat} (h : ∀ i, i < n → f (at' + i) = f2 (at2 + i)) : joinF f at' n = joinF f2 at2 n := by
  induction n with
  | zero => rfl
  | succ n ih => unfold joinF; rw [ih (fun i hi => h i (by omega)), h n (by omega)]
theorem getD_pad (b : List UInt8) (N : Nat) (h : b.length ≤ N) : (List.range N).map (fun i => b.getD i 0) = b ++ List.replicate (N - b.length) 0 := by
  apply List.ext_getElem
  · simp; omega
  · intro i h1 h2
    simp only [List.getElem_map, List.getElem_range, List.getElem_append, List.getElem_replicate]
    split
    · rename_i hi; simp [List.getD_eq_getElem?_getD, List.getElem?_eq_getElem hi]
    · rename_i hi; simp [List.getD_eq_getElem?_getD, List.getElem?_eq_none (by omega : b.length ≤ i)]
theorem joinF_row {f : Nat → Blk} {at' g : Nat} {b : List UInt8} {n : Nat} (h : ∀ i, i < n → f (at' + i) = rowBlk g b i) : joinF f at' n = (List.range (62 * n)).map (fun i => b.getD i 0) := by
  induction n with
  | zero => rfl
  | succ n ih =>
    unfold joinF
    rw [ih (fun i hi => h i (by omega)), h n (by omega), inner_rowBlk, Nat.mul_succ, List.range_add, List.map_append, List.map_map]
    rfl
theorem nbk_ge (n : Nat) : n ≤ 62 * nbk n := by unfold nbk; omega
theorem nbk_lt (n k : Nat) : k < nbk n ↔ 62 * k < n := by unfold nbk; omega
theorem nbk_pos {n : Nat} (h : 0 < n) : 0 < nbk n := by unfold nbk; omega
theorem joinF_frame {f : Nat → Blk} {at' g : Nat} {b : List UInt8} (h : ∀ i, i < nbk b.length → f (at' + i) = rowBlk g b i) : joinF f at' (nbk b.length) = b ++ List.replicate (62 * nbk b.length - b.length) 0 := by
  rw [joinF_row h, getD_pad _ _ (nbk_ge _)]

/-! ### what stands at a block -/
/-- The head of a frame: generation, number, length. -/
def headOf (x : List UInt8) : Option (Nat × Nat × Nat) :=
  if x.length < 17 ∨ x.getD 0 0 ≠ 195 then none else
  if 1099511627776 < num ((x.drop 1).take 8) ∨ 2147483647 < num ((x.drop 9).take 4) ∨ 65536 < num ((x.drop 13).take 4) then none else
  some (num ((x.drop 1).take 8), num ((x.drop 9).take 4), num ((x.drop 13).take 4))
def markedF (f : Nat → Blk) (at' g n : Nat) : Prop := ∀ i, i < n → (f (at' + i)).getD 0 0 = markG g ∧ (f (at' + i)).getD 63 0 = markG g
instance (f : Nat → Blk) (at' g n : Nat) : Decidable (markedF f at' g n) := by unfold markedF; infer_instance
/-- The row that stands at a block of a half: its generation, number, payload, blocks. -/
def rowAt (f : Nat → Blk) (room at' : Nat) : Option (Nat × Nat × List UInt8 × Nat) :=
  if room ≤ at' then none else
  match headOf (innerB (f at')) with
  | none => none
  | some (g, _, n) =>
    if room < at' + nbk (n + 21) ∨ ¬ markedF f at' g (nbk (n + 21)) then none else
    match frs (joinF f at' (nbk (n + 21))) with
    | none => none
    | some (g2, k2, n2) => some (g2, k2, ((joinF f at' (nbk (n + 21))).drop 21).take n2, nbk (n + 21))
theorem rowAt_congr {f f2 : Nat → Blk} {room at' : Nat} (h : ∀ i, i < room → f i = f2 i) : rowAt f room at' = rowAt f2 room at' := by
  unfold rowAt
  by_cases ha : room ≤ at'
  · rw [if_pos ha, if_pos ha]
  · rw [if_neg ha, if_neg ha, h at' (by omega)]
    cases headOf (innerB (f2 at')) with
    | none => rfl
    | some x =>
      obtain ⟨g, k, n⟩ := x
      show (if _ then _ else _) = (if _ then _ else _)
      by_cases hr : room < at' + nbk (n + 21)
      · rw [if_pos (Or.inl hr), if_pos (Or.inl hr)]
      · have hj : joinF f at' (nbk (n + 21)) = joinF f2 at' (nbk (n + 21)) := joinF_congr (fun i hi => h _ (by omega))
        have hm : markedF f at' g (nbk (n + 21)) ↔ markedF f2 at' g (nbk (n + 21)) := by
          unfold markedF
          constructor <;> intro hh i hi
          · rw [← h _ (by omega)]; exact hh i hi
          · rw [h _ (by omega)]; exact hh i hi
        rw [hj]
        simp only [hm]
theorem headOf_inner {x : Blk} {r : Nat × Nat × Nat} (h : headOf (innerB x) = some r) : (innerB x).getD 0 0 = 195 := by
  unfold headOf at h
  split at h
  · cases h
  · rename_i h1; simp only [not_or] at h1; simpa using h1.2
theorem rowAt_none_head {f : Nat → Blk} {room at' : Nat} (h : (innerB (f at')).getD 0 0 ≠ 195) : rowAt f room at' = none := by
  unfold rowAt
  split
  · rfl
  · cases e : headOf (innerB (f at')) with
    | none => rfl
    | some r => exact absurd (headOf_inner e) h
/-- A block without its last byte: nothing stands there. -/
theorem rowAt_none_last {f : Nat → Blk} {room at' : Nat} (h : (f at').getD 63 0 = 0) : rowAt f room at' = none := by
  unfold rowAt
  split
  · rfl
  · cases e : headOf (innerB (f at')) with
    | none => rfl
    | some r =>
      obtain ⟨g, k, n⟩ := r
      show (if _ then _ else _) = _
      rw [if_pos]
      refine Or.inr (fun hm => ?_)
      have := (hm 0 (nbk_pos (by omega))).2
      rw [Nat.add_zero, h] at this
      exact markG_ne g this.symm
/-- And so without its first. -/
theorem rowAt_none_first {f : Nat → Blk} {room at' : Nat} (h : (f at').getD 0 0 = 0) : rowAt f room at' = none := by
  unfold rowAt
  split
  · rfl
  · cases e : headOf (innerB (f at')) with
    | none => rfl
    | some r =>
      obtain ⟨g, k, n⟩ := r
      show (if _ then _ else _) = _
      rw [if_pos]
      refine Or.inr (fun hm => ?_)
      have := (hm 0 (nbk_pos (by omega))).1
      rw [Nat.add_zero, h] at this
      exact markG_ne g this.symm
theorem rowAt_room {f : Nat → Blk} {room at' : Nat} (h : room ≤ at') : rowAt f room at' = none := by unfold rowAt; rw [if_pos h]

theorem headOf_pre {g k : Nat} {p more : List UInt8} (hg : g ≤ 1099511627776) (hk : k ≤ 2147483647) (hp : p.length ≤ 65536) (m : Nat) (hm : 17 ≤ m) :
    headOf ((frameB g k p ++ more).take m) = some (g, k, p.length) := by
  obtain ⟨l, hl, e⟩ : ∃ l, l.length + 17 = p.length + 21 + more.length ∧ frameB g k p ++ more = [195] ++ (be g 8 ++ (be k 4 ++ (be p.length 4 ++ l))) :=
    ⟨be (crc (headB g k p.length ++ p)) 4 ++ (p ++ more), by simp [be_len]; omega, by simp [frameB, headB, List.append_assoc]⟩
  have hlen : (frameB g k p ++ more).length = p.length + 21 + more.length := by rw [List.length_append, frameB_len]
  have t : ∀ i n, i + n ≤ 17 → (((frameB g k p ++ more).take m).drop i).take n = ((frameB g k p ++ more).drop i).take n := by
    intro i n hin
    rw [List.drop_take, List.take_take]
    congr 1
    omega
  unfold headOf
  have c1 : ¬ (((frameB g k p ++ more).take m).length < 17 ∨ ((frameB g k p ++ more).take m).getD 0 0 ≠ 195) := by
    rw [not_or]
    constructor
    · rw [List.length_take, hlen]; omega
    · have : m ≠ 0 := by omega
      obtain ⟨m', rfl⟩ := Nat.exists_eq_succ_of_ne_zero this
      rw [e]; simp
  rw [if_neg c1, t 1 8 (by omega), t 9 4 (by omega), t 13 4 (by omega), e]
  have d1 : (([195] ++ (be g 8 ++ (be k 4 ++ (be p.length 4 ++ l)))).drop 1).take 8 = be g 8 := take_drop_mid _ _ _ 1 8 rfl (be_len _ _)
  have d2 : (([195] ++ (be g 8 ++ (be k 4 ++ (be p.length 4 ++ l)))).drop 9).take 4 = be k 4 := by
    rw [← List.append_assoc]; exact take_drop_mid _ _ _ 9 4 (by simp [be_len]) (be_len _ _)
  have d3 : (([195] ++ (be g 8 ++ (be k 4 ++ (be p.length 4 ++ l)))).drop 13).take 4 = be p.length 4 := by
    rw [← List.append_assoc, ← List.append_assoc]; exact take_drop_mid _ _ _ 13 4 (by simp [be_len]) (be_len _ _)
  rw [d1, d2, d3, num_be (by omega), num_be (by omega), num_be (by omega), if_neg (by omega)]
theorem headOf_row {g k g2 : Nat} {p : List UInt8} (hg : g ≤ 1099511627776) (hk : k ≤ 2147483647) (hp : p.length ≤ 65536) :
    headOf (innerB (rowBlk g2 (frameB g k p) 0)) = some (g, k, p.length) := by
  rw [inner_rowBlk]
  have : cut62 (frameB g k p) 0 = (frameB g k p ++ List.replicate 62 0).take 62 := by
    apply List.ext_getElem
    · simp [cut62_len]
    · intro i h1 h2
      rw [cut62_len] at h1
      simp only [cut62, Nat.mul_zero, Nat.zero_add, List.getElem_map, List.getElem_range, List.getElem_take, List.getElem_append, List.getElem_replicate]
      split
      · rename_i hi; simp [List.getD_eq_getElem?_getD, List.getElem?_eq_getElem hi]
      · rename_i hi; simp [List.getD_eq_getElem?_getD, List.getElem?_eq_none (by omega : (frameB g k p).length ≤ i)]
  rw [this]
  exact headOf_pre hg hk hp 62 (by omega)
/-- A whole row stands. -/
theorem rowAt_whole {f : Nat → Blk} {room at' g k : Nat} {p : List UInt8} (hg : g ≤ 1099511627776) (hk : k ≤ 2147483647) (hp : p.length ≤ 65536)
    (hr : at' + nbk (p.length + 21) ≤ room) (h : ∀ i, i < nbk (p.length + 21) → f (at' + i) = rowBlk g (frameB g k p) i) :
    rowAt f room at' = some (g, k, p, nbk (p.length + 21)) := by
  have h0 : 0 < nbk (p.length + 21) := nbk_pos (by omega)
  have hf := h 0 h0
  rw [Nat.add_zero] at hf
  have hj : joinF f at' (nbk (p.length + 21)) = frameB g k p ++ List.replicate (62 * nbk (p.length + 21) - (p.length + 21)) 0 := by
    have := joinF_frame (f := f) (at' := at') (g := g) (b := frameB g k p) (by rw [frameB_len]; exact h)
    rw [frameB_len] at this
    exact this
  have hm : markedF f at' g (nbk (p.length + 21)) := fun i hi => by rw [h i hi]; exact ⟨rowBlk_first _ _ _, rowBlk_last _ _ _⟩
  have hs := frs_frame g k p (List.replicate (62 * nbk (p.length + 21) - (p.length + 21)) 0) hg hk hp
  unfold rowAt
  rw [if_neg (by omega), hf, headOf_row hg hk hp]
  show (if _ then _ else _) = _
  rw [if_neg (by rw [not_or]; exact ⟨by omega, fun hn => hn hm⟩), hj, hs.1]
  show some (_, _, _, _) = _
  rw [hs.2]
/-- A row of which a block lacks a mark does not stand. -/
theorem rowAt_gap {f : Nat → Blk} {room at' g k : Nat} {p : List UInt8} (hg : g ≤ 1099511627776) (hk : k ≤ 2147483647) (hp : p.length ≤ 65536)
    (h0 : f at' = rowBlk g (frameB g k p) 0) (j : Nat) (hj : j < nbk (p.length + 21)) (hz : (f (at' + j)).getD 63 0 = 0) :
    rowAt f room at' = none := by
  unfold rowAt
  split
  · rfl
  · rw [h0, headOf_row hg hk hp]
    show (if _ then _ else _) = _
    rw [if_pos]
    refine Or.inr (fun hm => ?_)
    have := (hm j hj).2
    rw [hz] at this
    exact markG_ne g this.symm

/-! ### torn blocks -/
theorem blk0_getD (i : Nat) : blk0.getD i 0 = 0 := by
  unfold blk0
  rw [List.getD_eq_getElem?_getD, List.getElem?_replicate]
  split <;> rfl
/-- A torn block over zeros is whole, or lacks its last byte. -/
theorem mix_torn {b : Blk} (hb : b.length = 64) (m : Nat) : mixB blk0 b m = b ∨ (mixB blk0 b m).getD 63 0 = 0 := by
  unfold mixB
  by_cases h : 64 ≤ m
  · left
    rw [List.take_of_length_le (by omega), List.drop_of_length_le (by simp [blk0]; omega), List.append_nil]
  · right
    have hl : (b.take m).length = m := by rw [List.length_take]; omega
    rw [List.getD_eq_getElem?_getD, List.getElem?_append_right (by omega), hl, List.getElem?_drop, ← List.getD_eq_getElem?_getD]
    exact blk0_getD _
/-- Whole, or without its last byte. -/
def TornB (b x : Blk) : Prop := x = b ∨ x.getD 63 0 = 0
theorem rowAt_torn {f : Nat → Blk} {room at' g k : Nat} {p : List UInt8} (hg : g ≤ 1099511627776) (hk : k ≤ 2147483647) (hp : p.length ≤ 65536)
    (h : ∀ i, i < nbk (p.length + 21) → TornB (rowBlk g (frameB g k p) i) (f (at' + i))) :
    (∀ i, i < nbk (p.length + 21) → f (at' + i) = rowBlk g (frameB g k p) i) ∨ rowAt f room at' = none := by
  by_cases hw : ∀ i, i < nbk (p.length + 21) → f (at' + i) = rowBlk g (frameB g k p) i
  · exact Or.inl hw
  · right
    have : ∃ i, i < nbk (p.length + 21) ∧ f (at' + i) ≠ rowBlk g (frameB g k p) i := by
      apply Classical.byContradiction
      intro hn
      exact hw (fun i hi => Classical.byContradiction (fun hne => hn ⟨i, hi, hne⟩))
    obtain ⟨i, hi, hne⟩ := this
    have hz := (h i hi).resolve_left hne
    rcases h 0 (nbk_pos (by omega)) with h0 | h0
    · rw [Nat.add_zero] at h0
      exact rowAt_gap hg hk hp h0 i hi hz
    · rw [Nat.add_zero] at h0
      exact rowAt_none_last h0

/-! ### a half -/
/-- The records that stand from a block on, and where they end. -/
def recsF (f : Nat → Blk) (room g : Nat) : Nat → Nat → Nat → List (List UInt8) × Nat
  | 0, at', _ => ([], at')
  | fuel + 1, at', k =>
    match rowAt f room at' with
    | none => ([], at')
    | some (g2, k2, p, n) => if g2 = g ∧ k2 = k then (p :: (recsF f room g fuel (at' + n) (k + 1)).1, (recsF f room g fuel (at' + n) (k + 1)).2) else ([], at')
/-- A half's log: generation, snapshot, records, end. -/
def partF (f : Nat → Blk) (room : Nat) : Option (Nat × List UInt8 × List (List UInt8) × Nat) :=
  match rowAt f room 0 with
  | none => none
  | some (g, k, p, n) => if k = 0 ∧ 1 ≤ g then some (g, p, (recsF f room g room n 1).1, (recsF f room g room n 1).2) else none
theorem recsF_congr {f f2 : Nat → Blk} {room : Nat} (h : ∀ i, i < room → f i = f2 i) (g fuel at' k : Nat) : recsF f room g fuel at' k = recsF f2 room g fuel at' k := by
  induction fuel generalizing at' k with
  | zero => rfl
  | succ n ih =>
    unfold recsF
    rw [rowAt_congr h]
    simp only [ih]
theorem partF_congr {f f2 : Nat → Blk} {room : Nat} (h : ∀ i, i < room → f i = f2 i) : partF f room = partF f2 room := by
  unfold partF
  rw [rowAt_congr h]
  simp only [recsF_congr h]
theorem rowAt_blocks {f : Nat → Blk} {room at' g k n : Nat} {p : List UInt8} (h : rowAt f room at' = some (g, k, p, n)) : 1 ≤ n ∧ at' + n ≤ room := by
  unfold rowAt at h
  split at h
  · cases h
  · cases e : headOf (innerB (f at')) with
    | none => rw [e] at h; cases h
    | some r =>
      obtain ⟨g1, k1, n1⟩ := r
      rw [e] at h
      change (if _ then _ else _) = _ at h
      split at h
      · cases h
      · rename_i hc
        simp only [not_or] at hc
        cases e2 : frs (joinF f at' (nbk (n1 + 21))) with
        | none => rw [e2] at h; cases h
        | some r2 =>
          obtain ⟨g2, k2, n2⟩ := r2
          rw [e2] at h
          change some (_, _, _, _) = _ at h
          simp only [Option.some.injEq, Prod.mk.injEq] at h
          obtain ⟨_, _, _, rfl⟩ := h
          have := nbk_pos (n := n1 + 21) (by omega)
          omega
/-- More fuel than blocks serves no more. -/
theorem recsF_fuel {f : Nat → Blk} {room g : Nat} (fuel fuel2 at' k : Nat) (h : room ≤ at' + fuel) (h2 : room ≤ at' + fuel2) : recsF f room g fuel at' k = recsF f room g fuel2 at' k := by
  induction fuel generalizing fuel2 at' k with
  | zero =>
    cases fuel2 with
    | zero => rfl
    | succ m => unfold recsF; rw [rowAt_room (by omega)]
  | succ n ih =>
    cases fuel2 with
    | zero => unfold recsF; rw [rowAt_room (by omega)]
    | succ m =>
      unfold recsF
      cases e : rowAt f room at' with
      | none => rfl
      | some r =>
        obtain ⟨g2, k2, p, c⟩ := r
        have hb := rowAt_blocks e
        dsimp only
        rw [ih m (at' + c) (k + 1) (by omega) (by omega)]

/-! ### rows in a half -/
/-- How many blocks records need. -/
def spanL : List (List UInt8) → Nat
  | [] => 0
  | p :: r => nbk (p.length + 21) + spanL r
/-- Rows of these records stand, one behind the other, torn maybe. -/
def RowsT (f : Nat → Blk) (g : Nat) : Nat → Nat → List (List UInt8) → Prop
  | _, _, [] => True
  | at', k, p :: r => (∀ i, i < nbk (p.length + 21) → TornB (rowBlk g (frameB g k p) i) (f (at' + i))) ∧ RowsT f g (at' + nbk (p.length + 21)) (k + 1) r
/-- They stand whole. -/
def RowsW (f : Nat → Blk) (g : Nat) : Nat → Nat → List (List UInt8) → Prop
  | _, _, [] => True
  | at', k, p :: r => (∀ i, i < nbk (p.length + 21) → f (at' + i) = rowBlk g (frameB g k p) i) ∧ RowsW f g (at' + nbk (p.length + 21)) (k + 1) r
theorem RowsW.torn {f : Nat → Blk} {g at' k : Nat} {r : List (List UInt8)} (h : RowsW f g at' k r) : RowsT f g at' k r := by
  induction r generalizing at' k with
  | nil => trivial
  | cons p r ih => exact ⟨fun i hi => Or.inl (h.1 i hi), ih h.2⟩
theorem spanL_append (a b : List (List UInt8)) : spanL (a ++ b) = spanL a + spanL b := by
  induction a with
  | nil => simp [spanL]
  | cons p a ih => simp only [List.cons_append, spanL, ih]; omega
theorem RowsT_append {f : Nat → Blk} {g at' k : Nat} {a b : List (List UInt8)} : RowsT f g at' k (a ++ b) ↔ RowsT f g at' k a ∧ RowsT f g (at' + spanL a) (k + a.length) b := by
  induction a generalizing at' k with
  | nil => simp [RowsT, spanL]
  | cons p a ih =>
    simp only [List.cons_append, RowsT, spanL, List.length_cons, ih, and_assoc]
    rw [Nat.add_assoc at', show k + (a.length + 1) = k + 1 + a.length by omega]
theorem RowsW_append {f : Nat → Blk} {g at' k : Nat} {a b : List (List UInt8)} : RowsW f g at' k (a ++ b) ↔ RowsW f g at' k a ∧ RowsW f g (at' + spanL a) (k + a.length) b := by
  induction a generalizing at' k with
  | nil => simp [RowsW, spanL]
  | cons p a ih =>
    simp only [List.cons_append, RowsW, spanL, List.length_cons, ih, and_assoc]
    rw [Nat.add_assoc at', show k + (a.length + 1) = k + 1 + a.length by omega]
theorem RowsW.congr {f f2 : Nat → Blk} {g at' k : Nat} {r : List (List UInt8)} (h : RowsW f g at' k r) (hf : ∀ i, at' ≤ i → i < at' + spanL r → f2 i = f i) : RowsW f2 g at' k r := by
  induction r generalizing at' k with
  | nil => trivial
  | cons p r ih =>
    unfold spanL at hf
    exact ⟨fun i hi => by rw [hf _ (by omega) (by omega)]; exact h.1 i hi, ih h.2 (fun i h1 h2 => hf i (by omega) (by omega))⟩
theorem spanL_ge (r : List (List UInt8)) : r.length ≤ spanL r := by
  induction r with
  | nil => simp [spanL]
  | cons p r ih => have := nbk_pos (n := p.length + 21) (by omega); simp only [spanL, List.length_cons]; omega
/-- What is found behind rows that may be torn: a beginning of them; whole ones are found. -/
theorem recsF_torn {f : Nat → Blk} {room g : Nat} (hg : g ≤ 1099511627776) (w r : List (List UInt8)) (at' k fuel : Nat)
    (hp : ∀ p ∈ w ++ r, p.length ≤ 65536) (hk : k + (w ++ r).length ≤ 2147483648) (hr : at' + spanL (w ++ r) ≤ room) (hfu : room ≤ at' + fuel)
    (hw : RowsW f g at' k w) (ht : RowsT f g (at' + spanL w) (k + w.length) r)
    (hz : rowAt f room (at' + spanL (w ++ r)) = none) :
    ∃ j, j ≤ r.length ∧ recsF f room g fuel at' k = (w ++ r.take j, at' + spanL (w ++ r.take j)) ∧ RowsW f g at' k (w ++ r.take j) ∧ rowAt f room (at' + spanL (w ++ r.take j)) = none := by
  induction w generalizing at' k fuel with
  | nil =>
    simp only [List.nil_append, spanL, Nat.add_zero, List.length_nil] at *
    induction r generalizing at' k fuel with
    | nil =>
      refine ⟨0, Nat.le_refl _, ?_, trivial, by simpa [spanL] using hz⟩
      simp only [spanL, Nat.add_zero, List.take_nil] at *
      cases fuel with
      | zero => rfl
      | succ n => unfold recsF; rw [hz]
    | cons p r ih =>
      simp only [spanL, List.length_cons, List.mem_cons, forall_eq_or_imp] at *
      have hn := nbk_pos (n := p.length + 21) (by omega)
      rcases rowAt_torn (room := room) hg (by omega : k ≤ 2147483647) hp.1 ht.1 with hh | hh
      · have hrow := rowAt_whole (room := room) hg (by omega : k ≤ 2147483647) hp.1 (by omega) hh
        cases fuel with
        | zero => omega
        | succ n =>
          obtain ⟨j, hj, e, hwj, hzj⟩ := ih (at' + nbk (p.length + 21)) (k + 1) n hp.2 (by omega) (by omega) (by omega) trivial ht.2 (by rw [Nat.add_assoc]; exact hz)
          refine ⟨j + 1, by omega, ?_, ?_, ?_⟩
          · unfold recsF
            rw [hrow]
            dsimp only
            rw [if_pos ⟨rfl, rfl⟩, e]
            simp only [List.take_succ_cons, spanL, Nat.add_assoc]
          · rw [List.take_succ_cons]; exact ⟨hh, hwj⟩
          · rw [List.take_succ_cons]; unfold spanL; rw [← Nat.add_assoc]; exact hzj
      · refine ⟨0, by omega, ?_, trivial, by simpa [spanL] using hh⟩
        cases fuel with
        | zero => rfl
        | succ n => unfold recsF; rw [hh]; rfl
  | cons p w ih =>
    simp only [List.cons_append, spanL, List.length_cons, List.mem_cons, forall_eq_or_imp] at *
    have hn := nbk_pos (n := p.length + 21) (by omega)
    have hrow := rowAt_whole (room := room) hg (by omega : k ≤ 2147483647) hp.1 (by omega) hw.1
    cases fuel with
    | zero => omega
    | succ n =>
      obtain ⟨j, hj, e, hwj, hzj⟩ := ih (at' + nbk (p.length + 21)) (k + 1) n hp.2 (by omega) (by omega) (by omega) hw.2
        (by rw [Nat.add_assoc, show k + 1 + w.length = k + (w.length + 1) by omega]; exact ht) (by rw [Nat.add_assoc]; exact hz)
      refine ⟨j, hj, ?_, ⟨hw.1, hwj⟩, by rw [← Nat.add_assoc]; exact hzj⟩
      unfold recsF
      rw [hrow]
      dsimp only
      rw [if_pos ⟨rfl, rfl⟩, e]
      simp only [Nat.add_assoc]
end Go.Proofs.Ythnhhhfjgbgpgaa.NumK
namespace Go.Proofs.Ythnhhhfjgbgpgaa.NumK
open Go.RowKit

/-! ### blocks written one behind the other -/
def wl : Nat → List Blk → List (Nat × Blk)
  | _, [] => []
  | at', b :: r => (at', b) :: wl (at' + 1) r
def wrL : DS → Nat → List Blk → Int × DS
  | s, _, [] => (0, s)
  | s, at', b :: r => if (dWrite s at' b).1 = 0 then wrL (dWrite s at' b).2 (at' + 1) r else dWrite s at' b
theorem wl_len (at' : Nat) (l : List Blk) : (wl at' l).length = l.length := by
  induction l generalizing at' with
  | nil => rfl
  | cons b r ih => simp [wl, ih]
theorem wl_append (at' : Nat) (l m : List Blk) : wl at' (l ++ m) = wl at' l ++ wl (at' + l.length) m := by
  induction l generalizing at' with
  | nil => rfl
  | cons b r ih => simp only [List.cons_append, wl, ih, List.length_cons]; rw [show at' + 1 + r.length = at' + (r.length + 1) by omega]
theorem wl_mem {at' : Nat} {l : List Blk} {w : Nat × Blk} (h : w ∈ wl at' l) : at' ≤ w.1 ∧ w.1 < at' + l.length ∧ w.2 ∈ l := by
  induction l generalizing at' with
  | nil => cases h
  | cons b r ih =>
    simp only [wl, List.mem_cons] at h
    rcases h with rfl | h
    · simp
    · have := ih h
      simp only [List.length_cons, List.mem_cons]
      exact ⟨by omega, by omega, Or.inr this.2.2⟩
theorem seeL_append (b : Blk) (l m : List (Nat × Blk)) (x : Nat) : seeL b (l ++ m) x = seeL (seeL b l x) m x := by unfold seeL; rw [List.foldl_append]
theorem seeL_none (b : Blk) (l : List (Nat × Blk)) (x : Nat) (h : ∀ w ∈ l, w.1 ≠ x) : seeL b l x = b := by
  induction l generalizing b with
  | nil => rfl
  | cons w r ih =>
    show seeL (if w.1 = x then w.2 else b) r x = b
    rw [if_neg (h w (by simp))]
    exact ih _ (fun v hv => h v (by simp [hv]))
theorem seeL_wl (b : Blk) (at' : Nat) (l : List Blk) (x : Nat) : seeL b (wl at' l) x = if at' ≤ x ∧ x < at' + l.length then l.getD (x - at') blk0 else b := by
  induction l generalizing at' b with
  | nil => rw [if_neg (by simp)]; rfl
  | cons a r ih =>
    show seeL (if at' = x then a else b) (wl (at' + 1) r) x = _
    rw [ih]
    by_cases h : at' = x
    · subst h
      rw [if_neg (by omega), if_pos rfl, if_pos (by simp only [List.length_cons]; omega), Nat.sub_self]
      rfl
    · rw [if_neg h]
      by_cases h2 : at' + 1 ≤ x ∧ x < at' + 1 + r.length
      · rw [if_pos h2, if_pos (by simp only [List.length_cons]; omega)]
        obtain ⟨d, rfl⟩ : ∃ d, x = at' + 1 + d := ⟨x - (at' + 1), by omega⟩
        rw [show at' + 1 + d - at' = d + 1 by omega, show at' + 1 + d - (at' + 1) = d by omega, List.getD_cons_succ]
      · rw [if_neg h2, if_neg (by simp only [List.length_cons]; omega)]

/-- A write: it is open then, whether the power goes or not. -/
theorem dWrite_has {s : DS} {at' : Nat} {b : Blk} (ho : s.off = false) (ha : at' < s.safe.length) :
    ((dWrite s at' b).1 = 0 ∧ (dWrite s at' b).2.off = false ∨ (dWrite s at' b).1 = 7 ∧ (dWrite s at' b).2.off = true) ∧
    (dWrite s at' b).2.safe = s.safe ∧ (dWrite s at' b).2.opn = s.opn ++ [(at', b)] ∧ (s.armed = 0 → (dWrite s at' b).1 = 0 ∧ (dWrite s at' b).2 = { s with opn := s.opn ++ [(at', b)] }) := by
  have hh : s.has (at' : Int) := ⟨by omega, by omega⟩
  unfold dWrite
  rw [ho, if_neg (by simp), if_pos hh]
  unfold dLast
  by_cases h0 : s.armed = 0
  · rw [if_pos h0]; simp [ho]
  · rw [if_neg h0]
    by_cases h1 : s.armed = 1
    · rw [if_pos h1]; simp; omega
    · rw [if_neg h1]; simp [ho]; omega
theorem wrL_post {s : DS} {at' : Nat} {l : List Blk} (ho : s.off = false) (ha : at' + l.length ≤ s.safe.length) :
    ∃ j, j ≤ l.length ∧ (wrL s at' l).2.safe = s.safe ∧ (wrL s at' l).2.opn = s.opn ++ wl at' (l.take j) ∧
      ((wrL s at' l).1 = 0 ∧ (wrL s at' l).2.off = false ∧ j = l.length ∨ (wrL s at' l).1 = 7 ∧ (wrL s at' l).2.off = true) := by
  induction l generalizing s at' with
  | nil => exact ⟨0, Nat.le_refl _, rfl, by simp [wrL, wl], Or.inl ⟨rfl, ho, rfl⟩⟩
  | cons b r ih =>
    simp only [List.length_cons] at ha
    have hw := dWrite_has (b := b) ho (by omega : at' < s.safe.length)
    rcases hw.1 with ⟨h0, h1⟩ | ⟨h0, h1⟩
    · obtain ⟨j, hj, e1, e2, e3⟩ := ih (s := (dWrite s at' b).2) (at' := at' + 1) h1 (by rw [hw.2.1]; omega)
      have e : wrL s at' (b :: r) = wrL (dWrite s at' b).2 (at' + 1) r := by rw [wrL, if_pos h0]
      rw [e]
      refine ⟨j + 1, by simp only [List.length_cons]; omega, by rw [e1, hw.2.1], ?_, ?_⟩
      · rw [e2, hw.2.2.1, List.take_succ_cons, wl, List.append_assoc]; rfl
      · rcases e3 with ⟨a, c, d⟩ | h
        · exact Or.inl ⟨a, c, by simp only [List.length_cons]; omega⟩
        · exact Or.inr h
    · have e : wrL s at' (b :: r) = dWrite s at' b := by rw [wrL, if_neg (by rw [h0]; decide)]
      rw [e]
      exact ⟨1, by simp, hw.2.1, by rw [hw.2.2.1]; rfl, Or.inr ⟨h0, h1⟩⟩
/-- Without an armed one all of them are written. -/
theorem wrL_free {s : DS} {at' : Nat} {l : List Blk} (ho : s.off = false) (ha : at' + l.length ≤ s.safe.length) (hz : s.armed = 0) :
    wrL s at' l = (0, { s with opn := s.opn ++ wl at' l }) := by
  induction l generalizing s at' with
  | nil => simp [wrL, wl]
  | cons b r ih =>
    simp only [List.length_cons] at ha
    obtain ⟨h0, h1⟩ := (dWrite_has (b := b) ho (by omega : at' < s.safe.length)).2.2.2 hz
    rw [wrL, if_pos h0, h1, ih (by exact ho) (by simpa using (by omega : at' + 1 + r.length ≤ s.safe.length)) (by exact hz)]
    simp [wl]
theorem wrL_append (s : DS) (at' : Nat) (l m : List Blk) : wrL s at' (l ++ m) = if (wrL s at' l).1 = 0 then wrL (wrL s at' l).2 (at' + l.length) m else wrL s at' l := by
  induction l generalizing s at' with
  | nil => simp [wrL]
  | cons b r ih =>
    rw [List.cons_append, wrL, wrL]
    by_cases h : (dWrite s at' b).1 = 0
    · rw [if_pos h, if_pos h, ih, List.length_cons, show at' + 1 + r.length = at' + (r.length + 1) by omega]
    · rw [if_neg h, if_neg h, if_neg h]

/-! ### what a crash leaves -/
theorem mixB_self (a : Blk) (m : Nat) : mixB a a m = a := by unfold mixB; exact List.take_append_drop m a
/-- Each block is mixed once, if no two open writes are to one place. -/
theorem crashL_mix (picks : List Int) (k : Nat) (safe : List Blk) (l : List (Nat × Blk)) (x : Nat) (hx : x < safe.length) (hd : (l.map Prod.fst).Nodup) :
    ∃ m, (crashL picks k safe l).getD x blk0 = mixB (safe.getD x blk0) (seeL (safe.getD x blk0) l x) m := by
  induction l generalizing k safe with
  | nil => exact ⟨0, (mixB_self _ _).symm⟩
  | cons w r ih =>
    rw [List.map_cons, List.nodup_cons] at hd
    rw [crashL]
    by_cases h : w.1 = x
    · subst h
      have hn : ∀ v ∈ r, v.1 ≠ w.1 := fun v hv e => hd.1 (List.mem_map.2 ⟨v, hv, e⟩)
      refine ⟨stay picks k, ?_⟩
      rw [crashL_other _ _ _ _ _ hn, getD_set_eq hx]
      show _ = mixB _ (seeL (if w.1 = w.1 then w.2 else _) r w.1) _
      rw [if_pos rfl, seeL_none _ _ _ hn]
    · obtain ⟨m, e⟩ := ih (k + 1) (safe.set w.1 (mixB (safe.getD w.1 blk0) w.2 (stay picks k))) (by rw [List.length_set]; exact hx) hd.2
      refine ⟨m, ?_⟩
      rw [e, getD_set_ne h]
      show _ = mixB _ (seeL (if w.1 = x then w.2 else _) r x) _
      rw [if_neg h]
theorem wl_fst (at' : Nat) (l : List Blk) : (wl at' l).map Prod.fst = List.range' at' l.length := by
  induction l generalizing at' with
  | nil => rfl
  | cons b r ih => simp only [wl, List.map_cons, ih, List.length_cons, List.range'_succ]
theorem wl_nodup (at' : Nat) (l : List Blk) : ((wl at' l).map Prod.fst).Nodup := by rw [wl_fst]; exact List.nodup_range'
/-- Over zeros: whole, or without its last byte. -/
theorem crash_zero (picks : List Int) (k : Nat) (safe : List Blk) (l : List (Nat × Blk)) (x : Nat) (hx : x < safe.length) (hd : (l.map Prod.fst).Nodup) (hz : safe.getD x blk0 = blk0) (hl : (seeL blk0 l x).length = 64) :
    TornB (seeL blk0 l x) ((crashL picks k safe l).getD x blk0) := by
  obtain ⟨m, e⟩ := crashL_mix picks k safe l x hx hd
  rw [e, hz]
  exact mix_torn hl m
/-- Zeros over a block: it is as it was, or lacks its first byte. -/
theorem mix_zero {b : Blk} (m : Nat) : mixB b blk0 m = b ∨ (mixB b blk0 m).getD 0 0 = 0 := by
  unfold mixB
  cases m with
  | zero => left; rfl
  | succ m => right; rfl
theorem crash_wipe (picks : List Int) (k : Nat) (safe : List Blk) (l : List (Nat × Blk)) (x : Nat) (hx : x < safe.length) (hd : (l.map Prod.fst).Nodup) (hz : seeL (safe.getD x blk0) l x = safe.getD x blk0 ∨ seeL (safe.getD x blk0) l x = blk0) :
    (crashL picks k safe l).getD x blk0 = safe.getD x blk0 ∨ ((crashL picks k safe l).getD x blk0).getD 0 0 = 0 := by
  obtain ⟨m, e⟩ := crashL_mix picks k safe l x hx hd
  rw [e]
  rcases hz with h | h
  · left; rw [h, mixB_self]
  · rw [h]; exact mix_zero m
/-- What stands in a half that was wiped in part stood in it before. -/
theorem rowAt_wiped {f f2 : Nat → Blk} {room at' : Nat} {r : Nat × Nat × List UInt8 × Nat} (h : ∀ i, i < room → f2 i = f i ∨ (f2 i).getD 0 0 = 0) (e : rowAt f2 room at' = some r) : rowAt f room at' = some r := by
  have ha : at' < room := by
    apply Classical.byContradiction
    intro hn
    rw [rowAt_room (by omega)] at e
    cases e
  have h0 : f2 at' = f at' := by
    rcases h at' ha with hh | hh
    · exact hh
    · rw [rowAt_none_first hh] at e; cases e
  rw [← e]
  unfold rowAt at e ⊢
  rw [if_neg (by omega)] at e
  rw [if_neg (by omega), if_neg (by omega), h0]
  rw [h0] at e
  cases eh : headOf (innerB (f at')) with
  | none => rfl
  | some x =>
    obtain ⟨g, k, n⟩ := x
    rw [eh] at e
    dsimp only at e ⊢
    by_cases hc : room < at' + nbk (n + 21) ∨ ¬ markedF f2 at' g (nbk (n + 21))
    · rw [if_pos hc] at e; cases e
    · have hm : markedF f2 at' g (nbk (n + 21)) := Classical.byContradiction (fun hn => hc (Or.inr hn))
      have hall : ∀ i, i < nbk (n + 21) → f (at' + i) = f2 (at' + i) := by
        intro i hi
        rcases h (at' + i) (by simp only [not_or] at hc; omega) with hh | hh
        · exact hh.symm
        · have := (hm i hi).1
          rw [hh] at this
          exact absurd this.symm (markG_ne g)
      have hm1 : markedF f at' g (nbk (n + 21)) := fun i hi => by rw [hall i hi]; exact hm i hi
      have hc1 : ¬ (room < at' + nbk (n + 21) ∨ ¬ markedF f at' g (nbk (n + 21))) := by
        simp only [not_or] at hc ⊢
        exact ⟨hc.1, fun hn => hn hm1⟩
      rw [if_neg hc, if_neg hc1, joinF_congr hall]
theorem partF_wiped {f f2 : Nat → Blk} {room : Nat} (h : ∀ i, i < room → f2 i = f i ∨ (f2 i).getD 0 0 = 0) {g : Nat} {p : List UInt8} {r : List (List UInt8)} {e : Nat} (h2 : partF f2 room = some (g, p, r, e)) :
    ∃ r2 e2, partF f room = some (g, p, r2, e2) := by
  unfold partF at h2 ⊢
  cases hr : rowAt f2 room 0 with
  | none => rw [hr] at h2; cases h2
  | some x =>
    rw [hr] at h2
    rw [rowAt_wiped h hr]
    obtain ⟨g1, k1, p1, n1⟩ := x
    dsimp only at h2 ⊢
    by_cases hc : k1 = 0 ∧ 1 ≤ g1
    · rw [if_pos hc] at h2 ⊢
      simp only [Option.some.injEq, Prod.mk.injEq] at h2
      obtain ⟨rfl, rfl, _, _⟩ := h2
      exact ⟨_, _, rfl⟩
    · rw [if_neg hc] at h2; cases h2
end Go.Proofs.Ythnhhhfjgbgpgaa.NumK
namespace Go.Proofs.Ythnhhhfjgbgpgaa.NumK
open Go.RowKit

def roomD (s : DS) : Nat := s.safe.length / 2
def halfF (s : DS) (h i : Nat) : Blk := s.see (h * roomD s + i)
/-- A log: half, generation, snapshot, records, end; has it begun? -/
structure LS where
  half : Nat
  gen : Nat
  snap : List UInt8
  recs : List (List UInt8)
  fin : Nat
  begun : Bool
def partOf (s : DS) (h : Nat) : LS :=
  match partF (halfF s h) (roomD s) with
  | none => ⟨h, 0, [], [], 0, false⟩
  | some (g, p, r, e) => ⟨h, g, p, r, e, false⟩
def lPick (s : DS) : LS := if (partOf s 1).gen ≤ (partOf s 0).gen ∧ 0 < (partOf s 0).gen then partOf s 0 else partOf s 1
def lOpen (s : DS) : Int := if s.off then 7 else if s.safe.length < 4 then 3 else 0
def rowL (g : Nat) (b : List UInt8) : List Blk := (List.range (nbk b.length)).map (rowBlk g b)
def rowsL (g : Nat) : Nat → List (List UInt8) → List Blk
  | _, [] => []
  | k, p :: r => rowL g (frameB g k p) ++ rowsL g (k + 1) r
def lBegin (s : DS) (l : LS) (snap : List UInt8) : Int × DS × LS :=
  if l.gen = 1099511627776 then (1, s, l) else
  if 65536 < snap.length then (5, s, l) else
  if roomD s < nbk (snap.length + 21) then (9, s, l) else
  let z := wrL s ((1 - l.half) * roomD s) (List.replicate (roomD s) blk0)
  if z.1 ≠ 0 then (z.1, z.2, l) else
  let y := dSync z.2
  if y.1 ≠ 0 then (y.1, y.2, l) else
  let w := wrL y.2 ((1 - l.half) * roomD s) (rowL (l.gen + 1) (frameB (l.gen + 1) 0 snap))
  if w.1 ≠ 0 then (w.1, w.2, l) else
  let v := dSync w.2
  if v.1 ≠ 0 then (v.1, v.2, l) else (0, v.2, ⟨1 - l.half, l.gen + 1, snap, [], nbk (snap.length + 21), true⟩)
def lAppend (s : DS) (l : LS) (recs : List (List UInt8)) : Int × DS × LS :=
  if l.begun = false then (14, s, l) else
  if ∃ r ∈ recs, 65536 < r.length then (5, s, l) else
  if roomD s < l.fin + spanL recs then (9, s, l) else
  if s.off then (7, s, l) else
  let w := wrL s (l.half * roomD s + l.fin) (rowsL l.gen (l.recs.length + 1) recs)
  if w.1 ≠ 0 then (w.1, w.2, l) else (0, w.2, { l with recs := l.recs ++ recs, fin := l.fin + spanL recs })

/-! ### rows as blocks -/
theorem rowL_len (g k : Nat) (p : List UInt8) : (rowL g (frameB g k p)).length = nbk (p.length + 21) := by simp [rowL, frameB_len]
theorem rowL_getD (g : Nat) (b : List UInt8) (i : Nat) (h : i < nbk b.length) : (rowL g b).getD i blk0 = rowBlk g b i := by
  simp [rowL, List.getD_eq_getElem?_getD, h]
theorem rowsL_len (g k : Nat) (r : List (List UInt8)) : (rowsL g k r).length = spanL r := by
  induction r generalizing k with
  | nil => rfl
  | cons p r ih => simp only [rowsL, List.length_append, rowL_len, ih, spanL]
theorem rowsL_append (g k : Nat) (a b : List (List UInt8)) : rowsL g k (a ++ b) = rowsL g k a ++ rowsL g (k + a.length) b := by
  induction a generalizing k with
  | nil => simp [rowsL]
  | cons p a ih => simp only [List.cons_append, rowsL, ih, List.append_assoc, List.length_cons]; rw [show k + 1 + a.length = k + (a.length + 1) by omega]
theorem getD_app_l {a b : List Blk} {i : Nat} (h : i < a.length) : (a ++ b).getD i blk0 = a.getD i blk0 := by
  simp only [List.getD_eq_getElem?_getD]; rw [List.getElem?_append_left h]
theorem getD_app_r (a b : List Blk) (i : Nat) : (a ++ b).getD (a.length + i) blk0 = b.getD i blk0 := by
  simp only [List.getD_eq_getElem?_getD]; rw [List.getElem?_append_right (by omega), Nat.add_sub_cancel_left]
theorem mem_rowsL_len {g k : Nat} {r : List (List UInt8)} {x : Blk} (h : x ∈ rowsL g k r) : x.length = 64 := by
  induction r generalizing k with
  | nil => cases h
  | cons p r ih =>
    rcases List.mem_append.1 h with h | h
    · obtain ⟨i, _, rfl⟩ := List.mem_map.1 h
      exact rowBlk_len _ _ _
    · exact ih h
theorem blk0_len : blk0.length = 64 := by simp [blk0]
/-- Rows that stand block for block, or torn. -/
theorem RowsW_of {f : Nat → Blk} {g at' k : Nat} {r : List (List UInt8)} (h : ∀ i, i < spanL r → f (at' + i) = (rowsL g k r).getD i blk0) : RowsW f g at' k r := by
  induction r generalizing at' k with
  | nil => trivial
  | cons p r ih =>
    unfold spanL at h
    refine ⟨fun i hi => ?_, ih (fun i hi => ?_)⟩
    · rw [h i (by omega), rowsL, getD_app_l (by rw [rowL_len]; exact hi), rowL_getD _ _ _ (by rw [frameB_len]; exact hi)]
    · rw [Nat.add_assoc, h _ (by omega), rowsL]
      have := getD_app_r (rowL g (frameB g k p)) (rowsL g (k + 1) r) i
      rw [rowL_len] at this
      exact this
theorem RowsT_of {f : Nat → Blk} {g at' k : Nat} {r : List (List UInt8)} (h : ∀ i, i < spanL r → TornB ((rowsL g k r).getD i blk0) (f (at' + i))) : RowsT f g at' k r := by
  induction r generalizing at' k with
  | nil => trivial
  | cons p r ih =>
    unfold spanL at h
    refine ⟨fun i hi => ?_, ih (fun i hi => ?_)⟩
    · have := h i (by omega)
      rw [rowsL, getD_app_l (by rw [rowL_len]; exact hi), rowL_getD _ _ _ (by rw [frameB_len]; exact hi)] at this
      exact this
    · have := h (nbk (p.length + 21) + i) (by omega)
      have e := getD_app_r (rowL g (frameB g k p)) (rowsL g (k + 1) r) i
      rw [rowL_len] at e
      rw [rowsL, e, ← Nat.add_assoc] at this
      exact this
theorem RowsW_getD {f : Nat → Blk} {g at' k : Nat} {r : List (List UInt8)} (h : RowsW f g at' k r) (i : Nat) (hi : i < spanL r) : f (at' + i) = (rowsL g k r).getD i blk0 := by
  induction r generalizing at' k i with
  | nil => cases hi
  | cons p r ih =>
    unfold spanL at hi
    rw [rowsL]
    by_cases hl : i < nbk (p.length + 21)
    · rw [h.1 i hl, getD_app_l (by rw [rowL_len]; exact hl), rowL_getD _ _ _ (by rw [frameB_len]; exact hl)]
    · obtain ⟨d, rfl⟩ : ∃ d, i = nbk (p.length + 21) + d := ⟨i - nbk (p.length + 21), by omega⟩
      have e := getD_app_r (rowL g (frameB g k p)) (rowsL g (k + 1) r) d
      rw [rowL_len] at e
      rw [e, ← Nat.add_assoc]
      exact ih h.2 d (by omega)

/-! ### a half with its snapshot and records, the last ones torn maybe -/
theorem partF_torn {f : Nat → Blk} {room g : Nat} (h1 : 1 ≤ g) (hg : g ≤ 1099511627776) (snap : List UInt8) (w r : List (List UInt8))
    (hs : snap.length ≤ 65536) (hp : ∀ p ∈ w ++ r, p.length ≤ 65536) (hroom : room ≤ 1000000) (hr : spanL (snap :: (w ++ r)) ≤ room)
    (hw : RowsW f g 0 0 (snap :: w)) (ht : RowsT f g (spanL (snap :: w)) (w.length + 1) r) (hz : rowAt f room (spanL (snap :: (w ++ r))) = none) :
    ∃ j, j ≤ r.length ∧ partF f room = some (g, snap, w ++ r.take j, spanL (snap :: (w ++ r.take j))) ∧ RowsW f g 0 0 (snap :: (w ++ r.take j)) := by
  have hn := spanL_ge (w ++ r)
  simp only [spanL] at hr hz ht hw
  have hrow := rowAt_whole (f := f) (room := room) (at' := 0) (k := 0) hg (by omega) hs (by omega) hw.1
  have hwt := hw.2
  simp only [Nat.zero_add] at hwt
  obtain ⟨j, hj, e, hwj, hzj⟩ := recsF_torn (f := f) (room := room) hg w r (nbk (snap.length + 21)) 1 room hp (by omega) (by omega) (by omega) hwt
    (by rw [Nat.add_comm 1]; exact ht) hz
  refine ⟨j, hj, ?_, hw.1, by simpa using hwj⟩
  unfold partF
  rw [hrow]
  dsimp only
  rw [if_pos ⟨rfl, h1⟩, e]
  rfl
theorem rowAt_blk0 {f : Nat → Blk} {room at' : Nat} (h : room ≤ at' ∨ f at' = blk0) : rowAt f room at' = none := by
  rcases h with h | h
  · exact rowAt_room h
  · exact rowAt_none_last (by rw [h]; exact blk0_getD _)

/-- A log on a disk: synced are its snapshot and the records w, open is a beginning of the blocks of r. -/
structure LG (s : DS) (h g : Nat) (snap : List UInt8) (w r : List (List UInt8)) : Prop where
  h2 : h < 2
  g1 : 1 ≤ g
  g2 : g ≤ 1099511627776
  big : s.safe.length ≤ 65536
  snapS : snap.length ≤ 65536
  recS : ∀ p ∈ w ++ r, p.length ≤ 65536
  fits : spanL (snap :: (w ++ r)) ≤ roomD s
  rows : RowsW (fun i => s.safe.getD (h * roomD s + i) blk0) g 0 0 (snap :: w)
  zero : ∀ i, spanL (snap :: w) ≤ i → i < roomD s → s.safe.getD (h * roomD s + i) blk0 = blk0
  opn : ∃ j, s.opn = wl (h * roomD s + spanL (snap :: w)) ((rowsL g (w.length + 1) r).take j)
  other : ∀ g2 p2 r2 e2, partF (fun i => s.safe.getD ((1 - h) * roomD s + i) blk0) (roomD s) = some (g2, p2, r2, e2) → g2 < g
end Go.Proofs.Ythnhhhfjgbgpgaa.NumK
namespace Go.Proofs.Ythnhhhfjgbgpgaa.NumK
open Go.RowKit

theorem lPick_of {s : DS} {h g : Nat} {p : List UInt8} {r : List (List UInt8)} {e : Nat} (h2 : h < 2) (hg : 1 ≤ g) (hp : partF (halfF s h) (roomD s) = some (g, p, r, e))
    (ho : ∀ g2 p2 r2 e2, partF (halfF s (1 - h)) (roomD s) = some (g2, p2, r2, e2) → g2 < g) : lPick s = ⟨h, g, p, r, e, false⟩ := by
  have e1 : partOf s h = ⟨h, g, p, r, e, false⟩ := by unfold partOf; rw [hp]
  have e2 : (partOf s (1 - h)).gen < g := by
    unfold partOf
    cases ec : partF (halfF s (1 - h)) (roomD s) with
    | none => exact hg
    | some x => obtain ⟨a, b, c, d⟩ := x; exact ho a b c d ec
  unfold lPick
  rcases (by omega : h = 0 ∨ h = 1) with rfl | rfl
  · change (partOf s 1).gen < g at e2
    rw [e1]
    rw [if_pos ⟨by show (partOf s 1).gen ≤ g; omega, hg⟩]
  · change (partOf s 0).gen < g at e2
    rw [e1, if_neg]
    intro hc
    have : g ≤ (partOf s 0).gen := hc.1
    omega
/-- A disk that has crashed and started. -/
def dAfter (s : DS) (picks : List Int) : DS := dStart (dCrash s picks)
theorem dAfter_eq (s : DS) (picks : List Int) : dAfter s picks = ⟨crashL picks 0 s.safe s.opn, [], false, 0, false⟩ := rfl
theorem dAfter_see (s : DS) (picks : List Int) (x : Nat) : (dAfter s picks).see x = (crashL picks 0 s.safe s.opn).getD x blk0 := rfl
theorem dAfter_room (s : DS) (picks : List Int) : roomD (dAfter s picks) = roomD s := by
  unfold roomD; rw [dAfter_eq]; show (crashL picks 0 s.safe s.opn).length / 2 = _; rw [crashL_len]
theorem half_lt {s : DS} {h i : Nat} (h2 : h < 2) (hi : i < roomD s) : h * roomD s + i < s.safe.length := by
  unfold roomD at *
  rcases (by omega : h = 0 ∨ h = 1) with rfl | rfl <;> omega
theorem half_ne {s : DS} {h i k : Nat} (h2 : h < 2) (hi : i < roomD s) (hk : k < roomD s) : (1 - h) * roomD s + i ≠ h * roomD s + k := by
  rcases (by omega : h = 0 ∨ h = 1) with rfl | rfl <;> omega
theorem take_getD {l : List Blk} {j i : Nat} (h : i < (l.take j).length) : (l.take j).getD i blk0 = l.getD i blk0 := by
  have : i < j := by rw [List.length_take] at h; omega
  simp only [List.getD_eq_getElem?_getD]; rw [List.getElem?_take_of_lt this]
theorem LG.crash {s : DS} {h g : Nat} {snap : List UInt8} {w r : List (List UInt8)} (L : LG s h g snap w r) (picks : List Int) :
    ∃ j, j ≤ r.length ∧ lPick (dAfter s picks) = ⟨h, g, snap, w ++ r.take j, spanL (snap :: (w ++ r.take j)), false⟩ := by
  obtain ⟨j0, ho⟩ := L.opn
  have hlen : ((rowsL g (w.length + 1) r).take j0).length ≤ spanL r := by rw [List.length_take, rowsL_len]; omega
  have hfit := L.fits
  have hsp : spanL (snap :: (w ++ r)) = spanL (snap :: w) + spanL r := by rw [← List.cons_append, spanL_append]
  have hd : (s.opn.map Prod.fst).Nodup := by rw [ho]; exact wl_nodup _ _
  have hin : ∀ v ∈ s.opn, h * roomD s + spanL (snap :: w) ≤ v.1 ∧ v.1 < h * roomD s + spanL (snap :: w) + spanL r := by
    intro v hv
    rw [ho] at hv
    have := wl_mem hv
    omega
  -- the half
  have a1 : ∀ i, i < spanL (snap :: w) → halfF (dAfter s picks) h i = s.safe.getD (h * roomD s + i) blk0 := by
    intro i hi
    unfold halfF
    rw [dAfter_room, dAfter_see]
    exact crashL_other _ _ _ _ _ (fun v hv e => by have := hin v hv; omega)
  have a2 : ∀ i, i < spanL r → TornB ((rowsL g (w.length + 1) r).getD i blk0) (halfF (dAfter s picks) h (spanL (snap :: w) + i)) := by
    intro i hi
    unfold halfF
    rw [dAfter_room, dAfter_see]
    have hx : h * roomD s + (spanL (snap :: w) + i) < s.safe.length := half_lt L.h2 (by omega)
    have hz := L.zero (spanL (snap :: w) + i) (by omega) (by omega)
    have hsee : seeL blk0 s.opn (h * roomD s + (spanL (snap :: w) + i)) = if i < ((rowsL g (w.length + 1) r).take j0).length then (rowsL g (w.length + 1) r).getD i blk0 else blk0 := by
      rw [ho, seeL_wl, show h * roomD s + (spanL (snap :: w) + i) - (h * roomD s + spanL (snap :: w)) = i by omega]
      by_cases hc : i < ((rowsL g (w.length + 1) r).take j0).length
      · rw [if_pos hc, if_pos (by omega), take_getD hc]
      · rw [if_neg hc, if_neg (by omega)]
    have hm : (rowsL g (w.length + 1) r).getD i blk0 ∈ rowsL g (w.length + 1) r := by
      rw [List.getD_eq_getElem?_getD, List.getElem?_eq_getElem (by rw [rowsL_len]; exact hi)]
      exact List.getElem_mem _
    have ht := crash_zero picks 0 s.safe s.opn _ hx hd hz (by
      rw [hsee]
      split
      · exact mem_rowsL_len hm
      · exact blk0_len)
    rw [hsee] at ht
    split at ht
    · exact ht
    · rcases ht with ht | ht
      · right; rw [ht]; exact blk0_getD _
      · exact Or.inr ht
  have a3 : rowAt (halfF (dAfter s picks) h) (roomD s) (spanL (snap :: (w ++ r))) = none := by
    apply rowAt_blk0
    by_cases hc : roomD s ≤ spanL (snap :: (w ++ r))
    · exact Or.inl hc
    · right
      unfold halfF
      rw [dAfter_room, dAfter_see, crashL_other _ _ _ _ _ (fun v hv e => by have := hin v hv; omega)]
      exact L.zero _ (by omega) (by omega)
  have hrows : RowsW (halfF (dAfter s picks) h) g 0 0 (snap :: w) := L.rows.congr (fun i _ hi => a1 i (by omega))
  obtain ⟨j, hj, e, _⟩ := partF_torn L.g1 L.g2 snap w r L.snapS L.recS (by have := L.big; unfold roomD; omega) hfit hrows (RowsT_of a2) a3
  refine ⟨j, hj, lPick_of L.h2 L.g1 (by rw [dAfter_room]; exact e) ?_⟩
  intro g2 p2 r2 e2 hc
  refine L.other g2 p2 r2 e2 ?_
  rw [← hc, dAfter_room]
  apply partF_congr
  intro i hi
  unfold halfF
  rw [dAfter_room, dAfter_see]
  refine (crashL_other _ _ _ _ _ (fun v hv e => ?_)).symm
  have h1 := hin v hv
  have h3 := half_ne (s := s) (h := h) (i := i) (k := v.1 - h * roomD s) L.h2 hi (by omega)
  omega
/-- The log as it stands on a disk whose blocks are all open or synced: what Open finds. -/
theorem LG.seen {s : DS} {h g : Nat} {snap : List UInt8} {w r : List (List UInt8)} (L : LG s h g snap w r) (hall : s.opn = wl (h * roomD s + spanL (snap :: w)) (rowsL g (w.length + 1) r)) :
    lPick s = ⟨h, g, snap, w ++ r, spanL (snap :: (w ++ r)), false⟩ := by
  have hfit := L.fits
  have hsp : spanL (snap :: (w ++ r)) = spanL (snap :: w) + spanL r := by rw [← List.cons_append, spanL_append]
  have see : ∀ x, s.see x = if h * roomD s + spanL (snap :: w) ≤ x ∧ x < h * roomD s + spanL (snap :: w) + spanL r then (rowsL g (w.length + 1) r).getD (x - (h * roomD s + spanL (snap :: w))) blk0 else s.safe.getD x blk0 := by
    intro x
    unfold DS.see
    rw [hall, seeL_wl, rowsL_len]
  have hw : RowsW (halfF s h) g 0 0 (snap :: (w ++ r)) := by
    rw [← List.cons_append, RowsW_append]
    refine ⟨L.rows.congr (fun i _ hi => ?_), RowsW_of (fun i hi => ?_)⟩
    · unfold halfF; rw [see, if_neg (by omega)]
    · unfold halfF
      rw [see, if_pos (by omega), show h * roomD s + (0 + spanL (snap :: w) + i) - (h * roomD s + spanL (snap :: w)) = i by omega]
      rw [List.length_cons, Nat.zero_add]
  have hz : rowAt (halfF s h) (roomD s) (spanL (snap :: (w ++ r))) = none := by
    apply rowAt_blk0
    by_cases hc : roomD s ≤ spanL (snap :: (w ++ r))
    · exact Or.inl hc
    · right
      unfold halfF
      rw [see, if_neg (by omega)]
      exact L.zero _ (by omega) (by omega)
  obtain ⟨j, hj, e, _⟩ := partF_torn (f := halfF s h) (room := roomD s) L.g1 L.g2 snap (w ++ r) [] L.snapS (by rw [List.append_nil]; exact L.recS) (by have := L.big; unfold roomD; omega) (by rw [List.append_nil]; exact hfit) hw trivial (by rw [List.append_nil]; exact hz)
  simp only [List.take_nil, List.append_nil] at e
  refine lPick_of L.h2 L.g1 e ?_
  intro g2 p2 r2 e2 hc
  refine L.other g2 p2 r2 e2 ?_
  rw [← hc]
  apply partF_congr
  intro i hi
  unfold halfF
  rw [see, if_neg]
  intro hh
  have h3 := half_ne (s := s) (h := h) (i := i) (k := (1 - h) * roomD s + i - h * roomD s) L.h2 hi (by omega)
  omega
/-- Sync: all that was appended is safe. -/
theorem LG.sync {s : DS} {h g : Nat} {snap : List UInt8} {w r : List (List UInt8)} (L : LG s h g snap w r) (hall : s.opn = wl (h * roomD s + spanL (snap :: w)) (rowsL g (w.length + 1) r)) (s2 : DS)
    (h1 : s2.safe = applyL s.safe s.opn) (h2 : s2.opn = []) : LG s2 h g snap (w ++ r) [] := by
  have hfit := L.fits
  have hsp : spanL (snap :: (w ++ r)) = spanL (snap :: w) + spanL r := by rw [← List.cons_append, spanL_append]
  have hroom : roomD s2 = roomD s := by unfold roomD; rw [h1, applyL_len]
  have see : ∀ x, x < s.safe.length → s2.safe.getD x blk0 = if h * roomD s + spanL (snap :: w) ≤ x ∧ x < h * roomD s + spanL (snap :: w) + spanL r then (rowsL g (w.length + 1) r).getD (x - (h * roomD s + spanL (snap :: w))) blk0 else s.safe.getD x blk0 := by
    intro x hx
    rw [h1, applyL_see _ _ _ hx, hall, seeL_wl, rowsL_len]
  refine ⟨L.h2, L.g1, L.g2, by rw [h1, applyL_len]; exact L.big, L.snapS, by rw [List.append_nil]; exact L.recS, by rw [List.append_nil, hroom]; exact hfit, ?_, ?_, ⟨0, by rw [h2]; rfl⟩, ?_⟩
  · rw [hroom, ← List.cons_append, RowsW_append]
    refine ⟨L.rows.congr (fun i _ hi => ?_), RowsW_of (fun i hi => ?_)⟩
    · rw [see _ (half_lt L.h2 (by omega)), if_neg (by omega)]
    · rw [see _ (half_lt L.h2 (by omega)), if_pos (by omega), show h * roomD s + (0 + spanL (snap :: w) + i) - (h * roomD s + spanL (snap :: w)) = i by omega]
      rw [List.length_cons, Nat.zero_add]
  · intro i hi1 hi2
    rw [hroom] at hi2 ⊢
    rw [see _ (half_lt L.h2 hi2), if_neg (by omega)]
    exact L.zero i (by omega) hi2
  · intro g2 p2 r2 e2 hc
    refine L.other g2 p2 r2 e2 ?_
    rw [← hc, hroom]
    apply partF_congr
    intro i hi
    rw [see _ (half_lt (by omega) hi), if_neg]
    intro hh
    have h3 := half_ne (s := s) (h := h) (i := i) (k := (1 - h) * roomD s + i - h * roomD s) L.h2 hi (by omega)
    omega
end Go.Proofs.Ythnhhhfjgbgpgaa.NumK
namespace Go.Proofs.Ythnhhhfjgbgpgaa.NumK
open Go.RowKit

theorem roomD_of {s s2 : DS} (h : s2.safe = s.safe) : roomD s2 = roomD s := by unfold roomD; rw [h]
/-- Append: the rows stand behind, open; or the power goes, with some of their blocks. -/
theorem LG.append {s : DS} {h g : Nat} {snap : List UInt8} {w r : List (List UInt8)} (L : LG s h g snap w r) (hall : s.opn = wl (h * roomD s + spanL (snap :: w)) (rowsL g (w.length + 1) r))
    (ho : s.off = false) (recs : List (List UInt8)) (hp : ∀ p ∈ recs, p.length ≤ 65536) (hf : spanL (snap :: (w ++ r)) + spanL recs ≤ roomD s) :
    LG (lAppend s ⟨h, g, snap, w ++ r, spanL (snap :: (w ++ r)), true⟩ recs).2.1 h g snap w (r ++ recs) ∧
    roomD (lAppend s ⟨h, g, snap, w ++ r, spanL (snap :: (w ++ r)), true⟩ recs).2.1 = roomD s ∧
    ((lAppend s ⟨h, g, snap, w ++ r, spanL (snap :: (w ++ r)), true⟩ recs).1 = 0 ∧ (lAppend s ⟨h, g, snap, w ++ r, spanL (snap :: (w ++ r)), true⟩ recs).2.1.off = false ∧
      (lAppend s ⟨h, g, snap, w ++ r, spanL (snap :: (w ++ r)), true⟩ recs).2.1.opn = wl (h * roomD s + spanL (snap :: w)) (rowsL g (w.length + 1) (r ++ recs)) ∧
      (lAppend s ⟨h, g, snap, w ++ r, spanL (snap :: (w ++ r)), true⟩ recs).2.2 = ⟨h, g, snap, w ++ (r ++ recs), spanL (snap :: (w ++ (r ++ recs))), true⟩ ∨
     (lAppend s ⟨h, g, snap, w ++ r, spanL (snap :: (w ++ r)), true⟩ recs).1 = 7 ∧ (lAppend s ⟨h, g, snap, w ++ r, spanL (snap :: (w ++ r)), true⟩ recs).2.1.off = true) := by
  have hsp : spanL (snap :: (w ++ r)) = spanL (snap :: w) + spanL r := by rw [← List.cons_append, spanL_append]
  have hsp2 : spanL (snap :: (w ++ (r ++ recs))) = spanL (snap :: (w ++ r)) + spanL recs := by rw [← List.append_assoc, ← List.cons_append, spanL_append]
  have hlast : h * roomD s + roomD s ≤ s.safe.length := by
    have := L.h2
    unfold roomD
    rcases (by omega : h = 0 ∨ h = 1) with rfl | rfl <;> omega
  obtain ⟨j, hj, e1, e2, e3⟩ := wrL_post (l := rowsL g ((w ++ r).length + 1) recs) (at' := h * roomD s + spanL (snap :: (w ++ r))) ho (by rw [rowsL_len]; omega)
  have hrows : rowsL g (w.length + 1) (r ++ recs) = rowsL g (w.length + 1) r ++ rowsL g ((w ++ r).length + 1) recs := by
    rw [rowsL_append, List.length_append, show w.length + 1 + r.length = w.length + r.length + 1 by omega]
  have hopn : (wrL s (h * roomD s + spanL (snap :: (w ++ r))) (rowsL g ((w ++ r).length + 1) recs)).2.opn = wl (h * roomD s + spanL (snap :: w)) ((rowsL g (w.length + 1) (r ++ recs)).take (spanL r + j)) := by
    have ht : (rowsL g (w.length + 1) (r ++ recs)).take (spanL r + j) = rowsL g (w.length + 1) r ++ (rowsL g ((w ++ r).length + 1) recs).take j := by
      have hl := rowsL_len g (w.length + 1) r
      rw [hrows, ← hl, List.take_length_add_append]
    rw [e2, ht, wl_append, hall, rowsL_len, hsp, Nat.add_assoc]
  have hroom : roomD (wrL s (h * roomD s + spanL (snap :: (w ++ r))) (rowsL g ((w ++ r).length + 1) recs)).2 = roomD s := roomD_of e1
  have L2 : LG (wrL s (h * roomD s + spanL (snap :: (w ++ r))) (rowsL g ((w ++ r).length + 1) recs)).2 h g snap w (r ++ recs) := by
    refine ⟨L.h2, L.g1, L.g2, by rw [e1]; exact L.big, L.snapS, ?_, by rw [hroom, hsp2]; exact hf, by rw [hroom, e1]; exact L.rows, by rw [hroom, e1]; exact L.zero, ⟨spanL r + j, by rw [hroom]; exact hopn⟩, by rw [hroom, e1]; exact L.other⟩
    intro p hp2
    rw [← List.append_assoc] at hp2
    rcases List.mem_append.1 hp2 with hp2 | hp2
    · exact L.recS p hp2
    · exact hp p hp2
  have hc : ¬ ∃ x ∈ recs, 65536 < x.length := fun ⟨x, hx, hl⟩ => by have := hp x hx; omega
  have E : lAppend s ⟨h, g, snap, w ++ r, spanL (snap :: (w ++ r)), true⟩ recs =
      if (wrL s (h * roomD s + spanL (snap :: (w ++ r))) (rowsL g ((w ++ r).length + 1) recs)).1 ≠ 0
      then ((wrL s (h * roomD s + spanL (snap :: (w ++ r))) (rowsL g ((w ++ r).length + 1) recs)).1, (wrL s (h * roomD s + spanL (snap :: (w ++ r))) (rowsL g ((w ++ r).length + 1) recs)).2, ⟨h, g, snap, w ++ r, spanL (snap :: (w ++ r)), true⟩)
      else (0, (wrL s (h * roomD s + spanL (snap :: (w ++ r))) (rowsL g ((w ++ r).length + 1) recs)).2, ⟨h, g, snap, (w ++ r) ++ recs, spanL (snap :: (w ++ r)) + spanL recs, true⟩) := by
    unfold lAppend
    rw [if_neg (by simp), if_neg hc, if_neg (by dsimp only; omega), ho, if_neg (by simp)]
  rcases e3 with ⟨a, b, c⟩ | ⟨a, b⟩
  · rw [E, if_neg (by rw [a]; simp)]
    refine ⟨L2, hroom, Or.inl ⟨rfl, b, ?_, ?_⟩⟩
    · dsimp only
      rw [hopn, List.take_of_length_le (by rw [rowsL_len, spanL_append, c, rowsL_len]; omega)]
    · dsimp only
      rw [hsp2, List.append_assoc]
  · rw [E, if_pos (by rw [a]; decide)]
    exact ⟨L2, hroom, Or.inr ⟨a, b⟩⟩

/-! ### Begin -/
theorem partOf_half (s : DS) (h : Nat) : (partOf s h).half = h := by
  unfold partOf
  cases partF (halfF s h) (roomD s) with
  | none => rfl
  | some x => rfl
theorem partOf_congr {s s2 : DS} {h : Nat} (hr : roomD s2 = roomD s) (hf : ∀ i, i < roomD s → halfF s2 h i = halfF s h i) : partOf s2 h = partOf s h := by
  unfold partOf
  rw [hr, partF_congr hf]
theorem lPick_keep {s s2 : DS} {h : Nat} (h2 : h < 2) (hr : roomD s2 = roomD s) (hh : (lPick s).half = h) (hf : ∀ i, i < roomD s → halfF s2 h i = halfF s h i)
    (ho : ∀ g p r e, partF (halfF s2 (1 - h)) (roomD s) = some (g, p, r, e) → ∃ r2 e2, partF (halfF s (1 - h)) (roomD s) = some (g, p, r2, e2)) : lPick s2 = lPick s := by
  have e1 := partOf_congr hr hf
  have e2 : (partOf s2 (1 - h)).gen = (partOf s (1 - h)).gen ∨ (partOf s2 (1 - h)).gen = 0 := by
    unfold partOf
    rw [hr]
    cases e : partF (halfF s2 (1 - h)) (roomD s) with
    | none => right; rfl
    | some x =>
      obtain ⟨a, b, c, d⟩ := x
      obtain ⟨r2, e2, h3⟩ := ho a b c d e
      left; rw [h3]
  unfold lPick at hh ⊢
  rcases (by omega : h = 0 ∨ h = 1) with rfl | rfl
  · simp only [Nat.sub_zero] at e2
    by_cases hc : (partOf s 1).gen ≤ (partOf s 0).gen ∧ 0 < (partOf s 0).gen
    · rw [if_pos hc, e1, if_pos (by omega)]
    · rw [if_neg hc, partOf_half] at hh; cases hh
  · simp only [Nat.sub_self] at e2
    by_cases hc : (partOf s 1).gen ≤ (partOf s 0).gen ∧ 0 < (partOf s 0).gen
    · rw [if_pos hc, partOf_half] at hh; cases hh
    · rw [if_neg hc, e1, if_neg (by omega)]
theorem dSync_post {s : DS} (ho : s.off = false) :
    ((dSync s).1 = 0 ∧ (dSync s).2.off = false ∧ (dSync s).2.opn = [] ∧ (dSync s).2.safe = applyL s.safe s.opn) ∨
    ((dSync s).1 = 7 ∧ (dSync s).2.off = true ∧ (dSync s).2.opn = s.opn ∧ (dSync s).2.safe = s.safe) := by
  unfold dSync
  rw [ho, if_neg (by simp)]
  unfold dLast
  by_cases h0 : s.armed = 0
  · rw [if_pos h0]; simp [ho]
  · rw [if_neg h0]
    by_cases h1 : s.armed = 1
    · rw [if_pos h1]; simp
    · rw [if_neg h1]; simp [ho]
/-- The other half wiped in part: the same log is found. -/
theorem wipe_keep {s s2 : DS} {h n : Nat} (picks : List Int) (h2 : h < 2) (hh : (lPick s).half = h) (hs : s.opn = []) (hn : n ≤ roomD s)
    (e1 : s2.safe = s.safe) (e2 : s2.opn = wl ((1 - h) * roomD s) (List.replicate n blk0)) : lPick (dAfter s2 picks) = lPick s := by
  have hr2 : roomD s2 = roomD s := by unfold roomD; rw [e1]
  have hse : ∀ x, s.see x = s.safe.getD x blk0 := by intro x; unfold DS.see; rw [hs]; rfl
  have hin : ∀ v ∈ s2.opn, (1 - h) * roomD s ≤ v.1 ∧ v.1 < (1 - h) * roomD s + n := by
    intro v hv
    rw [e2] at hv
    have := wl_mem hv
    simp only [List.length_replicate] at this
    omega
  refine lPick_keep h2 (by rw [dAfter_room, hr2]) hh ?_ ?_
  · intro i hi
    unfold halfF
    rw [dAfter_room, hr2, dAfter_see, hse, crashL_other, e1]
    intro v hv e
    have h1 := hin v hv
    have h3 := half_ne (s := s) (h := h) (i := v.1 - (1 - h) * roomD s) (k := i) h2 (by omega) hi
    omega
  · intro g p r e hc
    refine partF_wiped (f2 := halfF (dAfter s2 picks) (1 - h)) ?_ hc
    intro i hi
    unfold halfF
    rw [dAfter_room, hr2, dAfter_see, hse, ← e1]
    have hx : (1 - h) * roomD s + i < s2.safe.length := by rw [e1]; exact half_lt (by omega) hi
    refine crash_wipe picks 0 s2.safe s2.opn _ hx (by rw [e2]; exact wl_nodup _ _) ?_
    rw [e2, seeL_wl]
    split
    · right
      rw [List.getD_eq_getElem?_getD, List.getElem?_replicate]
      split <;> rfl
    · left; rfl
end Go.Proofs.Ythnhhhfjgbgpgaa.NumK
namespace Go.Proofs.Ythnhhhfjgbgpgaa.NumK
open Go.RowKit

/-- The other half holds zeros, all is synced. -/
structure Wiped (s s3 : DS) (h : Nat) : Prop where
  len : s3.safe.length = s.safe.length
  zero : ∀ i, i < roomD s → s3.safe.getD ((1 - h) * roomD s + i) blk0 = blk0
  same : ∀ i, i < roomD s → s3.safe.getD (h * roomD s + i) blk0 = s.safe.getD (h * roomD s + i) blk0
  opn : s3.opn = []
theorem wiped_of {s s3 : DS} {h : Nat} (h2 : h < 2) (e1 : s3.safe = applyL s.safe (wl ((1 - h) * roomD s) (List.replicate (roomD s) blk0))) (e2 : s3.opn = []) : Wiped s s3 h := by
  refine ⟨by rw [e1, applyL_len], fun i hi => ?_, fun i hi => ?_, e2⟩
  · rw [e1, applyL_see _ _ _ (half_lt (by omega) hi), seeL_wl, List.length_replicate, if_pos (by omega), List.getD_eq_getElem?_getD, List.getElem?_replicate]
    split <;> rfl
  · rw [e1, applyL_see _ _ _ (half_lt h2 hi), seeL_wl, List.length_replicate, if_neg]
    intro hc
    have h3 := half_ne (s := s) (h := h) (i := h * roomD s + i - (1 - h) * roomD s) (k := i) h2 (by omega) hi
    omega
/-- The row written in part: the old log, or the new one. -/
theorem row_torn {s s3 s4 : DS} {h g : Nat} {snap : List UInt8} (picks : List Int) (h2 : h < 2) (hh : (lPick s).half = h) (hs : s.opn = []) (W : Wiped s s3 h)
    (hg : (partOf s h).gen ≤ g) (hg2 : g < 1099511627776) (hp : snap.length ≤ 65536) (hr : nbk (snap.length + 21) ≤ roomD s)
    (e1 : s4.safe = s3.safe) (j : Nat) (e2 : s4.opn = wl ((1 - h) * roomD s) ((rowL (g + 1) (frameB (g + 1) 0 snap)).take j)) :
    lPick (dAfter s4 picks) = lPick s ∨ lPick (dAfter s4 picks) = ⟨1 - h, g + 1, snap, [], nbk (snap.length + 21), false⟩ := by
  have hlen : s4.safe.length = s.safe.length := by rw [e1, W.len]
  have hroom : roomD (dAfter s4 picks) = roomD s := by rw [dAfter_room]; unfold roomD; rw [hlen]
  have hse : ∀ x, s.see x = s.safe.getD x blk0 := by intro x; unfold DS.see; rw [hs]; rfl
  have hl : ((rowL (g + 1) (frameB (g + 1) 0 snap)).take j).length ≤ nbk (snap.length + 21) := by rw [List.length_take, rowL_len]; omega
  have hin : ∀ v ∈ s4.opn, (1 - h) * roomD s ≤ v.1 ∧ v.1 < (1 - h) * roomD s + nbk (snap.length + 21) := by
    intro v hv
    rw [e2] at hv
    have := wl_mem hv
    omega
  have old : ∀ i, i < roomD s → halfF (dAfter s4 picks) h i = halfF s h i := by
    intro i hi
    unfold halfF
    rw [hroom, dAfter_see, hse, crashL_other, e1]
    · exact W.same i hi
    · intro v hv e
      have h1 := hin v hv
      have h3 := half_ne (s := s) (h := h) (i := v.1 - (1 - h) * roomD s) (k := i) h2 (by omega) hi
      omega
  have torn : ∀ i, i < nbk (snap.length + 21) → TornB (rowBlk (g + 1) (frameB (g + 1) 0 snap) i) (halfF (dAfter s4 picks) (1 - h) (0 + i)) := by
    intro i hi
    rw [Nat.zero_add]
    unfold halfF
    rw [hroom, dAfter_see]
    have hx : (1 - h) * roomD s + i < s4.safe.length := by rw [hlen]; exact half_lt (by omega) (by omega)
    have hz : s4.safe.getD ((1 - h) * roomD s + i) blk0 = blk0 := by rw [e1]; exact W.zero i (by omega)
    have hsee : seeL blk0 s4.opn ((1 - h) * roomD s + i) = if i < ((rowL (g + 1) (frameB (g + 1) 0 snap)).take j).length then rowBlk (g + 1) (frameB (g + 1) 0 snap) i else blk0 := by
      rw [e2, seeL_wl, show (1 - h) * roomD s + i - (1 - h) * roomD s = i by omega]
      by_cases hc : i < ((rowL (g + 1) (frameB (g + 1) 0 snap)).take j).length
      · rw [if_pos hc, if_pos (by omega), take_getD hc, rowL_getD _ _ _ (by rw [frameB_len]; exact hi)]
      · rw [if_neg hc, if_neg (by omega)]
    have ht := crash_zero picks 0 s4.safe s4.opn _ hx (by rw [e2]; exact wl_nodup _ _) hz (by
      rw [hsee]
      split
      · exact rowBlk_len _ _ _
      · exact blk0_len)
    rw [hsee] at ht
    split at ht
    · exact ht
    · rcases ht with ht | ht
      · right; rw [ht]; exact blk0_getD _
      · exact Or.inr ht
  have behind : rowAt (halfF (dAfter s4 picks) (1 - h)) (roomD s) (nbk (snap.length + 21)) = none := by
    apply rowAt_blk0
    by_cases hc : roomD s ≤ nbk (snap.length + 21)
    · exact Or.inl hc
    · right
      unfold halfF
      rw [hroom, dAfter_see, crashL_other _ _ _ _ _ (fun v hv e => by have := hin v hv; omega), e1]
      exact W.zero _ (by omega)
  rcases rowAt_torn (room := roomD s) (by omega : g + 1 ≤ 1099511627776) (by omega : 0 ≤ 2147483647) hp torn with hw | hw
  · right
    have hrow := rowAt_whole (room := roomD s) (by omega : g + 1 ≤ 1099511627776) (by omega : 0 ≤ 2147483647) hp (by omega) hw
    have hrec : recsF (halfF (dAfter s4 picks) (1 - h)) (roomD s) (g + 1) (roomD s) (nbk (snap.length + 21)) 1 = ([], nbk (snap.length + 21)) := by
      have hpos := nbk_pos (n := snap.length + 21) (by omega)
      obtain ⟨m, hm⟩ := Nat.exists_eq_succ_of_ne_zero (by omega : roomD s ≠ 0)
      rw [recsF_fuel (roomD s) (m + 1) _ _ (by omega) (by omega)]
      unfold recsF
      rw [behind]
    refine lPick_of (by omega) (by omega) ?_ ?_
    · rw [hroom]
      unfold partF
      rw [hrow]
      dsimp only
      rw [if_pos ⟨rfl, by omega⟩, hrec]
    · intro g2 p2 r2 e3 hc
      rw [show 1 - (1 - h) = h by omega, hroom, partF_congr old] at hc
      unfold partOf at hg
      rw [hc] at hg
      change g2 ≤ g at hg
      omega
  · left
    refine lPick_keep h2 hroom hh old ?_
    intro g2 p2 r2 e3 hc
    unfold partF at hc
    rw [hw] at hc
    cases hc
/-- The row whole, and synced: the new log. -/
theorem row_whole {s s3 s5 : DS} {h g : Nat} {snap : List UInt8} (h2 : h < 2) (hs : s.opn = []) (W : Wiped s s3 h) (hbig : s.safe.length ≤ 65536)
    (hg : (partOf s h).gen ≤ g) (hg2 : g < 1099511627776) (hp : snap.length ≤ 65536) (hr : nbk (snap.length + 21) ≤ roomD s)
    (e1 : s5.safe = applyL s3.safe (wl ((1 - h) * roomD s) (rowL (g + 1) (frameB (g + 1) 0 snap)))) (e2 : s5.opn = []) :
    LG s5 (1 - h) (g + 1) snap [] [] ∧ ∀ i, i < roomD s → s5.safe.getD (h * roomD s + i) blk0 = s.safe.getD (h * roomD s + i) blk0 := by
  have hlen : s5.safe.length = s.safe.length := by rw [e1, applyL_len, W.len]
  have hroom : roomD s5 = roomD s := by unfold roomD; rw [hlen]
  have hse : ∀ x, s.see x = s.safe.getD x blk0 := by intro x; unfold DS.see; rw [hs]; rfl
  have see : ∀ x, x < s.safe.length → s5.safe.getD x blk0 = if (1 - h) * roomD s ≤ x ∧ x < (1 - h) * roomD s + nbk (snap.length + 21) then (rowL (g + 1) (frameB (g + 1) 0 snap)).getD (x - (1 - h) * roomD s) blk0 else s3.safe.getD x blk0 := by
    intro x hx
    rw [e1, applyL_see _ _ _ (by rw [W.len]; exact hx), seeL_wl, rowL_len]
  have sp : spanL [snap] = nbk (snap.length + 21) := rfl
  have hf : ∀ i, i < roomD s → s5.safe.getD (h * roomD s + i) blk0 = halfF s h i := by
    intro i hi
    unfold halfF
    rw [hse, see _ (half_lt h2 hi), if_neg, W.same i hi]
    intro hcc
    have h3 := half_ne (s := s) (h := h) (i := h * roomD s + i - (1 - h) * roomD s) (k := i) h2 (by omega) hi
    omega
  refine ⟨?_, fun i hi => by rw [hf i hi]; exact hse _⟩
  refine ⟨by omega, by omega, by omega, by rw [hlen]; exact hbig, hp, by simp, by rw [hroom]; exact hr, ?_, ?_, ⟨0, by rw [e2]; rfl⟩, ?_⟩
  · rw [hroom]
    refine ⟨fun i hi => ?_, trivial⟩
    rw [Nat.zero_add]
    show s5.safe.getD ((1 - h) * roomD s + i) blk0 = _
    rw [see _ (half_lt (by omega) (by omega)), if_pos (by omega), show (1 - h) * roomD s + i - (1 - h) * roomD s = i by omega, rowL_getD _ _ _ (by rw [frameB_len]; exact hi)]
  · intro i hi1 hi2
    rw [hroom] at hi2 ⊢
    rw [sp] at hi1
    rw [see _ (half_lt (by omega) hi2), if_neg (by omega)]
    exact W.zero i hi2
  · intro g2 p2 r2 e3 hc
    rw [show 1 - (1 - h) = h by omega, hroom] at hc
    have hcon : partF (halfF s h) (roomD s) = some (g2, p2, r2, e3) := by rw [← hc]; exact (partF_congr hf).symm
    unfold partOf at hg
    rw [hcon] at hg
    change g2 ≤ g at hg
    omega
/-- Begin. -/
theorem begin_any {s : DS} {l : LS} {snap : List UInt8} (h2 : l.half < 2) (hs : s.opn = []) (ho : s.off = false) (hbig : s.safe.length ≤ 65536)
    (hg : (partOf s l.half).gen ≤ l.gen) (hg2 : l.gen < 1099511627776) (hp : snap.length ≤ 65536) (hr : nbk (snap.length + 21) ≤ roomD s) :
    ((lBegin s l snap).1 = 0 ∧ (lBegin s l snap).2.1.off = false ∧ (lBegin s l snap).2.1.opn = [] ∧ roomD (lBegin s l snap).2.1 = roomD s ∧ LG (lBegin s l snap).2.1 (1 - l.half) (l.gen + 1) snap [] [] ∧
      (∀ i, i < roomD s → (lBegin s l snap).2.1.safe.getD (l.half * roomD s + i) blk0 = s.safe.getD (l.half * roomD s + i) blk0) ∧
      (lBegin s l snap).2.2 = ⟨1 - l.half, l.gen + 1, snap, [], nbk (snap.length + 21), true⟩) ∨
    ((lBegin s l snap).1 = 7 ∧ (lBegin s l snap).2.1.off = true ∧ ((lPick s).half = l.half → ∀ picks, lPick (dAfter (lBegin s l snap).2.1 picks) = lPick s ∨ lPick (dAfter (lBegin s l snap).2.1 picks) = ⟨1 - l.half, l.gen + 1, snap, [], nbk (snap.length + 21), false⟩)) := by
  have hfit : (1 - l.half) * roomD s + roomD s ≤ s.safe.length := by
    unfold roomD
    rcases (by omega : l.half = 0 ∨ l.half = 1) with hh | hh <;> rw [hh] <;> omega
  unfold lBegin
  rw [if_neg (by omega), if_neg (by omega), if_neg (by omega)]
  dsimp only
  obtain ⟨j, hj, z1, z2, z3⟩ := wrL_post (l := List.replicate (roomD s) blk0) (at' := (1 - l.half) * roomD s) ho (by rw [List.length_replicate]; exact hfit)
  rw [List.length_replicate] at hj z3
  rw [hs, List.nil_append, List.take_replicate, Nat.min_eq_left hj] at z2
  generalize wrL s ((1 - l.half) * roomD s) (List.replicate (roomD s) blk0) = z at z1 z2 z3
  rcases z3 with ⟨a0, a1, rfl⟩ | ⟨a0, a1⟩
  · rw [if_neg (by rw [a0]; simp)]
    have hy := dSync_post a1
    generalize dSync z.2 = y at hy
    rcases hy with ⟨b0, b1, b2, b3⟩ | ⟨b0, b1, b2, b3⟩
    · rw [if_neg (by rw [b0]; simp)]
      rw [z1, z2] at b3
      have W : Wiped s y.2 l.half := wiped_of h2 b3 b2
      obtain ⟨j, hj, c1, c2, c3⟩ := wrL_post (l := rowL (l.gen + 1) (frameB (l.gen + 1) 0 snap)) (at' := (1 - l.half) * roomD s) b1 (by rw [rowL_len, W.len]; omega)
      rw [b2, List.nil_append] at c2
      generalize wrL y.2 ((1 - l.half) * roomD s) (rowL (l.gen + 1) (frameB (l.gen + 1) 0 snap)) = w at c1 c2 c3
      rcases c3 with ⟨d0, d1, hj2⟩ | ⟨d0, d1⟩
      · rw [if_neg (by rw [d0]; simp)]
        have hv := dSync_post d1
        generalize dSync w.2 = v at hv
        rcases hv with ⟨f0, f1, f2, f3⟩ | ⟨f0, f1, f2, f3⟩
        · rw [if_neg (by rw [f0]; simp)]
          left
          rw [c1, c2, hj2, List.take_length] at f3
          exact ⟨rfl, f1, f2, by unfold roomD; dsimp only; rw [f3, applyL_len, W.len], (row_whole h2 hs W hbig hg hg2 hp hr f3 f2).1, (row_whole h2 hs W hbig hg hg2 hp hr f3 f2).2, rfl⟩
        · rw [if_pos (by rw [f0]; decide)]
          right
          exact ⟨f0, f1, fun hh picks => row_torn picks h2 hh hs W hg hg2 hp hr (by rw [f3, c1]) j (by rw [f2, c2])⟩
      · rw [if_pos (by rw [d0]; decide)]
        right
        exact ⟨d0, d1, fun hh picks => row_torn picks h2 hh hs W hg hg2 hp hr c1 j c2⟩
    · rw [if_pos (by rw [b0]; decide)]
      right
      exact ⟨b0, b1, fun hh picks => Or.inl (wipe_keep picks h2 hh hs (Nat.le_refl _) (by rw [b3, z1]) (by rw [b2, z2]))⟩
  · rw [if_pos (by rw [a0]; decide)]
    right
    exact ⟨a0, a1, fun hh picks => Or.inl (wipe_keep picks h2 hh hs hj z1 z2)⟩
end Go.Proofs.Ythnhhhfjgbgpgaa.NumK
namespace Go.Proofs.Ythnhhhfjgbgpgaa.NumK
open Go.RowKit

theorem dSync_free {s : DS} (ho : s.off = false) (hz : s.armed = 0) : dSync s = (0, { s with safe := applyL s.safe s.opn, opn := [] }) := by
  unfold dSync dLast
  rw [ho, if_neg (by simp), if_pos hz]
  simp [ho]
/-- Begin, nothing armed. -/
theorem begin_free {s : DS} {l : LS} {snap : List UInt8} (h2 : l.half < 2) (ho : s.off = false) (hz : s.armed = 0)
    (hg2 : l.gen < 1099511627776) (hp : snap.length ≤ 65536) (hr : nbk (snap.length + 21) ≤ roomD s) :
    (lBegin s l snap).1 = 0 ∧ (lBegin s l snap).2.1.armed = 0 ∧ (lBegin s l snap).2.1.cut = s.cut := by
  have hfit : (1 - l.half) * roomD s + roomD s ≤ s.safe.length := by
    unfold roomD
    rcases (by omega : l.half = 0 ∨ l.half = 1) with hh | hh <;> rw [hh] <;> omega
  unfold lBegin
  rw [if_neg (by omega), if_neg (by omega), if_neg (by omega)]
  dsimp only
  rw [wrL_free ho (by rw [List.length_replicate]; exact hfit) hz]
  rw [if_neg (by simp), dSync_free (by exact ho) (by exact hz)]
  rw [if_neg (by simp), wrL_free (by exact ho) (by show _ ≤ (applyL _ _).length; rw [applyL_len, rowL_len]; exact Nat.le_trans (Nat.add_le_add_left hr _) hfit) (by exact hz)]
  rw [if_neg (by simp), dSync_free (by exact ho) (by exact hz)]
  rw [if_neg (by simp)]
  exact ⟨rfl, hz, rfl⟩
/-- Append leaves what is synced. -/
theorem wrL_safe {s : DS} {at' : Nat} {l : List Blk} (ho : s.off = false) (ha : at' + l.length ≤ s.safe.length) : (wrL s at' l).2.safe = s.safe := by
  obtain ⟨_, _, e, _⟩ := wrL_post ho ha
  exact e
theorem lPick_same {s s2 : DS} (h1 : s2.safe = s.safe) (h2 : s2.opn = s.opn) : lPick s2 = lPick s := by
  have hf : ∀ h, partOf s2 h = partOf s h := fun h => partOf_congr (roomD_of h1) (fun i _ => by unfold halfF DS.see; rw [h1, h2, roomD_of h1])
  unfold lPick
  rw [hf 0, hf 1]
/-- A crash of what is synced leaves it. -/
theorem crash_clean {s : DS} (picks : List Int) (h : s.opn = []) : (dAfter s picks).safe = s.safe ∧ (dAfter s picks).opn = [] := by
  rw [dAfter_eq, h]; exact ⟨rfl, rfl⟩
theorem crashL_all (picks : List Int) (k : Nat) (safe : List Blk) (l : List (Nat × Blk)) (h : ∀ i, i < l.length → stay picks (k + i) = 64) (hs : ∀ b ∈ safe, b.length = 64) (hl : ∀ w ∈ l, w.1 < safe.length ∧ w.2.length = 64) :
    crashL picks k safe l = applyL safe l := by
  induction l generalizing k safe with
  | nil => rfl
  | cons w r ih =>
    have hw := hl w (by simp)
    have hb : (safe.getD w.1 blk0).length = 64 := by
      rw [List.getD_eq_getElem?_getD, List.getElem?_eq_getElem hw.1]
      exact hs _ (List.getElem_mem _)
    have h0 : stay picks k = 64 := h 0 (by simp)
    have e : applyL safe (w :: r) = applyL (safe.set w.1 w.2) r := rfl
    rw [crashL, h0, mixB_all hb hw.2, e]
    refine ih _ _ (fun i hi => ?_) (fun b hb2 => ?_) (fun x hx => ?_)
    · rw [Nat.add_assoc, Nat.add_comm 1]; exact h (i + 1) (by simp only [List.length_cons]; omega)
    · rcases List.mem_or_eq_of_mem_set hb2 with hb2 | rfl
      · exact hs b hb2
      · exact hw.2
    · rw [List.length_set]; exact hl x (by simp [hx])
/-- A crash that keeps all blocks: all records are there. -/
theorem LG.crash_all {s : DS} {h g : Nat} {snap : List UInt8} {w r : List (List UInt8)} (L : LG s h g snap w r) (hall : s.opn = wl (h * roomD s + spanL (snap :: w)) (rowsL g (w.length + 1) r)) (hs : ∀ b ∈ s.safe, b.length = 64)
    (picks : List Int) (hp : ∀ i, i < spanL r → stay picks i = 64) : lPick (dAfter s picks) = ⟨h, g, snap, w ++ r, spanL (snap :: (w ++ r)), false⟩ := by
  have hsp : spanL (snap :: (w ++ r)) = spanL (snap :: w) + spanL r := by rw [← List.cons_append, spanL_append]
  have hfit := L.fits
  have hlast : h * roomD s + roomD s ≤ s.safe.length := by
    have := L.h2
    unfold roomD
    rcases (by omega : h = 0 ∨ h = 1) with rfl | rfl <;> omega
  have e : crashL picks 0 s.safe s.opn = applyL s.safe s.opn := by
    refine crashL_all picks 0 s.safe s.opn (fun i hi => ?_) hs (fun v hv => ?_)
    · rw [Nat.zero_add]
      refine hp i ?_
      rw [hall, wl_len, rowsL_len] at hi
      exact hi
    · rw [hall] at hv
      have := wl_mem hv
      rw [rowsL_len] at this
      exact ⟨by omega, mem_rowsL_len this.2.2⟩
  have L2 := L.sync hall (dAfter s picks) (by rw [dAfter_eq]; exact e) rfl
  have := L2.seen rfl
  simp only [List.append_nil] at this
  exact this
/-- What is seen of the log's half: its rows, and zeros. -/
theorem LG.see_half {s : DS} {h g : Nat} {snap : List UInt8} {w r : List (List UInt8)} (L : LG s h g snap w r) (hall : s.opn = wl (h * roomD s + spanL (snap :: w)) (rowsL g (w.length + 1) r)) (i : Nat) (hi : i < roomD s) :
    s.see (h * roomD s + i) = (rowsL g 0 (snap :: (w ++ r))).getD i blk0 := by
  have hsp : spanL (snap :: (w ++ r)) = spanL (snap :: w) + spanL r := by rw [← List.cons_append, spanL_append]
  have e : rowsL g 0 (snap :: (w ++ r)) = rowsL g 0 (snap :: w) ++ rowsL g (w.length + 1) r := by
    rw [← List.cons_append, rowsL_append, List.length_cons, Nat.zero_add]
  have hl := rowsL_len g 0 (snap :: w)
  unfold DS.see
  rw [hall, seeL_wl, rowsL_len, e]
  by_cases h1 : i < spanL (snap :: w)
  · rw [if_neg (by omega), getD_app_l (by rw [hl]; exact h1)]
    have := RowsW_getD L.rows i h1
    rw [Nat.zero_add] at this
    exact this
  · obtain ⟨d, rfl⟩ : ∃ d, i = spanL (snap :: w) + d := ⟨i - spanL (snap :: w), by omega⟩
    have er := getD_app_r (rowsL g 0 (snap :: w)) (rowsL g (w.length + 1) r) d
    rw [hl] at er
    rw [er]
    by_cases h2 : d < spanL r
    · rw [if_pos (by omega), show h * roomD s + (spanL (snap :: w) + d) - (h * roomD s + spanL (snap :: w)) = d by omega]
    · rw [if_neg (by omega), L.zero _ (by omega) hi, List.getD_eq_getElem?_getD, List.getElem?_eq_none (by rw [rowsL_len]; omega)]
      rfl
/-- And of the other one. -/
theorem LG.see_other {s : DS} {h g : Nat} {snap : List UInt8} {w r : List (List UInt8)} (L : LG s h g snap w r) (hall : s.opn = wl (h * roomD s + spanL (snap :: w)) (rowsL g (w.length + 1) r)) (i : Nat) (hi : i < roomD s) :
    s.see ((1 - h) * roomD s + i) = s.safe.getD ((1 - h) * roomD s + i) blk0 := by
  have hsp : spanL (snap :: (w ++ r)) = spanL (snap :: w) + spanL r := by rw [← List.cons_append, spanL_append]
  have hfit := L.fits
  unfold DS.see
  rw [hall, seeL_wl, rowsL_len, if_neg]
  intro hc
  have h3 := half_ne (s := s) (h := h) (i := i) (k := (1 - h) * roomD s + i - h * roomD s) L.h2 hi (by omega)
  omega

/-! ### what a law asks -/
theorem lPick_part (s : DS) : partOf s (lPick s).half = lPick s := by
  unfold lPick
  split
  · rw [partOf_half]
  · rw [partOf_half]
theorem lPick_half (s : DS) : (lPick s).half < 2 := by
  unfold lPick
  split
  · rw [partOf_half]; omega
  · rw [partOf_half]; omega
theorem partF_zero {f : Nat → Blk} {room : Nat} (h : ∀ i, i < room → f i = blk0) : partF f room = none := by
  unfold partF
  rw [rowAt_blk0]
  by_cases hr : room = 0
  · left; omega
  · right; exact h 0 (by omega)
theorem new_see (n x : Nat) : (dNew n).see x = blk0 := by
  show (List.replicate n blk0).getD x blk0 = blk0
  rw [List.getD_eq_getElem?_getD, List.getElem?_replicate]
  split <;> rfl
/-- A new disk has no log: the second half's, of generation 0. -/
theorem lPick_new (n : Nat) : lPick (dNew n) = ⟨1, 0, [], [], 0, false⟩ := by
  have hp : ∀ h, partOf (dNew n) h = ⟨h, 0, [], [], 0, false⟩ := by
    intro h
    unfold partOf
    have hz : partF (halfF (dNew n) h) (roomD (dNew n)) = none := partF_zero (fun i _ => new_see n _)
    rw [hz]
  unfold lPick
  rw [hp 0, hp 1]
  rfl
/-- What is synced and open stays: so does the log. -/
theorem LG.same {s s2 : DS} {h g : Nat} {snap : List UInt8} {w r : List (List UInt8)} (L : LG s h g snap w r) (h1 : s2.safe = s.safe) (h2 : s2.opn = s.opn) : LG s2 h g snap w r := by
  have hr := roomD_of h1
  exact ⟨L.h2, L.g1, L.g2, by rw [h1]; exact L.big, L.snapS, L.recS, by rw [hr]; exact L.fits, by rw [h1, hr]; exact L.rows, by rw [h1, hr]; exact L.zero, by rw [h2, hr]; exact L.opn, by rw [h1, hr]; exact L.other⟩
/-- A log with this snapshot, and of all records a beginning with all that are safe. -/
def Fnd (l : LS) (snap : List UInt8) (safe all : List (List UInt8)) : Prop :=
  l.snap = snap ∧ safe.length ≤ l.recs.length ∧ l.recs.length ≤ all.length ∧ l.recs = all.take l.recs.length
theorem LG.found {s : DS} {h g : Nat} {snap : List UInt8} {w r : List (List UInt8)} (L : LG s h g snap w r) (more : List (List UInt8)) (picks : List Int) :
    Fnd (lPick (dAfter s picks)) snap w (w ++ r ++ more) ∧ (lPick (dAfter s picks)).gen = g := by
  obtain ⟨j, hj, e⟩ := L.crash picks
  rw [e]
  refine ⟨⟨rfl, ?_, ?_, ?_⟩, rfl⟩
  · simp
  · simp; omega
  · dsimp only
    rw [List.length_append, List.length_take, Nat.min_eq_left hj, List.append_assoc, List.take_length_add_append, List.take_append_of_le_length hj]
theorem fnd_self (l : LS) : Fnd l l.snap l.recs l.recs := ⟨rfl, Nat.le_refl _, Nat.le_refl _, (List.take_length).symm⟩
theorem fnd_new (l : LS) (snap : List UInt8) (h1 : l.snap = snap) (h2 : l.recs = []) : Fnd l snap [] [] := ⟨h1, by simp, by simp [h2], by simp [h2]⟩
end Go.Proofs.Ythnhhhfjgbgpgaa.NumK
namespace Go.Proofs.Ythnhhhfjgbgpgaa.NumK
open Go.RowKit

/-- The length that a block tells. -/
def lenB (b : Blk) : Nat := num ((b.drop 14).take 4)
theorem lenB_inner (b : Blk) : num (((innerB b).drop 13).take 4) = lenB b := by
  unfold lenB innerB
  rw [List.drop_take, List.drop_drop, List.take_take]
  rfl
def sameF (f : Nat → Blk) (at' n : Nat) : Prop := ∀ i, i < n → (f (at' + i)).getD 0 0 = (f at').getD 0 0 ∧ (f (at' + i)).getD 63 0 = (f at').getD 0 0
instance (f : Nat → Blk) (at' n : Nat) : Decidable (sameF f at' n) := by unfold sameF; infer_instance
def rowP (f : Nat → Blk) (limit at' : Nat) : Option (Nat × Nat × List UInt8 × Nat) :=
  if limit < at' + nbk (lenB (f at') + 21) ∨ ¬ sameF f at' (nbk (lenB (f at') + 21)) then none else
  match frs (joinF f at' (nbk (lenB (f at') + 21))) with
  | none => none
  | some (g, k, n) => if markG g = (f at').getD 0 0 then some (g, k, ((joinF f at' (nbk (lenB (f at') + 21))).drop 21).take n, nbk (lenB (f at') + 21)) else none
theorem inner_len {b : Blk} (h : b.length = 64) : (innerB b).length = 62 := by simp [innerB]; omega
theorem joinF_head (f : Nat → Blk) (at' n : Nat) : ∃ r, joinF f at' (n + 1) = innerB (f at') ++ r := by
  induction n with
  | zero => exact ⟨[], by simp [joinF]⟩
  | succ n ih =>
    obtain ⟨r, e⟩ := ih
    exact ⟨r ++ innerB (f (at' + (n + 1))), by rw [joinF, e, List.append_assoc]⟩
theorem cut_app {a r : List UInt8} {i n : Nat} (h : i + n ≤ a.length) : ((a ++ r).drop i).take n = (a.drop i).take n := by
  rw [List.drop_append_of_le_length (by omega), List.take_append_of_le_length (by simp; omega)]
theorem frs_head {b : List UInt8} {g k n : Nat} (h : frs b = some (g, k, n)) : b.getD 0 0 = 195 ∧ num ((b.drop 1).take 8) = g ∧ num ((b.drop 9).take 4) = k ∧ num ((b.drop 13).take 4) = n ∧ g ≤ 1099511627776 ∧ k ≤ 2147483647 ∧ n ≤ 65536 := by
  have h2 := frs_some h
  unfold frs at h
  split at h
  · cases h
  · split at h
    · cases h
    · split at h
      · cases h
      · simp only [Option.some.injEq, Prod.mk.injEq] at h
        exact ⟨h2.2.1, h.1, h.2.1, h.2.2, h2.2.2.1, h2.2.2.2.1, h2.2.2.2.2.1⟩
theorem headOf_some {x : List UInt8} {g k n : Nat} (h : headOf x = some (g, k, n)) : num ((x.drop 1).take 8) = g ∧ num ((x.drop 13).take 4) = n := by
  unfold headOf at h
  split at h
  · cases h
  · split at h
    · cases h
    · simp only [Option.some.injEq, Prod.mk.injEq] at h
      exact ⟨h.1, h.2.2⟩
theorem rowP_eq (f : Nat → Blk) (limit at' : Nat) (hf : (f at').length = 64) : rowP f limit at' = rowAt f limit at' := by
  have hpos : 0 < nbk (lenB (f at') + 21) := nbk_pos (by omega)
  have hil := inner_len hf
  obtain ⟨r, hr⟩ := joinF_head f at' (nbk (lenB (f at') + 21) - 1)
  rw [Nat.sub_add_cancel hpos] at hr
  have hhead : ∀ {g k n}, frs (joinF f at' (nbk (lenB (f at') + 21))) = some (g, k, n) → headOf (innerB (f at')) = some (g, k, n) := by
    intro g k n h
    obtain ⟨h1, h2, h3, h4, h5, h6, h7⟩ := frs_head h
    rw [hr] at h1 h2 h3 h4
    rw [cut_app (by omega)] at h2 h3 h4
    have h0 : (innerB (f at')).getD 0 0 = 195 := by
      rw [List.getD_eq_getElem?_getD, List.getElem?_append_left (by omega)] at h1
      rw [List.getD_eq_getElem?_getD]; exact h1
    unfold headOf
    rw [if_neg (by rw [not_or]; exact ⟨by omega, fun hn => hn h0⟩), h2, h3, h4, if_neg (by omega)]
  unfold rowP rowAt
  by_cases hl : limit ≤ at'
  · rw [if_pos (Or.inl (by omega)), if_pos hl]
  · rw [if_neg hl]
    cases e : headOf (innerB (f at')) with
    | none =>
      dsimp only
      split
      · rfl
      · cases ef : frs (joinF f at' (nbk (lenB (f at') + 21))) with
        | none => rfl
        | some x =>
          obtain ⟨g, k, n⟩ := x
          rw [hhead ef] at e
          cases e
    | some x =>
      obtain ⟨g, k, n⟩ := x
      dsimp only
      obtain ⟨e1, e2⟩ := headOf_some e
      rw [lenB_inner] at e2
      subst e2
      by_cases hc : limit < at' + nbk (lenB (f at') + 21)
      · rw [if_pos (Or.inl hc), if_pos (Or.inl hc)]
      · cases ef : frs (joinF f at' (nbk (lenB (f at') + 21))) with
        | none => dsimp only; split <;> split <;> rfl
        | some x =>
          obtain ⟨g2, k2, n2⟩ := x
          have := hhead ef
          rw [e] at this
          simp only [Option.some.injEq, Prod.mk.injEq] at this
          obtain ⟨rfl, rfl, _⟩ := this
          dsimp only
          have hiff : markedF f at' g (nbk (lenB (f at') + 21)) ↔ sameF f at' (nbk (lenB (f at') + 21)) ∧ markG g = (f at').getD 0 0 := by
            constructor
            · intro h
              have h0 := (h 0 hpos).1
              rw [Nat.add_zero] at h0
              exact ⟨fun i hi => by rw [h0]; exact h i hi, h0.symm⟩
            · rintro ⟨h, h0⟩ i hi
              rw [h0]; exact h i hi
          by_cases hm : sameF f at' (nbk (lenB (f at') + 21))
          · by_cases hg : markG g = (f at').getD 0 0
            · have hA : ¬ (limit < at' + nbk (lenB (f at') + 21) ∨ ¬ sameF f at' (nbk (lenB (f at') + 21))) := by rw [not_or]; exact ⟨hc, fun h => h hm⟩
              have hB : ¬ (limit < at' + nbk (lenB (f at') + 21) ∨ ¬ markedF f at' g (nbk (lenB (f at') + 21))) := by rw [not_or]; exact ⟨hc, fun h => h (hiff.2 ⟨hm, hg⟩)⟩
              rw [if_neg hA, if_pos hg, if_neg hB]
            · have hA : ¬ (limit < at' + nbk (lenB (f at') + 21) ∨ ¬ sameF f at' (nbk (lenB (f at') + 21))) := by rw [not_or]; exact ⟨hc, fun h => h hm⟩
              rw [if_neg hA, if_neg hg, if_pos (Or.inr (fun h => hg (hiff.1 h).2))]
          · rw [if_pos (Or.inr hm), if_pos (Or.inr (fun h => hm (hiff.1 h).1))]
/-- A row in a half, told by the disk's own numbers. -/
theorem rowAt_shift (f : Nat → Blk) (b room at' : Nat) : rowAt f (b + room) (b + at') = rowAt (fun i => f (b + i)) room at' := by
  unfold rowAt
  by_cases h : room ≤ at'
  · rw [if_pos h, if_pos (by omega)]
  · rw [if_neg h, if_neg (by omega)]
    cases headOf (innerB (f (b + at'))) with
    | none => rfl
    | some x =>
      obtain ⟨g, k, n⟩ := x
      dsimp only
      have hj : joinF f (b + at') (nbk (n + 21)) = joinF (fun i => f (b + i)) at' (nbk (n + 21)) := joinF_congr (fun i _ => by rw [Nat.add_assoc])
      have hm : markedF f (b + at') g (nbk (n + 21)) ↔ markedF (fun i => f (b + i)) at' g (nbk (n + 21)) := by
        unfold markedF
        simp only [Nat.add_assoc]
      have hb : (b + room < b + at' + nbk (n + 21)) ↔ (room < at' + nbk (n + 21)) := by omega
      rw [hj]
      simp only [hm, hb]
end Go.Proofs.Ythnhhhfjgbgpgaa.NumK
