/- The mathematics of pack: groups of seven bits, there and back; a reader's and a writer's states as lists. -/
import Derived.Test.YtfhfgninjelfbaaBase
namespace Go.Proofs.Ytfhfgninjelfbaa.NumK
open Go.RowKit

/-! ### groups of seven bits -/
def vb (z : Nat) : List UInt8 := if z < 128 then [UInt8.ofNat z] else UInt8.ofNat (z % 128 + 128) :: vb (z / 128)
termination_by z
decreasing_by omega

theorem vb_lo {z : Nat} (h : z < 128) : vb z = [UInt8.ofNat z] := by rw [vb, if_pos h]
theorem vb_hi {z : Nat} (h : ¬ z < 128) : vb z = UInt8.ofNat (z % 128 + 128) :: vb (z / 128) := by rw [vb, if_neg h]

def zig (n : Int) : Nat := if n < 0 then (-(2 * n) - 1).toNat else (2 * n).toNat
def zag (z : Nat) : Int := if z % 2 = 1 then -((z / 2 : Nat) : Int) - 1 else ((z / 2 : Nat) : Int)
theorem zag_zig (n : Int) : zag (zig n) = n := by unfold zag zig; split <;> split <;> omega
theorem zig_zag (z : Nat) : zig (zag z) = z := by unfold zag zig; split <;> split <;> omega
theorem zig_lt {n : Int} (h1 : -9223372036854775808 ≤ n) (h2 : n ≤ 9223372036854775807) : zig n < 18446744073709551616 := by unfold zig; split <;> omega
theorem zag_bd {z : Nat} (h : z < 18446744073709551616) : -9223372036854775808 ≤ zag z ∧ zag z ≤ 9223372036854775807 := by unfold zag; split <;> omega
def encI (n : Int) : List UInt8 := vb (zig n)

def dv (i acc : Nat) : List UInt8 → Option (Nat × List UInt8)
  | [] => none
  | c :: r => if (i = 9 ∧ 1 < c.toNat) ∨ (0 < i ∧ c.toNat = 0) ∨ 9 < i then none
    else if c.toNat < 128 then some (acc + c.toNat % 128 * 128 ^ i, r) else dv (i + 1) (acc + c.toNat % 128 * 128 ^ i) r

def decI (l : List UInt8) : Option (Int × List UInt8) := (dv 0 0 l).map fun p => (zag p.1, p.2)

theorem u8_ofNat {z : Nat} (h : z < 256) : (UInt8.ofNat z).toNat = z := by simp; omega
theorem u8_back (c : UInt8) : UInt8.ofNat c.toNat = c := by simp

theorem pow_split (i : Nat) (h : i ≤ 8) : 2 ^ (64 - 7 * i) = 128 * 2 ^ (64 - 7 * (i + 1)) := by
  rw [show (128 : Nat) = 2 ^ 7 from rfl, ← Nat.pow_add]; congr 1; omega

theorem dv_vb (z : Nat) : ∀ (i acc : Nat) (r : List UInt8), i ≤ 9 → z < 2 ^ (64 - 7 * i) → (0 < i → 0 < z) → dv i acc (vb z ++ r) = some (acc + z * 128 ^ i, r) := by
  induction z using Nat.strongRecOn with
  | ind z ih =>
    intro i acc r hi hz h0
    by_cases h : z < 128
    · have hu := u8_ofNat (show z < 256 by omega)
      rw [vb_lo h]
      show dv i acc (UInt8.ofNat z :: r) = _
      rw [dv, hu, if_neg, if_pos h, Nat.mod_eq_of_lt h]
      rintro (⟨rfl, h1⟩ | ⟨h1, h2⟩ | h1)
      · simp at hz; omega
      · have := h0 h1; omega
      · omega
    · have hi8 : i ≤ 8 := by
        rcases Nat.lt_or_ge i 9 with g | g
        · omega
        · obtain rfl : i = 9 := by omega
          simp at hz; omega
      have hp := pow_split i hi8
      have hu := u8_ofNat (show z % 128 + 128 < 256 by omega)
      rw [vb_hi h]
      show dv i acc (UInt8.ofNat (z % 128 + 128) :: (vb (z / 128) ++ r)) = _
      rw [dv, hu, if_neg (by omega), if_neg (by omega), ih (z / 128) (by omega) (i + 1) _ r (by omega) (by omega) (by omega)]
      have e1 : (z % 128 + 128) % 128 = z % 128 := by omega
      have e2 : z = z % 128 + 128 * (z / 128) := by omega
      rw [e1, Nat.pow_succ]
      congr 2
      conv => rhs; rw [e2]
      rw [Nat.add_mul, Nat.add_assoc]
      congr 2
      rw [Nat.mul_comm (128 ^ i) 128, ← Nat.mul_assoc, Nat.mul_comm (z / 128) 128]

theorem dv_inv (l : List UInt8) : ∀ (i acc a : Nat) (r : List UInt8), i ≤ 9 → dv i acc l = some (a, r) → ∃ z, l = vb z ++ r ∧ a = acc + z * 128 ^ i ∧ z < 2 ^ (64 - 7 * i) ∧ (0 < i → 0 < z) := by
  induction l with
  | nil => intro i acc a r _ h; cases h
  | cons c l ih =>
    intro i acc a r hi h
    rw [dv] at h
    split at h
    · cases h
    · rename_i hn
      split at h
      · rename_i hc
        obtain ⟨rfl, rfl⟩ : acc + c.toNat % 128 * 128 ^ i = a ∧ l = r := by
          injection h with h; injection h with h1 h2; exact ⟨h1, h2⟩
        refine ⟨c.toNat, by rw [vb_lo hc, u8_back]; rfl, by rw [Nat.mod_eq_of_lt hc], ?_, by omega⟩
        rcases Nat.lt_or_ge i 9 with g | g
        · have hp := pow_split i (by omega)
          have : 0 < 2 ^ (64 - 7 * (i + 1)) := Nat.two_pow_pos _
          omega
        · obtain rfl : i = 9 := by omega
          simp; omega
      · rename_i hc
        have hcl : c.toNat < 256 := c.toNat_lt
        have hi8 : i ≤ 8 := by omega
        obtain ⟨z, e1, e2, e3, e4⟩ := ih (i + 1) _ a r (by omega) h
        have hp := pow_split i hi8
        have hz0 := e4 (by omega)
        have e5 : c.toNat % 128 + 128 * z = c.toNat - 128 + 128 * z := by omega
        refine ⟨c.toNat % 128 + 128 * z, ?_, ?_, by omega, by omega⟩
        · have q1 : (c.toNat % 128 + 128 * z) % 128 + 128 = c.toNat := by omega
          have q2 : (c.toNat % 128 + 128 * z) / 128 = z := by omega
          rw [vb_hi (by omega), q1, q2, u8_back, e1]; rfl
        · rw [e2, Nat.pow_succ, Nat.add_mul, Nat.add_assoc]
          congr 2
          rw [Nat.mul_comm (128 ^ i) 128, ← Nat.mul_assoc, Nat.mul_comm z 128]

theorem dec_enc {n : Int} (h1 : -9223372036854775808 ≤ n) (h2 : n ≤ 9223372036854775807) (r : List UInt8) : decI (encI n ++ r) = some (n, r) := by
  have hz := zig_lt h1 h2
  have := dv_vb (zig n) 0 0 r (by omega) (by simpa using hz) (by omega)
  unfold decI encI
  rw [this]
  simp [zag_zig]
theorem dec_inv {l r : List UInt8} {n : Int} (h : decI l = some (n, r)) : l = encI n ++ r ∧ -9223372036854775808 ≤ n ∧ n ≤ 9223372036854775807 := by
  unfold decI at h
  obtain ⟨⟨a, r'⟩, h1, h2⟩ := Option.map_eq_some_iff.1 h
  obtain ⟨rfl, rfl⟩ : zag a = n ∧ r' = r := by injection h2 with h3 h4; exact ⟨h3, h4⟩
  obtain ⟨z, e1, e2, e3, _⟩ := dv_inv l 0 0 a r' (by omega) h1
  obtain rfl : a = z := by simpa using e2
  exact ⟨by unfold encI; rw [zig_zag]; exact e1, zag_bd (by simpa using e3)⟩
theorem dec_more {l r x : List UInt8} {n : Int} (h : decI l = some (n, r)) : decI (l ++ x) = some (n, r ++ x) := by
  obtain ⟨rfl, h1, h2⟩ := dec_inv h
  rw [List.append_assoc]; exact dec_enc h1 h2 _

/-! ### lengths -/
theorem vb_len (k : Nat) : ∀ z, z < 128 ^ (k + 1) → (vb z).length ≤ k + 1 := by
  induction k with
  | zero => intro z h; rw [vb_lo (by simpa using h)]; simp
  | succ k ih =>
    intro z h
    by_cases c : z < 128
    · rw [vb_lo c]; simp
    · rw [vb_hi c]
      have := ih (z / 128) (by rw [Nat.pow_succ] at h; exact Nat.div_lt_of_lt_mul (by rw [Nat.mul_comm]; exact h))
      simp; omega
theorem encI_len {n : Int} (h1 : -9223372036854775808 ≤ n) (h2 : n ≤ 9223372036854775807) : (encI n).length ≤ 10 :=
  vb_len 9 _ (Nat.lt_of_lt_of_le (zig_lt h1 h2) (by decide))
theorem vb_pos (z : Nat) : 0 < (vb z).length := by
  by_cases c : z < 128
  · rw [vb_lo c]; simp
  · rw [vb_hi c]; simp
def encL (l : List Int) : List UInt8 := (l.map encI).flatten
theorem encL_cons (n : Int) (l : List Int) : encL (n :: l) = encI n ++ encL l := by simp [encL]
theorem encL_snoc (n : Int) (l : List Int) : encL (l ++ [n]) = encL l ++ encI n := by simp [encL]
theorem encL_len (l : List Int) (h : ∀ n ∈ l, -9223372036854775808 ≤ n ∧ n ≤ 9223372036854775807) : (encL l).length ≤ 10 * l.length := by
  induction l with
  | nil => simp [encL]
  | cons n l ih =>
    rw [encL_cons, List.length_append, List.length_cons]
    have := encI_len (h n (by simp)).1 (h n (by simp)).2
    have := ih fun x hx => h x (by simp [hx])
    omega

/-! ### a reader's state: what is left, and its error -/
structure RS where
  l : List UInt8
  e : Int
def RS.fail (e : Int) : RS := ⟨[], e⟩
def rI (s : RS) : Int × RS := if s.e = 0 then (match decI s.l with | none => (0, .fail 4) | some (n, r) => (n, ⟨r, 0⟩)) else (0, s)
def rM (s : RS) : Bool × RS := if s.e = 0 then (match s.l with | [] => (false, .fail 4) | c :: r => if 1 < c.toNat then (false, .fail 4) else (decide (c.toNat = 1), ⟨r, 0⟩)) else (false, s)
def rT (s : RS) : List UInt8 × RS :=
  if (rI s).2.e = 0 then
    (if (rI s).1 < 0 then ([], .fail 4) else if 65536 < (rI s).1 then ([], .fail 5)
     else if ((rI s).2.l.length : Int) < (rI s).1 then ([], .fail 4) else ((rI s).2.l.take (rI s).1.toNat, ⟨(rI s).2.l.drop (rI s).1.toNat, 0⟩))
  else ([], (rI s).2)
def rD (s : RS) : Int := if s.e = 0 ∧ s.l ≠ [] then 4 else s.e
/-- With an error nothing is left. -/
def RS.ok (s : RS) : Prop := s.e ≠ 0 → s.l = []

theorem rI_bad {s : RS} (h : s.e ≠ 0) : rI s = (0, s) := by unfold rI; rw [if_neg h]
theorem rM_bad {s : RS} (h : s.e ≠ 0) : rM s = (false, s) := by unfold rM; rw [if_neg h]
theorem rT_bad {s : RS} (h : s.e ≠ 0) : rT s = ([], s) := by unfold rT; rw [rI_bad h, if_neg h]
theorem rI_bd (s : RS) : -9223372036854775808 ≤ (rI s).1 ∧ (rI s).1 ≤ 9223372036854775807 := by
  unfold rI
  split
  · split
    · exact ⟨by decide, by decide⟩
    · rename_i n r h; exact (dec_inv h).2
  · dsimp only; omega
theorem rI_ok {s : RS} (h : s.ok) : (rI s).2.ok := by
  unfold rI
  split
  · split
    · exact fun _ => rfl
    · exact fun g => absurd rfl g
  · exact h
theorem rI_len (s : RS) : (rI s).2.l.length ≤ s.l.length := by
  unfold rI
  split
  · split
    · simp [RS.fail]
    · rename_i n r h; have := (dec_inv h).1; rw [this]; simp
  · exact Nat.le_refl _
theorem rM_ok {s : RS} (h : s.ok) : (rM s).2.ok := by
  unfold rM
  split
  · split
    · exact fun _ => rfl
    · split
      · exact fun _ => rfl
      · exact fun g => absurd rfl g
  · exact h
theorem rM_len (s : RS) : (rM s).2.l.length ≤ s.l.length := by
  unfold rM
  split
  · split
    · simp [RS.fail]
    · rename_i c r h; rw [h]; split <;> simp [RS.fail]
  · exact Nat.le_refl _
theorem rT_ok {s : RS} (h : s.ok) : (rT s).2.ok := by
  unfold rT
  split
  · split
    · exact fun _ => rfl
    · split
      · exact fun _ => rfl
      · split
        · exact fun _ => rfl
        · exact fun g => absurd rfl g
  · exact rI_ok h
theorem rT_len (s : RS) : (rT s).2.l.length ≤ s.l.length := by
  have := rI_len s
  unfold rT
  split
  · split
    · simp [RS.fail]
    · split
      · simp [RS.fail]
      · split
        · simp [RS.fail]
        · simp; omega
  · exact this
theorem rT_out (s : RS) : (rT s).1.length ≤ 65536 := by
  unfold rT
  split
  · split
    · simp
    · split
      · simp
      · split
        · simp
        · simp; omega
  · simp

/-! ### what was written is read -/
theorem rI_enc {n : Int} (h1 : -9223372036854775808 ≤ n) (h2 : n ≤ 9223372036854775807) (r : List UInt8) : rI ⟨encI n ++ r, 0⟩ = (n, ⟨r, 0⟩) := by
  unfold rI; rw [if_pos rfl, dec_enc h1 h2]
def encM (b : Bool) : List UInt8 := if b then [1] else [0]
theorem rM_enc (b : Bool) (r : List UInt8) : rM ⟨encM b ++ r, 0⟩ = (b, ⟨r, 0⟩) := by
  cases b <;> simp [rM, encM]
def encT (t : List UInt8) : List UInt8 := encI t.length ++ t
theorem rT_enc {t : List UInt8} (h : t.length ≤ 65536) (r : List UInt8) : rT ⟨encT t ++ r, 0⟩ = (t, ⟨r, 0⟩) := by
  have e : rI ⟨encT t ++ r, 0⟩ = ((t.length : Int), ⟨t ++ r, 0⟩) := by
    unfold encT; rw [List.append_assoc]; exact rI_enc (by omega) (by omega) _
  unfold rT
  rw [e]
  dsimp only
  rw [if_pos rfl, if_neg (by omega), if_neg (by omega), if_neg (by simp; omega)]
  simp

/-! ### what is read was written -/
theorem rI_was {s : RS} (h : (rI s).2.e = 0) : s.e = 0 ∧ s.l = encI (rI s).1 ++ (rI s).2.l := by
  unfold rI at *
  split at h
  · rename_i h0
    split at h
    · cases h
    · rename_i n r hd
      rw [if_pos h0]
      exact ⟨h0, (dec_inv hd).1⟩
  · contradiction
theorem rM_was {s : RS} (h : (rM s).2.e = 0) : s.e = 0 ∧ s.l = encM (rM s).1 ++ (rM s).2.l := by
  unfold rM at *
  split at h
  · rename_i h0
    rw [if_pos h0]
    split at h
    · cases h
    · rename_i c r hc
      split at h
      · cases h
      · rename_i hc1
        rw [hc]
        refine ⟨h0, ?_⟩
        have hcc : c = 0 ∨ c = 1 := by
          rcases Nat.lt_or_ge c.toNat 1 with g | g
          · left; exact UInt8.toNat_inj.1 (by simp; omega)
          · right; exact UInt8.toNat_inj.1 (by simp; omega)
        rcases hcc with rfl | rfl <;> simp [encM]
  · contradiction
theorem rT_was {s : RS} (h : (rT s).2.e = 0) : s.e = 0 ∧ s.l = encT (rT s).1 ++ (rT s).2.l := by
  unfold rT at *
  split at h
  · rename_i h0
    obtain ⟨g0, g1⟩ := rI_was h0
    rw [if_pos h0]
    split at h
    · cases h
    · rename_i n1
      rw [if_neg n1]
      split at h
      · cases h
      · rename_i n2
        rw [if_neg n2]
        split at h
        · cases h
        · rename_i n3
          rw [if_neg n3]
          refine ⟨g0, ?_⟩
          unfold encT
          have el : (((rI s).2.l.take (rI s).1.toNat).length : Int) = (rI s).1 := by simp; omega
          dsimp only
          rw [el, List.append_assoc, List.take_append_drop]
          exact g1
  · contradiction

/-! ### more behind: read as before, and the more is left -/
theorem rI_more {s : RS} (h : (rI s).2.e = 0) (x : List UInt8) : rI ⟨s.l ++ x, 0⟩ = ((rI s).1, ⟨(rI s).2.l ++ x, 0⟩) := by
  have g := (rI_was h).2
  have b := rI_bd s
  rw [g, List.append_assoc]; exact rI_enc b.1 b.2 _
theorem rM_more {s : RS} (h : (rM s).2.e = 0) (x : List UInt8) : rM ⟨s.l ++ x, 0⟩ = ((rM s).1, ⟨(rM s).2.l ++ x, 0⟩) := by
  have g := (rM_was h).2
  rw [g, List.append_assoc]; exact rM_enc _ _
theorem rT_more {s : RS} (h : (rT s).2.e = 0) (x : List UInt8) : rT ⟨s.l ++ x, 0⟩ = ((rT s).1, ⟨(rT s).2.l ++ x, 0⟩) := by
  have g := (rT_was h).2
  have := rT_out s
  rw [g, List.append_assoc]; exact rT_enc (by omega) _
end Go.Proofs.Ytfhfgninjelfbaa.NumK
