/- What every stage's texts share: integers in memory, worlds that grow, money, floor division. -/
import Derived.Test.YtahioajpmlochaaGreatRows
import Derived.WalkKit
import Derived.ProofKit
import Derived.OpenShut
import Derived.Below
import Derived.Deep.Draws
import Derived.IntWalk
import Derived.Lib.Hide
import Derived.Laws.AppendOwnNone
import Derived.Deep.QuietTactic
import Derived.BigQuiet
import Derived.BigRegion
namespace Go.Proofs.YtahioajpmlochaaGreat.NumK
open Go.RowKit

/-- The slice value's cells read as zs. -/
def Ints (w : World) (A : Option Addr) (n : Nat) (zs : List Int) : Prop :=
  zs.length = n ∧ (0 < n → ∃ b o, A = some ⟨b, o, none⟩ ∧ b < w.heap.size ∧ ∀ j, j < n → w.cell? ⟨b, o + j, none⟩ = some (.int .i64 (zs.getD j 0)))

def isMoney (n : Int) : Bool := decide (-4611686018427387904 ≤ n) && decide (n ≤ 4611686018427387904)

theorem ret_b {a b : Bool} (h : a = b) : Ending.returned (.bool a) = .returned (.bool b) := by rw [h]

theorem isMoney_iff (n : Int) : isMoney n = true ↔ -4611686018427387904 ≤ n ∧ n ≤ 4611686018427387904 := by simp [isMoney]

theorem all_false (zs : List Int) (k : Nat) (h : k < zs.length) (y : Int) (hy : zs.getD k 0 = y) (hm : ¬ (-4611686018427387904 ≤ y ∧ y ≤ 4611686018427387904)) : false = zs.all isMoney := by
  symm
  rw [List.all_eq_false]
  refine ⟨zs[k], List.getElem_mem h, ?_⟩
  rw [isMoney_iff]
  have : zs[k] = y := by rw [← hy]; simp [List.getD, List.getElem?_eq_getElem h]
  rw [this]; exact hm

theorem all_take_succ (zs : List Int) (k : Nat) (h : k < zs.length) : (zs.take (k + 1)).all isMoney = ((zs.take k).all isMoney && isMoney (zs.getD k 0)) := by
  rw [List.take_succ_eq_append_getElem h, List.all_append]
  simp [List.getD, List.getElem?_eq_getElem h]

/-! ### Worlds that only grow, and what reads in them -/
def Grew (w w' : World) : Prop := Below w.heap.size w w'
theorem grew_refl (w : World) : Grew w w := Below.refl _ _
theorem grew_trans {a b c : World} (h : Grew a b) (k : Grew b c) : Grew a c := Below.trans h (Below.mono k h.size)
theorem grew_alloc (w : World) (c : Array Value) (t : TypeId) : Grew w (w.alloc (.cells c t)) := (Below.refl _ _).alloc (Nat.le_refl _) _
theorem grew_drewN {W w' : World} (h : Grew W w') (n : Nat) : Grew W (w'.drewN n) := ⟨h.os, h.tape, h.output, h.size, h.block⟩
theorem grew_cell {w w' : World} (h : Grew w w') {p : Addr} (hp : p.block < w.heap.size) : w'.cell? p = w.cell? p := Below.cell h hp

theorem ints1 (w : World) (a : Int) (t : TypeId) : Ints (w.alloc (.cells #[.int .i64 a] t)) (some ⟨w.heap.size, 0, none⟩) 1 [a] :=
  ⟨rfl, fun _ => ⟨_, _, rfl, by simp, fun j hj => by
    match j, hj with
    | 0, _ => simp⟩⟩
theorem ints2 (w : World) (a b : Int) (t : TypeId) : Ints (w.alloc (.cells #[.int .i64 a, .int .i64 b] t)) (some ⟨w.heap.size, 0, none⟩) 2 [a, b] :=
  ⟨rfl, fun _ => ⟨_, _, rfl, by simp, fun j hj => by
    match j, hj with
    | 0, _ => simp
    | 1, _ => simp⟩⟩
theorem ints2' (w : World) (a b : Int) (t : TypeId) (N : Nat) (hN : w.heap.size = N) : Ints (w.alloc (.cells #[.int .i64 a, .int .i64 b] t)) (some ⟨N, 0, none⟩) 2 [a, b] := by
  subst hN; exact ints2 w a b t
/-! ### money -/
def capV (n : Int) : Int := if isMoney n then n else 0
def capE (n : Int) : Int := if isMoney n then 0 else 1
theorem capV_in {n : Int} (h : isMoney n = true) : capV n = n := by simp [capV, h]
theorem capE_in {n : Int} (h : isMoney n = true) : capE n = 0 := by simp [capE, h]
theorem capV_out {n : Int} (h : isMoney n = false) : capV n = 0 := by simp [capV, h]
theorem capE_out {n : Int} (h : isMoney n = false) : capE n = 1 := by simp [capE, h]

theorem ret2 {a b c d : Int} (h1 : a = c) (h2 : b = d) : Ending.returned (.tuple #[.int .i64 a, .int .i64 b]) = .returned (.tuple #[.int .i64 c, .int .i64 d]) := by rw [h1, h2]

theorem mask31 (n : Int) : bits .and .i64 n 2147483647 = n % 2147483648 := by
  have hm : (BitVec.ofInt 64 2147483647).toNat = 2 ^ 31 - 1 := by decide
  have key : (BitVec.ofInt 64 n &&& BitVec.ofInt 64 2147483647).toNat = (n % ((2 ^ 64 : Nat) : Int)).toNat % 2 ^ 31 := by
    rw [BitVec.toNat_and, BitVec.toNat_ofInt, hm, Nat.and_two_pow_sub_one_eq_mod]
  show IntKind.i64.wrap ((BitVec.ofInt 64 n &&& BitVec.ofInt 64 2147483647).toNat : Nat) = n % 2147483648
  rw [key, IntKind.wrap_i64]
  omega

/-! ### Quo: the arithmetic -/
theorem tdiv_facts (a b : Int) (hb : b ≠ 0) : a.tdiv b * b + a.tmod b = a ∧ (0 ≤ a → 0 ≤ a.tmod b) ∧ (a ≤ 0 → a.tmod b ≤ 0) ∧ (0 < b → -b < a.tmod b ∧ a.tmod b < b) ∧ (b < 0 → b < a.tmod b ∧ a.tmod b < -b)
    ∧ -(a.natAbs : Int) ≤ a.tdiv b ∧ a.tdiv b ≤ a.natAbs := by
  have h1 : a.tdiv b * b + a.tmod b = a := by rw [Int.mul_comm]; exact Int.mul_tdiv_add_tmod a b
  have h2 : 0 ≤ a → 0 ≤ a.tmod b := fun h => Int.tmod_nonneg b h
  have h3 : a ≤ 0 → a.tmod b ≤ 0 := fun h => by
    have := Int.tmod_nonneg (a := -a) b (by omega)
    rw [Int.neg_tmod] at this; omega
  have h4 : (a.tmod b).natAbs < b.natAbs := by rw [Int.natAbs_tmod]; exact Nat.mod_lt _ (by omega)
  have h5 : (a.tdiv b).natAbs ≤ a.natAbs := by rw [Int.natAbs_tdiv]; exact Nat.div_le_self _ _
  exact ⟨h1, h2, h3, fun h => by omega, fun h => by omega, by omega, by omega⟩

theorem ret3 {a b c a' b' c' : Int} (h1 : a = a') (h2 : b = b') (h3 : c = c') : Ending.returned (.tuple #[.int .i64 a, .int .i64 b, .int .i64 c]) = .returned (.tuple #[.int .i64 a', .int .i64 b', .int .i64 c']) := by rw [h1, h2, h3]
theorem ret_i {k : IntKind} {a b : Int} (h : a = b) : Ending.returned (.int k a) = .returned (.int k b) := by rw [h]
theorem grew_set {w w1 : World} (h : Grew w w1) {p : Addr} (v : Value) (hp : w.heap.size ≤ p.block) : Grew w (w1.setCell p v) := Below.setCell h hp v
theorem grew_drew {w w1 : World} (h : Grew w w1) : Grew w w1.drew := ⟨h.os, h.tape, h.output, h.size, h.block⟩
end Go.Proofs.YtahioajpmlochaaGreat.NumK
namespace Go.Proofs.YtahioajpmlochaaGreat.NumK
open Go.RowKit

theorem Ints.keep {w w' : World} {A : Option Addr} {n : Nat} {zs : List Int} (h : Ints w A n zs) (g : Grew w w') : Ints w' A n zs :=
  ⟨h.1, fun hn => by
    obtain ⟨b, o, e, hb, hc⟩ := h.2 hn
    exact ⟨b, o, e, Nat.lt_of_lt_of_le hb g.size, fun j hj => (grew_cell g (p := ⟨b, o + j, none⟩) hb).trans (hc j hj)⟩⟩

theorem Ints.below {w w' : World} {A : Option Addr} {n : Nat} {zs : List Int} {B : Nat} (h : Ints w A n zs) (hB : w.heap.size ≤ B) (g : Below B w w') : Ints w' A n zs :=
  h.keep (g.mono hB)

theorem info_i64 : (Tryz.prog.info? 3).map (fun i => (i.zero, i.size, i.bytes)) = some (some (.int .i64 0), 1, 8) := by kernel_rfl

end Go.Proofs.YtahioajpmlochaaGreat.NumK
namespace Go.Proofs.YtahioajpmlochaaGreat.NumK

/-- e is d with the places from a up to b among themselves moved. -/
def Moves (a b : Nat) (d e : Nat → Nat) : Prop :=
  ∃ s t : Nat → Nat, (∀ k, s (t k) = k) ∧ (∀ k, t (s k) = k) ∧ (∀ k, ¬ (a ≤ k ∧ k < b) → s k = k) ∧ ∀ k, e k = d (s k)

theorem Moves.refl (a b : Nat) (d : Nat → Nat) : Moves a b d d := ⟨id, id, fun _ => rfl, fun _ => rfl, fun _ _ => rfl, fun _ => rfl⟩

theorem Moves.trans {a b : Nat} {d e g : Nat → Nat} (h : Moves a b d e) (k : Moves a b e g) : Moves a b d g := by
  obtain ⟨s, t, h1, h2, h3, h4⟩ := h
  obtain ⟨u, v, k1, k2, k3, k4⟩ := k
  refine ⟨fun x => s (u x), fun x => v (t x), fun x => ?_, fun x => ?_, fun x hx => ?_, fun x => ?_⟩
  · show s (u (v (t x))) = x; rw [k1, h1]
  · show v (t (s (u x))) = x; rw [h2, k2]
  · show s (u x) = x; rw [k3 x hx, h3 x hx]
  · rw [k4, h4]

theorem Moves.mono {a b a' b' : Nat} {d e : Nat → Nat} (h : Moves a b d e) (ha : a' ≤ a) (hb : b ≤ b') : Moves a' b' d e := by
  obtain ⟨s, t, h1, h2, h3, h4⟩ := h
  exact ⟨s, t, h1, h2, fun k hk => h3 k (by omega), h4⟩

theorem Moves.out {a b : Nat} {d e : Nat → Nat} (h : Moves a b d e) (k : Nat) (hk : ¬ (a ≤ k ∧ k < b)) : e k = d k := by
  obtain ⟨s, t, h1, h2, h3, h4⟩ := h
  rw [h4, h3 k hk]

/-- What stands within stood within. -/
theorem Moves.within {a b : Nat} {d e : Nat → Nat} (h : Moves a b d e) (k : Nat) (ha : a ≤ k) (hb : k < b) : ∃ j, a ≤ j ∧ j < b ∧ e k = d j := by
  obtain ⟨s, t, h1, h2, h3, h4⟩ := h
  by_cases hc : a ≤ s k ∧ s k < b
  · exact ⟨s k, hc.1, hc.2, h4 k⟩
  · have e1 := h3 (s k) hc
    have e2 : s k = k := by rw [← h2 (s k), e1, h2]
    exact ⟨k, ha, hb, by rw [h4, e2]⟩

def sw (d : Nat → Nat) (i j k : Nat) : Nat := if k = i then d j else if k = j then d i else d k

theorem sw_moves {a b : Nat} (d : Nat → Nat) (i j : Nat) (hi : a ≤ i ∧ i < b) (hj : a ≤ j ∧ j < b) : Moves a b d (sw d i j) := by
  refine ⟨fun k => if k = i then j else if k = j then i else k, fun k => if k = i then j else if k = j then i else k, ?_, ?_, ?_, ?_⟩
  · intro k; show (if (if k = i then j else if k = j then i else k) = i then j else if (if k = i then j else if k = j then i else k) = j then i else (if k = i then j else if k = j then i else k)) = k
    split <;> split <;> (try split) <;> omega
  · intro k; show (if (if k = i then j else if k = j then i else k) = i then j else if (if k = i then j else if k = j then i else k) = j then i else (if k = i then j else if k = j then i else k)) = k
    split <;> split <;> (try split) <;> omega
  · intro k hk; show (if k = i then j else if k = j then i else k) = k
    split
    · omega
    · split <;> omega
  · intro k; unfold sw; dsimp only
    split
    · rfl
    · split <;> rfl

/-! ### exchanging two ranges, turning two neighbours -/
def swr (d : Nat → Nat) (a b i k : Nat) : Nat := if a ≤ k ∧ k < a + i then d (k - a + b) else if b ≤ k ∧ k < b + i then d (k - b + a) else d k

theorem swr_zero (d : Nat → Nat) (a b : Nat) : swr d a b 0 = d := by
  funext k; unfold swr; rw [if_neg (by omega), if_neg (by omega)]

theorem swr_succ (d : Nat → Nat) (a b i : Nat) (h : a + i < b) : sw (swr d a b i) (a + i) (b + i) = swr d a b (i + 1) := by
  funext k
  unfold sw
  by_cases h1 : k = a + i
  · subst h1
    rw [if_pos rfl]; unfold swr
    rw [if_neg (by omega), if_neg (by omega), if_pos (by omega)]; congr 1; omega
  · rw [if_neg h1]
    by_cases h2 : k = b + i
    · subst h2
      rw [if_pos rfl]; unfold swr
      rw [if_neg (by omega), if_neg (by omega), if_neg (by omega), if_pos (by omega)]; congr 1; omega
    · rw [if_neg h2]; unfold swr
      by_cases h3 : a ≤ k ∧ k < a + i
      · rw [if_pos h3, if_pos (by omega)]
      · rw [if_neg h3, if_neg (show ¬ (a ≤ k ∧ k < a + (i + 1)) by omega)]
        by_cases h4 : b ≤ k ∧ k < b + i
        · rw [if_pos h4, if_pos (by omega)]
        · rw [if_neg h4, if_neg (by omega)]

def rot (d : Nat → Nat) (a m b k : Nat) : Nat := if a ≤ k ∧ k < a + (b - m) then d (k + (m - a)) else if a + (b - m) ≤ k ∧ k < b then d (k - (b - m)) else d k

theorem rot_gt (e : Nat → Nat) (m i j : Nat) (hm : i ≤ m) (h : j < i) : rot (swr e (m - i) m j) (m - (i - j)) m (m + j) = rot e (m - i) m (m + j) := by
  funext k
  unfold rot
  by_cases c1 : m - i ≤ k ∧ k < m - i + j
  · rw [if_neg (by omega), if_neg (by omega), if_pos (by omega)]
    unfold swr; rw [if_pos (by omega)]; congr 1; omega
  · by_cases c2 : m - i + j ≤ k ∧ k < m - i + 2 * j ∧ k < m
    · rw [if_pos (by omega)]
      unfold swr
      by_cases c3 : k + (m - (m - (i - j))) < m
      · rw [if_neg (by omega), if_neg (by omega), if_neg (by omega), if_pos (by omega)]; congr 1; omega
      · rw [if_neg (by omega), if_pos (by omega), if_neg (by omega), if_pos (by omega)]; congr 1; omega
    · by_cases c4 : m - i + 2 * j ≤ k ∧ k < m + j
      · rw [if_neg (by omega), if_pos (by omega), if_neg (by omega), if_pos (by omega)]
        unfold swr
        by_cases c5 : k - j < m
        · rw [if_neg (by omega), if_neg (by omega)]; try (congr 1; omega)
        · omega
      · by_cases c6 : m ≤ k ∧ k < m + j
        · rw [if_pos (by omega), if_neg (by omega), if_pos (by omega)]
          unfold swr; rw [if_neg (by omega), if_pos (by omega)]; congr 1; omega
        · rw [if_neg (by omega), if_neg (by omega), if_neg (by omega), if_neg (by omega)]
          unfold swr; rw [if_neg (by omega), if_neg (by omega)]

theorem rot_lt (e : Nat → Nat) (m i j : Nat) (hm : i ≤ m) (h : i < j) : rot (swr e (m - i) (m + j - i) i) (m - i) m (m + (j - i)) = rot e (m - i) m (m + j) := by
  funext k
  unfold rot
  by_cases c1 : m - i ≤ k ∧ k < m - i + (j - i)
  · rw [if_pos (by omega), if_pos (by omega)]
    unfold swr; rw [if_neg (by omega), if_neg (by omega)]; try (congr 1; omega)
  · by_cases c2 : m - i + (j - i) ≤ k ∧ k < m + (j - i)
    · rw [if_neg (by omega), if_pos (by omega), if_pos (by omega)]
      unfold swr; rw [if_pos (by omega)]; congr 1; omega
    · by_cases c3 : m + (j - i) ≤ k ∧ k < m + j
      · rw [if_neg (by omega), if_neg (by omega), if_neg (by omega), if_pos (by omega)]
        unfold swr; rw [if_neg (by omega), if_pos (by omega)]; congr 1; omega
      · rw [if_neg (by omega), if_neg (by omega), if_neg (by omega), if_neg (by omega)]
        unfold swr; rw [if_neg (by omega), if_neg (by omega)]

theorem rot_eq (e : Nat → Nat) (m i : Nat) (hm : i ≤ m) : swr e (m - i) m i = rot e (m - i) m (m + i) := by
  funext k
  unfold rot swr
  by_cases c1 : m - i ≤ k ∧ k < m
  · rw [if_pos (by omega), if_pos (by omega)]; congr 1; omega
  · by_cases c2 : m ≤ k ∧ k < m + i
    · rw [if_neg (by omega), if_pos (by omega), if_neg (by omega), if_pos (by omega)]; congr 1; omega
    · rw [if_neg (by omega), if_neg (by omega), if_neg (by omega), if_neg (by omega)]

theorem rot_moves (d : Nat → Nat) (a m b : Nat) (h1 : a ≤ m) (h2 : m ≤ b) : Moves a b d (rot d a m b) := by
  refine ⟨fun k => if a ≤ k ∧ k < a + (b - m) then k + (m - a) else if a + (b - m) ≤ k ∧ k < b then k - (b - m) else k,
    fun k => if a ≤ k ∧ k < m then k + (b - m) else if m ≤ k ∧ k < b then k - (m - a) else k, ?_, ?_, ?_, ?_⟩
  · intro k; dsimp only
    by_cases c1 : a ≤ k ∧ k < m
    · rw [if_pos c1, if_neg (by omega), if_pos (by omega)]; omega
    · rw [if_neg c1]
      by_cases c2 : m ≤ k ∧ k < b
      · rw [if_pos c2, if_pos (by omega)]; omega
      · rw [if_neg c2, if_neg (by omega), if_neg (by omega)]
  · intro k; dsimp only
    by_cases c1 : a ≤ k ∧ k < a + (b - m)
    · rw [if_pos c1, if_neg (by omega), if_pos (by omega)]; omega
    · rw [if_neg c1]
      by_cases c2 : a + (b - m) ≤ k ∧ k < b
      · rw [if_pos c2, if_pos (by omega)]; omega
      · rw [if_neg c2, if_neg (by omega), if_neg (by omega)]
  · intro k hk; dsimp only; rw [if_neg (by omega), if_neg (by omega)]
  · intro k; unfold rot; dsimp only
    split
    · rfl
    · split <;> rfl

/-! ### the order: greater keys ahead, of equal ones the smaller number -/
def Ah (f : Nat → Int) (x y : Nat) : Prop := f y < f x ∨ (f x = f y ∧ x < y)
def Sd (f : Nat → Int) (a b : Nat) (d : Nat → Nat) : Prop := ∀ i j, a ≤ i → i < j → j < b → Ah f (d i) (d j)
def Xs (a m b : Nat) (d : Nat → Nat) : Prop := ∀ i j, a ≤ i → i < m → m ≤ j → j < b → d i < d j

theorem Ah.trans {f : Nat → Int} {x y z : Nat} (h : Ah f x y) (k : Ah f y z) : Ah f x z := by unfold Ah at *; omega

theorem Sd.same {f : Nat → Int} {a b : Nat} {d e : Nat → Nat} (h : Sd f a b d) (he : ∀ k, a ≤ k → k < b → e k = d k) : Sd f a b e := by
  intro i j h1 h2 h3; rw [he i h1 (by omega), he j (by omega) h3]; exact h i j h1 h2 h3
theorem Sd.one (f : Nat → Int) (a b : Nat) (d : Nat → Nat) (h : b ≤ a + 1) : Sd f a b d := fun i j h1 h2 h3 => by omega
/-- What is moved within of two sorted halves, the first ahead of the second, stays so. -/
theorem Sd.join {f : Nat → Int} {a m b : Nat} {d : Nat → Nat} (h1 : Sd f a m d) (h2 : Sd f m b d) (h3 : ∀ i j, a ≤ i → i < m → m ≤ j → j < b → Ah f (d i) (d j)) : Sd f a b d := by
  intro i j p q r
  by_cases c1 : j < m
  · exact h1 i j p q c1
  · by_cases c2 : m ≤ i
    · exact h2 i j c2 q r
    · exact h3 i j p (by omega) (by omega) r
theorem ahead_moves {f : Nat → Int} {a m b : Nat} {d e g : Nat → Nat} (h3 : ∀ i j, a ≤ i → i < m → m ≤ j → j < b → Ah f (d i) (d j)) (h1 : Moves a m d e) (h2 : Moves m b e g) :
    ∀ i j, a ≤ i → i < m → m ≤ j → j < b → Ah f (g i) (g j) := by
  intro i j p q r s
  rw [h2.out i (by omega)]
  obtain ⟨i', a1, a2, a3⟩ := h1.within i p q
  obtain ⟨j', b1, b2, b3⟩ := h2.within j r s
  rw [a3, b3, h1.out j' (by omega)]
  exact h3 i' j' a1 a2 b1 b2

/-! ### insertion -/
/-- The row while what stood at i goes down, now at j. -/
def Ins (f : Nat → Int) (a i j : Nat) (e : Nat → Nat) : Prop :=
  (∀ p q, a ≤ p → p < q → q ≤ i → p ≠ j → q ≠ j → Ah f (e p) (e q)) ∧ (∀ q, j < q → q ≤ i → Ah f (e j) (e q)) ∧ ∀ p, a ≤ p → p ≤ i → p ≠ j → e p < e j

theorem ins_start {f : Nat → Int} {a i : Nat} {d e : Nat → Nat} (hs : Sd f a i e) (hm : Moves a i d e) (hd : ∀ p q, a ≤ p → p < q → q ≤ i → d p < d q) : Ins f a i i e := by
  refine ⟨fun p q h1 h2 h3 h4 h5 => hs p q h1 h2 (by omega), fun q h1 h2 => by omega, fun p h1 h2 h3 => ?_⟩
  obtain ⟨j, b1, b2, b3⟩ := hm.within p h1 (by omega)
  rw [b3, hm.out i (by omega)]
  exact hd j i b1 b2 (Nat.le_refl _)

theorem ins_down {f : Nat → Int} {a i j : Nat} {e : Nat → Nat} (h : Ins f a i (j + 1) e) (ha : a ≤ j) (hi : j + 1 ≤ i) (hl : f (e j) < f (e (j + 1))) : Ins f a i j (sw e (j + 1) j) := by
  obtain ⟨h1, h2, h3⟩ := h
  have hn : ∀ k, k ≠ j + 1 → k ≠ j → sw e (j + 1) j k = e k := fun k c1 c2 => by unfold sw; rw [if_neg c1, if_neg c2]
  have hj : sw e (j + 1) j j = e (j + 1) := by unfold sw; rw [if_neg (by omega), if_pos rfl]
  have hj1 : sw e (j + 1) j (j + 1) = e j := by unfold sw; rw [if_pos rfl]
  refine ⟨fun p q p1 p2 p3 p4 p5 => ?_, fun q p1 p2 => ?_, fun p p1 p2 p3 => ?_⟩
  · by_cases c1 : q = j + 1
    · subst c1
      rw [hj1, hn p (by omega) (by omega)]
      exact h1 p j p1 (by omega) (by omega) (by omega) (by omega)
    · by_cases c2 : p = j + 1
      · subst c2
        rw [hj1, hn q (by omega) (by omega)]
        exact h1 j q ha (by omega) p3 (by omega) (by omega)
      · rw [hn p c2 p4, hn q c1 p5]
        exact h1 p q p1 p2 p3 c2 c1
  · rw [hj]
    by_cases c1 : q = j + 1
    · subst c1; rw [hj1]; unfold Ah; omega
    · rw [hn q c1 (by omega)]; exact h2 q (by omega) p2
  · rw [hj]
    by_cases c1 : p = j + 1
    · subst c1; rw [hj1]; exact h3 j ha (by omega) (by omega)
    · rw [hn p c1 p3]; exact h3 p p1 p2 c1

theorem ins_stop {f : Nat → Int} {a i j : Nat} {e : Nat → Nat} (h : Ins f a i j e) (hj : a ≤ j) (hi : j ≤ i) (hl : j = a ∨ ¬ f (e (j - 1)) < f (e j)) : Sd f a (i + 1) e := by
  obtain ⟨h1, h2, h3⟩ := h
  intro p q p1 p2 p3
  by_cases c1 : p = j
  · subst c1; exact h2 q p2 (by omega)
  · by_cases c2 : q = j
    · subst c2
      rcases hl with hl | hl
      · omega
      · have h4 := h3 (q - 1) (by omega) (by omega) (by omega)
        have h5 : Ah f (e (q - 1)) (e q) := by unfold Ah; omega
        by_cases c3 : p = q - 1
        · subst c3; exact h5
        · exact (h1 p (q - 1) p1 (by omega) (by omega) c1 (by omega)).trans h5
    · exact h1 p q p1 p2 (by omega) c1 c2

/-! ### one element among many -/
/-- What stands at a goes up to i - 1. -/
def shU (d : Nat → Nat) (a k x : Nat) : Nat := if a ≤ x ∧ x < k then d (x + 1) else if x = k then d a else d x
theorem shU_zero (d : Nat → Nat) (a : Nat) : shU d a a = d := by
  funext x; unfold shU; rw [if_neg (by omega)]
  split
  · next h => rw [h]
  · rfl
theorem shU_succ (d : Nat → Nat) (a k : Nat) (h : a ≤ k) : sw (shU d a k) k (k + 1) = shU d a (k + 1) := by
  funext x
  unfold sw
  by_cases h1 : x = k
  · subst h1
    rw [if_pos rfl]; unfold shU
    rw [if_neg (by omega), if_neg (by omega), if_pos (by omega)]
  · rw [if_neg h1]
    by_cases h2 : x = k + 1
    · subst h2
      rw [if_pos rfl]; unfold shU
      rw [if_neg (by omega), if_pos rfl, if_neg (by omega), if_pos rfl]
    · rw [if_neg h2]; unfold shU
      by_cases h3 : a ≤ x ∧ x < k
      · rw [if_pos h3, if_pos (by omega)]
      · rw [if_neg h3, if_neg (by omega), if_neg (by omega), if_neg (by omega)]
theorem shU_moves (d : Nat → Nat) (a k b : Nat) (h : a ≤ k) (hb : k < b) : Moves a b d (shU d a k) := by
  induction k with
  | zero => obtain rfl : a = 0 := by omega
            rw [shU_zero]; exact Moves.refl _ _ _
  | succ k ih =>
    by_cases c : a = k + 1
    · subst c; rw [shU_zero]; exact Moves.refl _ _ _
    · rw [← shU_succ d a k (by omega)]
      exact (ih (by omega) (by omega)).trans (sw_moves _ _ _ (by omega) (by omega))
theorem shU_sorted {f : Nat → Int} {a b i : Nat} {d : Nat → Nat} (hs : Sd f (a + 1) b d) (hx : Xs a (a + 1) b d) (h1 : a + 1 ≤ i) (h2 : i ≤ b)
    (hlo : ∀ k, a + 1 ≤ k → k < i → f (d a) < f (d k)) (hhi : ∀ k, i ≤ k → k < b → ¬ f (d a) < f (d k)) : Sd f a b (shU d a (i - 1)) := by
  intro p q p1 p2 p3
  unfold shU
  by_cases c1 : q < i - 1
  · rw [if_pos (by omega), if_pos (by omega)]; exact hs (p + 1) (q + 1) (by omega) (by omega) (by omega)
  · by_cases c2 : q = i - 1
    · rw [if_pos (by omega), if_neg (by omega), if_pos c2]; have := hlo (p + 1) (by omega) (by omega); unfold Ah; omega
    · have hq := hhi q (by omega) p3
      have hxq := hx a q (by omega) (by omega) (by omega) p3
      have hA : Ah f (d a) (d q) := by unfold Ah; omega
      rw [if_neg (show ¬ (a ≤ q ∧ q < i - 1) by omega), if_neg c2]
      by_cases c3 : p < i - 1
      · rw [if_pos (by omega)]; exact hs (p + 1) q (by omega) (by omega) p3
      · rw [if_neg (by omega)]
        by_cases c4 : p = i - 1
        · rw [if_pos c4]; exact hA
        · rw [if_neg c4]; exact hs p q (by omega) p2 p3

/-- What stands at m goes down to i. -/
def shD (d : Nat → Nat) (m k x : Nat) : Nat := if k < x ∧ x ≤ m then d (x - 1) else if x = k then d m else d x
theorem shD_zero (d : Nat → Nat) (m : Nat) : shD d m m = d := by
  funext x; unfold shD; rw [if_neg (by omega)]
  split
  · next h => rw [h]
  · rfl
theorem shD_succ (d : Nat → Nat) (m k : Nat) (h : k + 1 ≤ m) : sw (shD d m (k + 1)) (k + 1) k = shD d m k := by
  funext x
  unfold sw
  by_cases h1 : x = k + 1
  · subst h1
    rw [if_pos rfl]; unfold shD
    rw [if_neg (by omega), if_neg (by omega), if_pos (by omega)]; rfl
  · rw [if_neg h1]
    by_cases h2 : x = k
    · subst h2
      rw [if_pos rfl]; unfold shD
      rw [if_neg (by omega), if_pos rfl, if_neg (by omega), if_pos rfl]
    · rw [if_neg h2]; unfold shD
      by_cases h3 : k + 1 < x ∧ x ≤ m
      · rw [if_pos h3, if_pos (by omega)]
      · rw [if_neg h3, if_neg (by omega), if_neg (by omega), if_neg (by omega)]
theorem shD_moves (d : Nat → Nat) (a m k : Nat) (ha : a ≤ k) (hk : k ≤ m) : Moves a (m + 1) d (shD d m k) := by
  obtain ⟨n, rfl⟩ : ∃ n, m = k + n := ⟨m - k, by omega⟩
  induction n generalizing k with
  | zero =>
    have e : shD d (k + 0) k = d := shD_zero d k
    rw [e]; exact Moves.refl _ _ _
  | succ n ih =>
    have h := ih (k + 1) (by omega) (by omega)
    rw [show k + 1 + n = k + (n + 1) from by omega] at h
    rw [← shD_succ d (k + (n + 1)) k (by omega)]
    exact h.trans (sw_moves _ _ _ (by omega) (by omega))
theorem shD_sorted {f : Nat → Int} {a m i : Nat} {d : Nat → Nat} (hs : Sd f a m d) (hx : Xs a m (m + 1) d) (h1 : a ≤ i) (h2 : i ≤ m)
    (hlo : ∀ k, a ≤ k → k < i → ¬ f (d k) < f (d m)) (hhi : ∀ k, i ≤ k → k < m → f (d k) < f (d m)) : Sd f a (m + 1) (shD d m i) := by
  intro p q p1 p2 p3
  unfold shD
  by_cases c1 : q < i
  · rw [if_neg (by omega), if_neg (by omega), if_neg (by omega), if_neg (by omega)]; exact hs p q p1 p2 (by omega)
  · by_cases c2 : q = i
    · rw [if_neg (by omega), if_neg (by omega), if_neg (by omega), if_pos c2]
      have := hlo p p1 (by omega)
      have hxp := hx p m p1 (by omega) (Nat.le_refl _) (by omega)
      unfold Ah; omega
    · rw [if_pos (show i < q ∧ q ≤ m by omega)]
      by_cases c3 : p < i
      · rw [if_neg (by omega), if_neg (by omega)]; exact hs p (q - 1) p1 (by omega) (by omega)
      · by_cases c4 : p = i
        · rw [if_neg (by omega), if_pos c4]; have := hhi (q - 1) (by omega) (by omega); unfold Ah; omega
        · rw [if_pos (by omega)]; exact hs (p - 1) (q - 1) (by omega) (by omega) (by omega)

/-! ### the symmetric merge -/
/-- Where the halves are parted: what stands at 'start' of the first half. -/
structure Cut (f : Nat → Int) (a m b mid s : Nat) (d : Nat → Nat) : Prop where
  lo : a ≤ s
  mid1 : s ≤ mid
  m1 : s ≤ m
  e1 : mid + m - s ≤ b
  e0 : m ≤ mid + m - s
  below : ∀ i j, a ≤ i → i < s → mid + m - s ≤ j → j < b → Ah f (d i) (d j)
  above : ∀ i j, s ≤ i → i < m → m ≤ j → j < mid + m - s → Ah f (d j) (d i)

theorem cut_of {f : Nat → Int} {a m b mid s lo0 hi0 : Nat} {d : Nat → Nat} (h1 : Sd f a m d) (h2 : Sd f m b d) (hx : Xs a m b d) (ham : a < m) (hmb : m < b) (hmid : mid = (a + b) / 2)
    (hlo : lo0 = if mid < m then mid + m - b else a) (hhi : hi0 = if mid < m then mid else m) (hs1 : lo0 ≤ s) (hs2 : s ≤ hi0)
    (hb : lo0 < s → ¬ f (d (s - 1)) < f (d (mid + m - 1 - (s - 1)))) (ha : s < hi0 → f (d s) < f (d (mid + m - 1 - s))) : Cut f a m b mid s d := by
  have hb0 : lo0 = s ∨ lo0 < s := by omega
  have ha0 : s = hi0 ∨ s < hi0 := by omega
  refine ⟨by (split at hlo) <;> omega, by (split at hhi) <;> omega, by (split at hhi) <;> omega, by (split at hlo) <;> (split at hhi) <;> omega, by (split at hhi) <;> omega, ?_, ?_⟩
  · intro i j p1 p2 p3 p4
    rcases hb0 with c | c
    · split at hlo <;> omega
    · have k1 := hb c
      rw [show mid + m - 1 - (s - 1) = mid + m - s from by (split at hhi) <;> omega] at k1
      have g1 : mid + m - s < b := by omega
      have g2 : m ≤ mid + m - s := by (split at hhi) <;> omega
      have g3 : s - 1 < m := by (split at hhi) <;> omega
      have g4 : a ≤ s - 1 := by (split at hlo) <;> omega
      have k2 := hx (s - 1) (mid + m - s) g4 g3 g2 g1
      have k3 : Ah f (d (s - 1)) (d (mid + m - s)) := by unfold Ah; omega
      have k4 : i = s - 1 ∨ Ah f (d i) (d (s - 1)) := by
        by_cases e : i = s - 1
        · exact Or.inl e
        · exact Or.inr (h1 i (s - 1) p1 (by omega) g3)
      have k5 : j = mid + m - s ∨ Ah f (d (mid + m - s)) (d j) := by
        by_cases e : j = mid + m - s
        · exact Or.inl e
        · exact Or.inr (h2 (mid + m - s) j g2 (by omega) p4)
      rcases k4 with rfl | k4 <;> rcases k5 with rfl | k5
      · exact k3
      · exact k3.trans k5
      · exact k4.trans k3
      · exact (k4.trans k3).trans k5
  · intro i j p1 p2 p3 p4
    rcases ha0 with c | c
    · split at hhi <;> omega
    · have k1 := ha c
      have g1 : m ≤ mid + m - 1 - s := by omega
      have g2 : mid + m - 1 - s < b := by (split at hlo) <;> omega
      have g3 : a ≤ s := by (split at hlo) <;> omega
      have g4 : s < m := by omega
      have k3 : Ah f (d (mid + m - 1 - s)) (d s) := by unfold Ah; omega
      have k4 : i = s ∨ Ah f (d s) (d i) := by
        by_cases e : i = s
        · exact Or.inl e
        · exact Or.inr (h1 s i g3 (by omega) p2)
      have k5 : j = mid + m - 1 - s ∨ Ah f (d j) (d (mid + m - 1 - s)) := by
        by_cases e : j = mid + m - 1 - s
        · exact Or.inl e
        · exact Or.inr (h2 j (mid + m - 1 - s) p3 (by omega) g2)
      rcases k4 with rfl | k4 <;> rcases k5 with rfl | k5
      · exact k3
      · exact k5.trans k3
      · exact k3.trans k4
      · exact (k5.trans k3).trans k4

/-- Behind the turn at the cut: two halves, each of two sorted parts, the first half ahead of the second. -/
theorem cut_rot {f : Nat → Int} {a m b mid s : Nat} {d : Nat → Nat} (h1 : Sd f a m d) (h2 : Sd f m b d) (hx : Xs a m b d) (C : Cut f a m b mid s d) :
    Sd f a s (rot d s m (mid + m - s)) ∧ Sd f s mid (rot d s m (mid + m - s)) ∧ Sd f mid (mid + m - s) (rot d s m (mid + m - s)) ∧ Sd f (mid + m - s) b (rot d s m (mid + m - s)) ∧
    Xs a s mid (rot d s m (mid + m - s)) ∧ Xs mid (mid + m - s) b (rot d s m (mid + m - s)) ∧ ∀ i j, a ≤ i → i < mid → mid ≤ j → j < b → Ah f (rot d s m (mid + m - s) i) (rot d s m (mid + m - s) j) := by
  obtain ⟨lo, mid1, m1, e1, e0, below, above⟩ := C
  have r1 : ∀ k, k < s → rot d s m (mid + m - s) k = d k := fun k hk => by unfold rot; rw [if_neg (by omega), if_neg (by omega)]
  have r2 : ∀ k, s ≤ k → k < mid → rot d s m (mid + m - s) k = d (k + (m - s)) := fun k h1 h2 => by unfold rot; rw [if_pos (by omega)]
  have r3 : ∀ k, mid ≤ k → k < mid + m - s → rot d s m (mid + m - s) k = d (k - (mid - s)) := fun k h1 h2 => by
    unfold rot; rw [if_neg (by omega), if_pos (by omega)]; congr 1; omega
  have r4 : ∀ k, mid + m - s ≤ k → rot d s m (mid + m - s) k = d k := fun k hk => by unfold rot; rw [if_neg (by omega), if_neg (by omega)]
  generalize rot d s m (mid + m - s) = e at *
  refine ⟨?_, ?_, ?_, ?_, ?_, ?_, ?_⟩
  · intro i j p1 p2 p3; rw [r1 i (by omega), r1 j p3]; exact h1 i j p1 p2 (by omega)
  · intro i j p1 p2 p3; rw [r2 i p1 (by omega), r2 j (by omega) p3]; exact h2 _ _ (by omega) (by omega) (by omega)
  · intro i j p1 p2 p3; rw [r3 i p1 (by omega), r3 j (by omega) p3]; exact h1 _ _ (by omega) (by omega) (by omega)
  · intro i j p1 p2 p3; rw [r4 i p1, r4 j (by omega)]; exact h2 i j (by omega) p2 p3
  · intro i j p1 p2 p3 p4; rw [r1 i p2, r2 j p3 p4]; exact hx _ _ p1 (by omega) (by omega) (by omega)
  · intro i j p1 p2 p3 p4; rw [r3 i p1 p2, r4 j p3]; exact hx _ _ (by omega) (by omega) (by omega) p4
  · intro i j p1 p2 p3 p4
    by_cases c1 : i < s
    · rw [r1 i c1]
      by_cases c2 : j < mid + m - s
      · rw [r3 j p3 c2]; exact h1 _ _ p1 (by omega) (by omega)
      · rw [r4 j (by omega)]; exact below i j p1 c1 (by omega) p4
    · rw [r2 i (by omega) p2]
      by_cases c2 : j < mid + m - s
      · rw [r3 j p3 c2]; exact above _ _ (by omega) (by omega) (by omega) (by omega)
      · rw [r4 j (by omega)]; exact h2 _ _ (by omega) (by omega) p4

/-! ### blocks -/
/-- Each number below c stands below c. -/
def Br (c : Nat) (d : Nat → Nat) : Prop := ∀ k, k < c ↔ d k < c
theorem Br.moves {a b c : Nat} {d e : Nat → Nat} (h : Br c d) (hm : Moves a b d e) (hc : c ≤ a ∨ b ≤ c) : Br c e := by
  intro k
  by_cases h1 : a ≤ k ∧ k < b
  · obtain ⟨j, p1, p2, p3⟩ := hm.within k h1.1 h1.2
    rw [p3, ← h j]; omega
  · rw [hm.out k h1]; exact h k
theorem Br.xs {a m b : Nat} {d : Nat → Nat} (h : Br m d) : Xs a m b d := fun i j _ p2 p3 _ => by
  have h1 := (h i).1 p2
  have h2 := mt (h j).2 (by omega)
  omega
theorem Sd.moves_out {f : Nat → Int} {a b p q : Nat} {d e : Nat → Nat} (h : Sd f p q d) (hm : Moves a b d e) (hc : q ≤ a ∨ b ≤ p) : Sd f p q e :=
  h.same fun k h1 h2 => hm.out k (by omega)

end Go.Proofs.YtahioajpmlochaaGreat.NumK
namespace Go.Proofs.YtahioajpmlochaaGreat.NumK
open Go.RowKit

/-! ### regions that draw their order, read, and call what makes memory -/
/-- A world that has grown from w. -/
structure GrewTo (w : World) where
  to : World
  h : Grew w to

instance (w : World) : Nonempty (GrewTo w) := ⟨⟨w, grew_refl w⟩⟩

theorem wp_region_grew {P : Program} {id : Nat} {Q : Exit → Act → World → Prop} {a : Act} {w : World} {l : List Oper} (hm : P.follows .mixedOrders = true) (hB : Region.lexB .any l.toArray = true)
    (h : wpQuiet P l.toArray (fun w' => ∃ p : GrewTo w, w' = p.to) (fun a' => ∀ w', (∃ p : GrewTo w, w' = p.to) → Q .normal a' w') l a) : (Code.region id l.toArray true).wp P Q a w :=
  wp_region_quiet (C := fun w' => ∃ p : GrewTo w, w' = p.to) hm hB ⟨⟨w.drew, Below.drew (grew_refl w)⟩, rfl⟩ (by simpa using h)

theorem grew_of {w w' : World} (h : ∃ p : GrewTo w, w' = p.to) : Grew w w' := by
  obtain ⟨p, rfl⟩ := h
  exact p.h

/-- A callee's contract, met in such a world. -/
theorem calls_grew {P : Program} {f : FuncId} {args : Array Value} {w : World} {p : GrewTo w} {v : Value}
    (h : Calls P f args p.to fun e w' => e = .returned v ∧ Grew p.to w') : Calls P f args p.to fun e w'' => e = .returned v ∧ ∃ q : GrewTo w, w'' = q.to :=
  h.mono fun _ _ ⟨he, hg⟩ => ⟨he, ⟨_, grew_trans p.h hg⟩, rfl⟩

/-! ### all blocks but one -/
structure Turn (blk : Nat) (w w' : World) : Prop where
  os : w'.os = w.os
  tape : w'.tape = w.tape
  output : w'.output = w.output
  size : w.heap.size ≤ w'.heap.size
  block : ∀ k, k < w.heap.size → k ≠ blk → w'.heap[k]? = w.heap[k]?

theorem Turn.refl (blk : Nat) (w : World) : Turn blk w w := ⟨rfl, rfl, rfl, Nat.le_refl _, fun _ _ _ => rfl⟩
theorem Turn.trans {blk : Nat} {a b c : World} (h : Turn blk a b) (k : Turn blk b c) : Turn blk a c :=
  ⟨k.os.trans h.os, k.tape.trans h.tape, k.output.trans h.output, Nat.le_trans h.size k.size, fun i hi hn => (k.block i (Nat.lt_of_lt_of_le hi h.size) hn).trans (h.block i hi hn)⟩
theorem Turn.grew {blk : Nat} {a b c : World} (h : Turn blk a b) (k : Grew b c) : Turn blk a c :=
  h.trans ⟨k.os, k.tape, k.output, k.size, fun i hi _ => k.block i hi⟩
theorem Turn.drew {blk : Nat} {a b : World} (h : Turn blk a b) : Turn blk a b.drew := h.grew (Below.drew (grew_refl b))
theorem Turn.setCell {blk : Nat} {a b : World} (h : Turn blk a b) (o : Nat) (v : Value) : Turn blk a (b.setCell ⟨blk, o, none⟩ v) :=
  h.trans ⟨rfl, rfl, rfl, by simp [World.setCell], fun k _ hn => Below.heap_setCell _ _ _ _ hn⟩
theorem Turn.cell {blk : Nat} {w w' : World} (h : Turn blk w w') {p : Addr} (hp : p.block < w.heap.size) (hn : p.block ≠ blk) : w'.cell? p = w.cell? p := World.cell?_of_block (w := w) (h.block p.block hp hn)
theorem Turn.frozen {blk : Nat} {w w' : World} (h : Turn blk w w') {p : Addr} (hp : p.block < w.heap.size) (hn : p.block ≠ blk) : w'.frozen? p = w.frozen? p := World.frozen?_of_block (w := w) (h.block p.block hp hn)
/-- A row that is new since w0. -/
theorem Turn.new {blk : Nat} {w0 w w' : World} (g : Grew w0 w) (h : Turn blk w w') (hn : w0.heap.size ≤ blk) : Grew w0 w' :=
  ⟨h.os.trans g.os, h.tape.trans g.tape, h.output.trans g.output, Nat.le_trans g.size h.size, fun k hk => (h.block k (Nat.lt_of_lt_of_le hk g.size) (by omega)).trans (g.block k hk)⟩

/-! ### the row -/
def RowW (w : World) (blk n : Nat) (d : Nat → Nat) : Prop := blk < w.heap.size ∧ ∀ k, k < n → w.cell? ⟨blk, k, none⟩ = some (.int .i64 (d k)) ∧ w.frozen? ⟨blk, k, none⟩ = false

theorem RowW.keep {w w' : World} {blk n : Nat} {d : Nat → Nat} (h : RowW w blk n d) (g : Grew w w') : RowW w' blk n d :=
  ⟨Nat.lt_of_lt_of_le h.1 g.size, fun k hk => ⟨(grew_cell g (p := ⟨blk, k, none⟩) h.1).trans (h.2 k hk).1, (Below.frozen g (p := ⟨blk, k, none⟩) h.1).trans (h.2 k hk).2⟩⟩

theorem RowW.swap {w : World} {blk n : Nat} {d : Nat → Nat} (h : RowW w blk n d) (i j : Nat) (hi : i < n) (hj : j < n) (hij : i ≠ j) :
    RowW ((w.setCell ⟨blk, i, none⟩ (.int .i64 (d j))).setCell ⟨blk, j, none⟩ (.int .i64 (d i))).drew blk n (sw d i j) := by
  refine ⟨?_, fun k hk => ⟨?_, ?_⟩⟩
  · show blk < (World.setCell _ _ _).heap.size
    simp [World.setCell]; exact h.1
  · show ((w.setCell ⟨blk, i, none⟩ (.int .i64 (d j))).setCell ⟨blk, j, none⟩ (.int .i64 (d i))).cell? ⟨blk, k, none⟩ = _
    by_cases c : k = j
    · subst c
      have h1 : (w.setCell ⟨blk, i, none⟩ (.int .i64 (d k))).cell? ⟨blk, k, none⟩ = some (.int .i64 (d k)) := by
        rw [World.cell?_setCell_other _ _ _ _ (by intro e; simp only [Addr.mk.injEq] at e; omega)]; exact (h.2 k hk).1
      rw [World.cell?_setCell_same _ _ _ h1]
      unfold sw; rw [if_neg (by omega), if_pos rfl]
    · rw [World.cell?_setCell_other _ _ _ _ (by intro e; simp only [Addr.mk.injEq] at e; omega)]
      by_cases c2 : k = i
      · subst c2
        rw [World.cell?_setCell_same _ _ _ (h.2 k hk).1]
        unfold sw; rw [if_pos rfl]
      · rw [World.cell?_setCell_other _ _ _ _ (by intro e; simp only [Addr.mk.injEq] at e; omega), (h.2 k hk).1]
        unfold sw; rw [if_neg c2, if_neg c]
  · show ((w.setCell ⟨blk, i, none⟩ (.int .i64 (d j))).setCell ⟨blk, j, none⟩ (.int .i64 (d i))).frozen? ⟨blk, k, none⟩ = false
    rw [World.frozen?_setCell, World.frozen?_setCell]; exact (h.2 k hk).2
/-- Behind the first store of an exchange the other place holds what it held. -/
theorem RowW.two {w : World} {blk n : Nat} {d : Nat → Nat} (h : RowW w blk n d) (i j : Nat) (hj : j < n) (hij : i ≠ j) (v : Value) :
    (w.setCell ⟨blk, i, none⟩ v).cell? ⟨blk, j, none⟩ = some (.int .i64 (d j)) :=
  (World.cell?_setCell_other _ _ _ _ (by intro e; simp only [Addr.mk.injEq] at e; omega)).trans (h.2 j hj).1

/-- What is asked of the comparison: in every world that a sort of the row passes through it tells whose key is greater. -/
structure CmpOK (g : Nat) (cb : Array Value) (cf : Nat → Nat → Int) (f : Nat → Int) (blk n : Nat) (w0 : World) : Prop where
  lt : ∀ x y, cf x y < 0 ↔ f y < f x
  call : ∀ w, Turn blk w0 w → ∀ x y : Nat, x < n → y < n → Calls Tryz.prog g (#[.int .i64 x, .int .i64 y] ++ cb) w fun e w' => e = .returned (.int .i64 (cf x y)) ∧ Grew w w'

/-- What a sort of the places from a up to b leaves. -/
def SortPost (f : Nat → Int) (blk n a b : Nat) (d : Nat → Nat) (w0 : World) (e : Ending) (w' : World) : Prop :=
  e = .returned (.tuple #[]) ∧ ∃ d', Moves a b d d' ∧ Sd f a b d' ∧ RowW w' blk n d' ∧ Turn blk w0 w'

/-- A cell of the row in every world that has grown. -/
theorem RowW.all {w : World} {blk n : Nat} {d : Nat → Nat} (h : RowW w blk n d) (k : Nat) (hk : k < n) (p : GrewTo w) : p.to.cell? ⟨blk, k, none⟩ = some (.int .i64 (d k)) := ((h.keep p.h).2 k hk).1

theorem CmpOK.all {g : Nat} {cb : Array Value} {cf : Nat → Nat → Int} {f : Nat → Int} {blk n : Nat} {w0 w : World} (h : CmpOK g cb cf f blk n w0) (hT : Turn blk w0 w) (x y : Nat) (hx : x < n) (hy : y < n) (p : GrewTo w) :
    Calls Tryz.prog g (#[.int .i64 x, .int .i64 y] ++ cb) p.to fun e w' => e = .returned (.int .i64 (cf x y)) ∧ Grew p.to w' := h.call _ (hT.grew p.h) x y hx hy

theorem Moves.lt {a b n : Nat} {d e : Nat → Nat} (h : Moves a b d e) (hb : b ≤ n) (hd : ∀ k, k < n → d k < n) : ∀ k, k < n → e k < n := by
  intro k hk
  by_cases c : a ≤ k ∧ k < b
  · obtain ⟨j, j1, j2, j3⟩ := h.within k c.1 c.2
    rw [j3]; exact hd j (by omega)
  · rw [h.out k c]; exact hd k hk
end Go.Proofs.YtahioajpmlochaaGreat.NumK
