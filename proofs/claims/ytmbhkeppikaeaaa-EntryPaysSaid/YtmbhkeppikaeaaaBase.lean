/- What every stage's texts share: integers in memory, worlds that grow, money, floor division. -/
import Derived.Test.YtmbhkeppikaeaaaRows
import Derived.WalkKit
import Derived.ProofKit
import Derived.OpenShut
import Derived.Below
import Derived.Deep.Draws
import Derived.IntWalk
import Derived.Lib.Hide
namespace Go.Proofs.Ytmbhkeppikaeaaa.NumK
open Go.RowKit

/-- The slice value's cells read as zs. -/
def Ints (w : World) (A : Option Addr) (n : Nat) (zs : List Int) : Prop :=
  zs.length = n ∧ (0 < n → ∃ b o, A = some ⟨b, o, none⟩ ∧ b < w.heap.size ∧ ∀ j, j < n → w.cell? ⟨b, o + j, none⟩ = some (.int .i64 (zs.getD j 0)))

def isMoney (n : Int) : Bool := decide (-4611686018427387904 ≤ n) && decide (n ≤ 4611686018427387904)

theorem ret_b {a b : Bool} (h : a = b) : Ending.returned (.bool a) = .returned (.bool b) := by rw [h]

theorem isMoney_iff (n : Int) : isMoney n = true ↔ -4611686018427387904 ≤ n ∧ n ≤ 4611686018427387904 := by simp [isMoney]

theorem all_false (zs : List Int) (k : Nat) (h : k < zs.length) (y : Int) (hy : zs.getD k 0 = y) (hm : ¬ (-4611686018427387904 ≤ y ∧ y ≤ 4611686018427387904)) : false = zs.all isMoney := by
  symm
  rw [List.all_eq_false]
  refine ⟨zs[k], List.getElem_mem h, ?_⟩
  rw [isMoney_iff]
  have : zs[k] = y := by rw [← hy]; simp [List.getD, List.getElem?_eq_getElem h]
  rw [this]; exact hm

theorem all_take_succ (zs : List Int) (k : Nat) (h : k < zs.length) : (zs.take (k + 1)).all isMoney = ((zs.take k).all isMoney && isMoney (zs.getD k 0)) := by
  rw [List.take_succ_eq_append_getElem h, List.all_append]
  simp [List.getD, List.getElem?_eq_getElem h]

/-! ### Worlds that only grow, and what reads in them -/
def Grew (w w' : World) : Prop := Below w.heap.size w w'
theorem grew_refl (w : World) : Grew w w := Below.refl _ _
theorem grew_trans {a b c : World} (h : Grew a b) (k : Grew b c) : Grew a c := Below.trans h (Below.mono k h.size)
theorem grew_alloc (w : World) (c : Array Value) (t : TypeId) : Grew w (w.alloc (.cells c t)) := (Below.refl _ _).alloc (Nat.le_refl _) _
theorem grew_drewN {W w' : World} (h : Grew W w') (n : Nat) : Grew W (w'.drewN n) := ⟨h.os, h.tape, h.output, h.size, h.block⟩
theorem grew_cell {w w' : World} (h : Grew w w') {p : Addr} (hp : p.block < w.heap.size) : w'.cell? p = w.cell? p := Below.cell h hp

theorem ints0 (w : World) (A : Option Addr) : Ints w A 0 [] := ⟨rfl, fun h => absurd h (by omega)⟩
theorem ints1 (w : World) (a : Int) (t : TypeId) : Ints (w.alloc (.cells #[.int .i64 a] t)) (some ⟨w.heap.size, 0, none⟩) 1 [a] :=
  ⟨rfl, fun _ => ⟨_, _, rfl, by simp, fun j hj => by
    match j, hj with
    | 0, _ => simp⟩⟩
theorem ints2 (w : World) (a b : Int) (t : TypeId) : Ints (w.alloc (.cells #[.int .i64 a, .int .i64 b] t)) (some ⟨w.heap.size, 0, none⟩) 2 [a, b] :=
  ⟨rfl, fun _ => ⟨_, _, rfl, by simp, fun j hj => by
    match j, hj with
    | 0, _ => simp
    | 1, _ => simp⟩⟩
theorem ints2' (w : World) (a b : Int) (t : TypeId) (N : Nat) (hN : w.heap.size = N) : Ints (w.alloc (.cells #[.int .i64 a, .int .i64 b] t)) (some ⟨N, 0, none⟩) 2 [a, b] := by
  subst hN; exact ints2 w a b t
theorem ints3' (w : World) (a b c : Int) (t : TypeId) (N : Nat) (hN : w.heap.size = N) : Ints (w.alloc (.cells #[.int .i64 a, .int .i64 b, .int .i64 c] t)) (some ⟨N, 0, none⟩) 3 [a, b, c] := by
  subst hN
  exact ⟨rfl, fun _ => ⟨_, _, rfl, by simp, fun j hj => by
    match j, hj with
    | 0, _ => simp
    | 1, _ => simp
    | 2, _ => simp⟩⟩
theorem ints3 (w : World) (a b c : Int) (t : TypeId) : Ints (w.alloc (.cells #[.int .i64 a, .int .i64 b, .int .i64 c] t)) (some ⟨w.heap.size, 0, none⟩) 3 [a, b, c] :=
  ⟨rfl, fun _ => ⟨_, _, rfl, by simp, fun j hj => by
    match j, hj with
    | 0, _ => simp
    | 1, _ => simp
    | 2, _ => simp⟩⟩

/-! ### money -/
def capV (n : Int) : Int := if isMoney n then n else 0
def capE (n : Int) : Int := if isMoney n then 0 else 1
theorem capV_in {n : Int} (h : isMoney n = true) : capV n = n := by simp [capV, h]
theorem capE_in {n : Int} (h : isMoney n = true) : capE n = 0 := by simp [capE, h]
theorem capV_out {n : Int} (h : isMoney n = false) : capV n = 0 := by simp [capV, h]
theorem capE_out {n : Int} (h : isMoney n = false) : capE n = 1 := by simp [capE, h]

theorem ret2 {a b c d : Int} (h1 : a = c) (h2 : b = d) : Ending.returned (.tuple #[.int .i64 a, .int .i64 b]) = .returned (.tuple #[.int .i64 c, .int .i64 d]) := by rw [h1, h2]

theorem mask31 (n : Int) : bits .and .i64 n 2147483647 = n % 2147483648 := by
  have hm : (BitVec.ofInt 64 2147483647).toNat = 2 ^ 31 - 1 := by decide
  have key : (BitVec.ofInt 64 n &&& BitVec.ofInt 64 2147483647).toNat = (n % ((2 ^ 64 : Nat) : Int)).toNat % 2 ^ 31 := by
    rw [BitVec.toNat_and, BitVec.toNat_ofInt, hm, Nat.and_two_pow_sub_one_eq_mod]
  show IntKind.i64.wrap ((BitVec.ofInt 64 n &&& BitVec.ofInt 64 2147483647).toNat : Nat) = n % 2147483648
  rw [key, IntKind.wrap_i64]
  omega

/-! ### Quo: the arithmetic -/
theorem tdiv_facts (a b : Int) (hb : b ≠ 0) : a.tdiv b * b + a.tmod b = a ∧ (0 ≤ a → 0 ≤ a.tmod b) ∧ (a ≤ 0 → a.tmod b ≤ 0) ∧ (0 < b → -b < a.tmod b ∧ a.tmod b < b) ∧ (b < 0 → b < a.tmod b ∧ a.tmod b < -b)
    ∧ -(a.natAbs : Int) ≤ a.tdiv b ∧ a.tdiv b ≤ a.natAbs := by
  have h1 : a.tdiv b * b + a.tmod b = a := by rw [Int.mul_comm]; exact Int.mul_tdiv_add_tmod a b
  have h2 : 0 ≤ a → 0 ≤ a.tmod b := fun h => Int.tmod_nonneg b h
  have h3 : a ≤ 0 → a.tmod b ≤ 0 := fun h => by
    have := Int.tmod_nonneg (a := -a) b (by omega)
    rw [Int.neg_tmod] at this; omega
  have h4 : (a.tmod b).natAbs < b.natAbs := by rw [Int.natAbs_tmod]; exact Nat.mod_lt _ (by omega)
  have h5 : (a.tdiv b).natAbs ≤ a.natAbs := by rw [Int.natAbs_tdiv]; exact Nat.div_le_self _ _
  exact ⟨h1, h2, h3, fun h => by omega, fun h => by omega, by omega, by omega⟩

theorem floor_pos (a b q r : Int) (h : q * b + r = a) (hb : 0 < b) (h0 : 0 ≤ r) (h1 : r < b) : a.fdiv b = q ∧ a.fmod b = r := by
  rw [Int.fdiv_eq_ediv_of_nonneg a (by omega), Int.fmod_eq_emod_of_nonneg a (by omega)]
  exact (Int.ediv_emod_unique hb).2 ⟨by rw [Int.mul_comm]; omega, h0, h1⟩
theorem floor_unique (a b q r : Int) (h : q * b + r = a) (hp : 0 < b → 0 ≤ r ∧ r < b) (hn : b < 0 → b < r ∧ r ≤ 0) (hb : b ≠ 0) : a.fdiv b = q ∧ a.fmod b = r := by
  rcases Int.lt_or_gt_of_ne hb with h0 | h0
  · have := floor_pos (-a) (-b) q (-r) (by rw [Int.mul_neg]; omega) (by omega) (by have := hn h0; omega) (by have := hn h0; omega)
    rw [Int.neg_fdiv_neg, Int.neg_fmod_neg] at this
    omega
  · exact floor_pos a b q r h h0 (hp h0).1 (hp h0).2
theorem floor_up (a b : Int) (hb : b ≠ 0) (hr : a.tmod b ≠ 0) (hs : a.tmod b < 0 ↔ ¬ b < 0) : a.fdiv b = a.tdiv b - 1 ∧ a.fmod b = a.tmod b + b := by
  obtain ⟨h1, h2, h3, h4, h5, h6, h7⟩ := tdiv_facts a b hb
  exact floor_unique a b _ _ (by rw [Int.sub_mul]; omega) (fun h => by have := h4 h; omega) (fun h => by have := h5 h; omega) hb
theorem floor_same (a b : Int) (hb : b ≠ 0) (hs : a.tmod b = 0 ∨ (a.tmod b < 0 ↔ b < 0)) : a.fdiv b = a.tdiv b ∧ a.fmod b = a.tmod b := by
  obtain ⟨h1, h2, h3, h4, h5, h6, h7⟩ := tdiv_facts a b hb
  exact floor_unique a b _ _ h1 (fun h => by have := h4 h; omega) (fun h => by have := h5 h; omega) hb
theorem floor_facts (a b : Int) (hb : b ≠ 0) : a.fdiv b * b + a.fmod b = a ∧ (0 < b → 0 ≤ a.fmod b ∧ a.fmod b < b) ∧ (b < 0 → b < a.fmod b ∧ a.fmod b ≤ 0) ∧ -(a.natAbs : Int) ≤ a.fdiv b ∧ a.fdiv b ≤ a.natAbs := by
  obtain ⟨h1, h2, h3, h4, h5, h6, h7⟩ := tdiv_facts a b hb
  by_cases hr : a.tmod b ≠ 0 ∧ (a.tmod b < 0 ↔ ¬ b < 0)
  · obtain ⟨e1, e2⟩ := floor_up a b hb hr.1 hr.2
    rw [e1, e2]
    refine ⟨by rw [Int.sub_mul]; omega, fun h => by have := h4 h; omega, fun h => by have := h5 h; omega, ?_, by omega⟩
    obtain ⟨hr1, hr2⟩ := hr
    have h8 : (a.tdiv b).natAbs * b.natAbs + (a.tmod b).natAbs = a.natAbs := by rw [Int.natAbs_tdiv, Int.natAbs_tmod]; exact Nat.div_add_mod' _ _
    have h9 : (a.tdiv b).natAbs ≤ (a.tdiv b).natAbs * b.natAbs := Nat.le_mul_of_pos_right _ (by omega)
    omega
  · obtain ⟨e1, e2⟩ := floor_same a b hb (by omega)
    rw [e1, e2]
    exact ⟨h1, fun h => by have := h4 h; omega, fun h => by have := h5 h; omega, h6, h7⟩

theorem ret3 {a b c a' b' c' : Int} (h1 : a = a') (h2 : b = b') (h3 : c = c') : Ending.returned (.tuple #[.int .i64 a, .int .i64 b, .int .i64 c]) = .returned (.tuple #[.int .i64 a', .int .i64 b', .int .i64 c']) := by rw [h1, h2, h3]
theorem ret_i {k : IntKind} {a b : Int} (h : a = b) : Ending.returned (.int k a) = .returned (.int k b) := by rw [h]
end Go.Proofs.Ytmbhkeppikaeaaa.NumK
