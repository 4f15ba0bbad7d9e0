/- All accounts of kinds: the lists (cut out of AcctC, AcctD, AcctE, AcctH). -/
import Derived.Test.YtmbhkeppikaeaaaAcA
import Derived.Deep.CutBlock
namespace Go.Proofs.Ytmbhkeppikaeaaa.NumK
open Go.RowKit

def whoAcs (k m : Int) : List Ac := [(k, m, 0), (k, m, 1), (k, m, 2)]
/-- n members' accounts from the first on. -/
def whosAcs (k f : Int) (n : Nat) : List Ac := (List.range n).flatMap fun i : Nat => whoAcs k (f + i)
def kindL (k : Int) : List Ac := if ownedK k then whosAcs k 1 16 else whosAcs k 0 1
def allTo (kinds : List Int) (n : Nat) : List Ac := (List.range n).flatMap fun i : Nat => if kinds.contains ((i : Int) + 1) then kindL ((i : Int) + 1) else []
def allL (kinds : List Int) : List Ac := allTo kinds 6

theorem whosAcs_succ (k f : Int) (n : Nat) : whosAcs k f (n + 1) = whosAcs k f n ++ whoAcs k (f + n) := by
  unfold whosAcs
  rw [List.range_succ, List.flatMap_append]; simp
theorem allTo_succ (kinds : List Int) (n : Nat) : allTo kinds (n + 1) = allTo kinds n ++ (if kinds.contains ((n : Int) + 1) then kindL ((n : Int) + 1) else []) := by
  unfold allTo
  rw [List.range_succ, List.flatMap_append]; simp
theorem whosAcs_len (k f : Int) (n : Nat) : (whosAcs k f n).length = n * 3 := by
  induction n with
  | zero => rfl
  | succ n ih => rw [whosAcs_succ, List.length_append, ih]; simp [whoAcs]; omega
theorem kindL_len (k : Int) : (kindL k).length ≤ 48 := by
  unfold kindL; split <;> rw [whosAcs_len] <;> omega
theorem allTo_len (kinds : List Int) (n : Nat) : (allTo kinds n).length ≤ n * 48 := by
  induction n with
  | zero => simp [allTo]
  | succ n ih =>
    rw [allTo_succ, List.length_append]
    have := kindL_len ((n : Int) + 1)
    split
    · omega
    · simp only [List.length_nil]; omega

theorem info_ac : (Try.prog.info? 35).map (fun i => (i.zero, i.size, i.bytes)) = some (some (acV 0 0 0), 3, 24) := by kernel_rfl
theorem rowE_one (w : World) (k m c : Int) (t : TypeId) (N : Nat) (hN : w.heap.size = N) : RowE enAc (w.alloc (.cells #[.int .i64 k, .int .i64 m, .int .i64 c] t)) (some ⟨N, 0, none⟩) 1 [(k, m, c)] := by
  subst hN
  refine ⟨rfl, fun _ => ⟨_, _, rfl, by simp, fun j hj => ?_⟩⟩
  have : j = 0 := by simpa using hj
  subst this
  refine ⟨_, rfl, fun i hi => ?_⟩
  have hi : i < 3 := hi
  match i, hi with
  | 0, _ => simp [enAc]
  | 1, _ => simp [enAc]
  | 2, _ => simp [enAc]

/-- An account of a row, cell by cell. -/
theorem RowE.ac {w : World} {n : Nat} {l : List Ac} {A : Option Addr} (h : RowE enAc w A n l) {j : Nat} (hj : j < n) :
    ∃ b o, A = some ⟨b, o, none⟩ ∧ b < w.heap.size ∧ w.cell? ⟨b, o + j * 3, none⟩ = some (.int .i64 (l.getD j (0, 0, 0)).1) ∧ w.cell? ⟨b, o + j * 3 + 1, none⟩ = some (.int .i64 (l.getD j (0, 0, 0)).2.1) ∧ w.cell? ⟨b, o + j * 3 + 2, none⟩ = some (.int .i64 (l.getD j (0, 0, 0)).2.2) := by
  have hl := h.len
  obtain ⟨b, o, e, hb, hc⟩ := h.at (by omega)
  have hj' : j < l.length := by omega
  have e1 : l.getD j (0, 0, 0) = l[j] := by simp [List.getD, hj']
  rw [e1]
  exact ⟨b, o, e, hb, hc j hj' 0 (by decide), hc j hj' 1 (by decide), hc j hj' 2 (by decide)⟩

theorem sameA_iff (a b : Ac) : sameA a.1 a.2.1 a.2.2 b.1 b.2.1 b.2.2 = decide (a = b) := by
  rw [Bool.eq_iff_iff]
  simp [sameA, Prod.ext_iff, and_assoc]

theorem take_snoc {α : Type} (l : List α) (k : Nat) (d : α) (h : k < l.length) : l.take (k + 1) = l.take k ++ [l.getD k d] := by
  rw [List.take_succ_eq_append_getElem h]; simp [List.getD, h]

def allK : List Ac := allL [1, 2, 3, 4, 5, 6]

theorem allK_right : ∀ a ∈ allK, rightA a.1 a.2.1 a.2.2 = true := by decide +kernel

theorem mem_fin : ∀ k : Fin 7, ∀ m : Fin 17, ∀ c : Fin 3, rightA (k.val : Int) (m.val : Int) (c.val : Int) = true → ((k.val : Int), (m.val : Int), (c.val : Int)) ∈ allK := by decide +kernel
theorem mem_allK (a : Ac) (h : rightA a.1 a.2.1 a.2.2 = true) : a ∈ allK := by
  obtain ⟨k, m, c⟩ := a
  have hb : (0 ≤ k ∧ k < 7) ∧ (0 ≤ m ∧ m < 17) ∧ (0 ≤ c ∧ c < 3) := by
    simp only [rightA, Bool.and_eq_true, decide_eq_true_eq] at h
    obtain ⟨⟨h1, h2⟩, h3⟩ := h
    split at h3 <;> simp at h3 <;> omega
  obtain ⟨⟨k0, k1⟩, ⟨m0, m1⟩, c0, c1⟩ := hb
  obtain ⟨k, rfl⟩ := Int.eq_ofNat_of_zero_le k0
  obtain ⟨m, rfl⟩ := Int.eq_ofNat_of_zero_le m0
  obtain ⟨c, rfl⟩ := Int.eq_ofNat_of_zero_le c0
  exact mem_fin ⟨k, by omega⟩ ⟨m, by omega⟩ ⟨c, by omega⟩ h

theorem ints6' (w : World) (a b c d e f : Int) (t : TypeId) (N : Nat) (hN : w.heap.size = N) : Ints (w.alloc (.cells #[.int .i64 a, .int .i64 b, .int .i64 c, .int .i64 d, .int .i64 e, .int .i64 f] t)) (some ⟨N, 0, none⟩) 6 [a, b, c, d, e, f] := by
  subst hN
  exact ⟨rfl, fun _ => ⟨_, _, rfl, by simp, fun j hj => by
    match j, hj with
    | 0, _ => simp
    | 1, _ => simp
    | 2, _ => simp
    | 3, _ => simp
    | 4, _ => simp
    | 5, _ => simp⟩⟩

theorem allK_len : allK.length = 108 := by decide +kernel
end Go.Proofs.Ytmbhkeppikaeaaa.NumK
