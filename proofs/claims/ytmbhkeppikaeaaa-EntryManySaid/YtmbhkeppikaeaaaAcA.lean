/- Accounts: what is one; the program's and the reference's (cut out of AcctA, AcctB). -/
import Derived.Test.YtmbhkeppikaeaaaRowE
import Derived.Deep.QuietTactic
import Derived.BigQuiet
import Derived.Deep.DeepCutAuto
import Derived.Deep.Light
import Derived.BigRegion
namespace Go.Proofs.Ytmbhkeppikaeaaa.NumK
open Go.RowKit

/-- Kind, Who, Cur. -/
abbrev Ac := Int × Int × Int
def acV (k m c : Int) : Value := .agg #[.int .i64 k, .int .i64 m, .int .i64 c]
def enAc : En Ac := ⟨3, fun a => [.int .i64 a.1, .int .i64 a.2.1, .int .i64 a.2.2], fun _ => rfl, fun a v hv => by
  simp at hv; rcases hv with rfl | rfl | rfl <;> rfl, by decide⟩

def ownedK (k : Int) : Bool := decide (k = 2) || decide (k = 3)
def rightA (k m c : Int) : Bool := decide (1 ≤ k ∧ k ≤ 6) && decide (0 ≤ c ∧ c < 3) && (if ownedK k then decide (1 ≤ m ∧ m ≤ 16) else decide (m = 0))

def sameA (k m c k' m' c' : Int) : Bool := decide (k = k') && decide (m = m') && decide (c = c')

theorem owned_any (k : Int) (w : World) : Calls Try.prog 48 #[.int .i64 k] w fun e w' => e = .returned (.bool (ownedK k)) ∧ w = w' := by
  go_enter Try.func48, Try.ntmps48
  go_wp2
  all_goals go_ret
  all_goals exact ⟨ret_b (by rw [Bool.eq_iff_iff]; simp_all [ownedK]), rfl⟩

theorem whos_any (k : Int) (w : World) : Calls Try.prog 45 #[.int .i64 k] w fun e w' => e = .returned (.tuple #[.int .i64 (if ownedK k then 1 else 0), .int .i64 (if ownedK k then 16 else 0)]) ∧ w = w' := by
  have C := owned_any k
  generalize ownedK k = b at *
  go_enter Try.func45, Try.ntmps45
  go_wp2_with (go_at_call 48; ((with_reducible refine (C _).mono ?_); rintro e w' ⟨rfl, rfl⟩))
  all_goals go_ret2
  all_goals exact ⟨by simp_all, rfl⟩

theorem keepAcct_any (k m c k' m' c' : Int) (w : World) : Calls Try.prog 31 #[acV k m c, acV k' m' c'] w fun e w' => e = .returned (.bool (sameA k m c k' m' c')) ∧ Grew w w' := by
  unfold acV
  go_enter Try.func31, Try.ntmps31
  go_wp2
  all_goals go_ret
  all_goals exact ⟨ret_b (by rw [Bool.eq_iff_iff]; simp_all [sameA]), grew_trans (grew_alloc _ _ _) (grew_alloc _ _ _)⟩

theorem aright_any (k m c : Int) (w : World) : Calls Try.prog 35 #[acV k m c] w fun e w' => e = .returned (.bool (rightA k m c)) ∧ Grew w w' := by
  have C := whos_any k
  unfold acV
  go_enter Try.func35, Try.ntmps35
  go_wp2_with (go_at_call 45; ((with_reducible refine (C _).mono ?_); rintro e w' ⟨rfl, rfl⟩))
  all_goals go_ret
  all_goals exact ⟨ret_b (by clear C; rw [Bool.eq_iff_iff]; simp_all [rightA] <;> omega), grew_alloc _ _ _⟩

theorem right_in {k m c : Int} (hr : rightA k m c = true) : (1 ≤ k ∧ k ≤ 6) ∧ (0 ≤ m ∧ m < 100) ∧ (0 ≤ c ∧ c < 100) := by
  simp only [rightA, Bool.and_eq_true, decide_eq_true_eq] at hr
  obtain ⟨⟨h1, h2⟩, h3⟩ := hr
  split at h3 <;> simp at h3 <;> omega

theorem r8right_any (k m c : Int) (w : World) : Calls Try.prog 21 #[acV k m c] w fun e w' => e = .returned (.bool (rightA k m c)) ∧ Grew w w' := by
  unfold acV
  go_enter Try.func21, Try.ntmps21
  go_wp2
  all_goals go_ret
  all_goals exact ⟨ret_b (by rw [Bool.eq_iff_iff]; simp_all [rightA, ownedK] <;> omega), grew_alloc _ _ _⟩
end Go.Proofs.Ytmbhkeppikaeaaa.NumK
