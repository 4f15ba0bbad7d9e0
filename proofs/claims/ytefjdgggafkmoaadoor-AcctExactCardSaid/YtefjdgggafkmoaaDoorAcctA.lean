/- Accounts: what is one, its floor, the order; the program's and the reference's. -/
import Derived.Test.YtefjdgggafkmoaaDoorRowE
import Derived.Lib.ItoaNum
import Derived.Deep.QuietTactic
import Derived.BigQuiet
import Derived.BigRegion
import Derived.Deep.DeepCutAuto
namespace Go.Proofs.YtefjdgggafkmoaaDoor.NumK
open Go.RowKit

/-- Kind, Who, Cur. -/
abbrev Ac := Int × Int × Int
def acV (k m c : Int) : Value := .agg #[.int .i64 k, .int .i64 m, .int .i64 c]
def enAc : En Ac := ⟨3, fun a => [.int .i64 a.1, .int .i64 a.2.1, .int .i64 a.2.2], fun _ => rfl, fun a v hv => by
  simp at hv; rcases hv with rfl | rfl | rfl <;> rfl, by decide⟩

def ownedK (k : Int) : Bool := decide (k = 2) || decide (k = 3)
def rightA (k m c : Int) : Bool := decide (1 ≤ k ∧ k ≤ 6) && decide (0 ≤ c ∧ c < 3) && (if ownedK k then decide (1 ≤ m ∧ m ≤ 16) else decide (m = 0))
def floorA (k m c : Int) : Int := if rightA k m c && (decide (k = 3) || decide (k = 4)) then 0 else -4611686018427387904
def lessA (k m c k' m' c' : Int) : Bool := if k = k' then if m = m' then decide (c < c') else decide (m < m') else decide (k < k')
def sameA (k m c k' m' c' : Int) : Bool := decide (k = k') && decide (m = m') && decide (c = c')

def wordL (k : Int) : List UInt8 :=
  if k = 1 then [98, 97, 110, 107] else if k = 2 then [99, 97, 115, 104] else if k = 3 then [102, 117, 110, 100] else if k = 4 then [115, 107, 105, 110] else if k = 5 then [118, 97, 114] else if k = 6 then [108, 111, 115, 115] else []
/-- A name's parts: the word, Who where it has one, the currency. -/
def whoL (k m : Int) : List UInt8 := if ownedK k then 46 :: Lib.decDigits m.toNat else []
def nameL (k m c : Int) : List UInt8 := wordL k ++ whoL k m ++ 46 :: Lib.decDigits c.toNat

theorem owned_any (k : Int) (w : World) : Calls Tryd.prog 25 #[.int .i64 k] w fun e w' => e = .returned (.bool (ownedK k)) ∧ w = w' := by
  go_enter Tryd.func25, Tryd.ntmps25
  go_wp2
  all_goals go_ret
  all_goals exact ⟨ret_b (by rw [Bool.eq_iff_iff]; simp_all [ownedK]), rfl⟩

theorem whos_any (k : Int) (w : World) : Calls Tryd.prog 23 #[.int .i64 k] w fun e w' => e = .returned (.tuple #[.int .i64 (if ownedK k then 1 else 0), .int .i64 (if ownedK k then 16 else 0)]) ∧ w = w' := by
  have C := owned_any k
  generalize ownedK k = b at *
  go_enter Tryd.func23, Tryd.ntmps23
  go_wp2_with (go_at_call 25; ((with_reducible refine (C _).mono ?_); rintro e w' ⟨rfl, rfl⟩))
  all_goals go_ret2
  all_goals exact ⟨by simp_all, rfl⟩

theorem keepAcct_any (k m c k' m' c' : Int) (w : World) : Calls Tryd.prog 18 #[acV k m c, acV k' m' c'] w fun e w' => e = .returned (.bool (sameA k m c k' m' c')) ∧ Grew w w' := by
  unfold acV
  go_enter Tryd.func18, Tryd.ntmps18
  go_wp2
  all_goals go_ret
  all_goals exact ⟨ret_b (by rw [Bool.eq_iff_iff]; simp_all [sameA]), grew_trans (grew_alloc _ _ _) (grew_alloc _ _ _)⟩

theorem less_any (k m c k' m' c' : Int) (w : World) : Calls Tryd.prog 12 #[acV k m c, acV k' m' c'] w fun e w' => e = .returned (.bool (lessA k m c k' m' c')) ∧ Grew w w' := by
  unfold acV
  go_enter Tryd.func12, Tryd.ntmps12
  go_wp2
  all_goals go_ret
  all_goals exact ⟨ret_b (by simp_all [lessA]), grew_trans (grew_alloc _ _ _) (grew_alloc _ _ _)⟩

theorem right_any (k m c : Int) (w : World) : Calls Tryd.prog 9 #[acV k m c] w fun e w' => e = .returned (.bool (rightA k m c)) ∧ Grew w w' := by
  have C := whos_any k
  unfold acV
  go_enter Tryd.func9, Tryd.ntmps9
  go_wp2_with (go_at_call 23; ((with_reducible refine (C _).mono ?_); rintro e w' ⟨rfl, rfl⟩))
  all_goals go_ret
  all_goals exact ⟨ret_b (by clear C; rw [Bool.eq_iff_iff]; simp_all [rightA] <;> omega), grew_alloc _ _ _⟩

theorem floor_any (k m c : Int) (w : World) : Calls Tryd.prog 10 #[acV k m c] w fun e w' => e = .returned (.int .i64 (floorA k m c)) ∧ Grew w w' := by
  have C := right_any k m c
  have HF : Hid (floorA k m c = if rightA k m c && (decide (k = 3) || decide (k = 4)) then 0 else -4611686018427387904) := rfl
  generalize floorA k m c = F at *
  generalize rightA k m c = r at *
  unfold acV at *
  go_enter Tryd.func10, Tryd.ntmps10
  go_wp2_with (go_at_call 9; ((with_reducible refine (C _).mono ?_); rintro e w' ⟨rfl, hg⟩; have d0 : w'.cell? ⟨w.heap.size, 0, none⟩ = some (.int .i64 k) := own_cell hg 0; have HG := Lib.hid (own_back hg); clear hg))
  all_goals go_ret
  all_goals exact ⟨ret_i (by have := HF.out; simp_all), HG.out⟩

theorem word_any (k : Int) (w : World) : Calls Tryd.prog 24 #[.int .i64 k] w fun e w' => e = .returned (.string ⟨(wordL k).toArray⟩) ∧ w = w' := by
  go_enter Tryd.func24, Tryd.ntmps24
  go_wp2
  all_goals go_ret
  all_goals exact ⟨by simp_all [wordL], rfl⟩
end Go.Proofs.YtefjdgggafkmoaaDoor.NumK
