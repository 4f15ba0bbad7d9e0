/- slices.Contains at integers. -/
import Derived.Test.YtckdbbjeifindaaRG1
import Derived.Deep.QuietTactic
import Derived.Test.YtckdbbjeifindaaRG5
namespace Go.Proofs.Ytckdbbjeifindaa.NumK
open Go.RowKit

end Go.Proofs.Ytckdbbjeifindaa.NumK
namespace Go.Proofs.Ytckdbbjeifindaa.NumK
open Go.RowKit

end Go.Proofs.Ytckdbbjeifindaa.NumK
namespace Go.Proofs.Ytckdbbjeifindaa.NumK
open Go.RowKit

def floorA (k m c : Int) : Int := if rightA k m c && (decide (k = 3) || decide (k = 4)) then 0 else -4611686018427387904
def lessA (k m c k' m' c' : Int) : Bool := if k = k' then if m = m' then decide (c < c') else decide (m < m') else decide (k < k')

theorem aless_any (k m c k' m' c' : Int) (w : World) : Calls Try.prog 73 #[acV k m c, acV k' m' c'] w fun e w' => e = .returned (.bool (lessA k m c k' m' c')) ∧ Grew w w' := by
  unfold acV
  go_enter Try.func73, Try.ntmps73
  go_wp2
  all_goals go_ret
  all_goals exact ⟨ret_b (by simp_all [lessA]), grew_trans (grew_alloc _ _ _) (grew_alloc _ _ _)⟩

theorem floor_any (k m c : Int) (w : World) : Calls Try.prog 72 #[acV k m c] w fun e w' => e = .returned (.int .i64 (floorA k m c)) ∧ Grew w w' := by
  have C := aright_any k m c
  have HF : Hid (floorA k m c = if rightA k m c && (decide (k = 3) || decide (k = 4)) then 0 else -4611686018427387904) := rfl
  generalize floorA k m c = F at *
  generalize rightA k m c = r at *
  unfold acV at *
  go_enter Try.func72, Try.ntmps72
  go_wp2_with (go_at_call 71; ((with_reducible refine (C _).mono ?_); rintro e w' ⟨rfl, hg⟩; have d0 : w'.cell? ⟨w.heap.size, 0, none⟩ = some (.int .i64 k) := own_cell hg 0; have HG := Lib.hid (own_back hg); clear hg))
  all_goals go_ret
  all_goals exact ⟨ret_i (by have := HF.out; simp_all), HG.out⟩

end Go.Proofs.Ytckdbbjeifindaa.NumK
namespace Go.Proofs.Ytckdbbjeifindaa.NumK
open Go.RowKit

def rightsOf (l : List Ac) : List Ac := l.filter fun a => rightA a.1 a.2.1 a.2.2
def refWhos (k : Int) (n : Nat) : List Ac := (List.range n).flatMap fun i : Nat => rightsOf (whoAcs k i)
end Go.Proofs.Ytckdbbjeifindaa.NumK
