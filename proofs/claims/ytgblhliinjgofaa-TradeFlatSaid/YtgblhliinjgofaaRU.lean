/- Legs that add up to nothing. -/
import Derived.Test.YtgblhliinjgofaaRP
import Derived.Test.YtgblhliinjgofaaRR
namespace Go.Proofs.Ytgblhliinjgofaa.NumK
open Go.RowKit
set_option linter.unusedVariables false

/-- Legs that are flat, in bounds. -/
def FlatL (l : List Po) : Prop := qty l = 0 ∧ cst l = 0 ∧ l.all okAm = true
theorem legs_ok12 (t : Tr) (b : Bool) : (legsT t b).all okAm = true := by
  unfold legsT
  split
  · rename_i h
    have hI := (sizedT_iff t).1 h
    have hM := mul_in _ _ hI
    unfold twoL okAm
    cases b
    · simp only [List.all_cons, List.all_nil, Bool.and_true, Bool.and_eq_true, isMoney_iff, Bool.false_eq_true, if_false, Int.neg_mul]
      omega
    · simp only [List.all_cons, List.all_nil, Bool.and_true, Bool.and_eq_true, isMoney_iff, if_true, Int.neg_mul]
      omega
  · rfl
theorem FlatL.nil : FlatL [] := ⟨rfl, rfl, rfl⟩
theorem FlatL.legs {l : List Po} (h : FlatL l) (t : Tr) (b : Bool) : FlatL (l ++ legsT t b) := by
  obtain ⟨h1, h2, h3⟩ := h
  obtain ⟨f1, f2⟩ := legs_flat t b
  exact ⟨by rw [qty_app, h1, f1]; rfl, by rw [cst_app, h2, f2]; rfl, by rw [List.all_append, h3, legs_ok12]; rfl⟩
theorem FlatL.sum {l : List Po} (h : FlatL l) : sumPQ l = 0 ∧ sumPC l = 0 ∧ sumPE l = 0 := by
  obtain ⟨h1, h2, h3⟩ := h
  have hE : sumPE l = 0 := by unfold sumPE; rw [h3, h1, h2]; rfl
  exact ⟨by unfold sumPQ; rw [hE, h1]; rfl, by unfold sumPC; rw [hE, h2]; rfl, hE⟩
/-- Legs that a call owns. -/
def OwnFl (w : World) (base : Nat) (v : Value) (m : Nat) : Prop := ∃ l, OwnE enPo w base 48 v l ∧ l.length ≤ m ∧ FlatL l

end Go.Proofs.Ytgblhliinjgofaa.NumK
