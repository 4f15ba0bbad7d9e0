/- A struct of two words in a block of the call's own. -/
import Derived.Test.YtmbhkeppikaeaaaWide0
namespace Go.Proofs.Ytmbhkeppikaeaaa.NumK
open Go.RowKit

structure Own2 (w : World) (b : Nat) (v0 v1 : Value) : Prop where
  c0 : w.cell? ⟨b, 0, none⟩ = some v0
  c1 : w.cell? ⟨b, 1, none⟩ = some v1
  f0 : w.frozen? ⟨b, 0, none⟩ = false
  f1 : w.frozen? ⟨b, 1, none⟩ = false
  lt : b < w.heap.size

theorem Own2.keep {w w' : World} {b : Nat} {v0 v1 : Value} (h : Own2 w b v0 v1) (g : Grew w w') : Own2 w' b v0 v1 :=
  ⟨(grew_cell g (p := ⟨b, 0, none⟩) h.lt).trans h.c0, (grew_cell g (p := ⟨b, 1, none⟩) h.lt).trans h.c1, (Below.frozen g (p := ⟨b, 0, none⟩) h.lt).trans h.f0, (Below.frozen g (p := ⟨b, 1, none⟩) h.lt).trans h.f1, Nat.lt_of_lt_of_le h.lt g.size⟩
theorem Own2.new (w : World) (v0 v1 : Value) (t : TypeId) (N : Nat) (hN : w.heap.size = N) : Own2 (w.alloc (.cells #[v0, v1] t)) N v0 v1 := by
  subst hN
  exact ⟨by simp, by simp, by simp, by simp, by simp⟩
theorem Own2.set {w : World} {b : Nat} {v0 v1 : Value} (h : Own2 w b v0 v1) (u0 u1 : Value) : Own2 ((w.setCell ⟨b, 0, none⟩ u0).setCell ⟨b, 1, none⟩ u1) b u0 u1 := by
  have k1 : (w.setCell ⟨b, 0, none⟩ u0).cell? ⟨b, 1, none⟩ = some v1 := (World.cell?_setCell_other _ _ _ _ (by intro e; simp at e)).trans h.c1
  refine ⟨?_, World.cell?_setCell_same _ _ _ k1, by rw [World.frozen?_setCell, World.frozen?_setCell]; exact h.f0, by rw [World.frozen?_setCell, World.frozen?_setCell]; exact h.f1, by simp [World.setCell]; exact h.lt⟩
  rw [World.cell?_setCell_other _ _ _ _ (by intro e; simp at e)]
  exact World.cell?_setCell_same _ _ _ h.c0
theorem Own2.other {w : World} {b : Nat} {v0 v1 : Value} (h : Own2 w b v0 v1) (p : Addr) (u : Value) (hp : p.block ≠ b) : Own2 (w.setCell p u) b v0 v1 :=
  ⟨(World.cell?_setCell_other _ _ _ _ (by intro e; apply hp; rw [e])).trans h.c0, (World.cell?_setCell_other _ _ _ _ (by intro e; apply hp; rw [e])).trans h.c1, by rw [World.frozen?_setCell]; exact h.f0, by rw [World.frozen?_setCell]; exact h.f1, by simp [World.setCell]; exact h.lt⟩
end Go.Proofs.Ytmbhkeppikaeaaa.NumK
