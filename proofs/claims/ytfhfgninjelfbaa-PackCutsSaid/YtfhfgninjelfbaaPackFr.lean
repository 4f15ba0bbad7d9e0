/- Slices of bytes that are new: what stays of them, and what is spoilt with them. -/
import Derived.Test.YtfhfgninjelfbaaPackG
namespace Go.Proofs.Ytfhfgninjelfbaa.NumK
open Go.RowKit

theorem FreshB.turn {w0 w w' : World} {A : Option Addr} {n c b : Nat} (h : FreshB w0 w A n c) (g : Turn b w w') (hb : ∀ a, A = some a → a.block ≠ b) : FreshB w0 w' A n c := by
  rcases h with h | ⟨B, h1, h2, h3⟩
  · exact Or.inl h
  · exact Or.inr ⟨B, h1, h2, h3.turn g (hb _ h1)⟩
theorem FreshB.ge {w0 w : World} {A : Option Addr} {n c : Nat} (h : FreshB w0 w A n c) : ∀ a, A = some a → w0.heap.size ≤ a.block := by
  intro a ha
  rcases h with h | ⟨B, h1, h2, h3⟩
  · rw [h.1] at ha; cases ha
  · rw [h1] at ha; cases ha; exact h2
theorem FreshB.lt {w0 w : World} {A : Option Addr} {n c : Nat} (h : FreshB w0 w A n c) : ∀ a, A = some a → a.block < w.heap.size := by
  intro a ha
  rcases h with h | ⟨B, h1, h2, h3⟩
  · rw [h.1] at ha; cases ha
  · rw [h1] at ha; cases ha; exact h3.1
theorem spoil_turn {w0 w w' : World} {e : Ending} {A : Option Addr} {n c : Nat} (hf : FreshB w0 w A n c) (hs : SpoilPost w0 A w e w') (p q : Nat) (h1 : ∀ a, A = some a → a.block ≠ p) (h2 : ∀ a, A = some a → a.block ≠ q) :
    ∃ b, b ≠ p ∧ b ≠ q ∧ w0.heap.size ≤ b ∧ Turn b w w' := by
  cases A with
  | none => exact ⟨w0.heap.size + p + q + 1, by omega, by omega, by omega, hs.2.2 _ (fun a h => by cases h)⟩
  | some a => exact ⟨a.block, h1 a rfl, h2 a rfl, hf.ge a rfl, hs.2.2 _ (fun x h => by cases h; rfl)⟩
end Go.Proofs.Ytfhfgninjelfbaa.NumK
