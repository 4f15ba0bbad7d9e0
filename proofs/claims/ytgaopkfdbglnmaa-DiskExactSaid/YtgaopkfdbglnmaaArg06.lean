/- Bytes, numbers, bools, acts among a law's arguments. -/
import Derived.Test.YtgaopkfdbglnmaaBytes
import Derived.Test.YtgaopkfdbglnmaaOpenBy
namespace Go.Proofs.Ytgaopkfdbglnmaa.NumK
open Go.RowKit

theorem opens_ints : Opens Try.prog 32 (spSlice (spInt .i64)) := opens_slice Try.underlying32 (by kernel_rfl) (opens_int Try.underlying3 (by kernel_rfl)) (by decide)
theorem opens_bools : Opens Try.prog 48 (spSlice spBool) := opens_slice Try.underlying48 (by kernel_rfl) (opens_bool Try.underlying4 (by kernel_rfl)) (by decide)
theorem ints_of_spec {w : World} {A : Option Addr} {n : Nat} {l : List Int} (h : Row (spInt .i64) w A n l) : Ints w A n l ∧ ∀ z ∈ l, -9223372036854775808 ≤ z ∧ z ≤ 9223372036854775807 := by
  refine ⟨⟨h.1, fun hn => ?_⟩, fun z hz => ?_⟩
  · obtain ⟨b, o, e, hb, hc⟩ := h.2 hn
    refine ⟨b, o, e, hb, fun j hj => ?_⟩
    have hj2 : j < l.length := by rw [h.1]; exact hj
    obtain ⟨cs, ⟨h1, h2⟩, h3⟩ := hc j hj2
    have h4 := h3 0 (by show 0 < 1; omega)
    rw [h1] at h4
    have e1 : o + j * (spInt IntKind.i64).size + 0 = o + j := by show o + j * 1 + 0 = _; omega
    rw [e1] at h4
    rw [h4]
    simp [List.getD, hj2]
  · obtain ⟨j, hj, rfl⟩ := List.getElem_of_mem hz
    obtain ⟨b, o, e, hb, hc⟩ := h.2 (by rw [← h.1]; omega)
    obtain ⟨cs, ⟨h1, h2⟩, _⟩ := hc j hj
    exact Go.bounds_i64 h2
/-- The slice value's cells read as bools. -/
def Bols (w : World) (A : Option Addr) (n : Nat) (l : List Bool) : Prop :=
  l.length = n ∧ (0 < n → ∃ b o, A = some ⟨b, o, none⟩ ∧ b < w.heap.size ∧ ∀ j, j < n → w.cell? ⟨b, o + j, none⟩ = some (.bool (l.getD j false)))
theorem Bols.keep {w w' : World} {A : Option Addr} {n : Nat} {l : List Bool} (h : Bols w A n l) (g : Grew w w') : Bols w' A n l :=
  ⟨h.1, fun hn => by
    obtain ⟨b, o, e, hb, hc⟩ := h.2 hn
    exact ⟨b, o, e, Nat.lt_of_lt_of_le hb g.size, fun j hj => (grew_cell g (p := ⟨b, o + j, none⟩) hb).trans (hc j hj)⟩⟩
theorem bols_of_spec {w : World} {A : Option Addr} {n : Nat} {l : List Bool} (h : Row spBool w A n l) : Bols w A n l := by
  refine ⟨h.1, fun hn => ?_⟩
  obtain ⟨b, o, e, hb, hc⟩ := h.2 hn
  refine ⟨b, o, e, hb, fun j hj => ?_⟩
  have hj2 : j < l.length := by rw [h.1]; exact hj
  obtain ⟨cs, h1, h3⟩ := hc j hj2
  have h4 := h3 0 (by show 0 < 1; omega)
  rw [h1] at h4
  have e1 : o + j * spBool.size + 0 = o + j := by show o + j * 1 + 0 = _; omega
  rw [e1] at h4
  rw [h4]
  simp [List.getD, hj2]
end Go.Proofs.Ytgaopkfdbglnmaa.NumK
