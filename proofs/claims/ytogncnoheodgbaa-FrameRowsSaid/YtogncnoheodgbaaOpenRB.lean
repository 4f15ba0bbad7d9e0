/- A slice of slices of bytes among a law's arguments. -/
import Derived.Test.YtogncnoheodgbaaOpenBy
import Derived.Test.YtogncnoheodgbaaSpecZ
import Derived.Test.YtogncnoheodgbaaFrameB
namespace Go.Proofs.Ytogncnoheodgbaa.NumK
open Go.RowKit
theorem opens_rows : OpensZ Try.prog 22 (spSliceZ 24 (spSliceZ 1 (spInt .u8))) :=
  opensZ_slice 24 Try.underlying22 (by kernel_rfl) (by kernel_rfl) (opensZ_slice 1 Try.underlying23 (by kernel_rfl) (by kernel_rfl) (opens_int Try.underlying5 (by kernel_rfl)).sized (by decide)) (by decide)
theorem rowsB_of_row {w : World} {A : Option Addr} {n : Nat} {l : List (List Int)} (h : Row (spSliceZ 1 (spInt .u8)) w A n l) : ∃ xs, RowsB w A n xs ∧ ∀ j, j < n → (xs.getD j []).length ≤ 140737488351232 := by
  rcases Nat.eq_zero_or_pos n with h0 | h0
  · exact ⟨[], ⟨by rw [h0]; rfl, fun hn => by omega⟩, fun j hj => by omega⟩
  · obtain ⟨b, o, e, hb, hc⟩ := h.2 h0
    have each : ∀ j, j < n → ∃ x : List UInt8, x.length ≤ 140737488351232 ∧ ∃ A1 n1 c1, w.cell? ⟨b, o + j, none⟩ = some (.slice A1 n1 c1) ∧ Bys w A1 n1 x ∧ (A1 = none → c1 = 0) ∧ n1 ≤ c1 ∧ n1 ≤ 9223372036854775807 := by
      intro j hj
      obtain ⟨cs, ⟨A1, n1, c1, rfl, h1, h2, h3, h4, h6⟩, h5⟩ := hc j (by rw [h.1]; exact hj)
      have g0 := h5 0 (by decide)
      obtain ⟨bs, hbs⟩ := bys_of_row h1
      have e1 : o + j * (spSliceZ 1 (spInt IntKind.u8)).size + 0 = o + j := by show o + j * 1 + 0 = _; omega
      rw [e1] at g0
      unfold maxLen at h4
      unfold reachBytes at h6
      exact ⟨bs, by rw [hbs.1]; omega, A1, n1, c1, by simpa using g0, hbs, h2, h3, by omega⟩
    obtain ⟨f, hf⟩ := Go.Deep.choose_lt each
    have e2 : ∀ j, j < n → ((List.range n).map f).getD j [] = f j := fun j hj => by simp [List.getD, hj]
    refine ⟨(List.range n).map f, ⟨by simp, fun _ => ⟨b, o, e, hb, fun j hj => ?_⟩⟩, fun j hj => by rw [e2 j hj]; exact (hf j hj).1⟩
    rw [e2 j hj]
    exact (hf j hj).2
end Go.Proofs.Ytogncnoheodgbaa.NumK
