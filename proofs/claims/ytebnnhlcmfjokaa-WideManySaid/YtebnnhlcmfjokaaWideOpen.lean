/- Wide numbers and slices of them among a law's arguments. -/
import Derived.Test.YtebnnhlcmfjokaaWide4
import Derived.Lib.SmallJoins
import Derived.Deep.SlicePairs
import Derived.ChangeArms
namespace Go.Proofs.Ytebnnhlcmfjokaa.NumK
open Go.ChangeShapes Go.WideShapes Go.RowKit

theorem wide_named (h l : Int) (h0 : (Lit.int .i64 h).wf = true) (h1 : (Lit.int .u64 l).wf = true) : ∃ x, h = hi64 x ∧ l = lo64 x ∧ isWide x = true := by
  have a := bounds_i64 h0
  have b := Go.bounds_u64 h1
  refine ⟨h * 18446744073709551616 + l, ?_, ?_, ?_⟩
  · exact (w_unique _ h l rfl (by omega) (by omega)).1.symm
  · exact (w_unique _ h l rfl (by omega) (by omega)).2.symm
  · rw [isWide_iff]; omega

theorem wide_open {H : Type} {enc : TypeId × Value → H} {w : World} {base : Nat} {spare : Nat → Bool} {held : Bool} {r : Reach} {b0 : Nat} {v : Value} {d : DataW H} {p : List MemPlace}
    (hv : Value.okWide Try.prog w r b0 24 v) (h : DataW.Trod enc Try.prog w base spare held 24 v d p) :
    ∃ x, v = .agg #[.int .i64 (hi64 x), .int .u64 (lo64 x)] ∧ isWide x = true := by
  obtain ⟨v0, v1, y0, y1, n, rfl, _, _, h0, h1⟩ := Go.Joins.open_agg2 Try.underlying24 (by kernel_rfl) (by kernel_rfl) hv h
  obtain ⟨a, ha, _, wa⟩ := DataW.trod_int Try.underlying3 h0
  obtain ⟨b, hb, _, wb⟩ := DataW.trod_int Try.underlying22 h1
  obtain rfl := (List.cons.inj ha).1
  obtain rfl := (List.cons.inj hb).1
  obtain ⟨x, rfl, rfl, hx⟩ := wide_named a b wa wb
  exact ⟨x, rfl, hx⟩

theorem wides_open {H : Type} {enc : TypeId × Value → H} {w : World} {held : Bool} {r : Reach} {b0 : Nat} {v : Value} {d : DataW H} {p : List MemPlace}
    (hv : Value.okWide Try.prog w r b0 40 v) (h : DataW.Trod enc Try.prog w 0 (fun _ => true) held 40 v d p) :
    ∃ A len cap xs, v = .slice A len cap ∧ Wides w A len xs ∧ (∀ x ∈ xs, isWide x = true) ∧ (A = none → cap = 0) ∧ len ≤ cap ∧ len ≤ 9223372036854775807 := by
  obtain ⟨A, len, cap, rfl⟩ := okWide_slice Try.underlying40 hv
  obtain ⟨fuel, hf⟩ := h
  rcases Go.Deep.open_slice_pairs Try.underlying40 Try.underlying24 (by kernel_rfl) rfl rfl (by kernel_rfl) (by kernel_rfl) hf with ⟨hcs, _⟩ | ⟨a, l, c, m, n, V0, V1, D0, D1, P0, P1, hcs, _, hl, hm, hmm, _, hx⟩
  · simp [Value.cells] at hcs
    obtain ⟨rfl, rfl, rfl⟩ := hcs
    exact ⟨none, 0, 0, [], rfl, ⟨rfl, fun h => absurd h (by omega)⟩, by simp, fun _ => rfl, Nat.le_refl _, by omega⟩
  · simp [Value.cells] at hcs
    obtain ⟨rfl, rfl, rfl⟩ := hcs
    simp only [if_true] at hmm
    subst hmm
    have each : ∀ i, i < m → ∃ x, w.cell? (a.add (i * 2)) = some (.int .i64 (hi64 x)) ∧ w.cell? (a.add (i * 2 + 1)) = some (.int .u64 (lo64 x)) ∧ isWide x = true := by
      intro i hi
      obtain ⟨c0, c1, t0, t1⟩ := hx i hi
      obtain ⟨u, hu, _, wu⟩ := DataW.trod_int Try.underlying3 t0
      obtain ⟨v, hv, _, wv⟩ := DataW.trod_int Try.underlying22 t1
      have e0 := (List.cons.inj hu).1
      have e1 := (List.cons.inj hv).1
      obtain ⟨x, rfl, rfl, hx⟩ := wide_named u v wu wv
      exact ⟨x, by rw [c0, e0], by rw [c1, e1], hx⟩
    obtain ⟨f, hf2⟩ := Go.Deep.choose_lt each
    refine ⟨some a, len, m, (List.range len).map f, rfl, ⟨by simp, fun h => ?_⟩, fun x hx => ?_, fun h => by (cases h), hl, by unfold maxLen at hm; omega⟩
    · obtain ⟨b, o, spot⟩ := a
      have h0 := (hf2 0 (by omega)).1
      have hspot : spot = none := by simpa [Addr.add] using World.cell?_spot h0
      subst hspot
      refine ⟨b, o, rfl, by simpa [Addr.add] using World.block_lt_of_cell? w _ h0, fun j hj => ?_⟩
      have g := hf2 j (by omega)
      rw [show (⟨b, o, none⟩ : Addr).add (j * 2) = ⟨b, o + j * 2, none⟩ from by unfold Addr.add; split <;> simp_all, show (⟨b, o, none⟩ : Addr).add (j * 2 + 1) = ⟨b, o + j * 2 + 1, none⟩ from by unfold Addr.add; split <;> simp_all [Nat.add_assoc]] at g
      have e : ((List.range len).map f).getD j 0 = f j := by simp [List.getD, hj]
      rw [e]
      exact ⟨g.1, g.2.1⟩
    · obtain ⟨i, hi, rfl⟩ := List.mem_map.1 hx
      exact (hf2 i (by have := List.mem_range.1 hi; omega)).2.2
end Go.Proofs.Ytebnnhlcmfjokaa.NumK
