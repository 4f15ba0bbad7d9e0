/- A row of integers that a call has made and fills. -/
import Derived.Test.YtgaopkfdbglnmaaRow
import Derived.Laws.MakeOwn
namespace Go.Proofs.Ytgaopkfdbglnmaa.NumK
open Go.RowKit

def RowI (w : World) (blk n : Nat) (d : Nat → Int) : Prop := blk < w.heap.size ∧ ∀ k, k < n → w.cell? ⟨blk, k, none⟩ = some (.int .i64 (d k)) ∧ w.frozen? ⟨blk, k, none⟩ = false

theorem RowI.keep {w w' : World} {blk n : Nat} {d : Nat → Int} (h : RowI w blk n d) (g : Grew w w') : RowI w' blk n d :=
  ⟨Nat.lt_of_lt_of_le h.1 g.size, fun k hk => ⟨(grew_cell g (p := ⟨blk, k, none⟩) h.1).trans (h.2 k hk).1, (Below.frozen g (p := ⟨blk, k, none⟩) h.1).trans (h.2 k hk).2⟩⟩
theorem RowI.turn {w w' : World} {blk b n : Nat} {d : Nat → Int} (h : RowI w blk n d) (g : Turn b w w') (hn : blk ≠ b) : RowI w' blk n d :=
  ⟨Nat.lt_of_lt_of_le h.1 g.size, fun k hk => ⟨(g.cell (p := ⟨blk, k, none⟩) h.1 hn).trans (h.2 k hk).1, (g.frozen (p := ⟨blk, k, none⟩) h.1 hn).trans (h.2 k hk).2⟩⟩

theorem RowI.set {w : World} {blk n : Nat} {d : Nat → Int} (h : RowI w blk n d) (i : Nat) (v : Int) : RowI (w.setCell ⟨blk, i, none⟩ (.int .i64 v)) blk n (fun k => if k = i then v else d k) := by
  refine ⟨by simp [World.setCell]; exact h.1, fun k hk => ⟨?_, ?_⟩⟩
  · by_cases c : k = i
    · subst c
      rw [World.cell?_setCell_same _ _ _ (h.2 k hk).1]; dsimp only; rw [if_pos rfl]
    · rw [World.cell?_setCell_other _ _ _ _ (by intro e; simp only [Addr.mk.injEq] at e; omega), (h.2 k hk).1]; dsimp only; rw [if_neg c]
  · rw [World.frozen?_setCell]; exact (h.2 k hk).2

theorem RowI.congr {w : World} {blk n : Nat} {d e : Nat → Int} (h : RowI w blk n d) (he : ∀ k, k < n → d k = e k) : RowI w blk n e :=
  ⟨h.1, fun k hk => by rw [← he k hk]; exact h.2 k hk⟩
theorem RowI.toW {w : World} {blk n : Nat} {d : Nat → Int} {e : Nat → Nat} (h : RowI w blk n d) (he : ∀ k, k < n → d k = (e k : Int)) : RowW w blk n e :=
  ⟨h.1, fun k hk => by rw [← he k hk]; exact h.2 k hk⟩

theorem RowI.made (w : World) (t : TypeId) (n : Nat) : RowI (w.alloc (.cells (madeCells #[.int .i64 0] n) t)) w.heap.size n (fun _ => 0) := by
  refine ⟨by simp, fun k hk => ⟨?_, by simp⟩⟩
  rw [World.cell?_alloc_at _ _ _ _ rfl]
  simp [madeCells, hk, Nat.mod_one]

theorem RowI.ints {w : World} {blk n : Nat} {d : Nat → Int} (h : RowI w blk n d) : Ints w (some ⟨blk, 0, none⟩) n ((List.range n).map d) := by
  refine ⟨by simp, fun _ => ⟨blk, 0, rfl, h.1, fun j hj => ?_⟩⟩
  rw [Nat.zero_add, (h.2 j hj).1]
  simp [List.getD, hj]

/-- The run of 'make([]int, n)'. -/
theorem run_ints (w : World) (n : Nat) (hn : n ≤ 1000000) : (Instr.makeSlice 32 (.int .i64 n) (.int .i64 n)).run Try.prog w = .ok (.slice (some ⟨w.heap.size, 0, none⟩) n n) (w.alloc (.cells (madeCells #[.int .i64 0] n) 3)) := by
  obtain ⟨i, hi, hz0, hz1, hz2⟩ := info_parts info_i64
  have := run_make (P := Try.prog) w 32 3 i (.int .i64 0) Try.underlying32 hi hz0 .i64 .i64 n n (by omega) (by omega) (by rw [hz2]; omega) (by omega)
  simpa [hz1, Value.cells] using this
end Go.Proofs.Ytgaopkfdbglnmaa.NumK
