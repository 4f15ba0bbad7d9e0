/- A row of bools of the call's own. -/
import Derived.Test.YtahioajpmlochaaRG8
namespace Go.Proofs.Ytahioajpmlochaa.NumK
open Go.RowKit

def RowB (w : World) (blk n : Nat) (d : Nat → Bool) : Prop := blk < w.heap.size ∧ ∀ k, k < n → w.cell? ⟨blk, k, none⟩ = some (.bool (d k)) ∧ w.frozen? ⟨blk, k, none⟩ = false

theorem RowB.keep {w w' : World} {blk n : Nat} {d : Nat → Bool} (h : RowB w blk n d) (g : Grew w w') : RowB w' blk n d :=
  ⟨Nat.lt_of_lt_of_le h.1 g.size, fun k hk => ⟨(grew_cell g (p := ⟨blk, k, none⟩) h.1).trans (h.2 k hk).1, (Below.frozen g (p := ⟨blk, k, none⟩) h.1).trans (h.2 k hk).2⟩⟩
theorem RowB.turn {w w' : World} {blk b n : Nat} {d : Nat → Bool} (h : RowB w blk n d) (g : Turn b w w') (hn : blk ≠ b) : RowB w' blk n d :=
  ⟨Nat.lt_of_lt_of_le h.1 g.size, fun k hk => ⟨(g.cell (p := ⟨blk, k, none⟩) h.1 hn).trans (h.2 k hk).1, (g.frozen (p := ⟨blk, k, none⟩) h.1 hn).trans (h.2 k hk).2⟩⟩
theorem RowB.set {w : World} {blk n : Nat} {d : Nat → Bool} (h : RowB w blk n d) (i : Nat) (v : Bool) : RowB (w.setCell ⟨blk, i, none⟩ (.bool v)) blk n (fun k => if k = i then v else d k) := by
  refine ⟨by simp [World.setCell]; exact h.1, fun k hk => ⟨?_, ?_⟩⟩
  · by_cases c : k = i
    · subst c
      rw [World.cell?_setCell_same _ _ _ (h.2 k hk).1]; dsimp only; rw [if_pos rfl]
    · rw [World.cell?_setCell_other _ _ _ _ (by intro e; simp only [Addr.mk.injEq] at e; omega), (h.2 k hk).1]; dsimp only; rw [if_neg c]
  · rw [World.frozen?_setCell]; exact (h.2 k hk).2
theorem RowB.congr {w : World} {blk n : Nat} {d e : Nat → Bool} (h : RowB w blk n d) (he : ∀ k, k < n → d k = e k) : RowB w blk n e :=
  ⟨h.1, fun k hk => by rw [← he k hk]; exact h.2 k hk⟩
theorem RowB.made (w : World) (t : TypeId) (n : Nat) : RowB (w.alloc (.cells (madeCells #[.bool false] n) t)) w.heap.size n (fun _ => false) := by
  refine ⟨by simp, fun k hk => ⟨?_, by simp⟩⟩
  rw [World.cell?_alloc_at _ _ _ _ rfl]
  simp [madeCells, hk, Nat.mod_one]

theorem RowB.other {w : World} {blk n : Nat} {d : Nat → Bool} (h : RowB w blk n d) (p : Addr) (u : Value) (hp : p.block ≠ blk) : RowB (w.setCell p u) blk n d :=
  ⟨by simp [World.setCell]; exact h.1, fun k hk => ⟨(World.cell?_setCell_other _ _ _ _ (by intro e; apply hp; rw [e])).trans (h.2 k hk).1, by rw [World.frozen?_setCell]; exact (h.2 k hk).2⟩⟩

theorem info_bool : (Try.prog.info? 4).map (fun i => (i.zero, i.size, i.bytes)) = some (some (.bool false), 1, 1) := by kernel_rfl
/-- The run of 'make([]bool, n)'. -/
theorem run_bools (w : World) (n : Nat) (hn : n ≤ 1000000) : (Instr.makeSlice 52 (.int .i64 n) (.int .i64 n)).run Try.prog w = .ok (.slice (some ⟨w.heap.size, 0, none⟩) n n) (w.alloc (.cells (madeCells #[.bool false] n) 4)) := by
  obtain ⟨i, hi, hz0, hz1, hz2⟩ := info_parts info_bool
  have := run_make (P := Try.prog) w 52 4 i (.bool false) Try.underlying52 hi hz0 .i64 .i64 n n (by omega) (by omega) (by rw [hz2]; omega) (by omega)
  simpa [hz1, Value.cells] using this
end Go.Proofs.Ytahioajpmlochaa.NumK
