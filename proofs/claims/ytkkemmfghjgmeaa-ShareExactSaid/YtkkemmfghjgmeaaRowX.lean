/- A row of wides that a call has made and fills. -/
import Derived.Test.YtkkemmfghjgmeaaRowI
import Derived.Test.YtkkemmfghjgmeaaWide4
namespace Go.Proofs.Ytkkemmfghjgmeaa.NumK
open Go.RowKit

def RowX (w : World) (blk n : Nat) (d : Nat → Int) : Prop := blk < w.heap.size ∧ ∀ k, k < n →
  w.cell? ⟨blk, k * 2, none⟩ = some (.int .i64 (hi64 (d k))) ∧ w.cell? ⟨blk, k * 2 + 1, none⟩ = some (.int .u64 (lo64 (d k))) ∧ w.frozen? ⟨blk, k * 2, none⟩ = false ∧ w.frozen? ⟨blk, k * 2 + 1, none⟩ = false

theorem RowX.keep {w w' : World} {blk n : Nat} {d : Nat → Int} (h : RowX w blk n d) (g : Grew w w') : RowX w' blk n d :=
  ⟨Nat.lt_of_lt_of_le h.1 g.size, fun k hk => ⟨(grew_cell g (p := ⟨blk, k * 2, none⟩) h.1).trans (h.2 k hk).1, (grew_cell g (p := ⟨blk, k * 2 + 1, none⟩) h.1).trans (h.2 k hk).2.1,
    (Below.frozen g (p := ⟨blk, k * 2, none⟩) h.1).trans (h.2 k hk).2.2.1, (Below.frozen g (p := ⟨blk, k * 2 + 1, none⟩) h.1).trans (h.2 k hk).2.2.2⟩⟩

theorem RowX.other {w : World} {blk n : Nat} {d : Nat → Int} (h : RowX w blk n d) (p : Addr) (u : Value) (hp : p.block ≠ blk) : RowX (w.setCell p u) blk n d :=
  ⟨by simp [World.setCell]; exact h.1, fun k hk => ⟨(World.cell?_setCell_other _ _ _ _ (by intro e; apply hp; rw [e])).trans (h.2 k hk).1, (World.cell?_setCell_other _ _ _ _ (by intro e; apply hp; rw [e])).trans (h.2 k hk).2.1,
    by rw [World.frozen?_setCell]; exact (h.2 k hk).2.2.1, by rw [World.frozen?_setCell]; exact (h.2 k hk).2.2.2⟩⟩
theorem RowI.other {w : World} {blk n : Nat} {d : Nat → Int} (h : RowI w blk n d) (p : Addr) (u : Value) (hp : p.block ≠ blk) : RowI (w.setCell p u) blk n d :=
  ⟨by simp [World.setCell]; exact h.1, fun k hk => ⟨(World.cell?_setCell_other _ _ _ _ (by intro e; apply hp; rw [e])).trans (h.2 k hk).1, by rw [World.frozen?_setCell]; exact (h.2 k hk).2⟩⟩
theorem RowW.other {w : World} {blk n : Nat} {d : Nat → Nat} (h : RowW w blk n d) (p : Addr) (u : Value) (hp : p.block ≠ blk) : RowW (w.setCell p u) blk n d :=
  ⟨by simp [World.setCell]; exact h.1, fun k hk => ⟨(World.cell?_setCell_other _ _ _ _ (by intro e; apply hp; rw [e])).trans (h.2 k hk).1, by rw [World.frozen?_setCell]; exact (h.2 k hk).2⟩⟩

theorem RowX.set {w : World} {blk n : Nat} {d : Nat → Int} (h : RowX w blk n d) (i : Nat) (v : Int) : RowX ((w.setCell ⟨blk, i * 2, none⟩ (.int .i64 (hi64 v))).setCell ⟨blk, i * 2 + 1, none⟩ (.int .u64 (lo64 v))) blk n (fun k => if k = i then v else d k) := by
  refine ⟨by simp [World.setCell]; exact h.1, fun k hk => ?_⟩
  obtain ⟨h1, h2, h3, h4⟩ := h.2 k hk
  refine ⟨?_, ?_, by rw [World.frozen?_setCell, World.frozen?_setCell]; exact h3, by rw [World.frozen?_setCell, World.frozen?_setCell]; exact h4⟩
  · rw [World.cell?_setCell_other _ _ _ _ (by intro e; simp only [Addr.mk.injEq] at e; omega)]
    by_cases c : k = i
    · subst c
      rw [World.cell?_setCell_same _ _ _ h1]; dsimp only; rw [if_pos rfl]
    · rw [World.cell?_setCell_other _ _ _ _ (by intro e; simp only [Addr.mk.injEq] at e; omega), h1]; dsimp only; rw [if_neg c]
  · by_cases c : k = i
    · subst c
      have k1 : (w.setCell ⟨blk, k * 2, none⟩ (.int .i64 (hi64 v))).cell? ⟨blk, k * 2 + 1, none⟩ = some (.int .u64 (lo64 (d k))) := by
        rw [World.cell?_setCell_other _ _ _ _ (by intro e; simp only [Addr.mk.injEq] at e; omega)]; exact h2
      rw [World.cell?_setCell_same _ _ _ k1]; dsimp only; rw [if_pos rfl]
    · rw [World.cell?_setCell_other _ _ _ _ (by intro e; simp only [Addr.mk.injEq] at e; omega), World.cell?_setCell_other _ _ _ _ (by intro e; simp only [Addr.mk.injEq] at e; omega), h2]; dsimp only; rw [if_neg c]

theorem RowX.congr {w : World} {blk n : Nat} {d e : Nat → Int} (h : RowX w blk n d) (he : ∀ k, k < n → d k = e k) : RowX w blk n e :=
  ⟨h.1, fun k hk => by rw [← he k hk]; exact h.2 k hk⟩

theorem RowX.made (w : World) (t : TypeId) (n : Nat) : RowX (w.alloc (.cells (madeCells #[.int .i64 0, .int .u64 0] (n * 2)) t)) w.heap.size n (fun _ => 0) := by
  have h0 : hi64 0 = 0 ∧ lo64 0 = 0 := by decide
  refine ⟨by simp, fun k hk => ⟨?_, ?_, by simp, by simp⟩⟩
  · rw [World.cell?_alloc_at _ _ _ _ rfl, h0.1]
    have e2 : k * 2 % 2 = 0 := by omega
    simp [madeCells, e2, show k * 2 < n * 2 from by omega]
  · rw [World.cell?_alloc_at _ _ _ _ rfl, h0.2]
    have e2 : (k * 2 + 1) % 2 = 1 := by omega
    simp [madeCells, e2, show k * 2 + 1 < n * 2 from by omega]

theorem RowX.wides {w : World} {blk n : Nat} {d : Nat → Int} (h : RowX w blk n d) : Wides w (some ⟨blk, 0, none⟩) n ((List.range n).map d) := by
  refine ⟨by simp, fun _ => ⟨blk, 0, rfl, h.1, fun j hj => ?_⟩⟩
  have e : ((List.range n).map d).getD j 0 = d j := by simp [List.getD, hj]
  rw [Nat.zero_add, e]
  exact ⟨(h.2 j hj).1, (h.2 j hj).2.1⟩

/-- The run of 'make([]api.Wide, n)'. -/
theorem run_wides (w : World) (n : Nat) (hn : n ≤ 1000000) : (Instr.makeSlice 35 (.int .i64 n) (.int .i64 n)).run Try.prog w = .ok (.slice (some ⟨w.heap.size, 0, none⟩) n n) (w.alloc (.cells (madeCells #[.int .i64 0, .int .u64 0] (n * 2)) 38)) := by
  obtain ⟨i, hi, hz0, hz1, hz2⟩ := info_parts info_wide
  have := run_make (P := Try.prog) w 35 38 i (.agg #[.int .i64 0, .int .u64 0]) Try.underlying35 hi hz0 .i64 .i64 n n (by omega) (by omega) (by rw [hz2]; omega) (by omega)
  simpa [hz1, Value.cells] using this
end Go.Proofs.Ytkkemmfghjgmeaa.NumK
