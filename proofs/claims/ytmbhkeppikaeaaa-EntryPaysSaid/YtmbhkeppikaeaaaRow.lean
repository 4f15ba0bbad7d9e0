/- A row of integers in which a call moves what stands: worlds in which all else stays; regions that read and call. -/
import Derived.Test.YtmbhkeppikaeaaaMem
import Derived.Test.YtmbhkeppikaeaaaSortMath
import Derived.Deep.QuietTactic
import Derived.BigQuiet
import Derived.BigRegion
namespace Go.Proofs.Ytmbhkeppikaeaaa.NumK
open Go.RowKit

/-! ### regions that draw their order, read, and call what makes memory -/
/-- A world that has grown from w. -/
structure GrewTo (w : World) where
  to : World
  h : Grew w to

instance (w : World) : Nonempty (GrewTo w) := ⟨⟨w, grew_refl w⟩⟩

theorem wp_region_grew {P : Program} {id : Nat} {Q : Exit → Act → World → Prop} {a : Act} {w : World} {l : List Oper} (hm : P.follows .mixedOrders = true) (hB : Region.lexB .any l.toArray = true)
    (h : wpQuiet P l.toArray (fun w' => ∃ p : GrewTo w, w' = p.to) (fun a' => ∀ w', (∃ p : GrewTo w, w' = p.to) → Q .normal a' w') l a) : (Code.region id l.toArray true).wp P Q a w :=
  wp_region_quiet (C := fun w' => ∃ p : GrewTo w, w' = p.to) hm hB ⟨⟨w.drew, Below.drew (grew_refl w)⟩, rfl⟩ (by simpa using h)

theorem grew_of {w w' : World} (h : ∃ p : GrewTo w, w' = p.to) : Grew w w' := by
  obtain ⟨p, rfl⟩ := h
  exact p.h

/-- A callee's contract, met in such a world. -/
theorem calls_grew {P : Program} {f : FuncId} {args : Array Value} {w : World} {p : GrewTo w} {v : Value}
    (h : Calls P f args p.to fun e w' => e = .returned v ∧ Grew p.to w') : Calls P f args p.to fun e w'' => e = .returned v ∧ ∃ q : GrewTo w, w'' = q.to :=
  h.mono fun _ _ ⟨he, hg⟩ => ⟨he, ⟨_, grew_trans p.h hg⟩, rfl⟩

/-! ### all blocks but one -/
structure Turn (blk : Nat) (w w' : World) : Prop where
  os : w'.os = w.os
  tape : w'.tape = w.tape
  output : w'.output = w.output
  size : w.heap.size ≤ w'.heap.size
  block : ∀ k, k < w.heap.size → k ≠ blk → w'.heap[k]? = w.heap[k]?

theorem Turn.refl (blk : Nat) (w : World) : Turn blk w w := ⟨rfl, rfl, rfl, Nat.le_refl _, fun _ _ _ => rfl⟩
theorem Turn.trans {blk : Nat} {a b c : World} (h : Turn blk a b) (k : Turn blk b c) : Turn blk a c :=
  ⟨k.os.trans h.os, k.tape.trans h.tape, k.output.trans h.output, Nat.le_trans h.size k.size, fun i hi hn => (k.block i (Nat.lt_of_lt_of_le hi h.size) hn).trans (h.block i hi hn)⟩
theorem Turn.grew {blk : Nat} {a b c : World} (h : Turn blk a b) (k : Grew b c) : Turn blk a c :=
  h.trans ⟨k.os, k.tape, k.output, k.size, fun i hi _ => k.block i hi⟩
theorem Turn.drew {blk : Nat} {a b : World} (h : Turn blk a b) : Turn blk a b.drew := h.grew (Below.drew (grew_refl b))
theorem Turn.setCell {blk : Nat} {a b : World} (h : Turn blk a b) (o : Nat) (v : Value) : Turn blk a (b.setCell ⟨blk, o, none⟩ v) :=
  h.trans ⟨rfl, rfl, rfl, by simp [World.setCell], fun k _ hn => Below.heap_setCell _ _ _ _ hn⟩
theorem Turn.cell {blk : Nat} {w w' : World} (h : Turn blk w w') {p : Addr} (hp : p.block < w.heap.size) (hn : p.block ≠ blk) : w'.cell? p = w.cell? p := World.cell?_of_block (w := w) (h.block p.block hp hn)
theorem Turn.frozen {blk : Nat} {w w' : World} (h : Turn blk w w') {p : Addr} (hp : p.block < w.heap.size) (hn : p.block ≠ blk) : w'.frozen? p = w.frozen? p := World.frozen?_of_block (w := w) (h.block p.block hp hn)
/-- A row that is new since w0. -/
theorem Turn.new {blk : Nat} {w0 w w' : World} (g : Grew w0 w) (h : Turn blk w w') (hn : w0.heap.size ≤ blk) : Grew w0 w' :=
  ⟨h.os.trans g.os, h.tape.trans g.tape, h.output.trans g.output, Nat.le_trans g.size h.size, fun k hk => (h.block k (Nat.lt_of_lt_of_le hk g.size) (by omega)).trans (g.block k hk)⟩

/-! ### the row -/
def RowW (w : World) (blk n : Nat) (d : Nat → Nat) : Prop := blk < w.heap.size ∧ ∀ k, k < n → w.cell? ⟨blk, k, none⟩ = some (.int .i64 (d k)) ∧ w.frozen? ⟨blk, k, none⟩ = false

theorem RowW.keep {w w' : World} {blk n : Nat} {d : Nat → Nat} (h : RowW w blk n d) (g : Grew w w') : RowW w' blk n d :=
  ⟨Nat.lt_of_lt_of_le h.1 g.size, fun k hk => ⟨(grew_cell g (p := ⟨blk, k, none⟩) h.1).trans (h.2 k hk).1, (Below.frozen g (p := ⟨blk, k, none⟩) h.1).trans (h.2 k hk).2⟩⟩

theorem RowW.swap {w : World} {blk n : Nat} {d : Nat → Nat} (h : RowW w blk n d) (i j : Nat) (hi : i < n) (hj : j < n) (hij : i ≠ j) :
    RowW ((w.setCell ⟨blk, i, none⟩ (.int .i64 (d j))).setCell ⟨blk, j, none⟩ (.int .i64 (d i))).drew blk n (sw d i j) := by
  refine ⟨?_, fun k hk => ⟨?_, ?_⟩⟩
  · show blk < (World.setCell _ _ _).heap.size
    simp [World.setCell]; exact h.1
  · show ((w.setCell ⟨blk, i, none⟩ (.int .i64 (d j))).setCell ⟨blk, j, none⟩ (.int .i64 (d i))).cell? ⟨blk, k, none⟩ = _
    by_cases c : k = j
    · subst c
      have h1 : (w.setCell ⟨blk, i, none⟩ (.int .i64 (d k))).cell? ⟨blk, k, none⟩ = some (.int .i64 (d k)) := by
        rw [World.cell?_setCell_other _ _ _ _ (by intro e; simp only [Addr.mk.injEq] at e; omega)]; exact (h.2 k hk).1
      rw [World.cell?_setCell_same _ _ _ h1]
      unfold sw; rw [if_neg (by omega), if_pos rfl]
    · rw [World.cell?_setCell_other _ _ _ _ (by intro e; simp only [Addr.mk.injEq] at e; omega)]
      by_cases c2 : k = i
      · subst c2
        rw [World.cell?_setCell_same _ _ _ (h.2 k hk).1]
        unfold sw; rw [if_pos rfl]
      · rw [World.cell?_setCell_other _ _ _ _ (by intro e; simp only [Addr.mk.injEq] at e; omega), (h.2 k hk).1]
        unfold sw; rw [if_neg c2, if_neg c]
  · show ((w.setCell ⟨blk, i, none⟩ (.int .i64 (d j))).setCell ⟨blk, j, none⟩ (.int .i64 (d i))).frozen? ⟨blk, k, none⟩ = false
    rw [World.frozen?_setCell, World.frozen?_setCell]; exact (h.2 k hk).2
/-- Behind the first store of an exchange the other place holds what it held. -/
theorem RowW.two {w : World} {blk n : Nat} {d : Nat → Nat} (h : RowW w blk n d) (i j : Nat) (hj : j < n) (hij : i ≠ j) (v : Value) :
    (w.setCell ⟨blk, i, none⟩ v).cell? ⟨blk, j, none⟩ = some (.int .i64 (d j)) :=
  (World.cell?_setCell_other _ _ _ _ (by intro e; simp only [Addr.mk.injEq] at e; omega)).trans (h.2 j hj).1

/-- What is asked of the comparison: in every world that a sort of the row passes through it tells whose key is greater. -/
structure CmpOK (g : Nat) (cb : Array Value) (cf : Nat → Nat → Int) (f : Nat → Int) (blk n : Nat) (w0 : World) : Prop where
  lt : ∀ x y, cf x y < 0 ↔ f y < f x
  call : ∀ w, Turn blk w0 w → ∀ x y : Nat, x < n → y < n → Calls Try.prog g (#[.int .i64 x, .int .i64 y] ++ cb) w fun e w' => e = .returned (.int .i64 (cf x y)) ∧ Grew w w'

/-- What a sort of the places from a up to b leaves. -/
def SortPost (f : Nat → Int) (blk n a b : Nat) (d : Nat → Nat) (w0 : World) (e : Ending) (w' : World) : Prop :=
  e = .returned (.tuple #[]) ∧ ∃ d', Moves a b d d' ∧ Sd f a b d' ∧ RowW w' blk n d' ∧ Turn blk w0 w'

/-- A cell of the row in every world that has grown. -/
theorem RowW.all {w : World} {blk n : Nat} {d : Nat → Nat} (h : RowW w blk n d) (k : Nat) (hk : k < n) (p : GrewTo w) : p.to.cell? ⟨blk, k, none⟩ = some (.int .i64 (d k)) := ((h.keep p.h).2 k hk).1

theorem CmpOK.all {g : Nat} {cb : Array Value} {cf : Nat → Nat → Int} {f : Nat → Int} {blk n : Nat} {w0 w : World} (h : CmpOK g cb cf f blk n w0) (hT : Turn blk w0 w) (x y : Nat) (hx : x < n) (hy : y < n) (p : GrewTo w) :
    Calls Try.prog g (#[.int .i64 x, .int .i64 y] ++ cb) p.to fun e w' => e = .returned (.int .i64 (cf x y)) ∧ Grew p.to w' := h.call _ (hT.grew p.h) x y hx hy

theorem Moves.lt {a b n : Nat} {d e : Nat → Nat} (h : Moves a b d e) (hb : b ≤ n) (hd : ∀ k, k < n → d k < n) : ∀ k, k < n → e k < n := by
  intro k hk
  by_cases c : a ≤ k ∧ k < b
  · obtain ⟨j, j1, j2, j3⟩ := h.within k c.1 c.2
    rw [j3]; exact hd j (by omega)
  · rw [h.out k c]; exact hd k hk
end Go.Proofs.Ytmbhkeppikaeaaa.NumK
