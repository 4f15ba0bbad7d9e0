/- What every stage's texts share: integers in memory, worlds that grow, money, floor division. -/
import Derived.Test.YtaipgcckafbgeaaRows
import Derived.WalkKit
import Derived.ProofKit
import Derived.OpenShut
import Derived.Below
import Derived.Deep.Draws
import Derived.IntWalk
import Derived.Lib.Hide
import Derived.Laws.AppendOwnNone
import Derived.Deep.QuietTactic
import Derived.BigQuiet
import Derived.BigRegion
namespace Go.Proofs.Ytaipgcckafbgeaa.NumK
open Go.RowKit

/-- The slice value's cells read as zs. -/
def Ints (w : World) (A : Option Addr) (n : Nat) (zs : List Int) : Prop :=
  zs.length = n ∧ (0 < n → ∃ b o, A = some ⟨b, o, none⟩ ∧ b < w.heap.size ∧ ∀ j, j < n → w.cell? ⟨b, o + j, none⟩ = some (.int .i64 (zs.getD j 0)))

def isMoney (n : Int) : Bool := decide (-4611686018427387904 ≤ n) && decide (n ≤ 4611686018427387904)

theorem ret_b {a b : Bool} (h : a = b) : Ending.returned (.bool a) = .returned (.bool b) := by rw [h]

/-! ### Worlds that only grow, and what reads in them -/
def Grew (w w' : World) : Prop := Below w.heap.size w w'
theorem grew_refl (w : World) : Grew w w := Below.refl _ _
theorem grew_trans {a b c : World} (h : Grew a b) (k : Grew b c) : Grew a c := Below.trans h (Below.mono k h.size)
theorem grew_alloc (w : World) (c : Array Value) (t : TypeId) : Grew w (w.alloc (.cells c t)) := (Below.refl _ _).alloc (Nat.le_refl _) _
theorem grew_cell {w w' : World} (h : Grew w w') {p : Addr} (hp : p.block < w.heap.size) : w'.cell? p = w.cell? p := Below.cell h hp

theorem ints1 (w : World) (a : Int) (t : TypeId) : Ints (w.alloc (.cells #[.int .i64 a] t)) (some ⟨w.heap.size, 0, none⟩) 1 [a] :=
  ⟨rfl, fun _ => ⟨_, _, rfl, by simp, fun j hj => by
    match j, hj with
    | 0, _ => simp⟩⟩
theorem ints2 (w : World) (a b : Int) (t : TypeId) : Ints (w.alloc (.cells #[.int .i64 a, .int .i64 b] t)) (some ⟨w.heap.size, 0, none⟩) 2 [a, b] :=
  ⟨rfl, fun _ => ⟨_, _, rfl, by simp, fun j hj => by
    match j, hj with
    | 0, _ => simp
    | 1, _ => simp⟩⟩
theorem ints2' (w : World) (a b : Int) (t : TypeId) (N : Nat) (hN : w.heap.size = N) : Ints (w.alloc (.cells #[.int .i64 a, .int .i64 b] t)) (some ⟨N, 0, none⟩) 2 [a, b] := by
  subst hN; exact ints2 w a b t
/-! ### money -/
def capV (n : Int) : Int := if isMoney n then n else 0
def capE (n : Int) : Int := if isMoney n then 0 else 1
/-! ### Quo: the arithmetic -/
theorem ret_i {k : IntKind} {a b : Int} (h : a = b) : Ending.returned (.int k a) = .returned (.int k b) := by rw [h]
theorem grew_set {w w1 : World} (h : Grew w w1) {p : Addr} (v : Value) (hp : w.heap.size ≤ p.block) : Grew w (w1.setCell p v) := Below.setCell h hp v
theorem grew_drew {w w1 : World} (h : Grew w w1) : Grew w w1.drew := ⟨h.os, h.tape, h.output, h.size, h.block⟩
end Go.Proofs.Ytaipgcckafbgeaa.NumK
namespace Go.Proofs.Ytaipgcckafbgeaa.NumK
open Go.RowKit

theorem Ints.keep {w w' : World} {A : Option Addr} {n : Nat} {zs : List Int} (h : Ints w A n zs) (g : Grew w w') : Ints w' A n zs :=
  ⟨h.1, fun hn => by
    obtain ⟨b, o, e, hb, hc⟩ := h.2 hn
    exact ⟨b, o, e, Nat.lt_of_lt_of_le hb g.size, fun j hj => (grew_cell g (p := ⟨b, o + j, none⟩) hb).trans (hc j hj)⟩⟩

theorem Ints.below {w w' : World} {A : Option Addr} {n : Nat} {zs : List Int} {B : Nat} (h : Ints w A n zs) (hB : w.heap.size ≤ B) (g : Below B w w') : Ints w' A n zs :=
  h.keep (g.mono hB)

end Go.Proofs.Ytaipgcckafbgeaa.NumK
namespace Go.Proofs.Ytaipgcckafbgeaa.NumK

/-- e is d with the places from a up to b among themselves moved. -/
def Moves (a b : Nat) (d e : Nat → Nat) : Prop :=
  ∃ s t : Nat → Nat, (∀ k, s (t k) = k) ∧ (∀ k, t (s k) = k) ∧ (∀ k, ¬ (a ≤ k ∧ k < b) → s k = k) ∧ ∀ k, e k = d (s k)

theorem Moves.refl (a b : Nat) (d : Nat → Nat) : Moves a b d d := ⟨id, id, fun _ => rfl, fun _ => rfl, fun _ _ => rfl, fun _ => rfl⟩

theorem Moves.trans {a b : Nat} {d e g : Nat → Nat} (h : Moves a b d e) (k : Moves a b e g) : Moves a b d g := by
  obtain ⟨s, t, h1, h2, h3, h4⟩ := h
  obtain ⟨u, v, k1, k2, k3, k4⟩ := k
  refine ⟨fun x => s (u x), fun x => v (t x), fun x => ?_, fun x => ?_, fun x hx => ?_, fun x => ?_⟩
  · show s (u (v (t x))) = x; rw [k1, h1]
  · show v (t (s (u x))) = x; rw [h2, k2]
  · show s (u x) = x; rw [k3 x hx, h3 x hx]
  · rw [k4, h4]

theorem Moves.mono {a b a' b' : Nat} {d e : Nat → Nat} (h : Moves a b d e) (ha : a' ≤ a) (hb : b ≤ b') : Moves a' b' d e := by
  obtain ⟨s, t, h1, h2, h3, h4⟩ := h
  exact ⟨s, t, h1, h2, fun k hk => h3 k (by omega), h4⟩

theorem Moves.out {a b : Nat} {d e : Nat → Nat} (h : Moves a b d e) (k : Nat) (hk : ¬ (a ≤ k ∧ k < b)) : e k = d k := by
  obtain ⟨s, t, h1, h2, h3, h4⟩ := h
  rw [h4, h3 k hk]

/-- What stands within stood within. -/
theorem Moves.within {a b : Nat} {d e : Nat → Nat} (h : Moves a b d e) (k : Nat) (ha : a ≤ k) (hb : k < b) : ∃ j, a ≤ j ∧ j < b ∧ e k = d j := by
  obtain ⟨s, t, h1, h2, h3, h4⟩ := h
  by_cases hc : a ≤ s k ∧ s k < b
  · exact ⟨s k, hc.1, hc.2, h4 k⟩
  · have e1 := h3 (s k) hc
    have e2 : s k = k := by rw [← h2 (s k), e1, h2]
    exact ⟨k, ha, hb, by rw [h4, e2]⟩

def sw (d : Nat → Nat) (i j k : Nat) : Nat := if k = i then d j else if k = j then d i else d k

/-! ### exchanging two ranges, turning two neighbours -/
def swr (d : Nat → Nat) (a b i k : Nat) : Nat := if a ≤ k ∧ k < a + i then d (k - a + b) else if b ≤ k ∧ k < b + i then d (k - b + a) else d k

def rot (d : Nat → Nat) (a m b k : Nat) : Nat := if a ≤ k ∧ k < a + (b - m) then d (k + (m - a)) else if a + (b - m) ≤ k ∧ k < b then d (k - (b - m)) else d k

/-! ### the order: greater keys ahead, of equal ones the smaller number -/
def Ah (f : Nat → Int) (x y : Nat) : Prop := f y < f x ∨ (f x = f y ∧ x < y)
def Sd (f : Nat → Int) (a b : Nat) (d : Nat → Nat) : Prop := ∀ i j, a ≤ i → i < j → j < b → Ah f (d i) (d j)
def Xs (a m b : Nat) (d : Nat → Nat) : Prop := ∀ i j, a ≤ i → i < m → m ≤ j → j < b → d i < d j

theorem Ah.trans {f : Nat → Int} {x y z : Nat} (h : Ah f x y) (k : Ah f y z) : Ah f x z := by unfold Ah at *; omega

theorem Sd.sub {f : Nat → Int} {a b a' b' : Nat} {d : Nat → Nat} (h : Sd f a b d) (ha : a ≤ a') (hb : b' ≤ b) : Sd f a' b' d :=
  fun i j h1 h2 h3 => h i j (by omega) h2 (by omega)
theorem Sd.same {f : Nat → Int} {a b : Nat} {d e : Nat → Nat} (h : Sd f a b d) (he : ∀ k, a ≤ k → k < b → e k = d k) : Sd f a b e := by
  intro i j h1 h2 h3; rw [he i h1 (by omega), he j (by omega) h3]; exact h i j h1 h2 h3
theorem Sd.one (f : Nat → Int) (a b : Nat) (d : Nat → Nat) (h : b ≤ a + 1) : Sd f a b d := fun i j h1 h2 h3 => by omega
/-! ### insertion -/
/-- The row while what stood at i goes down, now at j. -/
def Ins (f : Nat → Int) (a i j : Nat) (e : Nat → Nat) : Prop :=
  (∀ p q, a ≤ p → p < q → q ≤ i → p ≠ j → q ≠ j → Ah f (e p) (e q)) ∧ (∀ q, j < q → q ≤ i → Ah f (e j) (e q)) ∧ ∀ p, a ≤ p → p ≤ i → p ≠ j → e p < e j

/-! ### one element among many -/
/-- What stands at a goes up to i - 1. -/
def shU (d : Nat → Nat) (a k x : Nat) : Nat := if a ≤ x ∧ x < k then d (x + 1) else if x = k then d a else d x
/-- What stands at m goes down to i. -/
def shD (d : Nat → Nat) (m k x : Nat) : Nat := if k < x ∧ x ≤ m then d (x - 1) else if x = k then d m else d x
/-! ### the symmetric merge -/
/-- Where the halves are parted: what stands at 'start' of the first half. -/
structure Cut (f : Nat → Int) (a m b mid s : Nat) (d : Nat → Nat) : Prop where
  lo : a ≤ s
  mid1 : s ≤ mid
  m1 : s ≤ m
  e1 : mid + m - s ≤ b
  e0 : m ≤ mid + m - s
  below : ∀ i j, a ≤ i → i < s → mid + m - s ≤ j → j < b → Ah f (d i) (d j)
  above : ∀ i j, s ≤ i → i < m → m ≤ j → j < mid + m - s → Ah f (d j) (d i)

/-! ### blocks -/
/-- Each number below c stands below c. -/
def Br (c : Nat) (d : Nat → Nat) : Prop := ∀ k, k < c ↔ d k < c
theorem Br.moves {a b c : Nat} {d e : Nat → Nat} (h : Br c d) (hm : Moves a b d e) (hc : c ≤ a ∨ b ≤ c) : Br c e := by
  intro k
  by_cases h1 : a ≤ k ∧ k < b
  · obtain ⟨j, p1, p2, p3⟩ := hm.within k h1.1 h1.2
    rw [p3, ← h j]; omega
  · rw [hm.out k h1]; exact h k
theorem Br.xs {a m b : Nat} {d : Nat → Nat} (h : Br m d) : Xs a m b d := fun i j _ p2 p3 _ => by
  have h1 := (h i).1 p2
  have h2 := mt (h j).2 (by omega)
  omega
end Go.Proofs.Ytaipgcckafbgeaa.NumK
namespace Go.Proofs.Ytaipgcckafbgeaa.NumK
open Go.RowKit

/-! ### regions that draw their order, read, and call what makes memory -/
/-- A world that has grown from w. -/
structure GrewTo (w : World) where
  to : World
  h : Grew w to

instance (w : World) : Nonempty (GrewTo w) := ⟨⟨w, grew_refl w⟩⟩

theorem wp_region_grew {P : Program} {id : Nat} {Q : Exit → Act → World → Prop} {a : Act} {w : World} {l : List Oper} (hm : P.follows .mixedOrders = true) (hB : Region.lexB .any l.toArray = true)
    (h : wpQuiet P l.toArray (fun w' => ∃ p : GrewTo w, w' = p.to) (fun a' => ∀ w', (∃ p : GrewTo w, w' = p.to) → Q .normal a' w') l a) : (Code.region id l.toArray true).wp P Q a w :=
  wp_region_quiet (C := fun w' => ∃ p : GrewTo w, w' = p.to) hm hB ⟨⟨w.drew, Below.drew (grew_refl w)⟩, rfl⟩ (by simpa using h)

theorem grew_of {w w' : World} (h : ∃ p : GrewTo w, w' = p.to) : Grew w w' := by
  obtain ⟨p, rfl⟩ := h
  exact p.h

/-- A callee's contract, met in such a world. -/
theorem calls_grew {P : Program} {f : FuncId} {args : Array Value} {w : World} {p : GrewTo w} {v : Value}
    (h : Calls P f args p.to fun e w' => e = .returned v ∧ Grew p.to w') : Calls P f args p.to fun e w'' => e = .returned v ∧ ∃ q : GrewTo w, w'' = q.to :=
  h.mono fun _ _ ⟨he, hg⟩ => ⟨he, ⟨_, grew_trans p.h hg⟩, rfl⟩

/-! ### all blocks but one -/
structure Turn (blk : Nat) (w w' : World) : Prop where
  os : w'.os = w.os
  tape : w'.tape = w.tape
  output : w'.output = w.output
  size : w.heap.size ≤ w'.heap.size
  block : ∀ k, k < w.heap.size → k ≠ blk → w'.heap[k]? = w.heap[k]?

theorem Turn.refl (blk : Nat) (w : World) : Turn blk w w := ⟨rfl, rfl, rfl, Nat.le_refl _, fun _ _ _ => rfl⟩
theorem Turn.trans {blk : Nat} {a b c : World} (h : Turn blk a b) (k : Turn blk b c) : Turn blk a c :=
  ⟨k.os.trans h.os, k.tape.trans h.tape, k.output.trans h.output, Nat.le_trans h.size k.size, fun i hi hn => (k.block i (Nat.lt_of_lt_of_le hi h.size) hn).trans (h.block i hi hn)⟩
theorem Turn.grew {blk : Nat} {a b c : World} (h : Turn blk a b) (k : Grew b c) : Turn blk a c :=
  h.trans ⟨k.os, k.tape, k.output, k.size, fun i hi _ => k.block i hi⟩
theorem Turn.drew {blk : Nat} {a b : World} (h : Turn blk a b) : Turn blk a b.drew := h.grew (Below.drew (grew_refl b))
theorem Turn.setCell {blk : Nat} {a b : World} (h : Turn blk a b) (o : Nat) (v : Value) : Turn blk a (b.setCell ⟨blk, o, none⟩ v) :=
  h.trans ⟨rfl, rfl, rfl, by simp [World.setCell], fun k _ hn => Below.heap_setCell _ _ _ _ hn⟩
theorem Turn.cell {blk : Nat} {w w' : World} (h : Turn blk w w') {p : Addr} (hp : p.block < w.heap.size) (hn : p.block ≠ blk) : w'.cell? p = w.cell? p := World.cell?_of_block (w := w) (h.block p.block hp hn)
theorem Turn.frozen {blk : Nat} {w w' : World} (h : Turn blk w w') {p : Addr} (hp : p.block < w.heap.size) (hn : p.block ≠ blk) : w'.frozen? p = w.frozen? p := World.frozen?_of_block (w := w) (h.block p.block hp hn)
/-- A row that is new since w0. -/
theorem Turn.new {blk : Nat} {w0 w w' : World} (g : Grew w0 w) (h : Turn blk w w') (hn : w0.heap.size ≤ blk) : Grew w0 w' :=
  ⟨h.os.trans g.os, h.tape.trans g.tape, h.output.trans g.output, Nat.le_trans g.size h.size, fun k hk => (h.block k (Nat.lt_of_lt_of_le hk g.size) (by omega)).trans (g.block k hk)⟩

/-! ### the row -/
def RowW (w : World) (blk n : Nat) (d : Nat → Nat) : Prop := blk < w.heap.size ∧ ∀ k, k < n → w.cell? ⟨blk, k, none⟩ = some (.int .i64 (d k)) ∧ w.frozen? ⟨blk, k, none⟩ = false

theorem RowW.keep {w w' : World} {blk n : Nat} {d : Nat → Nat} (h : RowW w blk n d) (g : Grew w w') : RowW w' blk n d :=
  ⟨Nat.lt_of_lt_of_le h.1 g.size, fun k hk => ⟨(grew_cell g (p := ⟨blk, k, none⟩) h.1).trans (h.2 k hk).1, (Below.frozen g (p := ⟨blk, k, none⟩) h.1).trans (h.2 k hk).2⟩⟩

theorem RowW.swap {w : World} {blk n : Nat} {d : Nat → Nat} (h : RowW w blk n d) (i j : Nat) (hi : i < n) (hj : j < n) (hij : i ≠ j) :
    RowW ((w.setCell ⟨blk, i, none⟩ (.int .i64 (d j))).setCell ⟨blk, j, none⟩ (.int .i64 (d i))).drew blk n (sw d i j) := by
  refine ⟨?_, fun k hk => ⟨?_, ?_⟩⟩
  · show blk < (World.setCell _ _ _).heap.size
    simp [World.setCell]; exact h.1
  · show ((w.setCell ⟨blk, i, none⟩ (.int .i64 (d j))).setCell ⟨blk, j, none⟩ (.int .i64 (d i))).cell? ⟨blk, k, none⟩ = _
    by_cases c : k = j
    · subst c
      have h1 : (w.setCell ⟨blk, i, none⟩ (.int .i64 (d k))).cell? ⟨blk, k, none⟩ = some (.int .i64 (d k)) := by
        rw [World.cell?_setCell_other _ _ _ _ (by intro e; simp only [Addr.mk.injEq] at e; omega)]; exact (h.2 k hk).1
      rw [World.cell?_setCell_same _ _ _ h1]
      unfold sw; rw [if_neg (by omega), if_pos rfl]
    · rw [World.cell?_setCell_other _ _ _ _ (by intro e; simp only [Addr.mk.injEq] at e; omega)]
      by_cases c2 : k = i
      · subst c2
        rw [World.cell?_setCell_same _ _ _ (h.2 k hk).1]
        unfold sw; rw [if_pos rfl]
      · rw [World.cell?_setCell_other _ _ _ _ (by intro e; simp only [Addr.mk.injEq] at e; omega), (h.2 k hk).1]
        unfold sw; rw [if_neg c2, if_neg c]
  · show ((w.setCell ⟨blk, i, none⟩ (.int .i64 (d j))).setCell ⟨blk, j, none⟩ (.int .i64 (d i))).frozen? ⟨blk, k, none⟩ = false
    rw [World.frozen?_setCell, World.frozen?_setCell]; exact (h.2 k hk).2
/-- Behind the first store of an exchange the other place holds what it held. -/
theorem RowW.two {w : World} {blk n : Nat} {d : Nat → Nat} (h : RowW w blk n d) (i j : Nat) (hj : j < n) (hij : i ≠ j) (v : Value) :
    (w.setCell ⟨blk, i, none⟩ v).cell? ⟨blk, j, none⟩ = some (.int .i64 (d j)) :=
  (World.cell?_setCell_other _ _ _ _ (by intro e; simp only [Addr.mk.injEq] at e; omega)).trans (h.2 j hj).1

/-- What is asked of the comparison: in every world that a sort of the row passes through it tells whose key is greater. -/
structure CmpOK (g : Nat) (cb : Array Value) (cf : Nat → Nat → Int) (f : Nat → Int) (blk n : Nat) (w0 : World) : Prop where
  lt : ∀ x y, cf x y < 0 ↔ f y < f x
  call : ∀ w, Turn blk w0 w → ∀ x y : Nat, x < n → y < n → Calls Try.prog g (#[.int .i64 x, .int .i64 y] ++ cb) w fun e w' => e = .returned (.int .i64 (cf x y)) ∧ Grew w w'

/-- What a sort of the places from a up to b leaves. -/
def SortPost (f : Nat → Int) (blk n a b : Nat) (d : Nat → Nat) (w0 : World) (e : Ending) (w' : World) : Prop :=
  e = .returned (.tuple #[]) ∧ ∃ d', Moves a b d d' ∧ Sd f a b d' ∧ RowW w' blk n d' ∧ Turn blk w0 w'

/-- A cell of the row in every world that has grown. -/
theorem RowW.all {w : World} {blk n : Nat} {d : Nat → Nat} (h : RowW w blk n d) (k : Nat) (hk : k < n) (p : GrewTo w) : p.to.cell? ⟨blk, k, none⟩ = some (.int .i64 (d k)) := ((h.keep p.h).2 k hk).1

theorem CmpOK.all {g : Nat} {cb : Array Value} {cf : Nat → Nat → Int} {f : Nat → Int} {blk n : Nat} {w0 w : World} (h : CmpOK g cb cf f blk n w0) (hT : Turn blk w0 w) (x y : Nat) (hx : x < n) (hy : y < n) (p : GrewTo w) :
    Calls Try.prog g (#[.int .i64 x, .int .i64 y] ++ cb) p.to fun e w' => e = .returned (.int .i64 (cf x y)) ∧ Grew p.to w' := h.call _ (hT.grew p.h) x y hx hy

theorem Moves.lt {a b n : Nat} {d e : Nat → Nat} (h : Moves a b d e) (hb : b ≤ n) (hd : ∀ k, k < n → d k < n) : ∀ k, k < n → e k < n := by
  intro k hk
  by_cases c : a ≤ k ∧ k < b
  · obtain ⟨j, j1, j2, j3⟩ := h.within k c.1 c.2
    rw [j3]; exact hd j (by omega)
  · rw [h.out k c]; exact hd k hk
end Go.Proofs.Ytaipgcckafbgeaa.NumK
