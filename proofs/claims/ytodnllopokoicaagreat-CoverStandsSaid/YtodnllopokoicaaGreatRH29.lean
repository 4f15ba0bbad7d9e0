/- keep's TwinState: rows that stay behind a block that is written; its first part. -/
import Derived.Test.YtodnllopokoicaaGreatRH22
import Derived.Test.YtodnllopokoicaaGreatRH25
import Derived.Test.YtodnllopokoicaaGreatRH27
import Derived.Test.YtodnllopokoicaaGreatRH28
import Derived.Deep.RegionHeld3
import Derived.Deep.AppendLies
namespace Go.Proofs.YtodnllopokoicaaGreat.NumK
open Go.RowKit
set_option linter.unusedVariables false

theorem info_c4 : (Tryz.prog.info? 169).map (fun i => (i.zero, i.size, i.bytes)) = some (some (.agg #[.int .i64 0, .int .i64 0, .int .i64 0, .int .i64 0]), 4, 32) := by kernel_rfl
theorem info_b5 : (Tryz.prog.info? 171).map (fun i => (i.zero, i.size, i.bytes)) = some (some (.agg #[.int .i64 0, .int .i64 0, .int .i64 0, .int .i64 0, .int .i64 0]), 5, 40) := by kernel_rfl
/-- Everything stays but two blocks. -/
structure Past (ib rb : Nat) (w w' : World) : Prop where
  size : w.heap.size ≤ w'.heap.size
  block : ∀ k, k < w.heap.size → k ≠ ib → k ≠ rb → w'.heap[k]? = w.heap[k]?
theorem Past.refl (ib rb : Nat) (w : World) : Past ib rb w w := ⟨Nat.le_refl _, fun _ _ _ _ => rfl⟩
theorem Past.trans {ib rb : Nat} {w w1 w2 : World} (h : Past ib rb w w1) (g : Past ib rb w1 w2) : Past ib rb w w2 := ⟨Nat.le_trans h.size g.size, fun k hk a b => (g.block k (Nat.lt_of_lt_of_le hk h.size) a b).trans (h.block k hk a b)⟩
theorem Past.low {ib rb B : Nat} {w w1 w2 : World} (h : Past ib rb w w1) (g : Below B w1 w2) (hB : w.heap.size ≤ B) : Past ib rb w w2 := ⟨Nat.le_trans h.size g.size, fun k hk a b => (g.block k (Nat.lt_of_lt_of_le hk hB)).trans (h.block k hk a b)⟩
theorem Past.grew {ib rb : Nat} {w w1 w2 : World} (h : Past ib rb w w1) (g : Grew w1 w2) : Past ib rb w w2 := h.low g h.size
theorem Past.setI {ib rb : Nat} {w w1 : World} (h : Past ib rb w w1) (i : Nat) (v : Value) : Past ib rb w (w1.setCell ⟨ib, i, none⟩ v) :=
  ⟨by simp [World.setCell]; exact h.size, fun k hk a b => (Below.heap_setCell _ _ _ _ a).trans (h.block k hk a b)⟩
theorem Past.setR {ib rb : Nat} {w w1 : World} (h : Past ib rb w w1) (i : Nat) (v : Value) : Past ib rb w (w1.setCell ⟨rb, i, none⟩ v) :=
  ⟨by simp [World.setCell]; exact h.size, fun k hk a b => (Below.heap_setCell _ _ _ _ b).trans (h.block k hk a b)⟩
theorem Past.putR {ib rb : Nat} {w : World} : ∀ (vs : List Value) (o : Nat) (w1 : World), Past ib rb w w1 → Past ib rb w (putC w1 rb o vs)
  | [], _, _, h => h
  | v :: vs, o, w1, h => Past.putR vs (o + 1) _ (h.setR o v)
theorem Past.putI {ib rb : Nat} {w : World} : ∀ (vs : List Value) (o : Nat) (w1 : World), Past ib rb w w1 → Past ib rb w (putC w1 ib o vs)
  | [], _, _, h => h
  | v :: vs, o, w1, h => Past.putI vs (o + 1) _ (h.setI o v)
/-- A row's block is neither. -/
def Off (ib rb : Nat) (A : Option Addr) : Prop := ∀ x, A = some x → x.block ≠ ib ∧ x.block ≠ rb
theorem Off.none (ib rb : Nat) : Off ib rb none := fun _ h => by cases h
theorem RowE.past {α : Type} {E : En α} {ib rb : Nat} {w w' : World} {A : Option Addr} {n : Nat} {l : List α} (h : RowE E w A n l) (g : Past ib rb w w') (hA : Off ib rb A) : RowE E w' A n l :=
  ⟨h.1, fun hn => by
    obtain ⟨b, o, e, hb, hc⟩ := h.2 hn
    refine ⟨b, o, e, Nat.lt_of_lt_of_le hb g.size, fun j hj => ?_⟩
    obtain ⟨cs, h1, h2⟩ := hc j hj
    exact ⟨cs, h1, fun i hi => (World.cell?_of_block (w := w) (a := ⟨b, o + j * E.sp.size + i, .none⟩) (g.block b hb (hA _ e).1 (hA _ e).2)).trans (h2 i hi)⟩⟩
theorem off_of {α : Type} {E : En α} {ib rb : Nat} {w : World} {base : Nat} {t : TypeId} {A : Option Addr} {n c : Nat} {l : List α} (h : OwnE E w base t (.slice A n c) l) (h1 : ib < base ∨ w.heap.size ≤ ib) (h2 : rb < base ∨ w.heap.size ≤ rb) : Off ib rb A := fun x hx => by
  have := h.block x hx
  omega
/-- The rows of a twin's roll, book and ledger. -/
structure TwR (w5 : World) (ib rb : Nat) (r : Rl) (b : Bk) (lg : List Lg) (nl : Nat) (R1 R2 R3 G1 G2 H1 : Option Addr) (e1 e2 : Nat) : Prop where
  r : Rows3 w5 r R1 R2 R3 r.1.length r.2.1.length r.2.2.length
  b : InB w5 b G1 G2 b.2.1.length b.2.2.length e1 e2
  l : RowE enLg w5 H1 nl lg
  off : Off ib rb R1 ∧ Off ib rb R2 ∧ Off ib rb R3 ∧ Off ib rb G1 ∧ Off ib rb G2 ∧ Off ib rb H1
theorem TwR.past {w w' : World} {ib rb : Nat} {r : Rl} {b : Bk} {lg : List Lg} {nl : Nat} {R1 R2 R3 G1 G2 H1 : Option Addr} {e1 e2 : Nat} (h : TwR w ib rb r b lg nl R1 R2 R3 G1 G2 H1 e1 e2) (hp : Past ib rb w w') : TwR w' ib rb r b lg nl R1 R2 R3 G1 G2 H1 e1 e2 :=
  ⟨⟨h.r.m.past hp h.off.1, h.r.i.past hp h.off.2.1, h.r.h.past hp h.off.2.2.1⟩, ⟨h.b.t.past hp h.off.2.2.2.1, h.b.p.past hp h.off.2.2.2.2.1, h.b.k1, h.b.k2, h.b.l1, h.b.l2⟩, h.l.past hp h.off.2.2.2.2.2, h.off⟩
/-- Another row of the twin's. -/
def RowO {α : Type} (E : En α) (w : World) (ib rb : Nat) (A : Option Addr) (n : Nat) (l : List α) : Prop := RowE E w A n l ∧ Off ib rb A
theorem RowO.past {α : Type} {E : En α} {w w' : World} {ib rb : Nat} {A : Option Addr} {n : Nat} {l : List α} (h : RowO E w ib rb A n l) (hp : Past ib rb w w') : RowO E w' ib rb A n l := ⟨h.1.past hp h.2, h.2⟩
/-- Behind its first step: the block that will be handed on (ib) and the rows. -/
structure TwA (w5 w0 : World) (ib rb : Nat) (t1 t2 t3 last : Int) (r : Rl) (b : Bk) (lg : List Lg) (nl : Nat) (R1 R2 R3 G1 G2 H1 : Option Addr) (d1 d2 d3 e1 e2 f1 : Nat) : Prop where
  o : OwnC w5 ib [.int .i64 t1, .int .i64 t2, .int .i64 t3, .slice R1 r.1.length d1, .slice R2 r.2.1.length d2, .slice R3 r.2.2.length d3, .int .i64 b.1, .slice G1 b.2.1.length e1, .slice G2 b.2.2.length e2, .int .i64 last, .slice H1 nl f1, .slice none 0 0, .slice none 0 0, .slice none 0 0, .slice none 0 0]
  r : TwR w5 ib rb r b lg nl R1 R2 R3 G1 G2 H1 e1 e2
  g : Grew w0 w5
  ne : w0.heap.size ≤ ib ∧ rb ≠ ib
def Btw (lo hi : Nat) (A : Option Addr) : Prop := ∀ x, A = some x → lo ≤ x.block ∧ x.block < hi
theorem Btw.mono {lo hi hi2 : Nat} {A : Option Addr} (h : Btw lo hi A) (hh : hi ≤ hi2) : Btw lo hi2 A := fun x hx => ⟨(h x hx).1, Nat.lt_of_lt_of_le (h x hx).2 hh⟩
theorem Btw.off {lo hi ib rb : Nat} {A : Option Addr} (h : Btw lo hi A) (h1 : ib < lo ∨ hi ≤ ib) (h2 : rb < lo ∨ hi ≤ rb) : Off ib rb A := fun x hx => by have := h x hx; omega
abbrev Btw1 (lo hi : Nat) (A : Option Addr) : Prop := Btw lo hi A
def Btw2 (lo hi : Nat) (A B : Option Addr) : Prop := Btw lo hi A ∧ Btw lo hi B
def Btw3 (lo hi : Nat) (A B C : Option Addr) : Prop := Btw lo hi A ∧ Btw lo hi B ∧ Btw lo hi C
theorem Btw2.mono {lo hi hi2 : Nat} {A B : Option Addr} (h : Btw2 lo hi A B) (hh : hi ≤ hi2) : Btw2 lo hi2 A B := ⟨h.1.mono hh, h.2.mono hh⟩
theorem Btw3.mono {lo hi hi2 : Nat} {A B C : Option Addr} (h : Btw3 lo hi A B C) (hh : hi ≤ hi2) : Btw3 lo hi2 A B C := ⟨h.1.mono hh, h.2.1.mono hh, h.2.2.mono hh⟩
theorem TwA.fin {v0 w0 : World} {bx rb : Nat} {t1 t2 t3 last : Int} {r : Rl} {b : Bk} {lg : List Lg} {nl : Nat} {R1 R2 R3 G1 G2 H1 : Option Addr} {d1 d2 d3 e1 e2 f1 : Nat} (hx : OwnC v0 bx [.int .i64 0, .int .i64 0, .int .i64 0, .slice none 0 0, .slice none 0 0, .slice none 0 0, .int .i64 0, .slice none 0 0, .slice none 0 0, .int .i64 0, .slice none 0 0, .slice none 0 0, .slice none 0 0, .slice none 0 0, .slice none 0 0]) (hr : Rows3 v0 r R1 R2 R3 r.1.length r.2.1.length r.2.2.length) (hb : InB v0 b G1 G2 b.2.1.length b.2.2.length e1 e2) (hl : RowE enLg v0 H1 nl lg)
    (f1' : Off bx rb R1 ∧ Off bx rb R2 ∧ Off bx rb R3) (f2' : Off bx rb G1 ∧ Off bx rb G2) (f3' : Off bx rb H1) (g : Grew w0 v0) (h1 : w0.heap.size ≤ bx) (h2 : rb < w0.heap.size) :
    TwA (putC v0 bx 0 [.int .i64 t1, .int .i64 t2, .int .i64 t3, .slice R1 r.1.length d1, .slice R2 r.2.1.length d2, .slice R3 r.2.2.length d3, .int .i64 b.1, .slice G1 b.2.1.length e1, .slice G2 b.2.2.length e2, .int .i64 last, .slice H1 nl f1, .slice none 0 0, .slice none 0 0, .slice none 0 0, .slice none 0 0]) w0 bx rb t1 t2 t3 last r b lg nl R1 R2 R3 G1 G2 H1 d1 d2 d3 e1 e2 f1 :=
  ⟨hx.all [.int .i64 t1, .int .i64 t2, .int .i64 t3, .slice R1 r.1.length d1, .slice R2 r.2.1.length d2, .slice R3 r.2.2.length d3, .int .i64 b.1, .slice G1 b.2.1.length e1, .slice G2 b.2.2.length e2, .int .i64 last, .slice H1 nl f1, .slice none 0 0, .slice none 0 0, .slice none 0 0, .slice none 0 0] rfl, TwR.past ⟨hr, hb, hl, f1'.1, f1'.2.1, f1'.2.2, f2'.1, f2'.2, f3'⟩ (Past.putI [.int .i64 t1, .int .i64 t2, .int .i64 t3, .slice R1 r.1.length d1, .slice R2 r.2.1.length d2, .slice R3 r.2.2.length d3, .int .i64 b.1, .slice G1 b.2.1.length e1, .slice G2 b.2.2.length e2, .int .i64 last, .slice H1 nl f1, .slice none 0 0, .slice none 0 0, .slice none 0 0, .slice none 0 0] 0 _ (Past.refl bx rb v0)), grew_put bx h1 [.int .i64 t1, .int .i64 t2, .int .i64 t3, .slice R1 r.1.length d1, .slice R2 r.2.1.length d2, .slice R3 r.2.2.length d3, .int .i64 b.1, .slice G1 b.2.1.length e1, .slice G2 b.2.2.length e2, .int .i64 last, .slice H1 nl f1, .slice none 0 0, .slice none 0 0, .slice none 0 0, .slice none 0 0] 0 _ g, ⟨h1, by omega⟩⟩
theorem z15 {w : World} {b : Nat} (h : OwnC w b [.int .i64 0, .int .i64 0, .int .i64 0, .slice none 0 0, .slice none 0 0, .slice none 0 0, .int .i64 0, .slice none 0 0, .slice none 0 0, .int .i64 0, .slice none 0 0, .slice none 0 0, .slice none 0 0, .slice none 0 0, .slice none 0 0]) : w.cell? ⟨b, 0, none⟩ = some (.int .i64 0) ∧ w.frozen? ⟨b, 0, none⟩ = false ∧ w.cell? ⟨b, 1, none⟩ = some (.int .i64 0) ∧ w.frozen? ⟨b, 1, none⟩ = false ∧ w.cell? ⟨b, 2, none⟩ = some (.int .i64 0) ∧ w.frozen? ⟨b, 2, none⟩ = false ∧ w.cell? ⟨b, 3, none⟩ = some (.slice none 0 0) ∧ w.frozen? ⟨b, 3, none⟩ = false ∧ w.cell? ⟨b, 4, none⟩ = some (.slice none 0 0) ∧ w.frozen? ⟨b, 4, none⟩ = false ∧ w.cell? ⟨b, 5, none⟩ = some (.slice none 0 0) ∧ w.frozen? ⟨b, 5, none⟩ = false ∧ w.cell? ⟨b, 6, none⟩ = some (.int .i64 0) ∧ w.frozen? ⟨b, 6, none⟩ = false ∧ w.cell? ⟨b, 7, none⟩ = some (.slice none 0 0) ∧ w.frozen? ⟨b, 7, none⟩ = false ∧ w.cell? ⟨b, 8, none⟩ = some (.slice none 0 0) ∧ w.frozen? ⟨b, 8, none⟩ = false ∧ w.cell? ⟨b, 9, none⟩ = some (.int .i64 0) ∧ w.frozen? ⟨b, 9, none⟩ = false ∧ w.cell? ⟨b, 10, none⟩ = some (.slice none 0 0) ∧ w.frozen? ⟨b, 10, none⟩ = false ∧ w.cell? ⟨b, 11, none⟩ = some (.slice none 0 0) ∧ w.frozen? ⟨b, 11, none⟩ = false ∧ w.cell? ⟨b, 12, none⟩ = some (.slice none 0 0) ∧ w.frozen? ⟨b, 12, none⟩ = false ∧ w.cell? ⟨b, 13, none⟩ = some (.slice none 0 0) ∧ w.frozen? ⟨b, 13, none⟩ = false ∧ w.cell? ⟨b, 14, none⟩ = some (.slice none 0 0) ∧ w.frozen? ⟨b, 14, none⟩ = false :=
  ⟨h.at 0 _ rfl, h.fr 0 (by simp), h.at 1 _ rfl, h.fr 1 (by simp), h.at 2 _ rfl, h.fr 2 (by simp), h.at 3 _ rfl, h.fr 3 (by simp), h.at 4 _ rfl, h.fr 4 (by simp), h.at 5 _ rfl, h.fr 5 (by simp), h.at 6 _ rfl, h.fr 6 (by simp), h.at 7 _ rfl, h.fr 7 (by simp), h.at 8 _ rfl, h.fr 8 (by simp), h.at 9 _ rfl, h.fr 9 (by simp), h.at 10 _ rfl, h.fr 10 (by simp), h.at 11 _ rfl, h.fr 11 (by simp), h.at 12 _ rfl, h.fr 12 (by simp), h.at 13 _ rfl, h.fr 13 (by simp), h.at 14 _ rfl, h.fr 14 (by simp)⟩
/-! ### seats -/
abbrev Se7 := Int × Int × Int × Int × Int × (Option Addr × Nat × Nat) × (Option Addr × Nat × Nat)
abbrev se0 : Se7 := (0, 0, 0, 0, 0, (none, 0, 0), (none, 0, 0))
def enSe : En Se7 := ⟨7, fun x => [.int .i64 x.1, .int .i64 x.2.1, .int .i64 x.2.2.1, .int .i64 x.2.2.2.1, .int .i64 x.2.2.2.2.1, .slice x.2.2.2.2.2.1.1 x.2.2.2.2.2.1.2.1 x.2.2.2.2.2.1.2.2, .slice x.2.2.2.2.2.2.1 x.2.2.2.2.2.2.2.1 x.2.2.2.2.2.2.2.2], fun _ => rfl, fun a v hv => by
  simp at hv; rcases hv with rfl | rfl | rfl | rfl | rfl | rfl | rfl <;> rfl, by decide⟩
theorem info_se : (Tryz.prog.info? 65).map (fun i => (i.zero, i.size, i.bytes)) = some (some (.agg #[.int .i64 0, .int .i64 0, .int .i64 0, .int .i64 0, .int .i64 0, .slice none 0 0, .slice none 0 0]), 7, 88) := by kernel_rfl
def CSe (w : World) (b p : Nat) (x : Se7) : Prop := w.cell? ⟨b, p, none⟩ = some (.int .i64 x.1) ∧ w.cell? ⟨b, p + 1, none⟩ = some (.int .i64 x.2.1) ∧ w.cell? ⟨b, p + 2, none⟩ = some (.int .i64 x.2.2.1) ∧ w.cell? ⟨b, p + 3, none⟩ = some (.int .i64 x.2.2.2.1) ∧ w.cell? ⟨b, p + 4, none⟩ = some (.int .i64 x.2.2.2.2.1) ∧ w.cell? ⟨b, p + 5, none⟩ = some (.slice x.2.2.2.2.2.1.1 x.2.2.2.2.2.1.2.1 x.2.2.2.2.2.1.2.2) ∧ w.cell? ⟨b, p + 6, none⟩ = some (.slice x.2.2.2.2.2.2.1 x.2.2.2.2.2.2.2.1 x.2.2.2.2.2.2.2.2)
theorem RowE.rSe {w : World} {n : Nat} {l : List Se7} {A : Option Addr} (h : RowE enSe w A n l) {j : Nat} (hj : j < n) : ∃ b o, A = some ⟨b, o, none⟩ ∧ b < w.heap.size ∧ ∀ j, j < n → CSe w b (o + j * 7) (l.getD j se0) := by
  have hl := h.len
  obtain ⟨b, o, e, hb, hc⟩ := h.at (by omega)
  refine ⟨b, o, e, hb, fun j hj => ?_⟩
  have hj' : j < l.length := by omega
  rw [getD_at l se0 j hj']
  exact ⟨hc j hj' 0 (by decide), hc j hj' 1 (by decide), hc j hj' 2 (by decide), hc j hj' 3 (by decide), hc j hj' 4 (by decide), hc j hj' 5 (by decide), hc j hj' 6 (by decide)⟩
/-- What a seat's rows hold. -/
structure SeatI (w : World) (x : Se7) (ds : List D3) (fs : List F8) : Prop where
  d : RowE enD3 w x.2.2.2.2.2.1.1 x.2.2.2.2.2.1.2.1 ds
  f : RowE enF8 w x.2.2.2.2.2.2.1 x.2.2.2.2.2.2.2.1 fs
  dk : x.2.2.2.2.2.1.1 = none → x.2.2.2.2.2.1.2.2 = 0
  fk : x.2.2.2.2.2.2.1 = none → x.2.2.2.2.2.2.2.2 = 0
  dn : x.2.2.2.2.2.1.2.1 * 24 ≤ 140737488355328
  fn : x.2.2.2.2.2.2.2.1 * 64 ≤ 140737488355328
theorem SeatI.keep {w w' : World} {x : Se7} {ds : List D3} {fs : List F8} (h : SeatI w x ds fs) (g : Grew w w') : SeatI w' x ds fs := ⟨h.d.keep g, h.f.keep g, h.dk, h.fk, h.dn, h.fn⟩
/-- A seat's twin, beside the row (v) in which it lies. -/
structure TwS (w : World) (pb : Nat) (v : Value) (x y : Se7) (ds : List D3) (fs : List F8) : Prop where
  i : x.1 = y.1 ∧ x.2.1 = y.2.1 ∧ x.2.2.1 = y.2.2.1 ∧ x.2.2.2.1 = y.2.2.2.1 ∧ x.2.2.2.2.1 = y.2.2.2.2.1 ∧ x.2.2.2.2.2.1.2.1 = y.2.2.2.2.2.1.2.1 ∧ x.2.2.2.2.2.2.2.1 = y.2.2.2.2.2.2.2.1
  d : RowE enD3 w x.2.2.2.2.2.1.1 x.2.2.2.2.2.1.2.1 ds
  f : RowE enF8 w x.2.2.2.2.2.2.1 x.2.2.2.2.2.2.2.1 fs
  ad : ∀ a, x.2.2.2.2.2.1.1 = some a → pb ≤ a.block ∧ a.block < w.heap.size ∧ v.ownBlock ≠ some a.block
  af : ∀ a, x.2.2.2.2.2.2.1 = some a → pb ≤ a.block ∧ a.block < w.heap.size ∧ v.ownBlock ≠ some a.block

/-- A row whose block is the same. -/
theorem RowE.blk {α : Type} {E : En α} {w w' : World} {A : Option Addr} {n : Nat} {l : List α} (h : RowE E w A n l) (hz : w.heap.size ≤ w'.heap.size) (hA : ∀ a, A = some a → a.block < w.heap.size → w'.heap[a.block]? = w.heap[a.block]?) : RowE E w' A n l :=
  ⟨h.1, fun hn => by
    obtain ⟨b, o, e, hb, hc⟩ := h.2 hn
    refine ⟨b, o, e, Nat.lt_of_lt_of_le hb hz, fun j hj => ?_⟩
    obtain ⟨cs, h1, h2⟩ := hc j hj
    exact ⟨cs, h1, fun i hi => (World.cell?_of_block (w := w) (a := ⟨b, o + j * E.sp.size + i, .none⟩) (show w'.heap[b]? = w.heap[b]? from hA _ e hb)).trans (h2 i hi)⟩⟩
theorem TwS.step {w0 w2 w3 : World} {pb bx g n c : Nat} {v : Value} {x y : Se7} {ds : List D3} {fs : List F8} (h : TwS w0 pb v x y ds fs) (hg : Grew w0 w2) (hgr : w2.grownBy w3 v.ownBlock) (hl : v.ownBlock = some g ∨ g = w2.heap.size) (hb : bx < pb) (u : Value) :
    TwS (w3.setCell ⟨bx, 14, none⟩ u) pb (.slice (some ⟨g, 0, none⟩) n c) x y ds fs := by
  have hz : w0.heap.size ≤ (w3.setCell ⟨bx, 14, none⟩ u).heap.size := by
    have h1 := hg.size; have h2 := hgr.size; simp [World.setCell]; omega
  have key : ∀ a : Addr, pb ≤ a.block → a.block < w0.heap.size → v.ownBlock ≠ some a.block → (w3.setCell ⟨bx, 14, none⟩ u).heap[a.block]? = w0.heap[a.block]? := fun a h1 h2 h3 => by
    have hne : a.block ≠ bx := by omega
    rw [Below.heap_setCell _ _ _ _ hne, hgr.block a.block (Nat.lt_of_lt_of_le h2 hg.size) (fun e => h3 e.symm), hg.block a.block h2]
  have own : ∀ a : Addr, a.block < w0.heap.size → v.ownBlock ≠ some a.block → (Value.slice (some ⟨g, 0, none⟩) n c).ownBlock ≠ some a.block := fun a h2 h3 e => by
    have e : some g = some a.block := e
    have e2 : g = a.block := Option.some.inj e
    rcases hl with h4 | h4
    · exact h3 (by rw [h4, e2])
    · have := hg.size; omega
  exact ⟨h.i, h.d.blk hz (fun a ha _ => key a (h.ad a ha).1 (h.ad a ha).2.1 (h.ad a ha).2.2), h.f.blk hz (fun a ha _ => key a (h.af a ha).1 (h.af a ha).2.1 (h.af a ha).2.2),
    fun a ha => ⟨(h.ad a ha).1, Nat.lt_of_lt_of_le (h.ad a ha).2.1 hz, own a (h.ad a ha).2.1 (h.ad a ha).2.2⟩, fun a ha => ⟨(h.af a ha).1, Nat.lt_of_lt_of_le (h.af a ha).2.1 hz, own a (h.af a ha).2.1 (h.af a ha).2.2⟩⟩
/-- What lies below stays, one block aside. -/
structure Low (pb bx : Nat) (w w' : World) : Prop where
  size : w.heap.size ≤ w'.heap.size
  block : ∀ k, k < pb → k ≠ bx → w'.heap[k]? = w.heap[k]?
theorem Low.grew {pb bx : Nat} {w w' : World} (g : Grew w w') (h : pb ≤ w.heap.size) : Low pb bx w w' := ⟨g.size, fun k hk _ => g.block k (Nat.lt_of_lt_of_le hk h)⟩
theorem Low.below {pb bx : Nat} {w w1 w2 : World} (h : Low pb bx w w1) (g : Below pb w1 w2) : Low pb bx w w2 := ⟨Nat.le_trans h.size g.size, fun k hk a => (g.block k hk).trans (h.block k hk a)⟩
theorem Low.set {pb bx : Nat} {w w1 : World} (h : Low pb bx w w1) (i : Nat) (u : Value) : Low pb bx w (w1.setCell ⟨bx, i, none⟩ u) := ⟨by simp [World.setCell]; exact h.size, fun k hk a => (Below.heap_setCell _ _ _ _ a).trans (h.block k hk a)⟩
theorem OwnC.lowC {pb bx : Nat} {w w' : World} {b : Nat} {cs : List Value} (h : OwnC w b cs) (g : Low pb bx w w') (h1 : b < pb) (h2 : b ≠ bx) : OwnC w' b cs := h.same (g.block b h1 h2) g.size
theorem step_append_L {α : Type} {E : En α} {ops : Array Oper} {o : Oper} {a : Act} {w : World} {K : Act → World → Prop} {Q : Exit → Act → World → Prop} {X : Prop} (hgd : o.guard = none) (s x : Operand) (T t : TypeId) (z : Value) (by' : Nat)
    (ho : o.op = .call { callee := .builtin .append, args := #[s, x], argTypes := #[T, T] })
    (hT : Tryz.prog.underlying T = some (.slice t)) (hi : (Tryz.prog.info? t).map (fun i => (i.zero, i.size, i.bytes)) = some (some z, E.size, by')) (hz : z.cells.size = E.size)
    (base : Nat) (v : Value) (l : List α) (hs : a.eval s = v) (hown : OwnE E w base t v l)
    (ad : Addr) (c : Nat) (y : α) (hx : a.eval x = .slice (some ad) 1 c) (hR : RowE E w (some ad) 1 [y])
    (hm : l.length + 1 ≤ maxLen) (hlim : (l.length + 1) * by' ≤ 140737488355328) (hbase : base ≤ w.heap.size)
    (h : ∀ g cap w', OwnE E w' base t (.slice (some ⟨g, 0, none⟩) (l.length + 1) cap) (l ++ [y]) → Below base w w' → w.grownBy w' v.ownBlock → (v.ownBlock = some g ∨ g = w.heap.size) → K (a.put o.dst (.slice (some ⟨g, 0, none⟩) (l.length + 1) cap)) w') : if Region.wanted o (yielded ops a.tmps) = true then Oper.wp Tryz.prog o a w K Q else X := by
  obtain ⟨i, hi, hz0, hz1, hz2⟩ := info_parts hi
  refine step_append_lies w hgd s x T ho base t i z E.size by' hT hi hz0 hz1 hz2 hz E.pos v l.length _ hs hown ad 1 c (E.cs y) hx (by rw [E.len, Nat.one_mul]) (fun j u hu => ?_) (E.one y) (by omega) hm hlim hbase _ rfl fun g cap w' h2 h3 h4 h5 => h g cap w' ?_ ((Below.refl base w).grown h3 hbase fun k hk => (hown.lt k hk).1) h3 h4
  · obtain ⟨b, o2, he, hb, hc⟩ := hR.at (by simp)
    cases he
    have hj : j < E.size := by
      rcases Nat.lt_or_ge j (E.cs y).length with h1 | h1
      · rwa [E.len] at h1
      · rw [List.getElem?_eq_none h1] at hu; cases hu
    have e1 := hc 0 (by simp) j hj
    rw [addr_add, ← hu]
    simpa using e1
  · show w'.ownsRow base t E.size _ (l ++ [y]).length ((l ++ [y]).flatMap E.cs)
    rw [List.length_append, List.flatMap_append]
    simpa using h2
/-- What a state's twin is. -/
structure TwF (w' : World) (r : Rl) (b : Bk) (lg : List Lg) (nl : Nat) (pl : List Pg) (np : Nat) (cl4 : List C4) (u1 : Nat) (bd5 : List B5) (u2 u3 : Nat) (ys : List Se7) (zs : List (List D3 × List F8)) (R1 R2 R3 G1 G2 H1 P2 Q4 Q5 Q6 : Option Addr) (e1 e2 : Nat) (xs : List Se7) : Prop where
  r : Rows3 w' r R1 R2 R3 r.1.length r.2.1.length r.2.2.length
  b : InB w' b G1 G2 b.2.1.length b.2.2.length e1 e2
  l : RowE enLg w' H1 nl lg
  p : RowE enPg w' P2 np pl
  q1 : RowE enC4 w' Q4 u1 cl4
  q2 : RowE enB5 w' Q5 u2 bd5
  q3 : RowE enSe w' Q6 u3 xs
  tw : ∀ i, i < u3 → ((xs.getD i se0).1 = (ys.getD i se0).1 ∧ (xs.getD i se0).2.1 = (ys.getD i se0).2.1 ∧ (xs.getD i se0).2.2.1 = (ys.getD i se0).2.2.1 ∧ (xs.getD i se0).2.2.2.1 = (ys.getD i se0).2.2.2.1 ∧ (xs.getD i se0).2.2.2.2.1 = (ys.getD i se0).2.2.2.2.1 ∧ (xs.getD i se0).2.2.2.2.2.1.2.1 = (ys.getD i se0).2.2.2.2.2.1.2.1 ∧ (xs.getD i se0).2.2.2.2.2.2.2.1 = (ys.getD i se0).2.2.2.2.2.2.2.1) ∧ RowE enD3 w' (xs.getD i se0).2.2.2.2.2.1.1 (xs.getD i se0).2.2.2.2.2.1.2.1 (zs.getD i ([], [])).1 ∧ RowE enF8 w' (xs.getD i se0).2.2.2.2.2.2.1 (xs.getD i se0).2.2.2.2.2.2.2.1 (zs.getD i ([], [])).2
def TwPost (t1 t2 t3 last : Int) (r : Rl) (b : Bk) (lg : List Lg) (nl : Nat) (pl : List Pg) (np : Nat) (cl4 : List C4) (u1 : Nat) (bd5 : List B5) (u2 u3 : Nat) (ys : List Se7) (zs : List (List D3 × List F8)) (w : World) (e : Ending) (w' : World) : Prop :=
  ∃ (R1 R2 R3 G1 G2 H1 P2 Q4 Q5 Q6 : Option Addr) (d1 d2 d3 e1 e2 f1 f2 f3 f4 f5 : Nat) (xs : List Se7), e = .returned (stV t1 t2 t3 b.1 last R1 R2 R3 G1 G2 H1 P2 Q4 Q5 Q6 r.1.length r.2.1.length r.2.2.length d1 d2 d3 b.2.1.length b.2.2.length e1 e2 nl f1 np f2 u1 f3 u2 f4 u3 f5) ∧ TwF w' r b lg nl pl np cl4 u1 bd5 u2 u3 ys zs R1 R2 R3 G1 G2 H1 P2 Q4 Q5 Q6 e1 e2 xs ∧ Grew w w'
theorem TwS.pastR {w w' : World} {ib rb pb : Nat} {v : Value} {x y : Se7} {ds : List D3} {fs : List F8} (h : TwS w pb v x y ds fs) (hp : Past ib rb w w') (h1 : ib < pb) (h2 : rb < pb) : RowE enD3 w' x.2.2.2.2.2.1.1 x.2.2.2.2.2.1.2.1 ds ∧ RowE enF8 w' x.2.2.2.2.2.2.1 x.2.2.2.2.2.2.2.1 fs :=
  ⟨h.d.past hp (fun a ha => by have := (h.ad a ha).1; omega), h.f.past hp (fun a ha => by have := (h.af a ha).1; omega)⟩
set_option maxRecDepth 100000 in
set_option maxHeartbeats 16000000 in
theorem twinState_any (t1 t2 t3 last : Int) (A1 A2 A3 E1 E2 L P Q1 Q2 Q3 : Option Addr) (n1 n2 n3 c1 c2 c3 m1 m2 k1 k2 nl cl np cp u1 v1 u2 v2 u3 v3 : Nat) (r : Rl) (b : Bk) (lg : List Lg) (w : World)
    (h3 : In3 w r A1 A2 A3 n1 n2 n3 c1 c2 c3) (hb : InB w b E1 E2 m1 m2 k1 k2) (h : RowE enLg w L nl lg) (hL : L = none → cl = 0) (hn : n1 ≤ 1000 ∧ n2 ≤ 1000 ∧ n3 ≤ 1000) (hm : m1 ≤ 1000 ∧ m2 ≤ 1000) (hnl : nl ≤ 1000) (pl : List Pg) (cl4 : List C4) (bd5 : List B5) (hpl : RowE enPg w P np pl) (hP : P = none → cp = 0) (hcl : RowE enC4 w Q1 u1 cl4) (hQ1 : Q1 = none → v1 = 0) (hbd : RowE enB5 w Q2 u2 bd5) (hQ2 : Q2 = none → v2 = 0) (hu : np ≤ 1000 ∧ u1 ≤ 1000 ∧ u2 ≤ 1000 ∧ u3 ≤ 1000) (ys : List Se7) (zs : List (List D3 × List F8)) (hse : RowE enSe w Q3 u3 ys) (hsi : ∀ i, i < u3 → SeatI w (ys.getD i se0) (zs.getD i ([], [])).1 (zs.getD i ([], [])).2) :
    Calls Tryz.prog 6 #[stV t1 t2 t3 b.1 last A1 A2 A3 E1 E2 L P Q1 Q2 Q3 n1 n2 n3 c1 c2 c3 m1 m2 k1 k2 nl cl np cp u1 v1 u2 v2 u3 v3] w (TwPost t1 t2 t3 last r b lg nl pl np cl4 u1 bd5 u2 u3 ys zs w) := by
  have HLN0 := h.len
  have HPA := Lib.hid hpl
  have HPAL := Lib.hid hpl.len
  have HQA := Lib.hid hcl
  have HQAL := Lib.hid hcl.len
  have HBA := Lib.hid hbd
  have HBAL := Lib.hid hbd.len
  have HSA := Lib.hid hse
  have HSI := Lib.hid hsi
  clear hpl hcl hbd hse hsi
  have HWS0 : Hid (w.heap.size ≤ w.heap.size) := Nat.le_refl _
  have C1 := fun w' (g : Grew w w') => twinRoll_any r A1 A2 A3 n1 n2 n3 c1 c2 c3 w' (h3.keep g) (by omega)
  have C2 := fun w' (g : Grew w w') => twinBook_any b E1 E2 m1 m2 k1 k2 w' (hb.keep g) (by omega)
  have C3 := fun w' (g : Grew w w') => twinLedger_any last L nl cl lg w' (h.keep g) hL (by omega)
  unfold RollQ at C1
  unfold BookP at C2
  dsimp only [stV, rlV, vBk, ldV] at *
  have HX0 : Hid (OwnC ((w.alloc (.cells #[.int .i64 t1, .int .i64 t2, .int .i64 t3, .slice A1 n1 c1, .slice A2 n2 c2, .slice A3 n3 c3, .int .i64 b.1, .slice E1 m1 k1, .slice E2 m2 k2, .int .i64 last, .slice L nl cl, .slice P np cp, .slice Q1 u1 v1, .slice Q2 u2 v2, .slice Q3 u3 v3] 41)).alloc (.cells #[.int .i64 0, .int .i64 0, .int .i64 0, .slice none 0 0, .slice none 0 0, .slice none 0 0, .int .i64 0, .slice none 0 0, .slice none 0 0, .int .i64 0, .slice none 0 0, .slice none 0 0, .slice none 0 0, .slice none 0 0, .slice none 0 0] 41)) w.heap.size [.int .i64 t1, .int .i64 t2, .int .i64 t3, .slice A1 n1 c1, .slice A2 n2 c2, .slice A3 n3 c3, .int .i64 b.1, .slice E1 m1 k1, .slice E2 m2 k2, .int .i64 last, .slice L nl cl, .slice P np cp, .slice Q1 u1 v1, .slice Q2 u2 v2, .slice Q3 u3 v3]) := (OwnC.new w [.int .i64 t1, .int .i64 t2, .int .i64 t3, .slice A1 n1 c1, .slice A2 n2 c2, .slice A3 n3 c3, .int .i64 b.1, .slice E1 m1 k1, .slice E2 m2 k2, .int .i64 last, .slice L nl cl, .slice P np cp, .slice Q1 u1 v1, .slice Q2 u2 v2, .slice Q3 u3 v3] _ _ rfl).keep (grew_alloc _ _ _)
  have HZ0 : Hid (OwnC ((w.alloc (.cells #[.int .i64 t1, .int .i64 t2, .int .i64 t3, .slice A1 n1 c1, .slice A2 n2 c2, .slice A3 n3 c3, .int .i64 b.1, .slice E1 m1 k1, .slice E2 m2 k2, .int .i64 last, .slice L nl cl, .slice P np cp, .slice Q1 u1 v1, .slice Q2 u2 v2, .slice Q3 u3 v3] 41)).alloc (.cells #[.int .i64 0, .int .i64 0, .int .i64 0, .slice none 0 0, .slice none 0 0, .slice none 0 0, .int .i64 0, .slice none 0 0, .slice none 0 0, .int .i64 0, .slice none 0 0, .slice none 0 0, .slice none 0 0, .slice none 0 0, .slice none 0 0] 41)) (w.heap.size + 1) [.int .i64 0, .int .i64 0, .int .i64 0, .slice none 0 0, .slice none 0 0, .slice none 0 0, .int .i64 0, .slice none 0 0, .slice none 0 0, .int .i64 0, .slice none 0 0, .slice none 0 0, .slice none 0 0, .slice none 0 0, .slice none 0 0]) := OwnC.new _ [.int .i64 0, .int .i64 0, .int .i64 0, .slice none 0 0, .slice none 0 0, .slice none 0 0, .int .i64 0, .slice none 0 0, .slice none 0 0, .int .i64 0, .slice none 0 0, .slice none 0 0, .slice none 0 0, .slice none 0 0, .slice none 0 0] _ _ (by simp)
  have HG0 : Hid (Grew w ((w.alloc (.cells #[.int .i64 t1, .int .i64 t2, .int .i64 t3, .slice A1 n1 c1, .slice A2 n2 c2, .slice A3 n3 c3, .int .i64 b.1, .slice E1 m1 k1, .slice E2 m2 k2, .int .i64 last, .slice L nl cl, .slice P np cp, .slice Q1 u1 v1, .slice Q2 u2 v2, .slice Q3 u3 v3] 41)).alloc (.cells #[.int .i64 0, .int .i64 0, .int .i64 0, .slice none 0 0, .slice none 0 0, .slice none 0 0, .int .i64 0, .slice none 0 0, .slice none 0 0, .int .i64 0, .slice none 0 0, .slice none 0 0, .slice none 0 0, .slice none 0 0, .slice none 0 0] 41))) := grew_trans (grew_alloc _ _ _) (grew_alloc _ _ _)
  go_enter Tryz.func6, Tryz.ntmps6
  go_upto_region 1 with (fail)
  generalize ((w.alloc (.cells #[.int .i64 t1, .int .i64 t2, .int .i64 t3, .slice A1 n1 c1, .slice A2 n2 c2, .slice A3 n3 c3, .int .i64 b.1, .slice E1 m1 k1, .slice E2 m2 k2, .int .i64 last, .slice L nl cl, .slice P np cp, .slice Q1 u1 v1, .slice Q2 u2 v2, .slice Q3 u3 v3] 41)).alloc (.cells #[.int .i64 0, .int .i64 0, .int .i64 0, .slice none 0 0, .slice none 0 0, .slice none 0 0, .int .i64 0, .slice none 0 0, .slice none 0 0, .int .i64 0, .slice none 0 0, .slice none 0 0, .slice none 0 0, .slice none 0 0, .slice none 0 0] 41)) = w0 at *
  have D1 := fun w' (g : Grew w0 w') => C1 w' (grew_trans HG0.out g)
  have D2 := fun w' (g : Grew w0 w') => C2 w' (grew_trans HG0.out g)
  have D3' := fun w' (g : Grew w0 w') => C3 w' (grew_trans HG0.out g)
  clear C1 C2 C3
  have HLN := Lib.hid HLN0
  have HRB : Hid (w.heap.size + 1 < w0.heap.size) := HZ0.out.lt
  go_cut [3] from 5 (fun s3 wx => ∃ (bx : Nat) (R1 R2 R3 G1 G2 H1 : Option Addr) (d1 d2 d3 e1 e2 f1 : Nat), s3 = .pointer (some ⟨bx, 0, none⟩) ∧ Hid (TwA wx w0 bx (w.heap.size + 1) t1 t2 t3 last r b lg nl R1 R2 R3 G1 G2 H1 d1 d2 d3 e1 e2 f1))
  case first =>
    refine wp_region_noPanic ?_
    refine wp_region_held_drew (S := fun w' => Grew w0 w') (by kernel_rfl) (grew_drew (grew_refl _)) (fun hHeld => ?_)
    (refine wpAnyH_take (i := 0) (oi := { dst := some 5, op := Op.fieldAddr 41 (Operand.tmp 1) 0, type := 0, pos := "twin.go:76", after := #[], guard := none }) (v := ?_) rfl (by kernel_rfl) (by kernel_rfl) (by kernel_rfl) (fun _ _ _ h => h) (Or.inl ⟨by rfl, ?_⟩) (by assumption) ?_; rotate_left; · (intro w hSw; (try dsimp only at hSw); skip; go_simp; (first | done | with_reducible rfl)))
    try simp only [Act.put, List.setIfInBounds_toArray, List.set_cons_zero, List.set_cons_succ]
    (refine wpAnyH_take (i := 1) (oi := { dst := some 6, op := Op.load 23 (Operand.tmp 5), type := 23, pos := "twin.go:76", after := #[{ on := 0, ground := Ground.data }], guard := none }) (v := ?_) rfl (by kernel_rfl) (by kernel_rfl) (by kernel_rfl) (fun _ _ _ h => h) (Or.inl ⟨by rfl, ?_⟩) (by assumption) ?_; rotate_left; · (intro w hSw; (try dsimp only at hSw); have h0 := (HX0.out.keep hSw).at 0 _ rfl; have h1 := (HX0.out.keep hSw).at 1 _ rfl; have h2 := (HX0.out.keep hSw).at 2 _ rfl; go_simp; (first | done | with_reducible rfl)))
    try simp only [Act.put, List.setIfInBounds_toArray, List.set_cons_zero, List.set_cons_succ]
    (refine wpAnyH_take (i := 2) (oi := { dst := some 7, op := Op.fieldAddr 41 (Operand.tmp 1) 1, type := 0, pos := "twin.go:76", after := #[], guard := none }) (v := ?_) rfl (by kernel_rfl) (by kernel_rfl) (by kernel_rfl) (fun _ _ _ h => h) (Or.inl ⟨by rfl, ?_⟩) (by assumption) ?_; rotate_left; · (intro w hSw; (try dsimp only at hSw); skip; go_simp; (first | done | with_reducible rfl)))
    try simp only [Act.put, List.setIfInBounds_toArray, List.set_cons_zero, List.set_cons_succ]
    (refine wpAnyH_take (i := 3) (oi := { dst := some 8, op := Op.load 28 (Operand.tmp 7), type := 28, pos := "twin.go:76", after := #[{ on := 2, ground := Ground.data }], guard := none }) (v := ?_) rfl (by kernel_rfl) (by kernel_rfl) (by kernel_rfl) (fun _ _ _ h => h) (Or.inl ⟨by rfl, ?_⟩) (by assumption) ?_; rotate_left; · (intro w hSw; (try dsimp only at hSw); have h3 := (HX0.out.keep hSw).at 3 _ rfl; have h4 := (HX0.out.keep hSw).at 4 _ rfl; have h5 := (HX0.out.keep hSw).at 5 _ rfl; go_simp; (first | done | with_reducible rfl)))
    try simp only [Act.put, List.setIfInBounds_toArray, List.set_cons_zero, List.set_cons_succ]
    (refine wpAnyH_take (i := 5) (oi := { dst := some 10, op := Op.fieldAddr 41 (Operand.tmp 1) 2, type := 0, pos := "twin.go:76", after := #[], guard := none }) (v := ?_) rfl (by kernel_rfl) (by kernel_rfl) (by kernel_rfl) (fun _ _ _ h => h) (Or.inl ⟨by rfl, ?_⟩) (by assumption) ?_; rotate_left; · (intro w hSw; (try dsimp only at hSw); skip; go_simp; (first | done | with_reducible rfl)))
    try simp only [Act.put, List.setIfInBounds_toArray, List.set_cons_zero, List.set_cons_succ]
    (refine wpAnyH_take (i := 6) (oi := { dst := some 11, op := Op.load 32 (Operand.tmp 10), type := 32, pos := "twin.go:76", after := #[{ on := 5, ground := Ground.data }], guard := none }) (v := ?_) rfl (by kernel_rfl) (by kernel_rfl) (by kernel_rfl) (fun _ _ _ h => h) (Or.inl ⟨by rfl, ?_⟩) (by assumption) ?_; rotate_left; · (intro w hSw; (try dsimp only at hSw); have h6 := (HX0.out.keep hSw).at 6 _ rfl; have h7 := (HX0.out.keep hSw).at 7 _ rfl; have h8 := (HX0.out.keep hSw).at 8 _ rfl; go_simp; (first | done | with_reducible rfl)))
    try simp only [Act.put, List.setIfInBounds_toArray, List.set_cons_zero, List.set_cons_succ]
    (refine wpAnyH_take (i := 8) (oi := { dst := some 13, op := Op.fieldAddr 41 (Operand.tmp 1) 3, type := 0, pos := "twin.go:76", after := #[], guard := none }) (v := ?_) rfl (by kernel_rfl) (by kernel_rfl) (by kernel_rfl) (fun _ _ _ h => h) (Or.inl ⟨by rfl, ?_⟩) (by assumption) ?_; rotate_left; · (intro w hSw; (try dsimp only at hSw); skip; go_simp; (first | done | with_reducible rfl)))
    try simp only [Act.put, List.setIfInBounds_toArray, List.set_cons_zero, List.set_cons_succ]
    (refine wpAnyH_take (i := 9) (oi := { dst := some 14, op := Op.load 35 (Operand.tmp 13), type := 35, pos := "twin.go:76", after := #[{ on := 8, ground := Ground.data }], guard := none }) (v := ?_) rfl (by kernel_rfl) (by kernel_rfl) (by kernel_rfl) (fun _ _ _ h => h) (Or.inl ⟨by rfl, ?_⟩) (by assumption) ?_; rotate_left; · (intro w hSw; (try dsimp only at hSw); have h9 := (HX0.out.keep hSw).at 9 _ rfl; have h10 := (HX0.out.keep hSw).at 10 _ rfl; go_simp; (first | done | with_reducible rfl)))
    try simp only [Act.put, List.setIfInBounds_toArray, List.set_cons_zero, List.set_cons_succ]
    refine wpAnyH_ready (rs := [4, 12]) (by kernel_rfl) (by simp) ?_
    refine (AllReadyH.cons (o := { dst := some 9, op := Op.call { callee := Callee.value (Operand.func 17), args := #[Operand.tmp 8], argTypes := #[28] }, type := 28, pos := "twin.go:76", after := #[{ on := 3, ground := Ground.data }], guard := none }) rfl (fun K hK => ?_) (AllReadyH.cons (o := { dst := some 3, op := Op.alloc 41, type := 0, pos := "twin.go:76", after := #[], guard := none }) rfl (fun K hK => ?_) AllReadyH.nil))
    · go_simp
      (go_at_call 17; (with_reducible refine (D1 _ (grew_drew (grew_refl _))).mono ?_); rintro e v1 ⟨R1, R2, R3, d1, d2, d3, rfl, ⟨ho, -, -, -⟩, hg⟩)
      have hzz : w0.heap.size ≤ w0.heap.size := Nat.le_refl _
      have HTC : Hid (Btw3 w0.heap.size v1.heap.size R1 R2 R3) := ⟨(fun x hx => by have h1 := ho.m.block x hx; (try simp only [World.drew] at h1); omega), (fun x hx => by have h1 := ho.i.block x hx; (try simp only [World.drew] at h1); omega), (fun x hx => by have h1 := ho.h.block x hx; (try simp only [World.drew] at h1); omega)⟩
      have HRR : Hid (Rows3 v1 r R1 R2 R3 r.1.length r.2.1.length r.2.2.length) := ho.rows
      have HGG : Hid (Grew w0 v1) := grew_trans (grew_drew (grew_refl _)) hg
      clear ho hg hzz
      refine hK.out _ _ HGG.out (fun hHeld => ?_)
      clear hK K
      try simp only [Act.put, List.setIfInBounds_toArray, List.set_cons_zero, List.set_cons_succ]
      refine wpAnyH_ready (rs := [7, 12]) (by kernel_rfl) (by simp) ?_
      refine (AllReadyH.cons (o := { dst := some 12, op := Op.call { callee := Callee.value (Operand.func 18), args := #[Operand.tmp 11], argTypes := #[32] }, type := 32, pos := "twin.go:76", after := #[{ on := 6, ground := Ground.data }, { on := 4, ground := Ground.chain }], guard := none }) rfl (fun K hK => ?_) (AllReadyH.cons (o := { dst := some 3, op := Op.alloc 41, type := 0, pos := "twin.go:76", after := #[], guard := none }) rfl (fun K hK => ?_) AllReadyH.nil))
      · go_simp
        (go_at_call 18; (with_reducible refine (D2 _ HGG.out).mono ?_); rintro e v2 ⟨G1, G2, e1, e2, rfl, ho, hg⟩)
        have hzz : w0.heap.size ≤ v1.heap.size := grew_size HGG.out
        have HTB : Hid (Btw2 w0.heap.size v2.heap.size G1 G2) := ⟨(fun x hx => by have h1 := ho.t.block x hx; (try simp only [World.drew] at h1); omega), (fun x hx => by have h1 := ho.p.block x hx; (try simp only [World.drew] at h1); omega)⟩
        have HRR := Lib.hid (HRR.out.keep hg)
        have HTC := Lib.hid (HTC.out.mono (grew_size hg))
        have HBB : Hid (InB v2 b G1 G2 b.2.1.length b.2.2.length e1 e2) := ho.in
        have HGG : Hid (Grew w0 v2) := grew_trans HGG.out hg
        clear ho hg hzz
        refine hK.out _ _ HGG.out (fun hHeld => ?_)
        clear hK K
        try simp only [Act.put, List.setIfInBounds_toArray, List.set_cons_zero, List.set_cons_succ]
        refine wpAnyH_ready (rs := [10, 12]) (by kernel_rfl) (by simp) ?_
        refine (AllReadyH.cons (o := { dst := some 15, op := Op.call { callee := Callee.value (Operand.func 19), args := #[Operand.tmp 14], argTypes := #[35] }, type := 35, pos := "twin.go:76", after := #[{ on := 9, ground := Ground.data }, { on := 7, ground := Ground.chain }], guard := none }) rfl (fun K hK => ?_) (AllReadyH.cons (o := { dst := some 3, op := Op.alloc 41, type := 0, pos := "twin.go:76", after := #[], guard := none }) rfl (fun K hK => ?_) AllReadyH.nil))
        · go_simp
          (go_at_call 19; (with_reducible refine (D3' _ HGG.out).mono ?_); rintro e v3 ⟨H1, f1, rfl, ho, hg⟩)
          have hzz : w0.heap.size ≤ v2.heap.size := grew_size HGG.out
          have HTL : Hid (Btw1 w0.heap.size v3.heap.size H1) := (fun x hx => by have h1 := ho.block x hx; (try simp only [World.drew] at h1); omega)
          have HRR := Lib.hid (HRR.out.keep hg)
          have HBB := Lib.hid (HBB.out.keep hg)
          have HTC := Lib.hid (HTC.out.mono (grew_size hg))
          have HTB := Lib.hid (HTB.out.mono (grew_size hg))
          have HLL : Hid (RowE enLg v3 H1 nl lg) := (by have h9 := (own_form ho).1; rw [HLN.out] at h9; exact h9)
          have HGG : Hid (Grew w0 v3) := grew_trans HGG.out hg
          clear ho hg hzz
          refine hK.out _ _ HGG.out (fun hHeld => ?_)
          clear hK K
          try simp only [Act.put, List.setIfInBounds_toArray, List.set_cons_zero, List.set_cons_succ]
          (refine wpAnyH_take (i := 11) (oi := { dst := some 16, op := Op.build 41 #[(0, Operand.tmp 6), (1, Operand.tmp 9), (2, Operand.tmp 12), (3, Operand.tmp 15)], type := 41, pos := "twin.go:76", after := #[{ on := 1, ground := Ground.data }, { on := 4, ground := Ground.data }, { on := 7, ground := Ground.data }, { on := 10, ground := Ground.data }], guard := none }) (v := ?_) rfl (by kernel_rfl) (by kernel_rfl) (by kernel_rfl) (fun _ _ _ h => h) (Or.inl ⟨by rfl, ?_⟩) (by assumption) ?_; rotate_left; · (intro w hSw; (try dsimp only at hSw); skip; go_simp; (first | done | with_reducible rfl)))
          try simp only [Act.put, List.setIfInBounds_toArray, List.set_cons_zero, List.set_cons_succ]
          refine wpAnyH_ready (rs := [12]) (by kernel_rfl) (by simp) ?_
          refine (AllReadyH.cons (o := { dst := some 3, op := Op.alloc 41, type := 0, pos := "twin.go:76", after := #[], guard := none }) rfl (fun K hK => ?_) AllReadyH.nil)
          go_simp
          refine hK.out _ _ (grew_trans HGG.out (grew_alloc _ _ _)) (fun hHeld => ?_)
          clear hK K
          try simp only [Act.put, List.setIfInBounds_toArray, List.set_cons_zero, List.set_cons_succ]
          obtain ⟨bx, hbx⟩ : ∃ q, q = v3.heap.size := ⟨_, rfl⟩
          rw [← hbx]
          have HFC : Hid (Off bx (w.heap.size + 1) R1 ∧ Off bx (w.heap.size + 1) R2 ∧ Off bx (w.heap.size + 1) R3) := ⟨(HTC.out.1).off (.inr (Nat.le_of_eq hbx.symm)) (.inl HRB.out), (HTC.out.2.1).off (.inr (Nat.le_of_eq hbx.symm)) (.inl HRB.out), (HTC.out.2.2).off (.inr (Nat.le_of_eq hbx.symm)) (.inl HRB.out)⟩
          have HFB : Hid (Off bx (w.heap.size + 1) G1 ∧ Off bx (w.heap.size + 1) G2) := ⟨(HTB.out.1).off (.inr (Nat.le_of_eq hbx.symm)) (.inl HRB.out), (HTB.out.2).off (.inr (Nat.le_of_eq hbx.symm)) (.inl HRB.out)⟩
          have HFL : Hid (Off bx (w.heap.size + 1) H1) := (HTL.out).off (.inr (Nat.le_of_eq hbx.symm)) (.inl HRB.out)
          have HRR := Lib.hid (HRR.out.keep (show Grew v3 ((v3.alloc (.cells #[.int .i64 0, .int .i64 0, .int .i64 0, .slice none 0 0, .slice none 0 0, .slice none 0 0, .int .i64 0, .slice none 0 0, .slice none 0 0, .int .i64 0, .slice none 0 0, .slice none 0 0, .slice none 0 0, .slice none 0 0, .slice none 0 0] 41))) from (grew_alloc _ _ _)))
          have HBB := Lib.hid (HBB.out.keep (show Grew v3 ((v3.alloc (.cells #[.int .i64 0, .int .i64 0, .int .i64 0, .slice none 0 0, .slice none 0 0, .slice none 0 0, .int .i64 0, .slice none 0 0, .slice none 0 0, .int .i64 0, .slice none 0 0, .slice none 0 0, .slice none 0 0, .slice none 0 0, .slice none 0 0] 41))) from (grew_alloc _ _ _)))
          have HLL := Lib.hid (HLL.out.keep (show Grew v3 ((v3.alloc (.cells #[.int .i64 0, .int .i64 0, .int .i64 0, .slice none 0 0, .slice none 0 0, .slice none 0 0, .int .i64 0, .slice none 0 0, .slice none 0 0, .int .i64 0, .slice none 0 0, .slice none 0 0, .slice none 0 0, .slice none 0 0, .slice none 0 0] 41))) from (grew_alloc _ _ _)))
          have HX : Hid (OwnC ((v3.alloc (.cells #[.int .i64 0, .int .i64 0, .int .i64 0, .slice none 0 0, .slice none 0 0, .slice none 0 0, .int .i64 0, .slice none 0 0, .slice none 0 0, .int .i64 0, .slice none 0 0, .slice none 0 0, .slice none 0 0, .slice none 0 0, .slice none 0 0] 41))) bx [.int .i64 0, .int .i64 0, .int .i64 0, .slice none 0 0, .slice none 0 0, .slice none 0 0, .int .i64 0, .slice none 0 0, .slice none 0 0, .int .i64 0, .slice none 0 0, .slice none 0 0, .slice none 0 0, .slice none 0 0, .slice none 0 0]) := OwnC.new v3 [.int .i64 0, .int .i64 0, .int .i64 0, .slice none 0 0, .slice none 0 0, .slice none 0 0, .int .i64 0, .slice none 0 0, .slice none 0 0, .int .i64 0, .slice none 0 0, .slice none 0 0, .slice none 0 0, .slice none 0 0, .slice none 0 0] _ _ hbx
          have HWX : Hid (w0.heap.size ≤ bx) := by have h1 := grew_size HGG.out; show _ ≤ _; omega
          have HGG : Hid (Grew w0 ((v3.alloc (.cells #[.int .i64 0, .int .i64 0, .int .i64 0, .slice none 0 0, .slice none 0 0, .slice none 0 0, .int .i64 0, .slice none 0 0, .slice none 0 0, .int .i64 0, .slice none 0 0, .slice none 0 0, .slice none 0 0, .slice none 0 0, .slice none 0 0] 41)))) := grew_trans HGG.out (grew_alloc _ _ _)
          clear hbx hHeld HTC HTB HTL
          generalize (v3.alloc (.cells #[.int .i64 0, .int .i64 0, .int .i64 0, .slice none 0 0, .slice none 0 0, .slice none 0 0, .int .i64 0, .slice none 0 0, .slice none 0 0, .int .i64 0, .slice none 0 0, .slice none 0 0, .slice none 0 0, .slice none 0 0, .slice none 0 0] 41)) = v4 at *
          have hHeld := HGG.out
          refine wpAnyH_ready (rs := [13]) (by kernel_rfl) (by simp) ?_
          refine (AllReadyH.cons (o := { dst := none, op := Op.store 41 (Operand.tmp 3) (Operand.tmp 16), type := 0, pos := "twin.go:76", after := #[{ on := 12, ground := Ground.data }, { on := 11, ground := Ground.data }, { on := 10, ground := Ground.chain }, { on := 0, ground := Ground.phase }, { on := 1, ground := Ground.phase }, { on := 2, ground := Ground.phase }, { on := 3, ground := Ground.phase }, { on := 4, ground := Ground.phase }, { on := 5, ground := Ground.phase }, { on := 6, ground := Ground.phase }, { on := 7, ground := Ground.phase }, { on := 8, ground := Ground.phase }, { on := 9, ground := Ground.phase }, { on := 10, ground := Ground.phase }, { on := 11, ground := Ground.phase }, { on := 12, ground := Ground.phase }], guard := none }) rfl (fun K hK => ?_) AllReadyH.nil)
          obtain ⟨y0, g0, y1, g1, y2, g2, y3, g3, y4, g4, y5, g5, y6, g6, y7, g7, y8, g8, y9, g9, y10, g10, y11, g11, y12, g12, y13, g13, y14, g14⟩ := z15 HX.out
          go_simp
          refine hK.out _ _ (grew_put bx HWX.out [.int .i64 t1, .int .i64 t2, .int .i64 t3, .slice R1 r.1.length d1, .slice R2 r.2.1.length d2, .slice R3 r.2.2.length d3, .int .i64 b.1, .slice G1 b.2.1.length e1, .slice G2 b.2.2.length e2, .int .i64 last, .slice H1 nl f1, .slice none 0 0, .slice none 0 0, .slice none 0 0, .slice none 0 0] 0 _ HGG.out) (fun hHeld => ?_)
          clear hK K y0 g0 y1 g1 y2 g2 y3 g3 y4 g4 y5 g5 y6 g6 y7 g7 y8 g8 y9 g9 y10 g10 y11 g11 y12 g12 y13 g13 y14 g14
          try simp only [Act.put, List.setIfInBounds_toArray, List.set_cons_zero, List.set_cons_succ]
          have HFIN : Hid (TwA (((((((((((((((v4.setCell ⟨bx, 0, none⟩ (.int .i64 t1)).setCell ⟨bx, 1, none⟩ (.int .i64 t2)).setCell ⟨bx, 2, none⟩ (.int .i64 t3)).setCell ⟨bx, 3, none⟩ (.slice R1 r.1.length d1)).setCell ⟨bx, 4, none⟩ (.slice R2 r.2.1.length d2)).setCell ⟨bx, 5, none⟩ (.slice R3 r.2.2.length d3)).setCell ⟨bx, 6, none⟩ (.int .i64 b.1)).setCell ⟨bx, 7, none⟩ (.slice G1 b.2.1.length e1)).setCell ⟨bx, 8, none⟩ (.slice G2 b.2.2.length e2)).setCell ⟨bx, 9, none⟩ (.int .i64 last)).setCell ⟨bx, 10, none⟩ (.slice H1 nl f1)).setCell ⟨bx, 11, none⟩ (.slice none 0 0)).setCell ⟨bx, 12, none⟩ (.slice none 0 0)).setCell ⟨bx, 13, none⟩ (.slice none 0 0)).setCell ⟨bx, 14, none⟩ (.slice none 0 0)) w0 bx (w.heap.size + 1) t1 t2 t3 last r b lg nl R1 R2 R3 G1 G2 H1 d1 d2 d3 e1 e2 f1) := TwA.fin HX.out HRR.out HBB.out HLL.out HFC.out HFB.out HFL.out HGG.out HWX.out HRB.out
          clear HX HRR HBB HLL HFC HFB HFL HWX HGG hHeld
          generalize (((((((((((((((v4.setCell ⟨bx, 0, none⟩ (.int .i64 t1)).setCell ⟨bx, 1, none⟩ (.int .i64 t2)).setCell ⟨bx, 2, none⟩ (.int .i64 t3)).setCell ⟨bx, 3, none⟩ (.slice R1 r.1.length d1)).setCell ⟨bx, 4, none⟩ (.slice R2 r.2.1.length d2)).setCell ⟨bx, 5, none⟩ (.slice R3 r.2.2.length d3)).setCell ⟨bx, 6, none⟩ (.int .i64 b.1)).setCell ⟨bx, 7, none⟩ (.slice G1 b.2.1.length e1)).setCell ⟨bx, 8, none⟩ (.slice G2 b.2.2.length e2)).setCell ⟨bx, 9, none⟩ (.int .i64 last)).setCell ⟨bx, 10, none⟩ (.slice H1 nl f1)).setCell ⟨bx, 11, none⟩ (.slice none 0 0)).setCell ⟨bx, 12, none⟩ (.slice none 0 0)).setCell ⟨bx, 13, none⟩ (.slice none 0 0)).setCell ⟨bx, 14, none⟩ (.slice none 0 0)) = v5 at *
          skip
          refine wpAnyH_done (by kernel_rfl) ?_ _
          clear hHeld
          apply_assumption
          go_meet
          exact ⟨bx, R1, R2, R3, G1, G2, H1, d1, d2, d3, e1, e2, f1, rfl, HFIN.out⟩
        · go_simp
          refine hK.out _ _ (grew_trans HGG.out (grew_alloc _ _ _)) (fun hHeld => ?_)
          clear hK K
          try simp only [Act.put, List.setIfInBounds_toArray, List.set_cons_zero, List.set_cons_succ]
          obtain ⟨bx, hbx⟩ : ∃ q, q = v2.heap.size := ⟨_, rfl⟩
          rw [← hbx]
          have HFC : Hid (Off bx (w.heap.size + 1) R1 ∧ Off bx (w.heap.size + 1) R2 ∧ Off bx (w.heap.size + 1) R3) := ⟨(HTC.out.1).off (.inr (Nat.le_of_eq hbx.symm)) (.inl HRB.out), (HTC.out.2.1).off (.inr (Nat.le_of_eq hbx.symm)) (.inl HRB.out), (HTC.out.2.2).off (.inr (Nat.le_of_eq hbx.symm)) (.inl HRB.out)⟩
          have HFB : Hid (Off bx (w.heap.size + 1) G1 ∧ Off bx (w.heap.size + 1) G2) := ⟨(HTB.out.1).off (.inr (Nat.le_of_eq hbx.symm)) (.inl HRB.out), (HTB.out.2).off (.inr (Nat.le_of_eq hbx.symm)) (.inl HRB.out)⟩
          have HRR := Lib.hid (HRR.out.keep (show Grew v2 ((v2.alloc (.cells #[.int .i64 0, .int .i64 0, .int .i64 0, .slice none 0 0, .slice none 0 0, .slice none 0 0, .int .i64 0, .slice none 0 0, .slice none 0 0, .int .i64 0, .slice none 0 0, .slice none 0 0, .slice none 0 0, .slice none 0 0, .slice none 0 0] 41))) from (grew_alloc _ _ _)))
          have HBB := Lib.hid (HBB.out.keep (show Grew v2 ((v2.alloc (.cells #[.int .i64 0, .int .i64 0, .int .i64 0, .slice none 0 0, .slice none 0 0, .slice none 0 0, .int .i64 0, .slice none 0 0, .slice none 0 0, .int .i64 0, .slice none 0 0, .slice none 0 0, .slice none 0 0, .slice none 0 0, .slice none 0 0] 41))) from (grew_alloc _ _ _)))
          have HX : Hid (OwnC ((v2.alloc (.cells #[.int .i64 0, .int .i64 0, .int .i64 0, .slice none 0 0, .slice none 0 0, .slice none 0 0, .int .i64 0, .slice none 0 0, .slice none 0 0, .int .i64 0, .slice none 0 0, .slice none 0 0, .slice none 0 0, .slice none 0 0, .slice none 0 0] 41))) bx [.int .i64 0, .int .i64 0, .int .i64 0, .slice none 0 0, .slice none 0 0, .slice none 0 0, .int .i64 0, .slice none 0 0, .slice none 0 0, .int .i64 0, .slice none 0 0, .slice none 0 0, .slice none 0 0, .slice none 0 0, .slice none 0 0]) := OwnC.new v2 [.int .i64 0, .int .i64 0, .int .i64 0, .slice none 0 0, .slice none 0 0, .slice none 0 0, .int .i64 0, .slice none 0 0, .slice none 0 0, .int .i64 0, .slice none 0 0, .slice none 0 0, .slice none 0 0, .slice none 0 0, .slice none 0 0] _ _ hbx
          have HWX : Hid (w0.heap.size ≤ bx) := by have h1 := grew_size HGG.out; show _ ≤ _; omega
          have HGG : Hid (Grew w0 ((v2.alloc (.cells #[.int .i64 0, .int .i64 0, .int .i64 0, .slice none 0 0, .slice none 0 0, .slice none 0 0, .int .i64 0, .slice none 0 0, .slice none 0 0, .int .i64 0, .slice none 0 0, .slice none 0 0, .slice none 0 0, .slice none 0 0, .slice none 0 0] 41)))) := grew_trans HGG.out (grew_alloc _ _ _)
          clear hbx hHeld HTC HTB
          generalize (v2.alloc (.cells #[.int .i64 0, .int .i64 0, .int .i64 0, .slice none 0 0, .slice none 0 0, .slice none 0 0, .int .i64 0, .slice none 0 0, .slice none 0 0, .int .i64 0, .slice none 0 0, .slice none 0 0, .slice none 0 0, .slice none 0 0, .slice none 0 0] 41)) = v3 at *
          have hHeld := HGG.out
          refine wpAnyH_ready (rs := [10]) (by kernel_rfl) (by simp) ?_
          refine (AllReadyH.cons (o := { dst := some 15, op := Op.call { callee := Callee.value (Operand.func 19), args := #[Operand.tmp 14], argTypes := #[35] }, type := 35, pos := "twin.go:76", after := #[{ on := 9, ground := Ground.data }, { on := 7, ground := Ground.chain }], guard := none }) rfl (fun K hK => ?_) AllReadyH.nil)
          go_simp
          (go_at_call 19; (with_reducible refine (D3' _ HGG.out).mono ?_); rintro e v4 ⟨H1, f1, rfl, ho, hg⟩)
          have hzz : w0.heap.size ≤ v3.heap.size := grew_size HGG.out
          have hbx := HX.out.lt; have hrb := HRB.out
          have HFL : Hid (Off bx (w.heap.size + 1) H1) := (fun x hx => by have h1 := (ho.block x hx).1; (try simp only [World.drew] at h1); omega)
          have HX := Lib.hid (HX.out.keep hg)
          have HRR := Lib.hid (HRR.out.keep hg)
          have HBB := Lib.hid (HBB.out.keep hg)
          have HLL : Hid (RowE enLg v4 H1 nl lg) := (by have h9 := (own_form ho).1; rw [HLN.out] at h9; exact h9)
          have HGG : Hid (Grew w0 v4) := grew_trans HGG.out hg
          clear ho hg hzz hbx hrb
          refine hK.out _ _ HGG.out (fun hHeld => ?_)
          clear hK K
          try simp only [Act.put, List.setIfInBounds_toArray, List.set_cons_zero, List.set_cons_succ]
          (refine wpAnyH_take (i := 11) (oi := { dst := some 16, op := Op.build 41 #[(0, Operand.tmp 6), (1, Operand.tmp 9), (2, Operand.tmp 12), (3, Operand.tmp 15)], type := 41, pos := "twin.go:76", after := #[{ on := 1, ground := Ground.data }, { on := 4, ground := Ground.data }, { on := 7, ground := Ground.data }, { on := 10, ground := Ground.data }], guard := none }) (v := ?_) rfl (by kernel_rfl) (by kernel_rfl) (by kernel_rfl) (fun _ _ _ h => h) (Or.inl ⟨by rfl, ?_⟩) (by assumption) ?_; rotate_left; · (intro w hSw; (try dsimp only at hSw); skip; go_simp; (first | done | with_reducible rfl)))
          try simp only [Act.put, List.setIfInBounds_toArray, List.set_cons_zero, List.set_cons_succ]
          refine wpAnyH_ready (rs := [13]) (by kernel_rfl) (by simp) ?_
          refine (AllReadyH.cons (o := { dst := none, op := Op.store 41 (Operand.tmp 3) (Operand.tmp 16), type := 0, pos := "twin.go:76", after := #[{ on := 12, ground := Ground.data }, { on := 11, ground := Ground.data }, { on := 10, ground := Ground.chain }, { on := 0, ground := Ground.phase }, { on := 1, ground := Ground.phase }, { on := 2, ground := Ground.phase }, { on := 3, ground := Ground.phase }, { on := 4, ground := Ground.phase }, { on := 5, ground := Ground.phase }, { on := 6, ground := Ground.phase }, { on := 7, ground := Ground.phase }, { on := 8, ground := Ground.phase }, { on := 9, ground := Ground.phase }, { on := 10, ground := Ground.phase }, { on := 11, ground := Ground.phase }, { on := 12, ground := Ground.phase }], guard := none }) rfl (fun K hK => ?_) AllReadyH.nil)
          obtain ⟨y0, g0, y1, g1, y2, g2, y3, g3, y4, g4, y5, g5, y6, g6, y7, g7, y8, g8, y9, g9, y10, g10, y11, g11, y12, g12, y13, g13, y14, g14⟩ := z15 HX.out
          go_simp
          refine hK.out _ _ (grew_put bx HWX.out [.int .i64 t1, .int .i64 t2, .int .i64 t3, .slice R1 r.1.length d1, .slice R2 r.2.1.length d2, .slice R3 r.2.2.length d3, .int .i64 b.1, .slice G1 b.2.1.length e1, .slice G2 b.2.2.length e2, .int .i64 last, .slice H1 nl f1, .slice none 0 0, .slice none 0 0, .slice none 0 0, .slice none 0 0] 0 _ HGG.out) (fun hHeld => ?_)
          clear hK K y0 g0 y1 g1 y2 g2 y3 g3 y4 g4 y5 g5 y6 g6 y7 g7 y8 g8 y9 g9 y10 g10 y11 g11 y12 g12 y13 g13 y14 g14
          try simp only [Act.put, List.setIfInBounds_toArray, List.set_cons_zero, List.set_cons_succ]
          have HFIN : Hid (TwA (((((((((((((((v4.setCell ⟨bx, 0, none⟩ (.int .i64 t1)).setCell ⟨bx, 1, none⟩ (.int .i64 t2)).setCell ⟨bx, 2, none⟩ (.int .i64 t3)).setCell ⟨bx, 3, none⟩ (.slice R1 r.1.length d1)).setCell ⟨bx, 4, none⟩ (.slice R2 r.2.1.length d2)).setCell ⟨bx, 5, none⟩ (.slice R3 r.2.2.length d3)).setCell ⟨bx, 6, none⟩ (.int .i64 b.1)).setCell ⟨bx, 7, none⟩ (.slice G1 b.2.1.length e1)).setCell ⟨bx, 8, none⟩ (.slice G2 b.2.2.length e2)).setCell ⟨bx, 9, none⟩ (.int .i64 last)).setCell ⟨bx, 10, none⟩ (.slice H1 nl f1)).setCell ⟨bx, 11, none⟩ (.slice none 0 0)).setCell ⟨bx, 12, none⟩ (.slice none 0 0)).setCell ⟨bx, 13, none⟩ (.slice none 0 0)).setCell ⟨bx, 14, none⟩ (.slice none 0 0)) w0 bx (w.heap.size + 1) t1 t2 t3 last r b lg nl R1 R2 R3 G1 G2 H1 d1 d2 d3 e1 e2 f1) := TwA.fin HX.out HRR.out HBB.out HLL.out HFC.out HFB.out HFL.out HGG.out HWX.out HRB.out
          clear HX HRR HBB HLL HFC HFB HFL HWX HGG hHeld
          generalize (((((((((((((((v4.setCell ⟨bx, 0, none⟩ (.int .i64 t1)).setCell ⟨bx, 1, none⟩ (.int .i64 t2)).setCell ⟨bx, 2, none⟩ (.int .i64 t3)).setCell ⟨bx, 3, none⟩ (.slice R1 r.1.length d1)).setCell ⟨bx, 4, none⟩ (.slice R2 r.2.1.length d2)).setCell ⟨bx, 5, none⟩ (.slice R3 r.2.2.length d3)).setCell ⟨bx, 6, none⟩ (.int .i64 b.1)).setCell ⟨bx, 7, none⟩ (.slice G1 b.2.1.length e1)).setCell ⟨bx, 8, none⟩ (.slice G2 b.2.2.length e2)).setCell ⟨bx, 9, none⟩ (.int .i64 last)).setCell ⟨bx, 10, none⟩ (.slice H1 nl f1)).setCell ⟨bx, 11, none⟩ (.slice none 0 0)).setCell ⟨bx, 12, none⟩ (.slice none 0 0)).setCell ⟨bx, 13, none⟩ (.slice none 0 0)).setCell ⟨bx, 14, none⟩ (.slice none 0 0)) = v5 at *
          skip
          refine wpAnyH_done (by kernel_rfl) ?_ _
          clear hHeld
          apply_assumption
          go_meet
          exact ⟨bx, R1, R2, R3, G1, G2, H1, d1, d2, d3, e1, e2, f1, rfl, HFIN.out⟩
      · go_simp
        refine hK.out _ _ (grew_trans HGG.out (grew_alloc _ _ _)) (fun hHeld => ?_)
        clear hK K
        try simp only [Act.put, List.setIfInBounds_toArray, List.set_cons_zero, List.set_cons_succ]
        obtain ⟨bx, hbx⟩ : ∃ q, q = v1.heap.size := ⟨_, rfl⟩
        rw [← hbx]
        have HFC : Hid (Off bx (w.heap.size + 1) R1 ∧ Off bx (w.heap.size + 1) R2 ∧ Off bx (w.heap.size + 1) R3) := ⟨(HTC.out.1).off (.inr (Nat.le_of_eq hbx.symm)) (.inl HRB.out), (HTC.out.2.1).off (.inr (Nat.le_of_eq hbx.symm)) (.inl HRB.out), (HTC.out.2.2).off (.inr (Nat.le_of_eq hbx.symm)) (.inl HRB.out)⟩
        have HRR := Lib.hid (HRR.out.keep (show Grew v1 ((v1.alloc (.cells #[.int .i64 0, .int .i64 0, .int .i64 0, .slice none 0 0, .slice none 0 0, .slice none 0 0, .int .i64 0, .slice none 0 0, .slice none 0 0, .int .i64 0, .slice none 0 0, .slice none 0 0, .slice none 0 0, .slice none 0 0, .slice none 0 0] 41))) from (grew_alloc _ _ _)))
        have HX : Hid (OwnC ((v1.alloc (.cells #[.int .i64 0, .int .i64 0, .int .i64 0, .slice none 0 0, .slice none 0 0, .slice none 0 0, .int .i64 0, .slice none 0 0, .slice none 0 0, .int .i64 0, .slice none 0 0, .slice none 0 0, .slice none 0 0, .slice none 0 0, .slice none 0 0] 41))) bx [.int .i64 0, .int .i64 0, .int .i64 0, .slice none 0 0, .slice none 0 0, .slice none 0 0, .int .i64 0, .slice none 0 0, .slice none 0 0, .int .i64 0, .slice none 0 0, .slice none 0 0, .slice none 0 0, .slice none 0 0, .slice none 0 0]) := OwnC.new v1 [.int .i64 0, .int .i64 0, .int .i64 0, .slice none 0 0, .slice none 0 0, .slice none 0 0, .int .i64 0, .slice none 0 0, .slice none 0 0, .int .i64 0, .slice none 0 0, .slice none 0 0, .slice none 0 0, .slice none 0 0, .slice none 0 0] _ _ hbx
        have HWX : Hid (w0.heap.size ≤ bx) := by have h1 := grew_size HGG.out; show _ ≤ _; omega
        have HGG : Hid (Grew w0 ((v1.alloc (.cells #[.int .i64 0, .int .i64 0, .int .i64 0, .slice none 0 0, .slice none 0 0, .slice none 0 0, .int .i64 0, .slice none 0 0, .slice none 0 0, .int .i64 0, .slice none 0 0, .slice none 0 0, .slice none 0 0, .slice none 0 0, .slice none 0 0] 41)))) := grew_trans HGG.out (grew_alloc _ _ _)
        clear hbx hHeld HTC
        generalize (v1.alloc (.cells #[.int .i64 0, .int .i64 0, .int .i64 0, .slice none 0 0, .slice none 0 0, .slice none 0 0, .int .i64 0, .slice none 0 0, .slice none 0 0, .int .i64 0, .slice none 0 0, .slice none 0 0, .slice none 0 0, .slice none 0 0, .slice none 0 0] 41)) = v2 at *
        have hHeld := HGG.out
        refine wpAnyH_ready (rs := [7]) (by kernel_rfl) (by simp) ?_
        refine (AllReadyH.cons (o := { dst := some 12, op := Op.call { callee := Callee.value (Operand.func 18), args := #[Operand.tmp 11], argTypes := #[32] }, type := 32, pos := "twin.go:76", after := #[{ on := 6, ground := Ground.data }, { on := 4, ground := Ground.chain }], guard := none }) rfl (fun K hK => ?_) AllReadyH.nil)
        go_simp
        (go_at_call 18; (with_reducible refine (D2 _ HGG.out).mono ?_); rintro e v3 ⟨G1, G2, e1, e2, rfl, ho, hg⟩)
        have hzz : w0.heap.size ≤ v2.heap.size := grew_size HGG.out
        have hbx := HX.out.lt; have hrb := HRB.out
        have HFB : Hid (Off bx (w.heap.size + 1) G1 ∧ Off bx (w.heap.size + 1) G2) := ⟨(fun x hx => by have h1 := (ho.t.block x hx).1; (try simp only [World.drew] at h1); omega), (fun x hx => by have h1 := (ho.p.block x hx).1; (try simp only [World.drew] at h1); omega)⟩
        have HX := Lib.hid (HX.out.keep hg)
        have HRR := Lib.hid (HRR.out.keep hg)
        have HBB : Hid (InB v3 b G1 G2 b.2.1.length b.2.2.length e1 e2) := ho.in
        have HGG : Hid (Grew w0 v3) := grew_trans HGG.out hg
        clear ho hg hzz hbx hrb
        refine hK.out _ _ HGG.out (fun hHeld => ?_)
        clear hK K
        try simp only [Act.put, List.setIfInBounds_toArray, List.set_cons_zero, List.set_cons_succ]
        refine wpAnyH_ready (rs := [10]) (by kernel_rfl) (by simp) ?_
        refine (AllReadyH.cons (o := { dst := some 15, op := Op.call { callee := Callee.value (Operand.func 19), args := #[Operand.tmp 14], argTypes := #[35] }, type := 35, pos := "twin.go:76", after := #[{ on := 9, ground := Ground.data }, { on := 7, ground := Ground.chain }], guard := none }) rfl (fun K hK => ?_) AllReadyH.nil)
        go_simp
        (go_at_call 19; (with_reducible refine (D3' _ HGG.out).mono ?_); rintro e v4 ⟨H1, f1, rfl, ho, hg⟩)
        have hzz : w0.heap.size ≤ v3.heap.size := grew_size HGG.out
        have hbx := HX.out.lt; have hrb := HRB.out
        have HFL : Hid (Off bx (w.heap.size + 1) H1) := (fun x hx => by have h1 := (ho.block x hx).1; (try simp only [World.drew] at h1); omega)
        have HX := Lib.hid (HX.out.keep hg)
        have HRR := Lib.hid (HRR.out.keep hg)
        have HBB := Lib.hid (HBB.out.keep hg)
        have HLL : Hid (RowE enLg v4 H1 nl lg) := (by have h9 := (own_form ho).1; rw [HLN.out] at h9; exact h9)
        have HGG : Hid (Grew w0 v4) := grew_trans HGG.out hg
        clear ho hg hzz hbx hrb
        refine hK.out _ _ HGG.out (fun hHeld => ?_)
        clear hK K
        try simp only [Act.put, List.setIfInBounds_toArray, List.set_cons_zero, List.set_cons_succ]
        (refine wpAnyH_take (i := 11) (oi := { dst := some 16, op := Op.build 41 #[(0, Operand.tmp 6), (1, Operand.tmp 9), (2, Operand.tmp 12), (3, Operand.tmp 15)], type := 41, pos := "twin.go:76", after := #[{ on := 1, ground := Ground.data }, { on := 4, ground := Ground.data }, { on := 7, ground := Ground.data }, { on := 10, ground := Ground.data }], guard := none }) (v := ?_) rfl (by kernel_rfl) (by kernel_rfl) (by kernel_rfl) (fun _ _ _ h => h) (Or.inl ⟨by rfl, ?_⟩) (by assumption) ?_; rotate_left; · (intro w hSw; (try dsimp only at hSw); skip; go_simp; (first | done | with_reducible rfl)))
        try simp only [Act.put, List.setIfInBounds_toArray, List.set_cons_zero, List.set_cons_succ]
        refine wpAnyH_ready (rs := [13]) (by kernel_rfl) (by simp) ?_
        refine (AllReadyH.cons (o := { dst := none, op := Op.store 41 (Operand.tmp 3) (Operand.tmp 16), type := 0, pos := "twin.go:76", after := #[{ on := 12, ground := Ground.data }, { on := 11, ground := Ground.data }, { on := 10, ground := Ground.chain }, { on := 0, ground := Ground.phase }, { on := 1, ground := Ground.phase }, { on := 2, ground := Ground.phase }, { on := 3, ground := Ground.phase }, { on := 4, ground := Ground.phase }, { on := 5, ground := Ground.phase }, { on := 6, ground := Ground.phase }, { on := 7, ground := Ground.phase }, { on := 8, ground := Ground.phase }, { on := 9, ground := Ground.phase }, { on := 10, ground := Ground.phase }, { on := 11, ground := Ground.phase }, { on := 12, ground := Ground.phase }], guard := none }) rfl (fun K hK => ?_) AllReadyH.nil)
        obtain ⟨y0, g0, y1, g1, y2, g2, y3, g3, y4, g4, y5, g5, y6, g6, y7, g7, y8, g8, y9, g9, y10, g10, y11, g11, y12, g12, y13, g13, y14, g14⟩ := z15 HX.out
        go_simp
        refine hK.out _ _ (grew_put bx HWX.out [.int .i64 t1, .int .i64 t2, .int .i64 t3, .slice R1 r.1.length d1, .slice R2 r.2.1.length d2, .slice R3 r.2.2.length d3, .int .i64 b.1, .slice G1 b.2.1.length e1, .slice G2 b.2.2.length e2, .int .i64 last, .slice H1 nl f1, .slice none 0 0, .slice none 0 0, .slice none 0 0, .slice none 0 0] 0 _ HGG.out) (fun hHeld => ?_)
        clear hK K y0 g0 y1 g1 y2 g2 y3 g3 y4 g4 y5 g5 y6 g6 y7 g7 y8 g8 y9 g9 y10 g10 y11 g11 y12 g12 y13 g13 y14 g14
        try simp only [Act.put, List.setIfInBounds_toArray, List.set_cons_zero, List.set_cons_succ]
        have HFIN : Hid (TwA (((((((((((((((v4.setCell ⟨bx, 0, none⟩ (.int .i64 t1)).setCell ⟨bx, 1, none⟩ (.int .i64 t2)).setCell ⟨bx, 2, none⟩ (.int .i64 t3)).setCell ⟨bx, 3, none⟩ (.slice R1 r.1.length d1)).setCell ⟨bx, 4, none⟩ (.slice R2 r.2.1.length d2)).setCell ⟨bx, 5, none⟩ (.slice R3 r.2.2.length d3)).setCell ⟨bx, 6, none⟩ (.int .i64 b.1)).setCell ⟨bx, 7, none⟩ (.slice G1 b.2.1.length e1)).setCell ⟨bx, 8, none⟩ (.slice G2 b.2.2.length e2)).setCell ⟨bx, 9, none⟩ (.int .i64 last)).setCell ⟨bx, 10, none⟩ (.slice H1 nl f1)).setCell ⟨bx, 11, none⟩ (.slice none 0 0)).setCell ⟨bx, 12, none⟩ (.slice none 0 0)).setCell ⟨bx, 13, none⟩ (.slice none 0 0)).setCell ⟨bx, 14, none⟩ (.slice none 0 0)) w0 bx (w.heap.size + 1) t1 t2 t3 last r b lg nl R1 R2 R3 G1 G2 H1 d1 d2 d3 e1 e2 f1) := TwA.fin HX.out HRR.out HBB.out HLL.out HFC.out HFB.out HFL.out HGG.out HWX.out HRB.out
        clear HX HRR HBB HLL HFC HFB HFL HWX HGG hHeld
        generalize (((((((((((((((v4.setCell ⟨bx, 0, none⟩ (.int .i64 t1)).setCell ⟨bx, 1, none⟩ (.int .i64 t2)).setCell ⟨bx, 2, none⟩ (.int .i64 t3)).setCell ⟨bx, 3, none⟩ (.slice R1 r.1.length d1)).setCell ⟨bx, 4, none⟩ (.slice R2 r.2.1.length d2)).setCell ⟨bx, 5, none⟩ (.slice R3 r.2.2.length d3)).setCell ⟨bx, 6, none⟩ (.int .i64 b.1)).setCell ⟨bx, 7, none⟩ (.slice G1 b.2.1.length e1)).setCell ⟨bx, 8, none⟩ (.slice G2 b.2.2.length e2)).setCell ⟨bx, 9, none⟩ (.int .i64 last)).setCell ⟨bx, 10, none⟩ (.slice H1 nl f1)).setCell ⟨bx, 11, none⟩ (.slice none 0 0)).setCell ⟨bx, 12, none⟩ (.slice none 0 0)).setCell ⟨bx, 13, none⟩ (.slice none 0 0)).setCell ⟨bx, 14, none⟩ (.slice none 0 0)) = v5 at *
        skip
        refine wpAnyH_done (by kernel_rfl) ?_ _
        clear hHeld
        apply_assumption
        go_meet
        exact ⟨bx, R1, R2, R3, G1, G2, H1, d1, d2, d3, e1, e2, f1, rfl, HFIN.out⟩
    · go_simp
      refine hK.out _ _ (grew_drew (grew_alloc _ _ _)) (fun hHeld => ?_)
      clear hK K
      try simp only [Act.put, List.setIfInBounds_toArray, List.set_cons_zero, List.set_cons_succ]
      obtain ⟨bx, hbx⟩ : ∃ q, q = w0.heap.size := ⟨_, rfl⟩
      rw [← hbx]
      have HX : Hid (OwnC ((w0.alloc (.cells #[.int .i64 0, .int .i64 0, .int .i64 0, .slice none 0 0, .slice none 0 0, .slice none 0 0, .int .i64 0, .slice none 0 0, .slice none 0 0, .int .i64 0, .slice none 0 0, .slice none 0 0, .slice none 0 0, .slice none 0 0, .slice none 0 0] 41)).drew) bx [.int .i64 0, .int .i64 0, .int .i64 0, .slice none 0 0, .slice none 0 0, .slice none 0 0, .int .i64 0, .slice none 0 0, .slice none 0 0, .int .i64 0, .slice none 0 0, .slice none 0 0, .slice none 0 0, .slice none 0 0, .slice none 0 0]) := (OwnC.new w0 [.int .i64 0, .int .i64 0, .int .i64 0, .slice none 0 0, .slice none 0 0, .slice none 0 0, .int .i64 0, .slice none 0 0, .slice none 0 0, .int .i64 0, .slice none 0 0, .slice none 0 0, .slice none 0 0, .slice none 0 0, .slice none 0 0] _ _ hbx).drew
      have HWX : Hid (w0.heap.size ≤ bx) := by have h1 := Nat.le_refl w0.heap.size; show _ ≤ _; omega
      have HGG : Hid (Grew w0 ((w0.alloc (.cells #[.int .i64 0, .int .i64 0, .int .i64 0, .slice none 0 0, .slice none 0 0, .slice none 0 0, .int .i64 0, .slice none 0 0, .slice none 0 0, .int .i64 0, .slice none 0 0, .slice none 0 0, .slice none 0 0, .slice none 0 0, .slice none 0 0] 41)).drew)) := grew_drew (grew_alloc _ _ _)
      clear hbx hHeld
      generalize (w0.alloc (.cells #[.int .i64 0, .int .i64 0, .int .i64 0, .slice none 0 0, .slice none 0 0, .slice none 0 0, .int .i64 0, .slice none 0 0, .slice none 0 0, .int .i64 0, .slice none 0 0, .slice none 0 0, .slice none 0 0, .slice none 0 0, .slice none 0 0] 41)).drew = v1 at *
      have hHeld := HGG.out
      refine wpAnyH_ready (rs := [4]) (by kernel_rfl) (by simp) ?_
      refine (AllReadyH.cons (o := { dst := some 9, op := Op.call { callee := Callee.value (Operand.func 17), args := #[Operand.tmp 8], argTypes := #[28] }, type := 28, pos := "twin.go:76", after := #[{ on := 3, ground := Ground.data }], guard := none }) rfl (fun K hK => ?_) AllReadyH.nil)
      go_simp
      (go_at_call 17; (with_reducible refine (D1 _ HGG.out).mono ?_); rintro e v2 ⟨R1, R2, R3, d1, d2, d3, rfl, ⟨ho, -, -, -⟩, hg⟩)
      have hzz : w0.heap.size ≤ v1.heap.size := grew_size HGG.out
      have hbx := HX.out.lt; have hrb := HRB.out
      have HFC : Hid (Off bx (w.heap.size + 1) R1 ∧ Off bx (w.heap.size + 1) R2 ∧ Off bx (w.heap.size + 1) R3) := ⟨(fun x hx => by have h1 := (ho.m.block x hx).1; (try simp only [World.drew] at h1); omega), (fun x hx => by have h1 := (ho.i.block x hx).1; (try simp only [World.drew] at h1); omega), (fun x hx => by have h1 := (ho.h.block x hx).1; (try simp only [World.drew] at h1); omega)⟩
      have HX := Lib.hid (HX.out.keep hg)
      have HRR : Hid (Rows3 v2 r R1 R2 R3 r.1.length r.2.1.length r.2.2.length) := ho.rows
      have HGG : Hid (Grew w0 v2) := grew_trans HGG.out hg
      clear ho hg hzz hbx hrb
      refine hK.out _ _ HGG.out (fun hHeld => ?_)
      clear hK K
      try simp only [Act.put, List.setIfInBounds_toArray, List.set_cons_zero, List.set_cons_succ]
      refine wpAnyH_ready (rs := [7]) (by kernel_rfl) (by simp) ?_
      refine (AllReadyH.cons (o := { dst := some 12, op := Op.call { callee := Callee.value (Operand.func 18), args := #[Operand.tmp 11], argTypes := #[32] }, type := 32, pos := "twin.go:76", after := #[{ on := 6, ground := Ground.data }, { on := 4, ground := Ground.chain }], guard := none }) rfl (fun K hK => ?_) AllReadyH.nil)
      go_simp
      (go_at_call 18; (with_reducible refine (D2 _ HGG.out).mono ?_); rintro e v3 ⟨G1, G2, e1, e2, rfl, ho, hg⟩)
      have hzz : w0.heap.size ≤ v2.heap.size := grew_size HGG.out
      have hbx := HX.out.lt; have hrb := HRB.out
      have HFB : Hid (Off bx (w.heap.size + 1) G1 ∧ Off bx (w.heap.size + 1) G2) := ⟨(fun x hx => by have h1 := (ho.t.block x hx).1; (try simp only [World.drew] at h1); omega), (fun x hx => by have h1 := (ho.p.block x hx).1; (try simp only [World.drew] at h1); omega)⟩
      have HX := Lib.hid (HX.out.keep hg)
      have HRR := Lib.hid (HRR.out.keep hg)
      have HBB : Hid (InB v3 b G1 G2 b.2.1.length b.2.2.length e1 e2) := ho.in
      have HGG : Hid (Grew w0 v3) := grew_trans HGG.out hg
      clear ho hg hzz hbx hrb
      refine hK.out _ _ HGG.out (fun hHeld => ?_)
      clear hK K
      try simp only [Act.put, List.setIfInBounds_toArray, List.set_cons_zero, List.set_cons_succ]
      refine wpAnyH_ready (rs := [10]) (by kernel_rfl) (by simp) ?_
      refine (AllReadyH.cons (o := { dst := some 15, op := Op.call { callee := Callee.value (Operand.func 19), args := #[Operand.tmp 14], argTypes := #[35] }, type := 35, pos := "twin.go:76", after := #[{ on := 9, ground := Ground.data }, { on := 7, ground := Ground.chain }], guard := none }) rfl (fun K hK => ?_) AllReadyH.nil)
      go_simp
      (go_at_call 19; (with_reducible refine (D3' _ HGG.out).mono ?_); rintro e v4 ⟨H1, f1, rfl, ho, hg⟩)
      have hzz : w0.heap.size ≤ v3.heap.size := grew_size HGG.out
      have hbx := HX.out.lt; have hrb := HRB.out
      have HFL : Hid (Off bx (w.heap.size + 1) H1) := (fun x hx => by have h1 := (ho.block x hx).1; (try simp only [World.drew] at h1); omega)
      have HX := Lib.hid (HX.out.keep hg)
      have HRR := Lib.hid (HRR.out.keep hg)
      have HBB := Lib.hid (HBB.out.keep hg)
      have HLL : Hid (RowE enLg v4 H1 nl lg) := (by have h9 := (own_form ho).1; rw [HLN.out] at h9; exact h9)
      have HGG : Hid (Grew w0 v4) := grew_trans HGG.out hg
      clear ho hg hzz hbx hrb
      refine hK.out _ _ HGG.out (fun hHeld => ?_)
      clear hK K
      try simp only [Act.put, List.setIfInBounds_toArray, List.set_cons_zero, List.set_cons_succ]
      (refine wpAnyH_take (i := 11) (oi := { dst := some 16, op := Op.build 41 #[(0, Operand.tmp 6), (1, Operand.tmp 9), (2, Operand.tmp 12), (3, Operand.tmp 15)], type := 41, pos := "twin.go:76", after := #[{ on := 1, ground := Ground.data }, { on := 4, ground := Ground.data }, { on := 7, ground := Ground.data }, { on := 10, ground := Ground.data }], guard := none }) (v := ?_) rfl (by kernel_rfl) (by kernel_rfl) (by kernel_rfl) (fun _ _ _ h => h) (Or.inl ⟨by rfl, ?_⟩) (by assumption) ?_; rotate_left; · (intro w hSw; (try dsimp only at hSw); skip; go_simp; (first | done | with_reducible rfl)))
      try simp only [Act.put, List.setIfInBounds_toArray, List.set_cons_zero, List.set_cons_succ]
      refine wpAnyH_ready (rs := [13]) (by kernel_rfl) (by simp) ?_
      refine (AllReadyH.cons (o := { dst := none, op := Op.store 41 (Operand.tmp 3) (Operand.tmp 16), type := 0, pos := "twin.go:76", after := #[{ on := 12, ground := Ground.data }, { on := 11, ground := Ground.data }, { on := 10, ground := Ground.chain }, { on := 0, ground := Ground.phase }, { on := 1, ground := Ground.phase }, { on := 2, ground := Ground.phase }, { on := 3, ground := Ground.phase }, { on := 4, ground := Ground.phase }, { on := 5, ground := Ground.phase }, { on := 6, ground := Ground.phase }, { on := 7, ground := Ground.phase }, { on := 8, ground := Ground.phase }, { on := 9, ground := Ground.phase }, { on := 10, ground := Ground.phase }, { on := 11, ground := Ground.phase }, { on := 12, ground := Ground.phase }], guard := none }) rfl (fun K hK => ?_) AllReadyH.nil)
      obtain ⟨y0, g0, y1, g1, y2, g2, y3, g3, y4, g4, y5, g5, y6, g6, y7, g7, y8, g8, y9, g9, y10, g10, y11, g11, y12, g12, y13, g13, y14, g14⟩ := z15 HX.out
      go_simp
      refine hK.out _ _ (grew_put bx HWX.out [.int .i64 t1, .int .i64 t2, .int .i64 t3, .slice R1 r.1.length d1, .slice R2 r.2.1.length d2, .slice R3 r.2.2.length d3, .int .i64 b.1, .slice G1 b.2.1.length e1, .slice G2 b.2.2.length e2, .int .i64 last, .slice H1 nl f1, .slice none 0 0, .slice none 0 0, .slice none 0 0, .slice none 0 0] 0 _ HGG.out) (fun hHeld => ?_)
      clear hK K y0 g0 y1 g1 y2 g2 y3 g3 y4 g4 y5 g5 y6 g6 y7 g7 y8 g8 y9 g9 y10 g10 y11 g11 y12 g12 y13 g13 y14 g14
      try simp only [Act.put, List.setIfInBounds_toArray, List.set_cons_zero, List.set_cons_succ]
      have HFIN : Hid (TwA (((((((((((((((v4.setCell ⟨bx, 0, none⟩ (.int .i64 t1)).setCell ⟨bx, 1, none⟩ (.int .i64 t2)).setCell ⟨bx, 2, none⟩ (.int .i64 t3)).setCell ⟨bx, 3, none⟩ (.slice R1 r.1.length d1)).setCell ⟨bx, 4, none⟩ (.slice R2 r.2.1.length d2)).setCell ⟨bx, 5, none⟩ (.slice R3 r.2.2.length d3)).setCell ⟨bx, 6, none⟩ (.int .i64 b.1)).setCell ⟨bx, 7, none⟩ (.slice G1 b.2.1.length e1)).setCell ⟨bx, 8, none⟩ (.slice G2 b.2.2.length e2)).setCell ⟨bx, 9, none⟩ (.int .i64 last)).setCell ⟨bx, 10, none⟩ (.slice H1 nl f1)).setCell ⟨bx, 11, none⟩ (.slice none 0 0)).setCell ⟨bx, 12, none⟩ (.slice none 0 0)).setCell ⟨bx, 13, none⟩ (.slice none 0 0)).setCell ⟨bx, 14, none⟩ (.slice none 0 0)) w0 bx (w.heap.size + 1) t1 t2 t3 last r b lg nl R1 R2 R3 G1 G2 H1 d1 d2 d3 e1 e2 f1) := TwA.fin HX.out HRR.out HBB.out HLL.out HFC.out HFB.out HFL.out HGG.out HWX.out HRB.out
      clear HX HRR HBB HLL HFC HFB HFL HWX HGG hHeld
      generalize (((((((((((((((v4.setCell ⟨bx, 0, none⟩ (.int .i64 t1)).setCell ⟨bx, 1, none⟩ (.int .i64 t2)).setCell ⟨bx, 2, none⟩ (.int .i64 t3)).setCell ⟨bx, 3, none⟩ (.slice R1 r.1.length d1)).setCell ⟨bx, 4, none⟩ (.slice R2 r.2.1.length d2)).setCell ⟨bx, 5, none⟩ (.slice R3 r.2.2.length d3)).setCell ⟨bx, 6, none⟩ (.int .i64 b.1)).setCell ⟨bx, 7, none⟩ (.slice G1 b.2.1.length e1)).setCell ⟨bx, 8, none⟩ (.slice G2 b.2.2.length e2)).setCell ⟨bx, 9, none⟩ (.int .i64 last)).setCell ⟨bx, 10, none⟩ (.slice H1 nl f1)).setCell ⟨bx, 11, none⟩ (.slice none 0 0)).setCell ⟨bx, 12, none⟩ (.slice none 0 0)).setCell ⟨bx, 13, none⟩ (.slice none 0 0)).setCell ⟨bx, 14, none⟩ (.slice none 0 0)) = v5 at *
      skip
      refine wpAnyH_done (by kernel_rfl) ?_ _
      clear hHeld
      apply_assumption
      go_meet
      exact ⟨bx, R1, R2, R3, G1, G2, H1, d1, d2, d3, e1, e2, f1, rfl, HFIN.out⟩
  case rest =>
    obtain ⟨bx, R1, R2, R3, G1, G2, H1, d1, d2, d3, e1, e2, f1, rfl, HT⟩ := hcut
    have HO5 := Lib.hid HT.out.o
    have HR5 := Lib.hid HT.out.r
    have HG5 := Lib.hid HT.out.g
    have HX5 := Lib.hid (HX0.out.keep HG5.out)
    have HZ5 := Lib.hid (HZ0.out.keep HG5.out)
    obtain ⟨hwb, hrb⟩ := HT.out.ne
    have hrb0 := HRB.out
    clear HT D1 D2 D3' HX0 HZ0
    generalize hrbe : w.heap.size + 1 = rb at *
    have hNb : w.heap.size ≠ bx := by omega
    generalize hNe : w.heap.size = NS at *
    generalize wc = w5 at *
    have hbs5 : bx < w5.heap.size := HO5.out.lt
    have hrs5 : rb < w5.heap.size := HZ5.out.lt
    have x11 := HX5.out.at 11 (.slice P np cp) rfl
    have o11 := HO5.out.at 11 (.slice none 0 0) rfl
    go_upto_region 3 with (at_builtin; refine (wpList_append_E rfl _ _ 36 74 (vPg pg0) 24 rfl Tryz.underlying36 info_pg rfl w5.heap.size _ [] rfl (OwnE.nil enPg _ _ _) P np cp pl rfl hP (HPA.out.keep (grew_trans HG0.out HG5.out)) (by simp; unfold maxLen; omega) (by simp; omega) (Nat.le_refl _) ?_); intro v' w6x ho hb; rw [List.nil_append] at ho; obtain ⟨P2, f2, rfl, -⟩ := ho.form; rw [HPAL.out] at ho; have HNW := Lib.hid ho; have hgb := Lib.hid hb; have HXx := Lib.hid (HX5.out.keep hb); have HZx := Lib.hid (HZ5.out.keep hb); have HOx := Lib.hid (HO5.out.keep hb); have HGx := Lib.hid (grew_trans HG5.out hb); have o' := HOx.out.at 11 (.slice none 0 0) rfl; have f' := HOx.out.fr 11 (by simp); clear ho hb)
    rw [HPAL.out]
    have hpst : Past bx rb w5 (w6x.setCell ⟨bx, 11, none⟩ (.slice P2 np f2)) := ((Past.refl bx rb w5).grew hgb.out).setI 11 _
    have HR6 := Lib.hid (HR5.out.past hpst)
    have HN11 : Hid (RowO enPg (w6x.setCell ⟨bx, 11, none⟩ (.slice P2 np f2)) bx rb P2 np pl) := RowO.past ⟨(by have h9 := (own_form HNW.out).1; rw [HPAL.out] at h9; exact h9), off_of HNW.out (.inl hbs5) (.inl hrs5)⟩ ((Past.refl bx rb w6x).setI 11 _)
    have HX6 := Lib.hid (HXx.out.other ⟨bx, 11, none⟩ (.slice P2 np f2) (by show bx ≠ _; omega))
    have HZ6 := Lib.hid (HZx.out.other ⟨bx, 11, none⟩ (.slice P2 np f2) (by show bx ≠ _; omega))
    have HO6 : Hid (OwnC (w6x.setCell ⟨bx, 11, none⟩ (.slice P2 np f2)) bx [.int .i64 t1, .int .i64 t2, .int .i64 t3, .slice R1 r.1.length d1, .slice R2 r.2.1.length d2, .slice R3 r.2.2.length d3, .int .i64 b.1, .slice G1 b.2.1.length e1, .slice G2 b.2.2.length e2, .int .i64 last, .slice H1 nl f1, .slice P2 np f2, .slice none 0 0, .slice none 0 0, .slice none 0 0]) := HOx.out.set 11 (.slice P2 np f2) (by simp)
    have HG6 := Lib.hid (grew_set HGx.out (p := ⟨bx, 11, none⟩) (.slice P2 np f2) hwb)
    clear HXx HZx HOx HGx o' f' x11 o11 HX5 HZ5 HO5 HG5 HR5 hpst hgb HNW hbs5 hrs5
    generalize w6x.setCell ⟨bx, 11, none⟩ (.slice P2 np f2) = w6 at *
    have hbs6 : bx < w6.heap.size := HO6.out.lt
    have hrs6 : rb < w6.heap.size := HZ6.out.lt
    have x12 := HX6.out.at 12 (.slice Q1 u1 v1) rfl
    have o12 := HO6.out.at 12 (.slice none 0 0) rfl
    go_upto_region 4 with (at_builtin; refine (wpList_append_E rfl _ _ 37 169 (.agg #[.int .i64 0, .int .i64 0, .int .i64 0, .int .i64 0]) 32 rfl Tryz.underlying37 info_c4 rfl w6.heap.size _ [] rfl (OwnE.nil enC4 _ _ _) Q1 u1 v1 cl4 rfl hQ1 (HQA.out.keep (grew_trans HG0.out HG6.out)) (by simp; unfold maxLen; omega) (by simp; omega) (Nat.le_refl _) ?_); intro v' w7x ho hb; rw [List.nil_append] at ho; obtain ⟨Q4, f3, rfl, -⟩ := ho.form; rw [HQAL.out] at ho; have HNW := Lib.hid ho; have hgb := Lib.hid hb; have HXx := Lib.hid (HX6.out.keep hb); have HZx := Lib.hid (HZ6.out.keep hb); have HOx := Lib.hid (HO6.out.keep hb); have HGx := Lib.hid (grew_trans HG6.out hb); have o' := HOx.out.at 12 (.slice none 0 0) rfl; have f' := HOx.out.fr 12 (by simp); clear ho hb)
    rw [HQAL.out]
    have hpst : Past bx rb w6 (w7x.setCell ⟨bx, 12, none⟩ (.slice Q4 u1 f3)) := ((Past.refl bx rb w6).grew hgb.out).setI 12 _
    have HR7 := Lib.hid (HR6.out.past hpst)
    have HN11 := Lib.hid (HN11.out.past hpst)
    have HN12 : Hid (RowO enC4 (w7x.setCell ⟨bx, 12, none⟩ (.slice Q4 u1 f3)) bx rb Q4 u1 cl4) := RowO.past ⟨(by have h9 := (own_form HNW.out).1; rw [HQAL.out] at h9; exact h9), off_of HNW.out (.inl hbs6) (.inl hrs6)⟩ ((Past.refl bx rb w7x).setI 12 _)
    have HX7 := Lib.hid (HXx.out.other ⟨bx, 12, none⟩ (.slice Q4 u1 f3) (by show bx ≠ _; omega))
    have HZ7 := Lib.hid (HZx.out.other ⟨bx, 12, none⟩ (.slice Q4 u1 f3) (by show bx ≠ _; omega))
    have HO7 : Hid (OwnC (w7x.setCell ⟨bx, 12, none⟩ (.slice Q4 u1 f3)) bx [.int .i64 t1, .int .i64 t2, .int .i64 t3, .slice R1 r.1.length d1, .slice R2 r.2.1.length d2, .slice R3 r.2.2.length d3, .int .i64 b.1, .slice G1 b.2.1.length e1, .slice G2 b.2.2.length e2, .int .i64 last, .slice H1 nl f1, .slice P2 np f2, .slice Q4 u1 f3, .slice none 0 0, .slice none 0 0]) := HOx.out.set 12 (.slice Q4 u1 f3) (by simp)
    have HG7 := Lib.hid (grew_set HGx.out (p := ⟨bx, 12, none⟩) (.slice Q4 u1 f3) hwb)
    clear HXx HZx HOx HGx o' f' x12 o12 HX6 HZ6 HO6 HG6 HR6 hpst hgb HNW hbs6 hrs6
    generalize w7x.setCell ⟨bx, 12, none⟩ (.slice Q4 u1 f3) = w7 at *
    have hbs7 : bx < w7.heap.size := HO7.out.lt
    have hrs7 : rb < w7.heap.size := HZ7.out.lt
    have x13 := HX7.out.at 13 (.slice Q2 u2 v2) rfl
    have o13 := HO7.out.at 13 (.slice none 0 0) rfl
    go_upto_region 5 with (at_builtin; refine (wpList_append_E rfl _ _ 38 171 (.agg #[.int .i64 0, .int .i64 0, .int .i64 0, .int .i64 0, .int .i64 0]) 40 rfl Tryz.underlying38 info_b5 rfl w7.heap.size _ [] rfl (OwnE.nil enB5 _ _ _) Q2 u2 v2 bd5 rfl hQ2 (HBA.out.keep (grew_trans HG0.out HG7.out)) (by simp; unfold maxLen; omega) (by simp; omega) (Nat.le_refl _) ?_); intro v' w8x ho hb; rw [List.nil_append] at ho; obtain ⟨Q5, f4, rfl, -⟩ := ho.form; rw [HBAL.out] at ho; have HNW := Lib.hid ho; have hgb := Lib.hid hb; have HXx := Lib.hid (HX7.out.keep hb); have HZx := Lib.hid (HZ7.out.keep hb); have HOx := Lib.hid (HO7.out.keep hb); have HGx := Lib.hid (grew_trans HG7.out hb); have o' := HOx.out.at 13 (.slice none 0 0) rfl; have f' := HOx.out.fr 13 (by simp); clear ho hb)
    rw [HBAL.out]
    have hpst : Past bx rb w7 (w8x.setCell ⟨bx, 13, none⟩ (.slice Q5 u2 f4)) := ((Past.refl bx rb w7).grew hgb.out).setI 13 _
    have HR8 := Lib.hid (HR7.out.past hpst)
    have HN11 := Lib.hid (HN11.out.past hpst)
    have HN12 := Lib.hid (HN12.out.past hpst)
    have HN13 : Hid (RowO enB5 (w8x.setCell ⟨bx, 13, none⟩ (.slice Q5 u2 f4)) bx rb Q5 u2 bd5) := RowO.past ⟨(by have h9 := (own_form HNW.out).1; rw [HBAL.out] at h9; exact h9), off_of HNW.out (.inl hbs7) (.inl hrs7)⟩ ((Past.refl bx rb w8x).setI 13 _)
    have HX8 := Lib.hid (HXx.out.other ⟨bx, 13, none⟩ (.slice Q5 u2 f4) (by show bx ≠ _; omega))
    have HZ8 := Lib.hid (HZx.out.other ⟨bx, 13, none⟩ (.slice Q5 u2 f4) (by show bx ≠ _; omega))
    have HO8 : Hid (OwnC (w8x.setCell ⟨bx, 13, none⟩ (.slice Q5 u2 f4)) bx [.int .i64 t1, .int .i64 t2, .int .i64 t3, .slice R1 r.1.length d1, .slice R2 r.2.1.length d2, .slice R3 r.2.2.length d3, .int .i64 b.1, .slice G1 b.2.1.length e1, .slice G2 b.2.2.length e2, .int .i64 last, .slice H1 nl f1, .slice P2 np f2, .slice Q4 u1 f3, .slice Q5 u2 f4, .slice none 0 0]) := HOx.out.set 13 (.slice Q5 u2 f4) (by simp)
    have HG8 := Lib.hid (grew_set HGx.out (p := ⟨bx, 13, none⟩) (.slice Q5 u2 f4) hwb)
    clear HXx HZx HOx HGx o' f' x13 o13 HX7 HZ7 HO7 HG7 HR7 hpst hgb HNW hbs7 hrs7
    generalize w8x.setCell ⟨bx, 13, none⟩ (.slice Q5 u2 f4) = w8 at *
    have hbs8 : bx < w8.heap.size := HO8.out.lt
    have hrs8 : rb < w8.heap.size := HZ8.out.lt
    have hns8 : NS < w8.heap.size := HX8.out.lt
    have HO80 : Hid (OwnE enSe w8 w8.heap.size 65 (.slice none 0 0) []) := OwnE.nil _ _ _ _
    go_wp2
    go_loopw [4] (fun v4 wr => ∃ (j : Nat) (vs : Value) (xs : List Se7), v4 = .int .i64 j ∧ j ≤ u3 ∧ xs.length = j ∧ Hid (OwnE enSe wr w8.heap.size 65 vs xs) ∧ Hid (∀ i, i < j → TwS wr w8.heap.size vs (xs.getD i se0) (ys.getD i se0) (zs.getD i ([], [])).1 (zs.getD i ([], [])).2) ∧ Hid (OwnC wr bx [.int .i64 t1, .int .i64 t2, .int .i64 t3, .slice R1 r.1.length d1, .slice R2 r.2.1.length d2, .slice R3 r.2.2.length d3, .int .i64 b.1, .slice G1 b.2.1.length e1, .slice G2 b.2.2.length e2, .int .i64 last, .slice H1 nl f1, .slice P2 np f2, .slice Q4 u1 f3, .slice Q5 u2 f4, vs]) ∧ Hid (OwnC wr NS [.int .i64 t1, .int .i64 t2, .int .i64 t3, .slice A1 n1 c1, .slice A2 n2 c2, .slice A3 n3 c3, .int .i64 b.1, .slice E1 m1 k1, .slice E2 m2 k2, .int .i64 last, .slice L nl cl, .slice P np cp, .slice Q1 u1 v1, .slice Q2 u2 v2, .slice Q3 u3 v3]) ∧ Hid (OwnC wr rb [.int .i64 0, .int .i64 0, .int .i64 0, .slice none 0 0, .slice none 0 0, .slice none 0 0, .int .i64 0, .slice none 0 0, .slice none 0 0, .int .i64 0, .slice none 0 0, .slice none 0 0, .slice none 0 0, .slice none 0 0, .slice none 0 0]) ∧ Hid (Past bx rb w8 wr) ∧ Hid (Grew w0 wr)) (fun v4 _ => u3 - (intOf v4).toNat)
    case atStart => exact ⟨0, .slice none 0 0, [], rfl, by omega, rfl, OwnE.nil _ _ _ _, fun i hi => absurd hi (by omega), HO8.out, HX8.out, HZ8.out, Past.refl _ _ _, HG8.out⟩
    case round =>
      obtain ⟨j, vs, xs, rfl, hj, hxl, HSE, HTW, HO, HX, HZ, HPS, HGr⟩ := hrel
      have x14 := HX.out.at 14 (.slice Q3 u3 v3) rfl
      by_cases hlt : j < u3
      · obtain ⟨sb, so, rfl, hsb, hcs⟩ := HSA.out.rSe hlt
        obtain ⟨c0, c1', c2', c3', c4', c5', c6'⟩ := hcs j hlt
        have HGw := Lib.hid (grew_trans HG0.out HGr.out)
        have hsz := HGw.out.size
        have hpw : w8.heap.size ≤ wr.heap.size := HPS.out.size
        have hsi := (HSI.out j hlt).keep HGw.out
        have HYJ : Hid (ys.getD j se0 = ys.getD j se0) := rfl
        have HZJ : Hid ((zs.getD j ([], [])).1 = (zs.getD j ([], [])).1 ∧ (zs.getD j ([], [])).2 = (zs.getD j ([], [])).2) := ⟨rfl, rfl⟩
        generalize hyy : ys.getD j se0 = y at *
        have HYJ := Lib.hid hyy
        generalize hzd : (zs.getD j ([], [])).1 = yd at *
        generalize hzf : (zs.getD j ([], [])).2 = yf at *
        have HZJ : Hid ((zs.getD j ([], [])).1 = yd ∧ (zs.getD j ([], [])).2 = yf) := ⟨hzd, hzf⟩
        clear hcs hyy hzd hzf
        obtain ⟨y1, y2, y3, y4, y5, ⟨ya, yn, yc⟩, ⟨yb, ym, yk⟩⟩ := y
        dsimp only at c0 c1' c2' c3' c4' c5' c6'
        obtain ⟨hs1, hs2, hs3, hs4, hs5, hs6⟩ := hsi
        dsimp only at hs1 hs2 hs3 hs4 hs5 hs6
        have hydl := hs1.len
        have hyfl := hs2.len
        have hg2 := fun p (hp : p.block = sb) => grew_cell HGw.out (p := p) (by omega)
        have a0 := (hg2 ⟨sb, so + j * 7, none⟩ rfl).trans c0; have a1 := (hg2 ⟨sb, so + j * 7 + 1, none⟩ rfl).trans c1'; have a2 := (hg2 ⟨sb, so + j * 7 + 2, none⟩ rfl).trans c2'; have a3 := (hg2 ⟨sb, so + j * 7 + 3, none⟩ rfl).trans c3'; have a4 := (hg2 ⟨sb, so + j * 7 + 4, none⟩ rfl).trans c4'; have a5 := (hg2 ⟨sb, so + j * 7 + 5, none⟩ rfl).trans c5'; have a6 := (hg2 ⟨sb, so + j * 7 + 6, none⟩ rfl).trans c6'
        have CR := fun w' (g : Grew wr w') => twinReply_any y3 y4 y5 ya yb yn yc ym yk yd yf w' (hs1.keep g) (hs2.keep g) hs3 hs4 hs5 hs6
        unfold TwinRe at CR
        have HCELL : Hid (∀ q w', Low w8.heap.size bx wr w' → w'.cell? ⟨sb, q, none⟩ = wr.cell? ⟨sb, q, none⟩) := fun q w' g => World.cell?_of_block (w := wr) (a := ⟨sb, q, none⟩) (g.block sb (by omega) (by omega))
        have i0 : (0 : Int) ≤ (j : Int) := by omega
        have i1 : (j : Int) < (u3 : Int) := by omega
        have hw08 : w0.heap.size ≤ w8.heap.size := HG8.out.size
        clear hg2 c0 c1' c2' c3' c4' c5' c6' hs1 hs2 hs3 hs4 hs5 hs6
        go_upto_region 8 with (fail)
        refine wp_region_noPanic ?_
        refine wp_region_held_drew (S := fun w' => Low w8.heap.size bx wr w') (by kernel_rfl) (Low.grew (grew_drew (grew_refl wr)) hpw) (fun hHeld => ?_)
        (refine wpAnyH_take (i := 0) (oi := { dst := some 42, op := Op.fieldAddr 41 (Operand.tmp 3) 7, type := 0, pos := "twin.go:81", after := #[], guard := none }) (v := ?_) rfl (by kernel_rfl) (by kernel_rfl) (by kernel_rfl) (fun _ _ _ h => h) (Or.inl ⟨by rfl, ?_⟩) (by assumption) ?_; rotate_left; · (intro w hSw; (try dsimp only at hSw); skip; go_simp; (first | done | with_reducible rfl)))
        try simp only [Act.put, List.setIfInBounds_toArray, List.set_cons_zero, List.set_cons_succ]
        (refine wpAnyH_take (i := 2) (oi := { dst := some 44, op := Op.fieldAddr 41 (Operand.tmp 1) 7, type := 0, pos := "twin.go:81", after := #[], guard := none }) (v := ?_) rfl (by kernel_rfl) (by kernel_rfl) (by kernel_rfl) (fun _ _ _ h => h) (Or.inl ⟨by rfl, ?_⟩) (by assumption) ?_; rotate_left; · (intro w hSw; (try dsimp only at hSw); skip; go_simp; (first | done | with_reducible rfl)))
        try simp only [Act.put, List.setIfInBounds_toArray, List.set_cons_zero, List.set_cons_succ]
        (refine wpAnyH_take (i := 3) (oi := { dst := some 45, op := Op.load 39 (Operand.tmp 44), type := 39, pos := "twin.go:81", after := #[{ on := 2, ground := Ground.data }], guard := none }) (v := ?_) rfl (by kernel_rfl) (by kernel_rfl) (by kernel_rfl) (fun _ _ _ h => h) (Or.inl ⟨by rfl, ?_⟩) (by assumption) ?_; rotate_left; · (intro w hSw; (try dsimp only at hSw); have hs3 := (HX.out.lowC hSw hns8 hNb).at 14 (.slice (some ⟨sb, so, none⟩) u3 v3) rfl; go_simp; (first | done | with_reducible rfl)))
        try simp only [Act.put, List.setIfInBounds_toArray, List.set_cons_zero, List.set_cons_succ]
        (refine wpAnyH_take (i := 4) (oi := { dst := some 46, op := Op.move (Operand.tmp 4), type := 3, pos := "twin.go:81", after := #[], guard := none }) (v := ?_) rfl (by kernel_rfl) (by kernel_rfl) (by kernel_rfl) (fun _ _ _ h => h) (Or.inl ⟨by rfl, ?_⟩) (by assumption) ?_; rotate_left; · (intro w hSw; (try dsimp only at hSw); skip; go_simp; (first | done | with_reducible rfl)))
        try simp only [Act.put, List.setIfInBounds_toArray, List.set_cons_zero, List.set_cons_succ]
        (refine wpAnyH_take (i := 5) (oi := { dst := some 47, op := Op.indexAddr 39 (Operand.tmp 45) (Operand.tmp 46), type := 0, pos := "twin.go:81", after := #[{ on := 3, ground := Ground.data }, { on := 4, ground := Ground.data }], guard := none }) (v := ?_) rfl (by kernel_rfl) (by kernel_rfl) (by kernel_rfl) (fun _ _ _ h => h) (Or.inl ⟨by rfl, ?_⟩) (by assumption) ?_; rotate_left; · (intro w hSw; (try dsimp only at hSw); skip; go_simp; (first | done | with_reducible rfl)))
        try simp only [Act.put, List.setIfInBounds_toArray, List.set_cons_zero, List.set_cons_succ]
        (refine wpAnyH_take (i := 6) (oi := { dst := some 48, op := Op.fieldAddr 65 (Operand.tmp 47) 0, type := 0, pos := "twin.go:81", after := #[{ on := 5, ground := Ground.data }], guard := none }) (v := ?_) rfl (by kernel_rfl) (by kernel_rfl) (by kernel_rfl) (fun _ _ _ h => h) (Or.inl ⟨by rfl, ?_⟩) (by assumption) ?_; rotate_left; · (intro w hSw; (try dsimp only at hSw); skip; go_simp; (first | done | with_reducible rfl)))
        try simp only [Act.put, List.setIfInBounds_toArray, List.set_cons_zero, List.set_cons_succ]
        (refine wpAnyH_take (i := 7) (oi := { dst := some 49, op := Op.load 3 (Operand.tmp 48), type := 3, pos := "twin.go:81", after := #[{ on := 6, ground := Ground.data }], guard := none }) (v := ?_) rfl (by kernel_rfl) (by kernel_rfl) (by kernel_rfl) (fun _ _ _ h => h) (Or.inl ⟨by rfl, ?_⟩) (by assumption) ?_; rotate_left; · (intro w hSw; (try dsimp only at hSw); have hc0 := (HCELL.out (so + j * 7) _ hSw).trans a0; go_simp; (first | done | with_reducible rfl)))
        try simp only [Act.put, List.setIfInBounds_toArray, List.set_cons_zero, List.set_cons_succ]
        (refine wpAnyH_take (i := 8) (oi := { dst := some 50, op := Op.fieldAddr 41 (Operand.tmp 1) 7, type := 0, pos := "twin.go:81", after := #[], guard := none }) (v := ?_) rfl (by kernel_rfl) (by kernel_rfl) (by kernel_rfl) (fun _ _ _ h => h) (Or.inl ⟨by rfl, ?_⟩) (by assumption) ?_; rotate_left; · (intro w hSw; (try dsimp only at hSw); skip; go_simp; (first | done | with_reducible rfl)))
        try simp only [Act.put, List.setIfInBounds_toArray, List.set_cons_zero, List.set_cons_succ]
        (refine wpAnyH_take (i := 9) (oi := { dst := some 51, op := Op.load 39 (Operand.tmp 50), type := 39, pos := "twin.go:81", after := #[{ on := 8, ground := Ground.data }], guard := none }) (v := ?_) rfl (by kernel_rfl) (by kernel_rfl) (by kernel_rfl) (fun _ _ _ h => h) (Or.inl ⟨by rfl, ?_⟩) (by assumption) ?_; rotate_left; · (intro w hSw; (try dsimp only at hSw); have hs9 := (HX.out.lowC hSw hns8 hNb).at 14 (.slice (some ⟨sb, so, none⟩) u3 v3) rfl; go_simp; (first | done | with_reducible rfl)))
        try simp only [Act.put, List.setIfInBounds_toArray, List.set_cons_zero, List.set_cons_succ]
        (refine wpAnyH_take (i := 10) (oi := { dst := some 52, op := Op.move (Operand.tmp 4), type := 3, pos := "twin.go:81", after := #[], guard := none }) (v := ?_) rfl (by kernel_rfl) (by kernel_rfl) (by kernel_rfl) (fun _ _ _ h => h) (Or.inl ⟨by rfl, ?_⟩) (by assumption) ?_; rotate_left; · (intro w hSw; (try dsimp only at hSw); skip; go_simp; (first | done | with_reducible rfl)))
        try simp only [Act.put, List.setIfInBounds_toArray, List.set_cons_zero, List.set_cons_succ]
        (refine wpAnyH_take (i := 11) (oi := { dst := some 53, op := Op.indexAddr 39 (Operand.tmp 51) (Operand.tmp 52), type := 0, pos := "twin.go:81", after := #[{ on := 9, ground := Ground.data }, { on := 10, ground := Ground.data }], guard := none }) (v := ?_) rfl (by kernel_rfl) (by kernel_rfl) (by kernel_rfl) (fun _ _ _ h => h) (Or.inl ⟨by rfl, ?_⟩) (by assumption) ?_; rotate_left; · (intro w hSw; (try dsimp only at hSw); skip; go_simp; (first | done | with_reducible rfl)))
        try simp only [Act.put, List.setIfInBounds_toArray, List.set_cons_zero, List.set_cons_succ]
        (refine wpAnyH_take (i := 12) (oi := { dst := some 54, op := Op.fieldAddr 65 (Operand.tmp 53) 1, type := 0, pos := "twin.go:81", after := #[{ on := 11, ground := Ground.data }], guard := none }) (v := ?_) rfl (by kernel_rfl) (by kernel_rfl) (by kernel_rfl) (fun _ _ _ h => h) (Or.inl ⟨by rfl, ?_⟩) (by assumption) ?_; rotate_left; · (intro w hSw; (try dsimp only at hSw); skip; go_simp; (first | done | with_reducible rfl)))
        try simp only [Act.put, List.setIfInBounds_toArray, List.set_cons_zero, List.set_cons_succ]
        (refine wpAnyH_take (i := 13) (oi := { dst := some 55, op := Op.load 3 (Operand.tmp 54), type := 3, pos := "twin.go:81", after := #[{ on := 12, ground := Ground.data }], guard := none }) (v := ?_) rfl (by kernel_rfl) (by kernel_rfl) (by kernel_rfl) (fun _ _ _ h => h) (Or.inl ⟨by rfl, ?_⟩) (by assumption) ?_; rotate_left; · (intro w hSw; (try dsimp only at hSw); have hc1 := (HCELL.out (so + j * 7 + 1) _ hSw).trans a1; go_simp; (first | done | with_reducible rfl)))
        try simp only [Act.put, List.setIfInBounds_toArray, List.set_cons_zero, List.set_cons_succ]
        (refine wpAnyH_take (i := 14) (oi := { dst := some 56, op := Op.fieldAddr 41 (Operand.tmp 1) 7, type := 0, pos := "twin.go:81", after := #[], guard := none }) (v := ?_) rfl (by kernel_rfl) (by kernel_rfl) (by kernel_rfl) (fun _ _ _ h => h) (Or.inl ⟨by rfl, ?_⟩) (by assumption) ?_; rotate_left; · (intro w hSw; (try dsimp only at hSw); skip; go_simp; (first | done | with_reducible rfl)))
        try simp only [Act.put, List.setIfInBounds_toArray, List.set_cons_zero, List.set_cons_succ]
        (refine wpAnyH_take (i := 15) (oi := { dst := some 57, op := Op.load 39 (Operand.tmp 56), type := 39, pos := "twin.go:81", after := #[{ on := 14, ground := Ground.data }], guard := none }) (v := ?_) rfl (by kernel_rfl) (by kernel_rfl) (by kernel_rfl) (fun _ _ _ h => h) (Or.inl ⟨by rfl, ?_⟩) (by assumption) ?_; rotate_left; · (intro w hSw; (try dsimp only at hSw); have hs15 := (HX.out.lowC hSw hns8 hNb).at 14 (.slice (some ⟨sb, so, none⟩) u3 v3) rfl; go_simp; (first | done | with_reducible rfl)))
        try simp only [Act.put, List.setIfInBounds_toArray, List.set_cons_zero, List.set_cons_succ]
        (refine wpAnyH_take (i := 16) (oi := { dst := some 58, op := Op.move (Operand.tmp 4), type := 3, pos := "twin.go:81", after := #[], guard := none }) (v := ?_) rfl (by kernel_rfl) (by kernel_rfl) (by kernel_rfl) (fun _ _ _ h => h) (Or.inl ⟨by rfl, ?_⟩) (by assumption) ?_; rotate_left; · (intro w hSw; (try dsimp only at hSw); skip; go_simp; (first | done | with_reducible rfl)))
        try simp only [Act.put, List.setIfInBounds_toArray, List.set_cons_zero, List.set_cons_succ]
        (refine wpAnyH_take (i := 17) (oi := { dst := some 59, op := Op.indexAddr 39 (Operand.tmp 57) (Operand.tmp 58), type := 0, pos := "twin.go:81", after := #[{ on := 15, ground := Ground.data }, { on := 16, ground := Ground.data }], guard := none }) (v := ?_) rfl (by kernel_rfl) (by kernel_rfl) (by kernel_rfl) (fun _ _ _ h => h) (Or.inl ⟨by rfl, ?_⟩) (by assumption) ?_; rotate_left; · (intro w hSw; (try dsimp only at hSw); skip; go_simp; (first | done | with_reducible rfl)))
        try simp only [Act.put, List.setIfInBounds_toArray, List.set_cons_zero, List.set_cons_succ]
        (refine wpAnyH_take (i := 18) (oi := { dst := some 60, op := Op.fieldAddr 65 (Operand.tmp 59) 2, type := 0, pos := "twin.go:81", after := #[{ on := 17, ground := Ground.data }], guard := none }) (v := ?_) rfl (by kernel_rfl) (by kernel_rfl) (by kernel_rfl) (fun _ _ _ h => h) (Or.inl ⟨by rfl, ?_⟩) (by assumption) ?_; rotate_left; · (intro w hSw; (try dsimp only at hSw); skip; go_simp; (first | done | with_reducible rfl)))
        try simp only [Act.put, List.setIfInBounds_toArray, List.set_cons_zero, List.set_cons_succ]
        (refine wpAnyH_take (i := 19) (oi := { dst := some 61, op := Op.load 63 (Operand.tmp 60), type := 63, pos := "twin.go:81", after := #[{ on := 18, ground := Ground.data }], guard := none }) (v := ?_) rfl (by kernel_rfl) (by kernel_rfl) (by kernel_rfl) (fun _ _ _ h => h) (Or.inl ⟨by rfl, ?_⟩) (by assumption) ?_; rotate_left; · (intro w hSw; (try dsimp only at hSw); have hc2 := (HCELL.out (so + j * 7 + 2) _ hSw).trans a2; have hc3 := (HCELL.out (so + j * 7 + 3) _ hSw).trans a3; have hc4 := (HCELL.out (so + j * 7 + 4) _ hSw).trans a4; have hc5 := (HCELL.out (so + j * 7 + 5) _ hSw).trans a5; have hc6 := (HCELL.out (so + j * 7 + 6) _ hSw).trans a6; go_simp; (first | done | with_reducible rfl)))
        try simp only [Act.put, List.setIfInBounds_toArray, List.set_cons_zero, List.set_cons_succ]
        refine wpAnyH_ready (rs := [1, 20]) (by kernel_rfl) (by simp) ?_
        refine (AllReadyH.cons (o := { dst := some 43, op := Op.load 39 (Operand.tmp 42), type := 39, pos := "twin.go:81", after := #[{ on := 0, ground := Ground.data }], guard := none }) rfl (fun K hK => ?_) (AllReadyH.cons (o := { dst := some 62, op := Op.call { callee := Callee.value (Operand.func 20), args := #[Operand.tmp 61], argTypes := #[63] }, type := 63, pos := "twin.go:81", after := #[{ on := 19, ground := Ground.data }], guard := none }) rfl (fun K hK => ?_) AllReadyH.nil))
        · have o14 := HO.out.drew.at 14 vs rfl
          go_simp
          refine hK.out _ _ (Low.grew (grew_drew (grew_refl wr)) hpw) (fun hHeld => ?_)
          clear hK K o14
          try simp only [Act.put, List.setIfInBounds_toArray, List.set_cons_zero, List.set_cons_succ]
          refine wpAnyH_ready (rs := [20]) (by kernel_rfl) (by simp) ?_
          refine (AllReadyH.cons (o := { dst := some 62, op := Op.call { callee := Callee.value (Operand.func 20), args := #[Operand.tmp 61], argTypes := #[63] }, type := 63, pos := "twin.go:81", after := #[{ on := 19, ground := Ground.data }], guard := none }) rfl (fun K hK => ?_) AllReadyH.nil)
          go_simp
          (go_at_call 20; (with_reducible refine (CR _ (grew_drew (grew_refl wr))).mono ?_); rintro e w1 ⟨D9, F9, g8, g9, rfl, ho1, ho2, hg⟩)
          have hg1 : Grew wr w1 := grew_trans (grew_drew (grew_refl wr)) hg
          have HG1 := Lib.hid hg1
          have HO1 := Lib.hid (HO.out.keep hg1)
          have HL1 : Hid (Low w8.heap.size bx wr w1) := Low.grew hg1 hpw
          have HD1 : Hid (OwnE enD3 w1 wr.heap.size 167 (.slice D9 yn g8) yd) := ho1
          have HF1 : Hid (OwnE enF8 w1 wr.heap.size 203 (.slice F9 ym g9) yf) := ho2
          clear ho1 ho2 hg hg1 hHeld
          refine hK.out _ _ HL1.out (fun hHeld => ?_)
          clear hK K
          try simp only [Act.put, List.setIfInBounds_toArray, List.set_cons_zero, List.set_cons_succ]
          (refine wpAnyH_take (i := 21) (oi := { dst := some 63, op := Op.build 65 #[(0, Operand.tmp 49), (1, Operand.tmp 55), (2, Operand.tmp 62)], type := 65, pos := "twin.go:81", after := #[{ on := 7, ground := Ground.data }, { on := 13, ground := Ground.data }, { on := 20, ground := Ground.data }], guard := none }) (v := ?_) rfl (by kernel_rfl) (by kernel_rfl) (by kernel_rfl) (fun _ _ _ h => h) (Or.inl ⟨by rfl, ?_⟩) (by assumption) ?_; rotate_left; · (intro w hSw; (try dsimp only at hSw); skip; go_simp; (first | done | with_reducible rfl)))
          try simp only [Act.put, List.setIfInBounds_toArray, List.set_cons_zero, List.set_cons_succ]
          refine wpAnyH_ready (rs := [22]) (by kernel_rfl) (by simp) ?_
          refine (AllReadyH.cons (o := { dst := some 64, op := Op.buildSlice 39 1 #[(0, Operand.tmp 63)], type := 39, pos := "twin.go:81", after := #[{ on := 21, ground := Ground.data }], guard := none }) rfl (fun K hK => ?_) AllReadyH.nil)
          go_simp
          refine hK.out _ _ (HL1.out.below (Below.mono (grew_alloc w1 #[.int .i64 y1, .int .i64 y2, .int .i64 y3, .int .i64 y4, .int .i64 y5, .slice D9 yn g8, .slice F9 ym g9] 65) (Nat.le_trans hpw HL1.out.size))) (fun hHeld => ?_)
          clear hK K
          try simp only [Act.put, List.setIfInBounds_toArray, List.set_cons_zero, List.set_cons_succ]
          have HL2 : Hid (Low w8.heap.size bx wr (w1.alloc (.cells #[.int .i64 y1, .int .i64 y2, .int .i64 y3, .int .i64 y4, .int .i64 y5, .slice D9 yn g8, .slice F9 ym g9] 65))) := HL1.out.below (Below.mono (grew_alloc w1 _ _) (Nat.le_trans hpw HL1.out.size))
          have HO2 := Lib.hid (HO1.out.keep (grew_alloc w1 #[.int .i64 y1, .int .i64 y2, .int .i64 y3, .int .i64 y4, .int .i64 y5, .slice D9 yn g8, .slice F9 ym g9] 65))
          have HR2 : Hid (RowE enSe (w1.alloc (.cells #[.int .i64 y1, .int .i64 y2, .int .i64 y3, .int .i64 y4, .int .i64 y5, .slice D9 yn g8, .slice F9 ym g9] 65)) (some ⟨w1.heap.size, 0, none⟩) 1 [(y1, y2, y3, y4, y5, (D9, yn, g8), (F9, ym, g9))]) := RowE.one1 enSe w1 _ _ _ _ rfl rfl
          have HG2 : Hid (Grew w1 (w1.alloc (.cells #[.int .i64 y1, .int .i64 y2, .int .i64 y3, .int .i64 y4, .int .i64 y5, .slice D9 yn g8, .slice F9 ym g9] 65))) := grew_alloc _ _ _
          clear hHeld
          generalize (w1.alloc (.cells #[.int .i64 y1, .int .i64 y2, .int .i64 y3, .int .i64 y4, .int .i64 y5, .slice D9 yn g8, .slice F9 ym g9] 65)) = w2 at *
          generalize w1.heap.size = nx9 at *
          have hHeld := HL2.out
          refine wpAnyH_ready (rs := [23]) (by kernel_rfl) (by simp) ?_
          refine (AllReadyH.cons (o := { dst := some 65, op := Op.call { callee := Callee.builtin Builtin.append, args := #[Operand.tmp 43, Operand.tmp 64], argTypes := #[39, 39] }, type := 39, pos := "twin.go:81", after := #[{ on := 1, ground := Ground.data }, { on := 22, ground := Ground.data }, { on := 20, ground := Ground.chain }], guard := none }) rfl (fun K hK => ?_) AllReadyH.nil)
          refine step_append_L (E := enSe) rfl _ _ 39 65 (.agg #[.int .i64 0, .int .i64 0, .int .i64 0, .int .i64 0, .int .i64 0, .slice none 0 0, .slice none 0 0]) 88 rfl Tryz.underlying39 info_se rfl w8.heap.size vs xs rfl (HSE.out.keep (grew_trans HG1.out HG2.out)) ⟨nx9, 0, none⟩ 1 (y1, y2, y3, y4, y5, (D9, yn, g8), (F9, ym, g9)) rfl HR2.out (by unfold maxLen; omega) (by omega) (Nat.le_trans hpw HL2.out.size) ?_
          intro ga cap w3 ho3 hb3 hgr hlies
          rw [hxl] at ho3 ⊢
          refine hK.out _ _ (HL2.out.below hb3) (fun hHeld => ?_)
          clear hK K
          try simp only [Act.put, List.setIfInBounds_toArray, List.set_cons_zero, List.set_cons_succ]
          (refine wpAnyH_take (i := 24) (oi := { dst := some 66, op := Op.fieldAddr 41 (Operand.tmp 3) 7, type := 0, pos := "twin.go:81", after := #[{ on := 0, ground := Ground.phase }, { on := 1, ground := Ground.phase }, { on := 2, ground := Ground.phase }, { on := 3, ground := Ground.phase }, { on := 4, ground := Ground.phase }, { on := 5, ground := Ground.phase }, { on := 6, ground := Ground.phase }, { on := 7, ground := Ground.phase }, { on := 8, ground := Ground.phase }, { on := 9, ground := Ground.phase }, { on := 10, ground := Ground.phase }, { on := 11, ground := Ground.phase }, { on := 12, ground := Ground.phase }, { on := 13, ground := Ground.phase }, { on := 14, ground := Ground.phase }, { on := 15, ground := Ground.phase }, { on := 16, ground := Ground.phase }, { on := 17, ground := Ground.phase }, { on := 18, ground := Ground.phase }, { on := 19, ground := Ground.phase }, { on := 20, ground := Ground.phase }, { on := 21, ground := Ground.phase }, { on := 22, ground := Ground.phase }, { on := 23, ground := Ground.phase }], guard := none }) (v := ?_) rfl (by kernel_rfl) (by kernel_rfl) (by kernel_rfl) (fun _ _ _ h => h) (Or.inl ⟨by rfl, ?_⟩) (by assumption) ?_; rotate_left; · (intro w hSw; (try dsimp only at hSw); skip; go_simp; (first | done | with_reducible rfl)))
          try simp only [Act.put, List.setIfInBounds_toArray, List.set_cons_zero, List.set_cons_succ]
          refine wpAnyH_ready (rs := [25]) (by kernel_rfl) (by simp) ?_
          refine (AllReadyH.cons (o := { dst := none, op := Op.store 39 (Operand.tmp 66) (Operand.tmp 65), type := 0, pos := "twin.go:81", after := #[{ on := 24, ground := Ground.data }, { on := 23, ground := Ground.data }, { on := 23, ground := Ground.chain }, { on := 0, ground := Ground.phase }, { on := 1, ground := Ground.phase }, { on := 2, ground := Ground.phase }, { on := 3, ground := Ground.phase }, { on := 4, ground := Ground.phase }, { on := 5, ground := Ground.phase }, { on := 6, ground := Ground.phase }, { on := 7, ground := Ground.phase }, { on := 8, ground := Ground.phase }, { on := 9, ground := Ground.phase }, { on := 10, ground := Ground.phase }, { on := 11, ground := Ground.phase }, { on := 12, ground := Ground.phase }, { on := 13, ground := Ground.phase }, { on := 14, ground := Ground.phase }, { on := 15, ground := Ground.phase }, { on := 16, ground := Ground.phase }, { on := 17, ground := Ground.phase }, { on := 18, ground := Ground.phase }, { on := 19, ground := Ground.phase }, { on := 20, ground := Ground.phase }, { on := 21, ground := Ground.phase }, { on := 22, ground := Ground.phase }, { on := 23, ground := Ground.phase }], guard := none }) rfl (fun K hK => ?_) AllReadyH.nil)
          have HO3 := Lib.hid (HO2.out.below hb3 hbs8)
          have o14 := HO3.out.at 14 vs rfl
          have q14 := HO3.out.fr 14 (by simp)
          go_simp
          refine hK.out _ _ ((HL2.out.below hb3).set 14 _) (fun hHeld => ?_)
          clear hK K o14 q14
          try simp only [Act.put, List.setIfInBounds_toArray, List.set_cons_zero, List.set_cons_succ]
          have HO4 : Hid (OwnC (w3.setCell ⟨bx, 14, none⟩ (.slice (some ⟨ga, 0, none⟩) (j + 1) cap)) bx [.int .i64 t1, .int .i64 t2, .int .i64 t3, .slice R1 r.1.length d1, .slice R2 r.2.1.length d2, .slice R3 r.2.2.length d3, .int .i64 b.1, .slice G1 b.2.1.length e1, .slice G2 b.2.2.length e2, .int .i64 last, .slice H1 nl f1, .slice P2 np f2, .slice Q4 u1 f3, .slice Q5 u2 f4, .slice (some ⟨ga, 0, none⟩) (j + 1) cap]) := HO3.out.set 14 (.slice (some ⟨ga, 0, none⟩) (j + 1) cap) (by simp)
          have HSE4 : Hid (OwnE enSe (w3.setCell ⟨bx, 14, none⟩ (.slice (some ⟨ga, 0, none⟩) (j + 1) cap)) w8.heap.size 65 (.slice (some ⟨ga, 0, none⟩) (j + 1) cap) (xs ++ [(y1, y2, y3, y4, y5, (D9, yn, g8), (F9, ym, g9))])) := ho3.setO bx 14 _ (own_past ho3 hbs8)
          have HX4 : Hid (OwnC (w3.setCell ⟨bx, 14, none⟩ (.slice (some ⟨ga, 0, none⟩) (j + 1) cap)) NS [.int .i64 t1, .int .i64 t2, .int .i64 t3, .slice A1 n1 c1, .slice A2 n2 c2, .slice A3 n3 c3, .int .i64 b.1, .slice E1 m1 k1, .slice E2 m2 k2, .int .i64 last, .slice L nl cl, .slice P np cp, .slice Q1 u1 v1, .slice Q2 u2 v2, .slice (some ⟨sb, so, none⟩) u3 v3]) := (((HX.out.keep (grew_trans HG1.out HG2.out)).below hb3 hns8).other ⟨bx, 14, none⟩ _ (by show bx ≠ _; omega))
          have HZ4 : Hid (OwnC (w3.setCell ⟨bx, 14, none⟩ (.slice (some ⟨ga, 0, none⟩) (j + 1) cap)) rb [.int .i64 0, .int .i64 0, .int .i64 0, .slice none 0 0, .slice none 0 0, .slice none 0 0, .int .i64 0, .slice none 0 0, .slice none 0 0, .int .i64 0, .slice none 0 0, .slice none 0 0, .slice none 0 0, .slice none 0 0, .slice none 0 0]) := (((HZ.out.keep (grew_trans HG1.out HG2.out)).below hb3 hrs8).other ⟨bx, 14, none⟩ _ (by show bx ≠ _; omega))
          have HPS4 : Hid (Past bx rb w8 (w3.setCell ⟨bx, 14, none⟩ (.slice (some ⟨ga, 0, none⟩) (j + 1) cap))) := ((HPS.out.grew (grew_trans HG1.out HG2.out)).low hb3 (Nat.le_refl _)).setI 14 _
          have HGr4 : Hid (Grew w0 (w3.setCell ⟨bx, 14, none⟩ (.slice (some ⟨ga, 0, none⟩) (j + 1) cap))) := grew_set (Below.trans (grew_trans HGr.out (grew_trans HG1.out HG2.out)) (Below.mono hb3 hw08)) (p := ⟨bx, 14, none⟩) _ hwb
          have HTN : Hid (TwS w1 w8.heap.size vs (y1, y2, y3, y4, y5, (D9, yn, g8), (F9, ym, g9)) (y1, y2, y3, y4, y5, (ya, yn, yc), (yb, ym, yk)) yd yf) := ⟨⟨rfl, rfl, rfl, rfl, rfl, rfl, rfl⟩, (by have h9 := (own_form HD1.out).1; rw [hydl] at h9; exact h9), (by have h9 := (own_form HF1.out).1; rw [hyfl] at h9; exact h9), fun a ha => (by have h9 := HD1.out.block a ha; exact ⟨Nat.le_trans hpw h9.1, h9.2, fun e => (by have h8 := (World.ownsRow.lt HSE.out _ e).2; omega)⟩), fun a ha => (by have h9 := HF1.out.block a ha; exact ⟨Nat.le_trans hpw h9.1, h9.2, fun e => (by have h8 := (World.ownsRow.lt HSE.out _ e).2; omega)⟩)⟩
          have HTW4 : Hid (∀ i, i < j + 1 → TwS (w3.setCell ⟨bx, 14, none⟩ (.slice (some ⟨ga, 0, none⟩) (j + 1) cap)) w8.heap.size (.slice (some ⟨ga, 0, none⟩) (j + 1) cap) ((xs ++ [(y1, y2, y3, y4, y5, (D9, yn, g8), (F9, ym, g9))]).getD i se0) (ys.getD i se0) (zs.getD i ([], [])).1 (zs.getD i ([], [])).2) := fun i hi => (by
            rcases Nat.lt_or_ge i j with h9 | h9
            · rw [show (xs ++ [(y1, y2, y3, y4, y5, (D9, yn, g8), (F9, ym, g9))]).getD i se0 = xs.getD i se0 by simp only [List.getD_eq_getElem?_getD]; rw [List.getElem?_append_left (by omega)]]
              exact (HTW.out i h9).step (grew_trans HG1.out HG2.out) hgr hlies hbs8 _
            · obtain rfl : i = j := by omega
              rw [show (xs ++ [(y1, y2, y3, y4, y5, (D9, yn, g8), (F9, ym, g9))]).getD i se0 = (y1, y2, y3, y4, y5, (D9, yn, g8), (F9, ym, g9)) by simp only [List.getD_eq_getElem?_getD]; rw [List.getElem?_append_right (by omega), hxl, Nat.sub_self]; rfl, HYJ.out, HZJ.out.1, HZJ.out.2]
              exact HTN.out.step HG2.out hgr hlies hbs8 _)
          clear hHeld HO3 ho3 hb3 hgr hlies HTN HD1 HF1 HO1 HO2 HL1 HL2 HR2
          generalize (w3.setCell ⟨bx, 14, none⟩ (.slice (some ⟨ga, 0, none⟩) (j + 1) cap)) = w4 at *
          have hHeld : True := trivial
          refine wpAnyH_done (by kernel_rfl) ?_ _
          clear hHeld
          apply_assumption
          go_wp2
          go_roundw
          case rel => exact ⟨j + 1, _, _, by go_num, by omega, by rw [List.length_append, hxl]; rfl, HSE4.out, HTW4.out, HO4.out, HX4.out, HZ4.out, HPS4.out, HGr4.out⟩
          case measure => simp only [intOf]; omega
        · go_simp
          (go_at_call 20; (with_reducible refine (CR _ (grew_drew (grew_refl wr))).mono ?_); rintro e w1 ⟨D9, F9, g8, g9, rfl, ho1, ho2, hg⟩)
          have hg1 : Grew wr w1 := grew_trans (grew_drew (grew_refl wr)) hg
          have HG1 := Lib.hid hg1
          have HO1 := Lib.hid (HO.out.keep hg1)
          have HL1 : Hid (Low w8.heap.size bx wr w1) := Low.grew hg1 hpw
          have HD1 : Hid (OwnE enD3 w1 wr.heap.size 167 (.slice D9 yn g8) yd) := ho1
          have HF1 : Hid (OwnE enF8 w1 wr.heap.size 203 (.slice F9 ym g9) yf) := ho2
          clear ho1 ho2 hg hg1 hHeld
          refine hK.out _ _ HL1.out (fun hHeld => ?_)
          clear hK K
          try simp only [Act.put, List.setIfInBounds_toArray, List.set_cons_zero, List.set_cons_succ]
          (refine wpAnyH_take (i := 21) (oi := { dst := some 63, op := Op.build 65 #[(0, Operand.tmp 49), (1, Operand.tmp 55), (2, Operand.tmp 62)], type := 65, pos := "twin.go:81", after := #[{ on := 7, ground := Ground.data }, { on := 13, ground := Ground.data }, { on := 20, ground := Ground.data }], guard := none }) (v := ?_) rfl (by kernel_rfl) (by kernel_rfl) (by kernel_rfl) (fun _ _ _ h => h) (Or.inl ⟨by rfl, ?_⟩) (by assumption) ?_; rotate_left; · (intro w hSw; (try dsimp only at hSw); skip; go_simp; (first | done | with_reducible rfl)))
          try simp only [Act.put, List.setIfInBounds_toArray, List.set_cons_zero, List.set_cons_succ]
          refine wpAnyH_ready (rs := [1, 22]) (by kernel_rfl) (by simp) ?_
          refine (AllReadyH.cons (o := { dst := some 43, op := Op.load 39 (Operand.tmp 42), type := 39, pos := "twin.go:81", after := #[{ on := 0, ground := Ground.data }], guard := none }) rfl (fun K hK => ?_) (AllReadyH.cons (o := { dst := some 64, op := Op.buildSlice 39 1 #[(0, Operand.tmp 63)], type := 39, pos := "twin.go:81", after := #[{ on := 21, ground := Ground.data }], guard := none }) rfl (fun K hK => ?_) AllReadyH.nil))
          · have o14 := HO1.out.at 14 vs rfl
            go_simp
            refine hK.out _ _ (HL1.out) (fun hHeld => ?_)
            clear hK K o14
            try simp only [Act.put, List.setIfInBounds_toArray, List.set_cons_zero, List.set_cons_succ]
            refine wpAnyH_ready (rs := [22]) (by kernel_rfl) (by simp) ?_
            refine (AllReadyH.cons (o := { dst := some 64, op := Op.buildSlice 39 1 #[(0, Operand.tmp 63)], type := 39, pos := "twin.go:81", after := #[{ on := 21, ground := Ground.data }], guard := none }) rfl (fun K hK => ?_) AllReadyH.nil)
            go_simp
            refine hK.out _ _ (HL1.out.below (Below.mono (grew_alloc w1 #[.int .i64 y1, .int .i64 y2, .int .i64 y3, .int .i64 y4, .int .i64 y5, .slice D9 yn g8, .slice F9 ym g9] 65) (Nat.le_trans hpw HL1.out.size))) (fun hHeld => ?_)
            clear hK K
            try simp only [Act.put, List.setIfInBounds_toArray, List.set_cons_zero, List.set_cons_succ]
            have HL2 : Hid (Low w8.heap.size bx wr (w1.alloc (.cells #[.int .i64 y1, .int .i64 y2, .int .i64 y3, .int .i64 y4, .int .i64 y5, .slice D9 yn g8, .slice F9 ym g9] 65))) := HL1.out.below (Below.mono (grew_alloc w1 _ _) (Nat.le_trans hpw HL1.out.size))
            have HO2 := Lib.hid (HO1.out.keep (grew_alloc w1 #[.int .i64 y1, .int .i64 y2, .int .i64 y3, .int .i64 y4, .int .i64 y5, .slice D9 yn g8, .slice F9 ym g9] 65))
            have HR2 : Hid (RowE enSe (w1.alloc (.cells #[.int .i64 y1, .int .i64 y2, .int .i64 y3, .int .i64 y4, .int .i64 y5, .slice D9 yn g8, .slice F9 ym g9] 65)) (some ⟨w1.heap.size, 0, none⟩) 1 [(y1, y2, y3, y4, y5, (D9, yn, g8), (F9, ym, g9))]) := RowE.one1 enSe w1 _ _ _ _ rfl rfl
            have HG2 : Hid (Grew w1 (w1.alloc (.cells #[.int .i64 y1, .int .i64 y2, .int .i64 y3, .int .i64 y4, .int .i64 y5, .slice D9 yn g8, .slice F9 ym g9] 65))) := grew_alloc _ _ _
            clear hHeld
            generalize (w1.alloc (.cells #[.int .i64 y1, .int .i64 y2, .int .i64 y3, .int .i64 y4, .int .i64 y5, .slice D9 yn g8, .slice F9 ym g9] 65)) = w2 at *
            generalize w1.heap.size = nx9 at *
            have hHeld := HL2.out
            refine wpAnyH_ready (rs := [23]) (by kernel_rfl) (by simp) ?_
            refine (AllReadyH.cons (o := { dst := some 65, op := Op.call { callee := Callee.builtin Builtin.append, args := #[Operand.tmp 43, Operand.tmp 64], argTypes := #[39, 39] }, type := 39, pos := "twin.go:81", after := #[{ on := 1, ground := Ground.data }, { on := 22, ground := Ground.data }, { on := 20, ground := Ground.chain }], guard := none }) rfl (fun K hK => ?_) AllReadyH.nil)
            refine step_append_L (E := enSe) rfl _ _ 39 65 (.agg #[.int .i64 0, .int .i64 0, .int .i64 0, .int .i64 0, .int .i64 0, .slice none 0 0, .slice none 0 0]) 88 rfl Tryz.underlying39 info_se rfl w8.heap.size vs xs rfl (HSE.out.keep (grew_trans HG1.out HG2.out)) ⟨nx9, 0, none⟩ 1 (y1, y2, y3, y4, y5, (D9, yn, g8), (F9, ym, g9)) rfl HR2.out (by unfold maxLen; omega) (by omega) (Nat.le_trans hpw HL2.out.size) ?_
            intro ga cap w3 ho3 hb3 hgr hlies
            rw [hxl] at ho3 ⊢
            refine hK.out _ _ (HL2.out.below hb3) (fun hHeld => ?_)
            clear hK K
            try simp only [Act.put, List.setIfInBounds_toArray, List.set_cons_zero, List.set_cons_succ]
            (refine wpAnyH_take (i := 24) (oi := { dst := some 66, op := Op.fieldAddr 41 (Operand.tmp 3) 7, type := 0, pos := "twin.go:81", after := #[{ on := 0, ground := Ground.phase }, { on := 1, ground := Ground.phase }, { on := 2, ground := Ground.phase }, { on := 3, ground := Ground.phase }, { on := 4, ground := Ground.phase }, { on := 5, ground := Ground.phase }, { on := 6, ground := Ground.phase }, { on := 7, ground := Ground.phase }, { on := 8, ground := Ground.phase }, { on := 9, ground := Ground.phase }, { on := 10, ground := Ground.phase }, { on := 11, ground := Ground.phase }, { on := 12, ground := Ground.phase }, { on := 13, ground := Ground.phase }, { on := 14, ground := Ground.phase }, { on := 15, ground := Ground.phase }, { on := 16, ground := Ground.phase }, { on := 17, ground := Ground.phase }, { on := 18, ground := Ground.phase }, { on := 19, ground := Ground.phase }, { on := 20, ground := Ground.phase }, { on := 21, ground := Ground.phase }, { on := 22, ground := Ground.phase }, { on := 23, ground := Ground.phase }], guard := none }) (v := ?_) rfl (by kernel_rfl) (by kernel_rfl) (by kernel_rfl) (fun _ _ _ h => h) (Or.inl ⟨by rfl, ?_⟩) (by assumption) ?_; rotate_left; · (intro w hSw; (try dsimp only at hSw); skip; go_simp; (first | done | with_reducible rfl)))
            try simp only [Act.put, List.setIfInBounds_toArray, List.set_cons_zero, List.set_cons_succ]
            refine wpAnyH_ready (rs := [25]) (by kernel_rfl) (by simp) ?_
            refine (AllReadyH.cons (o := { dst := none, op := Op.store 39 (Operand.tmp 66) (Operand.tmp 65), type := 0, pos := "twin.go:81", after := #[{ on := 24, ground := Ground.data }, { on := 23, ground := Ground.data }, { on := 23, ground := Ground.chain }, { on := 0, ground := Ground.phase }, { on := 1, ground := Ground.phase }, { on := 2, ground := Ground.phase }, { on := 3, ground := Ground.phase }, { on := 4, ground := Ground.phase }, { on := 5, ground := Ground.phase }, { on := 6, ground := Ground.phase }, { on := 7, ground := Ground.phase }, { on := 8, ground := Ground.phase }, { on := 9, ground := Ground.phase }, { on := 10, ground := Ground.phase }, { on := 11, ground := Ground.phase }, { on := 12, ground := Ground.phase }, { on := 13, ground := Ground.phase }, { on := 14, ground := Ground.phase }, { on := 15, ground := Ground.phase }, { on := 16, ground := Ground.phase }, { on := 17, ground := Ground.phase }, { on := 18, ground := Ground.phase }, { on := 19, ground := Ground.phase }, { on := 20, ground := Ground.phase }, { on := 21, ground := Ground.phase }, { on := 22, ground := Ground.phase }, { on := 23, ground := Ground.phase }], guard := none }) rfl (fun K hK => ?_) AllReadyH.nil)
            have HO3 := Lib.hid (HO2.out.below hb3 hbs8)
            have o14 := HO3.out.at 14 vs rfl
            have q14 := HO3.out.fr 14 (by simp)
            go_simp
            refine hK.out _ _ ((HL2.out.below hb3).set 14 _) (fun hHeld => ?_)
            clear hK K o14 q14
            try simp only [Act.put, List.setIfInBounds_toArray, List.set_cons_zero, List.set_cons_succ]
            have HO4 : Hid (OwnC (w3.setCell ⟨bx, 14, none⟩ (.slice (some ⟨ga, 0, none⟩) (j + 1) cap)) bx [.int .i64 t1, .int .i64 t2, .int .i64 t3, .slice R1 r.1.length d1, .slice R2 r.2.1.length d2, .slice R3 r.2.2.length d3, .int .i64 b.1, .slice G1 b.2.1.length e1, .slice G2 b.2.2.length e2, .int .i64 last, .slice H1 nl f1, .slice P2 np f2, .slice Q4 u1 f3, .slice Q5 u2 f4, .slice (some ⟨ga, 0, none⟩) (j + 1) cap]) := HO3.out.set 14 (.slice (some ⟨ga, 0, none⟩) (j + 1) cap) (by simp)
            have HSE4 : Hid (OwnE enSe (w3.setCell ⟨bx, 14, none⟩ (.slice (some ⟨ga, 0, none⟩) (j + 1) cap)) w8.heap.size 65 (.slice (some ⟨ga, 0, none⟩) (j + 1) cap) (xs ++ [(y1, y2, y3, y4, y5, (D9, yn, g8), (F9, ym, g9))])) := ho3.setO bx 14 _ (own_past ho3 hbs8)
            have HX4 : Hid (OwnC (w3.setCell ⟨bx, 14, none⟩ (.slice (some ⟨ga, 0, none⟩) (j + 1) cap)) NS [.int .i64 t1, .int .i64 t2, .int .i64 t3, .slice A1 n1 c1, .slice A2 n2 c2, .slice A3 n3 c3, .int .i64 b.1, .slice E1 m1 k1, .slice E2 m2 k2, .int .i64 last, .slice L nl cl, .slice P np cp, .slice Q1 u1 v1, .slice Q2 u2 v2, .slice (some ⟨sb, so, none⟩) u3 v3]) := (((HX.out.keep (grew_trans HG1.out HG2.out)).below hb3 hns8).other ⟨bx, 14, none⟩ _ (by show bx ≠ _; omega))
            have HZ4 : Hid (OwnC (w3.setCell ⟨bx, 14, none⟩ (.slice (some ⟨ga, 0, none⟩) (j + 1) cap)) rb [.int .i64 0, .int .i64 0, .int .i64 0, .slice none 0 0, .slice none 0 0, .slice none 0 0, .int .i64 0, .slice none 0 0, .slice none 0 0, .int .i64 0, .slice none 0 0, .slice none 0 0, .slice none 0 0, .slice none 0 0, .slice none 0 0]) := (((HZ.out.keep (grew_trans HG1.out HG2.out)).below hb3 hrs8).other ⟨bx, 14, none⟩ _ (by show bx ≠ _; omega))
            have HPS4 : Hid (Past bx rb w8 (w3.setCell ⟨bx, 14, none⟩ (.slice (some ⟨ga, 0, none⟩) (j + 1) cap))) := ((HPS.out.grew (grew_trans HG1.out HG2.out)).low hb3 (Nat.le_refl _)).setI 14 _
            have HGr4 : Hid (Grew w0 (w3.setCell ⟨bx, 14, none⟩ (.slice (some ⟨ga, 0, none⟩) (j + 1) cap))) := grew_set (Below.trans (grew_trans HGr.out (grew_trans HG1.out HG2.out)) (Below.mono hb3 hw08)) (p := ⟨bx, 14, none⟩) _ hwb
            have HTN : Hid (TwS w1 w8.heap.size vs (y1, y2, y3, y4, y5, (D9, yn, g8), (F9, ym, g9)) (y1, y2, y3, y4, y5, (ya, yn, yc), (yb, ym, yk)) yd yf) := ⟨⟨rfl, rfl, rfl, rfl, rfl, rfl, rfl⟩, (by have h9 := (own_form HD1.out).1; rw [hydl] at h9; exact h9), (by have h9 := (own_form HF1.out).1; rw [hyfl] at h9; exact h9), fun a ha => (by have h9 := HD1.out.block a ha; exact ⟨Nat.le_trans hpw h9.1, h9.2, fun e => (by have h8 := (World.ownsRow.lt HSE.out _ e).2; omega)⟩), fun a ha => (by have h9 := HF1.out.block a ha; exact ⟨Nat.le_trans hpw h9.1, h9.2, fun e => (by have h8 := (World.ownsRow.lt HSE.out _ e).2; omega)⟩)⟩
            have HTW4 : Hid (∀ i, i < j + 1 → TwS (w3.setCell ⟨bx, 14, none⟩ (.slice (some ⟨ga, 0, none⟩) (j + 1) cap)) w8.heap.size (.slice (some ⟨ga, 0, none⟩) (j + 1) cap) ((xs ++ [(y1, y2, y3, y4, y5, (D9, yn, g8), (F9, ym, g9))]).getD i se0) (ys.getD i se0) (zs.getD i ([], [])).1 (zs.getD i ([], [])).2) := fun i hi => (by
              rcases Nat.lt_or_ge i j with h9 | h9
              · rw [show (xs ++ [(y1, y2, y3, y4, y5, (D9, yn, g8), (F9, ym, g9))]).getD i se0 = xs.getD i se0 by simp only [List.getD_eq_getElem?_getD]; rw [List.getElem?_append_left (by omega)]]
                exact (HTW.out i h9).step (grew_trans HG1.out HG2.out) hgr hlies hbs8 _
              · obtain rfl : i = j := by omega
                rw [show (xs ++ [(y1, y2, y3, y4, y5, (D9, yn, g8), (F9, ym, g9))]).getD i se0 = (y1, y2, y3, y4, y5, (D9, yn, g8), (F9, ym, g9)) by simp only [List.getD_eq_getElem?_getD]; rw [List.getElem?_append_right (by omega), hxl, Nat.sub_self]; rfl, HYJ.out, HZJ.out.1, HZJ.out.2]
                exact HTN.out.step HG2.out hgr hlies hbs8 _)
            clear hHeld HO3 ho3 hb3 hgr hlies HTN HD1 HF1 HO1 HO2 HL1 HL2 HR2
            generalize (w3.setCell ⟨bx, 14, none⟩ (.slice (some ⟨ga, 0, none⟩) (j + 1) cap)) = w4 at *
            have hHeld : True := trivial
            refine wpAnyH_done (by kernel_rfl) ?_ _
            clear hHeld
            apply_assumption
            go_wp2
            go_roundw
            case rel => exact ⟨j + 1, _, _, by go_num, by omega, by rw [List.length_append, hxl]; rfl, HSE4.out, HTW4.out, HO4.out, HX4.out, HZ4.out, HPS4.out, HGr4.out⟩
            case measure => simp only [intOf]; omega
          · go_simp
            refine hK.out _ _ (HL1.out.below (Below.mono (grew_alloc w1 #[.int .i64 y1, .int .i64 y2, .int .i64 y3, .int .i64 y4, .int .i64 y5, .slice D9 yn g8, .slice F9 ym g9] 65) (Nat.le_trans hpw HL1.out.size))) (fun hHeld => ?_)
            clear hK K
            try simp only [Act.put, List.setIfInBounds_toArray, List.set_cons_zero, List.set_cons_succ]
            have HL2 : Hid (Low w8.heap.size bx wr (w1.alloc (.cells #[.int .i64 y1, .int .i64 y2, .int .i64 y3, .int .i64 y4, .int .i64 y5, .slice D9 yn g8, .slice F9 ym g9] 65))) := HL1.out.below (Below.mono (grew_alloc w1 _ _) (Nat.le_trans hpw HL1.out.size))
            have HO2 := Lib.hid (HO1.out.keep (grew_alloc w1 #[.int .i64 y1, .int .i64 y2, .int .i64 y3, .int .i64 y4, .int .i64 y5, .slice D9 yn g8, .slice F9 ym g9] 65))
            have HR2 : Hid (RowE enSe (w1.alloc (.cells #[.int .i64 y1, .int .i64 y2, .int .i64 y3, .int .i64 y4, .int .i64 y5, .slice D9 yn g8, .slice F9 ym g9] 65)) (some ⟨w1.heap.size, 0, none⟩) 1 [(y1, y2, y3, y4, y5, (D9, yn, g8), (F9, ym, g9))]) := RowE.one1 enSe w1 _ _ _ _ rfl rfl
            have HG2 : Hid (Grew w1 (w1.alloc (.cells #[.int .i64 y1, .int .i64 y2, .int .i64 y3, .int .i64 y4, .int .i64 y5, .slice D9 yn g8, .slice F9 ym g9] 65))) := grew_alloc _ _ _
            clear hHeld
            generalize (w1.alloc (.cells #[.int .i64 y1, .int .i64 y2, .int .i64 y3, .int .i64 y4, .int .i64 y5, .slice D9 yn g8, .slice F9 ym g9] 65)) = w2 at *
            generalize w1.heap.size = nx9 at *
            have hHeld := HL2.out
            refine wpAnyH_ready (rs := [1]) (by kernel_rfl) (by simp) ?_
            refine (AllReadyH.cons (o := { dst := some 43, op := Op.load 39 (Operand.tmp 42), type := 39, pos := "twin.go:81", after := #[{ on := 0, ground := Ground.data }], guard := none }) rfl (fun K hK => ?_) AllReadyH.nil)
            have o14 := HO2.out.at 14 vs rfl
            go_simp
            refine hK.out _ _ (HL2.out) (fun hHeld => ?_)
            clear hK K o14
            try simp only [Act.put, List.setIfInBounds_toArray, List.set_cons_zero, List.set_cons_succ]
            refine wpAnyH_ready (rs := [23]) (by kernel_rfl) (by simp) ?_
            refine (AllReadyH.cons (o := { dst := some 65, op := Op.call { callee := Callee.builtin Builtin.append, args := #[Operand.tmp 43, Operand.tmp 64], argTypes := #[39, 39] }, type := 39, pos := "twin.go:81", after := #[{ on := 1, ground := Ground.data }, { on := 22, ground := Ground.data }, { on := 20, ground := Ground.chain }], guard := none }) rfl (fun K hK => ?_) AllReadyH.nil)
            refine step_append_L (E := enSe) rfl _ _ 39 65 (.agg #[.int .i64 0, .int .i64 0, .int .i64 0, .int .i64 0, .int .i64 0, .slice none 0 0, .slice none 0 0]) 88 rfl Tryz.underlying39 info_se rfl w8.heap.size vs xs rfl (HSE.out.keep (grew_trans HG1.out HG2.out)) ⟨nx9, 0, none⟩ 1 (y1, y2, y3, y4, y5, (D9, yn, g8), (F9, ym, g9)) rfl HR2.out (by unfold maxLen; omega) (by omega) (Nat.le_trans hpw HL2.out.size) ?_
            intro ga cap w3 ho3 hb3 hgr hlies
            rw [hxl] at ho3 ⊢
            refine hK.out _ _ (HL2.out.below hb3) (fun hHeld => ?_)
            clear hK K
            try simp only [Act.put, List.setIfInBounds_toArray, List.set_cons_zero, List.set_cons_succ]
            (refine wpAnyH_take (i := 24) (oi := { dst := some 66, op := Op.fieldAddr 41 (Operand.tmp 3) 7, type := 0, pos := "twin.go:81", after := #[{ on := 0, ground := Ground.phase }, { on := 1, ground := Ground.phase }, { on := 2, ground := Ground.phase }, { on := 3, ground := Ground.phase }, { on := 4, ground := Ground.phase }, { on := 5, ground := Ground.phase }, { on := 6, ground := Ground.phase }, { on := 7, ground := Ground.phase }, { on := 8, ground := Ground.phase }, { on := 9, ground := Ground.phase }, { on := 10, ground := Ground.phase }, { on := 11, ground := Ground.phase }, { on := 12, ground := Ground.phase }, { on := 13, ground := Ground.phase }, { on := 14, ground := Ground.phase }, { on := 15, ground := Ground.phase }, { on := 16, ground := Ground.phase }, { on := 17, ground := Ground.phase }, { on := 18, ground := Ground.phase }, { on := 19, ground := Ground.phase }, { on := 20, ground := Ground.phase }, { on := 21, ground := Ground.phase }, { on := 22, ground := Ground.phase }, { on := 23, ground := Ground.phase }], guard := none }) (v := ?_) rfl (by kernel_rfl) (by kernel_rfl) (by kernel_rfl) (fun _ _ _ h => h) (Or.inl ⟨by rfl, ?_⟩) (by assumption) ?_; rotate_left; · (intro w hSw; (try dsimp only at hSw); skip; go_simp; (first | done | with_reducible rfl)))
            try simp only [Act.put, List.setIfInBounds_toArray, List.set_cons_zero, List.set_cons_succ]
            refine wpAnyH_ready (rs := [25]) (by kernel_rfl) (by simp) ?_
            refine (AllReadyH.cons (o := { dst := none, op := Op.store 39 (Operand.tmp 66) (Operand.tmp 65), type := 0, pos := "twin.go:81", after := #[{ on := 24, ground := Ground.data }, { on := 23, ground := Ground.data }, { on := 23, ground := Ground.chain }, { on := 0, ground := Ground.phase }, { on := 1, ground := Ground.phase }, { on := 2, ground := Ground.phase }, { on := 3, ground := Ground.phase }, { on := 4, ground := Ground.phase }, { on := 5, ground := Ground.phase }, { on := 6, ground := Ground.phase }, { on := 7, ground := Ground.phase }, { on := 8, ground := Ground.phase }, { on := 9, ground := Ground.phase }, { on := 10, ground := Ground.phase }, { on := 11, ground := Ground.phase }, { on := 12, ground := Ground.phase }, { on := 13, ground := Ground.phase }, { on := 14, ground := Ground.phase }, { on := 15, ground := Ground.phase }, { on := 16, ground := Ground.phase }, { on := 17, ground := Ground.phase }, { on := 18, ground := Ground.phase }, { on := 19, ground := Ground.phase }, { on := 20, ground := Ground.phase }, { on := 21, ground := Ground.phase }, { on := 22, ground := Ground.phase }, { on := 23, ground := Ground.phase }], guard := none }) rfl (fun K hK => ?_) AllReadyH.nil)
            have HO3 := Lib.hid (HO2.out.below hb3 hbs8)
            have o14 := HO3.out.at 14 vs rfl
            have q14 := HO3.out.fr 14 (by simp)
            go_simp
            refine hK.out _ _ ((HL2.out.below hb3).set 14 _) (fun hHeld => ?_)
            clear hK K o14 q14
            try simp only [Act.put, List.setIfInBounds_toArray, List.set_cons_zero, List.set_cons_succ]
            have HO4 : Hid (OwnC (w3.setCell ⟨bx, 14, none⟩ (.slice (some ⟨ga, 0, none⟩) (j + 1) cap)) bx [.int .i64 t1, .int .i64 t2, .int .i64 t3, .slice R1 r.1.length d1, .slice R2 r.2.1.length d2, .slice R3 r.2.2.length d3, .int .i64 b.1, .slice G1 b.2.1.length e1, .slice G2 b.2.2.length e2, .int .i64 last, .slice H1 nl f1, .slice P2 np f2, .slice Q4 u1 f3, .slice Q5 u2 f4, .slice (some ⟨ga, 0, none⟩) (j + 1) cap]) := HO3.out.set 14 (.slice (some ⟨ga, 0, none⟩) (j + 1) cap) (by simp)
            have HSE4 : Hid (OwnE enSe (w3.setCell ⟨bx, 14, none⟩ (.slice (some ⟨ga, 0, none⟩) (j + 1) cap)) w8.heap.size 65 (.slice (some ⟨ga, 0, none⟩) (j + 1) cap) (xs ++ [(y1, y2, y3, y4, y5, (D9, yn, g8), (F9, ym, g9))])) := ho3.setO bx 14 _ (own_past ho3 hbs8)
            have HX4 : Hid (OwnC (w3.setCell ⟨bx, 14, none⟩ (.slice (some ⟨ga, 0, none⟩) (j + 1) cap)) NS [.int .i64 t1, .int .i64 t2, .int .i64 t3, .slice A1 n1 c1, .slice A2 n2 c2, .slice A3 n3 c3, .int .i64 b.1, .slice E1 m1 k1, .slice E2 m2 k2, .int .i64 last, .slice L nl cl, .slice P np cp, .slice Q1 u1 v1, .slice Q2 u2 v2, .slice (some ⟨sb, so, none⟩) u3 v3]) := (((HX.out.keep (grew_trans HG1.out HG2.out)).below hb3 hns8).other ⟨bx, 14, none⟩ _ (by show bx ≠ _; omega))
            have HZ4 : Hid (OwnC (w3.setCell ⟨bx, 14, none⟩ (.slice (some ⟨ga, 0, none⟩) (j + 1) cap)) rb [.int .i64 0, .int .i64 0, .int .i64 0, .slice none 0 0, .slice none 0 0, .slice none 0 0, .int .i64 0, .slice none 0 0, .slice none 0 0, .int .i64 0, .slice none 0 0, .slice none 0 0, .slice none 0 0, .slice none 0 0, .slice none 0 0]) := (((HZ.out.keep (grew_trans HG1.out HG2.out)).below hb3 hrs8).other ⟨bx, 14, none⟩ _ (by show bx ≠ _; omega))
            have HPS4 : Hid (Past bx rb w8 (w3.setCell ⟨bx, 14, none⟩ (.slice (some ⟨ga, 0, none⟩) (j + 1) cap))) := ((HPS.out.grew (grew_trans HG1.out HG2.out)).low hb3 (Nat.le_refl _)).setI 14 _
            have HGr4 : Hid (Grew w0 (w3.setCell ⟨bx, 14, none⟩ (.slice (some ⟨ga, 0, none⟩) (j + 1) cap))) := grew_set (Below.trans (grew_trans HGr.out (grew_trans HG1.out HG2.out)) (Below.mono hb3 hw08)) (p := ⟨bx, 14, none⟩) _ hwb
            have HTN : Hid (TwS w1 w8.heap.size vs (y1, y2, y3, y4, y5, (D9, yn, g8), (F9, ym, g9)) (y1, y2, y3, y4, y5, (ya, yn, yc), (yb, ym, yk)) yd yf) := ⟨⟨rfl, rfl, rfl, rfl, rfl, rfl, rfl⟩, (by have h9 := (own_form HD1.out).1; rw [hydl] at h9; exact h9), (by have h9 := (own_form HF1.out).1; rw [hyfl] at h9; exact h9), fun a ha => (by have h9 := HD1.out.block a ha; exact ⟨Nat.le_trans hpw h9.1, h9.2, fun e => (by have h8 := (World.ownsRow.lt HSE.out _ e).2; omega)⟩), fun a ha => (by have h9 := HF1.out.block a ha; exact ⟨Nat.le_trans hpw h9.1, h9.2, fun e => (by have h8 := (World.ownsRow.lt HSE.out _ e).2; omega)⟩)⟩
            have HTW4 : Hid (∀ i, i < j + 1 → TwS (w3.setCell ⟨bx, 14, none⟩ (.slice (some ⟨ga, 0, none⟩) (j + 1) cap)) w8.heap.size (.slice (some ⟨ga, 0, none⟩) (j + 1) cap) ((xs ++ [(y1, y2, y3, y4, y5, (D9, yn, g8), (F9, ym, g9))]).getD i se0) (ys.getD i se0) (zs.getD i ([], [])).1 (zs.getD i ([], [])).2) := fun i hi => (by
              rcases Nat.lt_or_ge i j with h9 | h9
              · rw [show (xs ++ [(y1, y2, y3, y4, y5, (D9, yn, g8), (F9, ym, g9))]).getD i se0 = xs.getD i se0 by simp only [List.getD_eq_getElem?_getD]; rw [List.getElem?_append_left (by omega)]]
                exact (HTW.out i h9).step (grew_trans HG1.out HG2.out) hgr hlies hbs8 _
              · obtain rfl : i = j := by omega
                rw [show (xs ++ [(y1, y2, y3, y4, y5, (D9, yn, g8), (F9, ym, g9))]).getD i se0 = (y1, y2, y3, y4, y5, (D9, yn, g8), (F9, ym, g9)) by simp only [List.getD_eq_getElem?_getD]; rw [List.getElem?_append_right (by omega), hxl, Nat.sub_self]; rfl, HYJ.out, HZJ.out.1, HZJ.out.2]
                exact HTN.out.step HG2.out hgr hlies hbs8 _)
            clear hHeld HO3 ho3 hb3 hgr hlies HTN HD1 HF1 HO1 HO2 HL1 HL2 HR2
            generalize (w3.setCell ⟨bx, 14, none⟩ (.slice (some ⟨ga, 0, none⟩) (j + 1) cap)) = w4 at *
            have hHeld : True := trivial
            refine wpAnyH_done (by kernel_rfl) ?_ _
            clear hHeld
            apply_assumption
            go_wp2
            go_roundw
            case rel => exact ⟨j + 1, _, _, by go_num, by omega, by rw [List.length_append, hxl]; rfl, HSE4.out, HTW4.out, HO4.out, HX4.out, HZ4.out, HPS4.out, HGr4.out⟩
            case measure => simp only [intOf]; omega
      · obtain rfl : j = u3 := by omega
        obtain ⟨Q6, f5, rfl, -⟩ := HSE.out.form
        rw [hxl] at HSE HO
        have hq3 := (own_form HSE.out).1
        rw [hxl] at hq3
        have o0 := HO.out.at 0 (.int .i64 t1) rfl; have o1 := HO.out.at 1 (.int .i64 t2) rfl; have o2 := HO.out.at 2 (.int .i64 t3) rfl; have o3 := HO.out.at 3 (.slice R1 r.1.length d1) rfl; have o4 := HO.out.at 4 (.slice R2 r.2.1.length d2) rfl; have o5 := HO.out.at 5 (.slice R3 r.2.2.length d3) rfl; have o6 := HO.out.at 6 (.int .i64 b.1) rfl; have o7 := HO.out.at 7 (.slice G1 b.2.1.length e1) rfl; have o8 := HO.out.at 8 (.slice G2 b.2.2.length e2) rfl; have o9 := HO.out.at 9 (.int .i64 last) rfl; have o10 := HO.out.at 10 (.slice H1 nl f1) rfl; have o11 := HO.out.at 11 (.slice P2 np f2) rfl; have o12 := HO.out.at 12 (.slice Q4 u1 f3) rfl; have o13 := HO.out.at 13 (.slice Q5 u2 f4) rfl; have o14 := HO.out.at 14 (.slice Q6 j f5) rfl
        obtain ⟨z0, g0, z1, g1, z2, g2, z3, g3, z4, g4, z5, g5, z6, g6, z7, g7, z8, g8, z9, g9, z10, g10, z11, g11, z12, g12, z13, g13, z14, g14⟩ := z15 HZ.out
        have HGend := Lib.hid (grew_trans HG0.out HGr.out)
        have hrw : w.heap.size ≤ rb := by omega
        clear HO80 HO8 HX8 HZ8 HG8
        go_wp2
        have HP := HZ.out.all [.int .i64 t1, .int .i64 t2, .int .i64 t3, .slice R1 r.1.length d1, .slice R2 r.2.1.length d2, .slice R3 r.2.2.length d3, .int .i64 b.1, .slice G1 b.2.1.length e1, .slice G2 b.2.2.length e2, .int .i64 last, .slice H1 nl f1, .slice P2 np f2, .slice Q4 u1 f3, .slice Q5 u2 f4, .slice Q6 j f5] rfl
        have HGP := grew_put rb hrw [.int .i64 t1, .int .i64 t2, .int .i64 t3, .slice R1 r.1.length d1, .slice R2 r.2.1.length d2, .slice R3 r.2.2.length d3, .int .i64 b.1, .slice G1 b.2.1.length e1, .slice G2 b.2.2.length e2, .int .i64 last, .slice H1 nl f1, .slice P2 np f2, .slice Q4 u1 f3, .slice Q5 u2 f4, .slice Q6 j f5] 0 _ HGend.out
        have hpp : Past bx rb wr (putC wr rb 0 [.int .i64 t1, .int .i64 t2, .int .i64 t3, .slice R1 r.1.length d1, .slice R2 r.2.1.length d2, .slice R3 r.2.2.length d3, .int .i64 b.1, .slice G1 b.2.1.length e1, .slice G2 b.2.2.length e2, .int .i64 last, .slice H1 nl f1, .slice P2 np f2, .slice Q4 u1 f3, .slice Q5 u2 f4, .slice Q6 j f5]) := Past.putR [.int .i64 t1, .int .i64 t2, .int .i64 t3, .slice R1 r.1.length d1, .slice R2 r.2.1.length d2, .slice R3 r.2.2.length d3, .int .i64 b.1, .slice G1 b.2.1.length e1, .slice G2 b.2.2.length e2, .int .i64 last, .slice H1 nl f1, .slice P2 np f2, .slice Q4 u1 f3, .slice Q5 u2 f4, .slice Q6 j f5] 0 _ (Past.refl bx rb wr)
        have hpw8 : Past bx rb w8 (putC wr rb 0 [.int .i64 t1, .int .i64 t2, .int .i64 t3, .slice R1 r.1.length d1, .slice R2 r.2.1.length d2, .slice R3 r.2.2.length d3, .int .i64 b.1, .slice G1 b.2.1.length e1, .slice G2 b.2.2.length e2, .int .i64 last, .slice H1 nl f1, .slice P2 np f2, .slice Q4 u1 f3, .slice Q5 u2 f4, .slice Q6 j f5]) := HPS.out.trans hpp
        have hend : TwF (putC wr rb 0 [.int .i64 t1, .int .i64 t2, .int .i64 t3, .slice R1 r.1.length d1, .slice R2 r.2.1.length d2, .slice R3 r.2.2.length d3, .int .i64 b.1, .slice G1 b.2.1.length e1, .slice G2 b.2.2.length e2, .int .i64 last, .slice H1 nl f1, .slice P2 np f2, .slice Q4 u1 f3, .slice Q5 u2 f4, .slice Q6 j f5]) r b lg nl pl np cl4 u1 bd5 u2 j ys zs R1 R2 R3 G1 G2 H1 P2 Q4 Q5 Q6 e1 e2 xs := by
          have h8 := HR8.out.past hpw8
          exact ⟨h8.r, h8.b, h8.l, (HN11.out.past hpw8).1, (HN12.out.past hpw8).1, (HN13.out.past hpw8).1, hq3.past hpp (off_of HSE.out (.inl hbs8) (.inl hrs8)), fun i hi => ⟨(HTW.out i hi).i, (HTW.out i hi).pastR hpp hbs8 hrs8⟩⟩
        have HEND := Lib.hid hend
        have HGP2 := Lib.hid HGP
        clear hend hpp hpw8 HGP
        change bodyPost _ _ _ _ _ (putC wr rb 0 [.int .i64 t1, .int .i64 t2, .int .i64 t3, .slice R1 r.1.length d1, .slice R2 r.2.1.length d2, .slice R3 r.2.2.length d3, .int .i64 b.1, .slice G1 b.2.1.length e1, .slice G2 b.2.2.length e2, .int .i64 last, .slice H1 nl f1, .slice P2 np f2, .slice Q4 u1 f3, .slice Q5 u2 f4, .slice Q6 j f5])
        generalize putC wr rb 0 [.int .i64 t1, .int .i64 t2, .int .i64 t3, .slice R1 r.1.length d1, .slice R2 r.2.1.length d2, .slice R3 r.2.2.length d3, .int .i64 b.1, .slice G1 b.2.1.length e1, .slice G2 b.2.2.length e2, .int .i64 last, .slice H1 nl f1, .slice P2 np f2, .slice Q4 u1 f3, .slice Q5 u2 f4, .slice Q6 j f5] = w9 at *
        have y0 : w9.cell? ⟨rb, 0, none⟩ = _ := HP.at 0 _ rfl; have y1 : w9.cell? ⟨rb, 1, none⟩ = _ := HP.at 1 _ rfl; have y2 : w9.cell? ⟨rb, 2, none⟩ = _ := HP.at 2 _ rfl; have y3 : w9.cell? ⟨rb, 3, none⟩ = _ := HP.at 3 _ rfl; have y4 : w9.cell? ⟨rb, 4, none⟩ = _ := HP.at 4 _ rfl; have y5 : w9.cell? ⟨rb, 5, none⟩ = _ := HP.at 5 _ rfl; have y6 : w9.cell? ⟨rb, 6, none⟩ = _ := HP.at 6 _ rfl; have y7 : w9.cell? ⟨rb, 7, none⟩ = _ := HP.at 7 _ rfl; have y8 : w9.cell? ⟨rb, 8, none⟩ = _ := HP.at 8 _ rfl; have y9 : w9.cell? ⟨rb, 9, none⟩ = _ := HP.at 9 _ rfl; have y10 : w9.cell? ⟨rb, 10, none⟩ = _ := HP.at 10 _ rfl; have y11 : w9.cell? ⟨rb, 11, none⟩ = _ := HP.at 11 _ rfl; have y12 : w9.cell? ⟨rb, 12, none⟩ = _ := HP.at 12 _ rfl; have y13 : w9.cell? ⟨rb, 13, none⟩ = _ := HP.at 13 _ rfl; have y14 : w9.cell? ⟨rb, 14, none⟩ = _ := HP.at 14 _ rfl
        refine bodyPost_ret (v := .agg #[.int .i64 t1, .int .i64 t2, .int .i64 t3, .slice R1 r.1.length d1, .slice R2 r.2.1.length d2, .slice R3 r.2.2.length d3, .int .i64 b.1, .slice G1 b.2.1.length e1, .slice G2 b.2.2.length e2, .int .i64 last, .slice H1 nl f1, .slice P2 np f2, .slice Q4 u1 f3, .slice Q5 u2 f4, .slice Q6 j f5]) (by simp [results, Tryz.results6, go_sem, y0, y1, y2, y3, y4, y5, y6, y7, y8, y9, y10, y11, y12, y13, y14]) rfl ?_
        exact ⟨R1, R2, R3, G1, G2, H1, P2, Q4, Q5, Q6, d1, d2, d3, e1, e2, f1, f2, f3, f4, f5, xs, rfl, HEND.out, HGP2.out⟩

end Go.Proofs.YtodnllopokoicaaGreat.NumK
