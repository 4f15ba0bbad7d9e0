/- Worlds in which all blocks but some stay; rows of blocks of bytes; the open writes; a disk in memory. -/
import Derived.Test.YtgaopkfdbglnmaaArrEq
import Derived.Test.YtgaopkfdbglnmaaDiskMath
import Derived.Deep.MidRow
import Derived.Deep.AppendLies
import Derived.Deep.WholeRow
namespace Go.Proofs.Ytgaopkfdbglnmaa.NumK
open Go.RowKit

/-! ### worlds -/
structure Chg (F : Nat → Prop) (w w' : World) : Prop where
  os : w'.os = w.os
  tape : w'.tape = w.tape
  output : w'.output = w.output
  size : w.heap.size ≤ w'.heap.size
  block : ∀ k, k < w.heap.size → ¬ F k → w'.heap[k]? = w.heap[k]?
theorem Chg.refl (F : Nat → Prop) (w : World) : Chg F w w := ⟨rfl, rfl, rfl, Nat.le_refl _, fun _ _ _ => rfl⟩
theorem Chg.trans {F : Nat → Prop} {a b c : World} (h : Chg F a b) (k : Chg F b c) : Chg F a c :=
  ⟨k.os.trans h.os, k.tape.trans h.tape, k.output.trans h.output, Nat.le_trans h.size k.size, fun i hi hn => (k.block i (Nat.lt_of_lt_of_le hi h.size) hn).trans (h.block i hi hn)⟩
/-- What the second step turns may also be new. -/
theorem Chg.then {F G : Nat → Prop} {a b c : World} (h : Chg F a b) (k : Chg G b c) (hG : ∀ i, i < a.heap.size → G i → F i) : Chg F a c :=
  ⟨k.os.trans h.os, k.tape.trans h.tape, k.output.trans h.output, Nat.le_trans h.size k.size, fun i hi hn => (k.block i (Nat.lt_of_lt_of_le hi h.size) (fun g => hn (hG i hi g))).trans (h.block i hi hn)⟩
theorem Chg.mono {F G : Nat → Prop} {a b : World} (h : Chg F a b) (hG : ∀ i, F i → G i) : Chg G a b := ⟨h.os, h.tape, h.output, h.size, fun i hi hn => h.block i hi fun f => hn (hG i f)⟩
theorem Grew.chg {F : Nat → Prop} {a b : World} (h : Grew a b) : Chg F a b := ⟨h.os, h.tape, h.output, h.size, fun i hi _ => h.block i hi⟩
theorem Chg.alloc {F : Nat → Prop} {a b : World} (h : Chg F a b) (o : Obj) : Chg F a (b.alloc o) :=
  h.trans ⟨rfl, rfl, rfl, by simp, fun k hk _ => Below.heap_alloc _ _ _ hk⟩
theorem Chg.drew {F : Nat → Prop} {a b : World} (h : Chg F a b) : Chg F a b.drew := ⟨h.os, h.tape, h.output, h.size, h.block⟩
theorem Chg.setCell {F : Nat → Prop} {a b : World} (h : Chg F a b) (p : Addr) (v : Value) (hF : p.block < a.heap.size → F p.block) : Chg F a (b.setCell p v) :=
  ⟨h.os, h.tape, h.output, by simpa [World.setCell] using h.size, fun k hk hn => (Below.heap_setCell _ _ _ _ (fun e => hn (by subst e; exact hF hk))).trans (h.block k hk hn)⟩
theorem setCells_size (b : Nat) : ∀ (vs : List Value) (o : Nat) (w : World), (w.setCells b o vs).heap.size = w.heap.size
  | [], _, _ => rfl
  | v :: r, o, w => by rw [World.setCells, setCells_size b r]; simp [World.setCell]
theorem setCells_same (b : Nat) : ∀ (vs : List Value) (o : Nat) (w : World), (w.setCells b o vs).os = w.os ∧ (w.setCells b o vs).tape = w.tape ∧ (w.setCells b o vs).output = w.output ∧ ∀ k, k ≠ b → (w.setCells b o vs).heap[k]? = w.heap[k]?
  | [], _, _ => ⟨rfl, rfl, rfl, fun _ _ => rfl⟩
  | v :: r, o, w => by
    obtain ⟨h1, h2, h3, h4⟩ := setCells_same b r (o + 1) (w.setCell ⟨b, o, none⟩ v)
    rw [World.setCells]
    exact ⟨h1, h2, h3, fun k hk => (h4 k hk).trans (Below.heap_setCell _ _ _ _ hk)⟩
theorem Chg.setCells {F : Nat → Prop} {a b : World} (h : Chg F a b) (k o : Nat) (vs : List Value) (hF : k < a.heap.size → F k) : Chg F a (b.setCells k o vs) := by
  obtain ⟨h1, h2, h3, h4⟩ := setCells_same k vs o b
  exact ⟨h1.trans h.os, h2.trans h.tape, h3.trans h.output, by rw [setCells_size]; exact h.size, fun i hi hn => (h4 i (fun e => hn (by subst e; exact hF hi))).trans (h.block i hi hn)⟩
theorem Chg.grown {F : Nat → Prop} {a b c : World} {row : Option Nat} (h : Chg F a b) (g : b.grownBy c row) (hF : ∀ k, row = some k → k < a.heap.size → F k) : Chg F a c :=
  ⟨g.os.trans h.os, g.tape.trans h.tape, g.output.trans h.output, Nat.le_trans h.size g.size, fun i hi hn => (g.block i (Nat.lt_of_lt_of_le hi h.size) (fun e => hn (hF i e.symm hi))).trans (h.block i hi hn)⟩
theorem Chg.cell {F : Nat → Prop} {w w' : World} (h : Chg F w w') {p : Addr} (hp : p.block < w.heap.size) (hn : ¬ F p.block) : w'.cell? p = w.cell? p := World.cell?_of_block (w := w) (h.block p.block hp hn)
theorem Chg.frozen {F : Nat → Prop} {w w' : World} (h : Chg F w w') {p : Addr} (hp : p.block < w.heap.size) (hn : ¬ F p.block) : w'.frozen? p = w.frozen? p := World.frozen?_of_block (w := w) (h.block p.block hp hn)
theorem Chg.grew {F : Nat → Prop} {w0 w w' : World} (g : Grew w0 w) (h : Chg F w w') (hF : ∀ k, F k → w0.heap.size ≤ k) : Grew w0 w' :=
  ⟨h.os.trans g.os, h.tape.trans g.tape, h.output.trans g.output, Nat.le_trans g.size h.size, fun k hk => (h.block k (Nat.lt_of_lt_of_le hk g.size) (fun f => by have := hF k f; omega)).trans (g.block k hk)⟩

/-! ### what stands of a block that stays -/
theorem rangeAt_of {w w' : World} {b o : Nat} {cs : List Value} (h : w.rangeAt b o cs) (e : w'.heap[b]? = w.heap[b]?) : w'.rangeAt b o cs := fun j v hv => (World.cell?_of_block (w := w) (a := ⟨b, o + j, none⟩) e).trans (h j v hv)
theorem there_of {w w' : World} {b o n : Nat} (h : w.there b o n) (e : w'.heap[b]? = w.heap[b]?) : w'.there b o n := fun j hj =>
  ⟨by rw [World.cell?_of_block (w := w) (a := ⟨b, o + j, none⟩) e]; exact (h j hj).1, (World.frozen?_of_block (w := w) (a := ⟨b, o + j, none⟩) e).trans (h j hj).2⟩
theorem ownsRow_of {w w' : World} {base : Nat} {e : TypeId} {sz : Nat} {v : Value} {n : Nat} {xs : List Value} (h : w.ownsRow base e sz v n xs) (hb : ∀ k, v.ownBlock = some k → w'.heap[k]? = w.heap[k]?) : w'.ownsRow base e sz v n xs := by
  obtain ⟨h1, h2⟩ := h
  refine ⟨h1, ?_⟩
  rcases h2 with h2 | ⟨g, cap, cur, rfl, e2, e3, e4⟩
  · exact Or.inl h2
  · exact Or.inr ⟨g, cap, cur, rfl, e2, (hb g rfl).trans e3, e4⟩

/-! ### a row of blocks of 64 bytes -/
def bytesV (b : Blk) : List Value := b.map byv
theorem bytesV_len (b : Blk) : (bytesV b).length = b.length := by simp [bytesV]
theorem bytesV_one (b : Blk) : ∀ v ∈ bytesV b, v.oneCell' = true := by
  intro v hv
  obtain ⟨x, _, rfl⟩ := List.mem_map.1 hv
  rfl
structure BlkRow (w : World) (C : Nat) (bs : List Blk) : Prop where
  lt : C < w.heap.size
  len : ∀ b ∈ bs, b.length = 64
  at' : ∀ k, k < bs.length → w.rangeAt C (k * 64) (bytesV (bs.getD k blk0)) ∧ w.there C (k * 64) 64
theorem BlkRow.of {w w' : World} {C : Nat} {bs : List Blk} (h : BlkRow w C bs) (e : w'.heap[C]? = w.heap[C]?) (hs : w.heap.size ≤ w'.heap.size) : BlkRow w' C bs :=
  ⟨Nat.lt_of_lt_of_le h.lt hs, h.len, fun k hk => ⟨rangeAt_of (h.at' k hk).1 e, there_of (h.at' k hk).2 e⟩⟩
theorem BlkRow.chg {F : Nat → Prop} {w w' : World} {C : Nat} {bs : List Blk} (h : BlkRow w C bs) (g : Chg F w w') (hn : ¬ F C) : BlkRow w' C bs := h.of (g.block C h.lt hn) g.size
theorem BlkRow.one {w : World} {C : Nat} {bs : List Blk} (h : BlkRow w C bs) {k : Nat} (hk : k < bs.length) : (bs.getD k blk0).length = 64 := by
  refine h.len _ ?_
  simp only [List.getD, List.getElem?_eq_getElem hk, Option.getD_some]
  exact List.getElem_mem hk
theorem BlkRow.set {w : World} {C : Nat} {bs : List Blk} (h : BlkRow w C bs) {k : Nat} (_ : k < bs.length) (b : Blk) (hb : b.length = 64) : BlkRow (w.setCells C (k * 64) (bytesV b)) C (bs.set k b) := by
  have hl := bytesV_len b
  refine ⟨by rw [setCells_size]; exact h.lt, fun x hx => ?_, fun j hj => ⟨?_, World.there_setCells (h.at' j (by simpa using hj)).2 _ _ _⟩⟩
  · rcases List.mem_or_eq_of_mem_set hx with hx | rfl
    · exact h.len x hx
    · exact hb
  · have hj2 : j < bs.length := by simpa using hj
    by_cases e : k = j
    · subst e
      rw [getD_set_eq hj2]
      exact World.rangeAt_setCells_same _ _ _ _ (by rw [hl, hb]; exact (h.at' k hj2).2)
    · rw [getD_set_ne e]
      have hl2 := bytesV_len (bs.getD j blk0)
      have := h.one hj2
      exact World.rangeAt_setCells_apart (h.at' j hj2).1 _ _ _ (by right; omega)

/-! ### the open writes -/
def wrC (x : Nat × Blk) : List Value := .int .i64 (x.1 : Int) :: bytesV x.2
theorem wrC_len (x : Nat × Blk) (h : x.2.length = 64) : (wrC x).length = 65 := by simp [wrC, bytesV_len, h]
theorem wrC_one (x : Nat × Blk) : ∀ v ∈ wrC x, v.oneCell' = true := by
  intro v hv
  rcases List.mem_cons.1 hv with rfl | hv
  · rfl
  · exact bytesV_one _ v hv
def opnC (l : List (Nat × Blk)) : List Value := l.flatMap wrC
theorem opnC_snoc (l : List (Nat × Blk)) (x : Nat × Blk) : opnC (l ++ [x]) = opnC l ++ wrC x := by simp [opnC]
theorem opnC_at : ∀ (l : List (Nat × Blk)) (_ : ∀ x ∈ l, x.2.length = 64) (k : Nat) (_hk : k < l.length) (j : Nat), j < 65 → (opnC l)[k * 65 + j]? = (wrC l[k])[j]?
  | x :: r, h, 0, _, j, hj => by
    have hx := wrC_len x (h x (by simp))
    show (wrC x ++ opnC r)[0 * 65 + j]? = (wrC x)[j]?
    rw [Nat.zero_mul, Nat.zero_add, List.getElem?_append_left (by omega)]
  | x :: r, h, k + 1, hk, j, hj => by
    have hx := wrC_len x (h x (by simp))
    show (wrC x ++ opnC r)[(k + 1) * 65 + j]? = (wrC (r[k]'(by simpa using hk)))[j]?
    rw [List.getElem?_append_right (by omega), hx, show (k + 1) * 65 + j - 65 = k * 65 + j by omega]
    exact opnC_at r (fun y hy => h y (by simp [hy])) k (by simpa using hk) j hj
theorem opnC_len : ∀ (l : List (Nat × Blk)), (∀ x ∈ l, x.2.length = 64) → (opnC l).length = l.length * 65
  | [], _ => rfl
  | x :: r, h => by
    have hx := wrC_len x (h x (by simp))
    show (wrC x ++ opnC r).length = (r.length + 1) * 65
    rw [List.length_append, hx, opnC_len r (fun y hy => h y (by simp [hy]))]
    omega
/-- The k-th open write in memory. -/
theorem opn_at {w : World} {base : Nat} {e : TypeId} {v : Value} {n : Nat} {l : List (Nat × Blk)} (h : w.ownsRow base e 65 v n (opnC l)) (hl : ∀ x ∈ l, x.2.length = 64) {k : Nat} (hk : k < l.length) :
    ∃ O cap, v = .slice (some ⟨O, 0, none⟩) l.length cap ∧ l.length ≤ cap ∧ O < w.heap.size ∧ w.rangeAt O (k * 65) (wrC l[k]) := by
  obtain ⟨h1, h2⟩ := h
  rw [opnC_len l hl] at h1
  have hn : n = l.length := by omega
  subst hn
  rcases h2 with ⟨_, h0⟩ | ⟨g, cap, cur, rfl, _, hg, hc, _, hs, ht⟩
  · omega
  · refine ⟨g, cap, rfl, hc, own_at_lt hg, fun j v hv => ?_⟩
    have hj : j < 65 := by have := (List.getElem?_eq_some_iff.1 hv).1; rwa [wrC_len _ (hl _ (List.getElem_mem hk))] at this
    have hb : k * 65 + j < l.length * 65 := by
      have : (k + 1) * 65 ≤ l.length * 65 := Nat.mul_le_mul_right 65 hk
      omega
    rw [cell_of_row w g (k * 65 + j) cur e (0, 0) hg]
    have e1 : (cur.toList.take (l.length * 65))[k * 65 + j]? = cur[k * 65 + j]? := by rw [List.getElem?_take]; simp [hb]
    rw [← e1, ht, opnC_at l hl k hk j hj, hv]

/-! ### a disk -/
def cont (s : DS) : List Blk := applyL s.safe s.opn
theorem cont_len (s : DS) : (cont s).length = s.safe.length := applyL_len _ _
/-- The five cells of disk.Disk. -/
structure Head (w : World) (q n C Y : Nat) (v : Value) (armed : Nat) (off : Bool) : Prop where
  lt : q < w.heap.size
  c0 : w.cell? ⟨q, 0, none⟩ = some (.slice (some ⟨C, 0, none⟩) n n)
  c1 : w.cell? ⟨q, 1, none⟩ = some (.slice (some ⟨Y, 0, none⟩) n n)
  c2 : w.cell? ⟨q, 2, none⟩ = some v
  c3 : w.cell? ⟨q, 3, none⟩ = some (.int .i64 (armed : Int))
  c4 : w.cell? ⟨q, 4, none⟩ = some (.bool off)
  f2 : w.frozen? ⟨q, 2, none⟩ = false
  f3 : w.frozen? ⟨q, 3, none⟩ = false
  f4 : w.frozen? ⟨q, 4, none⟩ = false
theorem Head.of {w w' : World} {q n C Y : Nat} {v : Value} {armed : Nat} {off : Bool} (h : Head w q n C Y v armed off) (e : w'.heap[q]? = w.heap[q]?) (hs : w.heap.size ≤ w'.heap.size) : Head w' q n C Y v armed off :=
  have c := fun i => World.cell?_of_block (w := w) (w' := w') (a := ⟨q, i, none⟩) e
  have f := fun i => World.frozen?_of_block (w := w) (w' := w') (a := ⟨q, i, none⟩) e
  ⟨Nat.lt_of_lt_of_le h.lt hs, (c 0).trans h.c0, (c 1).trans h.c1, (c 2).trans h.c2, (c 3).trans h.c3, (c 4).trans h.c4, (f 2).trans h.f2, (f 3).trans h.f3, (f 4).trans h.f4⟩
theorem Head.chg {F : Nat → Prop} {w w' : World} {q n C Y : Nat} {v : Value} {armed : Nat} {off : Bool} (h : Head w q n C Y v armed off) (g : Chg F w w') (hn : ¬ F q) : Head w' q n C Y v armed off := h.of (g.block q h.lt hn) g.size
theorem set_ne {w : World} {q i j : Nat} {v : Value} (h : i ≠ j) : (w.setCell ⟨q, i, none⟩ v).cell? ⟨q, j, none⟩ = w.cell? ⟨q, j, none⟩ := World.cell?_setCell_other _ _ _ _ (by intro e; simp only [Addr.mk.injEq] at e; omega)
theorem Head.set2 {w : World} {q n C Y : Nat} {v : Value} {armed : Nat} {off : Bool} (h : Head w q n C Y v armed off) (u : Value) : Head (w.setCell ⟨q, 2, none⟩ u) q n C Y u armed off :=
  ⟨by simpa [World.setCell] using h.lt, (set_ne (by omega)).trans h.c0, (set_ne (by omega)).trans h.c1, World.cell?_setCell_same _ _ _ h.c2, (set_ne (by omega)).trans h.c3, (set_ne (by omega)).trans h.c4, by rw [World.frozen?_setCell]; exact h.f2, by rw [World.frozen?_setCell]; exact h.f3, by rw [World.frozen?_setCell]; exact h.f4⟩
theorem Head.set3 {w : World} {q n C Y : Nat} {v : Value} {armed : Nat} {off : Bool} (h : Head w q n C Y v armed off) (u : Nat) : Head (w.setCell ⟨q, 3, none⟩ (.int .i64 (u : Int))) q n C Y v u off :=
  ⟨by simpa [World.setCell] using h.lt, (set_ne (by omega)).trans h.c0, (set_ne (by omega)).trans h.c1, (set_ne (by omega)).trans h.c2, World.cell?_setCell_same _ _ _ h.c3, (set_ne (by omega)).trans h.c4, by rw [World.frozen?_setCell]; exact h.f2, by rw [World.frozen?_setCell]; exact h.f3, by rw [World.frozen?_setCell]; exact h.f4⟩
theorem Head.set4 {w : World} {q n C Y : Nat} {v : Value} {armed : Nat} {off : Bool} (h : Head w q n C Y v armed off) (u : Bool) : Head (w.setCell ⟨q, 4, none⟩ (.bool u)) q n C Y v armed u :=
  ⟨by simpa [World.setCell] using h.lt, (set_ne (by omega)).trans h.c0, (set_ne (by omega)).trans h.c1, (set_ne (by omega)).trans h.c2, (set_ne (by omega)).trans h.c3, World.cell?_setCell_same _ _ _ h.c4, by rw [World.frozen?_setCell]; exact h.f2, by rw [World.frozen?_setCell]; exact h.f3, by rw [World.frozen?_setCell]; exact h.f4⟩

/-- Which blocks a disk has. -/
structure Lie (F : Nat → Prop) (q C Y : Nat) (v : Value) : Prop where
  fq : F q
  fC : F C
  fY : F Y
  fv : ∀ k, v.ownBlock = some k → F k ∧ k ≠ q ∧ k ≠ C ∧ k ≠ Y
  qC : q ≠ C
  qY : q ≠ Y
  CY : C ≠ Y
/-- What a state is that a disk can be in. -/
structure DOK (s : DS) : Prop where
  all : s.ok
  pos : 1 ≤ s.safe.length
  few : s.safe.length ≤ 65536
  arm : s.armed ≤ 9223372036854775807
  cut : s.cut = true → s.off = true
  idle : s.off = true → s.cut = false → s.opn = []
  off0 : s.off = true → s.armed = 0
/-- The disk in block q, in the blocks F, reads as s. -/
structure DK (w : World) (F : Nat → Prop) (q : Nat) (s : DS) : Prop where
  fit : ∀ k, F k → k < w.heap.size
  ok : DOK s
  ex : ∃ (C Y : Nat) (v : Value), Lie F q C Y v ∧ Head w q s.safe.length C Y v s.armed s.off ∧ BlkRow w C (cont s) ∧ BlkRow w Y s.safe ∧ w.ownsRow 0 66 65 v s.opn.length (opnC s.opn)
theorem DK.chg {F G : Nat → Prop} {w w' : World} {q : Nat} {s : DS} (h : DK w F q s) (g : Chg G w w') (hn : ∀ k, F k → ¬ G k) : DK w' F q s := by
  obtain ⟨C, Y, v, L, H, h1, h2, h3⟩ := h.ex
  exact ⟨fun k hk => Nat.lt_of_lt_of_le (h.fit k hk) g.size, h.ok, C, Y, v, L, H.chg g (hn q L.fq), h1.chg g (hn C L.fC), h2.chg g (hn Y L.fY),
    ownsRow_of h3 fun k hk => g.block k (h.fit k (L.fv k hk).1) (hn k (L.fv k hk).1)⟩
/-- Behind a step of the disk: its blocks, and new ones. -/
def FX (F : Nat → Prop) (w w' : World) : Nat → Prop := fun k => F k ∨ (w.heap.size ≤ k ∧ k < w'.heap.size)
theorem DK.grew {F : Nat → Prop} {w w' : World} {q : Nat} {s : DS} (h : DK w F q s) (g : Grew w w') : DK w' F q s := h.chg (G := fun _ => False) g.chg (fun _ _ h => h)
theorem Lie.mono {F G : Nat → Prop} {q C Y : Nat} {v : Value} (h : Lie F q C Y v) (hG : ∀ k, F k → G k) : Lie G q C Y v :=
  ⟨hG _ h.fq, hG _ h.fC, hG _ h.fY, fun k hk => ⟨hG _ (h.fv k hk).1, (h.fv k hk).2⟩, h.qC, h.qY, h.CY⟩
theorem DK.more {F G : Nat → Prop} {w : World} {q : Nat} {s : DS} (h : DK w F q s) (hG : ∀ k, F k → G k) (hf : ∀ k, G k → k < w.heap.size) : DK w G q s := by
  obtain ⟨C, Y, v, L, H, h1⟩ := h.ex
  exact ⟨hf, h.ok, C, Y, v, L.mono hG, H, h1⟩
/-- What a method leaves. -/
def DPost (F : Nat → Prop) (q : Nat) (w : World) (r : Value) (s : DS) (e : Ending) (w' : World) : Prop := e = .returned r ∧ Chg F w w' ∧ DK w' (FX F w w') q s
/-- What a method leaves that turns nothing. -/
def DSame (w : World) (r : Value) (e : Ending) (w' : World) : Prop := e = .returned r ∧ Grew w w'
end Go.Proofs.Ytgaopkfdbglnmaa.NumK
