/- Arrays of bytes, compared by value. -/
import Derived.Test.YthnhhhfjgbgpgaaRGrd
import Derived.ChangeKeysEq
import Derived.Laws.Rows
import Derived.Laws.Tables
import Derived.Laws.IdiomCopy
import Derived.Test.YthnhhhfjgbgpgaaRMath
import Derived.Deep.MidRow
import Derived.Deep.AppendLies
import Derived.Deep.WholeRow
import Derived.Laws.ResultCell
import Derived.Great.BuildSlice
import Derived.Deep.RegionHeld3
import Derived.Deep.DrawnRows
import Derived.Deep.CutBlock
namespace Go.Proofs.Ythnhhhfjgbgpgaa.NumK
open Go.RowKit

def blkV (l : List UInt8) : Value := .agg (l.map byv).toArray
theorem blkV_at {l : List UInt8} {i : Nat} (h : i < l.length) : (l.map byv).toArray[i]? = some (byv (l.getD i 0)) := by
  simp [List.getD, h]
theorem byv_beq (a b : UInt8) : (((a.toNat : Int)) == ((b.toNat : Int))) = decide (a = b) := by
  by_cases h : a = b
  · subst h; simp
  · rw [decide_eq_false h]
    have : a.toNat ≠ b.toNat := fun e => h (UInt8.toNat_inj.1 e)
    simp; omega
theorem eqItems_bytes {P : Program} (w : World) (d : Nat) {e : TypeId} (he : P.underlying e = some (.int .u8)) (xs ys : List UInt8) : ∀ is : List Nat, (∀ i ∈ is, i < xs.length ∧ i < ys.length) →
    (Op.eqItems (d + 1) e 1 (xs.map byv).toArray (ys.map byv).toArray is).run P w = .ok (is.all fun i => decide (xs.getD i 0 = ys.getD i 0)) w
  | [], _ => by simp [Op.eqItems]
  | i :: is, h => by
    have hp : P.plainKey e = true := by simp [Program.plainKey, he]
    have h1 := h i (by simp)
    have ih := eqItems_bytes w d he xs ys is fun j hj => h j (by simp [hj])
    simp only [Op.eqItems, Nat.mul_one, Sem.run_bind, run_part_plain w hp (blkV_at h1.1), run_part_plain w hp (blkV_at h1.2), Result.andThen_ok]
    have e1 : (Op.equalIn (d + 1) e (byv (xs.getD i 0)) (byv (ys.getD i 0))).run P w = .ok (decide (xs.getD i 0 = ys.getD i 0)) w := by
      unfold byv
      simp only [Op.equalIn, Sem.run_bind, run_underlying he, Result.andThen_ok, if_true, Sem.run_pure, byv_beq]
    rw [e1, Result.andThen_ok, List.all_cons]
    cases decide (xs.getD i 0 = ys.getD i 0)
    · simp
    · simpa using ih
theorem all_eq {xs ys : List UInt8} (h : xs.length = ys.length) : ((List.range xs.length).all fun i => decide (xs.getD i 0 = ys.getD i 0)) = decide (xs = ys) := by
  by_cases e : xs = ys
  · subst e; simp
  · rw [decide_eq_false e, List.all_eq_false]
    by_cases hx : ∃ i, i < xs.length ∧ xs.getD i 0 ≠ ys.getD i 0
    · obtain ⟨i, h1, h2⟩ := hx
      exact ⟨i, by simpa using h1, by simpa using h2⟩
    · exfalso
      refine e (List.ext_getElem h fun i h1 h2 => ?_)
      have : xs.getD i 0 = ys.getD i 0 := by
        by_cases h3 : xs.getD i 0 = ys.getD i 0
        · exact h3
        · exact absurd ⟨i, h1, h3⟩ hx
      simpa [List.getD, h1, h2] using this
theorem run_equal_blk {P : Program} (w : World) (d : Nat) {t e : TypeId} {n : Nat} {i : TypeInfo} (hu : P.underlying t = some (.array n e)) (hi : P.info? e = some i) (he : P.underlying e = some (.int .u8)) (hc : P.cellsOf e = 1) (xs ys : List UInt8) (hx : xs.length = n) (hy : ys.length = n) :
    (Op.equalIn (d + 2) t (blkV xs) (blkV ys)).run P w = .ok (decide (xs = ys)) w := by
  unfold blkV
  rw [run_equalIn_array w (d + 1) _ _ hu hi, hc, eqItems_bytes w d he xs ys _ (fun j hj => by have := List.mem_range.1 hj; omega)]
  subst hx
  rw [all_eq hy.symm]

/-! ### whole arrays out of memory and into it -/
theorem run_loadBlk {P : Program} (w : World) (b o : Nat) {ty e : TypeId} {n : Nat} (l : List UInt8) (hu : P.underlying ty = some (.array n e)) (hi : (P.info? ty).map (·.size) = some l.length) (hc : ∀ j, j < l.length → w.cell? ⟨b, o + j, none⟩ = some (byv (l.getD j 0))) :
    (loadVar ty ⟨b, o, none⟩).run P w = .ok (blkV l) w := by
  have hl : (loadCells ⟨b, o, none⟩ (l.map byv).length).run P w = .ok (l.map byv).toArray w :=
    run_loadCells_list (P := P) w ⟨b, o, none⟩ (l.map byv) (fun j v hv => by
      have hj : j < l.length := by have := (List.getElem?_eq_some_iff.1 hv).1; simpa using this
      rw [addr_add, hc j hj, ← hv]
      simp [List.getD, hj])
  cases hq : P.info? ty with
  | none => simp [hq] at hi
  | some i =>
    have hs : i.size = l.length := by simpa [hq] using hi
    have hagg : (isAgg ty).run P w = .ok true w := by
      unfold isAgg
      rw [Sem.run_bind, run_underlying hu w]
      simp
    rw [List.length_map] at hl
    simp [loadVar, Sem.run_bind, hagg, sizeOf, typeInfo, hq, hs, hl, blkV]
theorem run_storeBlk {P : Program} (w : World) (b o : Nat) {ty : TypeId} (l : List UInt8) (hi : (P.info? ty).map (·.size) = some l.length) (hc : ∀ j, j < l.length → (w.cell? ⟨b, o + j, none⟩).isSome = true) (hf : ∀ j, j < l.length → w.frozen? ⟨b, o + j, none⟩ = false) :
    (storeVar ty ⟨b, o, none⟩ (blkV l)).run P w = .ok () (w.setCells b o (l.map byv)) := by
  have hst := run_storeCells_cells (P := P) b o (l.map byv) 0 w (by simpa using hc) (by simpa using hf) (fun v hv => by obtain ⟨x, _, rfl⟩ := List.mem_map.1 hv; rfl)
  rw [Nat.add_zero] at hst
  cases hq : P.info? ty with
  | none => simp [hq] at hi
  | some i =>
    have hs : i.size = l.length := by simpa [hq] using hi
    simp [storeVar, blkV, sizeOf, typeInfo, hq, Value.cells, hs]
    exact hst
theorem run_loadAtBlk {P : Program} (w : World) (b o : Nat) {ty e : TypeId} {n : Nat} (l : List UInt8) (hu : P.underlying ty = some (.array n e)) (hi : (P.info? ty).map (·.size) = some l.length) (hc : ∀ j, j < l.length → w.cell? ⟨b, o + j, none⟩ = some (byv (l.getD j 0))) :
    (Instr.loadAt ty (.pointer (some ⟨b, o, none⟩))).run P w = .ok (blkV l) w := by
  simp only [Instr.loadAt, Instr.sureAddr, Sem.run_bind, Sem.run_pure, Result.andThen]
  exact run_loadBlk w b o l hu hi hc
theorem run_storeAtBlk {P : Program} (w : World) (b o : Nat) {ty : TypeId} (l : List UInt8) (hi : (P.info? ty).map (·.size) = some l.length) (hc : ∀ j, j < l.length → (w.cell? ⟨b, o + j, none⟩).isSome = true) (hf : ∀ j, j < l.length → w.frozen? ⟨b, o + j, none⟩ = false) :
    (Instr.storeAt ty (.pointer (some ⟨b, o, none⟩)) (blkV l)).run P w = .ok () (w.setCells b o (l.map byv)) := by
  simp only [Instr.storeAt, Instr.sureAddr, Sem.run_bind, Sem.run_pure, Result.andThen]
  exact run_storeBlk w b o l hi hc hf
end Go.Proofs.Ythnhhhfjgbgpgaa.NumK
namespace Go.Proofs.Ythnhhhfjgbgpgaa.NumK
open Go.RowKit

/-! ### worlds -/
structure Chg (F : Nat → Prop) (w w' : World) : Prop where
  os : w'.os = w.os
  tape : w'.tape = w.tape
  output : w'.output = w.output
  size : w.heap.size ≤ w'.heap.size
  block : ∀ k, k < w.heap.size → ¬ F k → w'.heap[k]? = w.heap[k]?
theorem Chg.refl (F : Nat → Prop) (w : World) : Chg F w w := ⟨rfl, rfl, rfl, Nat.le_refl _, fun _ _ _ => rfl⟩
theorem Chg.trans {F : Nat → Prop} {a b c : World} (h : Chg F a b) (k : Chg F b c) : Chg F a c :=
  ⟨k.os.trans h.os, k.tape.trans h.tape, k.output.trans h.output, Nat.le_trans h.size k.size, fun i hi hn => (k.block i (Nat.lt_of_lt_of_le hi h.size) hn).trans (h.block i hi hn)⟩
/-- What the second step turns may also be new. -/
theorem Chg.then {F G : Nat → Prop} {a b c : World} (h : Chg F a b) (k : Chg G b c) (hG : ∀ i, i < a.heap.size → G i → F i) : Chg F a c :=
  ⟨k.os.trans h.os, k.tape.trans h.tape, k.output.trans h.output, Nat.le_trans h.size k.size, fun i hi hn => (k.block i (Nat.lt_of_lt_of_le hi h.size) (fun g => hn (hG i hi g))).trans (h.block i hi hn)⟩
theorem Chg.mono {F G : Nat → Prop} {a b : World} (h : Chg F a b) (hG : ∀ i, F i → G i) : Chg G a b := ⟨h.os, h.tape, h.output, h.size, fun i hi hn => h.block i hi fun f => hn (hG i f)⟩
theorem Grew.chg {F : Nat → Prop} {a b : World} (h : Grew a b) : Chg F a b := ⟨h.os, h.tape, h.output, h.size, fun i hi _ => h.block i hi⟩
theorem Chg.alloc {F : Nat → Prop} {a b : World} (h : Chg F a b) (o : Obj) : Chg F a (b.alloc o) :=
  h.trans ⟨rfl, rfl, rfl, by simp, fun k hk _ => Below.heap_alloc _ _ _ hk⟩
theorem Chg.drew {F : Nat → Prop} {a b : World} (h : Chg F a b) : Chg F a b.drew := ⟨h.os, h.tape, h.output, h.size, h.block⟩
theorem Chg.setCell {F : Nat → Prop} {a b : World} (h : Chg F a b) (p : Addr) (v : Value) (hF : p.block < a.heap.size → F p.block) : Chg F a (b.setCell p v) :=
  ⟨h.os, h.tape, h.output, by simpa [World.setCell] using h.size, fun k hk hn => (Below.heap_setCell _ _ _ _ (fun e => hn (by subst e; exact hF hk))).trans (h.block k hk hn)⟩
theorem setCells_size (b : Nat) : ∀ (vs : List Value) (o : Nat) (w : World), (w.setCells b o vs).heap.size = w.heap.size
  | [], _, _ => rfl
  | v :: r, o, w => by rw [World.setCells, setCells_size b r]; simp [World.setCell]
theorem setCells_same (b : Nat) : ∀ (vs : List Value) (o : Nat) (w : World), (w.setCells b o vs).os = w.os ∧ (w.setCells b o vs).tape = w.tape ∧ (w.setCells b o vs).output = w.output ∧ ∀ k, k ≠ b → (w.setCells b o vs).heap[k]? = w.heap[k]?
  | [], _, _ => ⟨rfl, rfl, rfl, fun _ _ => rfl⟩
  | v :: r, o, w => by
    obtain ⟨h1, h2, h3, h4⟩ := setCells_same b r (o + 1) (w.setCell ⟨b, o, none⟩ v)
    rw [World.setCells]
    exact ⟨h1, h2, h3, fun k hk => (h4 k hk).trans (Below.heap_setCell _ _ _ _ hk)⟩
theorem Chg.setCells {F : Nat → Prop} {a b : World} (h : Chg F a b) (k o : Nat) (vs : List Value) (hF : k < a.heap.size → F k) : Chg F a (b.setCells k o vs) := by
  obtain ⟨h1, h2, h3, h4⟩ := setCells_same k vs o b
  exact ⟨h1.trans h.os, h2.trans h.tape, h3.trans h.output, by rw [setCells_size]; exact h.size, fun i hi hn => (h4 i (fun e => hn (by subst e; exact hF hi))).trans (h.block i hi hn)⟩
theorem Chg.grown {F : Nat → Prop} {a b c : World} {row : Option Nat} (h : Chg F a b) (g : b.grownBy c row) (hF : ∀ k, row = some k → k < a.heap.size → F k) : Chg F a c :=
  ⟨g.os.trans h.os, g.tape.trans h.tape, g.output.trans h.output, Nat.le_trans h.size g.size, fun i hi hn => (g.block i (Nat.lt_of_lt_of_le hi h.size) (fun e => hn (hF i e.symm hi))).trans (h.block i hi hn)⟩
theorem Chg.cell {F : Nat → Prop} {w w' : World} (h : Chg F w w') {p : Addr} (hp : p.block < w.heap.size) (hn : ¬ F p.block) : w'.cell? p = w.cell? p := World.cell?_of_block (w := w) (h.block p.block hp hn)
theorem Chg.frozen {F : Nat → Prop} {w w' : World} (h : Chg F w w') {p : Addr} (hp : p.block < w.heap.size) (hn : ¬ F p.block) : w'.frozen? p = w.frozen? p := World.frozen?_of_block (w := w) (h.block p.block hp hn)
theorem Chg.grew {F : Nat → Prop} {w0 w w' : World} (g : Grew w0 w) (h : Chg F w w') (hF : ∀ k, F k → w0.heap.size ≤ k) : Grew w0 w' :=
  ⟨h.os.trans g.os, h.tape.trans g.tape, h.output.trans g.output, Nat.le_trans g.size h.size, fun k hk => (h.block k (Nat.lt_of_lt_of_le hk g.size) (fun f => by have := hF k f; omega)).trans (g.block k hk)⟩

/-! ### what stands of a block that stays -/
theorem rangeAt_of {w w' : World} {b o : Nat} {cs : List Value} (h : w.rangeAt b o cs) (e : w'.heap[b]? = w.heap[b]?) : w'.rangeAt b o cs := fun j v hv => (World.cell?_of_block (w := w) (a := ⟨b, o + j, none⟩) e).trans (h j v hv)
theorem there_of {w w' : World} {b o n : Nat} (h : w.there b o n) (e : w'.heap[b]? = w.heap[b]?) : w'.there b o n := fun j hj =>
  ⟨by rw [World.cell?_of_block (w := w) (a := ⟨b, o + j, none⟩) e]; exact (h j hj).1, (World.frozen?_of_block (w := w) (a := ⟨b, o + j, none⟩) e).trans (h j hj).2⟩
theorem ownsRow_of {w w' : World} {base : Nat} {e : TypeId} {sz : Nat} {v : Value} {n : Nat} {xs : List Value} (h : w.ownsRow base e sz v n xs) (hb : ∀ k, v.ownBlock = some k → w'.heap[k]? = w.heap[k]?) : w'.ownsRow base e sz v n xs := by
  obtain ⟨h1, h2⟩ := h
  refine ⟨h1, ?_⟩
  rcases h2 with h2 | ⟨g, cap, cur, rfl, e2, e3, e4⟩
  · exact Or.inl h2
  · exact Or.inr ⟨g, cap, cur, rfl, e2, (hb g rfl).trans e3, e4⟩

/-! ### a row of blocks of 64 bytes -/
def bytesV (b : Blk) : List Value := b.map byv
theorem bytesV_len (b : Blk) : (bytesV b).length = b.length := by simp [bytesV]
theorem bytesV_one (b : Blk) : ∀ v ∈ bytesV b, v.oneCell' = true := by
  intro v hv
  obtain ⟨x, _, rfl⟩ := List.mem_map.1 hv
  rfl
structure BlkRow (w : World) (C : Nat) (bs : List Blk) : Prop where
  lt : C < w.heap.size
  len : ∀ b ∈ bs, b.length = 64
  at' : ∀ k, k < bs.length → w.rangeAt C (k * 64) (bytesV (bs.getD k blk0)) ∧ w.there C (k * 64) 64
theorem BlkRow.of {w w' : World} {C : Nat} {bs : List Blk} (h : BlkRow w C bs) (e : w'.heap[C]? = w.heap[C]?) (hs : w.heap.size ≤ w'.heap.size) : BlkRow w' C bs :=
  ⟨Nat.lt_of_lt_of_le h.lt hs, h.len, fun k hk => ⟨rangeAt_of (h.at' k hk).1 e, there_of (h.at' k hk).2 e⟩⟩
theorem BlkRow.chg {F : Nat → Prop} {w w' : World} {C : Nat} {bs : List Blk} (h : BlkRow w C bs) (g : Chg F w w') (hn : ¬ F C) : BlkRow w' C bs := h.of (g.block C h.lt hn) g.size
theorem BlkRow.one {w : World} {C : Nat} {bs : List Blk} (h : BlkRow w C bs) {k : Nat} (hk : k < bs.length) : (bs.getD k blk0).length = 64 := by
  refine h.len _ ?_
  simp only [List.getD, List.getElem?_eq_getElem hk, Option.getD_some]
  exact List.getElem_mem hk
theorem BlkRow.set {w : World} {C : Nat} {bs : List Blk} (h : BlkRow w C bs) {k : Nat} (_ : k < bs.length) (b : Blk) (hb : b.length = 64) : BlkRow (w.setCells C (k * 64) (bytesV b)) C (bs.set k b) := by
  have hl := bytesV_len b
  refine ⟨by rw [setCells_size]; exact h.lt, fun x hx => ?_, fun j hj => ⟨?_, World.there_setCells (h.at' j (by simpa using hj)).2 _ _ _⟩⟩
  · rcases List.mem_or_eq_of_mem_set hx with hx | rfl
    · exact h.len x hx
    · exact hb
  · have hj2 : j < bs.length := by simpa using hj
    by_cases e : k = j
    · subst e
      rw [getD_set_eq hj2]
      exact World.rangeAt_setCells_same _ _ _ _ (by rw [hl, hb]; exact (h.at' k hj2).2)
    · rw [getD_set_ne e]
      have hl2 := bytesV_len (bs.getD j blk0)
      have := h.one hj2
      exact World.rangeAt_setCells_apart (h.at' j hj2).1 _ _ _ (by right; omega)

/-! ### the open writes -/
def wrC (x : Nat × Blk) : List Value := .int .i64 (x.1 : Int) :: bytesV x.2
theorem wrC_len (x : Nat × Blk) (h : x.2.length = 64) : (wrC x).length = 65 := by simp [wrC, bytesV_len, h]
theorem wrC_one (x : Nat × Blk) : ∀ v ∈ wrC x, v.oneCell' = true := by
  intro v hv
  rcases List.mem_cons.1 hv with rfl | hv
  · rfl
  · exact bytesV_one _ v hv
def opnC (l : List (Nat × Blk)) : List Value := l.flatMap wrC
theorem opnC_snoc (l : List (Nat × Blk)) (x : Nat × Blk) : opnC (l ++ [x]) = opnC l ++ wrC x := by simp [opnC]
theorem opnC_at : ∀ (l : List (Nat × Blk)) (_ : ∀ x ∈ l, x.2.length = 64) (k : Nat) (_hk : k < l.length) (j : Nat), j < 65 → (opnC l)[k * 65 + j]? = (wrC l[k])[j]?
  | x :: r, h, 0, _, j, hj => by
    have hx := wrC_len x (h x (by simp))
    show (wrC x ++ opnC r)[0 * 65 + j]? = (wrC x)[j]?
    rw [Nat.zero_mul, Nat.zero_add, List.getElem?_append_left (by omega)]
  | x :: r, h, k + 1, hk, j, hj => by
    have hx := wrC_len x (h x (by simp))
    show (wrC x ++ opnC r)[(k + 1) * 65 + j]? = (wrC (r[k]'(by simpa using hk)))[j]?
    rw [List.getElem?_append_right (by omega), hx, show (k + 1) * 65 + j - 65 = k * 65 + j by omega]
    exact opnC_at r (fun y hy => h y (by simp [hy])) k (by simpa using hk) j hj
theorem opnC_len : ∀ (l : List (Nat × Blk)), (∀ x ∈ l, x.2.length = 64) → (opnC l).length = l.length * 65
  | [], _ => rfl
  | x :: r, h => by
    have hx := wrC_len x (h x (by simp))
    show (wrC x ++ opnC r).length = (r.length + 1) * 65
    rw [List.length_append, hx, opnC_len r (fun y hy => h y (by simp [hy]))]
    omega
/-- The k-th open write in memory. -/
theorem opn_at {w : World} {base : Nat} {e : TypeId} {v : Value} {n : Nat} {l : List (Nat × Blk)} (h : w.ownsRow base e 65 v n (opnC l)) (hl : ∀ x ∈ l, x.2.length = 64) {k : Nat} (hk : k < l.length) :
    ∃ O cap, v = .slice (some ⟨O, 0, none⟩) l.length cap ∧ l.length ≤ cap ∧ O < w.heap.size ∧ w.rangeAt O (k * 65) (wrC l[k]) := by
  obtain ⟨h1, h2⟩ := h
  rw [opnC_len l hl] at h1
  have hn : n = l.length := by omega
  subst hn
  rcases h2 with ⟨_, h0⟩ | ⟨g, cap, cur, rfl, _, hg, hc, _, hs, ht⟩
  · omega
  · refine ⟨g, cap, rfl, hc, own_at_lt hg, fun j v hv => ?_⟩
    have hj : j < 65 := by have := (List.getElem?_eq_some_iff.1 hv).1; rwa [wrC_len _ (hl _ (List.getElem_mem hk))] at this
    have hb : k * 65 + j < l.length * 65 := by
      have : (k + 1) * 65 ≤ l.length * 65 := Nat.mul_le_mul_right 65 hk
      omega
    rw [cell_of_row w g (k * 65 + j) cur e (0, 0) hg]
    have e1 : (cur.toList.take (l.length * 65))[k * 65 + j]? = cur[k * 65 + j]? := by rw [List.getElem?_take]; simp [hb]
    rw [← e1, ht, opnC_at l hl k hk j hj, hv]

/-! ### a disk -/
def cont (s : DS) : List Blk := applyL s.safe s.opn
theorem cont_len (s : DS) : (cont s).length = s.safe.length := applyL_len _ _
/-- The five cells of disk.Disk. -/
structure Head (w : World) (q n C Y : Nat) (v : Value) (armed : Nat) (off : Bool) : Prop where
  lt : q < w.heap.size
  c0 : w.cell? ⟨q, 0, none⟩ = some (.slice (some ⟨C, 0, none⟩) n n)
  c1 : w.cell? ⟨q, 1, none⟩ = some (.slice (some ⟨Y, 0, none⟩) n n)
  c2 : w.cell? ⟨q, 2, none⟩ = some v
  c3 : w.cell? ⟨q, 3, none⟩ = some (.int .i64 (armed : Int))
  c4 : w.cell? ⟨q, 4, none⟩ = some (.bool off)
  f2 : w.frozen? ⟨q, 2, none⟩ = false
  f3 : w.frozen? ⟨q, 3, none⟩ = false
  f4 : w.frozen? ⟨q, 4, none⟩ = false
theorem Head.of {w w' : World} {q n C Y : Nat} {v : Value} {armed : Nat} {off : Bool} (h : Head w q n C Y v armed off) (e : w'.heap[q]? = w.heap[q]?) (hs : w.heap.size ≤ w'.heap.size) : Head w' q n C Y v armed off :=
  have c := fun i => World.cell?_of_block (w := w) (w' := w') (a := ⟨q, i, none⟩) e
  have f := fun i => World.frozen?_of_block (w := w) (w' := w') (a := ⟨q, i, none⟩) e
  ⟨Nat.lt_of_lt_of_le h.lt hs, (c 0).trans h.c0, (c 1).trans h.c1, (c 2).trans h.c2, (c 3).trans h.c3, (c 4).trans h.c4, (f 2).trans h.f2, (f 3).trans h.f3, (f 4).trans h.f4⟩
theorem Head.chg {F : Nat → Prop} {w w' : World} {q n C Y : Nat} {v : Value} {armed : Nat} {off : Bool} (h : Head w q n C Y v armed off) (g : Chg F w w') (hn : ¬ F q) : Head w' q n C Y v armed off := h.of (g.block q h.lt hn) g.size
theorem set_ne {w : World} {q i j : Nat} {v : Value} (h : i ≠ j) : (w.setCell ⟨q, i, none⟩ v).cell? ⟨q, j, none⟩ = w.cell? ⟨q, j, none⟩ := World.cell?_setCell_other _ _ _ _ (by intro e; simp only [Addr.mk.injEq] at e; omega)
theorem Head.set2 {w : World} {q n C Y : Nat} {v : Value} {armed : Nat} {off : Bool} (h : Head w q n C Y v armed off) (u : Value) : Head (w.setCell ⟨q, 2, none⟩ u) q n C Y u armed off :=
  ⟨by simpa [World.setCell] using h.lt, (set_ne (by omega)).trans h.c0, (set_ne (by omega)).trans h.c1, World.cell?_setCell_same _ _ _ h.c2, (set_ne (by omega)).trans h.c3, (set_ne (by omega)).trans h.c4, by rw [World.frozen?_setCell]; exact h.f2, by rw [World.frozen?_setCell]; exact h.f3, by rw [World.frozen?_setCell]; exact h.f4⟩
theorem Head.set3 {w : World} {q n C Y : Nat} {v : Value} {armed : Nat} {off : Bool} (h : Head w q n C Y v armed off) (u : Nat) : Head (w.setCell ⟨q, 3, none⟩ (.int .i64 (u : Int))) q n C Y v u off :=
  ⟨by simpa [World.setCell] using h.lt, (set_ne (by omega)).trans h.c0, (set_ne (by omega)).trans h.c1, (set_ne (by omega)).trans h.c2, World.cell?_setCell_same _ _ _ h.c3, (set_ne (by omega)).trans h.c4, by rw [World.frozen?_setCell]; exact h.f2, by rw [World.frozen?_setCell]; exact h.f3, by rw [World.frozen?_setCell]; exact h.f4⟩
theorem Head.set4 {w : World} {q n C Y : Nat} {v : Value} {armed : Nat} {off : Bool} (h : Head w q n C Y v armed off) (u : Bool) : Head (w.setCell ⟨q, 4, none⟩ (.bool u)) q n C Y v armed u :=
  ⟨by simpa [World.setCell] using h.lt, (set_ne (by omega)).trans h.c0, (set_ne (by omega)).trans h.c1, (set_ne (by omega)).trans h.c2, (set_ne (by omega)).trans h.c3, World.cell?_setCell_same _ _ _ h.c4, by rw [World.frozen?_setCell]; exact h.f2, by rw [World.frozen?_setCell]; exact h.f3, by rw [World.frozen?_setCell]; exact h.f4⟩

/-- Which blocks a disk has. -/
structure Lie (F : Nat → Prop) (q C Y : Nat) (v : Value) : Prop where
  fq : F q
  fC : F C
  fY : F Y
  fv : ∀ k, v.ownBlock = some k → F k ∧ k ≠ q ∧ k ≠ C ∧ k ≠ Y
  qC : q ≠ C
  qY : q ≠ Y
  CY : C ≠ Y
/-- What a state is that a disk can be in. -/
structure DOK (s : DS) : Prop where
  all : s.ok
  pos : 1 ≤ s.safe.length
  few : s.safe.length ≤ 65536
  arm : s.armed ≤ 9223372036854775807
  cut : s.cut = true → s.off = true
  idle : s.off = true → s.cut = false → s.opn = []
  off0 : s.off = true → s.armed = 0
/-- The disk in block q, in the blocks F, reads as s. -/
structure DK (w : World) (F : Nat → Prop) (q : Nat) (s : DS) : Prop where
  fit : ∀ k, F k → k < w.heap.size
  ok : DOK s
  ex : ∃ (C Y : Nat) (v : Value), Lie F q C Y v ∧ Head w q s.safe.length C Y v s.armed s.off ∧ BlkRow w C (cont s) ∧ BlkRow w Y s.safe ∧ w.ownsRow 0 66 65 v s.opn.length (opnC s.opn)
theorem DK.chg {F G : Nat → Prop} {w w' : World} {q : Nat} {s : DS} (h : DK w F q s) (g : Chg G w w') (hn : ∀ k, F k → ¬ G k) : DK w' F q s := by
  obtain ⟨C, Y, v, L, H, h1, h2, h3⟩ := h.ex
  exact ⟨fun k hk => Nat.lt_of_lt_of_le (h.fit k hk) g.size, h.ok, C, Y, v, L, H.chg g (hn q L.fq), h1.chg g (hn C L.fC), h2.chg g (hn Y L.fY),
    ownsRow_of h3 fun k hk => g.block k (h.fit k (L.fv k hk).1) (hn k (L.fv k hk).1)⟩
/-- Behind a step of the disk: its blocks, and new ones. -/
def FX (F : Nat → Prop) (w w' : World) : Nat → Prop := fun k => F k ∨ (w.heap.size ≤ k ∧ k < w'.heap.size)
theorem DK.grew {F : Nat → Prop} {w w' : World} {q : Nat} {s : DS} (h : DK w F q s) (g : Grew w w') : DK w' F q s := h.chg (G := fun _ => False) g.chg (fun _ _ h => h)
theorem Lie.mono {F G : Nat → Prop} {q C Y : Nat} {v : Value} (h : Lie F q C Y v) (hG : ∀ k, F k → G k) : Lie G q C Y v :=
  ⟨hG _ h.fq, hG _ h.fC, hG _ h.fY, fun k hk => ⟨hG _ (h.fv k hk).1, (h.fv k hk).2⟩, h.qC, h.qY, h.CY⟩
theorem DK.more {F G : Nat → Prop} {w : World} {q : Nat} {s : DS} (h : DK w F q s) (hG : ∀ k, F k → G k) (hf : ∀ k, G k → k < w.heap.size) : DK w G q s := by
  obtain ⟨C, Y, v, L, H, h1⟩ := h.ex
  exact ⟨hf, h.ok, C, Y, v, L.mono hG, H, h1⟩
/-- What a method leaves. -/
def DPost (F : Nat → Prop) (q : Nat) (w : World) (r : Value) (s : DS) (e : Ending) (w' : World) : Prop := e = .returned r ∧ Chg F w w' ∧ DK w' (FX F w w') q s
/-- What a method leaves that turns nothing. -/
def DSame (w : World) (r : Value) (e : Ending) (w' : World) : Prop := e = .returned r ∧ Grew w w'
end Go.Proofs.Ythnhhhfjgbgpgaa.NumK
namespace Go.Proofs.Ythnhhhfjgbgpgaa.NumK
open Go.RowKit

theorem off_any (F : Nat → Prop) (q : Nat) (s : DS) (w : World) (h : DK w F q s) : Calls Try.prog 39 #[.pointer (some ⟨q, 0, none⟩)] w fun e w' => e = .returned (.bool s.off) ∧ w = w' := by
  obtain ⟨C, Y, v, L, H, h1⟩ := h.ex
  have c4 := H.c4
  clear H h1 L h
  go_enter Try.func39, Try.ntmps39
  go_wp2
  go_ret
  exact ⟨rfl, rfl⟩
theorem blocks_any (F : Nat → Prop) (q : Nat) (s : DS) (w : World) (h : DK w F q s) : Calls Try.prog 40 #[.pointer (some ⟨q, 0, none⟩)] w fun e w' => e = .returned (.int .i64 (s.safe.length : Int)) ∧ w = w' := by
  obtain ⟨C, Y, v, L, H, h1⟩ := h.ex
  have c4 := H.c0
  clear H h1 L h
  go_enter Try.func40, Try.ntmps40
  go_wp2
  go_ret
  exact ⟨rfl, rfl⟩
theorem own_form {w : World} {base : Nat} {e : TypeId} {sz : Nat} {v : Value} {n : Nat} {xs : List Value} (h : w.ownsRow base e sz v n xs) : ∃ A cap, v = .slice A n cap := by
  rcases h.2 with ⟨rfl, rfl⟩ | ⟨g, cap, cur, rfl, _⟩
  · exact ⟨_, _, rfl⟩
  · exact ⟨_, _, rfl⟩
theorem open_any (F : Nat → Prop) (q : Nat) (s : DS) (w : World) (h : DK w F q s) : Calls Try.prog 38 #[.pointer (some ⟨q, 0, none⟩)] w fun e w' => e = .returned (.int .i64 (s.opn.length : Int)) ∧ w = w' := by
  obtain ⟨C, Y, v, L, H, h1, h2, h3⟩ := h.ex
  obtain ⟨A, cap, rfl⟩ := own_form h3
  have c4 := H.c2
  clear H h1 L h h2 h3
  go_enter Try.func38, Try.ntmps38
  go_wp2
  go_ret
  exact ⟨rfl, rfl⟩

def refI (s : DS) (at' : Int) : Int := if s.off then 7 else if s.has at' then 0 else 3
theorem refuses_any (F : Nat → Prop) (q : Nat) (s : DS) (at' : Int) (w : World) (h : DK w F q s) : Calls Try.prog 53 #[.pointer (some ⟨q, 0, none⟩), .int .i64 at'] w fun e w' => e = .returned (.int .i64 (refI s at')) ∧ w = w' := by
  have CB := blocks_any F q s w h
  obtain ⟨C, Y, v, L, H, h1⟩ := h.ex
  have c4 := H.c4
  clear H h1 L h
  cases ho : s.off with
  | true =>
    rw [ho] at c4
    have HE : Hid (refI s at' = 7) := by show _ = _; simp [refI, ho]
    go_enter Try.func53, Try.ntmps53
    go_wp2
    go_ret
    exact ⟨ret_i HE.out.symm, rfl⟩
  | false =>
    rw [ho] at c4
    by_cases h1 : at' < 0
    · have HE : Hid (refI s at' = 3) := by show _ = _; simp [refI, ho, DS.has]; omega
      go_enter Try.func53, Try.ntmps53
      go_wp2
      go_ret
      exact ⟨ret_i HE.out.symm, rfl⟩
    · have HE : Hid (refI s at' = if at' < (s.safe.length : Int) then 0 else 3) := by show _ = _; simp only [refI, ho, DS.has, show (0 : Int) ≤ at' by omega, true_and]; rfl
      generalize s.safe.length = n at *
      by_cases h2 : at' < (n : Int)
      · rw [if_pos h2] at HE
        have h3 : ¬ (n : Int) ≤ at' := by omega
        go_enter Try.func53, Try.ntmps53
        go_wp2_with (go_at_call 40; ((with_reducible refine CB.mono ?_); rintro e w1 ⟨rfl, rfl⟩))
        go_ret
        exact ⟨ret_i HE.out.symm, rfl⟩
      · rw [if_neg h2] at HE
        have h3 : (n : Int) ≤ at' := by omega
        go_enter Try.func53, Try.ntmps53
        go_wp2_with (go_at_call 40; ((with_reducible refine CB.mono ?_); rintro e w1 ⟨rfl, rfl⟩))
        go_ret
        exact ⟨ret_i HE.out.symm, rfl⟩

/-- How many bytes a pick leaves. -/
def stayI (p : Int) : Int := if p % 66 = 65 then 64 else if p % 66 = 0 then 0 else p % 66 - 1
theorem remaining_any (p : Int) (w : World) : Calls Try.prog 30 #[.int .i64 p] w fun e w' => e = .returned (.int .i64 (stayI p)) ∧ w = w' := by
  have f1 : p.tmod 66 = p % 66 ∨ p.tmod 66 + 66 = p % 66 ∧ p.tmod 66 < 0 := by
    have := tdiv_facts p 66 (by omega)
    omega
  have f2 : -66 < p.tmod 66 ∧ p.tmod 66 < 66 := by
    have := tdiv_facts p 66 (by omega)
    omega
  have HS : Hid (stayI p = if p % 66 = 0 then 0 else p % 66 - 1) := by show _ = _; unfold stayI; split <;> split <;> omega
  have f3 : 0 ≤ p % 66 ∧ p % 66 < 66 := by omega
  generalize p % 66 = u at *
  by_cases h3 : p.tmod 66 < 0
  · have h4 : IntKind.i64.wrap (p.tmod 66 + 66) = u := by rw [IntKind.wrap_i64]; omega
    have h5 : IntKind.i64.wrap (u - 1) = u - 1 := by rw [IntKind.wrap_i64]; omega
    clear f1 f2
    by_cases h6 : u = 0
    · subst h6
      go_enter Try.func30, Try.ntmps30
      go_wp2
      go_ret
      exact ⟨ret_i HS.out.symm, rfl⟩
    · have h7 : ¬ u - 1 < 0 := by omega
      go_enter Try.func30, Try.ntmps30
      go_wp2
      go_ret
      exact ⟨ret_i (by rw [HS.out, if_neg h6]), rfl⟩
  · have h4 : p.tmod 66 = u := by omega
    have h5 : IntKind.i64.wrap (u - 1) = u - 1 := by rw [IntKind.wrap_i64]; omega
    have h8 : ¬ u < 0 := by omega
    clear f1 f2 h3
    by_cases h6 : u = 0
    · subst h6
      go_enter Try.func30, Try.ntmps30
      go_wp2
      go_ret
      exact ⟨ret_i HS.out.symm, rfl⟩
    · have h7 : ¬ u - 1 < 0 := by omega
      go_enter Try.func30, Try.ntmps30
      go_wp2
      go_ret
      exact ⟨ret_i (by rw [HS.out, if_neg h6]), rfl⟩
end Go.Proofs.Ythnhhhfjgbgpgaa.NumK
namespace Go.Proofs.Ythnhhhfjgbgpgaa.NumK
open Go.RowKit

theorem fx_self {F : Nat → Prop} {w w' : World} : ∀ k, F k → FX F w w' k := fun _ h => Or.inl h
theorem fx_fit {F : Nat → Prop} {w w' : World} (hf : ∀ k, F k → k < w.heap.size) (hs : w.heap.size ≤ w'.heap.size) : ∀ k, FX F w w' k → k < w'.heap.size := fun k h => by
  rcases h with h | h
  · exact Nat.lt_of_lt_of_le (hf k h) hs
  · exact h.2
/-- Only the head was turned. -/
theorem dk_head {F : Nat → Prop} {q : Nat} {s s' : DS} {w w' : World} {C Y : Nat} {v : Value} (hf : ∀ k, F k → k < w.heap.size) (L : Lie F q C Y v) (g : Chg (fun k => k = q) w w') (ok : DOK s')
    (h0 : s'.safe = s.safe) (h00 : s'.opn = s.opn) (H : Head w' q s.safe.length C Y v s'.armed s'.off) (h1 : BlkRow w C (cont s)) (h2 : BlkRow w Y s.safe) (h3 : w.ownsRow 0 66 65 v s.opn.length (opnC s.opn)) :
    Chg F w w' ∧ DK w' (FX F w w') q s' := by
  have hc : cont s' = cont s := by unfold cont; rw [h0, h00]
  refine ⟨g.mono (fun i hi => hi ▸ L.fq), fx_fit hf g.size, ok, C, Y, v, L.mono fx_self, by rw [h0]; exact H, by rw [hc]; exact h1.chg g (fun h => L.qC h.symm), by rw [h0]; exact h2.chg g (fun h => L.qY h.symm), ?_⟩
  rw [h00]
  exact ownsRow_of h3 fun k hk => g.block k (hf k (L.fv k hk).1) (L.fv k hk).2.1

theorem dok_last {s : DS} (h : DOK s) : DOK (dLast s).2 := by
  obtain ⟨h1, h2, h3, h4, h5, h6, h7⟩ := h
  unfold dLast
  split
  · exact ⟨h1, h2, h3, h4, h5, h6, h7⟩
  · split
    · exact ⟨h1, h2, h3, by show 0 ≤ _; omega, fun _ => rfl, (fun _ h => by cases h), fun _ => rfl⟩
    · exact ⟨h1, h2, h3, by show s.armed - 1 ≤ _; omega, h5, h6, fun h => by show s.armed - 1 = 0; have := h7 h; omega⟩
theorem dk_same {F : Nat → Prop} {q : Nat} {s : DS} {w : World} (h : DK w F q s) : Chg F w w ∧ DK w (FX F w w) q s := ⟨Chg.refl _ _, h.more fx_self (fx_fit h.fit (Nat.le_refl _))⟩
theorem isLast_any (F : Nat → Prop) (q : Nat) (s : DS) (w : World) (h : DK w F q s) : Calls Try.prog 54 #[.pointer (some ⟨q, 0, none⟩)] w (DPost F q w (.bool (dLast s).1) (dLast s).2) := by
  have hD := h
  obtain ⟨C, Y, v, L, H, h1, h2, h3⟩ := h.ex
  have c3 := H.c3
  have f3 := H.f3
  have f4 := H.f4
  have c4 := H.c4
  by_cases ha : s.armed = 0
  · have HP : Hid (DPost F q w (.bool (dLast s).1) (dLast s).2 (.returned (.bool false)) w) := by
      have e : dLast s = (false, s) := by unfold dLast; rw [if_pos ha]
      rw [e]
      exact ⟨rfl, dk_same hD⟩
    rw [ha] at c3
    clear H L h1 h2 h3 h hD
    go_enter Try.func54, Try.ntmps54
    go_wp2
    go_ret
    exact HP.out
  · have hoff : s.off = false := by
      cases ho : s.off
      · rfl
      · exact absurd (hD.ok.off0 ho) ha
    have hcut : s.cut = false := by
      cases ho : s.cut
      · rfl
      · have := hD.ok.cut ho; rw [hoff] at this; cases this
    have k0 : ¬ (s.armed : Int) = 0 := by omega
    have k1 : IntKind.i64.wrap ((s.armed : Int) - 1) = ((s.armed - 1 : Nat) : Int) := by rw [IntKind.wrap_i64]; have := hD.ok.arm; omega
    have HP : Hid (DPost F q w (.bool (dLast s).1) (dLast s).2 (.returned (.bool (decide (s.armed - 1 = 0)))) ((w.setCell ⟨q, 3, none⟩ (.int .i64 ((s.armed - 1 : Nat) : Int))).setCell ⟨q, 4, none⟩ (.bool (decide (s.armed - 1 = 0))))) := by
      have g : Chg (fun k => k = q) w ((w.setCell ⟨q, 3, none⟩ (.int .i64 ((s.armed - 1 : Nat) : Int))).setCell ⟨q, 4, none⟩ (.bool (decide (s.armed - 1 = 0)))) := ((Chg.refl (fun k => k = q) w).setCell ⟨q, 3, none⟩ _ (fun _ => rfl)).setCell ⟨q, 4, none⟩ _ (fun _ => rfl)
      have hok := dok_last hD.ok
      by_cases h1' : s.armed = 1
      · have e : dLast s = (true, { s with armed := 0, off := true, cut := true }) := by unfold dLast; rw [if_neg ha, if_pos h1']
        have e0 : s.armed - 1 = 0 := by omega
        rw [e] at hok ⊢
        rw [e0] at g ⊢
        exact ⟨rfl, dk_head (s := s) hD.fit L g hok rfl rfl ((H.set3 0).set4 true) h1 h2 h3⟩
      · have e : dLast s = (false, { s with armed := s.armed - 1 }) := by unfold dLast; rw [if_neg ha, if_neg h1']
        have e0 : decide (s.armed - 1 = 0) = false := decide_eq_false (by omega)
        rw [e] at hok ⊢
        rw [e0] at g ⊢
        refine ⟨rfl, dk_head (s := s) hD.fit L g hok rfl rfl ?_ h1 h2 h3⟩
        have := (H.set3 (s.armed - 1)).set4 false
        rw [← hoff] at this
        rwa [← hoff]
    clear H L h1 h2 h3 h hD hoff hcut
    generalize s.armed - 1 = m at *
    generalize s.armed = m0 at *
    go_enter Try.func54, Try.ntmps54
    go_wp2
    go_ret
    have e1 : ((m : Int) == 0) = decide (m = 0) := by by_cases h : m = 0 <;> simp [h]
    first
      | exact HP.out
      | (simp only [e1] at *; exact HP.out)

def armI (n : Int) : Nat := n.toNat
theorem dok_arm {s : DS} (h : DOK s) (n : Int) (hn : n ≤ 9223372036854775807) : DOK (dArm s n) := by
  obtain ⟨h1, h2, h3, h4, h5, h6, h7⟩ := h
  unfold dArm
  split
  · exact ⟨h1, h2, h3, h4, h5, h6, h7⟩
  · exact ⟨h1, h2, h3, by show n.toNat ≤ _; omega, h5, h6, fun h => by simp_all⟩
theorem arm_any (F : Nat → Prop) (q : Nat) (s : DS) (n : Int) (hn : n ≤ 9223372036854775807) (w : World) (h : DK w F q s) : Calls Try.prog 23 #[.pointer (some ⟨q, 0, none⟩), .int .i64 n] w (DPost F q w (.tuple #[]) (dArm s n)) := by
  have hD := h
  obtain ⟨C, Y, v, L, H, h1, h2, h3⟩ := h.ex
  have c3 := H.c3
  have f3 := H.f3
  have f4 := H.f4
  have c4 := H.c4
  cases ho : s.off with
  | true =>
    have HP : Hid (DPost F q w (.tuple #[]) (dArm s n) (.returned (.tuple #[])) w) := by
      have e : dArm s n = s := by unfold dArm; rw [ho]; rfl
      rw [e]
      exact ⟨rfl, dk_same hD⟩
    rw [ho] at c4
    clear H L h1 h2 h3 h hD
    go_enter Try.func23, Try.ntmps23
    go_wp2
    go_end0
    exact HP.out
  | false =>
    have HP : Hid (DPost F q w (.tuple #[]) (dArm s n) (.returned (.tuple #[])) (w.setCell ⟨q, 3, none⟩ (.int .i64 (n.toNat : Int)))) := by
      have e : dArm s n = { s with armed := n.toNat } := by unfold dArm; rw [ho]; rfl
      have hok := dok_arm hD.ok n hn
      rw [e] at hok ⊢
      refine ⟨rfl, dk_head (s := s) hD.fit L ((Chg.refl (fun k => k = q) w).setCell ⟨q, 3, none⟩ _ (fun _ => rfl)) hok rfl rfl ?_ h1 h2 h3⟩
      exact H.set3 n.toNat
    rw [ho] at c4
    clear H L h1 h2 h3 h hD
    by_cases h5 : n < 0
    · have e5 : n.toNat = 0 := by omega
      rw [e5] at HP
      go_enter Try.func23, Try.ntmps23
      go_wp2
      go_end0
      exact HP.out
    · have e5 : (n.toNat : Int) = n := by omega
      rw [e5] at HP
      clear e5
      go_enter Try.func23, Try.ntmps23
      go_wp2
      go_end0
      exact HP.out
end Go.Proofs.Ythnhhhfjgbgpgaa.NumK
namespace Go.Proofs.Ythnhhhfjgbgpgaa.NumK
open Go.RowKit

theorem info40 : (Try.prog.info? 61).map (fun i => (i.zero, i.size)) = some (some (blkV blk0), 64) := by kernel_rfl
theorem size40 {n : Nat} (h : 64 = n) : (Try.prog.info? 61).map (·.size) = some n := by subst h; exact (zero_of_info info40).2
theorem zero40 (w : World) : (zeroValue 61).run Try.prog w = .ok (.agg (bytesV blk0).toArray) w := (zero_of_info info40).1 w
theorem bytesV_one' {b : Blk} : (bytesV b).toArray.all (·.oneCell') = true := all_oneCell_toArray (bytesV_one b)

def blkV' (b : Blk) : Value := .agg (bytesV b).toArray
def readV (p : Blk × Int) : Value := .tuple #[blkV' p.1, .int .i64 p.2]

theorem dRead_not {s : DS} {at' : Int} (h : refI s at' ≠ 0) : dRead s at' = (blk0, refI s at') := by
  unfold dRead refI at *
  split
  · rfl
  · split
    · simp_all
    · rfl
theorem has_of {s : DS} {at' : Int} (h : refI s at' = 0) : s.off = false ∧ ∃ k : Nat, at' = (k : Int) ∧ k < s.safe.length := by
  unfold refI at h
  by_cases ho : s.off = true
  · rw [if_pos ho] at h; omega
  · rw [if_neg ho] at h
    by_cases hh : s.has at'
    · have := hh
      unfold DS.has at this
      exact ⟨by simpa using ho, at'.toNat, by omega, by omega⟩
    · rw [if_neg hh] at h; omega
theorem dRead_of {s : DS} {k : Nat} (ho : s.off = false) (hk : k < s.safe.length) : dRead s (k : Int) = ((cont s).getD k blk0, 0) := by
  unfold dRead DS.has cont
  rw [ho, applyL_see _ _ _ hk]
  simp [hk, DS.see]
/-- A value of 64 bytes in a block of its own. -/
theorem load_own (w w' : World) (b : Blk) (t : TypeId) (g : Grew (w.alloc (.cells (bytesV b).toArray t)) w') : w'.rangeAt w.heap.size 0 (bytesV b) := fun j v hv => by
  have hl := bytesV_len b
  have : (w.alloc (.cells (bytesV b).toArray t)).cell? ⟨w.heap.size, 0 + j, none⟩ = some v := by
    rw [World.cell?_alloc_at _ _ _ _ rfl, Nat.zero_add]
    simpa using hv
  exact (grew_cell g (p := ⟨w.heap.size, 0 + j, none⟩) (by simp)).trans this

/-- A value of many cells that a call tells out of a variable of its own. -/
theorem results_cell_tmp_mid {P : Program} {fn : Func} {p u : Tmp} {ty : TypeId} (h : fn.results = #[.cell p ty, .tmp u]) (tmps : Array Value) (w : World) (g : Nat) (cs : List Value) (d : TypeDesc) (hp : tmps.getD p undef = .pointer (some ⟨g, 0, none⟩))
    (hc : w.rangeAt g 0 cs) (hu : P.underlying ty = some d) (hd : d.isRow = true) (hi : (P.info? ty).map (·.size) = some cs.length) :
    (results fn tmps).run P w = .ok (.tuple #[.agg cs.toArray, tmps.getD u undef]) w := by
  rw [results_cell_tmp h, hp]
  simp [asAddr, Result.andThen, run_loadVar_mid w g 0 ty cs d hc hu hd hi]
theorem results_cell_mid {P : Program} {fn : Func} {p : Tmp} {ty : TypeId} (h : fn.results = #[.cell p ty]) (tmps : Array Value) (w : World) (g : Nat) (cs : List Value) (d : TypeDesc) (hp : tmps.getD p undef = .pointer (some ⟨g, 0, none⟩))
    (hc : w.rangeAt g 0 cs) (hu : P.underlying ty = some d) (hd : d.isRow = true) (hi : (P.info? ty).map (·.size) = some cs.length) :
    (results fn tmps).run P w = .ok (.agg cs.toArray) w := by
  have hp' : tmps[p]?.getD undef = .pointer (some ⟨g, 0, none⟩) := by simpa using hp
  simp [results, h, hp', asAddr, run_loadVar_mid w g 0 ty cs d hc hu hd hi]

set_option maxRecDepth 100000 in
set_option maxHeartbeats 1000000 in
theorem read_any (F : Nat → Prop) (q : Nat) (s : DS) (at' : Int) (w : World) (h : DK w F q s) : Calls Try.prog 36 #[.pointer (some ⟨q, 0, none⟩), .int .i64 at'] w fun e w' => e = .returned (readV (dRead s at')) ∧ Grew w w' := by
  obtain ⟨Z, hZ⟩ : ∃ Z, Z = (bytesV blk0).toArray := ⟨_, rfl⟩
  have hz := fun w => zero40 w
  rw [← hZ] at hz
  have CR := Lib.hid (refuses_any F q s at' (w.alloc (.cells Z 61)) (h.grew (grew_alloc _ _ _)))
  by_cases hr : refI s at' = 0
  · obtain ⟨ho, k, rfl, hk⟩ := has_of hr
    have HE : Hid (dRead s (k : Int) = ((cont s).getD k blk0, 0)) := dRead_of ho hk
    obtain ⟨C, Y, v, L, H, h1, h2, h3⟩ := (h.grew (grew_alloc w Z 61)).ex
    have c0 := H.c0
    have hr1 := Lib.hid (h1.at' k (by rw [cont_len]; exact hk)).1
    have hlen := h1.one (k := k) (by rw [cont_len]; exact hk)
    rw [hr] at CR
    have i1 : (k : Int) < (s.safe.length : Int) := by omega
    generalize (cont s).getD k blk0 = b at *
    have hn := bytesV_len b
    rw [hlen] at hn
    have hd : dRead s (k : Int) = (b, 0) := HE.out
    have hth : Hid ((w.alloc (.cells Z 61)).there w.heap.size 0 64) := by
      intro j hj
      subst hZ
      refine ⟨(load_own w _ blk0 _ (grew_refl _)).isSome j hj, ?_⟩
      simp
    have hout := Lib.hid (World.rangeAt_setCells_same (w.alloc (.cells Z 61)) w.heap.size 0 (bytesV b) (by rw [hn]; exact hth.out))
    have HZ := Lib.hid hZ
    clear hZ
    have HG : Hid (Grew w ((w.alloc (.cells Z 61)).setCells w.heap.size 0 (bytesV b))) := ((Grew.chg (grew_alloc w Z _)).setCells (F := fun k => k = w.heap.size) _ _ _ (fun _ => rfl)).grew (grew_refl _) (fun k hk => by subst hk; exact Nat.le_refl _)
    have hone := Lib.hid (bytesV_one' (b := b))
    rw [hd]
    show Calls _ _ _ _ fun e w' => e = .returned (.tuple #[.agg (bytesV b).toArray, .int .i64 0]) ∧ Grew w w'
    clear hd HE H h1 h2 h3 L h hr hk ho hlen
    generalize bytesV b = cs at *
    generalize s.safe.length = n at *
    go_enter Try.func36, Try.ntmps36
    go_wp2_with (first
      | (go_at_call 53; ((with_reducible refine CR.out.mono ?_); rintro e w1 ⟨rfl, rfl⟩))
      | (refine wpList_load_mid (by rfl) 61 _ (by rfl) C (k * 64) (by rfl) cs _ hr1.out Try.underlying61 rfl (size40 hn.symm) ?_)
      | (refine wpList_store_mid (by rfl) 61 _ _ (by rfl) w.heap.size 0 cs.toArray (by rfl) (by rfl) (by simpa [hn] using hth.out) (size40 (by simpa using hn.symm)) hone.out ?_))
    (try simp only [Exit.inBlock, Exit.then]); refine bodyPost_ret (results_cell_tmp_mid rfl _ _ w.heap.size cs _ rfl hout.out Try.underlying61 rfl (size40 hn.symm)) rfl ?_
    exact ⟨rfl, HG.out⟩
  · have hE := dRead_not hr
    have hn := bytesV_len blk0
    rw [show blk0.length = 64 from rfl] at hn
    have hth : Hid ((w.alloc (.cells Z 61)).there w.heap.size 0 64) := by
      intro j hj
      subst hZ
      refine ⟨(load_own w _ blk0 _ (grew_refl _)).isSome j hj, ?_⟩
      simp
    have hZ2 := Lib.hid hZ
    have hout := Lib.hid (World.rangeAt_setCells_same (w.alloc (.cells Z 61)) w.heap.size 0 (bytesV blk0) (by rw [hn]; exact hth.out))
    have HG : Hid (Grew w ((w.alloc (.cells Z 61)).setCells w.heap.size 0 (bytesV blk0))) := ((Grew.chg (grew_alloc w Z _)).setCells (F := fun k => k = w.heap.size) _ _ _ (fun _ => rfl)).grew (grew_refl _) (fun k hk => by subst hk; exact Nat.le_refl _)
    have hone := Lib.hid (bytesV_one' (b := blk0))
    rw [hE]
    show Calls _ _ _ _ fun e w' => e = .returned (.tuple #[.agg (bytesV blk0).toArray, .int .i64 (refI s at')]) ∧ Grew w w'
    clear hE h hZ
    generalize refI s at' = r at *
    generalize bytesV blk0 = cs at *
    have hZ := hZ2.out
    clear hZ2
    subst hZ
    have d1 : (r != 0) = true := by simpa using hr
    go_enter Try.func36, Try.ntmps36
    go_wp2_with (first
      | (go_at_call 53; ((with_reducible refine CR.out.mono ?_); rintro e w1 ⟨rfl, rfl⟩))
      | (refine wpList_store_mid (by rfl) 61 _ _ (by rfl) w.heap.size 0 cs.toArray (by rfl) (by rfl) (by simpa [hn] using hth.out) (size40 (by simpa using hn.symm)) hone.out ?_))
    (try simp only [Exit.inBlock, Exit.then]); refine bodyPost_ret (results_cell_tmp_mid rfl _ _ w.heap.size cs _ rfl hout.out Try.underlying61 rfl (size40 hn.symm)) rfl ?_
    exact ⟨rfl, HG.out⟩
end Go.Proofs.Ythnhhhfjgbgpgaa.NumK
namespace Go.Proofs.Ythnhhhfjgbgpgaa.NumK
open Go.RowKit

theorem info66 : (Try.prog.info? 66).map (fun i => (i.zero, i.size, i.bytes)) = some (some (.agg (wrC (0, blk0)).toArray), 65, 72) := by kernel_rfl
theorem places66 : (match Try.prog.underlying 66 with | some (.struct fs) => fs.toList.mapM (fun f => (Try.prog.info? f.type).map fun i => (f.offset, i.size)) | _ => none) = some [(0, 1), (1, 64)] := by kernel_rfl
theorem size66 {n : Nat} (h : 65 = n) : (Try.prog.info? 66).map (·.size) = some n := by
  subst h
  cases hq : Try.prog.info? 66 with
  | none => have := info66; rw [hq] at this; simp at this
  | some i => have := info66; rw [hq] at this; simp at this; simp [this]
theorem under66 : ∃ d, Try.prog.underlying 66 = some d ∧ d.isRow = true := by
  have := places66
  cases hq : Try.prog.underlying 66 with
  | none => rw [hq] at this; simp at this
  | some d =>
    rw [hq] at this
    cases d <;> first | (simp at this; done) | exact ⟨_, rfl, rfl⟩
theorem zero66 (w : World) : (zeroValue 66).run Try.prog w = .ok (.agg (wrC (0, blk0)).toArray) w := by
  cases hq : Try.prog.info? 66 with
  | none => have := info66; rw [hq] at this; simp at this
  | some i => have := info66; rw [hq] at this; simp at this; simp [zeroValue, typeInfo, hq, this]

/-- A number's cell and 64 behind it. -/
theorem fill_write (v : Value) (hv : v.cells = #[v]) (cs : List Value) (hc : cs.length = 64) (z : Array Value) (hz : z.size = 65) :
    Instr.fill (fun i => [(0, 1), (1, 64)][i]?) z [(0, v), (1, .agg cs.toArray)] = some (v :: cs).toArray := by
  have hcc : (Value.agg cs.toArray).cells = cs.toArray := rfl
  simp only [Instr.fill, List.getElem?_cons_zero, List.getElem?_cons_succ, hv, hcc]
  obtain ⟨g1, g2⟩ := Great.foldl_set 0 [v] 0 z
  have e1 : ((#[v] : Array Value).zipIdx.foldl (fun cs (x : Value × Nat) => cs.setIfInBounds (0 + x.2) x.1) z) = (([v].zipIdx 0).foldl (fun cs (x : Value × Nat) => cs.setIfInBounds (0 + x.2) x.1) z) := by simp
  have h2 : ∀ z' : Array Value, (cs.toArray.zipIdx.foldl (fun cs (x : Value × Nat) => cs.setIfInBounds (1 + x.2) x.1) z') = ((cs.zipIdx 0).foldl (fun cs (x : Value × Nat) => cs.setIfInBounds (1 + x.2) x.1) z') := by
    intro z'
    simp
  rw [if_neg (by simp [hz])]
  rw [if_neg (by
    have : ((#[v] : Array Value).zipIdx.foldl (fun cs (x : Value × Nat) => cs.setIfInBounds (0 + x.2) x.1) z).size = 65 := by rw [e1, g1, hz]
    simp only [ne_eq, decide_eq_true_eq, Bool.or_eq_true, not_or]
    simp [hc]
    simpa using Nat.le_of_eq this.symm)]
  have e3 := h2 ((#[v] : Array Value).zipIdx.foldl (fun cs (x : Value × Nat) => cs.setIfInBounds (0 + x.2) x.1) z)
  refine congrArg some ?_
  refine Eq.trans e3 ?_
  rw [e1]
  generalize hz1 : (([v].zipIdx 0).foldl (fun cs (x : Value × Nat) => cs.setIfInBounds (0 + x.2) x.1) z) = z1 at g1 g2
  obtain ⟨k1, k2⟩ := Great.foldl_set 1 cs 0 z1
  apply Array.ext_getElem?
  intro i
  rw [k2 i, g2 i]
  simp only [g1, hz, hc, List.length_singleton]
  by_cases h0 : i = 0
  · subst h0; simp
  · by_cases h1 : i < 65
    · rw [if_pos (by omega)]
      obtain ⟨j, rfl⟩ : ∃ j, i = j + 1 := ⟨i - 1, by omega⟩
      simp
    · rw [if_neg (by omega), if_neg (by omega)]
      simp only [List.getElem?_toArray]
      rw [List.getElem?_eq_none (by simp [hc]; omega), Array.getElem?_eq_none (by omega)]
theorem run_build66 (w : World) (k : Int) (cs : List Value) (hc : cs.length = 64) : (Instr.build 66 #[(0, .int .i64 k), (1, .agg cs.toArray)]).run Try.prog w = .ok (.agg (.int .i64 k :: cs).toArray) w := by
  refine run_build w _ _ _ ?_
  have h1 := places66
  have h2 := info66
  unfold Program.built
  cases hq : Try.prog.info? 66 with
  | none => rw [hq] at h2; simp at h2
  | some it =>
    rw [hq] at h2
    simp only [Option.map_some, Option.some.injEq, Prod.mk.injEq] at h2
    cases hu : Try.prog.underlying 66 with
    | none => rw [hu] at h1; simp at h1
    | some d =>
      rw [hu] at h1
      cases d <;> try (simp at h1; done)
      rename_i fs
      simp only at h1 ⊢
      rw [h2.1, h1]
      simp only
      have := fill_write (.int .i64 k) rfl cs hc (wrC (0, blk0)).toArray (by simp [wrC, bytesV_len, blk0])
      simpa [Value.cells] using this
theorem run_slice66 (w : World) (cs : List Value) (hc : cs.length = 65) : (Instr.buildSlice 43 1 #[(0, .agg cs.toArray)]).run Try.prog w = .ok (.slice (some ⟨w.heap.size, 0, none⟩) 1 1) (w.alloc (.cells cs.toArray 66)) := by
  have h2 := info66
  cases hq : Try.prog.info? 66 with
  | none => rw [hq] at h2; simp at h2
  | some it =>
    rw [hq] at h2
    simp only [Option.map_some, Option.some.injEq, Prod.mk.injEq] at h2
    refine run_buildSlice w _ _ 1 _ cs.toArray it _ Try.underlying43 hq h2.1 (by rw [h2.2.1]; decide) (by rw [h2.2.1]; decide) ?_
    rw [h2.2.1]
    obtain ⟨r, hr, hsz, hk⟩ := Great.fill_dense (s := 65) (by decide) [.agg cs.toArray] 0 ((Array.range (1 * 65)).map fun x => (Value.agg (wrC (0, blk0)).toArray).cells[x % (Value.agg (wrC (0, blk0)).toArray).cells.size]!) (by intro v hv; simp at hv; subst hv; simpa [Value.cells] using hc) (by simp)
    have : r = cs.toArray := by
      apply Array.ext_getElem?
      intro i
      rw [hk i]
      by_cases hi : i < 65
      · rw [if_pos (by simp; omega)]
        simp [show i / 65 = 0 by omega, Nat.mod_eq_of_lt hi, Value.cells]
      · rw [if_neg (by simp; omega), Array.getElem?_eq_none (by simp; omega), Array.getElem?_eq_none (by simp [hc]; omega)]
    rw [this] at hr
    simpa using hr
/-- In a region that draws its order. -/
theorem yieldsIf_build66 {ops : Array Oper} {S : World → Prop} {o : Oper} {a : Act} (hw : Region.wanted o (yielded ops a.tmps) = true) (x y : Operand) (ho : o.op = .build 66 #[(0, x), (1, y)]) (k : Int) (cs : List Value)
    (hx : a.eval x = .int .i64 k) (hy : a.eval y = .agg cs.toArray) (hc : cs.length = 64) : YieldsIf Try.prog ops S o (.agg (.int .i64 k :: cs).toArray) a :=
  .inl ⟨hw, fun w _ => by
    unfold execOp
    simp only [ho, List.map_toArray, List.map_cons, List.map_nil, hx, hy, Sem.run_bind, run_build66 w k cs hc, Result.andThen_ok, Sem.run_pure]⟩
theorem step_slice66 {ops : Array Oper} {o : Oper} {a : Act} {w : World} {K : Act → World → Prop} {Q : Exit → Act → World → Prop} {E : Prop} (hgd : o.guard = none) (x : Operand) (ho : o.op = .buildSlice 43 1 #[(0, x)]) (cs : List Value) (hx : a.eval x = .agg cs.toArray) (hc : cs.length = 65)
    (h : K (a.put o.dst (.slice (some ⟨w.heap.size, 0, none⟩) 1 1)) (w.alloc (.cells cs.toArray 66))) : if Region.wanted o (yielded ops a.tmps) = true then Oper.wp Try.prog o a w K Q else E := by
  have hw : Region.wanted o (yielded ops a.tmps) = true := by simp [Region.wanted, hgd]
  rw [if_pos hw]
  unfold Oper.wp execOp
  simp only [ho, List.map_toArray, List.map_cons, List.map_nil, hx, Sem.run_bind, run_slice66 w cs hc, Result.andThen_ok, Sem.run_pure]
  exact h
end Go.Proofs.Ythnhhhfjgbgpgaa.NumK
namespace Go.Proofs.Ythnhhhfjgbgpgaa.NumK
open Go.RowKit

def wrS (s : DS) (k : Nat) (b : Blk) : DS := { s with opn := s.opn ++ [(k, b)] }
theorem cont_wr (s : DS) (k : Nat) (b : Blk) : cont (wrS s k b) = (cont s).set k b := applyL_snoc _ _ _
theorem dok_wr {s : DS} {k : Nat} {b : Blk} (h : DOK s) (ho : s.off = false) (hk : k < s.safe.length) (hb : b.length = 64) : DOK (wrS s k b) := by
  obtain ⟨h1, h2, h3, h4, h5, h6, h7⟩ := h
  refine ⟨⟨h1.1, fun x hx => ?_⟩, h2, h3, h4, h5, fun h => ?_, h7⟩
  · rcases List.mem_append.1 hx with hx | hx
    · exact h1.2 x hx
    · rw [List.mem_singleton] at hx; subst hx; exact ⟨hk, hb⟩
  · rw [show (wrS s k b).off = s.off from rfl, ho] at h; cases h
theorem last_wr (s : DS) (k : Nat) (b : Blk) : (dLast (wrS s k b)).1 = (dLast s).1 ∧ (dLast (wrS s k b)).2 = { (dLast s).2 with opn := s.opn ++ [(k, b)] } := by
  unfold dLast wrS
  by_cases h : s.armed = 0
  · simp [h]
  · by_cases h1 : s.armed = 1
    · simp [h1]
    · simp [h, h1]
theorem dWrite_of {s : DS} {k : Nat} {b : Blk} (ho : s.off = false) (hk : k < s.safe.length) : dWrite s (k : Int) b = (if (dLast (wrS s k b)).1 then 7 else 0, (dLast (wrS s k b)).2) := by
  obtain ⟨h1, h2⟩ := last_wr s k b
  unfold dWrite DS.has
  rw [h1, h2, ho]
  simp [hk]
theorem dWrite_not {s : DS} {at' : Int} {b : Blk} (h : refI s at' ≠ 0) : dWrite s at' b = (refI s at', s) := by
  unfold dWrite refI at *
  split
  · rfl
  · split
    · simp_all
    · rfl
theorem fx_fx {F : Nat → Prop} {a b c : World} (h1 : a.heap.size ≤ b.heap.size) (h2 : b.heap.size ≤ c.heap.size) : ∀ k, FX (FX F a b) b c k → FX F a c k := fun k h => by
  rcases h with (h | h) | h
  · exact Or.inl h
  · exact Or.inr ⟨h.1, by omega⟩
  · exact Or.inr ⟨by omega, h.2⟩
theorem dpost_then {F : Nat → Prop} {q : Nat} {a b c : World} {r : Value} {s : DS} {e : Ending} (hf : ∀ k, F k → k < a.heap.size) (h1 : Chg F a b) (h2 : DPost (FX F a b) q b r s e c) : DPost F q a r s e c := by
  obtain ⟨he, hc, hd⟩ := h2
  refine ⟨he, h1.then hc (fun i hi hF => ?_), hd.more (fx_fx h1.size hc.size) (fx_fit hf (Nat.le_trans h1.size hc.size))⟩
  rcases hF with hF | hF
  · exact hF
  · omega
/-- A method's post from a world that has only grown. -/
theorem dpost_grew {F : Nat → Prop} {q : Nat} {a b c : World} {r : Value} {s : DS} {e : Ending} (hf : ∀ k, F k → k < a.heap.size) (h1 : Grew a b) (h2 : DPost F q b r s e c) : DPost F q a r s e c := by
  obtain ⟨he, hc, hd⟩ := h2
  refine ⟨he, (h1.chg).then hc (fun i _ hF => hF), hd.more (fun k hk => ?_) (fx_fit hf (Nat.le_trans h1.size hc.size))⟩
  rcases hk with hk | hk
  · exact Or.inl hk
  · exact Or.inr ⟨Nat.le_trans h1.size hk.1, hk.2⟩

/-- The worlds that a Write leaves. -/
theorem dk_write {F : Nat → Prop} {q : Nat} {s : DS} {w w2 w3 w4 : World} {C Y g cap k : Nat} {v : Value} {b : Blk} (hf : ∀ k, F k → k < w.heap.size) (ok : DOK (wrS s k b)) (L : Lie F q C Y v) (H : Head w q s.safe.length C Y v s.armed s.off) (h1 : BlkRow w C (cont s)) (h2 : BlkRow w Y s.safe)
    (hk : k < s.safe.length) (hb : b.length = 64) (g2 : w2 = w.setCells C (k * 64) (bytesV b)) (g3 : Grew w2 w3)
    (g4 : w3.grownBy w4 v.ownBlock) (ho : w4.ownsRow 0 66 65 (.slice (some ⟨g, 0, none⟩) (s.opn.length + 1) cap) (s.opn.length + 1) (opnC s.opn ++ wrC (k, b))) (hat : v.ownBlock = some g ∨ w.heap.size ≤ g) (hlt : g < w4.heap.size) :
    Chg F w (w4.setCell ⟨q, 2, none⟩ (.slice (some ⟨g, 0, none⟩) (s.opn.length + 1) cap)) ∧ DK (w4.setCell ⟨q, 2, none⟩ (.slice (some ⟨g, 0, none⟩) (s.opn.length + 1) cap)) (FX F w (w4.setCell ⟨q, 2, none⟩ (.slice (some ⟨g, 0, none⟩) (s.opn.length + 1) cap))) q (wrS s k b) := by
  have c2 : Chg (fun i => i = C) w w2 := g2 ▸ (Chg.refl _ _).setCells _ _ _ (fun _ => rfl)
  have c3 : Chg (fun i => i = C) w w3 := c2.trans g3.chg
  have s2 : w.heap.size = w2.heap.size := by rw [g2, setCells_size]
  have r1 : BlkRow w3 C ((cont s).set k b) := by
    have := h1.set (k := k) (by rw [cont_len]; exact hk) b hb
    rw [← g2] at this
    exact this.of (g3.block C this.lt) g3.size
  have c4 : Chg (fun i => v.ownBlock = some i) w3 w4 := (Chg.refl _ _).grown g4 (fun k hk _ => hk)
  have n : ∀ i, v.ownBlock = some i → i ≠ q ∧ i ≠ C ∧ i ≠ Y := fun i hi => (L.fv i hi).2
  have r2 : BlkRow w4 C ((cont s).set k b) := r1.chg c4 (fun h => (n _ h).2.1 rfl)
  have r3 : BlkRow w4 Y s.safe := (h2.chg c3 (fun h => L.CY h.symm)).chg c4 (fun h => (n _ h).2.2 rfl)
  have r4 : Head w4 q s.safe.length C Y v s.armed s.off := (H.chg c3 (fun h => L.qC h)).chg c4 (fun h => (n _ h).1 rfl)
  have c5 : Chg (fun i => i = q) w4 (w4.setCell ⟨q, 2, none⟩ (.slice (some ⟨g, 0, none⟩) (s.opn.length + 1) cap)) := (Chg.refl (fun i => i = q) w4).setCell ⟨q, 2, none⟩ _ (fun _ => rfl)
  have hall : Chg F w (w4.setCell ⟨q, 2, none⟩ (.slice (some ⟨g, 0, none⟩) (s.opn.length + 1) cap)) :=
    ((c3.mono (G := F) (fun i hi => hi ▸ L.fC)).trans (c4.mono (G := F) (fun i hi => (L.fv i hi).1))).trans (c5.mono (G := F) (fun i hi => hi ▸ L.fq))
  have hg : g ≠ q ∧ g ≠ C ∧ g ≠ Y ∧ (F g ∨ w.heap.size ≤ g) := by
    rcases hat with h | h
    · exact ⟨(n g h).1, (n g h).2.1, (n g h).2.2, Or.inl (L.fv g h).1⟩
    · have := hf q L.fq; have := hf C L.fC; have := hf Y L.fY
      exact ⟨by omega, by omega, by omega, Or.inr h⟩
  refine ⟨hall, fx_fit hf hall.size, ok, C, Y, .slice (some ⟨g, 0, none⟩) (s.opn.length + 1) cap, ?_, r4.set2 _, ?_, r3.chg c5 (fun h => L.qY h.symm), ?_⟩
  · refine ⟨Or.inl L.fq, Or.inl L.fC, Or.inl L.fY, fun i hi => ?_, L.qC, L.qY, L.CY⟩
    have : i = g := by simpa [Value.ownBlock] using hi.symm
    subst this
    refine ⟨?_, hg.1, hg.2.1, hg.2.2.1⟩
    rcases hg.2.2.2 with h | h
    · exact Or.inl h
    · exact Or.inr ⟨h, by simpa [World.setCell] using hlt⟩
  · rw [cont_wr]; exact r2.chg c5 (fun h => L.qC h.symm)
  · have e : (wrS s k b).opn.length = s.opn.length + 1 := by simp [wrS]
    rw [e, show (wrS s k b).opn = s.opn ++ [(k, b)] from rfl, opnC_snoc]
    refine ownsRow_of ho fun i hi => c5.block i ?_ ?_
    · have : i = g := by simpa [Value.ownBlock] using hi.symm
      subst this; exact hlt
    · have : i = g := by simpa [Value.ownBlock] using hi.symm
      subst this; exact hg.1
end Go.Proofs.Ythnhhhfjgbgpgaa.NumK
namespace Go.Proofs.Ythnhhhfjgbgpgaa.NumK
open Go.RowKit

set_option maxRecDepth 100000 in
set_option maxHeartbeats 1000000 in
theorem write_ok (F : Nat → Prop) (q : Nat) (s : DS) (k : Nat) (b : Blk) (w : World) (h : DK w F q s) (hb : b.length = 64) (hn : s.opn.length ≤ 1000000) (ho : s.off = false) (hk : k < s.safe.length) :
    Calls Try.prog 25 #[.pointer (some ⟨q, 0, none⟩), .int .i64 (k : Int), blkV' b] w (DPost F q w (.int .i64 (dWrite s k b).1) (dWrite s k b).2) := by
  have hr : refI s (k : Int) = 0 := by unfold refI DS.has; rw [ho]; simp [hk]
  have hz : ∀ w : World, Grew w (w.alloc (.cells (bytesV b).toArray 61)) := fun w => grew_alloc _ _ _
  have CR := Lib.hid (refuses_any F q s (k : Int) _ (h.grew (hz w)))
  have CL := Lib.hid (fun w5 F5 h5 => isLast_any F5 q (wrS s k b) w5 h5)
  rw [hr] at CR
  rw [dWrite_of ho hk]
  have hok := Lib.hid (dok_wr (b := b) h.ok ho hk hb)
  have hfit := Lib.hid h.fit
  obtain ⟨C, Y, v, L, H, h1, h2, h3⟩ := (h.grew (hz w)).ex
  obtain ⟨A, cap0, rfl⟩ := own_form h3
  have c0 := H.c0
  have c2 := H.c2
  have f2 := H.f2
  have hth := (h1.at' k (by rw [cont_len]; exact hk)).2
  have hbl := bytesV_len b
  rw [hb] at hbl
  have hone := bytesV_one b
  have hld : ((w.alloc (.cells (bytesV b).toArray 61)).rangeAt w.heap.size 0 (bytesV b)) := load_own w _ b _ (grew_refl _)
  have i0 : (0 : Int) ≤ (k : Int) := Int.natCast_nonneg _
  have i1 : (k : Int) < (s.safe.length : Int) := by omega
  have hu := Try.underlying61
  have hi : (Try.prog.info? 61).map (·.size) = some (bytesV b).length := size40 hbl.symm
  show Calls _ _ #[_, _, .agg (bytesV b).toArray] _ _
  have hC := h.fit C L.fC
  have hq := h.fit q L.fq
  have hqC := L.qC
  have hH := Lib.hid H
  have hL := Lib.hid L
  have H1 := Lib.hid h1
  have H2 := Lib.hid h2
  have H3 := Lib.hid h3
  have hG := Lib.hid (hz w)
  clear H L h1 h2 h3 h
  obtain ⟨cs, hbv'⟩ : ∃ cs, bytesV b = cs := ⟨_, rfl⟩
  obtain ⟨n, hnn'⟩ : ∃ n, s.safe.length = n := ⟨_, rfl⟩
  have hbv := Lib.hid hbv'
  have hnn := Lib.hid hnn'
  rw [hbv'] at hbl hone hld hi hG hH H1 H2 H3 CR c0 c2 f2 hth
  rw [hnn'] at i1 hH c0 hk
  rw [hbv']
  clear hbv' hnn' hz
  go_enter Try.func25, Try.ntmps25
  go_upto_region 4 with (first
      | (go_at_call 53; ((with_reducible refine CR.out.mono ?_); rintro e w1 ⟨rfl, rfl⟩)))
  generalize w.alloc (.cells cs.toArray 61) = w1 at *
  have d0 : (w1.drew.setCells C (k * 64) cs).cell? ⟨q, 0, none⟩ = some (.slice (some ⟨C, 0, none⟩) n n) := by
    rw [World.cell?_setCells_out _ _ _ _ _ (fun h => absurd h hqC)]; exact c0
  have d1 : (w1.drew.setCells C (k * 64) cs).rangeAt w.heap.size 0 cs := World.rangeAt_setCells_apart ((World.rangeAt_drew _ _ _ _).2 hld) _ _ _ (Or.inl (by omega))
  have d2 : (w1.drew.setCells C (k * 64) cs).there C (k * 64) 64 := World.there_setCells ((World.there_drew _ _ _ _).2 hth) _ _ _
  go_region_held3 (fun w' => w'.cell? ⟨q, 0, none⟩ = some (.slice (some ⟨C, 0, none⟩) n n) ∧ w'.rangeAt w.heap.size 0 cs ∧ w'.there C (k * 64) 64) (first | exact ⟨c0, (World.rangeAt_drew _ _ _ _).2 hld, (World.there_drew _ _ _ _).2 hth⟩ | exact ⟨d0, d1, d2⟩) (fail)
  have hw2 : (w1.drew.setCells C (k * 64) cs).heap.size = w1.heap.size := setCells_size _ _ _ _
  have e2 : (w1.drew.setCells C (k * 64) cs).cell? ⟨q, 2, none⟩ = some (.slice A s.opn.length cap0) := by
    rw [World.cell?_setCells_out _ _ _ _ _ (fun h => absurd h hqC)]; exact c2
  have ef2 : (w1.drew.setCells C (k * 64) cs).frozen? ⟨q, 2, none⟩ = false := by rw [World.frozen?_setCells]; exact f2
  obtain ⟨w2, hw⟩ : ∃ w2, w2 = w1.drew.setCells C (k * 64) cs := ⟨_, rfl⟩
  have HW := Lib.hid hw
  rw [← hw] at hw2 e2 ef2 d1
  rw [← hw]
  clear hw d0 d2
  obtain ⟨i66, hi66, hz66, hs66, hb66⟩ := info_parts info66
  have D3 : Hid ((w2.drew.alloc (.cells (.int .i64 (k : Int) :: cs).toArray 66)).rangeAt w.heap.size 0 cs) := World.rangeAt_alloc ((World.rangeAt_drew _ _ _ _).2 d1) _
  have HO : Hid ((w2.drew.alloc (.cells (.int .i64 (k : Int) :: cs).toArray 66)).ownsRow 0 66 65 (.slice A s.opn.length cap0) s.opn.length (opnC s.opn)) := by
    refine World.ownsRow.alloc (ownsRow_of H3.out fun i hi => ?_) _
    rw [HW.out]
    exact (setCells_same C cs (k * 64) w1.drew).2.2.2 i (hL.out.fv i hi).2.2.1
  have HN : Hid (∀ j u, (.int .i64 (k : Int) :: cs)[j]? = some u → (w2.drew.alloc (.cells (.int .i64 (k : Int) :: cs).toArray 66)).cell? ((⟨w2.heap.size, 0, none⟩ : Addr).add j) = some u) := by
    exact World.news_of_block (heap_alloc_new w2.drew (.cells (.int .i64 (k : Int) :: cs).toArray 66))
  have HV : Hid ((Value.slice A s.opn.length cap0).ownBlock ≠ some w.heap.size) := by
    intro h
    have := hfit.out _ (hL.out.fv _ h).1
    omega
  have HVq : Hid ((Value.slice A s.opn.length cap0).ownBlock ≠ some q) := fun h => (hL.out.fv _ h).2.1 rfl
  have hw3 : (w2.drew.alloc (.cells (.int .i64 (k : Int) :: cs).toArray 66)).heap.size = w2.heap.size + 1 := by simp
  have hq2 : q < w2.heap.size := by rw [hw2]; exact hH.out.lt
  have hB : Hid (w.heap.size < (w2.drew.alloc (.cells (.int .i64 (k : Int) :: cs).toArray 66)).heap.size) := by show _ < _; rw [hw3, hw2]; have := hG.out.size; omega
  have hQ : Hid (q < (w2.drew.alloc (.cells (.int .i64 (k : Int) :: cs).toArray 66)).heap.size) := by show _ < _; rw [hw3]; omega
  have e3 : (w2.drew.alloc (.cells (.int .i64 (k : Int) :: cs).toArray 66)).cell? ⟨q, 2, none⟩ = some (.slice A s.opn.length cap0) := (World.cell?_alloc_lt _ _ _ hq2).trans e2
  have ef3 : (w2.drew.alloc (.cells (.int .i64 (k : Int) :: cs).toArray 66)).frozen? ⟨q, 2, none⟩ = false := (World.frozen?_alloc_past _ _ _ hq2).trans ef2
  have e4 : (w2.alloc (.cells (.int .i64 (k : Int) :: cs).toArray 66)).cell? ⟨q, 2, none⟩ = some (.slice A s.opn.length cap0) := (World.cell?_alloc_lt _ _ _ hq2).trans e2
  have HP : Hid (∀ g cap w4, w4.ownsRow 0 66 65 (.slice (some ⟨g, 0, none⟩) (s.opn.length + 1) cap) (s.opn.length + 1) (opnC s.opn ++ .int .i64 (k : Int) :: cs) → (w2.drew.alloc (.cells (.int .i64 (k : Int) :: cs).toArray 66)).grownBy w4 (Value.slice A s.opn.length cap0).ownBlock →
      ((Value.slice A s.opn.length cap0).ownBlock = some g ∨ g = w2.heap.size + 1) → g < w4.heap.size → Chg F w (w4.setCell ⟨q, 2, none⟩ (.slice (some ⟨g, 0, none⟩) (s.opn.length + 1) cap)) ∧ DK (w4.setCell ⟨q, 2, none⟩ (.slice (some ⟨g, 0, none⟩) (s.opn.length + 1) cap)) (FX F w (w4.setCell ⟨q, 2, none⟩ (.slice (some ⟨g, 0, none⟩) (s.opn.length + 1) cap))) q (wrS s k b)) := by
    intro g cap w4 hown hgrow hat hlt
    have hg1 : Grew w w1.drew := grew_drew hG.out
    have := dk_write (w := w1.drew) (w2 := w2) (w3 := w2.drew.alloc (.cells (.int .i64 (k : Int) :: cs).toArray 66)) (w4 := w4) (g := g) (cap := cap) (k := k) (b := b) (fun i hi => Nat.lt_of_lt_of_le (hfit.out i hi) hg1.size) hok.out hL.out (by rw [hnn.out]; exact hH.out.of (w' := w1.drew) rfl (Nat.le_refl _)) (H1.out.of (w' := w1.drew) rfl (Nat.le_refl _)) (H2.out.of (w' := w1.drew) rfl (Nat.le_refl _)) (by rw [hnn.out]; exact hk) hb (by rw [hbv.out]; exact HW.out) (grew_trans (grew_drew (grew_refl _)) (grew_alloc _ _ _)) hgrow
      (by rw [show wrC (k, b) = .int .i64 (k : Int) :: bytesV b from rfl, hbv.out]; exact hown) (hat.imp id fun h => by rw [h, hw2]; show w1.heap.size ≤ _; omega) hlt
    refine ⟨hg1.chg.then this.1 (fun i _ hF => hF), this.2.more (fun i hi => ?_) (fx_fit hfit.out (Nat.le_trans hg1.size this.1.size))⟩
    rcases hi with hi | hi
    · exact Or.inl hi
    · exact Or.inr ⟨Nat.le_trans hg1.size hi.1, hi.2⟩
  have HW2 := Lib.hid hw2
  have hw3 := Lib.hid hw3
  clear hw2
  go_upto_region 5 with (fail)
  -- REGION5
  refine wp_region_held_drew (S := fun w' => w'.rangeAt w.heap.size 0 cs) (by kernel_rfl) ((World.rangeAt_drew _ _ _ _).2 d1) (fun hHeld => ?_)
  (refine wpAnyH_take (i := 0) (oi := { dst := some 21, op := Op.move (Operand.tmp 0), type := 24, pos := "disk.go:56", after := #[], guard := none }) (v := ?_) rfl (by kernel_rfl) (by kernel_rfl) (by kernel_rfl) (fun _ _ _ h => h) (Or.inl ⟨by rfl, ?_⟩) (by assumption) ?_; rotate_left; · (intro w hSw; (try dsimp only at hSw); go_simp; (first | done | with_reducible rfl)))
  try simp only [Act.put, List.setIfInBounds_toArray, List.set_cons_zero, List.set_cons_succ]
  (refine wpAnyH_take (i := 1) (oi := { dst := some 22, op := Op.move (Operand.tmp 0), type := 24, pos := "disk.go:56", after := #[], guard := none }) (v := ?_) rfl (by kernel_rfl) (by kernel_rfl) (by kernel_rfl) (fun _ _ _ h => h) (Or.inl ⟨by rfl, ?_⟩) (by assumption) ?_; rotate_left; · (intro w hSw; (try dsimp only at hSw); go_simp; (first | done | with_reducible rfl)))
  try simp only [Act.put, List.setIfInBounds_toArray, List.set_cons_zero, List.set_cons_succ]
  (refine wpAnyH_take (i := 2) (oi := { dst := some 23, op := Op.nilCheck (Operand.tmp 22), type := 0, pos := "disk.go:56", after := #[{ on := 1, ground := Ground.data }], guard := none }) (v := ?_) rfl (by kernel_rfl) (by kernel_rfl) (by kernel_rfl) (fun _ _ _ h => h) (Or.inl ⟨by rfl, ?_⟩) (by assumption) ?_; rotate_left; · (intro w hSw; (try dsimp only at hSw); go_simp; (first | done | with_reducible rfl)))
  try simp only [Act.put, List.setIfInBounds_toArray, List.set_cons_zero, List.set_cons_succ]
  (refine wpAnyH_take (i := 3) (oi := { dst := some 24, op := Op.fieldAddr 50 (Operand.tmp 23) 2, type := 0, pos := "disk.go:56", after := #[{ on := 2, ground := Ground.data }], guard := none }) (v := ?_) rfl (by kernel_rfl) (by kernel_rfl) (by kernel_rfl) (fun _ _ _ h => h) (Or.inl ⟨by rfl, ?_⟩) (by assumption) ?_; rotate_left; · (intro w hSw; (try dsimp only at hSw); go_simp; (first | done | with_reducible rfl)))
  try simp only [Act.put, List.setIfInBounds_toArray, List.set_cons_zero, List.set_cons_succ]
  (refine wpAnyH_take (i := 5) (oi := { dst := some 26, op := Op.move (Operand.tmp 1), type := 3, pos := "disk.go:56", after := #[], guard := none }) (v := ?_) rfl (by kernel_rfl) (by kernel_rfl) (by kernel_rfl) (fun _ _ _ h => h) (Or.inl ⟨by rfl, ?_⟩) (by assumption) ?_; rotate_left; · (intro w hSw; (try dsimp only at hSw); go_simp; (first | done | with_reducible rfl)))
  try simp only [Act.put, List.setIfInBounds_toArray, List.set_cons_zero, List.set_cons_succ]
  (refine wpAnyH_take (i := 6) (oi := { dst := some 27, op := Op.load 61 (Operand.tmp 5), type := 61, pos := "disk.go:56", after := #[], guard := none }) (v := _) rfl (by kernel_rfl) (by kernel_rfl) (by kernel_rfl) (fun _ _ _ h => h) (yieldsIf_load_mid (by rfl) _ _ rfl _ _ rfl _ _ (fun w h => h) hu rfl hi) (by assumption) ?_)
  try simp only [Act.put, List.setIfInBounds_toArray, List.set_cons_zero, List.set_cons_succ]
  (refine wpAnyH_take (i := 7) (oi := { dst := some 28, op := Op.build 66 #[(0, Operand.tmp 26), (1, Operand.tmp 27)], type := 66, pos := "disk.go:56", after := #[{ on := 5, ground := Ground.data }, { on := 6, ground := Ground.data }], guard := none }) (v := _) rfl (by kernel_rfl) (by kernel_rfl) (by kernel_rfl) (fun _ _ _ h => h) (yieldsIf_build66 (by rfl) _ _ rfl (k : Int) cs (by rfl) (by rfl) hbl) (by assumption) ?_)
  try simp only [Act.put, List.setIfInBounds_toArray, List.set_cons_zero, List.set_cons_succ]
  refine wpAnyH_ready (rs := [4, 8]) (by kernel_rfl) (by simp) ?_
  refine (AllReadyH.cons (o := { dst := some 25, op := Op.load 43 (Operand.tmp 24), type := 43, pos := "disk.go:56", after := #[{ on := 3, ground := Ground.data }], guard := none }) rfl (fun K hK => ?_) (AllReadyH.cons (o := { dst := some 29, op := Op.buildSlice 43 1 #[(0, Operand.tmp 28)], type := 43, pos := "disk.go:56", after := #[{ on := 7, ground := Ground.data }], guard := none }) rfl (fun K hK => ?_) AllReadyH.nil))
  · go_simp
    refine hK.out _ _ ?_ (fun hHeld => ?_)
    · first
      | exact hHeld
    clear hK K
    try simp only [Act.put, List.setIfInBounds_toArray, List.set_cons_zero, List.set_cons_succ]
    refine wpAnyH_ready (rs := [8]) (by kernel_rfl) (by simp) ?_
    refine (AllReadyH.cons (o := { dst := some 29, op := Op.buildSlice 43 1 #[(0, Operand.tmp 28)], type := 43, pos := "disk.go:56", after := #[{ on := 7, ground := Ground.data }], guard := none }) rfl (fun K hK => ?_) AllReadyH.nil)
    refine step_slice66 (by rfl) _ (by rfl) (.int .i64 (k : Int) :: cs) (by rfl) (by simp [hbl]) ?_
    refine hK.out _ _ ?_ (fun hHeld => ?_)
    · first
      | exact D3.out
    clear hK K
    try simp only [Act.put, List.setIfInBounds_toArray, List.set_cons_zero, List.set_cons_succ]
    refine wpAnyH_ready (rs := [9]) (by kernel_rfl) (by simp) ?_
    refine (AllReadyH.cons (o := { dst := some 30, op := Op.call { callee := Callee.builtin Builtin.append, args := #[Operand.tmp 25, Operand.tmp 29], argTypes := #[43, 43] }, type := 43, pos := "disk.go:56", after := #[{ on := 4, ground := Ground.data }, { on := 8, ground := Ground.data }], guard := none }) rfl (fun K hK => ?_) AllReadyH.nil)
    (refine step_append_lies _ (by rfl) _ _ 43 (by rfl) 0 66 i66 (.agg (wrC (0, blk0)).toArray) 65 72 Try.underlying43 hi66 hz66 hs66 hb66 (by simp [Value.cells, wrC, bytesV_len, blk0]) (by decide) (.slice A s.opn.length cap0) s.opn.length _ (by rfl) HO.out ⟨w2.heap.size, 0, none⟩ 1 1 (.int .i64 (k : Int) :: cs) (by rfl) (by simp [hbl]) HN.out (by simpa [Value.oneCell'] using hone) (by omega) (by unfold maxLen; omega) (by omega) (Nat.zero_le _) _ rfl ?_; intro g cap w4 hown hgrow hat hlt)
    refine hK.out _ _ ?_ (fun hHeld => ?_)
    · first
      | exact rangeAt_of D3.out (hgrow.block _ hB.out (fun h => HV.out h.symm))
    clear hK K
    try simp only [Act.put, List.setIfInBounds_toArray, List.set_cons_zero, List.set_cons_succ]
    (refine wpAnyH_take (i := 10) (oi := { dst := some 31, op := Op.nilCheck (Operand.tmp 21), type := 0, pos := "disk.go:56", after := #[{ on := 0, ground := Ground.data }, { on := 0, ground := Ground.phase }, { on := 1, ground := Ground.phase }, { on := 2, ground := Ground.phase }, { on := 3, ground := Ground.phase }, { on := 4, ground := Ground.phase }, { on := 5, ground := Ground.phase }, { on := 6, ground := Ground.phase }, { on := 7, ground := Ground.phase }, { on := 8, ground := Ground.phase }, { on := 9, ground := Ground.phase }], guard := none }) (v := ?_) rfl (by kernel_rfl) (by kernel_rfl) (by kernel_rfl) (fun _ _ _ h => h) (Or.inl ⟨by rfl, ?_⟩) (by assumption) ?_; rotate_left; · (intro w hSw; (try dsimp only at hSw); go_simp; (first | done | with_reducible rfl)))
    try simp only [Act.put, List.setIfInBounds_toArray, List.set_cons_zero, List.set_cons_succ]
    (refine wpAnyH_take (i := 11) (oi := { dst := some 32, op := Op.fieldAddr 50 (Operand.tmp 31) 2, type := 0, pos := "disk.go:56", after := #[{ on := 10, ground := Ground.data }, { on := 0, ground := Ground.phase }, { on := 1, ground := Ground.phase }, { on := 2, ground := Ground.phase }, { on := 3, ground := Ground.phase }, { on := 4, ground := Ground.phase }, { on := 5, ground := Ground.phase }, { on := 6, ground := Ground.phase }, { on := 7, ground := Ground.phase }, { on := 8, ground := Ground.phase }, { on := 9, ground := Ground.phase }], guard := none }) (v := ?_) rfl (by kernel_rfl) (by kernel_rfl) (by kernel_rfl) (fun _ _ _ h => h) (Or.inl ⟨by rfl, ?_⟩) (by assumption) ?_; rotate_left; · (intro w hSw; (try dsimp only at hSw); go_simp; (first | done | with_reducible rfl)))
    try simp only [Act.put, List.setIfInBounds_toArray, List.set_cons_zero, List.set_cons_succ]
    refine wpAnyH_ready (rs := [12]) (by kernel_rfl) (by simp) ?_
    refine (AllReadyH.cons (o := { dst := none, op := Op.store 43 (Operand.tmp 32) (Operand.tmp 30), type := 0, pos := "disk.go:56", after := #[{ on := 11, ground := Ground.data }, { on := 9, ground := Ground.data }, { on := 9, ground := Ground.chain }, { on := 0, ground := Ground.phase }, { on := 1, ground := Ground.phase }, { on := 2, ground := Ground.phase }, { on := 3, ground := Ground.phase }, { on := 4, ground := Ground.phase }, { on := 5, ground := Ground.phase }, { on := 6, ground := Ground.phase }, { on := 7, ground := Ground.phase }, { on := 8, ground := Ground.phase }, { on := 9, ground := Ground.phase }], guard := none }) rfl (fun K hK => ?_) AllReadyH.nil)
    have g2 := (hgrow.cell_far ⟨q, 2, none⟩ hQ.out (fun h => HVq.out h.symm)).trans e3
    have g3 := (hgrow.frozen_far ⟨q, 2, none⟩ hQ.out (fun h => HVq.out h.symm)).trans ef3
    go_simp
    refine hK.out _ _ ?_ (fun hHeld => ?_)
    · first
      | exact rangeAt_of hHeld (Below.heap_setCell _ _ _ _ (by show w.heap.size ≠ q; omega))
    clear hK K
    try simp only [Act.put, List.setIfInBounds_toArray, List.set_cons_zero, List.set_cons_succ]
    refine wpAnyH_done (by kernel_rfl) ?_ _
    have HD := Lib.hid (HP.out g cap w4 hown hgrow (hat.imp id fun h => h.trans hw3.out) hlt)
    clear hgrow hat hlt hown g2 g3 hHeld
    generalize w4.setCell ⟨q, 2, none⟩ (.slice (some ⟨g, 0, none⟩) (s.opn.length + 1) cap) = w5 at *
    have CL5 := Lib.hid (CL.out w5 _ HD.out.2)
    generalize dLast (wrS s k b) = L5 at *
    obtain ⟨l5, s5⟩ := L5
    cases l5 with
    | true =>
      go_wp2_with (go_at_call 54; ((with_reducible refine CL5.out.mono ?_); rintro e w6 ⟨rfl, hd⟩; have HD6 := Lib.hid hd; clear hd))
      go_ret
      exact dpost_then hfit.out HD.out.1 ⟨rfl, HD6.out⟩
    | false =>
      go_wp2_with (go_at_call 54; ((with_reducible refine CL5.out.mono ?_); rintro e w6 ⟨rfl, hd⟩; have HD6 := Lib.hid hd; clear hd))
      go_ret
      exact dpost_then hfit.out HD.out.1 ⟨rfl, HD6.out⟩
  · refine step_slice66 (by rfl) _ (by rfl) (.int .i64 (k : Int) :: cs) (by rfl) (by simp [hbl]) ?_
    refine hK.out _ _ ?_ (fun hHeld => ?_)
    · first
      | exact D3.out
    clear hK K
    try simp only [Act.put, List.setIfInBounds_toArray, List.set_cons_zero, List.set_cons_succ]
    refine wpAnyH_ready (rs := [4]) (by kernel_rfl) (by simp) ?_
    refine (AllReadyH.cons (o := { dst := some 25, op := Op.load 43 (Operand.tmp 24), type := 43, pos := "disk.go:56", after := #[{ on := 3, ground := Ground.data }], guard := none }) rfl (fun K hK => ?_) AllReadyH.nil)
    go_simp
    refine hK.out _ _ ?_ (fun hHeld => ?_)
    · first
      | exact hHeld
    clear hK K
    try simp only [Act.put, List.setIfInBounds_toArray, List.set_cons_zero, List.set_cons_succ]
    refine wpAnyH_ready (rs := [9]) (by kernel_rfl) (by simp) ?_
    refine (AllReadyH.cons (o := { dst := some 30, op := Op.call { callee := Callee.builtin Builtin.append, args := #[Operand.tmp 25, Operand.tmp 29], argTypes := #[43, 43] }, type := 43, pos := "disk.go:56", after := #[{ on := 4, ground := Ground.data }, { on := 8, ground := Ground.data }], guard := none }) rfl (fun K hK => ?_) AllReadyH.nil)
    (refine step_append_lies _ (by rfl) _ _ 43 (by rfl) 0 66 i66 (.agg (wrC (0, blk0)).toArray) 65 72 Try.underlying43 hi66 hz66 hs66 hb66 (by simp [Value.cells, wrC, bytesV_len, blk0]) (by decide) (.slice A s.opn.length cap0) s.opn.length _ (by rfl) HO.out ⟨w2.heap.size, 0, none⟩ 1 1 (.int .i64 (k : Int) :: cs) (by rfl) (by simp [hbl]) HN.out (by simpa [Value.oneCell'] using hone) (by omega) (by unfold maxLen; omega) (by omega) (Nat.zero_le _) _ rfl ?_; intro g cap w4 hown hgrow hat hlt)
    refine hK.out _ _ ?_ (fun hHeld => ?_)
    · first
      | exact rangeAt_of D3.out (hgrow.block _ hB.out (fun h => HV.out h.symm))
    clear hK K
    try simp only [Act.put, List.setIfInBounds_toArray, List.set_cons_zero, List.set_cons_succ]
    (refine wpAnyH_take (i := 10) (oi := { dst := some 31, op := Op.nilCheck (Operand.tmp 21), type := 0, pos := "disk.go:56", after := #[{ on := 0, ground := Ground.data }, { on := 0, ground := Ground.phase }, { on := 1, ground := Ground.phase }, { on := 2, ground := Ground.phase }, { on := 3, ground := Ground.phase }, { on := 4, ground := Ground.phase }, { on := 5, ground := Ground.phase }, { on := 6, ground := Ground.phase }, { on := 7, ground := Ground.phase }, { on := 8, ground := Ground.phase }, { on := 9, ground := Ground.phase }], guard := none }) (v := ?_) rfl (by kernel_rfl) (by kernel_rfl) (by kernel_rfl) (fun _ _ _ h => h) (Or.inl ⟨by rfl, ?_⟩) (by assumption) ?_; rotate_left; · (intro w hSw; (try dsimp only at hSw); go_simp; (first | done | with_reducible rfl)))
    try simp only [Act.put, List.setIfInBounds_toArray, List.set_cons_zero, List.set_cons_succ]
    (refine wpAnyH_take (i := 11) (oi := { dst := some 32, op := Op.fieldAddr 50 (Operand.tmp 31) 2, type := 0, pos := "disk.go:56", after := #[{ on := 10, ground := Ground.data }, { on := 0, ground := Ground.phase }, { on := 1, ground := Ground.phase }, { on := 2, ground := Ground.phase }, { on := 3, ground := Ground.phase }, { on := 4, ground := Ground.phase }, { on := 5, ground := Ground.phase }, { on := 6, ground := Ground.phase }, { on := 7, ground := Ground.phase }, { on := 8, ground := Ground.phase }, { on := 9, ground := Ground.phase }], guard := none }) (v := ?_) rfl (by kernel_rfl) (by kernel_rfl) (by kernel_rfl) (fun _ _ _ h => h) (Or.inl ⟨by rfl, ?_⟩) (by assumption) ?_; rotate_left; · (intro w hSw; (try dsimp only at hSw); go_simp; (first | done | with_reducible rfl)))
    try simp only [Act.put, List.setIfInBounds_toArray, List.set_cons_zero, List.set_cons_succ]
    refine wpAnyH_ready (rs := [12]) (by kernel_rfl) (by simp) ?_
    refine (AllReadyH.cons (o := { dst := none, op := Op.store 43 (Operand.tmp 32) (Operand.tmp 30), type := 0, pos := "disk.go:56", after := #[{ on := 11, ground := Ground.data }, { on := 9, ground := Ground.data }, { on := 9, ground := Ground.chain }, { on := 0, ground := Ground.phase }, { on := 1, ground := Ground.phase }, { on := 2, ground := Ground.phase }, { on := 3, ground := Ground.phase }, { on := 4, ground := Ground.phase }, { on := 5, ground := Ground.phase }, { on := 6, ground := Ground.phase }, { on := 7, ground := Ground.phase }, { on := 8, ground := Ground.phase }, { on := 9, ground := Ground.phase }], guard := none }) rfl (fun K hK => ?_) AllReadyH.nil)
    have g2 := (hgrow.cell_far ⟨q, 2, none⟩ hQ.out (fun h => HVq.out h.symm)).trans e3
    have g3 := (hgrow.frozen_far ⟨q, 2, none⟩ hQ.out (fun h => HVq.out h.symm)).trans ef3
    go_simp
    refine hK.out _ _ ?_ (fun hHeld => ?_)
    · first
      | exact rangeAt_of hHeld (Below.heap_setCell _ _ _ _ (by show w.heap.size ≠ q; omega))
    clear hK K
    try simp only [Act.put, List.setIfInBounds_toArray, List.set_cons_zero, List.set_cons_succ]
    refine wpAnyH_done (by kernel_rfl) ?_ _
    have HD := Lib.hid (HP.out g cap w4 hown hgrow (hat.imp id fun h => h.trans hw3.out) hlt)
    clear hgrow hat hlt hown g2 g3 hHeld
    generalize w4.setCell ⟨q, 2, none⟩ (.slice (some ⟨g, 0, none⟩) (s.opn.length + 1) cap) = w5 at *
    have CL5 := Lib.hid (CL.out w5 _ HD.out.2)
    generalize dLast (wrS s k b) = L5 at *
    obtain ⟨l5, s5⟩ := L5
    cases l5 with
    | true =>
      go_wp2_with (go_at_call 54; ((with_reducible refine CL5.out.mono ?_); rintro e w6 ⟨rfl, hd⟩; have HD6 := Lib.hid hd; clear hd))
      go_ret
      exact dpost_then hfit.out HD.out.1 ⟨rfl, HD6.out⟩
    | false =>
      go_wp2_with (go_at_call 54; ((with_reducible refine CL5.out.mono ?_); rintro e w6 ⟨rfl, hd⟩; have HD6 := Lib.hid hd; clear hd))
      go_ret
      exact dpost_then hfit.out HD.out.1 ⟨rfl, HD6.out⟩
  -- END5

set_option maxRecDepth 100000 in
set_option maxHeartbeats 1000000 in
theorem write_not (F : Nat → Prop) (q : Nat) (s : DS) (at' : Int) (b : Blk) (w : World) (h : DK w F q s) (hr : refI s at' ≠ 0) :
    Calls Try.prog 25 #[.pointer (some ⟨q, 0, none⟩), .int .i64 at', blkV' b] w (DPost F q w (.int .i64 (dWrite s at' b).1) (dWrite s at' b).2) := by
  have CR := Lib.hid (refuses_any F q s at' _ (h.grew (grew_alloc w (bytesV b).toArray 61)))
  have HP : Hid (DPost F q w (.int .i64 (dWrite s at' b).1) (dWrite s at' b).2 (.returned (.int .i64 (refI s at'))) (w.alloc (.cells (bytesV b).toArray 61))) := by
    rw [dWrite_not hr]
    have := h.grew (grew_alloc w (bytesV b).toArray 61)
    exact ⟨rfl, (grew_alloc _ _ _).chg, this.more (fun k hk => Or.inl hk) (fx_fit h.fit (grew_alloc w (bytesV b).toArray 61).size)⟩
  show Calls _ _ #[_, _, .agg (bytesV b).toArray] _ _
  generalize refI s at' = r at *
  generalize bytesV b = cs at *
  have d1 : (r != 0) = true := by simpa using hr
  clear h
  go_enter Try.func25, Try.ntmps25
  go_wp2_with (first
      | (go_at_call 53; ((with_reducible refine CR.out.mono ?_); rintro e w1 ⟨rfl, rfl⟩)))
  go_ret
  exact HP.out
theorem write_any (F : Nat → Prop) (q : Nat) (s : DS) (at' : Int) (b : Blk) (w : World) (h : DK w F q s) (hb : b.length = 64) (hn : s.opn.length ≤ 1000000) :
    Calls Try.prog 25 #[.pointer (some ⟨q, 0, none⟩), .int .i64 at', blkV' b] w (DPost F q w (.int .i64 (dWrite s at' b).1) (dWrite s at' b).2) := by
  by_cases hr : refI s at' = 0
  · obtain ⟨ho, k, rfl, hk⟩ := has_of hr
    exact write_ok F q s k b w h hb hn ho hk
  · exact write_not F q s at' b w h hr
end Go.Proofs.Ythnhhhfjgbgpgaa.NumK
namespace Go.Proofs.Ythnhhhfjgbgpgaa.NumK
open Go.RowKit

theorem take_snocW (l : List (Nat × Blk)) (k : Nat) (hk : k < l.length) : l.take (k + 1) = l.take k ++ [l[k]] := List.take_succ_eq_append_getElem hk
/-- A variable that holds an open write. -/
theorem load_var {w w' : World} {cs : List Value} {t : TypeId} (g : w' = (w.alloc (.cells cs.toArray t))) : w'.rangeAt w.heap.size 0 cs := by
  subst g
  intro j v hv
  rw [World.cell?_alloc_at _ _ _ _ rfl, Nat.zero_add]
  simpa using hv
theorem set_var (w : World) (Z : Array Value) (t : TypeId) (cs : List Value) (h : Z.size = cs.length) : (w.alloc (.cells Z t)).setCells w.heap.size 0 cs = (w.alloc (.cells Z t)).setCells w.heap.size 0 cs ∧ ((w.alloc (.cells Z t)).setCells w.heap.size 0 cs).rangeAt w.heap.size 0 cs ∧ (w.alloc (.cells Z t)).there w.heap.size 0 cs.length ∧ Grew w ((w.alloc (.cells Z t)).setCells w.heap.size 0 cs) := by
  have ht : (w.alloc (.cells Z t)).there w.heap.size 0 cs.length := by
    intro j hj
    refine ⟨?_, by simp⟩
    rw [World.cell?_alloc_at _ _ _ _ rfl]
    simp; omega
  exact ⟨rfl, World.rangeAt_setCells_same _ _ _ _ ht, ht, ((Grew.chg (grew_alloc w Z _)).setCells (F := fun k => k = w.heap.size) _ _ _ (fun _ => rfl)).grew (grew_refl _) (fun k hk => by subst hk; exact Nat.le_refl _)⟩
theorem range_tail {w : World} {b o : Nat} {v : Value} {cs : List Value} (h : w.rangeAt b o (v :: cs)) : w.cell? ⟨b, o, none⟩ = some v ∧ w.rangeAt b (o + 1) cs := by
  refine ⟨by have := h 0 v rfl; simpa using this, fun j u hu => ?_⟩
  have := h (j + 1) u (by simpa using hu)
  rwa [show o + (j + 1) = o + 1 + j by omega] at this

def syncS (s : DS) : DS := { s with safe := applyL s.safe s.opn, opn := [] }
theorem dok_sync {s : DS} (h : DOK s) : DOK (syncS s) := by
  obtain ⟨h1, h2, h3, h4, h5, h6, h7⟩ := h
  have hl : (syncS s).safe.length = s.safe.length := applyL_len _ _
  refine ⟨⟨?_, fun x hx => by cases hx⟩, by rw [hl]; exact h2, by rw [hl]; exact h3, h4, h5, fun _ _ => rfl, h7⟩
  intro b hb
  have : ∀ (l : List (Nat × Blk)) (safe : List Blk), (∀ b ∈ safe, b.length = 64) → (∀ w ∈ l, w.2.length = 64) → ∀ b ∈ applyL safe l, b.length = 64 := by
    intro l
    induction l with
    | nil => intro safe h _ b hb; exact h b hb
    | cons x r ih =>
      intro safe h hl b hb
      refine ih (safe.set x.1 x.2) (fun y hy => ?_) (fun y hy => hl y (by simp [hy])) b hb
      rcases List.mem_or_eq_of_mem_set hy with hy | rfl
      · exact h y hy
      · exact hl x (by simp)
  exact this s.opn s.safe h1.1 (fun w hw => (h1.2 w hw).2) b hb
theorem dSync_of {s : DS} (ho : s.off = false) (hl : (dLast s).1 = false) : dSync s = (0, syncS (dLast s).2) := by
  have : (dLast s).2.safe = s.safe ∧ (dLast s).2.opn = s.opn := by unfold dLast; split <;> (try split) <;> exact ⟨rfl, rfl⟩
  unfold dSync syncS
  rw [ho, hl, this.1, this.2]
  rfl

set_option maxRecDepth 100000 in
set_option maxHeartbeats 1000000 in
theorem sync_off (F : Nat → Prop) (q : Nat) (s : DS) (w : World) (h : DK w F q s) (ho : s.off = true) : Calls Try.prog 27 #[.pointer (some ⟨q, 0, none⟩)] w (DPost F q w (.int .i64 (dSync s).1) (dSync s).2) := by
  have HP : Hid (DPost F q w (.int .i64 (dSync s).1) (dSync s).2 (.returned (.int .i64 7)) w) := by
    have : dSync s = (7, s) := by unfold dSync; rw [ho]; rfl
    rw [this]; exact ⟨rfl, dk_same h⟩
  obtain ⟨C, Y, v, L, H, h1⟩ := h.ex
  have c4 := H.c4
  rw [ho] at c4
  clear H h1 L h
  go_enter Try.func27, Try.ntmps27
  go_wp2
  go_ret
  exact HP.out
set_option maxRecDepth 100000 in
set_option maxHeartbeats 1000000 in
theorem sync_last (F : Nat → Prop) (q : Nat) (s : DS) (w : World) (h : DK w F q s) (ho : s.off = false) (hl : (dLast s).1 = true) : Calls Try.prog 27 #[.pointer (some ⟨q, 0, none⟩)] w (DPost F q w (.int .i64 (dSync s).1) (dSync s).2) := by
  have CL := Lib.hid (isLast_any F q s w h)
  have HE : Hid (dSync s = (7, (dLast s).2)) := by show _ = _; unfold dSync; rw [ho, hl]; rfl
  rw [hl] at CL
  obtain ⟨C, Y, v, L, H, h1⟩ := h.ex
  have c4 := H.c4
  rw [ho] at c4
  clear H h1 L h
  go_enter Try.func27, Try.ntmps27
  go_wp2_with (go_at_call 54; ((with_reducible refine CL.out.mono ?_); rintro e w6 ⟨rfl, hd⟩; have HD6 := Lib.hid hd; clear hd))
  go_ret
  rw [HE.out]
  exact ⟨rfl, HD6.out⟩

/-- The world behind a Sync's loop. -/
theorem dk_sync {F : Nat → Prop} {q : Nat} {s : DS} {w w2 : World} {C Y : Nat} {v : Value} (hf : ∀ k, F k → k < w.heap.size) (ok : DOK s) (L : Lie F q C Y v) (H : Head w q s.safe.length C Y v s.armed s.off) (h1 : BlkRow w C (cont s))
    (g : Chg (fun i => i = Y) w w2) (h2 : BlkRow w2 Y (applyL s.safe s.opn)) : Chg F w (w2.setCell ⟨q, 2, none⟩ (.slice none 0 0)) ∧ DK (w2.setCell ⟨q, 2, none⟩ (.slice none 0 0)) (FX F w (w2.setCell ⟨q, 2, none⟩ (.slice none 0 0))) q (syncS s) := by
  have c5 : Chg (fun i => i = q) w2 (w2.setCell ⟨q, 2, none⟩ (.slice none 0 0)) := (Chg.refl (fun i => i = q) w2).setCell ⟨q, 2, none⟩ _ (fun _ => rfl)
  have hall : Chg F w (w2.setCell ⟨q, 2, none⟩ (.slice none 0 0)) := (g.mono (G := F) (fun i hi => hi ▸ L.fY)).trans (c5.mono (G := F) (fun i hi => hi ▸ L.fq))
  have hl : (syncS s).safe.length = s.safe.length := applyL_len _ _
  refine ⟨hall, fx_fit hf hall.size, dok_sync ok, C, Y, .slice none 0 0, ⟨Or.inl L.fq, Or.inl L.fC, Or.inl L.fY, (fun i hi => by cases hi), L.qC, L.qY, L.CY⟩, ?_, ?_, h2.chg c5 (fun h => L.qY h.symm), World.ownsRow_nil _ _ _ _⟩
  · rw [hl]; exact (H.chg g (fun h => L.qY h)).set2 _
  · have : cont (syncS s) = cont s := rfl
    rw [this]
    exact (h1.chg g (fun h => L.CY h)).chg c5 (fun h => L.qC h.symm)

set_option maxRecDepth 100000 in
set_option maxHeartbeats 2000000 in
theorem sync_ok (F : Nat → Prop) (q : Nat) (s : DS) (w : World) (h : DK w F q s) (ho : s.off = false) (hl : (dLast s).1 = false) (hn : s.opn.length ≤ 1000000) : Calls Try.prog 27 #[.pointer (some ⟨q, 0, none⟩)] w (DPost F q w (.int .i64 (dSync s).1) (dSync s).2) := by
  have CL := Lib.hid (isLast_any F q s w h)
  rw [dSync_of ho hl]
  have hs : (dLast s).2.opn = s.opn := by unfold dLast; split <;> (try split) <;> rfl
  rw [hl] at CL
  have hfit := Lib.hid h.fit
  obtain ⟨C0, Y0, v0, L0, H0, h10⟩ := h.ex
  have c4 := H0.c4
  rw [ho] at c4
  rw [← hs] at hn
  generalize (dLast s).2 = s1 at *
  clear H0 h10 L0 h hs ho hl
  obtain ⟨Z, hZ⟩ : ∃ Z, Z = (wrC (0, blk0)).toArray := ⟨_, rfl⟩
  have hz := fun w => zero66 w
  rw [← hZ] at hz
  have hZ2 : Hid (Z.size = 65) := by show _ = _; rw [hZ]; simp [wrC, bytesV_len, blk0]
  clear hZ
  obtain ⟨d66, hd66, hr66⟩ := under66
  go_enter Try.func27, Try.ntmps27
  go_wp2_with (go_at_call 54; ((with_reducible refine CL.out.mono ?_); rintro e w6 ⟨rfl, hc, hd⟩; obtain ⟨C, Y, v, L, H, h1, h2, h3⟩ := hd.ex; obtain ⟨A, cap, rfl⟩ := own_form h3; have c1 := H.c1; have c2 := H.c2; have f2 := H.f2; have HD6 := Lib.hid hd; have HC6 := Lib.hid hc; have HL := Lib.hid L; have HH := Lib.hid H; have H1 := Lib.hid h1; have H2 := Lib.hid h2; have H3 := Lib.hid h3; clear hd hc L H h1 h2 h3))
  clear CL c4
  obtain ⟨m, hm⟩ : ∃ m, s1.opn.length = m := ⟨_, rfl⟩
  have hm2 := Lib.hid hm
  rw [hm] at c2 hn ⊢
  clear hm
  go_loopw [18] (fun v18 wr => ∃ k : Nat, v18 = .int .i64 k ∧ k ≤ m ∧ Hid (Chg (fun i => i = Y) w6 wr) ∧ Hid (BlkRow wr Y (applyL s1.safe (s1.opn.take k)))) (fun v18 _ => m - (intOf v18).toNat)
  case atStart => exact ⟨0, rfl, Nat.zero_le _, Chg.refl _ _, H2.out⟩
  case round =>
    obtain ⟨k, rfl, hk, HC, HB⟩ := hrel
    by_cases hlt : k < m
    · have hk2 : k < s1.opn.length := by rw [hm2.out]; exact hlt
      have hall := HD6.out.ok.all
      obtain ⟨O, cap', hA, hcap, hO, hrng⟩ := opn_at H3.out (fun x hx => (hall.2 x hx).2) hk2
      obtain ⟨rfl, hcc⟩ : A = some ⟨O, 0, none⟩ ∧ cap = cap' := by simpa [hm2.out] using hA
      have hOY : O ≠ Y := (HL.out.fv O rfl).2.2.2
      have hrng2 := rangeAt_of hrng (HC.out.block O hO hOY)
      have HS := Lib.hid (take_snocW s1.opn k hk2)
      have hx := hall.2 s1.opn[k] (List.getElem_mem hk2)
      generalize s1.opn[k] = x at *
      obtain ⟨at', b⟩ := x
      obtain ⟨hx1, hx2⟩ := hx
      have hwl := wrC_len (at', b) hx2
      have hone := bytesV_one b
      have hone66 := Lib.hid (all_oneCell_toArray (wrC_one (at', b)))
      obtain ⟨_, hvr, hvt, hvg⟩ := set_var wr Z 66 (wrC (at', b)) (by rw [hZ2.out, hwl])
      have hbl := bytesV_len b
      rw [hx2] at hbl
      have hu := Try.underlying61
      have hi : (Try.prog.info? 61).map (·.size) = some (bytesV b).length := size40 hbl.symm
      rw [show wrC (at', b) = .int .i64 (at' : Int) :: bytesV b from rfl] at hvr hrng2 hvt hwl hone66 hvg
      obtain ⟨t0, t1⟩ := range_tail hvr
      rw [Nat.zero_add] at t1
      have HVT := Lib.hid hvt
      have HVG := Lib.hid hvg
      have HR2 := Lib.hid hrng2
      have hC2 := (HC.out.trans (HVG.out.chg (F := fun i => i = Y)))
      have d1 := (hC2.cell (p := ⟨q, 1, none⟩) HH.out.lt (by show ¬ q = Y; exact HL.out.qY)).trans HH.out.c1
      have hYB := HB.out.of (HVG.out.block Y HB.out.lt) HVG.out.size
      have hLen : Hid ((applyL s1.safe (s1.opn.take k)).length = s1.safe.length) := applyL_len _ _
      have d2 := (hYB.at' at' (by rw [hLen.out]; exact hx1)).2
      have HNB := Lib.hid (hYB.set (k := at') (by rw [hLen.out]; exact hx1) b hx2)
      have HYB := Lib.hid hYB
      have HC2 := Lib.hid hC2
      have j1 : (k : Int) < (m : Int) := by omega
      have j2 : (at' : Int) < (s1.safe.length : Int) := by omega
      have j3 : (0 : Int) ≤ (at' : Int) := Int.natCast_nonneg _
      have hVY : wr.heap.size ≠ Y := by have := HB.out.lt; omega
      have hqY := HL.out.qY
      clear hvr hrng2 hvt hvg hrng hC2 hYB hall hA hk2 hO hOY hx1 hx2
      have HCS : Hid (∀ c : List Value, c = bytesV b → bytesV b = c) := fun c h => h.symm
      generalize hcs : bytesV b = cs at *
      have HCS := Lib.hid hcs
      clear hcs
      generalize s1.safe.length = n at *
      obtain ⟨wv, hwv⟩ : ∃ wv, wv = (wr.alloc (.cells Z 66)).setCells wr.heap.size 0 (.int .i64 (at' : Int) :: cs) := ⟨_, rfl⟩
      have HWV := Lib.hid hwv
      rw [← hwv] at HNB HYB HC2 HVG d1 d2 t0 t1
      clear hwv
      go_upto_region 6 with (first
        | (refine wpList_load_mid (by rfl) 66 _ (by rfl) O (k * 65) (by rfl) (.int .i64 (at' : Int) :: cs) _ HR2.out hd66 hr66 (size66 hwl.symm) ?_)
        | (refine wpList_store_mid (by rfl) 66 _ _ (by rfl) wr.heap.size 0 (.int .i64 (at' : Int) :: cs).toArray (by rfl) (by rfl) (by simpa using HVT.out) (size66 (by simpa using hwl.symm)) hone66.out ?_))
      rw [← HWV.out]
      have d0 : (wv.drew.setCells Y (at' * 64) cs).cell? ⟨q, 1, none⟩ = some (.slice (some ⟨Y, 0, none⟩) n n) := by
        rw [World.cell?_setCells_out _ _ _ _ _ (fun h => absurd h hqY)]; exact d1
      have t2 : (wv.drew.setCells Y (at' * 64) cs).cell? ⟨wr.heap.size, 0, none⟩ = some (.int .i64 (at' : Int)) := by
        rw [World.cell?_setCells_out _ _ _ _ _ (fun h => absurd h hVY)]; exact t0
      have t3 : (wv.drew.setCells Y (at' * 64) cs).rangeAt wr.heap.size 1 cs := World.rangeAt_setCells_apart ((World.rangeAt_drew _ _ _ _).2 t1) _ _ _ (Or.inl hVY)
      have d3 : (wv.drew.setCells Y (at' * 64) cs).there Y (at' * 64) 64 := World.there_setCells ((World.there_drew _ _ _ _).2 d2) _ _ _
      go_region_held3 (fun w' => w'.cell? ⟨q, 1, none⟩ = some (.slice (some ⟨Y, 0, none⟩) n n) ∧ w'.cell? ⟨wr.heap.size, 0, none⟩ = some (.int .i64 (at' : Int)) ∧ w'.rangeAt wr.heap.size 1 cs ∧ w'.there Y (at' * 64) 64) (first | exact ⟨d1, t0, (World.rangeAt_drew _ _ _ _).2 t1, (World.there_drew _ _ _ _).2 d2⟩ | exact ⟨d0, t2, t3, d3⟩) (fail)
      have HCE : Hid (Chg (fun i => i = Y) w6 (wv.drew.setCells Y (at' * 64) cs)) := (HC2.out.drew).setCells _ _ _ (fun _ => rfl)
      have HBE : Hid (BlkRow (wv.drew.setCells Y (at' * 64) cs) Y (applyL s1.safe (s1.opn.take (k + 1)))) := by
        have e : wv.drew.setCells Y (at' * 64) cs = (wv.setCells Y (at' * 64) cs).drew := by
          have : ∀ (vs : List Value) (o : Nat) (w : World), w.drew.setCells Y o vs = (w.setCells Y o vs).drew := by
            intro vs
            induction vs with
            | nil => intro o w; rfl
            | cons v r ih => intro o w; rw [World.setCells, World.setCells]; exact ih (o + 1) (w.setCell ⟨Y, o, none⟩ v)
          exact this _ _ _
        rw [e, HS.out, applyL_snoc]
        exact HNB.out.of rfl (Nat.le_refl _)
      generalize wv.drew.setCells Y (at' * 64) cs = we at *
      go_wp2
      go_roundw
      case rel => exact ⟨k + 1, by go_num, by omega, HBE⟩
      case measure => simp only [intOf]; omega
    · obtain rfl : k = m := by omega
      have d2 := (HC.out.cell (p := ⟨q, 2, none⟩) HH.out.lt (by show ¬ q = Y; exact HL.out.qY)).trans HH.out.c2
      have d3 := (HC.out.frozen (p := ⟨q, 2, none⟩) HH.out.lt (by show ¬ q = Y; exact HL.out.qY)).trans HH.out.f2
      have HP := Lib.hid (dk_sync HD6.out.fit HD6.out.ok HL.out HH.out H1.out HC.out (by have := HB.out; rwa [List.take_of_length_le (by rw [hm2.out]; exact Nat.le_refl _)] at this))
      go_wp2
      go_ret
      exact dpost_then hfit.out HC6.out ⟨rfl, HP.out⟩
theorem sync_any (F : Nat → Prop) (q : Nat) (s : DS) (w : World) (h : DK w F q s) (hn : s.opn.length ≤ 1000000) : Calls Try.prog 27 #[.pointer (some ⟨q, 0, none⟩)] w (DPost F q w (.int .i64 (dSync s).1) (dSync s).2) := by
  cases ho : s.off with
  | true => exact sync_off F q s w h ho
  | false =>
    cases hl : (dLast s).1 with
    | true => exact sync_last F q s w h ho hl
    | false => exact sync_ok F q s w h ho hl hn
end Go.Proofs.Ythnhhhfjgbgpgaa.NumK
namespace Go.Proofs.Ythnhhhfjgbgpgaa.NumK
open Go.RowKit

/-- The first m bytes of a block are written. -/
theorem BlkRow.mix {w : World} {C : Nat} {bs : List Blk} (h : BlkRow w C bs) {k : Nat} (hk : k < bs.length) (b : Blk) (hb : b.length = 64) (m : Nat) (hm : m ≤ 64) : BlkRow (w.setCells C (k * 64) ((bytesV b).take m)) C (bs.set k (mixB (bs.getD k blk0) b m)) := by
  have hl := bytesV_len b
  have ho := h.one hk
  have hml := mixB_len (m := m) ho hb
  have hll := bytesV_len (mixB (bs.getD k blk0) b m)
  refine ⟨by rw [setCells_size]; exact h.lt, fun x hx => ?_, fun j hj => ⟨?_, World.there_setCells (h.at' j (by simpa using hj)).2 _ _ _⟩⟩
  · rcases List.mem_or_eq_of_mem_set hx with hx | rfl
    · exact h.len x hx
    · exact hml
  · have hj2 : j < bs.length := by simpa using hj
    by_cases e : k = j
    · subst e
      rw [getD_set_eq hj2]
      intro i v hv
      have hi : i < 64 := by have := (List.getElem?_eq_some_iff.1 hv).1; omega
      have hv2 : v = byv ((mixB (bs.getD k blk0) b m).getD i 0) := by
        unfold bytesV at hv
        rw [List.getElem?_map] at hv
        obtain ⟨x, hx, rfl⟩ := Option.map_eq_some_iff.1 hv
        rw [List.getD_eq_getElem?_getD, hx]; rfl
      subst hv2
      by_cases him : i < m
      · rw [World.cell?_setCells_in C _ _ w (fun j hj => (h.at' k hk).2 j (by simp at hj; omega) |>.1) i (by simp [hl]; omega)]
        simp [bytesV, mixB, List.getD, List.getElem?_append_left, hb, show i < min m 64 by omega]
      · rw [World.cell?_setCells_out C _ _ w _ (fun _ _ => Or.inr (by simp [hl]; omega))]
        refine (h.at' k hk).1 i _ ?_
        unfold bytesV
        rw [List.getElem?_map]
        have e1 : (mixB (bs.getD k blk0) b m)[i]? = (bs.getD k blk0)[i]? := by
          unfold mixB
          rw [List.getElem?_append_right (by simp; omega), List.getElem?_drop]
          congr 1
          simp; omega
        have e2 : (bs.getD k blk0)[i]? = some ((mixB (bs.getD k blk0) b m).getD i 0) := by
          rw [← e1]
          simp [List.getD, show i < (mixB (bs[k]?.getD blk0) b m).length by simpa [List.getD] using (by omega : i < (mixB (bs.getD k blk0) b m).length)]
        rw [e2]; rfl
    · rw [getD_set_ne e]
      have hl2 := bytesV_len (bs.getD j blk0)
      have := h.one hj2
      have ht : ((bytesV b).take m).length ≤ 64 := by rw [List.length_take]; omega
      exact World.rangeAt_setCells_apart (h.at' j hj2).1 _ _ _ (by right; omega)

def stN (p : Int) : Nat := if p % 66 = 65 then 64 else (p % 66 - 1).toNat
theorem stay_stN (zs : List Int) (k : Nat) : stay zs k = stN (zs.getD k 0) := rfl
theorem stN_le (p : Int) : stN p ≤ 64 := by unfold stN; split <;> omega
theorem stN_I (p : Int) : stayI p = (stN p : Int) := by unfold stN stayI; split <;> (try split) <;> omega

/-- What the content is while it is laid anew. -/
def copyL (c f : List Blk) (l : List (Nat × Blk)) : List Blk := l.foldl (fun c x => c.set x.1 (f.getD x.1 blk0)) c
theorem copyL_snoc (c f : List Blk) (l : List (Nat × Blk)) (x : Nat × Blk) : copyL c f (l ++ [x]) = (copyL c f l).set x.1 (f.getD x.1 blk0) := by
  unfold copyL; rw [List.foldl_append]; rfl
theorem copyL_len (c f : List Blk) (l : List (Nat × Blk)) : (copyL c f l).length = c.length := by
  unfold copyL
  induction l generalizing c with
  | nil => rfl
  | cons w r ih => rw [List.foldl_cons, ih, List.length_set]
theorem copyL_at (f : List Blk) (i : Nat) : ∀ (l : List (Nat × Blk)) (c : List Blk), i < c.length → ((copyL c f l).getD i blk0 = f.getD i blk0 ∨ (∀ w ∈ l, w.1 ≠ i) ∧ (copyL c f l).getD i blk0 = c.getD i blk0)
  | [], c, _ => Or.inr ⟨by simp, rfl⟩
  | x :: r, c, hi => by
    show (copyL (c.set x.1 (f.getD x.1 blk0)) f r).getD i blk0 = _ ∨ _
    rcases copyL_at f i r (c.set x.1 (f.getD x.1 blk0)) (by rw [List.length_set]; exact hi) with h | ⟨h1, h2⟩
    · exact Or.inl h
    · by_cases e : x.1 = i
      · subst e
        rw [h2, getD_set_eq hi]
        exact Or.inl rfl
      · refine Or.inr ⟨fun w hw => ?_, ?_⟩
        · rcases List.mem_cons.1 hw with rfl | hw
          · exact e
          · exact h1 w hw
        · show (copyL (c.set x.1 (f.getD x.1 blk0)) f r).getD i blk0 = _
          rw [h2, getD_set_ne e]
theorem applyL_other (l : List (Nat × Blk)) (i : Nat) : ∀ (safe : List Blk), (∀ w ∈ l, w.1 ≠ i) → (applyL safe l).getD i blk0 = safe.getD i blk0 := by
  unfold applyL
  induction l with
  | nil => intro safe _; rfl
  | cons x r ih =>
    intro safe h
    rw [List.foldl_cons, ih _ (fun w hw => h w (by simp [hw])), getD_set_ne (h x (by simp))]
theorem ext_blk {a b : List Blk} (h : a.length = b.length) (hg : ∀ i, i < a.length → a.getD i blk0 = b.getD i blk0) : a = b := by
  refine List.ext_getElem h fun i h1 h2 => ?_
  have := hg i h1
  simpa [List.getD, h1, h2] using this
/-- Laid anew, the content is what is synced. -/
theorem copyL_all (picks : List Int) (safe : List Blk) (l : List (Nat × Blk)) : copyL (applyL safe l) (crashL picks 0 safe l) l = crashL picks 0 safe l := by
  refine ext_blk (by rw [copyL_len, applyL_len, crashL_len]) fun i hi => ?_
  rw [copyL_len, applyL_len] at hi
  rcases copyL_at (crashL picks 0 safe l) i l (applyL safe l) (by rw [applyL_len]; exact hi) with h | ⟨h1, h2⟩
  · exact h
  · rw [h2, applyL_other l i safe h1, crashL_other picks 0 safe l i h1]

theorem dok_crash {s : DS} {picks : List Int} (h : DOK s) (hb : ∀ b ∈ crashL picks 0 s.safe s.opn, b.length = 64) : DOK (dCrash s picks) := by
  have hl : (dCrash s picks).safe.length = s.safe.length := crashL_len _ _ _ _
  exact ⟨⟨hb, fun x hx => by cases hx⟩, by rw [hl]; exact h.pos, by rw [hl]; exact h.few, by show 0 ≤ _; omega, (fun h => by cases h), fun _ _ => rfl, fun _ => rfl⟩

/-- The worlds that a Crash leaves. -/
theorem dk_crash {F : Nat → Prop} {q : Nat} {s : DS} {picks : List Int} {w w2 w3 : World} {C Y : Nat} {v : Value} (hf : ∀ k, F k → k < w.heap.size) (ok : DOK s) (L : Lie F q C Y v) (H : Head w q s.safe.length C Y v s.armed s.off)
    (g : Chg (fun i => i = Y) w w2) (h2 : BlkRow w2 Y (crashL picks 0 s.safe s.opn)) (g3 : Chg (fun i => i = C) w2 w3) (h3 : BlkRow w3 C (crashL picks 0 s.safe s.opn)) :
    Chg F w (((w3.setCell ⟨q, 2, none⟩ (.slice none 0 0)).setCell ⟨q, 3, none⟩ (.int .i64 0)).setCell ⟨q, 4, none⟩ (.bool true)) ∧ DK (((w3.setCell ⟨q, 2, none⟩ (.slice none 0 0)).setCell ⟨q, 3, none⟩ (.int .i64 0)).setCell ⟨q, 4, none⟩ (.bool true)) (FX F w (((w3.setCell ⟨q, 2, none⟩ (.slice none 0 0)).setCell ⟨q, 3, none⟩ (.int .i64 0)).setCell ⟨q, 4, none⟩ (.bool true))) q (dCrash s picks) := by
  have c5 : Chg (fun i => i = q) w3 (((w3.setCell ⟨q, 2, none⟩ (.slice none 0 0)).setCell ⟨q, 3, none⟩ (.int .i64 0)).setCell ⟨q, 4, none⟩ (.bool true)) :=
    (((Chg.refl (fun i => i = q) w3).setCell ⟨q, 2, none⟩ _ (fun _ => rfl)).setCell ⟨q, 3, none⟩ _ (fun _ => rfl)).setCell ⟨q, 4, none⟩ _ (fun _ => rfl)
  have hall : Chg F w (((w3.setCell ⟨q, 2, none⟩ (.slice none 0 0)).setCell ⟨q, 3, none⟩ (.int .i64 0)).setCell ⟨q, 4, none⟩ (.bool true)) := ((g.mono (G := F) (fun i hi => hi ▸ L.fY)).trans (g3.mono (G := F) (fun i hi => hi ▸ L.fC))).trans (c5.mono (G := F) (fun i hi => hi ▸ L.fq))
  have hl : (dCrash s picks).safe.length = s.safe.length := crashL_len _ _ _ _
  refine ⟨hall, fx_fit hf hall.size, dok_crash ok h2.len, C, Y, .slice none 0 0, ⟨Or.inl L.fq, Or.inl L.fC, Or.inl L.fY, (fun i hi => by cases hi), L.qC, L.qY, L.CY⟩, ?_, ?_, (h2.chg g3 (fun h => L.CY h.symm)).chg c5 (fun h => L.qY h.symm), World.ownsRow_nil _ _ _ _⟩
  · rw [hl]
    exact ((((H.chg g (fun h => L.qY h)).chg g3 (fun h => L.qC h)).set2 _).set3 0).set4 true
  · exact h3.chg c5 (fun h => L.qC h.symm)
end Go.Proofs.Ythnhhhfjgbgpgaa.NumK
