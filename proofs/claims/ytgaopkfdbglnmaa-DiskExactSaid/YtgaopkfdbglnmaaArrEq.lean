/- Arrays of bytes, compared by value. -/
import Derived.Test.YtgaopkfdbglnmaaBytes
import Derived.ChangeKeysEq
import Derived.Laws.Rows
import Derived.Laws.Tables
import Derived.Laws.IdiomCopy
namespace Go.Proofs.Ytgaopkfdbglnmaa.NumK
open Go.RowKit

def blkV (l : List UInt8) : Value := .agg (l.map byv).toArray
theorem blkV_at {l : List UInt8} {i : Nat} (h : i < l.length) : (l.map byv).toArray[i]? = some (byv (l.getD i 0)) := by
  simp [List.getD, h]
theorem byv_beq (a b : UInt8) : (((a.toNat : Int)) == ((b.toNat : Int))) = decide (a = b) := by
  by_cases h : a = b
  · subst h; simp
  · rw [decide_eq_false h]
    have : a.toNat ≠ b.toNat := fun e => h (UInt8.toNat_inj.1 e)
    simp; omega
theorem eqItems_bytes {P : Program} (w : World) (d : Nat) {e : TypeId} (he : P.underlying e = some (.int .u8)) (xs ys : List UInt8) : ∀ is : List Nat, (∀ i ∈ is, i < xs.length ∧ i < ys.length) →
    (Op.eqItems (d + 1) e 1 (xs.map byv).toArray (ys.map byv).toArray is).run P w = .ok (is.all fun i => decide (xs.getD i 0 = ys.getD i 0)) w
  | [], _ => by simp [Op.eqItems]
  | i :: is, h => by
    have hp : P.plainKey e = true := by simp [Program.plainKey, he]
    have h1 := h i (by simp)
    have ih := eqItems_bytes w d he xs ys is fun j hj => h j (by simp [hj])
    simp only [Op.eqItems, Nat.mul_one, Sem.run_bind, run_part_plain w hp (blkV_at h1.1), run_part_plain w hp (blkV_at h1.2), Result.andThen_ok]
    have e1 : (Op.equalIn (d + 1) e (byv (xs.getD i 0)) (byv (ys.getD i 0))).run P w = .ok (decide (xs.getD i 0 = ys.getD i 0)) w := by
      unfold byv
      simp only [Op.equalIn, Sem.run_bind, run_underlying he, Result.andThen_ok, if_true, Sem.run_pure, byv_beq]
    rw [e1, Result.andThen_ok, List.all_cons]
    cases decide (xs.getD i 0 = ys.getD i 0)
    · simp
    · simpa using ih
theorem all_eq {xs ys : List UInt8} (h : xs.length = ys.length) : ((List.range xs.length).all fun i => decide (xs.getD i 0 = ys.getD i 0)) = decide (xs = ys) := by
  by_cases e : xs = ys
  · subst e; simp
  · rw [decide_eq_false e, List.all_eq_false]
    by_cases hx : ∃ i, i < xs.length ∧ xs.getD i 0 ≠ ys.getD i 0
    · obtain ⟨i, h1, h2⟩ := hx
      exact ⟨i, by simpa using h1, by simpa using h2⟩
    · exfalso
      refine e (List.ext_getElem h fun i h1 h2 => ?_)
      have : xs.getD i 0 = ys.getD i 0 := by
        by_cases h3 : xs.getD i 0 = ys.getD i 0
        · exact h3
        · exact absurd ⟨i, h1, h3⟩ hx
      simpa [List.getD, h1, h2] using this
theorem run_equal_blk {P : Program} (w : World) (d : Nat) {t e : TypeId} {n : Nat} {i : TypeInfo} (hu : P.underlying t = some (.array n e)) (hi : P.info? e = some i) (he : P.underlying e = some (.int .u8)) (hc : P.cellsOf e = 1) (xs ys : List UInt8) (hx : xs.length = n) (hy : ys.length = n) :
    (Op.equalIn (d + 2) t (blkV xs) (blkV ys)).run P w = .ok (decide (xs = ys)) w := by
  unfold blkV
  rw [run_equalIn_array w (d + 1) _ _ hu hi, hc, eqItems_bytes w d he xs ys _ (fun j hj => by have := List.mem_range.1 hj; omega)]
  subst hx
  rw [all_eq hy.symm]

/-! ### whole arrays out of memory and into it -/
theorem run_loadBlk {P : Program} (w : World) (b o : Nat) {ty e : TypeId} {n : Nat} (l : List UInt8) (hu : P.underlying ty = some (.array n e)) (hi : (P.info? ty).map (·.size) = some l.length) (hc : ∀ j, j < l.length → w.cell? ⟨b, o + j, none⟩ = some (byv (l.getD j 0))) :
    (loadVar ty ⟨b, o, none⟩).run P w = .ok (blkV l) w := by
  have hl : (loadCells ⟨b, o, none⟩ (l.map byv).length).run P w = .ok (l.map byv).toArray w :=
    run_loadCells_list (P := P) w ⟨b, o, none⟩ (l.map byv) (fun j v hv => by
      have hj : j < l.length := by have := (List.getElem?_eq_some_iff.1 hv).1; simpa using this
      rw [addr_add, hc j hj, ← hv]
      simp [List.getD, hj])
  cases hq : P.info? ty with
  | none => simp [hq] at hi
  | some i =>
    have hs : i.size = l.length := by simpa [hq] using hi
    have hagg : (isAgg ty).run P w = .ok true w := by
      unfold isAgg
      rw [Sem.run_bind, run_underlying hu w]
      simp
    rw [List.length_map] at hl
    simp [loadVar, Sem.run_bind, hagg, sizeOf, typeInfo, hq, hs, hl, blkV]
theorem run_storeBlk {P : Program} (w : World) (b o : Nat) {ty : TypeId} (l : List UInt8) (hi : (P.info? ty).map (·.size) = some l.length) (hc : ∀ j, j < l.length → (w.cell? ⟨b, o + j, none⟩).isSome = true) (hf : ∀ j, j < l.length → w.frozen? ⟨b, o + j, none⟩ = false) :
    (storeVar ty ⟨b, o, none⟩ (blkV l)).run P w = .ok () (w.setCells b o (l.map byv)) := by
  have hst := run_storeCells_cells (P := P) b o (l.map byv) 0 w (by simpa using hc) (by simpa using hf) (fun v hv => by obtain ⟨x, _, rfl⟩ := List.mem_map.1 hv; rfl)
  rw [Nat.add_zero] at hst
  cases hq : P.info? ty with
  | none => simp [hq] at hi
  | some i =>
    have hs : i.size = l.length := by simpa [hq] using hi
    simp [storeVar, blkV, sizeOf, typeInfo, hq, Value.cells, hs]
    exact hst
theorem run_loadAtBlk {P : Program} (w : World) (b o : Nat) {ty e : TypeId} {n : Nat} (l : List UInt8) (hu : P.underlying ty = some (.array n e)) (hi : (P.info? ty).map (·.size) = some l.length) (hc : ∀ j, j < l.length → w.cell? ⟨b, o + j, none⟩ = some (byv (l.getD j 0))) :
    (Instr.loadAt ty (.pointer (some ⟨b, o, none⟩))).run P w = .ok (blkV l) w := by
  simp only [Instr.loadAt, Instr.sureAddr, Sem.run_bind, Sem.run_pure, Result.andThen]
  exact run_loadBlk w b o l hu hi hc
theorem run_storeAtBlk {P : Program} (w : World) (b o : Nat) {ty : TypeId} (l : List UInt8) (hi : (P.info? ty).map (·.size) = some l.length) (hc : ∀ j, j < l.length → (w.cell? ⟨b, o + j, none⟩).isSome = true) (hf : ∀ j, j < l.length → w.frozen? ⟨b, o + j, none⟩ = false) :
    (Instr.storeAt ty (.pointer (some ⟨b, o, none⟩)) (blkV l)).run P w = .ok () (w.setCells b o (l.map byv)) := by
  simp only [Instr.storeAt, Instr.sureAddr, Sem.run_bind, Sem.run_pure, Result.andThen]
  exact run_storeBlk w b o l hi hc hf
end Go.Proofs.Ytgaopkfdbglnmaa.NumK
