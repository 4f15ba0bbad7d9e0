/- Blocks of one byte. -/
import Derived.Test.YtgaopkfdbglnmaaDiskL
namespace Go.Proofs.Ytgaopkfdbglnmaa.NumK
open Go.RowKit

theorem bytesV_of (b : UInt8) : bytesV (blkOf b) = List.replicate 64 (byv b) := List.map_replicate
/-- 64 cells that may be written, the first i of them the byte b. -/
def Fill (w : World) (V i : Nat) (b : UInt8) : Prop := V < w.heap.size ∧ ∀ j, j < 64 → (∃ x : Int, w.cell? ⟨V, j, none⟩ = some (.int .u8 x)) ∧ w.frozen? ⟨V, j, none⟩ = false ∧ (j < i → w.cell? ⟨V, j, none⟩ = some (byv b))
theorem Fill.set {w : World} {V i : Nat} {b : UInt8} (h : Fill w V i b) (hi : i < 64) : Fill (w.setCell ⟨V, i, none⟩ (byv b)) V (i + 1) b := by
  refine ⟨by simpa [World.setCell] using h.1, fun j hj => ?_⟩
  obtain ⟨⟨x, h1⟩, h2, h3⟩ := h.2 j hj
  by_cases e : j = i
  · subst e
    have := World.cell?_setCell_same w ⟨V, j, none⟩ (byv b) h1
    exact ⟨⟨_, this⟩, by rw [World.frozen?_setCell]; exact h2, fun _ => this⟩
  · have := World.cell?_setCell_other w ⟨V, i, none⟩ ⟨V, j, none⟩ (byv b) (by intro e'; simp only [Addr.mk.injEq] at e'; omega)
    exact ⟨⟨x, this.trans h1⟩, by rw [World.frozen?_setCell]; exact h2, fun hj' => this.trans (h3 (by omega))⟩
theorem Fill.range {w : World} {V : Nat} {b : UInt8} (h : Fill w V 64 b) : w.rangeAt V 0 (bytesV (blkOf b)) := fun j v hv => by
  rw [bytesV_of] at hv
  have hj : j < 64 := by have := (List.getElem?_eq_some_iff.1 hv).1; simpa using this
  rw [List.getElem?_replicate, if_pos hj] at hv
  rw [Nat.zero_add, (h.2 j hj).2.2 hj, hv]
theorem fill_new (w : World) (Z : Array Value) (t : TypeId) (b : UInt8) (hZ : Z = (bytesV blk0).toArray) : Fill (w.alloc (.cells Z t)) w.heap.size 0 b := by
  refine ⟨by simp, fun j hj => ⟨⟨0, ?_⟩, by simp, fun h => by omega⟩⟩
  rw [World.cell?_alloc_at _ _ _ _ rfl, hZ, bytesV_zero]
  rw [List.getElem?_toArray, List.getElem?_replicate, if_pos hj]
  rfl
theorem there_new (w : World) (Z : Array Value) (t : TypeId) (hZ : Z = (bytesV blk0).toArray) : (w.alloc (.cells Z t)).there w.heap.size 0 64 := by
  intro j hj
  refine ⟨?_, by simp⟩
  rw [World.cell?_alloc_at _ _ _ _ rfl, hZ, bytesV_zero]
  rw [List.getElem?_toArray, List.getElem?_replicate, if_pos (by omega)]
  rfl
set_option maxRecDepth 100000 in
set_option maxHeartbeats 1000000 in
theorem block_any (b : UInt8) (w : World) : Calls Try.prog 20 #[.int .u8 (b.toNat : Int)] w fun e w' => e = .returned (blkV' (blkOf b)) ∧ Grew w w' := by
  obtain ⟨Z, hZ⟩ : ∃ Z, Z = (bytesV blk0).toArray := ⟨_, rfl⟩
  have hz := fun w => zero40 w
  rw [← hZ] at hz
  have HZ := Lib.hid hZ
  clear hZ
  have HF : Hid (Fill ((w.alloc (.cells Z 40)).alloc (.cells Z 40)) (w.heap.size + 1) 0 b) := by
    have := fill_new (w.alloc (.cells Z 40)) Z 40 b HZ.out
    show Fill _ _ _ _
    simpa using this
  have HT : Hid (((w.alloc (.cells Z 40)).alloc (.cells Z 40)).there w.heap.size 0 64) := World.there_alloc (there_new w Z 40 HZ.out) _
  have HG : Hid (Grew w ((w.alloc (.cells Z 40)).alloc (.cells Z 40))) := grew_trans (grew_alloc _ _ _) (grew_alloc _ _ _)
  have HS : Hid (w.heap.size < ((w.alloc (.cells Z 40)).alloc (.cells Z 40)).heap.size) := by show _ < _; simp; omega
  show Calls _ _ _ _ fun e w' => e = .returned (.agg (bytesV (blkOf b)).toArray) ∧ Grew w w'
  have hrn := Lib.hid (fun (w' : World) (h : Fill w' (w.heap.size + 1) 64 b) => h.range)
  have hone := Lib.hid (bytesV_one' (b := blkOf b))
  have hl : (bytesV (blkOf b)).length = 64 := by rw [bytesV_of]; simp
  generalize bytesV (blkOf b) = cs at *
  have hbv : Hid (byv b = .int .u8 (b.toNat : Int)) := rfl
  go_enter Try.func20, Try.ntmps20
  go_wp2
  go_loopw [4] (fun v4 wr => ∃ k : Nat, v4 = .int .i64 k ∧ k ≤ 64 ∧ Hid (Fill wr (w.heap.size + 1) k b) ∧ Hid (wr.there w.heap.size 0 64) ∧ Hid (Grew w wr) ∧ Hid (w.heap.size < wr.heap.size)) (fun v4 _ => 64 - (intOf v4).toNat)
  case atStart => exact ⟨0, rfl, by omega, HF, HT, HG, HS⟩
  case round =>
    obtain ⟨k, rfl, hk, HF1, HT1, HG1, HS1⟩ := hrel
    clear HF HT HG HS
    by_cases hlt : k < 64
    · obtain ⟨⟨x, c1⟩, c2, _⟩ := HF1.out.2 k hlt
      have j1 : (k : Int) < 64 := by omega
      have j0 : (0 : Int) ≤ (k : Int) := Int.natCast_nonneg _
      have HN := Lib.hid (HF1.out.set hlt)
      rw [hbv.out] at HN
      generalize b.toNat = u at *
      go_wp2
      go_roundw
      case rel =>
        refine ⟨k + 1, by go_num, by omega, HN, there_of HT1.out (Below.heap_setCell _ _ _ _ (by show w.heap.size ≠ w.heap.size + 1; omega)), grew_set HG1.out _ (by show w.heap.size ≤ w.heap.size + 1; omega), ?_⟩
        show w.heap.size < _
        have := HS1.out
        simpa [World.setCell] using this
      case measure => simp only [intOf]; omega
    · obtain rfl : k = 64 := by omega
      have HR := Lib.hid (hrn.out wr HF1.out)
      have hout := Lib.hid (World.rangeAt_setCells_same wr w.heap.size 0 cs (by rw [hl]; exact HT1.out))
      have HGE : Hid (Grew w (wr.setCells w.heap.size 0 cs)) := ((Chg.refl (fun k => k = w.heap.size) wr).setCells _ _ _ (fun _ => rfl)).grew HG1.out (fun k hk => by subst hk; exact Nat.le_refl _)
      clear hrn
      go_wp2_with (first
        | (refine wpList_load_mid (by rfl) 40 _ (by rfl) (w.heap.size + 1) 0 (by rfl) cs _ HR.out Try.underlying40 rfl (size40 hl.symm) ?_)
        | (refine wpList_store_mid (by rfl) 40 _ _ (by rfl) w.heap.size 0 cs.toArray (by rfl) (by rfl) (by simpa [hl] using HT1.out) (size40 (by simpa using hl.symm)) hone.out ?_))
      (try simp only [Exit.inBlock, Exit.then]); refine bodyPost_ret (results_cell_mid rfl _ _ w.heap.size cs _ rfl hout.out Try.underlying40 rfl (size40 hl.symm)) rfl ?_
      exact ⟨rfl, HGE.out⟩
end Go.Proofs.Ytgaopkfdbglnmaa.NumK
