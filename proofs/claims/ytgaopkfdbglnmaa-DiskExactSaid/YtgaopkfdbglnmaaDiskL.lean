/- disk: New. -/
import Derived.Test.YtgaopkfdbglnmaaDiskK
namespace Go.Proofs.Ytgaopkfdbglnmaa.NumK
open Go.RowKit

theorem dok_new (n : Nat) (h1 : 1 ≤ n) (h2 : n ≤ 65536) : DOK (dNew n) := by
  refine ⟨⟨fun b hb => ?_, fun x hx => by cases hx⟩, by simpa [dNew] using h1, by simpa [dNew] using h2, by show 0 ≤ _; omega, (fun h => by cases h), (fun h => by cases h), (fun h => by cases h)⟩
  have := List.eq_of_mem_replicate hb
  subst this; rfl
theorem info40b : (Try.prog.info? 40).map (fun i => (i.zero, i.size, i.bytes)) = some (some (.agg (bytesV blk0).toArray), 64, 64) := by kernel_rfl
theorem run_blks (w : World) (n : Nat) (hn : n ≤ 65536) : (Instr.makeSlice 35 (.int .i64 n) (.int .i64 n)).run Try.prog w = .ok (.slice (some ⟨w.heap.size, 0, none⟩) n n) (w.alloc (.cells (madeCells (bytesV blk0).toArray (n * 64)) 40)) := by
  obtain ⟨i, hi, hz0, hz1, hz2⟩ := info_parts info40b
  have := run_make (P := Try.prog) w 35 40 i (.agg (bytesV blk0).toArray) Try.underlying35 hi hz0 .i64 .i64 n n (by omega) (by omega) (by rw [hz2]; omega) (by omega)
  simpa [hz1, Value.cells] using this
theorem bytesV_zero : bytesV blk0 = List.replicate 64 (byv 0) := List.map_replicate
theorem blkRow_new (w : World) (n : Nat) : BlkRow (w.alloc (.cells (madeCells (bytesV blk0).toArray (n * 64)) 40)) w.heap.size (List.replicate n blk0) := by
  refine ⟨by simp, fun b hb => by rw [List.eq_of_mem_replicate hb]; rfl, fun k hk => ?_⟩
  have hk2 : k < n := by simpa using hk
  have hb : ∀ j, j < 64 → k * 64 + j < n * 64 := fun j hj => by
    have : (k + 1) * 64 ≤ n * 64 := Nat.mul_le_mul_right 64 hk2
    omega
  have hcell : ∀ j, j < 64 → (w.alloc (.cells (madeCells (bytesV blk0).toArray (n * 64)) 40)).cell? ⟨w.heap.size, k * 64 + j, none⟩ = some (byv 0) := fun j hj => by
    rw [World.cell?_alloc_at _ _ _ _ rfl]
    have hs := size_madeCells (bytesV blk0).toArray (n * 64)
    rw [Array.getElem?_eq_getElem (by rw [hs]; exact hb j hj)]
    have hm : (k * 64 + j) % 64 = j := by omega
    simp only [madeCells, Array.getElem_map, Array.getElem_range]
    have h64 : (bytesV blk0).toArray.size = 64 := by simp [bytesV_len, blk0]
    rw [h64, hm, getElem!_pos _ _ (by rw [h64]; exact hj)]
    simp only [bytesV_zero, List.getElem_toArray, List.getElem_replicate]
  refine ⟨fun j v hv => ?_, fun j hj => ⟨by rw [hcell j hj]; rfl, by simp⟩⟩
  have hg : (List.replicate n blk0).getD k blk0 = blk0 := by simp [List.getD, hk2]
  rw [hg] at hv
  have hj : j < 64 := by have := (List.getElem?_eq_some_iff.1 hv).1; simpa [bytesV_len, blk0] using this
  rw [hcell j hj, ← hv, bytesV_zero, List.getElem?_replicate, if_pos hj]

/-- What New leaves. -/
def NewPost (n : Nat) (w : World) (e : Ending) (w' : World) : Prop :=
  Grew w w' ∧ ∃ q, w.heap.size ≤ q ∧ e = .returned (.tuple #[.pointer (some ⟨q, 0, none⟩), .int .i64 0]) ∧ DK w' (fun k => w.heap.size ≤ k ∧ k < w'.heap.size) q (dNew n)
theorem head_new (w : World) (n C Y : Nat) (t : TypeId) : Head (w.alloc (.cells #[.slice (some ⟨C, 0, none⟩) n n, .slice (some ⟨Y, 0, none⟩) n n, .slice none 0 0, .int .i64 0, .bool false] t)) w.heap.size n C Y (.slice none 0 0) 0 false :=
  ⟨by simp, by simp, by simp, by simp, by simp, by simp, by simp, by simp, by simp⟩
theorem dk_new (w0 w : World) (n C Y : Nat) (h1 : 1 ≤ n) (h2 : n ≤ 65536) (g : Grew w0 w) (hC : BlkRow w C (List.replicate n blk0)) (hY : BlkRow w Y (List.replicate n blk0)) (c1 : w0.heap.size ≤ C) (c2 : w0.heap.size ≤ Y) (hCY : C ≠ Y) (t : TypeId) :
    NewPost n w0 (.returned (.tuple #[.pointer (some ⟨w.heap.size, 0, none⟩), .int .i64 0])) (w.alloc (.cells #[.slice (some ⟨C, 0, none⟩) n n, .slice (some ⟨Y, 0, none⟩) n n, .slice none 0 0, .int .i64 0, .bool false] t)) := by
  have ga := grew_alloc w #[.slice (some ⟨C, 0, none⟩) n n, .slice (some ⟨Y, 0, none⟩) n n, .slice none 0 0, .int .i64 0, .bool false] t
  have hC' := hC.lt
  have hY' := hY.lt
  have hs := g.size
  have hs2 : (w.alloc (.cells #[.slice (some ⟨C, 0, none⟩) n n, .slice (some ⟨Y, 0, none⟩) n n, .slice none 0 0, .int .i64 0, .bool false] t)).heap.size = w.heap.size + 1 := by simp
  refine ⟨grew_trans g ga, w.heap.size, hs, rfl, fun k hk => hk.2, dok_new n h1 h2, C, Y, .slice none 0 0, ⟨⟨hs, by omega⟩, ⟨c1, by omega⟩, ⟨c2, by omega⟩, (fun k hk => by cases hk), by omega, by omega, hCY⟩, ?_, ?_, ?_, World.ownsRow_nil _ _ _ _⟩
  · have : (dNew n).safe.length = n := by simp [dNew]
    rw [this]; exact head_new w n C Y t
  · exact hC.of (ga.block C hC') ga.size
  · exact hY.of (ga.block Y hY') ga.size

set_option maxHeartbeats 1000000 in
theorem new_any (n : Nat) (w : World) (h1 : 1 ≤ n) (h2 : n ≤ 65536) : Calls Try.prog 10 #[.int .i64 (n : Int)] w (NewPost n w) := by
  have hmk := fun w => run_blks w n h2
  obtain ⟨Z, hZ⟩ : ∃ Z, madeCells (bytesV blk0).toArray (n * 64) = Z := ⟨_, rfl⟩
  have hb := Lib.hid (fun w => blkRow_new w n)
  rw [hZ] at hb
  rw [hZ] at hmk
  clear hZ
  have hsz : ∀ w : World, (w.alloc (.cells Z 40)).heap.size = w.heap.size + 1 := fun w => by simp
  have HA : Hid (NewPost n w (.returned (.tuple #[.pointer (some ⟨w.heap.size + 1 + 1, 0, none⟩), .int .i64 0])) (((w.drew.alloc (.cells Z 40)).alloc (.cells Z 40)).alloc (.cells #[.slice (some ⟨w.heap.size, 0, none⟩) n n, .slice (some ⟨w.heap.size + 1, 0, none⟩) n n, .slice none 0 0, .int .i64 0, .bool false] 59))) := by
    have ga := grew_alloc (w.drew.alloc (.cells Z 40)) Z 40
    have hb1 := hb.out w.drew
    have := dk_new w ((w.drew.alloc (.cells Z 40)).alloc (.cells Z 40)) n w.heap.size (w.heap.size + 1) h1 h2 (grew_trans (grew_drew (grew_refl w)) (grew_trans (grew_alloc _ _ _) (grew_alloc _ _ _))) (hb1.of (ga.block _ hb1.lt) ga.size) (by have := hb.out (w.drew.alloc (.cells Z 40)); rw [hsz] at this; exact this) (Nat.le_refl _) (by omega) (by omega) 59
    rw [hsz, hsz] at this
    exact this
  have HB : Hid (NewPost n w (.returned (.tuple #[.pointer (some ⟨w.heap.size + 1 + 1, 0, none⟩), .int .i64 0])) (((w.drew.alloc (.cells Z 40)).alloc (.cells Z 40)).alloc (.cells #[.slice (some ⟨w.heap.size + 1, 0, none⟩) n n, .slice (some ⟨w.heap.size, 0, none⟩) n n, .slice none 0 0, .int .i64 0, .bool false] 59))) := by
    have ga := grew_alloc (w.drew.alloc (.cells Z 40)) Z 40
    have hb1 := hb.out w.drew
    have := dk_new w ((w.drew.alloc (.cells Z 40)).alloc (.cells Z 40)) n (w.heap.size + 1) w.heap.size h1 h2 (grew_trans (grew_drew (grew_refl w)) (grew_trans (grew_alloc _ _ _) (grew_alloc _ _ _))) (by have := hb.out (w.drew.alloc (.cells Z 40)); rw [hsz] at this; exact this) (hb1.of (ga.block _ hb1.lt) ga.size) (by omega) (Nat.le_refl _) (by omega) 59
    rw [hsz, hsz] at this
    exact this
  have k1 : ¬ (n : Int) < 1 := by omega
  have k2 : ¬ (65536 : Int) < (n : Int) := by omega
  clear h1 h2 hsz
  go_enter Try.func10, Try.ntmps10
  go_wp2
  go_region
  all_goals
    go_wp2
    go_ret2
    first | exact HA.out | exact HB.out
theorem new_not (n : Int) (w : World) (h : n < 1 ∨ 65536 < n) : Calls Try.prog 10 #[.int .i64 n] w fun e w' => e = .returned (.tuple #[.pointer none, .int .i64 3]) ∧ w = w' := by
  by_cases h1 : n < 1
  · clear h
    go_enter Try.func10, Try.ntmps10
    go_wp2
    go_ret2
    exact ⟨rfl, rfl⟩
  · have h2 : 65536 < n := by omega
    clear h
    go_enter Try.func10, Try.ntmps10
    go_wp2
    go_ret2
    exact ⟨rfl, rfl⟩
end Go.Proofs.Ytgaopkfdbglnmaa.NumK
