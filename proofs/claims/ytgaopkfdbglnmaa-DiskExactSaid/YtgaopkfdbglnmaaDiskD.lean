/- disk: Read. -/
import Derived.Test.YtgaopkfdbglnmaaDiskC
import Derived.Laws.ResultCell
namespace Go.Proofs.Ytgaopkfdbglnmaa.NumK
open Go.RowKit

theorem info40 : (Try.prog.info? 40).map (fun i => (i.zero, i.size)) = some (some (blkV blk0), 64) := by kernel_rfl
theorem size40 {n : Nat} (h : 64 = n) : (Try.prog.info? 40).map (·.size) = some n := by subst h; exact (zero_of_info info40).2
theorem zero40 (w : World) : (zeroValue 40).run Try.prog w = .ok (.agg (bytesV blk0).toArray) w := (zero_of_info info40).1 w
theorem bytesV_one' {b : Blk} : (bytesV b).toArray.all (·.oneCell') = true := all_oneCell_toArray (bytesV_one b)

def blkV' (b : Blk) : Value := .agg (bytesV b).toArray
def readV (p : Blk × Int) : Value := .tuple #[blkV' p.1, .int .i64 p.2]

theorem dRead_not {s : DS} {at' : Int} (h : refI s at' ≠ 0) : dRead s at' = (blk0, refI s at') := by
  unfold dRead refI at *
  split
  · rfl
  · split
    · simp_all
    · rfl
theorem has_of {s : DS} {at' : Int} (h : refI s at' = 0) : s.off = false ∧ ∃ k : Nat, at' = (k : Int) ∧ k < s.safe.length := by
  unfold refI at h
  by_cases ho : s.off = true
  · rw [if_pos ho] at h; omega
  · rw [if_neg ho] at h
    by_cases hh : s.has at'
    · have := hh
      unfold DS.has at this
      exact ⟨by simpa using ho, at'.toNat, by omega, by omega⟩
    · rw [if_neg hh] at h; omega
theorem dRead_of {s : DS} {k : Nat} (ho : s.off = false) (hk : k < s.safe.length) : dRead s (k : Int) = ((cont s).getD k blk0, 0) := by
  unfold dRead DS.has cont
  rw [ho, applyL_see _ _ _ hk]
  simp [hk, DS.see]
/-- A value of 64 bytes in a block of its own. -/
theorem load_own (w w' : World) (b : Blk) (t : TypeId) (g : Grew (w.alloc (.cells (bytesV b).toArray t)) w') : w'.rangeAt w.heap.size 0 (bytesV b) := fun j v hv => by
  have hl := bytesV_len b
  have : (w.alloc (.cells (bytesV b).toArray t)).cell? ⟨w.heap.size, 0 + j, none⟩ = some v := by
    rw [World.cell?_alloc_at _ _ _ _ rfl, Nat.zero_add]
    simpa using hv
  exact (grew_cell g (p := ⟨w.heap.size, 0 + j, none⟩) (by simp)).trans this

/-- A value of many cells that a call tells out of a variable of its own. -/
theorem results_cell_tmp_mid {P : Program} {fn : Func} {p u : Tmp} {ty : TypeId} (h : fn.results = #[.cell p ty, .tmp u]) (tmps : Array Value) (w : World) (g : Nat) (cs : List Value) (d : TypeDesc) (hp : tmps.getD p undef = .pointer (some ⟨g, 0, none⟩))
    (hc : w.rangeAt g 0 cs) (hu : P.underlying ty = some d) (hd : d.isRow = true) (hi : (P.info? ty).map (·.size) = some cs.length) :
    (results fn tmps).run P w = .ok (.tuple #[.agg cs.toArray, tmps.getD u undef]) w := by
  rw [results_cell_tmp h, hp]
  simp [asAddr, Result.andThen, run_loadVar_mid w g 0 ty cs d hc hu hd hi]
theorem results_cell_mid {P : Program} {fn : Func} {p : Tmp} {ty : TypeId} (h : fn.results = #[.cell p ty]) (tmps : Array Value) (w : World) (g : Nat) (cs : List Value) (d : TypeDesc) (hp : tmps.getD p undef = .pointer (some ⟨g, 0, none⟩))
    (hc : w.rangeAt g 0 cs) (hu : P.underlying ty = some d) (hd : d.isRow = true) (hi : (P.info? ty).map (·.size) = some cs.length) :
    (results fn tmps).run P w = .ok (.agg cs.toArray) w := by
  have hp' : tmps[p]?.getD undef = .pointer (some ⟨g, 0, none⟩) := by simpa using hp
  simp [results, h, hp', asAddr, run_loadVar_mid w g 0 ty cs d hc hu hd hi]

set_option maxRecDepth 100000 in
set_option maxHeartbeats 1000000 in
theorem read_any (F : Nat → Prop) (q : Nat) (s : DS) (at' : Int) (w : World) (h : DK w F q s) : Calls Try.prog 17 #[.pointer (some ⟨q, 0, none⟩), .int .i64 at'] w fun e w' => e = .returned (readV (dRead s at')) ∧ Grew w w' := by
  obtain ⟨Z, hZ⟩ : ∃ Z, Z = (bytesV blk0).toArray := ⟨_, rfl⟩
  have hz := fun w => zero40 w
  rw [← hZ] at hz
  have CR := Lib.hid (refuses_any F q s at' (w.alloc (.cells Z 40)) (h.grew (grew_alloc _ _ _)))
  by_cases hr : refI s at' = 0
  · obtain ⟨ho, k, rfl, hk⟩ := has_of hr
    have HE : Hid (dRead s (k : Int) = ((cont s).getD k blk0, 0)) := dRead_of ho hk
    obtain ⟨C, Y, v, L, H, h1, h2, h3⟩ := (h.grew (grew_alloc w Z 40)).ex
    have c0 := H.c0
    have hr1 := Lib.hid (h1.at' k (by rw [cont_len]; exact hk)).1
    have hlen := h1.one (k := k) (by rw [cont_len]; exact hk)
    rw [hr] at CR
    have i1 : (k : Int) < (s.safe.length : Int) := by omega
    generalize (cont s).getD k blk0 = b at *
    have hn := bytesV_len b
    rw [hlen] at hn
    have hd : dRead s (k : Int) = (b, 0) := HE.out
    have hth : Hid ((w.alloc (.cells Z 40)).there w.heap.size 0 64) := by
      intro j hj
      subst hZ
      refine ⟨(load_own w _ blk0 _ (grew_refl _)).isSome j hj, ?_⟩
      simp
    have hout := Lib.hid (World.rangeAt_setCells_same (w.alloc (.cells Z 40)) w.heap.size 0 (bytesV b) (by rw [hn]; exact hth.out))
    have HZ := Lib.hid hZ
    clear hZ
    have HG : Hid (Grew w ((w.alloc (.cells Z 40)).setCells w.heap.size 0 (bytesV b))) := ((Grew.chg (grew_alloc w Z _)).setCells (F := fun k => k = w.heap.size) _ _ _ (fun _ => rfl)).grew (grew_refl _) (fun k hk => by subst hk; exact Nat.le_refl _)
    have hone := Lib.hid (bytesV_one' (b := b))
    rw [hd]
    show Calls _ _ _ _ fun e w' => e = .returned (.tuple #[.agg (bytesV b).toArray, .int .i64 0]) ∧ Grew w w'
    clear hd HE H h1 h2 h3 L h hr hk ho hlen
    generalize bytesV b = cs at *
    generalize s.safe.length = n at *
    go_enter Try.func17, Try.ntmps17
    go_wp2_with (first
      | (go_at_call 32; ((with_reducible refine CR.out.mono ?_); rintro e w1 ⟨rfl, rfl⟩))
      | (refine wpList_load_mid (by rfl) 40 _ (by rfl) C (k * 64) (by rfl) cs _ hr1.out Try.underlying40 rfl (size40 hn.symm) ?_)
      | (refine wpList_store_mid (by rfl) 40 _ _ (by rfl) w.heap.size 0 cs.toArray (by rfl) (by rfl) (by simpa [hn] using hth.out) (size40 (by simpa using hn.symm)) hone.out ?_))
    (try simp only [Exit.inBlock, Exit.then]); refine bodyPost_ret (results_cell_tmp_mid rfl _ _ w.heap.size cs _ rfl hout.out Try.underlying40 rfl (size40 hn.symm)) rfl ?_
    exact ⟨rfl, HG.out⟩
  · have hE := dRead_not hr
    have hn := bytesV_len blk0
    rw [show blk0.length = 64 from rfl] at hn
    have hth : Hid ((w.alloc (.cells Z 40)).there w.heap.size 0 64) := by
      intro j hj
      subst hZ
      refine ⟨(load_own w _ blk0 _ (grew_refl _)).isSome j hj, ?_⟩
      simp
    have hZ2 := Lib.hid hZ
    have hout := Lib.hid (World.rangeAt_setCells_same (w.alloc (.cells Z 40)) w.heap.size 0 (bytesV blk0) (by rw [hn]; exact hth.out))
    have HG : Hid (Grew w ((w.alloc (.cells Z 40)).setCells w.heap.size 0 (bytesV blk0))) := ((Grew.chg (grew_alloc w Z _)).setCells (F := fun k => k = w.heap.size) _ _ _ (fun _ => rfl)).grew (grew_refl _) (fun k hk => by subst hk; exact Nat.le_refl _)
    have hone := Lib.hid (bytesV_one' (b := blk0))
    rw [hE]
    show Calls _ _ _ _ fun e w' => e = .returned (.tuple #[.agg (bytesV blk0).toArray, .int .i64 (refI s at')]) ∧ Grew w w'
    clear hE h hZ
    generalize refI s at' = r at *
    generalize bytesV blk0 = cs at *
    have hZ := hZ2.out
    clear hZ2
    subst hZ
    have d1 : (r != 0) = true := by simpa using hr
    go_enter Try.func17, Try.ntmps17
    go_wp2_with (first
      | (go_at_call 32; ((with_reducible refine CR.out.mono ?_); rintro e w1 ⟨rfl, rfl⟩))
      | (refine wpList_store_mid (by rfl) 40 _ _ (by rfl) w.heap.size 0 cs.toArray (by rfl) (by rfl) (by simpa [hn] using hth.out) (size40 (by simpa using hn.symm)) hone.out ?_))
    (try simp only [Exit.inBlock, Exit.then]); refine bodyPost_ret (results_cell_tmp_mid rfl _ _ w.heap.size cs _ rfl hout.out Try.underlying40 rfl (size40 hn.symm)) rfl ?_
    exact ⟨rfl, HG.out⟩
end Go.Proofs.Ytgaopkfdbglnmaa.NumK
