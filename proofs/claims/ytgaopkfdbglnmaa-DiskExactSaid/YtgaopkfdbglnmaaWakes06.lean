/- What the laws of stage 6 wake: a torn block. -/
import Derived.Test.YtgaopkfdbglnmaaDiskN
namespace Go.Proofs.Ytgaopkfdbglnmaa.NumK
open Go.RowKit

def wk1 : DS := (dWrite (dNew 2) 0 (blkOf 1)).2
def wk2 : DS := (dSync wk1).2
def wk3 : DS := (dWrite wk2 0 (blkOf 2)).2
def wk4 : DS := dCrash wk3 [3]
def wk5 : DS := dStart wk4
def wkB : Blk := 2 :: 2 :: List.replicate 62 1
theorem wk_read : dRead wk5 0 = (wkB, 0) := by decide +kernel
theorem wk_len : wk1.opn.length = 1 ∧ wk2.opn.length = 0 ∧ wk3.opn.length = 1 ∧ wk4.opn.length = 0 := by decide +kernel
theorem wkB_len : (bytesV wkB).length = 64 := rfl
theorem wkB_at : (bytesV wkB)[0]? = some (.int .u8 2) ∧ (bytesV wkB)[1]? = some (.int .u8 2) ∧ (bytesV wkB)[2]? = some (.int .u8 1) := ⟨rfl, rfl, rfl⟩
/-- A value of 64 bytes, stored into a variable of its own. -/
theorem put_new (w : World) (Z : Array Value) (hZ : Z = (bytesV blk0).toArray) (t : TypeId) (cs : List Value) (hl : cs.length = 64) : ((w.alloc (.cells Z t)).setCells w.heap.size 0 cs).rangeAt w.heap.size 0 cs ∧ (w.alloc (.cells Z t)).there w.heap.size 0 64 ∧ Grew w ((w.alloc (.cells Z t)).setCells w.heap.size 0 cs) ∧ ((w.alloc (.cells Z t)).setCells w.heap.size 0 cs).there w.heap.size 0 64 ∧ w.heap.size < ((w.alloc (.cells Z t)).setCells w.heap.size 0 cs).heap.size := by
  have ht := there_new w Z t hZ
  exact ⟨World.rangeAt_setCells_same _ _ _ _ (by rw [hl]; exact ht), ht, ((Grew.chg (grew_alloc w Z _)).setCells (F := fun k => k = w.heap.size) _ _ _ (fun _ => rfl)).grew (grew_refl _) (fun k hk => by subst hk; exact Nat.le_refl _), World.there_setCells ht _ _ _, by rw [setCells_size]; simp⟩

set_option maxRecDepth 100000 in
set_option maxHeartbeats 1000000 in
theorem wakes06_any (w : World) : Calls Try.prog 11 #[] w fun e w' => e = .returned (.bool true) ∧ Grew w w' := by
  obtain ⟨Z, hZ⟩ : ∃ Z, Z = (bytesV blk0).toArray := ⟨_, rfl⟩
  have hz := fun w => zero40 w
  rw [← hZ] at hz
  have HZ := Lib.hid hZ
  clear hZ
  have CN : Hid (Calls Try.prog 10 #[.int .i64 2] w (NewPost 2 w)) := new_any 2 w (by omega) (by omega)
  obtain ⟨l1, l2, l3, l4⟩ := wk_len
  obtain ⟨b0, b1, b2⟩ := wkB_at
  have W1 := Lib.hid (fun w1 q (h : DI (fun _ => False) w w1 q (dNew 2)) => h.write 0 (blkOf 1) rfl (by decide))
  have W2 := Lib.hid (fun w1 q (h : DI (fun _ => False) w w1 q wk1) => h.sync (by omega))
  have W3 := Lib.hid (fun w1 q (h : DI (fun _ => False) w w1 q wk2) => h.write 0 (blkOf 2) rfl (by omega))
  have W4 := Lib.hid (fun w1 q A (h : DI (fun k => False ∨ k = A) w w1 q wk3) (hi : Ints w1 (some ⟨A, 0, none⟩) 1 [3]) => h.crash (some ⟨A, 0, none⟩) 1 1 [3] hi (fun a e _ => by cases e; exact Or.inr (Or.inr rfl)) (by omega) (by omega))
  have W5 := Lib.hid (fun w1 q N (h : DI N w w1 q wk4) => h.start (by omega))
  have W6 := Lib.hid (fun w1 q N (h : DI N w w1 q wk5) => h.read 0)
  rw [wk_read] at W6
  have B1 : Hid (∀ w, Calls Try.prog 20 #[.int .u8 1] w fun e w' => e = .returned (blkV' (blkOf 1)) ∧ Grew w w') := fun w => block_any 1 w
  have B2 : Hid (∀ w, Calls Try.prog 20 #[.int .u8 2] w fun e w' => e = .returned (blkV' (blkOf 2)) ∧ Grew w w') := fun w => block_any 2 w
  have hone := Lib.hid (bytesV_one' (b := wkB))
  have hl := wkB_len
  have HWB : Hid (readV (wkB, 0) = .tuple #[.agg (bytesV wkB).toArray, .int .i64 0]) := rfl
  rw [HWB.out] at W6
  generalize bytesV wkB = cs at *
  clear l1 l2 l3 l4 HWB
  go_enter Try.func11, Try.ntmps11
  go_upto_region 7 with (first
    | (go_at_call 10; ((with_reducible refine CN.out.mono ?_); rintro e w1 hp; obtain ⟨q, rfl, hd, hg⟩ := di_new (N := fun _ => False) (grew_refl w) (fun _ h => h.elim) hp; have D0 := Lib.hid hd; clear hd hg hp))
    | (go_at_call 20; ((with_reducible refine (B1.out _).mono ?_); rintro e wb ⟨rfl, hg⟩; have E0 := Lib.hid (D0.out.grows hg); clear hg))
    | (go_at_call 19; ((with_reducible refine (W1.out _ _ E0.out).mono ?_); rintro e w2 ⟨rfl, hd, hg⟩; have D1 := Lib.hid hd; clear hd hg))
    | (go_at_call 21; ((with_reducible refine (W2.out _ _ D1.out).mono ?_); rintro e w3 ⟨rfl, hd, hg⟩; have D2 := Lib.hid hd; clear hd hg))
    | (go_at_call 20; ((with_reducible refine (B2.out _).mono ?_); rintro e wb2 ⟨rfl, hg⟩; have E1 := Lib.hid (D2.out.grows hg); clear hg))
    | (go_at_call 19; ((with_reducible refine (W3.out _ _ E1.out).mono ?_); rintro e w4 ⟨rfl, hd, hg⟩; have D3 := Lib.hid hd; clear hd hg)))
  have D3' : Hid (DI (fun k => False ∨ k = w4.heap.size) w (w4.alloc (.cells #[.int .i64 3] 3)) q wk3) := D3.out.beside w4.heap.size _ rfl
  have I3 := Lib.hid (ints1 w4 3 3)
  go_upto_region 10 with (first
    | (go_at_call 22; ((with_reducible refine (W4.out _ _ _ D3'.out I3.out).mono ?_); rintro e w5 ⟨rfl, hd, hg⟩; have D4 := Lib.hid hd; clear hd hg))
    | (go_at_call 23; ((with_reducible refine (W5.out _ _ _ D4.out).mono ?_); rintro e w6 ⟨rfl, hd, hg⟩; have D5 := Lib.hid hd; clear hd hg))
    | (go_at_call 17; ((with_reducible refine (W6.out _ _ _ D5.out).mono ?_); rintro e w7 ⟨rfl, hg⟩; have D6 := Lib.hid (D5.out.grows hg); have P := put_new w7 Z HZ.out 40 cs hl; have HP := Lib.hid P; have GE := Lib.hid (grew_trans D6.out.grew P.2.2.1); have c0 := P.1 0 _ b0; have c1 := P.1 1 _ b1; have c2 := P.1 2 _ b2; clear P hg))
    | (refine wpList_store_mid (by rfl) 40 _ _ (by rfl) w7.heap.size 0 cs.toArray (by rfl) (by rfl) (by simpa [hl] using HP.out.2.1) (size40 (by simpa using hl.symm)) hone.out ?_))
  generalize (w7.alloc (.cells Z 40)).setCells w7.heap.size 0 cs = w8 at *
  rw [Nat.zero_add] at c0 c1 c2
  go_wp2
  go_ret
  exact ⟨rfl, GE.out⟩
end Go.Proofs.Ytgaopkfdbglnmaa.NumK
