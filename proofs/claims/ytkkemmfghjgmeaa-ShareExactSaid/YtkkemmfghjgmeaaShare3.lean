/- Contract of package share: greatestFirst. -/
import Derived.Test.YtkkemmfghjgmeaaShare2
import Derived.Test.YtkkemmfghjgmeaaRowI
import Derived.Shelf.Abstract
namespace Go.Proofs.Ytkkemmfghjgmeaa.NumK
open Go.RowKit Go.Shelf

/-- Places by f, in new memory. -/
def GfPost (f : Nat → Int) (n : Nat) (w : World) (e : Ending) (w' : World) : Prop :=
  ∃ B s t, e = .returned (.slice (some ⟨B, 0, none⟩) n n) ∧ w.heap.size ≤ B ∧ RowW w' B n s ∧ Pl f n s t ∧ Grew w w'

set_option maxRecDepth 100000 in
set_option maxHeartbeats 1000000 in
theorem greatestFirst_any (A : Option Addr) (n c : Nat) (xs : List Int) (w : World) (hz : Wides w A n xs) (hA : ∀ a, A = some a → a.block < w.heap.size) (hn : n ≤ 1000000) :
    Calls Try.prog 27 #[.slice A n c] w (GfPost (fun k => xs.getD k 0) n w) := by
  have HZ := Lib.hid hz
  have HA := Lib.hid hA
  clear hz hA
  have hmk := fun w => run_ints w n hn
  go_enter Try.func27, Try.ntmps27
  go_wp2_with fail
  clear hmk
  have HR : Hid (RowI ((w.alloc (.cells #[.slice A n c] 35)).alloc (.cells (madeCells #[.int .i64 0] n) 3)) (w.heap.size + 1) n (fun _ => 0)) := by
    have := RowI.made (w.alloc (.cells #[.slice A n c] 35)) 3 n
    simp only [World.size_alloc] at this
    exact this
  have HB : Hid (((w.alloc (.cells #[.slice A n c] 35)).alloc (.cells (madeCells #[.int .i64 0] n) 3)).cell? ⟨w.heap.size, 0, none⟩ = some (.slice A n c)) := by
    show _ = _
    rw [World.cell?_alloc_past _ _ _ (by simp), World.cell?_alloc_at _ _ _ _ rfl]; rfl
  have HG : Hid (Grew w ((w.alloc (.cells #[.slice A n c] 35)).alloc (.cells (madeCells #[.int .i64 0] n) 3))) := grew_al (grew_al (grew_refl _) _) _
  generalize hw1 : (w.alloc (.cells #[.slice A n c] 35)).alloc (.cells (madeCells #[.int .i64 0] n) 3) = w1 at HR HB HG ⊢
  clear hw1
  generalize hN : w.heap.size = N at HR HB ⊢
  have HN := Lib.hid hN
  clear hN
  go_loopw [10, 4] (fun vi v4 wr => ∃ k : Nat, vi = .int .i64 k ∧ k ≤ n ∧ Hid (RowI wr (N + 1) n (fun j => if j < k then (j : Int) else 0)) ∧ Hid (Turn (N + 1) w1 wr)) (fun vi _ _ => n - (intOf vi).toNat)
  case atStart => exact ⟨0, rfl, Nat.zero_le _, HR.out.congr (fun k _ => by rw [if_neg (by omega)]), Turn.refl _ _⟩
  case round =>
    have HR1 := HR
    clear HR
    obtain ⟨k, rfl, hk, HR, HT⟩ := hrel
    by_cases hlt : k < n
    · have HR2 : Hid (RowI (wr.setCell ⟨N + 1, k, none⟩ (.int .i64 k)) (N + 1) n (fun j => if j < k + 1 then (j : Int) else 0)) := (HR.out.set k k).congr (fun j _ => by
        by_cases c1 : j = k
        · rw [if_pos c1, if_pos (by omega), c1]
        · rw [if_neg c1]
          by_cases c2 : j < k
          · rw [if_pos c2, if_pos (by omega)]
          · rw [if_neg c2, if_neg (by omega)])
      have HT2 : Hid (Turn (N + 1) w1 (wr.setCell ⟨N + 1, k, none⟩ (.int .i64 k))) := HT.out.setCell _ _
      have m1 := (HR.out.2 k hlt).1
      have m2 := (HR.out.2 k hlt).2
      go_wp2
      go_roundw
      case rel => exact ⟨k + 1, by go_num, by omega, HR2, HT2⟩
      case measure => simp only [intOf]; omega
    · obtain rfl : k = n := by omega
      have HRW : Hid (RowW wr (N + 1) k (fun j => j)) := HR.out.toW (fun j hj => by rw [if_pos hj])
      have hbx : wr.cell? ⟨N, 0, none⟩ = some (.slice A k c) := (HT.out.cell (p := ⟨N, 0, none⟩) (by have := HR1.out.1; show N < _; omega) (by simp)).trans HB.out
      have hNs : N + 1 < wr.heap.size := HRW.out.1
      have hzr : Wides wr A k xs := by
        refine ⟨HZ.out.1, fun h => ?_⟩
        obtain ⟨b, o, rfl, hb, hc⟩ := (HZ.out.keep HG.out).2 h
        have hbb := HA.out _ rfl
        have hne : b ≠ N + 1 := by have := HN.out; simp at hbb; omega
        exact ⟨b, o, rfl, Nat.lt_of_lt_of_le hb HT.out.size, fun j hj => ⟨(HT.out.cell (p := ⟨b, o + j * 2, none⟩) hb hne).trans (hc j hj).1, (HT.out.cell (p := ⟨b, o + j * 2 + 1, none⟩) hb hne).trans (hc j hj).2⟩⟩
      have hC := gfCmpOK A k c N (N + 1) xs wr hbx (by omega) (by omega) hzr (fun a ha => by have := HA.out a ha; have := HN.out; omega) hn
      have CS := sortStable_any 45 #[.pointer (some ⟨N, 0, none⟩)] _ _ (N + 1) k k wr wr (enters_of Try.func45 (by kernel_rfl) rfl) hC (Turn.refl _ _) HRW.out hn
      have CS := Lib.hid CS
      clear hC hzr hbx HR HB
      go_wp2_with (go_at_call 44; ((with_reducible refine CS.out.mono ?_); rintro r w2 hP; have HP := Lib.hid hP; clear hP; obtain ⟨rfl, hP2⟩ := HP.out; have HP2 := Lib.hid hP2; clear hP2 HP))
      go_ret
      obtain ⟨e, M, S, R, T⟩ := HP2.out
      obtain ⟨t, ht⟩ := pl_of M S
      exact ⟨N + 1, e, t, rfl, by have := HN.out; omega, R, ht, Turn.new HG.out (HT.out.trans T) (by have := HN.out; omega)⟩
end Go.Proofs.Ytkkemmfghjgmeaa.NumK
