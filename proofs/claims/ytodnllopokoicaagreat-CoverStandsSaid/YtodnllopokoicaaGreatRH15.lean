/- Contracts of package wide: Int. -/
import Derived.Test.YtodnllopokoicaaGreatRH3
import Derived.Test.YtodnllopokoicaaGreatRH1
import Derived.Deep.RegionHeld3
import Derived.Deep.RegionWith
import Derived.Test.YtodnllopokoicaaGreatRH2
import Derived.Test.YtodnllopokoicaaGreatRH14
import Derived.Test.YtodnllopokoicaaGreatRH9
import Derived.BigQuiet
namespace Go.Proofs.YtodnllopokoicaaGreat.NumK
open Go.RowKit

theorem right1 (n : Int) (b : Bool) (h : isMoney n = b) (w : World) :
    Calls Tryz.prog 71 #[.slice (some ⟨w.heap.size, 0, none⟩) 1 1] (w.alloc (.cells #[.int .i64 n] 3)).drew fun e w' => e = .returned (.bool b) ∧ (w.alloc (.cells #[.int .i64 n] 3)).drew = w' := by
  have C := right_any (some ⟨w.heap.size, 0, none⟩) 1 1 [n] _ ((ints1 w n 3).keep (grew_drew (grew_refl _))) (by omega)
  have e : [n].all isMoney = b := by simp [h]
  rw [e] at C
  exact C

set_option maxHeartbeats 1000000 in
theorem wint_money (x : Int) (w : World) (h : isMoney x = true) :
    Calls Tryz.prog 96 #[(.agg #[.int .i64 (hi64 (x)), .int .u64 (lo64 (x))])] w fun e w' => e = .returned (.tuple #[.int .i64 (capV x), .int .i64 (capE x)]) ∧ Grew w w' := by
  have hx := (isMoney_iff x).1 h
  have b1 := lo_bounds x
  have L : wrap64 (lo64 x) = x := by unfold wrap64 lo64; omega
  have C1 := fun w => sign_any x w (by omega)
  rw [hi_of x (by omega)] at C1
  have C2 := right1 x true h
  have E1 := Lib.hid (capV_in h)
  have E2 := Lib.hid (capE_in h)
  clear h hx b1
  generalize hi64 x = hh at *
  generalize lo64 x = l at *
  go_enter Tryz.func96, Tryz.ntmps96
  go_wp2
  have h0 : (w.alloc (.cells #[.int .i64 hh, .int .u64 l] 101)).cell? ⟨w.heap.size, 0, none⟩ = some (.int .i64 hh) ∧ (w.alloc (.cells #[.int .i64 hh, .int .u64 l] 101)).cell? ⟨w.heap.size, 1, none⟩ = some (.int .u64 l) ∧ w.heap.size < (w.alloc (.cells #[.int .i64 hh, .int .u64 l] 101)).heap.size ∧ Grew w (w.alloc (.cells #[.int .i64 hh, .int .u64 l] 101)) := ⟨by simp, by simp, by simp, grew_alloc _ _ _⟩
  generalize w.alloc (.cells #[.int .i64 hh, .int .u64 l] 101) = w0 at h0 ⊢
  obtain ⟨h1, h2, h3, h4⟩ := h0
  go_region_held3 (fun w' => w'.cell? ⟨w.heap.size, 0, none⟩ = some (.int .i64 hh) ∧ w'.cell? ⟨w.heap.size, 1, none⟩ = some (.int .u64 l) ∧ w.heap.size < w'.heap.size ∧ Grew w w')
    (first
      | (exact keep2 (grew_drew (grew_refl _)) h1 h2 h3 h4)
      | (exact keep2 (grew_drew (grew_alloc _ _ _)) h1 h2 h3 h4)
      | (trace_state; fail))
    (first
      | (go_at_call 133; refine (C1 _).mono ?_; rintro e w1 ⟨rfl, rfl⟩)
      | (go_at_call 71; refine (C2 _).mono ?_; rintro e w2 ⟨rfl, rfl⟩))
  rename_i hS
  go_wp2
  go_ret2
  exact ⟨ret2 E1.out.symm E2.out.symm, hS.2.2.2⟩
set_option maxHeartbeats 1000000 in
theorem wint_near (x : Int) (w : World) (h : isMoney x = false) (L : wrap64 (lo64 x) = x) :
    Calls Tryz.prog 96 #[(.agg #[.int .i64 (hi64 (x)), .int .u64 (lo64 (x))])] w fun e w' => e = .returned (.tuple #[.int .i64 (capV x), .int .i64 (capE x)]) ∧ Grew w w' := by
  have b1 := lo_bounds x
  have bn : -9223372036854775808 ≤ wrap64 (lo64 x) ∧ wrap64 (lo64 x) ≤ 9223372036854775807 := by unfold wrap64; omega
  rw [L] at bn
  have C1 := fun w => sign_any x w bn
  rw [hi_of x bn] at C1
  have C2 := right1 x false h
  have E1 := Lib.hid (capV_out h)
  have E2 := Lib.hid (capE_out h)
  clear h b1
  generalize hi64 x = hh at *
  generalize lo64 x = l at *
  go_enter Tryz.func96, Tryz.ntmps96
  go_wp2
  have h0 : (w.alloc (.cells #[.int .i64 hh, .int .u64 l] 101)).cell? ⟨w.heap.size, 0, none⟩ = some (.int .i64 hh) ∧ (w.alloc (.cells #[.int .i64 hh, .int .u64 l] 101)).cell? ⟨w.heap.size, 1, none⟩ = some (.int .u64 l) ∧ w.heap.size < (w.alloc (.cells #[.int .i64 hh, .int .u64 l] 101)).heap.size ∧ Grew w (w.alloc (.cells #[.int .i64 hh, .int .u64 l] 101)) := ⟨by simp, by simp, by simp, grew_alloc _ _ _⟩
  generalize w.alloc (.cells #[.int .i64 hh, .int .u64 l] 101) = w0 at h0 ⊢
  obtain ⟨h1, h2, h3, h4⟩ := h0
  go_region_held3 (fun w' => w'.cell? ⟨w.heap.size, 0, none⟩ = some (.int .i64 hh) ∧ w'.cell? ⟨w.heap.size, 1, none⟩ = some (.int .u64 l) ∧ w.heap.size < w'.heap.size ∧ Grew w w')
    (first
      | (exact keep2 (grew_drew (grew_refl _)) h1 h2 h3 h4)
      | (exact keep2 (grew_drew (grew_alloc _ _ _)) h1 h2 h3 h4)
      | (trace_state; fail))
    (first
      | (go_at_call 133; refine (C1 _).mono ?_; rintro e w1 ⟨rfl, rfl⟩)
      | (go_at_call 71; refine (C2 _).mono ?_; rintro e w2 ⟨rfl, rfl⟩))
  rename_i hS
  go_wp2
  go_ret2
  exact ⟨ret2 E1.out.symm E2.out.symm, hS.2.2.2⟩

set_option maxHeartbeats 1000000 in
theorem wint_far (x : Int) (w : World) (h : isMoney x = false) (hf : hi64 (wrap64 (lo64 x)) ≠ hi64 x) :
    Calls Tryz.prog 96 #[(.agg #[.int .i64 (hi64 (x)), .int .u64 (lo64 (x))])] w fun e w' => e = .returned (.tuple #[.int .i64 (capV x), .int .i64 (capE x)]) ∧ Grew w w' := by
  have b1 := lo_bounds x
  have bn : -9223372036854775808 ≤ wrap64 (lo64 x) ∧ wrap64 (lo64 x) ≤ 9223372036854775807 := by unfold wrap64; omega
  have C1 := fun w => sign_any (wrap64 (lo64 x)) w bn
  rw [hi_of _ bn] at C1
  have E1 := Lib.hid (capV_out h)
  have E2 := Lib.hid (capE_out h)
  have d1 : (hi64 x == hi64 (wrap64 (lo64 x))) = false := by simpa using (Ne.symm hf)
  have d2 : (hi64 x != hi64 (wrap64 (lo64 x))) = true := by simpa using (Ne.symm hf)
  clear h b1 hf
  generalize hi64 (wrap64 (lo64 x)) = hn at *
  generalize hi64 x = hh at *
  generalize lo64 x = l at *
  go_enter Tryz.func96, Tryz.ntmps96
  go_wp2
  first
  | (go_region_with (first
      | (go_at_call 133; refine (C1 _).mono ?_; rintro e w1 ⟨rfl, rfl⟩)))
  | fail
  all_goals
    go_wp2
    go_ret2
    exact ⟨ret2 E1.out.symm E2.out.symm, grew_drew (grew_alloc _ _ _)⟩

theorem wint_any (x : Int) (w : World) :
    Calls Tryz.prog 96 #[(.agg #[.int .i64 (hi64 (x)), .int .u64 (lo64 (x))])] w fun e w' => e = .returned (.tuple #[.int .i64 (capV x), .int .i64 (capE x)]) ∧ Grew w w' := by
  by_cases h : isMoney x = true
  · exact wint_money x w h
  · simp only [Bool.not_eq_true] at h
    by_cases hf : hi64 (wrap64 (lo64 x)) = hi64 x
    · refine wint_near x w h ?_
      have b1 := lo_bounds x
      have e1 := w_eq x
      have e2 := w_eq (wrap64 (lo64 x))
      have hl : lo64 (wrap64 (lo64 x)) = lo64 x := by unfold wrap64 lo64; omega
      rw [hf, hl] at e2
      omega
    · exact wint_far x w h hf
end Go.Proofs.YtodnllopokoicaaGreat.NumK
namespace Go.Proofs.YtodnllopokoicaaGreat.NumK
open Go.RowKit
set_option linter.unusedVariables false


/-- A sum of two wide numbers, as a statement on cells. -/
theorem wsum2_any (x y z a1 a2 b1 b2 d1 d2 : Int) (w w' : World) (N : Nat) (hN : w.heap.size = N) (g : Grew (w.alloc (.cells #[.int .i64 a1, .int .u64 a2, .int .i64 b1, .int .u64 b2] 101)) w') (hx : isWide x = true) (hy : isWide y = true) (hs : isWide z = true) (hz : x + y = z) (ha1 : hi64 x = a1) (ha2 : lo64 x = a2) (hb1 : hi64 y = b1) (hb2 : lo64 y = b2) (hd1 : hi64 z = d1) (hd2 : lo64 z = d2) :
    Calls Tryz.prog 94 #[.slice (some ⟨N, 0, none⟩) 2 2] w' fun e w'' => e = .returned (.tuple #[.agg #[.int .i64 d1, .int .u64 d2], .int .i64 0]) ∧ Grew w' w'' := by
  subst hz ha1 ha2 hb1 hb2 hd1 hd2
  have C := wsum_any (some ⟨N, 0, none⟩) 2 2 [x, y] _ ((wides2 w x y 101 N hN).keep g) (by simp [hx, hy]) (by omega)
  have e : [x, y].sum = x + y := by simp
  rw [e, wsV, if_pos hs, wideE, if_pos hs] at C
  exact C

end Go.Proofs.YtodnllopokoicaaGreat.NumK
namespace Go.Proofs.YtodnllopokoicaaGreat.NumK
open Go.RowKit
set_option linter.unusedVariables false

def LegsPost (t : Tr) (back : Bool) (w : World) (e : Ending) (w' : World) : Prop :=
  ∃ A c, e = .returned (.slice A (legsT t back).length c) ∧ OwnE enPo w' w.heap.size 111 (.slice A (legsT t back).length c) (legsT t back) ∧ Grew w w'
end Go.Proofs.YtodnllopokoicaaGreat.NumK
namespace Go.Proofs.YtodnllopokoicaaGreat.NumK
open Go.RowKit
set_option linter.unusedVariables false

theorem keepKey_yes (a b : Int) (w : World) : Calls Tryz.prog 107 #[.agg #[.int .i64 a, .int .i64 b], .agg #[.int .i64 a, .int .i64 b]] w fun e w' => e = .returned (.bool true) ∧ Grew w w' := by
  go_enter Tryz.func107, Tryz.ntmps107
  go_wp2
  go_ret
  exact ⟨rfl, grew_trans (grew_alloc _ _ _) (grew_alloc _ _ _)⟩
set_option maxRecDepth 100000 in
theorem keepPos_yes (x : Po) (w : World) : Calls Tryz.prog 137 #[vPo x, vPo x] w fun e w' => e = .returned (.bool true) ∧ Grew w w' := by
  obtain ⟨q1, q2, q3, q4⟩ := x
  dsimp only [vPo]
  have CK := fun w => keepKey_yes q1 q2 w
  have HX0 : Hid (OwnC ((w.alloc (.cells #[.int .i64 q1, .int .i64 q2, .int .i64 q3, .int .i64 q4] 111)).alloc (.cells #[.int .i64 q1, .int .i64 q2, .int .i64 q3, .int .i64 q4] 111)) w.heap.size [.int .i64 q1, .int .i64 q2, .int .i64 q3, .int .i64 q4]) := (OwnC.new w [.int .i64 q1, .int .i64 q2, .int .i64 q3, .int .i64 q4] _ _ rfl).keep (grew_alloc _ _ _)
  have HY0 : Hid (OwnC ((w.alloc (.cells #[.int .i64 q1, .int .i64 q2, .int .i64 q3, .int .i64 q4] 111)).alloc (.cells #[.int .i64 q1, .int .i64 q2, .int .i64 q3, .int .i64 q4] 111)) (w.heap.size + 1) [.int .i64 q1, .int .i64 q2, .int .i64 q3, .int .i64 q4]) := OwnC.new _ [.int .i64 q1, .int .i64 q2, .int .i64 q3, .int .i64 q4] _ _ (by simp)
  go_enter Tryz.func137, Tryz.ntmps137
  go_wp2_with (go_at_call 107; ((with_reducible refine (CK _).mono ?_); rintro e w1 ⟨rfl, hg⟩; have HX := Lib.hid (HX0.out.keep hg); have HY := Lib.hid (HY0.out.keep hg); have HG : Hid (Grew w w1) := grew_trans (grew_trans (grew_alloc _ _ _) (grew_alloc _ _ _)) hg; have x2 : w1.cell? ⟨w.heap.size, 2, none⟩ = some (.int .i64 q3) := HX.out.at 2 _ rfl; have x3 : w1.cell? ⟨w.heap.size, 3, none⟩ = some (.int .i64 q4) := HX.out.at 3 _ rfl; have y2 : w1.cell? ⟨w.heap.size + 1, 2, none⟩ = some (.int .i64 q3) := HY.out.at 2 _ rfl; have y3 : w1.cell? ⟨w.heap.size + 1, 3, none⟩ = some (.int .i64 q4) := HY.out.at 3 _ rfl; clear hg HX0 HY0))
  go_ret
  exact ⟨rfl, HG.out⟩
set_option maxRecDepth 100000 in
set_option maxHeartbeats 1000000 in
theorem keepPoss_yes (A B : Option Addr) (n c d : Nat) (l : List Po) (w : World) (h : RowE enPo w A n l) (h2 : RowE enPo w B n l) (hn : n ≤ 1000000) :
    Calls Tryz.prog 105 #[.slice A n c, .slice B n d] w fun e w' => e = .returned (.bool true) ∧ Grew w w' := by
  have HI := Lib.hid h
  have HJ := Lib.hid h2
  clear h h2
  go_enter Tryz.func105, Tryz.ntmps105
  go_wp2
  go_loopw [5] (fun v wr => ∃ j : Nat, v = .int .i64 j ∧ j ≤ n ∧ Hid (Grew w wr)) (fun v _ => n - (intOf v).toNat)
  case atStart => exact ⟨0, rfl, by omega, grew_refl _⟩
  case round =>
    obtain ⟨j, rfl, hj, HG⟩ := hrel
    by_cases hlt : j < n
    · obtain ⟨b, o, rfl, hb, hc⟩ := (HI.out.keep HG.out).po hlt
      obtain ⟨b2, o2, rfl, hb2, hc2⟩ := (HJ.out.keep HG.out).po hlt
      obtain ⟨a0, a1, a2, a3⟩ := hc j hlt
      obtain ⟨e0, e1, e2, e3⟩ := hc2 j hlt
      clear hc hc2
      have i0 : (0 : Int) ≤ (j : Int) := by omega
      have i1 : (j : Int) < (n : Int) := by omega
      have CK := fun w => keepPos_yes (l.getD j po0) w
      generalize l.getD j po0 = x at *
      obtain ⟨q1, q2, q3, q4⟩ := x
      dsimp only at a0 a1 a2 a3  e0 e1 e2 e3 
      dsimp only [vPo] at CK
      have x0 : ∀ p : GrewTo wr, p.to.cell? ⟨b, o + j * 4, none⟩ = _ := fun p => (grew_cell p.h (p := ⟨b, _, none⟩) hb).trans a0; have x1 : ∀ p : GrewTo wr, p.to.cell? ⟨b, o + j * 4 + 1, none⟩ = _ := fun p => (grew_cell p.h (p := ⟨b, _, none⟩) hb).trans a1; have x2 : ∀ p : GrewTo wr, p.to.cell? ⟨b, o + j * 4 + 2, none⟩ = _ := fun p => (grew_cell p.h (p := ⟨b, _, none⟩) hb).trans a2; have x3 : ∀ p : GrewTo wr, p.to.cell? ⟨b, o + j * 4 + 3, none⟩ = _ := fun p => (grew_cell p.h (p := ⟨b, _, none⟩) hb).trans a3
      have y0 : ∀ p : GrewTo wr, p.to.cell? ⟨b2, o2 + j * 4, none⟩ = _ := fun p => (grew_cell p.h (p := ⟨b2, _, none⟩) hb2).trans e0; have y1 : ∀ p : GrewTo wr, p.to.cell? ⟨b2, o2 + j * 4 + 1, none⟩ = _ := fun p => (grew_cell p.h (p := ⟨b2, _, none⟩) hb2).trans e1; have y2 : ∀ p : GrewTo wr, p.to.cell? ⟨b2, o2 + j * 4 + 2, none⟩ = _ := fun p => (grew_cell p.h (p := ⟨b2, _, none⟩) hb2).trans e2; have y3 : ∀ p : GrewTo wr, p.to.cell? ⟨b2, o2 + j * 4 + 3, none⟩ = _ := fun p => (grew_cell p.h (p := ⟨b2, _, none⟩) hb2).trans e3
      clear a0 a1 a2 a3  e0 e1 e2 e3  hb hb2
      go_wp2_with fail
      refine wp_region_grew (by kernel_rfl) (by kernel_rfl) ?_
      repeat (go_big_quiet_step (with_reducible exact calls_grew (CK _)))
      refine wpQuiet_nil ?_
      intro w5 hw'
      have HG5 := Lib.hid (grew_of hw')
      clear hw' x0 x1 x2 x3  y0 y1 y2 y3 
      go_wp2
      go_roundw
      case rel => exact ⟨j + 1, by go_num, by omega, grew_trans HG.out HG5.out⟩
      case measure => simp only [intOf]; omega
    · obtain rfl : j = n := by omega
      go_wp2
      go_ret
      exact ⟨rfl, HG.out⟩

end Go.Proofs.YtodnllopokoicaaGreat.NumK
