/- Contracts of package wide: Int. -/
import Derived.Test.YtodnllopokoicaaGreatRG3
import Derived.Test.YtodnllopokoicaaGreatRG1
import Derived.Deep.RegionHeld3
import Derived.Deep.RegionWith
import Derived.Test.YtodnllopokoicaaGreatRG2
import Derived.Test.YtodnllopokoicaaGreatRG14
import Derived.Test.YtodnllopokoicaaGreatRG9
import Derived.BigQuiet
namespace Go.Proofs.YtodnllopokoicaaGreat.NumK
open Go.RowKit

theorem right1 (n : Int) (b : Bool) (h : isMoney n = b) (w : World) :
    Calls Tryz.prog 71 #[.slice (some ⟨w.heap.size, 0, none⟩) 1 1] (w.alloc (.cells #[.int .i64 n] 3)).drew fun e w' => e = .returned (.bool b) ∧ (w.alloc (.cells #[.int .i64 n] 3)).drew = w' := by
  have C := right_any (some ⟨w.heap.size, 0, none⟩) 1 1 [n] _ ((ints1 w n 3).keep (grew_drew (grew_refl _))) (by omega)
  have e : [n].all isMoney = b := by simp [h]
  rw [e] at C
  exact C

set_option maxHeartbeats 1000000 in
theorem wint_money (x : Int) (w : World) (h : isMoney x = true) :
    Calls Tryz.prog 96 #[(.agg #[.int .i64 (hi64 (x)), .int .u64 (lo64 (x))])] w fun e w' => e = .returned (.tuple #[.int .i64 (capV x), .int .i64 (capE x)]) ∧ Grew w w' := by
  have hx := (isMoney_iff x).1 h
  have b1 := lo_bounds x
  have L : wrap64 (lo64 x) = x := by unfold wrap64 lo64; omega
  have C1 := fun w => sign_any x w (by omega)
  rw [hi_of x (by omega)] at C1
  have C2 := right1 x true h
  have E1 := Lib.hid (capV_in h)
  have E2 := Lib.hid (capE_in h)
  clear h hx b1
  generalize hi64 x = hh at *
  generalize lo64 x = l at *
  go_enter Tryz.func96, Tryz.ntmps96
  go_wp2
  have h0 : (w.alloc (.cells #[.int .i64 hh, .int .u64 l] 101)).cell? ⟨w.heap.size, 0, none⟩ = some (.int .i64 hh) ∧ (w.alloc (.cells #[.int .i64 hh, .int .u64 l] 101)).cell? ⟨w.heap.size, 1, none⟩ = some (.int .u64 l) ∧ w.heap.size < (w.alloc (.cells #[.int .i64 hh, .int .u64 l] 101)).heap.size ∧ Grew w (w.alloc (.cells #[.int .i64 hh, .int .u64 l] 101)) := ⟨by simp, by simp, by simp, grew_alloc _ _ _⟩
  generalize w.alloc (.cells #[.int .i64 hh, .int .u64 l] 101) = w0 at h0 ⊢
  obtain ⟨h1, h2, h3, h4⟩ := h0
  go_region_held3 (fun w' => w'.cell? ⟨w.heap.size, 0, none⟩ = some (.int .i64 hh) ∧ w'.cell? ⟨w.heap.size, 1, none⟩ = some (.int .u64 l) ∧ w.heap.size < w'.heap.size ∧ Grew w w')
    (first
      | (exact keep2 (grew_drew (grew_refl _)) h1 h2 h3 h4)
      | (exact keep2 (grew_drew (grew_alloc _ _ _)) h1 h2 h3 h4)
      | (trace_state; fail))
    (first
      | (go_at_call 133; refine (C1 _).mono ?_; rintro e w1 ⟨rfl, rfl⟩)
      | (go_at_call 71; refine (C2 _).mono ?_; rintro e w2 ⟨rfl, rfl⟩))
  rename_i hS
  go_wp2
  go_ret2
  exact ⟨ret2 E1.out.symm E2.out.symm, hS.2.2.2⟩
set_option maxHeartbeats 1000000 in
theorem wint_near (x : Int) (w : World) (h : isMoney x = false) (L : wrap64 (lo64 x) = x) :
    Calls Tryz.prog 96 #[(.agg #[.int .i64 (hi64 (x)), .int .u64 (lo64 (x))])] w fun e w' => e = .returned (.tuple #[.int .i64 (capV x), .int .i64 (capE x)]) ∧ Grew w w' := by
  have b1 := lo_bounds x
  have bn : -9223372036854775808 ≤ wrap64 (lo64 x) ∧ wrap64 (lo64 x) ≤ 9223372036854775807 := by unfold wrap64; omega
  rw [L] at bn
  have C1 := fun w => sign_any x w bn
  rw [hi_of x bn] at C1
  have C2 := right1 x false h
  have E1 := Lib.hid (capV_out h)
  have E2 := Lib.hid (capE_out h)
  clear h b1
  generalize hi64 x = hh at *
  generalize lo64 x = l at *
  go_enter Tryz.func96, Tryz.ntmps96
  go_wp2
  have h0 : (w.alloc (.cells #[.int .i64 hh, .int .u64 l] 101)).cell? ⟨w.heap.size, 0, none⟩ = some (.int .i64 hh) ∧ (w.alloc (.cells #[.int .i64 hh, .int .u64 l] 101)).cell? ⟨w.heap.size, 1, none⟩ = some (.int .u64 l) ∧ w.heap.size < (w.alloc (.cells #[.int .i64 hh, .int .u64 l] 101)).heap.size ∧ Grew w (w.alloc (.cells #[.int .i64 hh, .int .u64 l] 101)) := ⟨by simp, by simp, by simp, grew_alloc _ _ _⟩
  generalize w.alloc (.cells #[.int .i64 hh, .int .u64 l] 101) = w0 at h0 ⊢
  obtain ⟨h1, h2, h3, h4⟩ := h0
  go_region_held3 (fun w' => w'.cell? ⟨w.heap.size, 0, none⟩ = some (.int .i64 hh) ∧ w'.cell? ⟨w.heap.size, 1, none⟩ = some (.int .u64 l) ∧ w.heap.size < w'.heap.size ∧ Grew w w')
    (first
      | (exact keep2 (grew_drew (grew_refl _)) h1 h2 h3 h4)
      | (exact keep2 (grew_drew (grew_alloc _ _ _)) h1 h2 h3 h4)
      | (trace_state; fail))
    (first
      | (go_at_call 133; refine (C1 _).mono ?_; rintro e w1 ⟨rfl, rfl⟩)
      | (go_at_call 71; refine (C2 _).mono ?_; rintro e w2 ⟨rfl, rfl⟩))
  rename_i hS
  go_wp2
  go_ret2
  exact ⟨ret2 E1.out.symm E2.out.symm, hS.2.2.2⟩

set_option maxHeartbeats 1000000 in
theorem wint_far (x : Int) (w : World) (h : isMoney x = false) (hf : hi64 (wrap64 (lo64 x)) ≠ hi64 x) :
    Calls Tryz.prog 96 #[(.agg #[.int .i64 (hi64 (x)), .int .u64 (lo64 (x))])] w fun e w' => e = .returned (.tuple #[.int .i64 (capV x), .int .i64 (capE x)]) ∧ Grew w w' := by
  have b1 := lo_bounds x
  have bn : -9223372036854775808 ≤ wrap64 (lo64 x) ∧ wrap64 (lo64 x) ≤ 9223372036854775807 := by unfold wrap64; omega
  have C1 := fun w => sign_any (wrap64 (lo64 x)) w bn
  rw [hi_of _ bn] at C1
  have E1 := Lib.hid (capV_out h)
  have E2 := Lib.hid (capE_out h)
  have d1 : (hi64 x == hi64 (wrap64 (lo64 x))) = false := by simpa using (Ne.symm hf)
  have d2 : (hi64 x != hi64 (wrap64 (lo64 x))) = true := by simpa using (Ne.symm hf)
  clear h b1 hf
  generalize hi64 (wrap64 (lo64 x)) = hn at *
  generalize hi64 x = hh at *
  generalize lo64 x = l at *
  go_enter Tryz.func96, Tryz.ntmps96
  go_wp2
  first
  | (go_region_with (first
      | (go_at_call 133; refine (C1 _).mono ?_; rintro e w1 ⟨rfl, rfl⟩)))
  | fail
  all_goals
    go_wp2
    go_ret2
    exact ⟨ret2 E1.out.symm E2.out.symm, grew_drew (grew_alloc _ _ _)⟩

theorem wint_any (x : Int) (w : World) :
    Calls Tryz.prog 96 #[(.agg #[.int .i64 (hi64 (x)), .int .u64 (lo64 (x))])] w fun e w' => e = .returned (.tuple #[.int .i64 (capV x), .int .i64 (capE x)]) ∧ Grew w w' := by
  by_cases h : isMoney x = true
  · exact wint_money x w h
  · simp only [Bool.not_eq_true] at h
    by_cases hf : hi64 (wrap64 (lo64 x)) = hi64 x
    · refine wint_near x w h ?_
      have b1 := lo_bounds x
      have e1 := w_eq x
      have e2 := w_eq (wrap64 (lo64 x))
      have hl : lo64 (wrap64 (lo64 x)) = lo64 x := by unfold wrap64 lo64; omega
      rw [hf, hl] at e2
      omega
    · exact wint_far x w h hf
end Go.Proofs.YtodnllopokoicaaGreat.NumK
namespace Go.Proofs.YtodnllopokoicaaGreat.NumK
open Go.RowKit
set_option linter.unusedVariables false


/-- A sum of two wide numbers, as a statement on cells. -/
theorem wsum2_any (x y z a1 a2 b1 b2 d1 d2 : Int) (w w' : World) (N : Nat) (hN : w.heap.size = N) (g : Grew (w.alloc (.cells #[.int .i64 a1, .int .u64 a2, .int .i64 b1, .int .u64 b2] 101)) w') (hx : isWide x = true) (hy : isWide y = true) (hs : isWide z = true) (hz : x + y = z) (ha1 : hi64 x = a1) (ha2 : lo64 x = a2) (hb1 : hi64 y = b1) (hb2 : lo64 y = b2) (hd1 : hi64 z = d1) (hd2 : lo64 z = d2) :
    Calls Tryz.prog 94 #[.slice (some ⟨N, 0, none⟩) 2 2] w' fun e w'' => e = .returned (.tuple #[.agg #[.int .i64 d1, .int .u64 d2], .int .i64 0]) ∧ Grew w' w'' := by
  subst hz ha1 ha2 hb1 hb2 hd1 hd2
  have C := wsum_any (some ⟨N, 0, none⟩) 2 2 [x, y] _ ((wides2 w x y 101 N hN).keep g) (by simp [hx, hy]) (by omega)
  have e : [x, y].sum = x + y := by simp
  rw [e, wsV, if_pos hs, wideE, if_pos hs] at C
  exact C

end Go.Proofs.YtodnllopokoicaaGreat.NumK
namespace Go.Proofs.YtodnllopokoicaaGreat.NumK
open Go.RowKit
set_option linter.unusedVariables false

def LegsPost (t : Tr) (back : Bool) (w : World) (e : Ending) (w' : World) : Prop :=
  ∃ A c, e = .returned (.slice A (legsT t back).length c) ∧ OwnE enPo w' w.heap.size 111 (.slice A (legsT t back).length c) (legsT t back) ∧ Grew w w'
end Go.Proofs.YtodnllopokoicaaGreat.NumK
namespace Go.Proofs.YtodnllopokoicaaGreat.NumK
open Go.RowKit
set_option linter.unusedVariables false

end Go.Proofs.YtodnllopokoicaaGreat.NumK
