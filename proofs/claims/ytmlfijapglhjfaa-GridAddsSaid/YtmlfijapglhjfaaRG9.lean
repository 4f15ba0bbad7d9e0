/- Contracts of package wide: Int. -/
import Derived.Test.YtmlfijapglhjfaaRG2
import Derived.Test.YtmlfijapglhjfaaRG1
import Derived.Deep.RegionHeld3
import Derived.Deep.RegionWith
import Derived.Test.YtmlfijapglhjfaaRG8
import Derived.Test.YtmlfijapglhjfaaRG4
import Derived.Test.YtmlfijapglhjfaaRG3
import Derived.BigQuiet
namespace Go.Proofs.Ytmlfijapglhjfaa.NumK
open Go.RowKit

theorem right1 (n : Int) (b : Bool) (h : isMoney n = b) (w : World) :
    Calls Try.prog 53 #[.slice (some ⟨w.heap.size, 0, none⟩) 1 1] (w.alloc (.cells #[.int .i64 n] 3)).drew fun e w' => e = .returned (.bool b) ∧ (w.alloc (.cells #[.int .i64 n] 3)).drew = w' := by
  have C := right_any (some ⟨w.heap.size, 0, none⟩) 1 1 [n] _ ((ints1 w n 3).keep (grew_drew (grew_refl _))) (by omega)
  have e : [n].all isMoney = b := by simp [h]
  rw [e] at C
  exact C

set_option maxHeartbeats 1000000 in
theorem wint_money (x : Int) (w : World) (h : isMoney x = true) :
    Calls Try.prog 24 #[(.agg #[.int .i64 (hi64 (x)), .int .u64 (lo64 (x))])] w fun e w' => e = .returned (.tuple #[.int .i64 (capV x), .int .i64 (capE x)]) ∧ Grew w w' := by
  have hx := (isMoney_iff x).1 h
  have b1 := lo_bounds x
  have L : wrap64 (lo64 x) = x := by unfold wrap64 lo64; omega
  have C1 := fun w => sign_any x w (by omega)
  rw [hi_of x (by omega)] at C1
  have C2 := right1 x true h
  have E1 := Lib.hid (capV_in h)
  have E2 := Lib.hid (capE_in h)
  clear h hx b1
  generalize hi64 x = hh at *
  generalize lo64 x = l at *
  go_enter Try.func24, Try.ntmps24
  go_wp2
  have h0 : (w.alloc (.cells #[.int .i64 hh, .int .u64 l] 56)).cell? ⟨w.heap.size, 0, none⟩ = some (.int .i64 hh) ∧ (w.alloc (.cells #[.int .i64 hh, .int .u64 l] 56)).cell? ⟨w.heap.size, 1, none⟩ = some (.int .u64 l) ∧ w.heap.size < (w.alloc (.cells #[.int .i64 hh, .int .u64 l] 56)).heap.size ∧ Grew w (w.alloc (.cells #[.int .i64 hh, .int .u64 l] 56)) := ⟨by simp, by simp, by simp, grew_alloc _ _ _⟩
  generalize w.alloc (.cells #[.int .i64 hh, .int .u64 l] 56) = w0 at h0 ⊢
  obtain ⟨h1, h2, h3, h4⟩ := h0
  go_region_held3 (fun w' => w'.cell? ⟨w.heap.size, 0, none⟩ = some (.int .i64 hh) ∧ w'.cell? ⟨w.heap.size, 1, none⟩ = some (.int .u64 l) ∧ w.heap.size < w'.heap.size ∧ Grew w w')
    (first
      | (exact keep2 (grew_drew (grew_refl _)) h1 h2 h3 h4)
      | (exact keep2 (grew_drew (grew_alloc _ _ _)) h1 h2 h3 h4)
      | (trace_state; fail))
    (first
      | (go_at_call 52; refine (C1 _).mono ?_; rintro e w1 ⟨rfl, rfl⟩)
      | (go_at_call 53; refine (C2 _).mono ?_; rintro e w2 ⟨rfl, rfl⟩))
  rename_i hS
  go_wp2
  go_ret2
  exact ⟨ret2 E1.out.symm E2.out.symm, hS.2.2.2⟩
set_option maxHeartbeats 1000000 in
theorem wint_near (x : Int) (w : World) (h : isMoney x = false) (L : wrap64 (lo64 x) = x) :
    Calls Try.prog 24 #[(.agg #[.int .i64 (hi64 (x)), .int .u64 (lo64 (x))])] w fun e w' => e = .returned (.tuple #[.int .i64 (capV x), .int .i64 (capE x)]) ∧ Grew w w' := by
  have b1 := lo_bounds x
  have bn : -9223372036854775808 ≤ wrap64 (lo64 x) ∧ wrap64 (lo64 x) ≤ 9223372036854775807 := by unfold wrap64; omega
  rw [L] at bn
  have C1 := fun w => sign_any x w bn
  rw [hi_of x bn] at C1
  have C2 := right1 x false h
  have E1 := Lib.hid (capV_out h)
  have E2 := Lib.hid (capE_out h)
  clear h b1
  generalize hi64 x = hh at *
  generalize lo64 x = l at *
  go_enter Try.func24, Try.ntmps24
  go_wp2
  have h0 : (w.alloc (.cells #[.int .i64 hh, .int .u64 l] 56)).cell? ⟨w.heap.size, 0, none⟩ = some (.int .i64 hh) ∧ (w.alloc (.cells #[.int .i64 hh, .int .u64 l] 56)).cell? ⟨w.heap.size, 1, none⟩ = some (.int .u64 l) ∧ w.heap.size < (w.alloc (.cells #[.int .i64 hh, .int .u64 l] 56)).heap.size ∧ Grew w (w.alloc (.cells #[.int .i64 hh, .int .u64 l] 56)) := ⟨by simp, by simp, by simp, grew_alloc _ _ _⟩
  generalize w.alloc (.cells #[.int .i64 hh, .int .u64 l] 56) = w0 at h0 ⊢
  obtain ⟨h1, h2, h3, h4⟩ := h0
  go_region_held3 (fun w' => w'.cell? ⟨w.heap.size, 0, none⟩ = some (.int .i64 hh) ∧ w'.cell? ⟨w.heap.size, 1, none⟩ = some (.int .u64 l) ∧ w.heap.size < w'.heap.size ∧ Grew w w')
    (first
      | (exact keep2 (grew_drew (grew_refl _)) h1 h2 h3 h4)
      | (exact keep2 (grew_drew (grew_alloc _ _ _)) h1 h2 h3 h4)
      | (trace_state; fail))
    (first
      | (go_at_call 52; refine (C1 _).mono ?_; rintro e w1 ⟨rfl, rfl⟩)
      | (go_at_call 53; refine (C2 _).mono ?_; rintro e w2 ⟨rfl, rfl⟩))
  rename_i hS
  go_wp2
  go_ret2
  exact ⟨ret2 E1.out.symm E2.out.symm, hS.2.2.2⟩

set_option maxHeartbeats 1000000 in
theorem wint_far (x : Int) (w : World) (h : isMoney x = false) (hf : hi64 (wrap64 (lo64 x)) ≠ hi64 x) :
    Calls Try.prog 24 #[(.agg #[.int .i64 (hi64 (x)), .int .u64 (lo64 (x))])] w fun e w' => e = .returned (.tuple #[.int .i64 (capV x), .int .i64 (capE x)]) ∧ Grew w w' := by
  have b1 := lo_bounds x
  have bn : -9223372036854775808 ≤ wrap64 (lo64 x) ∧ wrap64 (lo64 x) ≤ 9223372036854775807 := by unfold wrap64; omega
  have C1 := fun w => sign_any (wrap64 (lo64 x)) w bn
  rw [hi_of _ bn] at C1
  have E1 := Lib.hid (capV_out h)
  have E2 := Lib.hid (capE_out h)
  have d1 : (hi64 x == hi64 (wrap64 (lo64 x))) = false := by simpa using (Ne.symm hf)
  have d2 : (hi64 x != hi64 (wrap64 (lo64 x))) = true := by simpa using (Ne.symm hf)
  clear h b1 hf
  generalize hi64 (wrap64 (lo64 x)) = hn at *
  generalize hi64 x = hh at *
  generalize lo64 x = l at *
  go_enter Try.func24, Try.ntmps24
  go_wp2
  first
  | (go_region_with (first
      | (go_at_call 52; refine (C1 _).mono ?_; rintro e w1 ⟨rfl, rfl⟩)))
  | fail
  all_goals
    go_wp2
    go_ret2
    exact ⟨ret2 E1.out.symm E2.out.symm, grew_drew (grew_alloc _ _ _)⟩

theorem wint_any (x : Int) (w : World) :
    Calls Try.prog 24 #[(.agg #[.int .i64 (hi64 (x)), .int .u64 (lo64 (x))])] w fun e w' => e = .returned (.tuple #[.int .i64 (capV x), .int .i64 (capE x)]) ∧ Grew w w' := by
  by_cases h : isMoney x = true
  · exact wint_money x w h
  · simp only [Bool.not_eq_true] at h
    by_cases hf : hi64 (wrap64 (lo64 x)) = hi64 x
    · refine wint_near x w h ?_
      have b1 := lo_bounds x
      have e1 := w_eq x
      have e2 := w_eq (wrap64 (lo64 x))
      have hl : lo64 (wrap64 (lo64 x)) = lo64 x := by unfold wrap64 lo64; omega
      rw [hf, hl] at e2
      omega
    · exact wint_far x w h hf
end Go.Proofs.Ytmlfijapglhjfaa.NumK
namespace Go.Proofs.Ytmlfijapglhjfaa.NumK
open Go.RowKit
set_option linter.unusedVariables false


/-- A sum of two wide numbers, as a statement on cells. -/
theorem wsum2_any (x y z a1 a2 b1 b2 d1 d2 : Int) (w w' : World) (N : Nat) (hN : w.heap.size = N) (g : Grew (w.alloc (.cells #[.int .i64 a1, .int .u64 a2, .int .i64 b1, .int .u64 b2] 56)) w') (hx : isWide x = true) (hy : isWide y = true) (hs : isWide z = true) (hz : x + y = z) (ha1 : hi64 x = a1) (ha2 : lo64 x = a2) (hb1 : hi64 y = b1) (hb2 : lo64 y = b2) (hd1 : hi64 z = d1) (hd2 : lo64 z = d2) :
    Calls Try.prog 33 #[.slice (some ⟨N, 0, none⟩) 2 2] w' fun e w'' => e = .returned (.tuple #[.agg #[.int .i64 d1, .int .u64 d2], .int .i64 0]) ∧ Grew w' w'' := by
  subst hz ha1 ha2 hb1 hb2 hd1 hd2
  have C := wsum_any (some ⟨N, 0, none⟩) 2 2 [x, y] _ ((wides2 w x y 56 N hN).keep g) (by simp [hx, hy]) (by omega)
  have e : [x, y].sum = x + y := by simp
  rw [e, wsV, if_pos hs, wideE, if_pos hs] at C
  exact C

end Go.Proofs.Ytmlfijapglhjfaa.NumK
namespace Go.Proofs.Ytmlfijapglhjfaa.NumK
open Go.RowKit
set_option linter.unusedVariables false

def LegsPost (t : Tr) (back : Bool) (w : World) (e : Ending) (w' : World) : Prop :=
  ∃ A c, e = .returned (.slice A (legsT t back).length c) ∧ OwnE enPo w' w.heap.size 46 (.slice A (legsT t back).length c) (legsT t back) ∧ Grew w w'
end Go.Proofs.Ytmlfijapglhjfaa.NumK
namespace Go.Proofs.Ytmlfijapglhjfaa.NumK
open Go.RowKit
set_option linter.unusedVariables false

theorem keepKey_yes (a b : Int) (w : World) : Calls Try.prog 63 #[.agg #[.int .i64 a, .int .i64 b], .agg #[.int .i64 a, .int .i64 b]] w fun e w' => e = .returned (.bool true) ∧ Grew w w' := by
  go_enter Try.func63, Try.ntmps63
  go_wp2
  go_ret
  exact ⟨rfl, grew_trans (grew_alloc _ _ _) (grew_alloc _ _ _)⟩
set_option maxRecDepth 100000 in
theorem keepPos_yes (x : Po) (w : World) : Calls Try.prog 39 #[vPo x, vPo x] w fun e w' => e = .returned (.bool true) ∧ Grew w w' := by
  obtain ⟨q1, q2, q3, q4⟩ := x
  dsimp only [vPo]
  have CK := fun w => keepKey_yes q1 q2 w
  have HX0 : Hid (OwnC ((w.alloc (.cells #[.int .i64 q1, .int .i64 q2, .int .i64 q3, .int .i64 q4] 46)).alloc (.cells #[.int .i64 q1, .int .i64 q2, .int .i64 q3, .int .i64 q4] 46)) w.heap.size [.int .i64 q1, .int .i64 q2, .int .i64 q3, .int .i64 q4]) := (OwnC.new w [.int .i64 q1, .int .i64 q2, .int .i64 q3, .int .i64 q4] _ _ rfl).keep (grew_alloc _ _ _)
  have HY0 : Hid (OwnC ((w.alloc (.cells #[.int .i64 q1, .int .i64 q2, .int .i64 q3, .int .i64 q4] 46)).alloc (.cells #[.int .i64 q1, .int .i64 q2, .int .i64 q3, .int .i64 q4] 46)) (w.heap.size + 1) [.int .i64 q1, .int .i64 q2, .int .i64 q3, .int .i64 q4]) := OwnC.new _ [.int .i64 q1, .int .i64 q2, .int .i64 q3, .int .i64 q4] _ _ (by simp)
  go_enter Try.func39, Try.ntmps39
  go_wp2_with (go_at_call 63; ((with_reducible refine (CK _).mono ?_); rintro e w1 ⟨rfl, hg⟩; have HX := Lib.hid (HX0.out.keep hg); have HY := Lib.hid (HY0.out.keep hg); have HG : Hid (Grew w w1) := grew_trans (grew_trans (grew_alloc _ _ _) (grew_alloc _ _ _)) hg; have x2 : w1.cell? ⟨w.heap.size, 2, none⟩ = some (.int .i64 q3) := HX.out.at 2 _ rfl; have x3 : w1.cell? ⟨w.heap.size, 3, none⟩ = some (.int .i64 q4) := HX.out.at 3 _ rfl; have y2 : w1.cell? ⟨w.heap.size + 1, 2, none⟩ = some (.int .i64 q3) := HY.out.at 2 _ rfl; have y3 : w1.cell? ⟨w.heap.size + 1, 3, none⟩ = some (.int .i64 q4) := HY.out.at 3 _ rfl; clear hg HX0 HY0))
  go_ret
  exact ⟨rfl, HG.out⟩
set_option maxRecDepth 100000 in
set_option maxHeartbeats 1000000 in
theorem keepPoss_yes (A B : Option Addr) (n c d : Nat) (l : List Po) (w : World) (h : RowE enPo w A n l) (h2 : RowE enPo w B n l) (hn : n ≤ 1000000) :
    Calls Try.prog 16 #[.slice A n c, .slice B n d] w fun e w' => e = .returned (.bool true) ∧ Grew w w' := by
  have HI := Lib.hid h
  have HJ := Lib.hid h2
  clear h h2
  go_enter Try.func16, Try.ntmps16
  go_wp2
  go_loopw [5] (fun v wr => ∃ j : Nat, v = .int .i64 j ∧ j ≤ n ∧ Hid (Grew w wr)) (fun v _ => n - (intOf v).toNat)
  case atStart => exact ⟨0, rfl, by omega, grew_refl _⟩
  case round =>
    obtain ⟨j, rfl, hj, HG⟩ := hrel
    by_cases hlt : j < n
    · obtain ⟨b, o, rfl, hb, hc⟩ := (HI.out.keep HG.out).po hlt
      obtain ⟨b2, o2, rfl, hb2, hc2⟩ := (HJ.out.keep HG.out).po hlt
      obtain ⟨a0, a1, a2, a3⟩ := hc j hlt
      obtain ⟨e0, e1, e2, e3⟩ := hc2 j hlt
      clear hc hc2
      have i0 : (0 : Int) ≤ (j : Int) := by omega
      have i1 : (j : Int) < (n : Int) := by omega
      have CK := fun w => keepPos_yes (l.getD j po0) w
      generalize l.getD j po0 = x at *
      obtain ⟨q1, q2, q3, q4⟩ := x
      dsimp only at a0 a1 a2 a3  e0 e1 e2 e3 
      dsimp only [vPo] at CK
      have x0 : ∀ p : GrewTo wr, p.to.cell? ⟨b, o + j * 4, none⟩ = _ := fun p => (grew_cell p.h (p := ⟨b, _, none⟩) hb).trans a0; have x1 : ∀ p : GrewTo wr, p.to.cell? ⟨b, o + j * 4 + 1, none⟩ = _ := fun p => (grew_cell p.h (p := ⟨b, _, none⟩) hb).trans a1; have x2 : ∀ p : GrewTo wr, p.to.cell? ⟨b, o + j * 4 + 2, none⟩ = _ := fun p => (grew_cell p.h (p := ⟨b, _, none⟩) hb).trans a2; have x3 : ∀ p : GrewTo wr, p.to.cell? ⟨b, o + j * 4 + 3, none⟩ = _ := fun p => (grew_cell p.h (p := ⟨b, _, none⟩) hb).trans a3
      have y0 : ∀ p : GrewTo wr, p.to.cell? ⟨b2, o2 + j * 4, none⟩ = _ := fun p => (grew_cell p.h (p := ⟨b2, _, none⟩) hb2).trans e0; have y1 : ∀ p : GrewTo wr, p.to.cell? ⟨b2, o2 + j * 4 + 1, none⟩ = _ := fun p => (grew_cell p.h (p := ⟨b2, _, none⟩) hb2).trans e1; have y2 : ∀ p : GrewTo wr, p.to.cell? ⟨b2, o2 + j * 4 + 2, none⟩ = _ := fun p => (grew_cell p.h (p := ⟨b2, _, none⟩) hb2).trans e2; have y3 : ∀ p : GrewTo wr, p.to.cell? ⟨b2, o2 + j * 4 + 3, none⟩ = _ := fun p => (grew_cell p.h (p := ⟨b2, _, none⟩) hb2).trans e3
      clear a0 a1 a2 a3  e0 e1 e2 e3  hb hb2
      go_wp2_with fail
      refine wp_region_grew (by kernel_rfl) (by kernel_rfl) ?_
      repeat (go_big_quiet_step (with_reducible exact calls_grew (CK _)))
      refine wpQuiet_nil ?_
      intro w5 hw'
      have HG5 := Lib.hid (grew_of hw')
      clear hw' x0 x1 x2 x3  y0 y1 y2 y3 
      go_wp2
      go_roundw
      case rel => exact ⟨j + 1, by go_num, by omega, grew_trans HG.out HG5.out⟩
      case measure => simp only [intOf]; omega
    · obtain rfl : j = n := by omega
      go_wp2
      go_ret
      exact ⟨rfl, HG.out⟩

end Go.Proofs.Ytmlfijapglhjfaa.NumK
namespace Go.Proofs.Ytmlfijapglhjfaa.NumK
open Go.RowKit
set_option linter.unusedVariables false

set_option maxRecDepth 100000 in
theorem tooGreat_any (p : Po) (w : World) : Calls Try.prog 20 #[vPo p] w fun e w' => e = .returned (.bool (!okQ p.2.2.1)) ∧ Grew w w' := by
  have HV : Hid (okQ p.2.2.1 = (decide (-1099511627776 ≤ p.2.2.1) && decide (p.2.2.1 ≤ 1099511627776))) := rfl
  generalize okQ p.2.2.1 = V at *
  obtain ⟨q1, q2, q3, q4⟩ := p
  dsimp only at HV
  dsimp only [vPo]
  by_cases h1 : q3 < -1099511627776
  · have HF : Hid (V = false) := by show _ = _; rw [HV.out, decide_eq_false (by omega)]; rfl
    clear HV
    go_enter Try.func20, Try.ntmps20
    go_wp2
    go_ret
    exact ⟨by rw [HF.out]; rfl, grew_alloc _ _ _⟩
  · by_cases h2 : q3 > 1099511627776
    · have HF : Hid (V = false) := by show _ = _; rw [HV.out, decide_eq_false (p := q3 ≤ 1099511627776) (by omega)]; exact Bool.and_false _
      clear HV
      go_enter Try.func20, Try.ntmps20
      go_wp2
      go_ret
      exact ⟨by rw [HF.out]; rfl, grew_alloc _ _ _⟩
    · have HF : Hid (V = true) := by show _ = _; rw [HV.out, decide_eq_true (by omega), decide_eq_true (by omega)]; rfl
      clear HV
      go_enter Try.func20, Try.ntmps20
      go_wp2
      go_ret
      exact ⟨by rw [HF.out]; rfl, grew_alloc _ _ _⟩

theorem gwithin_any (n lo hi : Int) (w : World) : Calls Try.prog 26 #[.int .i64 n, .int .i64 lo, .int .i64 hi] w fun e w' => e = .returned (.bool (wi n lo hi)) ∧ w = w' := by
  have HV : Hid (wi n lo hi = (decide (lo ≤ n) && decide (n ≤ hi))) := rfl
  generalize wi n lo hi = V at *
  by_cases h1 : lo ≤ n
  · by_cases h2 : n ≤ hi
    · have HF : Hid (V = true) := by show _ = _; rw [HV.out, decide_eq_true h1, decide_eq_true h2]; rfl
      clear HV
      go_enter Try.func26, Try.ntmps26
      go_wp2
      go_ret
      exact ⟨by rw [HF.out]; try rfl, rfl⟩
    · have HF : Hid (V = false) := by show _ = _; rw [HV.out, decide_eq_false h2]; exact Bool.and_false _
      clear HV
      go_enter Try.func26, Try.ntmps26
      go_wp2
      go_ret
      exact ⟨by rw [HF.out]; try rfl, rfl⟩
  · have HF : Hid (V = false) := by show _ = _; rw [HV.out, decide_eq_false h1]; rfl
    clear HV
    go_enter Try.func26, Try.ntmps26
    go_wp2
    go_ret
    exact ⟨by rw [HF.out]; try rfl, rfl⟩

theorem qs_all {l : List Po} (h : ∀ i, i < l.length → okQ (l.getD i po0).2.2.1 = true) : qsOK l = true := by
  rw [qsOK_iff]
  intro p hp
  obtain ⟨i, hi, rfl⟩ := List.getElem_of_mem hp
  have := h i hi
  rwa [getD_at l po0 i hi] at this
theorem qs_not {l : List Po} {i : Nat} (hi : i < l.length) (h : okQ (l.getD i po0).2.2.1 = false) : qsOK l = false := by
  cases hq : qsOK l
  · rfl
  · have := qsOK_iff.1 hq _ (getD_mem l po0 i hi)
    rw [h] at this; cases this

def AtQ (l : List Po) (w : World) (e : Ending) (w' : World) : Prop := ∃ r : Int, (0 ≤ r ↔ qsOK l = false) ∧ -1 ≤ r ∧ e = .returned (.int .i64 r) ∧ Grew w w'

set_option maxRecDepth 100000 in
set_option maxHeartbeats 2000000 in
theorem indexQ_any (A : Option Addr) (n c : Nat) (l : List Po) (w : World) (h : RowE enPo w A n l) (hn : n ≤ 1000000) :
    Calls Try.prog 49 #[.slice A n c, .func (.func 20) #[] #[]] w (AtQ l w) := by
  have HI := Lib.hid h
  have HL := Lib.hid h.len
  have CC := fun w' x => tooGreat_any x w'
  dsimp only [vPo] at CC
  clear h
  go_enter Try.func49, Try.ntmps49
  go_wp2
  go_loopw [8] (fun v wr => ∃ j : Nat, v = .int .i64 j ∧ j ≤ n ∧ Hid (∀ i, i < j → okQ (l.getD i po0).2.2.1 = true) ∧ Hid (Grew w wr)) (fun v _ => n - (intOf v).toNat)
  case atStart => exact ⟨0, rfl, by omega, fun i hi => by omega, grew_refl _⟩
  case round =>
    obtain ⟨j, rfl, hj, HK, HG⟩ := hrel
    by_cases hlt : j < n
    · obtain ⟨b, o, rfl, hb, hc⟩ := (HI.out.keep HG.out).po hlt
      obtain ⟨a0, a1, a2, a3⟩ := hc j hlt
      have CX := fun w' => CC w' (l.getD j po0)
      have HY1 : Hid (okQ (l.getD j po0).2.2.1 = false → qsOK l = false) := fun h => qs_not (by rw [HL.out]; exact hlt) h
      have HK1 : Hid (okQ (l.getD j po0).2.2.1 = true → ∀ i, i < j + 1 → okQ (l.getD i po0).2.2.1 = true) := fun h i hi => by
        rcases Nat.lt_or_ge i j with h1 | h1
        · exact HK.out i h1
        · obtain rfl : i = j := by omega
          exact h
      have i0 : (0 : Int) ≤ (j : Int) := by omega
      have i1 : (j : Int) < (n : Int) := by omega
      clear hc hb CC
      generalize okQ (l.getD j po0).2.2.1 = lv at *
      generalize l.getD j po0 = x at *
      obtain ⟨q1, q2, q3, q4⟩ := x
      dsimp only at a0 a1 a2 a3 CX
      cases lv
      · have HF := Lib.hid (HY1.out rfl)
        clear HY1 HK1 HK
        simp only [Bool.not_false] at CX
        go_wp2_with ((with_reducible refine (CX _).mono ?_); rintro e w5 ⟨rfl, hg⟩; have HG5 := Lib.hid (grew_trans HG.out hg); clear hg)
        go_ret
        exact ⟨j, ⟨fun _ => HF.out, fun _ => by omega⟩, by omega, rfl, HG5.out⟩
      · have HK2 := Lib.hid (HK1.out rfl)
        clear HY1 HK1 HK
        simp only [Bool.not_true] at CX
        go_wp2_with ((with_reducible refine (CX _).mono ?_); rintro e w5 ⟨rfl, hg⟩; have HG5 := Lib.hid (grew_trans HG.out hg); clear hg)
        go_roundw
        case rel => exact ⟨j + 1, by go_num, by omega, HK2.out, HG5.out⟩
        case measure => simp only [intOf]; omega
    · obtain rfl : j = n := by omega
      have HF : Hid (qsOK l = true) := qs_all (by rw [HL.out]; exact HK.out)
      clear HK
      go_wp2
      go_ret
      exact ⟨-1, ⟨fun h => by omega, fun h => by rw [HF.out] at h; cases h⟩, by omega, rfl, HG.out⟩

theorem containsQ_any (A : Option Addr) (n c : Nat) (l : List Po) (w : World) (h : RowE enPo w A n l) (hn : n ≤ 1000000) :
    Calls Try.prog 19 #[.slice A n c, .func (.func 20) #[] #[]] w fun e w' => e = .returned (.bool (!qsOK l)) ∧ Grew w w' := by
  have C := indexQ_any A n c l w h hn
  clear h hn
  go_enter Try.func19, Try.ntmps19
  go_wp2_with (go_at_call 49; ((with_reducible refine C.mono ?_); rintro e w' ⟨r, h1, h2, rfl, hg⟩))
  go_ret
  refine ⟨?_, hg⟩
  by_cases hr : 0 ≤ r
  · rw [h1.1 hr]; simp
  · have : qsOK l = true := by
      cases hq : qsOK l
      · exact absurd (h1.2 hq) hr
      · rfl
    rw [this]; simp

theorem twinPoss_any (A : Option Addr) (n c : Nat) (l : List Po) (w : World) (h : RowE enPo w A n l) (hc : A = none → c = 0) (hn : n ≤ 1000000) :
    Calls Try.prog 10 #[.slice A n c] w fun e w' => ∃ B d, e = .returned (.slice B n d) ∧ OwnE enPo w' w.heap.size 46 (.slice B n d) l ∧ Grew w w' := by
  have HI := Lib.hid h
  have HL := Lib.hid h.len
  clear h
  go_enter Try.func10, Try.ntmps10
  go_wp2_with (at_builtin; refine (wpList_append_E rfl _ _ 27 46 (vPo po0) 32 rfl Try.underlying27 info_po rfl w.heap.size _ [] rfl (OwnE.nil enPo _ _ _) A n c l rfl hc HI.out (by simp; unfold maxLen; omega) (by simp; omega) (Nat.le_refl _) ?_); intro v' w1 ho hb; rw [List.nil_append] at ho; obtain ⟨B1, d1, rfl, -⟩ := ho.form; have HO := Lib.hid ho; have HG := Lib.hid hb; clear ho hb)
  have e1 := HL.out
  subst e1
  go_ret
  exact ⟨B1, d1, rfl, HO.out, HG.out⟩
end Go.Proofs.Ytmlfijapglhjfaa.NumK
namespace Go.Proofs.Ytmlfijapglhjfaa.NumK
open Go.RowKit
set_option linter.unusedVariables false

/-- The greatest of f 0 .. f k. -/
def mxN (f : Nat → Int) : Nat → Int
  | 0 => f 0
  | k + 1 => if mxN f k < f (k + 1) then f (k + 1) else mxN f k
theorem most_mx (f : Nat → Int) : ∀ k, mostV f (k + 1) = if 0 < mxN f k then mxN f k else 0
  | 0 => by unfold mostV mostV mxN; rfl
  | k + 1 => by
    have ih := most_mx f k
    show (if mostV f (k + 1) < f (k + 1) then f (k + 1) else mostV f (k + 1)) = _
    rw [ih]
    show _ = if 0 < (if mxN f k < f (k + 1) then f (k + 1) else mxN f k) then (if mxN f k < f (k + 1) then f (k + 1) else mxN f k) else 0
    by_cases h1 : mxN f k < f (k + 1) <;> by_cases h2 : 0 < mxN f k <;> simp only [h1, h2, if_true, if_false] <;> (try split) <;> omega

set_option maxRecDepth 100000 in
set_option maxHeartbeats 2000000 in
theorem maxRow_any (A : Option Addr) (n c : Nat) (zs : List Int) (w : World) (hz : Ints w A n zs) (h0 : 0 < n) (hn : n ≤ 1000000) :
    Calls Try.prog 32 #[.slice A n c] w fun e w' => e = .returned (.int .i64 (mxN (fun j => zs.getD j 0) (n - 1))) ∧ w = w' := by
  have HZ := Lib.hid hz
  obtain ⟨b, o, rfl, _, hc⟩ := hz.2 h0
  have HC := Lib.hid hc
  have c0 := hc 0 h0
  rw [Nat.add_zero] at c0
  have i9 : (0 : Int) < (n : Int) := by omega
  have i8 : ¬ (n : Int) < 1 := by omega
  clear hc
  go_enter Try.func32, Try.ntmps32
  go_wp2
  go_loopw [3, 4] (fun m v wr => ∃ j : Nat, v = .int .i64 j ∧ m = .int .i64 (mxN (fun j => zs.getD j 0) (j - 1)) ∧ 1 ≤ j ∧ j ≤ n ∧ w = wr) (fun _ v _ => n - (intOf v).toNat)
  case atStart => exact ⟨1, rfl, rfl, by omega, by omega, rfl⟩
  case round =>
    obtain ⟨j, rfl, rfl, h1, hj, rfl⟩ := hrel
    by_cases hlt : j < n
    · have cj := HC.out j hlt
      have i0 : (0 : Int) ≤ (j : Int) := by omega
      have i1 : (j : Int) < (n : Int) := by omega
      have HM : Hid (mxN (fun j => zs.getD j 0) (j + 1 - 1) = if mxN (fun j => zs.getD j 0) (j - 1) < zs.getD j 0 then zs.getD j 0 else mxN (fun j => zs.getD j 0) (j - 1)) := by
        obtain ⟨k, rfl⟩ : ∃ k, j = k + 1 := ⟨j - 1, by omega⟩
        show _ = _
        rfl
      clear c0
      generalize mxN (fun j => zs.getD j 0) (j - 1) = M at *
      generalize zs.getD j 0 = x at *
      go_wp2
      refine ⟨⟨j + 1, by go_num, by rw [HM.out], by omega, by omega, trivial⟩, ?_⟩
      simp only [intOf]; omega
    · obtain rfl : j = n := by omega
      go_wp2
      go_ret
      exact ⟨rfl, rfl⟩
/-- A block of six numbers, as a row. -/
theorem ints_own {w : World} {b : Nat} (f : Nat → Int) (h : OwnC w b [.int .i64 (f 0), .int .i64 (f 1), .int .i64 (f 2), .int .i64 (f 3), .int .i64 (f 4), .int .i64 (f 5)]) : Ints w (some ⟨b, 0, none⟩) 6 [f 0, f 1, f 2, f 3, f 4, f 5] := by
  refine ⟨rfl, fun _ => ⟨b, 0, rfl, h.lt, fun j hj => ?_⟩⟩
  rw [Nat.zero_add]
  rcases j with _ | _ | _ | _ | _ | _ | j
  · exact h.at 0 _ rfl
  · exact h.at 1 _ rfl
  · exact h.at 2 _ rfl
  · exact h.at 3 _ rfl
  · exact h.at 4 _ rfl
  · exact h.at 5 _ rfl
  · omega
end Go.Proofs.Ytmlfijapglhjfaa.NumK
namespace Go.Proofs.Ytmlfijapglhjfaa.NumK
open Go.RowKit
set_option linter.unusedVariables false

abbrev wvV (x : Int) : Value := .agg #[.int .i64 (hi64 x), .int .u64 (lo64 x)]
def lossI (j : Nat) (p : Po) (i : In) : Int := -p.2.2.1 * (i.1.2.2.1 * shJ i j)
def addI (p : Po) (i : In) : Int := absI p.2.2.1 * i.1.2.2.2.1
theorem loss_i {i : In} (hi : okIn i = true) {p : Po} (hq : okQ p.2.2.1 = true) {j : Nat} (hj : j < 6) : (lossI j p i).natAbs ≤ 1099511627776 * (1024 * 1073741824) ∧ (p.2.2.1.natAbs ≤ 1099511627776 ∧ i.1.2.2.1.natAbs ≤ 1024 ∧ (shJ i j).natAbs ≤ 1073741824) := by
  obtain ⟨⟨m1, m2⟩, _, hs⟩ := inst_add hi
  obtain ⟨s1, s2⟩ := hs j hj
  simp only [okQ, wi, Bool.and_eq_true, decide_eq_true_eq] at hq
  exact ⟨mul_abs (by omega) (mul_abs (by omega) (by omega)), by omega, by omega, by omega⟩
theorem add_i {i : In} (hi : okIn i = true) {p : Po} (hq : okQ p.2.2.1 = true) : (addI p i).natAbs ≤ 1099511627776 * 1073741824 ∧ p.2.2.1.natAbs ≤ 1099511627776 ∧ i.1.2.2.2.1.natAbs ≤ 1073741824 := by
  obtain ⟨_, ⟨a1, a2⟩, _⟩ := inst_add hi
  simp only [okQ, wi, Bool.and_eq_true, decide_eq_true_eq] at hq
  have := abs_facts p.2.2.1
  exact ⟨mul_abs (by omega) (by omega), by omega, by omega⟩

set_option maxRecDepth 100000 in
set_option maxHeartbeats 2000000 in
theorem lossFn_any (p : Po) (i : In) (j : Nat) (hj : j < 6) (N : Nat) (w : World) (hb : N < w.heap.size) (hN : w.cell? ⟨N, 0, none⟩ = some (.int .i64 j)) (hq : okQ p.2.2.1 = true) (hi : okIn i = true) :
    Calls Try.prog 22 #[vPo p, vIn i, .pointer (some ⟨N, 0, none⟩)] w fun e w' => e = .returned (wvV (lossI j p i)) ∧ Grew w w' := by
  obtain ⟨_, b1, b2, b3⟩ := loss_i hi hq hj
  have hV : lossI j p i = -p.2.2.1 * (i.1.2.2.1 * shJ i j) := rfl
  have hS : (shIn i)[j]? = some (shJ i j) := by
    unfold shJ
    rw [List.getD_eq_getElem?_getD, List.getElem?_eq_getElem (by simpa [shIn] using hj)]; rfl
  generalize lossI j p i = V at *
  generalize shJ i j = S at *
  clear hq hi
  obtain ⟨q1, q2, q3, q4⟩ := p
  obtain ⟨⟨t1, t2, t3, t4, t5, t6⟩, ⟨s1, s2, s3, s4, s5, s6⟩⟩ := i
  dsimp only at b1 b2 hV
  have bM := mul_abs (a := -q3) (b := t3) (A := 1099511627776) (by omega) b2
  have C1 := fun w => wtimes_any (-q3 * t3) S w (by omega) (by omega)
  have e1 : -q3 * t3 * S = V := by rw [hV, Int.mul_assoc]
  rw [e1] at C1
  have HM : IntKind.i64.wrap (IntKind.i64.wrap (-q3) * t3) = -q3 * t3 := by
    have : IntKind.i64.wrap (-q3) = -q3 := by rw [IntKind.wrap_i64]; omega
    rw [this, IntKind.wrap_i64]; omega
  rw [← HM] at C1
  clear HM e1 hV bM b1 b2 b3
  dsimp only [vPo, vIn, wvV]
  generalize hi64 V = v1 at *
  generalize lo64 V = v2 at *
  have HP0 : Hid (OwnC ((w.alloc (.cells #[.int .i64 q1, .int .i64 q2, .int .i64 q3, .int .i64 q4] 46)).alloc (.cells #[.int .i64 t1, .int .i64 t2, .int .i64 t3, .int .i64 t4, .int .i64 t5, .int .i64 t6, .int .i64 s1, .int .i64 s2, .int .i64 s3, .int .i64 s4, .int .i64 s5, .int .i64 s6] 49)) w.heap.size [.int .i64 q1, .int .i64 q2, .int .i64 q3, .int .i64 q4]) := (OwnC.new w [.int .i64 q1, .int .i64 q2, .int .i64 q3, .int .i64 q4] _ _ rfl).keep (grew_alloc _ _ _)
  have HI0 : Hid (OwnC ((w.alloc (.cells #[.int .i64 q1, .int .i64 q2, .int .i64 q3, .int .i64 q4] 46)).alloc (.cells #[.int .i64 t1, .int .i64 t2, .int .i64 t3, .int .i64 t4, .int .i64 t5, .int .i64 t6, .int .i64 s1, .int .i64 s2, .int .i64 s3, .int .i64 s4, .int .i64 s5, .int .i64 s6] 49)) (w.heap.size + 1) [.int .i64 t1, .int .i64 t2, .int .i64 t3, .int .i64 t4, .int .i64 t5, .int .i64 t6, .int .i64 s1, .int .i64 s2, .int .i64 s3, .int .i64 s4, .int .i64 s5, .int .i64 s6]) := OwnC.new _ [.int .i64 t1, .int .i64 t2, .int .i64 t3, .int .i64 t4, .int .i64 t5, .int .i64 t6, .int .i64 s1, .int .i64 s2, .int .i64 s3, .int .i64 s4, .int .i64 s5, .int .i64 s6] _ _ (by simp)
  have HG0 : Hid (Grew w ((w.alloc (.cells #[.int .i64 q1, .int .i64 q2, .int .i64 q3, .int .i64 q4] 46)).alloc (.cells #[.int .i64 t1, .int .i64 t2, .int .i64 t3, .int .i64 t4, .int .i64 t5, .int .i64 t6, .int .i64 s1, .int .i64 s2, .int .i64 s3, .int .i64 s4, .int .i64 s5, .int .i64 s6] 49))) := grew_trans (grew_alloc _ _ _) (grew_alloc _ _ _)
  have i0 : (0 : Int) ≤ (j : Int) := by omega
  have i1 : (j : Int) < 6 := by omega
  go_enter Try.func22, Try.ntmps22
  go_upto_region 1 with (fail)
  generalize hw0 : ((w.alloc (.cells #[.int .i64 q1, .int .i64 q2, .int .i64 q3, .int .i64 q4] 46)).alloc (.cells #[.int .i64 t1, .int .i64 t2, .int .i64 t3, .int .i64 t4, .int .i64 t5, .int .i64 t6, .int .i64 s1, .int .i64 s2, .int .i64 s3, .int .i64 s4, .int .i64 s5, .int .i64 s6] 49)) = w0 at *
  have HBS : Hid (w0.heap.size ≤ w.heap.size + 1 + 1) := by show _ ≤ _; rw [← hw0]; simp
  have HR1 : Hid (OwnC (w0.alloc (.cells #[.int .i64 0, .int .u64 0] 56)) (w.heap.size + 1 + 1) [.int .i64 0, .int .u64 0]) := OwnC.new _ [.int .i64 0, .int .u64 0] _ _ (by rw [← hw0]; simp)
  clear hw0
  have HG1 : Hid (Grew w0 (w0.alloc (.cells #[.int .i64 0, .int .u64 0] 56))) := grew_alloc _ _ _
  have HS : Hid (∀ w', Grew w0 w' → w'.cell? ⟨w.heap.size, 2, none⟩ = some (.int .i64 q3) ∧ w'.cell? ⟨w.heap.size + 1, 2, none⟩ = some (.int .i64 t3) ∧ w'.cell? ⟨N, 0, none⟩ = some (.int .i64 j) ∧ w'.cell? ⟨w.heap.size + 1, 6 + j, none⟩ = some (.int .i64 S)) := fun w' g => ⟨(HP0.out.keep g).at 2 _ rfl, (HI0.out.keep g).at 2 _ rfl, (grew_cell (grew_trans HG0.out g) (p := ⟨N, 0, none⟩) hb).trans hN, by
    refine (HI0.out.keep g).at (6 + j) _ ?_
    show ([Value.int .i64 t1, .int .i64 t2, .int .i64 t3, .int .i64 t4, .int .i64 t5, .int .i64 t6] ++ (shIn ((t1, t2, t3, t4, t5, t6), (s1, s2, s3, s4, s5, s6))).map (Value.int .i64))[6 + j]? = _
    rw [List.getElem?_append_right (by simp), List.getElem?_map]
    simp only [List.length_cons, List.length_nil, Nat.add_sub_cancel_left, Nat.zero_add]
    rw [hS]; rfl⟩
  clear HP0 HI0 hN hb hS
  generalize (w0.alloc (.cells #[.int .i64 0, .int .u64 0] 56)) = w1 at *
  go_region_held3 (fun w' => w'.cell? ⟨w.heap.size, 2, none⟩ = some (.int .i64 q3) ∧ w'.cell? ⟨w.heap.size + 1, 2, none⟩ = some (.int .i64 t3) ∧ w'.cell? ⟨N, 0, none⟩ = some (.int .i64 j) ∧ w'.cell? ⟨w.heap.size + 1, 6 + j, none⟩ = some (.int .i64 S))
    (first
      | (with_reducible exact HS.out _ (grew_drew HG1.out))
      | (with_reducible exact HS.out _ HG2.out)
      | (with_reducible exact HS.out _ (grew_set (grew_set HG2.out _ HBS.out) _ HBS.out)))
    (first
      | (go_at_call 23; (with_reducible refine (C1 _).mono ?_); rintro e w2 ⟨rfl, hg⟩; have HB2 := Lib.hid ((HR1.out.drew).keep hg); have HG2 : Hid (Grew w0 w2) := grew_trans (grew_drew HG1.out) hg; have y0 := HB2.out.at 0 (.int .i64 0) rfl; have y1 := HB2.out.at 1 (.int .u64 0) rfl; have f0 := HB2.out.fr 0 (by decide); have f1 := HB2.out.fr 1 (by decide); clear hg))
  all_goals
    (refine end_put (w := w0) (P := Exit.then _ _ Exit.normal _) [.int .i64 v1, .int .u64 v2] (by rfl) HB2.out HG2.out HBS.out ?_
     intro w5 h5 g5
     have z0 := h5.at 0 _ rfl
     have z1 := h5.at 1 _ rfl
     have HG5 := Lib.hid (grew_trans HG0.out g5)
     clear h5 g5
     apply_assumption
     go_wp2
     exact bodyPost_ret (v := .agg #[.int .i64 v1, .int .u64 v2]) (by simp [results, Try.results22, go_sem, z0, z1]) rfl ⟨rfl, HG5.out⟩)

set_option maxRecDepth 100000 in
set_option maxHeartbeats 2000000 in
theorem addFn_any (p : Po) (i : In) (w : World) (hq : okQ p.2.2.1 = true) (hi : okIn i = true) :
    Calls Try.prog 31 #[vPo p, vIn i] w fun e w' => e = .returned (wvV (addI p i)) ∧ Grew w w' := by
  obtain ⟨_, b1, b2⟩ := add_i hi hq
  have hV : addI p i = absI p.2.2.1 * i.1.2.2.2.1 := rfl
  have hA := abs_facts p.2.2.1
  have hA2 : absI p.2.2.1 = if -p.2.2.1 < p.2.2.1 then p.2.2.1 else -p.2.2.1 := rfl
  generalize addI p i = V at *
  generalize absI p.2.2.1 = B at *
  clear hq hi
  obtain ⟨q1, q2, q3, q4⟩ := p
  obtain ⟨⟨t1, t2, t3, t4, t5, t6⟩, ⟨s1, s2, s3, s4, s5, s6⟩⟩ := i
  dsimp only at b1 b2 hV hA hA2
  have C1 := fun w => wtimes_any t4 B w (by omega) (by omega)
  have e1 : t4 * B = V := by rw [hV, Int.mul_comm]
  rw [e1] at C1
  have HM : IntKind.i64.wrap (-q3) = -q3 := by rw [IntKind.wrap_i64]; omega
  have HM2 : wrap64 (-q3) = -q3 := by unfold wrap64; omega
  have HB : Hid ((if q3 < -q3 then -q3 else q3) = B) := by show _ = _; split <;> omega
  clear e1 hV b1 b2 hA hA2
  dsimp only [vPo, vIn, wvV]
  generalize hi64 V = v1 at *
  generalize lo64 V = v2 at *
  by_cases hs : q3 < -q3
  · have HB1 : B = -q3 := by have := HB.out; rw [if_pos hs] at this; exact this.symm
    subst HB1
    clear HB HM
    go_enter Try.func31, Try.ntmps31
    go_wp2_with (go_at_call 23; ((with_reducible refine (C1 _).mono ?_); rintro e w1 ⟨rfl, hg⟩; have HX : Hid (OwnC w1 (w.heap.size + 1 + 1) [.int .i64 0, .int .u64 0]) := (OwnC.new _ [.int .i64 0, .int .u64 0] _ _ (by simp)).keep hg; have x0 := HX.out.at 0 (.int .i64 0) rfl; have x1' := HX.out.at 1 (.int .u64 0) rfl; have f0 := HX.out.fr 0 (by decide); have f1 := HX.out.fr 1 (by decide); have HG : Hid (Grew w w1) := grew_trans (grew_trans (grew_trans (grew_alloc _ _ _) (grew_alloc _ _ _)) (grew_alloc _ _ _)) hg; clear hg))
    refine end_put (w := w) (P := bodyPost _ _ _ _ _) [.int .i64 v1, .int .u64 v2] (by rfl) HX.out HG.out (by omega) ?_
    intro w5 h5 g5
    have z0 := h5.at 0 _ rfl
    have z1 := h5.at 1 _ rfl
    exact bodyPost_ret (v := .agg #[.int .i64 v1, .int .u64 v2]) (by simp [results, Try.results31, go_sem, z0, z1]) rfl ⟨rfl, g5⟩
  · have HB1 : B = q3 := by have := HB.out; rw [if_neg hs] at this; exact this.symm
    subst HB1
    clear HB HM
    go_enter Try.func31, Try.ntmps31
    go_wp2_with (go_at_call 23; ((with_reducible refine (C1 _).mono ?_); rintro e w1 ⟨rfl, hg⟩; have HX : Hid (OwnC w1 (w.heap.size + 1 + 1) [.int .i64 0, .int .u64 0]) := (OwnC.new _ [.int .i64 0, .int .u64 0] _ _ (by simp)).keep hg; have x0 := HX.out.at 0 (.int .i64 0) rfl; have x1' := HX.out.at 1 (.int .u64 0) rfl; have f0 := HX.out.fr 0 (by decide); have f1 := HX.out.fr 1 (by decide); have HG : Hid (Grew w w1) := grew_trans (grew_trans (grew_trans (grew_alloc _ _ _) (grew_alloc _ _ _)) (grew_alloc _ _ _)) hg; clear hg))
    refine end_put (w := w) (P := bodyPost _ _ _ _ _) [.int .i64 v1, .int .u64 v2] (by rfl) HX.out HG.out (by omega) ?_
    intro w5 h5 g5
    have z0 := h5.at 0 _ rfl
    have z1 := h5.at 1 _ rfl
    exact bodyPost_ret (v := .agg #[.int .i64 v1, .int .u64 v2]) (by simp [results, Try.results31, go_sem, z0, z1]) rfl ⟨rfl, g5⟩
end Go.Proofs.Ytmlfijapglhjfaa.NumK
