/- The legs of a trade: the program's, the document's. -/
import Derived.Test.YtgblhliinjgofaaRO
import Derived.BigQuiet
import Derived.Test.YtgblhliinjgofaaRA
import Derived.Test.YtgblhliinjgofaaRA2
namespace Go.Proofs.Ytgblhliinjgofaa.NumK
open Go.RowKit
set_option linter.unusedVariables false

def LegsPost (t : Tr) (back : Bool) (w : World) (e : Ending) (w' : World) : Prop :=
  ∃ A c, e = .returned (.slice A (legsT t back).length c) ∧ OwnE enPo w' w.heap.size 48 (.slice A (legsT t back).length c) (legsT t back) ∧ Grew w w'
theorem legs_no {t : Tr} (h : sizedT t = false) (back : Bool) : legsT t back = [] := by unfold legsT; rw [h]; rfl
theorem legs_yes {t : Tr} (h : sizedT t = true) (back : Bool) : legsT t back = twoL t (if back then -t.1.2.2.2.2.1 else t.1.2.2.2.2.1) := by unfold legsT; rw [h]; rfl
theorem legs_none {t : Tr} (h : sizedT t = false) (back : Bool) {w : World} (w' : World) (g : Grew w w') : LegsPost t back w (.returned (.slice none 0 0)) w' := by
  refine ⟨none, 0, ?_, ?_, g⟩
  · rw [legs_no h]; rfl
  · rw [legs_no h]; exact OwnE.nil _ _ _ _
theorem legs_two {t : Tr} (h : sizedT t = true) (back : Bool) {w : World} (w1 : World) (g : Grew w w1) (a b c d a' b' c' d' : Int) (N : Nat) (hN : N = w1.heap.size) (hl : twoL t (if back then -t.1.2.2.2.2.1 else t.1.2.2.2.2.1) = [(a, b, c, d), (a', b', c', d')]) :
    LegsPost t back w (.returned (.slice (some ⟨N, 0, none⟩) 2 2)) (w1.alloc (.cells #[.int .i64 a, .int .i64 b, .int .i64 c, .int .i64 d, .int .i64 a', .int .i64 b', .int .i64 c', .int .i64 d'] 48)) := by
  have e := (legs_yes h back).trans hl
  refine ⟨some ⟨N, 0, none⟩, 2, by rw [e]; rfl, ?_, grew_trans g (grew_alloc _ _ _)⟩
  rw [e]
  exact (OwnE.lit enPo w1 [(a, b, c, d), (a', b', c', d')] _ _ N hN rfl (by show 2 * 4 ≤ maxLen; decide)).mono g.size

set_option maxRecDepth 100000 in
set_option maxHeartbeats 1000000 in
theorem plegs_any (t : Tr) (back : Bool) (s : Int) (hs : s = if back then -1 else 1) (w : World) : Calls Try.prog 32 #[vTr t, .int .i64 s] w (LegsPost t back w) := by
  have CR := fun w => tright_any t w
  by_cases h : sizedT t = true
  · have HT := Lib.hid (@legs_two t h back w)
    have HI := Lib.hid ((sizedT_iff t).1 h)
    rw [h] at CR
    obtain ⟨⟨q1, q2, q3, q4, q5, q6⟩, q7⟩ := t
    have HM := Lib.hid (mul_in q5 q6 HI.out)
    obtain ⟨⟨b1, b2⟩, b3, b4⟩ := HI.out
    obtain ⟨m1, m2⟩ := HM.out
    dsimp only [twoL] at HT
    dsimp only at b1 b2 b3 b4
    generalize LegsPost ((q1, q2, q3, q4, q5, q6), q7) back w = PP at *
    dsimp only [vTr] at CR ⊢
    clear h HI HM
    have HX0 : Hid (OwnC (w.alloc (.cells #[.int .i64 q1, .int .i64 q2, .int .i64 q3, .int .i64 q4, .int .i64 q5, .int .i64 q6, .bool q7] 28)) w.heap.size [.int .i64 q1, .int .i64 q2, .int .i64 q3, .int .i64 q4, .int .i64 q5, .int .i64 q6, .bool q7]) := OwnC.new w [.int .i64 q1, .int .i64 q2, .int .i64 q3, .int .i64 q4, .int .i64 q5, .int .i64 q6, .bool q7] _ _ rfl
    cases back
    · simp only [Bool.false_eq_true, if_false] at hs HT
      subst hs
      have e1 : IntKind.i64.wrap (q5 * q6) = q5 * q6 := by rw [IntKind.wrap_i64]; omega
      have e2 : -(q5 * q6) = -q5 * q6 := (Int.neg_mul _ _).symm
      go_enter Try.func32, Try.ntmps32
      go_wp2_with (go_at_call 24; ((with_reducible refine (CR _).mono ?_); rintro e w1 ⟨rfl, hg⟩; have HG := Lib.hid (own_back hg); have HX := Lib.hid (HX0.out.keep hg); have x1 : w1.cell? ⟨w.heap.size, 1, none⟩ = some (.int .i64 q2) := HX.out.at 1 _ rfl; have x2 : w1.cell? ⟨w.heap.size, 2, none⟩ = some (.int .i64 q3) := HX.out.at 2 _ rfl; have x3 : w1.cell? ⟨w.heap.size, 3, none⟩ = some (.int .i64 q4) := HX.out.at 3 _ rfl; have x4 : w1.cell? ⟨w.heap.size, 4, none⟩ = some (.int .i64 q5) := HX.out.at 4 _ rfl; have x5 : w1.cell? ⟨w.heap.size, 5, none⟩ = some (.int .i64 q6) := HX.out.at 5 _ rfl; clear hg))
      go_quiet (fail)
      have HG2 : Hid (Grew w (w1.drewN nq)) := grew_drewN HG.out _
      go_wp2
      refine HT.out _ HG2.out _ _ _ _ _ _ _ _ _ (by simp) ?_
      simp [Int.neg_mul]
    · simp only [if_true] at hs HT
      subst hs
      have e2 : -q5 * q6 = -(q5 * q6) := (Int.neg_mul _ _)
      have e1 : IntKind.i64.wrap (-q5 * q6) = -(q5 * q6) := by rw [IntKind.wrap_i64, e2]; omega
      go_enter Try.func32, Try.ntmps32
      go_wp2_with (go_at_call 24; ((with_reducible refine (CR _).mono ?_); rintro e w1 ⟨rfl, hg⟩; have HG := Lib.hid (own_back hg); have HX := Lib.hid (HX0.out.keep hg); have x1 : w1.cell? ⟨w.heap.size, 1, none⟩ = some (.int .i64 q2) := HX.out.at 1 _ rfl; have x2 : w1.cell? ⟨w.heap.size, 2, none⟩ = some (.int .i64 q3) := HX.out.at 2 _ rfl; have x3 : w1.cell? ⟨w.heap.size, 3, none⟩ = some (.int .i64 q4) := HX.out.at 3 _ rfl; have x4 : w1.cell? ⟨w.heap.size, 4, none⟩ = some (.int .i64 q5) := HX.out.at 4 _ rfl; have x5 : w1.cell? ⟨w.heap.size, 5, none⟩ = some (.int .i64 q6) := HX.out.at 5 _ rfl; clear hg))
      go_quiet (fail)
      have HG2 : Hid (Grew w (w1.drewN nq)) := grew_drewN HG.out _
      go_wp2
      refine HT.out _ HG2.out _ _ _ _ _ _ _ _ _ (by simp) ?_
      simp [Int.neg_mul]
  · simp only [Bool.not_eq_true] at h
    have HT := Lib.hid (@legs_none t h back w)
    rw [h] at CR
    generalize LegsPost t back w = PP at *
    obtain ⟨⟨q1, q2, q3, q4, q5, q6⟩, q7⟩ := t
    dsimp only [vTr] at CR ⊢
    clear h hs
    go_enter Try.func32, Try.ntmps32
    go_wp2_with (go_at_call 24; ((with_reducible refine (CR _).mono ?_); rintro e w1 ⟨rfl, hg⟩; have HG := Lib.hid (own_back hg); clear hg))
    exact HT.out _ HG.out

theorem legs12_any (t : Tr) (w : World) : Calls Try.prog 13 #[vTr t] w (LegsPost t false w) := by
  have CL := fun w => plegs_any t false 1 rfl w
  have HP : Hid (∀ w1 e w', Grew w w1 → LegsPost t false w1 e w' → LegsPost t false w e w') := fun w1 e w' g ⟨A, c, he, ho, hg⟩ => ⟨A, c, he, ho.mono g.size, grew_trans g hg⟩
  generalize hPP : LegsPost t false w = PP at *
  obtain ⟨⟨q1, q2, q3, q4, q5, q6⟩, q7⟩ := t
  dsimp only [vTr] at CL ⊢
  go_enter Try.func13, Try.ntmps13
  go_wp2_with (go_at_call 32; ((with_reducible refine (CL _).mono ?_); rintro e w1 ⟨A, c, rfl, ho, hg⟩; have HF := Lib.hid (HP.out _ _ _ (grew_alloc _ _ _) ⟨A, c, rfl, ho, hg⟩); clear ho hg HP))
  exact HF.out

theorem undo12_any (t : Tr) (w : World) : Calls Try.prog 14 #[vTr t] w (LegsPost t true w) := by
  have CL := fun w => plegs_any t true (-1) rfl w
  have HP : Hid (∀ w1 e w', Grew w w1 → LegsPost t true w1 e w' → LegsPost t true w e w') := fun w1 e w' g ⟨A, c, he, ho, hg⟩ => ⟨A, c, he, ho.mono g.size, grew_trans g hg⟩
  generalize hPP : LegsPost t true w = PP at *
  obtain ⟨⟨q1, q2, q3, q4, q5, q6⟩, q7⟩ := t
  dsimp only [vTr] at CL ⊢
  go_enter Try.func14, Try.ntmps14
  go_wp2_with (go_at_call 32; ((with_reducible refine (CL _).mono ?_); rintro e w1 ⟨A, c, rfl, ho, hg⟩; have HF := Lib.hid (HP.out _ _ _ (grew_alloc _ _ _) ⟨A, c, rfl, ho, hg⟩); clear ho hg HP))
  exact HF.out

set_option maxRecDepth 100000 in
set_option maxHeartbeats 1000000 in
theorem rlegs_any (t : Tr) (back : Bool) (w : World) : Calls Try.prog 16 #[vTr t, .bool back] w (LegsPost t back w) := by
  have CR := fun w => rsized_any t w
  by_cases h : sizedT t = true
  · have HT := Lib.hid (@legs_two t h back w)
    have HI := Lib.hid ((sizedT_iff t).1 h)
    rw [h] at CR
    obtain ⟨⟨q1, q2, q3, q4, q5, q6⟩, q7⟩ := t
    have HM := Lib.hid (mul_in q5 q6 HI.out)
    obtain ⟨⟨b1, b2⟩, b3, b4⟩ := HI.out
    obtain ⟨m1, m2⟩ := HM.out
    dsimp only [twoL] at HT
    dsimp only at b1 b2 b3 b4
    generalize LegsPost ((q1, q2, q3, q4, q5, q6), q7) back w = PP at *
    dsimp only [vTr] at CR ⊢
    clear h HI HM
    have HX0 : Hid (OwnC (w.alloc (.cells #[.int .i64 q1, .int .i64 q2, .int .i64 q3, .int .i64 q4, .int .i64 q5, .int .i64 q6, .bool q7] 28)) w.heap.size [.int .i64 q1, .int .i64 q2, .int .i64 q3, .int .i64 q4, .int .i64 q5, .int .i64 q6, .bool q7]) := OwnC.new w [.int .i64 q1, .int .i64 q2, .int .i64 q3, .int .i64 q4, .int .i64 q5, .int .i64 q6, .bool q7] _ _ rfl
    cases back
    · simp only [Bool.false_eq_true, if_false] at HT
      have e1 : IntKind.i64.wrap (q5 * q6) = q5 * q6 := by rw [IntKind.wrap_i64]; omega
      have e2 : -q5 * q6 = -(q5 * q6) := (Int.neg_mul _ _)
      have e3 : IntKind.i64.wrap (-q5 * q6) = -(q5 * q6) := by rw [IntKind.wrap_i64, e2]; omega
      go_enter Try.func16, Try.ntmps16
      go_wp2_with (go_at_call 28; ((with_reducible refine (CR _).mono ?_); rintro e w1 ⟨rfl, hg⟩; have HG := Lib.hid (own_back hg); have HX := Lib.hid (HX0.out.keep hg); have x1 : w1.cell? ⟨w.heap.size, 1, none⟩ = some (.int .i64 q2) := HX.out.at 1 _ rfl; have x2 : w1.cell? ⟨w.heap.size, 2, none⟩ = some (.int .i64 q3) := HX.out.at 2 _ rfl; have x3 : w1.cell? ⟨w.heap.size, 3, none⟩ = some (.int .i64 q4) := HX.out.at 3 _ rfl; have x4 : w1.cell? ⟨w.heap.size, 4, none⟩ = some (.int .i64 q5) := HX.out.at 4 _ rfl; have x5 : w1.cell? ⟨w.heap.size, 5, none⟩ = some (.int .i64 q6) := HX.out.at 5 _ rfl; clear hg))
      refine HT.out _ HG.out _ _ _ _ _ _ _ _ _ (by simp) ?_
      simp [Int.neg_mul]
    · simp only [if_true] at HT
      have e1 : IntKind.i64.wrap (q5 * q6) = q5 * q6 := by rw [IntKind.wrap_i64]; omega
      have e2 : -q5 * q6 = -(q5 * q6) := (Int.neg_mul _ _)
      have e3 : IntKind.i64.wrap (-q5 * q6) = -(q5 * q6) := by rw [IntKind.wrap_i64, e2]; omega
      go_enter Try.func16, Try.ntmps16
      go_wp2_with (go_at_call 28; ((with_reducible refine (CR _).mono ?_); rintro e w1 ⟨rfl, hg⟩; have HG := Lib.hid (own_back hg); have HX := Lib.hid (HX0.out.keep hg); have x1 : w1.cell? ⟨w.heap.size, 1, none⟩ = some (.int .i64 q2) := HX.out.at 1 _ rfl; have x2 : w1.cell? ⟨w.heap.size, 2, none⟩ = some (.int .i64 q3) := HX.out.at 2 _ rfl; have x3 : w1.cell? ⟨w.heap.size, 3, none⟩ = some (.int .i64 q4) := HX.out.at 3 _ rfl; have x4 : w1.cell? ⟨w.heap.size, 4, none⟩ = some (.int .i64 q5) := HX.out.at 4 _ rfl; have x5 : w1.cell? ⟨w.heap.size, 5, none⟩ = some (.int .i64 q6) := HX.out.at 5 _ rfl; clear hg))
      refine HT.out _ HG.out _ _ _ _ _ _ _ _ _ (by simp) ?_
      simp [Int.neg_mul]
  · simp only [Bool.not_eq_true] at h
    have HT := Lib.hid (@legs_none t h back w)
    rw [h] at CR
    generalize LegsPost t back w = PP at *
    obtain ⟨⟨q1, q2, q3, q4, q5, q6⟩, q7⟩ := t
    dsimp only [vTr] at CR ⊢
    clear h
    go_enter Try.func16, Try.ntmps16
    go_wp2_with (go_at_call 28; ((with_reducible refine (CR _).mono ?_); rintro e w1 ⟨rfl, hg⟩; have HG := Lib.hid (own_back hg); clear hg))
    exact HT.out _ HG.out
end Go.Proofs.Ytgblhliinjgofaa.NumK
namespace Go.Proofs.Ytgblhliinjgofaa.NumK
open Go.RowKit
set_option linter.unusedVariables false

theorem keepKey_yes (a b : Int) (w : World) : Calls Try.prog 55 #[.agg #[.int .i64 a, .int .i64 b], .agg #[.int .i64 a, .int .i64 b]] w fun e w' => e = .returned (.bool true) ∧ Grew w w' := by
  go_enter Try.func55, Try.ntmps55
  go_wp2
  go_ret
  exact ⟨rfl, grew_trans (grew_alloc _ _ _) (grew_alloc _ _ _)⟩
set_option maxRecDepth 100000 in
theorem keepPos_yes (x : Po) (w : World) : Calls Try.prog 33 #[vPo x, vPo x] w fun e w' => e = .returned (.bool true) ∧ Grew w w' := by
  obtain ⟨q1, q2, q3, q4⟩ := x
  dsimp only [vPo]
  have CK := fun w => keepKey_yes q1 q2 w
  have HX0 : Hid (OwnC ((w.alloc (.cells #[.int .i64 q1, .int .i64 q2, .int .i64 q3, .int .i64 q4] 48)).alloc (.cells #[.int .i64 q1, .int .i64 q2, .int .i64 q3, .int .i64 q4] 48)) w.heap.size [.int .i64 q1, .int .i64 q2, .int .i64 q3, .int .i64 q4]) := (OwnC.new w [.int .i64 q1, .int .i64 q2, .int .i64 q3, .int .i64 q4] _ _ rfl).keep (grew_alloc _ _ _)
  have HY0 : Hid (OwnC ((w.alloc (.cells #[.int .i64 q1, .int .i64 q2, .int .i64 q3, .int .i64 q4] 48)).alloc (.cells #[.int .i64 q1, .int .i64 q2, .int .i64 q3, .int .i64 q4] 48)) (w.heap.size + 1) [.int .i64 q1, .int .i64 q2, .int .i64 q3, .int .i64 q4]) := OwnC.new _ [.int .i64 q1, .int .i64 q2, .int .i64 q3, .int .i64 q4] _ _ (by simp)
  go_enter Try.func33, Try.ntmps33
  go_wp2_with (go_at_call 55; ((with_reducible refine (CK _).mono ?_); rintro e w1 ⟨rfl, hg⟩; have HX := Lib.hid (HX0.out.keep hg); have HY := Lib.hid (HY0.out.keep hg); have HG : Hid (Grew w w1) := grew_trans (grew_trans (grew_alloc _ _ _) (grew_alloc _ _ _)) hg; have x2 : w1.cell? ⟨w.heap.size, 2, none⟩ = some (.int .i64 q3) := HX.out.at 2 _ rfl; have x3 : w1.cell? ⟨w.heap.size, 3, none⟩ = some (.int .i64 q4) := HX.out.at 3 _ rfl; have y2 : w1.cell? ⟨w.heap.size + 1, 2, none⟩ = some (.int .i64 q3) := HY.out.at 2 _ rfl; have y3 : w1.cell? ⟨w.heap.size + 1, 3, none⟩ = some (.int .i64 q4) := HY.out.at 3 _ rfl; clear hg HX0 HY0))
  go_ret
  exact ⟨rfl, HG.out⟩
set_option maxRecDepth 100000 in
set_option maxHeartbeats 1000000 in
theorem keepPoss_yes (A B : Option Addr) (n c d : Nat) (l : List Po) (w : World) (h : RowE enPo w A n l) (h2 : RowE enPo w B n l) (hn : n ≤ 1000000) :
    Calls Try.prog 15 #[.slice A n c, .slice B n d] w fun e w' => e = .returned (.bool true) ∧ Grew w w' := by
  have HI := Lib.hid h
  have HJ := Lib.hid h2
  clear h h2
  go_enter Try.func15, Try.ntmps15
  go_wp2
  go_loopw [5] (fun v wr => ∃ j : Nat, v = .int .i64 j ∧ j ≤ n ∧ Hid (Grew w wr)) (fun v _ => n - (intOf v).toNat)
  case atStart => exact ⟨0, rfl, by omega, grew_refl _⟩
  case round =>
    obtain ⟨j, rfl, hj, HG⟩ := hrel
    by_cases hlt : j < n
    · obtain ⟨b, o, rfl, hb, hc⟩ := (HI.out.keep HG.out).po hlt
      obtain ⟨b2, o2, rfl, hb2, hc2⟩ := (HJ.out.keep HG.out).po hlt
      obtain ⟨a0, a1, a2, a3⟩ := hc j hlt
      obtain ⟨e0, e1, e2, e3⟩ := hc2 j hlt
      clear hc hc2
      have i0 : (0 : Int) ≤ (j : Int) := by omega
      have i1 : (j : Int) < (n : Int) := by omega
      have CK := fun w => keepPos_yes (l.getD j po0) w
      generalize l.getD j po0 = x at *
      obtain ⟨q1, q2, q3, q4⟩ := x
      dsimp only at a0 a1 a2 a3  e0 e1 e2 e3 
      dsimp only [vPo] at CK
      have x0 : ∀ p : GrewTo wr, p.to.cell? ⟨b, o + j * 4, none⟩ = _ := fun p => (grew_cell p.h (p := ⟨b, _, none⟩) hb).trans a0; have x1 : ∀ p : GrewTo wr, p.to.cell? ⟨b, o + j * 4 + 1, none⟩ = _ := fun p => (grew_cell p.h (p := ⟨b, _, none⟩) hb).trans a1; have x2 : ∀ p : GrewTo wr, p.to.cell? ⟨b, o + j * 4 + 2, none⟩ = _ := fun p => (grew_cell p.h (p := ⟨b, _, none⟩) hb).trans a2; have x3 : ∀ p : GrewTo wr, p.to.cell? ⟨b, o + j * 4 + 3, none⟩ = _ := fun p => (grew_cell p.h (p := ⟨b, _, none⟩) hb).trans a3
      have y0 : ∀ p : GrewTo wr, p.to.cell? ⟨b2, o2 + j * 4, none⟩ = _ := fun p => (grew_cell p.h (p := ⟨b2, _, none⟩) hb2).trans e0; have y1 : ∀ p : GrewTo wr, p.to.cell? ⟨b2, o2 + j * 4 + 1, none⟩ = _ := fun p => (grew_cell p.h (p := ⟨b2, _, none⟩) hb2).trans e1; have y2 : ∀ p : GrewTo wr, p.to.cell? ⟨b2, o2 + j * 4 + 2, none⟩ = _ := fun p => (grew_cell p.h (p := ⟨b2, _, none⟩) hb2).trans e2; have y3 : ∀ p : GrewTo wr, p.to.cell? ⟨b2, o2 + j * 4 + 3, none⟩ = _ := fun p => (grew_cell p.h (p := ⟨b2, _, none⟩) hb2).trans e3
      clear a0 a1 a2 a3  e0 e1 e2 e3  hb hb2
      go_wp2_with fail
      refine wp_region_grew (by kernel_rfl) (by kernel_rfl) ?_
      repeat (go_big_quiet_step (with_reducible exact calls_grew (CK _)))
      refine wpQuiet_nil ?_
      intro w5 hw'
      have HG5 := Lib.hid (grew_of hw')
      clear hw' x0 x1 x2 x3  y0 y1 y2 y3 
      go_wp2
      go_roundw
      case rel => exact ⟨j + 1, by go_num, by omega, grew_trans HG.out HG5.out⟩
      case measure => simp only [intOf]; omega
    · obtain rfl : j = n := by omega
      go_wp2
      go_ret
      exact ⟨rfl, HG.out⟩

/-- Positions written over: only their own block is turned. -/
theorem spoilPoss_any (A : Option Addr) (n c base : Nat) (w : World) (hA : n = 0 ∨ ∃ g, A = some ⟨g, 0, none⟩ ∧ base ≤ g ∧ Slab w g (n * 4)) (hn : n ≤ 1000000) :
    Calls Try.prog 17 #[.slice A n c] w fun e w' => e = .returned (.tuple #[]) ∧ Below base w w' ∧ ∀ k, A.map (·.block) ≠ some k → w'.heap[k]? = w.heap[k]? := by
  have HA := Lib.hid hA
  clear hA
  go_enter Try.func17, Try.ntmps17
  go_wp2
  go_loopw [2] (fun vi wr => ∃ k : Nat, vi = .int .i64 k ∧ k ≤ n ∧ Hid (∀ g, A = some ⟨g, 0, none⟩ → 0 < n → Slab wr g (n * 4)) ∧ Hid (Below base w wr ∧ ∀ k, A.map (·.block) ≠ some k → wr.heap[k]? = w.heap[k]?)) (fun vi _ => n - (intOf vi).toNat)
  case atStart =>
    refine ⟨0, rfl, Nat.zero_le _, fun g hg h0 => ?_, Below.refl _ _, fun _ _ => rfl⟩
    rcases HA.out with h | ⟨g', e, _, hs⟩
    · omega
    · rw [hg] at e; cases e; exact hs
  case round =>
    obtain ⟨k, rfl, hk, HS, HB⟩ := hrel
    by_cases hlt : k < n
    · obtain ⟨g, rfl, hb, _⟩ : ∃ g, A = some ⟨g, 0, none⟩ ∧ base ≤ g ∧ Slab w g (n * 4) := by
        rcases HA.out with h | h
        · omega
        · exact h
      have HS2 := Lib.hid (HS.out g rfl (by omega))
      obtain ⟨⟨x, a1⟩, a2⟩ := HS2.out.2 (k * 4) (by omega)
      have a3 : (k : Int) < (n : Int) := by omega
      have HB2 : Hid (Below base w (wr.setCell ⟨g, k * 4, none⟩ (.int .i64 (-77))) ∧ ∀ i, (some (⟨g, 0, none⟩ : Addr)).map (·.block) ≠ some i → (wr.setCell ⟨g, k * 4, none⟩ (.int .i64 (-77))).heap[i]? = w.heap[i]?) :=
        ⟨Below.setCell HB.out.1 hb _, fun i hi => (Below.heap_setCell _ _ _ _ (by intro e; apply hi; rw [e]; rfl)).trans (HB.out.2 i hi)⟩
      have HS3 := Lib.hid (HS2.out.set g (k * 4) (.int .i64 (-77)))
      go_wp2
      go_roundw
      case rel => exact ⟨k + 1, by go_num, by omega, fun g' hg' _ => by cases hg'; exact HS3.out, HB2⟩
      case measure => simp only [intOf]; omega
    · go_wp2
      go_end0
      exact ⟨rfl, HB.out⟩

theorem legs12_two {w w' : World} {e : Ending} (h : LegsPost ((0, 1, 2, 3, 5, 10), false) false w e w') :
    ∃ g c, e = .returned (.slice (some ⟨g, 0, none⟩) 2 c) ∧ w'.cell? ⟨g, 3, none⟩ = some (.int .i64 50) ∧ w'.cell? ⟨g, 6, none⟩ = some (.int .i64 (-5)) ∧ Grew w w' := by
  obtain ⟨A, c, rfl, ho, hg⟩ := h
  have hL : legsT ((0, 1, 2, 3, 5, 10), false) false = [(1, 3, 5, 50), (2, 3, -5, -50)] := by rfl
  rw [hL] at ho ⊢
  obtain ⟨g, rfl, -, hlt, -, hc⟩ := ho.at0 (by simp)
  exact ⟨g, c, rfl, hc 0 (by simp) 3 (by decide), hc 1 (by simp) 2 (by decide), hg⟩
theorem wakes12_any (w : World) : Calls Try.prog 18 #[] w fun e w' => e = .returned (.bool true) ∧ Grew w w' := by
  have CL := fun w => legs12_any ((0, 1, 2, 3, 5, 10), false) w
  dsimp only [vTr] at CL
  go_enter Try.func18, Try.ntmps18
  go_wp2_with (go_at_call 13; ((with_reducible refine (CL _).mono ?_); intro e w1 h1; obtain ⟨g, c, rfl, x1, x2, hg⟩ := legs12_two h1; have HG := Lib.hid hg; clear hg h1))
  go_ret
  exact ⟨rfl, HG.out⟩
end Go.Proofs.Ytgblhliinjgofaa.NumK
